/- Numbers as bits: plain arithmetic; no program is spoken of. -/
import Derived.Laws.Bits64b
import Derived.Laws.ShiftsVarLaws
import Derived.Laws.BitsLemmas
import Derived.Laws.DeepNot64
import Derived.IntWalk
import Derived.Deep.QuietTactic
import Derived.BigQuiet
import Derived.Maps.Keyed
import Derived.Maps.RangeRun
import Derived.WideKeyEntry
import Derived.Test.YtcnbmeiielkigaaGreatDoorMZ00
namespace Go.Proofs.YtcnbmeiielkigaaGreatDoor
open Go.RowKit

def U64 (u : Nat) : Prop := u < 18446744073709551616
end Go.Proofs.YtcnbmeiielkigaaGreatDoor
/- Contract of Bring: a number, brought to be from 0 to below n. -/
namespace Go.Proofs.YtcnbmeiielkigaaGreatDoor
open Go.RowKit
set_option linter.unusedVariables false
theorem tmod_neg (i n : Int) (hn : 0 < n) (h : i.tmod n < 0) : i.tmod n + n = i % n := by
 have h1 := Int.tmod_add_mul_tdiv i n
 have h2 := Int.tmod_lt_of_pos i hn
 have h3 := Int.lt_tmod_of_pos i hn
 have h4 := Int.emod_add_mul_ediv i n
 have h5 := Int.emod_nonneg i (show n ≠ 0 by omega)
 have h6 := Int.emod_lt_of_pos i hn
 have e : i.tmod n + n - i % n = n * (i / n - i.tdiv n + 1) := by rw [Int.mul_add, Int.mul_sub]; omega
 have hz : i / n - i.tdiv n + 1 = 0 := by
  have a1 : n * (i / n - i.tdiv n + 1) < n * 1 := by omega
  have a2 : n * (-1) < n * (i / n - i.tdiv n + 1) := by omega
  have := Int.lt_of_mul_lt_mul_left a1 (by omega)
  have := Int.lt_of_mul_lt_mul_left a2 (by omega)
  omega
 rw [hz, Int.mul_zero] at e; omega
theorem tmod_pos (i n : Int) (hn : 0 < n) (h : ¬ i.tmod n < 0) : i.tmod n = i % n := by
 have h1 := Int.tmod_add_mul_tdiv i n
 have h2 := Int.tmod_lt_of_pos i hn
 have h4 := Int.emod_add_mul_ediv i n
 have h5 := Int.emod_nonneg i (show n ≠ 0 by omega)
 have h6 := Int.emod_lt_of_pos i hn
 have e : i.tmod n - i % n = n * (i / n - i.tdiv n) := by rw [Int.mul_sub]; omega
 have hz : i / n - i.tdiv n = 0 := by
  have a1 : n * (i / n - i.tdiv n) < n * 1 := by omega
  have a2 : n * (-1) < n * (i / n - i.tdiv n) := by omega
  have := Int.lt_of_mul_lt_mul_left a1 (by omega)
  have := Int.lt_of_mul_lt_mul_left a2 (by omega)
  omega
 rw [hz, Int.mul_zero] at e; omega
def Sm (n : Int) : Prop := 0 < n ∧ n ≤ 4611686018427387904
theorem bring_any (i n : Int) (w : World) (hn : Sm n) :
  Calls Tryz.prog 23 #[.int .i64 i, .int .i64 n] w fun e w' => e = .returned (.int .i64 (i % n)) ∧ w = w' := by
 have h0 : ¬ n = 0 := by unfold Sm at hn; omega
 have hlt : i.tmod n < n ∧ -n < i.tmod n := ⟨Int.tmod_lt_of_pos i hn.1, Int.lt_tmod_of_pos i hn.1⟩
 have hw : wrap64 (i.tmod n) = i.tmod n := by unfold Sm at hn; unfold wrap64; omega
 have hw2 : i.tmod n < 0 → wrap64 (i.tmod n + n) = i.tmod n + n := by unfold Sm at hn; intro h; unfold wrap64; omega
 by_cases hneg : i.tmod n < 0
 ·have hr := tmod_neg i n hn.1 hneg
  have H := Lib.hid (show wrap64 (i.tmod n + n) = i % n by rw [hw2 hneg, hr])
  clear hr hw2 hn hlt hw
  go_enter Tryz.func23, Tryz.ntmps23
  go_wp2
  go_ret
  exact ⟨by rw [← H.out]; rfl, rfl⟩
 ·have H := Lib.hid (tmod_pos i n hn.1 hneg)
  clear hw2 hn hlt hw
  go_enter Tryz.func23, Tryz.ntmps23
  go_wp2
  go_ret
  exact ⟨by rw [← H.out]; rfl, rfl⟩
end Go.Proofs.YtcnbmeiielkigaaGreatDoor
/- Package item: numbers, names, kinds. -/
namespace Go.Proofs.YtcnbmeiielkigaaGreatDoor
open Go.RowKit
set_option linter.unusedVariables false
set_option linter.unusedSimpArgs false
def qtyB (n : Int) : Bool := decide (1 ≤ n) && decide (n ≤ 2147483647)
def chgB (n : Int) : Bool := decide (n ≠ 0) && decide (-2147483647 ≤ n) && decide (n ≤ 2147483647)
theorem isQty_any (n : Int) (w : World) : Calls Tryz.prog 99 #[.int .i64 n] w fun e w' => e = .returned (.bool (qtyB n)) ∧ w = w' := by
 by_cases h1 : 1 ≤ n
 ·by_cases h2 : n ≤ 2147483647
  ·have hq : qtyB n = true := by simp [qtyB, h1, h2]
   rw [hq]
   go_enter Tryz.func99, Tryz.ntmps99
   go_wp2
   go_ret
   exact ⟨rfl, rfl⟩
  ·have hq : qtyB n = false := by simp [qtyB, h2]
   rw [hq]
   go_enter Tryz.func99, Tryz.ntmps99
   go_wp2
   go_ret
   exact ⟨rfl, rfl⟩
 ·have hq : qtyB n = false := by simp [qtyB, h1]
  rw [hq]
  go_enter Tryz.func99, Tryz.ntmps99
  go_wp2
  go_ret
  exact ⟨rfl, rfl⟩
theorem isChange_any (n : Int) (w : World) : Calls Tryz.prog 107 #[.int .i64 n] w fun e w' => e = .returned (.bool (chgB n)) ∧ w = w' := by
 by_cases h0 : n = 0
 ·subst h0
  have hq : chgB 0 = false := rfl
  rw [hq]
  go_enter Tryz.func107, Tryz.ntmps107
  go_wp2
  go_ret
  exact ⟨rfl, rfl⟩
 ·have hn : (n != 0) = true := by rw [bne_iff_ne]; exact h0
  by_cases h1 : -2147483647 ≤ n
  ·by_cases h2 : n ≤ 2147483647
   ·have hq : chgB n = true := by simp [chgB, h0, h1, h2]
    rw [hq]
    clear h0
    go_enter Tryz.func107, Tryz.ntmps107
    go_wp2
    go_ret
    exact ⟨rfl, rfl⟩
   ·have hq : chgB n = false := by simp [chgB, h2]
    rw [hq]
    clear h0
    go_enter Tryz.func107, Tryz.ntmps107
    go_wp2
    go_ret
    exact ⟨rfl, rfl⟩
  ·have hq : chgB n = false := by simp [chgB, h1]
   rw [hq]
   clear h0
   go_enter Tryz.func107, Tryz.ntmps107
   go_wp2
   go_ret
   exact ⟨rfl, rfl⟩
/-- Letters and digits. -/
def goodC (c : UInt8) : Bool := (decide (97 ≤ c.toNat) && decide (c.toNat ≤ 122)) || (decide (48 ≤ c.toNat) && decide (c.toNat ≤ 57))
def nameB (s : ByteArray) : Bool := decide (1 ≤ s.size) && decide (s.size ≤ 8) && s.data.toList.all goodC
theorem take_snoc (s : ByteArray) (k : Nat) (h : k < s.size) : s.data.toList.take (k + 1) = s.data.toList.take k ++ [s[k]] := by
 rw [List.take_succ_eq_append_getElem (by simpa using h)]; rfl
theorem goodC_bad {c : UInt8} (h : goodC c = false) : ((c.toNat : Int) < 97 ∨ 122 < (c.toNat : Int)) ∧ ((c.toNat : Int) < 48 ∨ 57 < (c.toNat : Int)) := by
 simp [goodC] at h
 omega
theorem goodC_ok {c : UInt8} (h : goodC c = true) : (97 ≤ (c.toNat : Int) ∧ (c.toNat : Int) ≤ 122) ∨ (48 ≤ (c.toNat : Int) ∧ (c.toNat : Int) ≤ 57) := by
 simp [goodC] at h
 omega
set_option maxHeartbeats 1000000 in
theorem name_any (s : ByteArray) (w : World) (hs : s.size ≤ maxLen) : Calls Tryz.prog 98 #[.string s] w fun e w' => e = .returned (.bool (nameB s)) ∧ w = w' := by
 unfold maxLen at hs
 by_cases h1 : 1 ≤ s.size
 ·by_cases h2 : s.size ≤ 8
  ·obtain ⟨r, hr⟩ : ∃ r, r = nameB s := ⟨_, rfl⟩
   rw [← hr]
   have HR : Hid (r = s.data.toList.all goodC) := Lib.hid (by rw [hr]; simp [nameB, h1, h2])
   clear hr
   have d1 : ¬ (s.size : Int) < 1 := by omega
   have d2 : ¬ (8 : Int) < (s.size : Int) := by omega
   go_enter Tryz.func98, Tryz.ntmps98
   go_wp2
   go_loop [15] (fun i => ∃ k : Nat, k ≤ s.size ∧ i = .int .i64 k ∧ (s.data.toList.take k).all goodC = true) (fun i => s.size - (intOf i).toNat)
   case atStart => exact ⟨0, Nat.zero_le _, rfl, by simp⟩
   case round =>
    obtain ⟨k, hk, rfl, ht⟩ := hrel
    have k0 : (0 : Int) ≤ (k : Int) := by omega
    by_cases hlt : k < s.size
    ·have hd : decide (k < s.size) = true := decide_eq_true hlt
     have hts := take_snoc s k hlt
     have hb8 : s[k].toNat < 256 := s[k].toNat_lt
     cases hg : goodC s[k] with
     | true =>
      have HT : Hid ((s.data.toList.take (k + 1)).all goodC = true) := Lib.hid (by rw [hts, List.all_append, ht]; simp [hg])
      have hok := goodC_ok hg
      clear hg hts ht
      rcases hok with ⟨a1, a2⟩ | ⟨a1, a2⟩
      ·have a3 : ¬ (s[k].toNat : Int) < 97 := by omega
       have a4 : ¬ (122 : Int) < (s[k].toNat : Int) := by omega
       go_wp2
       go_round
       case rel => exact ⟨k + 1, hlt, by go_num, HT.out⟩
       case measure => simp [intOf]; omega
      ·have a3 : (s[k].toNat : Int) < 97 := by omega
       have a4 : ¬ (s[k].toNat : Int) < 48 := by omega
       have a5 : ¬ (57 : Int) < (s[k].toNat : Int) := by omega
       go_wp2
       go_round
       case rel => exact ⟨k + 1, hlt, by go_num, HT.out⟩
       case measure => simp [intOf]; omega
     | false =>
      have HF : Hid (r = false) := Lib.hid (by
       rw [HR.out]
       rw [List.all_eq_false]
       exact ⟨s[k], by
        have : s[k] ∈ s.data.toList := by simp [ByteArray.getElem_eq_getElem_data]
        exact this, by rw [hg]; simp⟩)
      have hbad := goodC_bad hg
      clear hg hts ht HR
      obtain ⟨b1, b2⟩ := hbad
      rcases b1 with b1 | b1 <;> rcases b2 with b2 | b2
      all_goals first | (exfalso; omega) | skip
      all_goals
       go_wp2
       go_ret
       first | exact ⟨congrArg (fun z => Ending.returned (.bool z)) HF.out.symm, rfl⟩ | (rw [HF.out]; exact ⟨rfl, rfl⟩)
    ·have hd : decide (k < s.size) = false := decide_eq_false hlt
     have HF : Hid (r = true) := Lib.hid (by rw [HR.out, ← ht, List.take_of_length_le (by simp; omega)])
     clear ht HR
     go_wp2
     go_ret
     rw [HF.out]
     exact ⟨rfl, rfl⟩
  ·have hq : nameB s = false := by simp [nameB, h2]
   rw [hq]
   have d1 : ¬ (s.size : Int) < 1 := by omega
   have d2 : (8 : Int) < (s.size : Int) := by omega
   go_enter Tryz.func98, Tryz.ntmps98
   go_wp2
   go_ret
   exact ⟨rfl, rfl⟩
 ·have hq : nameB s = false := by simp [nameB, h1]
  rw [hq]
  have d1 : (s.size : Int) < 1 := by omega
  go_enter Tryz.func98, Tryz.ntmps98
  go_wp2
  go_ret
  exact ⟨rfl, rfl⟩
end Go.Proofs.YtcnbmeiielkigaaGreatDoor
/- A map of the call's own, as a list of keys and elements, whatever the key's type. -/
namespace Go.Proofs.YtcnbmeiielkigaaGreatDoor
open Go.RowKit Go.ChangeMaps Go.ChangeShapes
open Go.Maps (Keyed)
set_option linter.unusedVariables false
set_option linter.unusedSectionVars false
variable {α β : Type} [DecidableEq α]
/-- Keys of the type k, as values of α. -/
structure KeyOk (P : Program) (k : TypeId) (kv : α → Value) : Prop where
 law : Keyed P k
 key : ∀ a, ∃ l, keyOf P k (kv a) = some l
 inj : ∀ a b, kv a = kv b → a = b
theorem nodup_at {γ : Type} {l : List γ} (h : l.Nodup) {i j : Nat} {x : γ} (h1 : l[i]? = some x) (h2 : l[j]? = some x) : i = j :=
 (List.getElem?_inj (List.getElem?_eq_some_iff.1 h1).1 h).1 (h1.trans h2.symm)
def mget (S : List (α × β)) (a : α) : Option β := (S.find? fun p => decide (p.1 = a)).map (·.2)
/-- a's element is there: if it wasn't, it is z. -/
def mens (S : List (α × β)) (a : α) (z : β) : List (α × β) := if (mget S a).isSome then S else S ++ [(a, z)]
def mset (S : List (α × β)) (a : α) (y : β) : List (α × β) := S.map fun p => if p.1 = a then (a, y) else p
theorem mget_mem {S : List (α × β)} (hn : (S.map (·.1)).Nodup) {p : α × β} (h : p ∈ S) : mget S p.1 = some p.2 := by
 induction S with
 | nil => cases h
 | cons q S ih =>
  simp only [List.map_cons, List.nodup_cons] at hn
  unfold mget
  rw [List.find?_cons]
  by_cases hq : q.1 = p.1
  ·simp only [hq, decide_true, Option.map_some]
   rcases List.mem_cons.1 h with rfl | h1
   ·rfl
   ·exact absurd (List.mem_map.2 ⟨p, h1, hq.symm⟩) hn.1
  ·rw [show decide (q.1 = p.1) = false from decide_eq_false hq]
   rcases List.mem_cons.1 h with rfl | h1
   ·exact absurd rfl hq
   ·exact ih hn.2 h1
theorem mget_none {S : List (α × β)} {a : α} (h : ∀ p ∈ S, p.1 ≠ a) : mget S a = none := by
 unfold mget
 rw [List.find?_eq_none.2 fun p hp => by simpa using h p hp]
 rfl
theorem mset_keys (S : List (α × β)) (a : α) (y : β) : (mset S a y).map (·.1) = S.map (·.1) := by
 unfold mset
 rw [List.map_map]
 apply List.map_congr_left
 intro p _
 simp only [Function.comp]
 split
 ·rename_i h; exact h.symm
 ·rfl
theorem mens_nodup {S : List (α × β)} (hn : (S.map (·.1)).Nodup) (a : α) (z : β) : ((mens S a z).map (·.1)).Nodup := by
 unfold mens
 split
 ·exact hn
 ·rename_i h
  rw [List.map_append]
  refine List.nodup_append.2 ⟨hn, by simp, fun x hx y hy => ?_⟩
  simp only [List.map_cons, List.map_nil, List.mem_singleton] at hy
  subst hy
  rintro rfl
  obtain ⟨p, hp, rfl⟩ := List.mem_map.1 hx
  rw [mget_mem hn hp] at h
  simp at h
/-- A map's entries are these. -/
structure IsM (kv : α → Value) (vv : β → Value) (S : List (α × β)) (es : Array MapEntry) (clock : Nat) : Prop where
 maps : es.toList.map (fun e => (e.key, e.val)) = S.map (fun p => (kv p.1, vv p.2))
 below : ∀ x ∈ es.toList, x.born < clock
 apart : (es.toList.map (·.born)).Nodup
 keys : (S.map (·.1)).Nodup
section
variable {P : Program} {k t e : TypeId} {kv : α → Value} {vv : β → Value} {S : List (α × β)} {es : Array MapEntry} {clock : Nat}
theorem IsM.at (M : IsM kv vv S es clock) {j : Nat} {x : MapEntry} (h : es.toList[j]? = some x) : ∃ p, S[j]? = some p ∧ x.key = kv p.1 ∧ x.val = vv p.2 := by
 have h1 : (es.toList.map (fun e => (e.key, e.val)))[j]? = some (x.key, x.val) := by rw [List.getElem?_map, h]; rfl
 rw [M.maps, List.getElem?_map, Option.map_eq_some_iff] at h1
 obtain ⟨p, hp, he⟩ := h1
 simp only [Prod.mk.injEq] at he
 exact ⟨p, hp, he.1.symm, he.2.symm⟩
theorem IsM.back (M : IsM kv vv S es clock) {j : Nat} {p : α × β} (h : S[j]? = some p) : ∃ x, es.toList[j]? = some x ∧ x.key = kv p.1 ∧ x.val = vv p.2 := by
 have h1 : (S.map (fun p => (kv p.1, vv p.2)))[j]? = some (kv p.1, vv p.2) := by rw [List.getElem?_map, h]; rfl
 rw [← M.maps, List.getElem?_map, Option.map_eq_some_iff] at h1
 obtain ⟨x, hx, he⟩ := h1
 simp only [Prod.mk.injEq] at he
 exact ⟨x, hx, he.1, he.2⟩
theorem IsM.len (M : IsM kv vv S es clock) : es.toList.length = S.length := by
 have := congrArg List.length M.maps
 simpa using this
theorem IsM.keyed (K : KeyOk P k kv) (M : IsM kv vv S es clock) : ∀ x ∈ es.toList, ∃ l, keyOf P k x.key = some l := by
 intro x hx
 obtain ⟨j, hj⟩ := List.mem_iff_getElem?.1 hx
 obtain ⟨p, _, hp, _⟩ := M.at hj
 rw [hp]
 exact K.key _
theorem IsM.find (K : KeyOk P k kv) (M : IsM kv vv S es clock) (a : α) (w : World) :
  ((Instr.findKey k (kv a) es.toList).run P w = .ok none w ∧ mget S a = none) ∨
  ∃ j x y, (Instr.findKey k (kv a) es.toList).run P w = .ok (some (j, x.val)) w ∧ es.toList[j]? = some x ∧ x.key = kv a ∧ S[j]? = some (a, y) ∧ mget S a = some y ∧ x.val = vv y := by
 obtain ⟨l, hl⟩ := K.key a
 rcases K.law.find w hl es.toList (M.keyed K) with ⟨h1, h2⟩ | ⟨j, x, h1, h2, h3⟩
 ·refine .inl ⟨h1, mget_none fun p hp he => ?_⟩
  obtain ⟨j, hj⟩ := List.mem_iff_getElem?.1 hp
  obtain ⟨x, hx, hk, _⟩ := M.back hj
  exact h2 x (List.mem_of_getElem? hx) (by rw [hk, he])
 ·obtain ⟨p, hp, hk, hv⟩ := M.at h2
  have ha : p.1 = a := K.inj _ _ (hk ▸ h3)
  refine .inr ⟨j, x, p.2, h1, h2, h3, by rw [hp, ← ha], ?_, hv⟩
  rw [← ha]
  exact mget_mem M.keys (List.mem_of_getElem? hp)
/-- Block b is a map with these entries. -/
def MapT (kv : α → Value) (vv : β → Value) (b : Nat) (S : List (α × β)) : Thing := fun w F => (∃ es clock, w.heap[b]? = some (.map es clock) ∧ IsM kv vv S es clock) ∧ ∀ k, F k ↔ k = b
/-- .. and the entry of a bears the stamp st. -/
def MapE (kv : α → Value) (vv : β → Value) (b : Nat) (S : List (α × β)) (a : α) (st : Nat) : Thing := fun w F =>
 (∃ es clock, w.heap[b]? = some (.map es clock) ∧ IsM kv vv S es clock ∧ ∃ (j : Nat) (x : MapEntry) (y : β), es.toList[j]? = some x ∧ S[j]? = some (a, y) ∧ x.born = st) ∧ ∀ k, F k ↔ k = b
theorem loc_map (b : Nat) (S : List (α × β)) : Loc (MapT kv vv b S) := fun w w' F ⟨⟨es, c, h, M⟩, hf⟩ _ hk => ⟨⟨es, c, (hk b ((hf b).2 rfl)).trans h, M⟩, hf⟩
theorem loc_mapE (b : Nat) (S : List (α × β)) (a : α) (st : Nat) : Loc (MapE kv vv b S a st) := fun w w' F ⟨⟨es, c, h, M⟩, hf⟩ _ hk => ⟨⟨es, c, (hk b ((hf b).2 rfl)).trans h, M⟩, hf⟩
variable {w0 w : World} {b : Nat} {L : List Thing} {st r : Nat} {done : List α} {last : Option (α × β)}
theorem Sep.newMap (h : Sep w0 L w) : Sep w0 (MapT kv vv w.heap.size [] :: L) (w.alloc (.map #[] 0)) :=
 (h.alloc (.map #[] 0)).imp (loc_map _ _) fun F ⟨h1, h2⟩ => ⟨⟨#[], 0, h1, ⟨rfl, fun x hx => by simp at hx, by simp, by simp⟩⟩, h2⟩
theorem map_look (K : KeyOk P k kv) (ht : P.underlying t = some (.map k e)) {z : Value} (hz : (zeroValue e).run P w = .ok z w) (h : Sep w0 (MapT kv vv b S :: L) w) (a : α) (c : Bool) :
  (Instr.lookup t (.map (some b)) (kv a) c).run P w = .ok (if c then .tuple #[((mget S a).map vv).getD z, .bool (mget S a).isSome] else ((mget S a).map vv).getD z) w := by
 obtain ⟨F, ⟨⟨es, clock, hb, M⟩, _⟩, _⟩ := h.head
 obtain ⟨l, hl⟩ := K.key a
 rcases M.find K a w with ⟨h1, h2⟩ | ⟨j, x, y, h1, h2, h3, h4, h5, h6⟩
 ·rw [h2]
  simp [Instr.lookup, run_underlying ht, MapKept.run_getObj_map hb, K.law.check w _ hl, h1, hz, Result.andThen]
 ·rw [h5]
  simp [Instr.lookup, run_underlying ht, MapKept.run_getObj_map hb, K.law.check w _ hl, h1, h6, Result.andThen]
theorem chg_block {F : Nat → Prop} {w : World} {g : Nat} (hg : F g) (o : Obj) : Chg F w (setBlock w g o) :=
 ⟨rfl, rfl, rfl, by simp [setBlock], fun k hk hn => by
  simp only [setBlock]
  rw [Array.getElem?_setIfInBounds_ne]
  intro e; apply hn; rw [← e]; exact hg⟩
theorem setBlock_at {w : World} {g : Nat} {o' : Obj} (h : w.heap[g]? = some o') (o : Obj) : (setBlock w g o).heap[g]? = some o := by
 have := (Array.getElem?_eq_some_iff.1 h).1
 simp [setBlock, this]
/-- .. its second half: the element is stored. -/
theorem map_store {a : α} (h : Sep w0 (MapE kv vv b S a st :: L) w) (y : β) :
  ∃ w', (Instr.entryStore t (.map (some b)) (goInt (st : Nat)) (vv y)).run P w = .ok () w' ∧ Sep w0 (MapT kv vv b (mset S a y) :: L) w' := by
 have hh := h.head
 obtain ⟨F, ⟨⟨es, clock, hb, M, j, x, y0, hx, hS, rfl⟩, hF⟩, _⟩ := hh
 have hidx : es.findIdx? (fun e => ((e.born : Nat) : Int) == ((x.born : Nat) : Int)) = some j := by
  rw [WideElems.findIdx_arr]
  exact WideElems.findIdx_born M.apart hx
 have hl : (es.modify j (fun e => { e with val := vv y })).toList = es.toList.set j { x with val := vv y } := by
  rw [Array.toList_modify, modify_eq_set _ _ _ _ hx]
 have hset : mset S a y = S.set j (a, y) := by
  apply List.ext_getElem?
  intro i
  unfold mset
  rw [List.getElem?_map, List.getElem?_set]
  by_cases hi : j = i
  ·subst hi
   rw [if_pos rfl, hS]
   have hlt := (List.getElem?_eq_some_iff.1 hS).1
   simp [hlt]
  ·rw [if_neg hi]
   cases hp : S[i]? with
   | none => rfl
   | some p =>
    simp only [Option.map_some]
    rw [if_neg]
    intro he
    have h1 : (S.map (·.1))[i]? = some a := by rw [List.getElem?_map, hp, ← he]; rfl
    have h2 : (S.map (·.1))[j]? = some a := by rw [List.getElem?_map, hS]; rfl
    exact hi (nodup_at M.keys h2 h1)
 refine ⟨setBlock w b (.map (es.modify j fun e => { e with val := vv y }) clock), ?_, ?_⟩
 ·simp [Instr.entryStore, MapKept.run_getObj_map hb, asInt, asIntOf, goInt, hidx, MapKept.run_setObj_map _ hb, Result.andThen, setBlock]
 ·refine h.change (loc_map _ _) fun F hFF hlt => ⟨F, ⟨⟨_, _, setBlock_at hb _, ⟨?_, ?_, ?_, ?_⟩⟩, hFF.2⟩, fun k hk => ⟨.inl hk, by have := hlt k hk; simpa [setBlock] using this⟩, chg_block ((hFF.2 b).2 rfl) _⟩
  ·rw [hl, List.map_set, M.maps, hset, List.map_set]
   obtain ⟨p, hp, hk, _⟩ := M.at hx
   rw [hS] at hp
   cases hp
   rw [hk]
  ·intro z hz
   rw [hl] at hz
   rcases List.mem_or_eq_of_mem_set hz with h1 | rfl
   ·exact M.below z h1
   ·exact M.below x (List.mem_of_getElem? hx)
  ·rw [hl, List.map_set]
   have : (es.toList.map (·.born)).set j x.born = es.toList.map (·.born) := by
    apply List.ext_getElem?
    intro i
    rw [List.getElem?_set]
    split
    ·rename_i hi; subst hi; simp [hx]; exact (List.getElem?_eq_some_iff.1 hx).1
    ·rfl
   show ((es.toList.map (·.born)).set j x.born).Nodup
   rw [this]; exact M.apart
  ·rw [mset_keys]; exact M.keys
/-- 'm[k] = v'. -/
theorem map_update (K : KeyOk P k kv) (ht : P.underlying t = some (.map k e)) (h : Sep w0 (MapT kv vv b S :: L) w) (a : α) (y : β) :
  ∃ w', (Instr.mapUpdate t (.map (some b)) (kv a) (vv y)).run P w = .ok () w' ∧ Sep w0 (MapT kv vv b (mset (mens S a y) a y) :: L) w' := by
 have hh := h.head
 obtain ⟨F, ⟨⟨es, clock, hb, M⟩, hF⟩, _⟩ := hh
 obtain ⟨l, hl⟩ := K.key a
 rcases M.find K a w with ⟨h1, h2⟩ | ⟨j, x, y0, h1, h2, h3, h4, h5, h6⟩
 ·have hm : mens S a y = S ++ [(a, y)] := by unfold mens; rw [h2]; rfl
  have hm2 : mset (S ++ [(a, y)]) a y = S ++ [(a, y)] := by
   unfold mset
   rw [List.map_append]
   congr 1
   ·conv => rhs; rw [← List.map_id S]
    apply List.map_congr_left
    intro p hp
    rw [if_neg]; rfl
    intro he
    rw [← he, mget_mem M.keys hp] at h2
    cases h2
   ·simp
  refine ⟨setBlock w b (.map (es.push { key := kv a, val := vv y, born := clock }) (clock + 1)), ?_, ?_⟩
  ·simp [Instr.mapUpdate, run_underlying ht, MapKept.run_getObj_map hb, K.law.check w _ hl, h1, Result.andThen, MapKept.run_setObj_map _ hb, setBlock]
  ·rw [hm, hm2]
   refine h.change (loc_map _ _) fun F hFF hlt => ⟨F, ⟨⟨_, _, setBlock_at hb _, ⟨?_, ?_, ?_, ?_⟩⟩, hFF.2⟩, fun k hk => ⟨.inl hk, by have := hlt k hk; simpa [setBlock] using this⟩, chg_block ((hFF.2 b).2 rfl) _⟩
   ·rw [Array.toList_push, List.map_append, M.maps, List.map_append]; rfl
   ·intro x hx
    rw [Array.toList_push, List.mem_append, List.mem_singleton] at hx
    rcases hx with hx | rfl
    ·have := M.below x hx; omega
    ·exact Nat.lt_succ_self _
   ·rw [Array.toList_push, List.map_append]
    refine List.nodup_append.2 ⟨M.apart, by simp, fun x hx y hy => ?_⟩
    simp only [List.map_cons, List.map_nil, List.mem_singleton] at hy
    obtain ⟨z, hz, rfl⟩ := List.mem_map.1 hx
    have := M.below z hz
    omega
   ·rw [← hm]; exact mens_nodup M.keys a y
 ·have hm : mens S a y = S := by unfold mens; rw [h5]; rfl
  have hj : es[j]? = some x := by simpa using h2
  have hhE : Sep w0 (MapE kv vv b S a x.born :: L) w := h.imp (loc_mapE _ _ _ _) fun F ⟨⟨es', c', hb', M'⟩, hf⟩ => by
   rw [hb] at hb'
   cases hb'
   exact ⟨⟨es, clock, hb, M, j, x, y0, h2, h4, rfl⟩, hf⟩
  obtain ⟨w', hrun, hs⟩ := map_store (P := P) (t := t) hhE y
  rw [hm]
  refine ⟨w', ?_, hs⟩
  rw [← hrun]
  have hidx : es.findIdx? (fun e => ((e.born : Nat) : Int) == ((x.born : Nat) : Int)) = some j := by
   rw [WideElems.findIdx_arr]
   exact WideElems.findIdx_born M.apart h2
  have hmod : es.modify j (fun e => { e with val := vv y }) = es.modify j (fun e' => { e' with key := kv a, val := vv y }) := by
   apply Array.ext'
   rw [Array.toList_modify, Array.toList_modify, modify_eq_set _ _ _ _ h2, modify_eq_set _ _ _ _ h2, ← h3]
  simp [Instr.mapUpdate, Instr.entryStore, run_underlying ht, MapKept.run_getObj_map hb, K.law.check w false hl, h1, hj, h3, K.law.stays w hl, asInt, asIntOf, goInt, hidx, hmod, MapKept.run_setObj_map _ hb, Result.andThen]
end
end Go.Proofs.YtcnbmeiielkigaaGreatDoor
