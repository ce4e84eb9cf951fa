/- Small words of our own over the library: slices that read as lists, and what becomes of them. No statement is proved here. -/
import Derived.Test.YtcnbmeiielkigaaGreatDoorChecked
import Derived.WalkKit
import Derived.ProofKit
import Derived.OpenShut
import Derived.Outline
import Derived.WalkSpells
import Derived.WalkLawsBesides
import Derived.Laws.BytesArg
import Derived.Laws.AppendOwnNone
import Derived.Laws.OwnMore
import Derived.Lib.Hide
import Derived.Maps.AppendAt
import Derived.Laws.CopyRow
import Derived.Laws.IdiomCopy
namespace Go.Proofs.YtcnbmeiielkigaaGreatDoor
open Go.RowKit

/-- Bytes as values. -/
def bv (l : List UInt8) : List Value := l.map fun c => Value.int .u8 c.toNat
theorem bv_length (l : List UInt8) : (bv l).length = l.length := by simp [bv]
theorem bv_append (a b : List UInt8) : bv (a ++ b) = bv a ++ bv b := by simp [bv]
theorem bv_get (l : List UInt8) (j : Nat) (h : j < l.length) : (bv l)[j]? = some (.int .u8 (l[j]).toNat) := by simp [bv, h]
theorem bv_nil_iff (l : List UInt8) : bv l = [] ↔ l = [] := by simp [bv]

/-- A slice value that reads as a list of one-cell values. -/
def SlS (w : World) (v : Value) (xs : List Value) : Prop :=
 (v = .slice none 0 0 ∧ xs = []) ∨ ∃ b off cap, v = .slice (some ⟨b, off, none⟩) xs.length cap ∧ xs.length ≤ cap ∧ cap ≤ maxLen ∧ b < w.heap.size ∧ ∀ j u, xs[j]? = some u → w.cell? ⟨b, off + j, none⟩ = some u

/-- The same, where an empty one that came in may have whatever address. -/
def Sl (w : World) (v : Value) (xs : List Value) : Prop := SlS w v xs ∨ ∃ x c, v = .slice (some x) 0 c ∧ xs = []

theorem SlS.sl {w : World} {v : Value} {xs : List Value} (h : SlS w v xs) : Sl w v xs := .inl h

/-- Its length as the walk reads it. -/
theorem Sl.len {w : World} {v : Value} {xs : List Value} (h : Sl w v xs) : ∃ a c, v = .slice a xs.length c := by
 rcases h with (⟨rfl, rfl⟩ | ⟨b, off, cap, rfl, _⟩) | ⟨x, c, rfl, rfl⟩
 ·exact ⟨none, 0, rfl⟩
 ·exact ⟨_, _, rfl⟩
 ·exact ⟨_, _, rfl⟩
theorem SlS.len {w : World} {v : Value} {xs : List Value} (h : SlS w v xs) : ∃ a c, v = .slice a xs.length c := h.sl.len

/-- It is read the same where its block is as it was. -/
theorem SlS.keep {w w' : World} {v : Value} {xs : List Value} (h : SlS w v xs) (hs : w.heap.size ≤ w'.heap.size) (hk : ∀ b, v.ownBlock = some b → b < w.heap.size → w'.heap[b]? = w.heap[b]?) : SlS w' v xs := by
 rcases h with h | ⟨b, off, cap, rfl, h1, h2, h3, hc⟩
 ·exact .inl h
 ·refine .inr ⟨b, off, cap, rfl, h1, h2, by omega, fun j u hj => ?_⟩
  rw [World.cell?_of_block (w := w) (hk b rfl h3)]
  exact hc j u hj
theorem Sl.keep {w w' : World} {v : Value} {xs : List Value} (h : Sl w v xs) (hs : w.heap.size ≤ w'.heap.size) (hk : ∀ b, v.ownBlock = some b → b < w.heap.size → w'.heap[b]? = w.heap[b]?) : Sl w' v xs := by
 rcases h with h | h
 ·exact .inl (h.keep hs hk)
 ·exact .inr h

theorem SlS.below {w w' : World} {v : Value} {xs : List Value} (h : SlS w v xs) (hb : Below w.heap.size w w') : SlS w' v xs :=
 h.keep hb.size fun b _ hlt => hb.block b hlt
theorem Sl.below {w w' : World} {v : Value} {xs : List Value} (h : Sl w v xs) (hb : Below w.heap.size w w') : Sl w' v xs :=
 h.keep hb.size fun b _ hlt => hb.block b hlt
/-- A slice of the call's own, from block 'base' on. -/
abbrev Own (w : World) (base : Nat) (e : TypeId) (v : Value) (xs : List Value) : Prop := w.ownsRow base e 1 v xs.length xs

theorem Own.sls {w : World} {base : Nat} {e : TypeId} {v : Value} {xs : List Value} (h : Own w base e v xs) : SlS w v xs := by
 rcases h.2 with ⟨rfl, hn⟩ | ⟨g, cap, cur, rfl, hb, hg, hnc, hcm, hcs, ht⟩
 ·exact .inl ⟨rfl, List.eq_nil_of_length_eq_zero hn⟩
 ·refine .inr ⟨g, 0, cap, rfl, hnc, hcm, (Array.getElem?_eq_some_iff.1 hg).1, fun j u hj => ?_⟩
  have hadd : (⟨g, 0, none⟩ : Addr).add j = ⟨g, 0 + j, none⟩ := by unfold Addr.add; split <;> simp_all
  rw [← hadd]
  exact h.cells (g := g) rfl j u hj

theorem Own.sl {w : World} {base : Nat} {e : TypeId} {v : Value} {xs : List Value} (h : Own w base e v xs) : Sl w v xs := h.sls.sl
theorem Own.base {w : World} {base base' : Nat} {e : TypeId} {v : Value} {xs : List Value} (h : Own w base e v xs) (hb : base' ≤ base) : Own w base' e v xs := by
 refine ⟨h.1, ?_⟩
 rcases h.2 with h2 | ⟨g, cap, cur, hv, hg, r⟩
 ·exact .inl h2
 ·exact .inr ⟨g, cap, cur, hv, by omega, r⟩

theorem Own.keep {w w' : World} {base : Nat} {e : TypeId} {v : Value} {xs : List Value} (h : Own w base e v xs) (hk : ∀ b, v.ownBlock = some b → b < w.heap.size → w'.heap[b]? = w.heap[b]?) : Own w' base e v xs := by
 refine ⟨h.1, ?_⟩
 rcases h.2 with h2 | ⟨g, cap, cur, rfl, hg, hh, r⟩
 ·exact .inl h2
 ·exact .inr ⟨g, cap, cur, rfl, hg, by rw [hk g rfl (Array.getElem?_eq_some_iff.1 hh).1]; exact hh, r⟩

theorem Own.below {w w' : World} {base : Nat} {e : TypeId} {v : Value} {xs : List Value} (h : Own w base e v xs) (hb : Below w.heap.size w w') : Own w' base e v xs :=
 h.keep fun b _ hlt => hb.block b hlt

theorem Own.alloc {w : World} {base : Nat} {e : TypeId} {v : Value} {xs : List Value} (h : Own w base e v xs) (o : Obj) : Own (w.alloc o) base e v xs := World.ownsRow.alloc h o

theorem below_grown {w w' : World} {row : Option Nat} {B : Nat} (hg : w.grownBy w' row) (hB : B ≤ w.heap.size) (hr : ∀ k, row = some k → B ≤ k) : Below B w w' := (Below.refl B w).grown hg hB hr

/-- 'append' of what reads as a list onto a slice of the call's own. -/
theorem run_append_sl {P : Program} {w : World} {t ty e : TypeId} {i : TypeInfo} {z : Value} (ht : P.underlying t = some (.slice e)) (hi : P.info? e = some i) (hz : i.zero = some z)
  (hsize : i.size = 1) (hby : i.bytes ≤ 64) (hzs : z.cells.size = 1) {base : Nat} {v x : Value} {xs ys : List Value} (hown : Own w base e v xs) (hx : Sl w x ys) (h1 : ∀ u ∈ ys, u.oneCell' = true)
  (hlen : xs.length + ys.length ≤ 2199023255552) (hbase : base ≤ w.heap.size) :
  ∃ v' w', (Builtin.append_ #[t, t] ty #[v, x]).run P w = .ok v' w' ∧ Own w' base e v' (xs ++ ys) ∧ w.grownBy w' v.ownBlock ∧ (v' = .slice none 0 0 → v = .slice none 0 0) := by
 rcases hx with (⟨rfl, rfl⟩ | ⟨b, off, cap, rfl, h2, h3, h4, hc⟩) | ⟨x, c, rfl, rfl⟩
 rotate_left
 rotate_left
 ·obtain ⟨v', w', hr, ho, hg, hn⟩ := run_append_own (P := P) w base t ty e i z 1 i.bytes ht hi hz hsize rfl hzs (by decide) v xs.length xs hown x 0 c [] (by simp) (fun j u hj => by simp at hj) h1
   (by unfold maxLen; simp at hlen; omega) (by
    simp only [List.length_nil, Nat.add_zero] at hlen ⊢
    calc xs.length * i.bytes ≤ 2199023255552 * 64 := Nat.mul_le_mul hlen hby
     _ = 140737488355328 := by omega) hbase
  exact ⟨v', w', hr, by simpa using ho, hg, fun h => (hn.1 h).1⟩
 ·refine ⟨v, w, run_append_owned_none (P := P) w base t ty e i 1 ht hi v _ xs hown, by simpa using hown, ⟨rfl, rfl, rfl, Nat.le_refl _, fun _ _ _ => rfl⟩, id⟩
 ·have hm : xs.length + ys.length ≤ maxLen := by unfold maxLen; omega
  have hbb : (xs.length + ys.length) * i.bytes ≤ 140737488355328 := by
   calc (xs.length + ys.length) * i.bytes ≤ 2199023255552 * 64 := Nat.mul_le_mul hlen hby
    _ = 140737488355328 := by omega
  obtain ⟨v', w', hr, ho, hg, hn⟩ := run_append_own (P := P) w base t ty e i z 1 i.bytes ht hi hz hsize rfl hzs (by decide) v xs.length xs hown ⟨b, off, none⟩ ys.length cap ys (by simp)
   (fun j u hj => by
    have hadd : (⟨b, off, none⟩ : Addr).add j = ⟨b, off + j, none⟩ := by unfold Addr.add; split <;> simp_all
    rw [hadd]; exact hc j u hj) h1 hm hbb hbase
  refine ⟨v', w', hr, ?_, hg, fun h => (hn.1 h).1⟩
  show w'.ownsRow base e 1 v' (xs ++ ys).length (xs ++ ys)
  rw [List.length_append]
  exact ho

theorem bv_one (l : List UInt8) : ∀ u ∈ bv l, u.oneCell' = true := by
 intro u hu
 obtain ⟨_, _, rfl⟩ := List.mem_map.1 hu
 rfl

/-- Bytes turned into a string. -/
theorem strOfNums_bv (l : List UInt8) : strOfNums (l.map fun c => (c.toNat : Int)) = ⟨l.toArray⟩ := by
 have h : ∀ s : ByteArray, s.data.toList = l → s = ⟨l.toArray⟩ := by
  intro s hs; cases s with | mk d => simp at hs; subst hs; simp
 apply h
 rw [strOfNums_data, List.map_map]
 have : ((fun n : Int => UInt8.ofNat n.toNat) ∘ fun c : UInt8 => (c.toNat : Int)) = id := by
  funext c; simp
 rw [this, List.map_id]

theorem conv_bytes {P : Program} {src e dst : TypeId} (hs : P.underlying src = some (.slice e)) (he : P.underlying e = some (.int .u8)) (hd : P.underlying dst = some .string)
  {w : World} {v : Value} {l : List UInt8} (h : Sl w v (bv l)) : (convert src dst v).run P w = .ok (.string ⟨l.toArray⟩) w := by
 rcases h with (⟨rfl, hx⟩ | ⟨b, off, cap, rfl, h1, h2, _, hc⟩) | ⟨x, c, rfl, hx⟩
 rotate_left
 rotate_left
 ·obtain rfl : l = [] := (bv_nil_iff l).1 hx
  have hl : (loadCells x 0).run P w = .ok ((([] : List Int).map (Value.int .u8)).toArray) w := by simp [loadCells, loadCellsFrom]
  rw [run_convert_bytes_string w src dst e _ 0 c hs he hd, run_bytesToString w _ 0 c [] hl, foldl_push_bytes]
  rfl
 ·have : l = [] := (bv_nil_iff l).1 hx
  subst this
  exact run_convert_bytes_nil w src e hs he 0 0 dst hd
 ·rw [← strOfNums_bv, bv_length]
  exact run_convert_bytes_arg w src e hs he b off l.length cap (l.map fun c => (c.toNat : Int)) (by simp) (fun i hi => by
   rw [hc i (.int .u8 (l[i].toNat)) (bv_get l i hi)]
   simp [List.getD, hi]) dst hd

/-- But for block g, what was there is as it was. -/
structure Upd (g : Nat) (w w' : World) : Prop where
 os : w'.os = w.os
 tape : w'.tape = w.tape
 output : w'.output = w.output
 size : w.heap.size ≤ w'.heap.size
 block : ∀ k, k < w.heap.size → k ≠ g → w'.heap[k]? = w.heap[k]?
theorem Upd.refl (g : Nat) (w : World) : Upd g w w := ⟨rfl, rfl, rfl, Nat.le_refl _, fun _ _ _ => rfl⟩
theorem Upd.trans {g : Nat} {a b c : World} (h : Upd g a b) (k : Upd g b c) : Upd g a c :=
 ⟨k.os.trans h.os, k.tape.trans h.tape, k.output.trans h.output, Nat.le_trans h.size k.size, fun i hi hn => (k.block i (Nat.lt_of_lt_of_le hi h.size) hn).trans (h.block i hi hn)⟩
theorem Upd.drew {g : Nat} {a w : World} (h : Upd g a w) : Upd g a w.drew := ⟨h.os, h.tape, h.output, h.size, h.block⟩
theorem below_upd {w w' : World} (h : Below w.heap.size w w') (g : Nat) : Upd g w w' := ⟨h.os, h.tape, h.output, h.size, fun k hk _ => h.block k hk⟩
theorem Upd.below {g B : Nat} {w w' : World} (h : Upd g w w') (hB : B ≤ g) (hw : B ≤ w.heap.size) : Below B w w' :=
 ⟨h.os, h.tape, h.output, h.size, fun k hk => h.block k (by omega) (by omega)⟩
theorem Upd.setCell {g : Nat} {a w : World} (h : Upd g a w) (o : Nat) (u : Value) : Upd g a (w.setCell ⟨g, o, none⟩ u) :=
 h.trans ⟨rfl, rfl, rfl, by simp [World.setCell], fun _ _ hn => Below.heap_setCell _ _ _ _ (by simpa using hn)⟩
theorem Upd.drewN {g : Nat} {a w : World} (h : Upd g a w) (n : Nat) : Upd g a (w.drewN n) := ⟨h.os, h.tape, h.output, h.size, h.block⟩
theorem Upd.alloc {g : Nat} {a w : World} (h : Upd g a w) (o : Obj) : Upd g a (w.alloc o) :=
 h.trans (below_upd ((Below.refl w.heap.size w).alloc (Nat.le_refl _) o) g)
/-- What is the call's own is no block that was there ahead. -/
theorem Own.ne {w : World} {base g : Nat} {e : TypeId} {v : Value} {xs : List Value} (h : Own w base e v xs) (hg : g < base) : v.ownBlock ≠ some g :=
 fun hb => by have := (h.lt g hb).1; omega

/-- A store into a row of cells. -/
theorem heap_setCell_at {w : World} {g o : Nat} {cur : Array Value} {e : TypeId} {fr : Nat × Nat} (h : w.heap[g]? = some (.cells cur e fr)) (x : Value) :
  (w.setCell ⟨g, o, none⟩ x).heap[g]? = some (.cells (cur.setIfInBounds o x) e fr) := by
 simp only [World.setCell, Array.getElem?_modify, if_true, h]
 rfl

/-- An append whose run is known. -/
theorem wpList_append_run {P : Program} {w : World} {ops : Array Oper} {rest : List Oper} {o : Oper} {a : Act} {Q : Exit → Act → World → Prop} (hgd : o.guard = none) (s x : Operand) (t u : TypeId)
  (ho : o.op = .call { callee := .builtin .append, args := #[s, x], argTypes := #[t, u] }) {v y v' : Value} {w' : World} (hs : a.eval s = v) (hx : a.eval x = y)
  (hr : (Builtin.append_ #[t, u] o.type #[v, y]).run P w = .ok v' w') (h : wpList P ops Q rest (a.put o.dst v') w') : wpList P ops Q (o :: rest) a w := by
 refine wpList_plain hgd fun K hK => ?_
 unfold Oper.wp
 simp [execOp, ho, resolve, invoke, builtin, hs, hx, hr, Result.andThen]
 exact hK _ _ h

end Go.Proofs.YtcnbmeiielkigaaGreatDoor
/- Things that lie beside each other in blocks that were not there ahead of the call: none shares a block with another one, and what was there ahead is as it was. No statement is proved here. -/
namespace Go.Proofs.YtcnbmeiielkigaaGreatDoor
open Go.RowKit
set_option linter.unusedVariables false

/-- What lies in some blocks of a world. -/
abbrev Thing := World → (Nat → Prop) → Prop
/-- It hangs on its own blocks alone. -/
def Loc (A : Thing) : Prop := ∀ w w' F, A w F → w.heap.size ≤ w'.heap.size → (∀ k, F k → w'.heap[k]? = w.heap[k]?) → A w' F
/-- Each in blocks from B on; none in those of G, or of the ones ahead. -/
def Beside (B : Nat) : List Thing → World → (Nat → Prop) → Prop
 | [], _, _ => True
 | A :: L, w, G => ∃ F : Nat → Prop, A w F ∧ (∀ k, F k → B ≤ k ∧ k < w.heap.size ∧ ¬ G k) ∧ Beside B L w (fun k => G k ∨ F k)
theorem Beside.less {B : Nat} {L : List Thing} {w : World} {G G' : Nat → Prop} (h : Beside B L w G) (hg : ∀ k, G' k → G k) : Beside B L w G' := by
 induction L generalizing G G' with
 | nil => trivial
 | cons A L ih =>
  obtain ⟨F, ha, hf, hr⟩ := h
  exact ⟨F, ha, fun k hk => ⟨(hf k hk).1, (hf k hk).2.1, fun hn => (hf k hk).2.2 (hg k hn)⟩, ih hr fun k hk => hk.imp (hg k) id⟩
theorem Beside.keep {B : Nat} {L : List Thing} {w w' : World} {G G' : Nat → Prop} (hl : ∀ A ∈ L, Loc A) (h : Beside B L w G) (hs : w.heap.size ≤ w'.heap.size) (hk : ∀ k, B ≤ k → k < w.heap.size → ¬ G k → w'.heap[k]? = w.heap[k]?)
  (hg : ∀ k, G' k → G k ∨ w.heap.size ≤ k) : Beside B L w' G' := by
 induction L generalizing G G' with
 | nil => trivial
 | cons A L ih =>
  obtain ⟨F, ha, hf, hr⟩ := h
  refine ⟨F, hl A (List.mem_cons_self ..) w w' F ha hs fun k hF => hk k (hf k hF).1 (hf k hF).2.1 (hf k hF).2.2, fun k hF => ⟨(hf k hF).1, by have := (hf k hF).2.1; omega, fun hn => ?_⟩, ?_⟩
  ·rcases hg k hn with h1 | h1
   ·exact (hf k hF).2.2 h1
   ·have := (hf k hF).2.1; omega
  ·refine ih (fun A hA => hl A (List.mem_cons_of_mem _ hA)) hr (fun k h1 h2 h3 => hk k h1 h2 fun h4 => h3 (.inl h4)) ?_
   intro k hk'
   rcases hk' with h1 | h1
   ·rcases hg k h1 with h2 | h2
    ·exact .inl (.inl h2)
    ·exact .inr h2
   ·exact .inl (.inr h1)
theorem Beside.swap {B : Nat} {A A' : Thing} {L : List Thing} {w : World} {G : Nat → Prop} (h : Beside B (A :: A' :: L) w G) : Beside B (A' :: A :: L) w G := by
 obtain ⟨F, ha, hf, F', ha', hf', hr⟩ := h
 exact ⟨F', ha', fun k hk => ⟨(hf' k hk).1, (hf' k hk).2.1, fun hn => (hf' k hk).2.2 (.inl hn)⟩, F, ha, fun k hk => ⟨(hf k hk).1, (hf k hk).2.1, fun hn => hn.elim (hf k hk).2.2 fun h1 => (hf' k h1).2.2 (.inr hk)⟩,
  hr.less fun k hk => by rcases hk with (h1 | h1) | h1; exact .inl (.inl h1); exact .inr h1; exact .inl (.inr h1)⟩
theorem Beside.under {B : Nat} {A : Thing} {L L' : List Thing} {w : World} {G : Nat → Prop} (h : Beside B (A :: L) w G) (hp : ∀ G, Beside B L w G → Beside B L' w G) : Beside B (A :: L') w G := by
 obtain ⟨F, ha, hf, hr⟩ := h
 exact ⟨F, ha, hf, hp _ hr⟩

/-- Things beside each other; what was there in w0 is as it was. -/
structure Sep (w0 : World) (L : List Thing) (w : World) : Prop where
 low : Below w0.heap.size w0 w
 loc : ∀ A ∈ L, Loc A
 all : Beside w0.heap.size L w (fun _ => False)
theorem Sep.nil {w0 w : World} (h : Below w0.heap.size w0 w) : Sep w0 [] w := ⟨h, (fun _ h => by cases h), trivial⟩
theorem Sep.start (w : World) : Sep w [] w := .nil (Below.refl _ _)
theorem Sep.size {w0 w : World} {L : List Thing} (h : Sep w0 L w) : w0.heap.size ≤ w.heap.size := h.low.size
/-- But for the first one's blocks nothing has changed. -/
structure Chg (F : Nat → Prop) (w w' : World) : Prop where
 os : w'.os = w.os
 tape : w'.tape = w.tape
 output : w'.output = w.output
 size : w.heap.size ≤ w'.heap.size
 block : ∀ k, k < w.heap.size → ¬ F k → w'.heap[k]? = w.heap[k]?
theorem Chg.refl (F : Nat → Prop) (w : World) : Chg F w w := ⟨rfl, rfl, rfl, Nat.le_refl _, fun _ _ _ => rfl⟩
theorem chg_setCell {F : Nat → Prop} {w : World} {g : Nat} (hg : F g) (o : Nat) (x : Value) : Chg F w (w.setCell ⟨g, o, none⟩ x) :=
 ⟨rfl, rfl, rfl, by simp [World.setCell], fun k _ hn => Below.heap_setCell _ _ _ _ (by intro e; apply hn; rw [e]; exact hg)⟩
theorem Sep.change {w0 w w' : World} {A A' : Thing} {L : List Thing} (h : Sep w0 (A :: L) w) (hl : Loc A') (hc : ∀ F, A w F → (∀ k, F k → k < w.heap.size) → ∃ F', A' w' F' ∧ (∀ k, F' k → (F k ∨ w.heap.size ≤ k) ∧ k < w'.heap.size) ∧ Chg F w w') : Sep w0 (A' :: L) w' := by
 obtain ⟨hb, hloc, F, ha, hf, hr⟩ := h
 obtain ⟨F', ha', hf', hch⟩ := hc F ha fun k hk => (hf k hk).2.1
 refine ⟨⟨hch.os.trans hb.os, hch.tape.trans hb.tape, hch.output.trans hb.output, Nat.le_trans hb.size hch.size, fun k hk => ?_⟩, ?_, F', ha', ?_, ?_⟩
 ·have h1 := hb.size
  rw [hch.block k (by omega) (fun hF => by have := (hf k hF).1; omega)]
  exact hb.block k hk
 ·intro X hX
  rcases List.mem_cons.1 hX with rfl | hX
  ·exact hl
  ·exact hloc X (List.mem_cons_of_mem _ hX)
 ·intro k hk
  have h1 := hf' k hk
  refine ⟨?_, h1.2, id⟩
  rcases h1.1 with h2 | h2
  ·exact (hf k h2).1
  ·have := hb.size; omega
 ·refine hr.keep (fun X hX => hloc X (List.mem_cons_of_mem _ hX)) hch.size (fun k _ h2 h3 => hch.block k h2 fun hF => h3 (.inr hF)) ?_
  intro k hk
  rcases hk with h1 | h1
  ·exact h1.elim
  ·rcases (hf' k h1).1 with h2 | h2
   ·exact .inl (.inr h2)
   ·exact .inr h2
theorem Sep.below {w0 w w' : World} {L : List Thing} (h : Sep w0 L w) (hb : Below w.heap.size w w') : Sep w0 L w' :=
 ⟨h.low.trans (hb.mono h.size), h.loc, h.all.keep h.loc hb.size (fun k _ h2 _ => hb.block k h2) fun k hk => .inl hk⟩
theorem Sep.new {w0 w w' : World} {A : Thing} {L : List Thing} (h : Sep w0 L w) (hl : Loc A) (hb : Below w.heap.size w w') {F : Nat → Prop} (ha : A w' F) (hF : ∀ k, F k → w.heap.size ≤ k ∧ k < w'.heap.size) : Sep w0 (A :: L) w' := by
 have h' := h.below hb
 refine ⟨h'.low, ?_, F, ha, fun k hk => ⟨by have := h.size; have := hF k hk; omega, (hF k hk).2, id⟩, ?_⟩
 ·intro X hX
  rcases List.mem_cons.1 hX with rfl | hX
  ·exact hl
  ·exact h.loc X hX
 ·exact h.all.keep h.loc hb.size (fun k _ h2 _ => hb.block k h2) fun k hk => by
   rcases hk with h1 | h1
   ·exact h1.elim
   ·exact .inr (hF k h1).1
theorem Sep.drop {w0 w : World} {A : Thing} {L : List Thing} (h : Sep w0 (A :: L) w) : Sep w0 L w := by
 obtain ⟨hb, hloc, F, ha, hf, hr⟩ := h
 exact ⟨hb, fun X hX => hloc X (List.mem_cons_of_mem _ hX), hr.less fun k hk => hk.elim⟩
theorem Sep.head {w0 w : World} {A : Thing} {L : List Thing} (h : Sep w0 (A :: L) w) : ∃ F, A w F ∧ ∀ k, F k → w0.heap.size ≤ k ∧ k < w.heap.size := by
 obtain ⟨hb, hloc, F, ha, hf, hr⟩ := h
 exact ⟨F, ha, fun k hk => ⟨(hf k hk).1, (hf k hk).2.1⟩⟩
theorem Sep.imp {w0 w : World} {A A' : Thing} {L : List Thing} (h : Sep w0 (A :: L) w) (hl : Loc A') (hi : ∀ F, A w F → A' w F) : Sep w0 (A' :: L) w := by
 obtain ⟨hb, hloc, F, ha, hf, hr⟩ := h
 refine ⟨hb, ?_, F, hi F ha, hf, hr⟩
 intro X hX
 rcases List.mem_cons.1 hX with rfl | hX
 ·exact hl
 ·exact hloc X (List.mem_cons_of_mem _ hX)
theorem Sep.under {w0 w : World} {A : Thing} {L L' : List Thing} (h : Sep w0 (A :: L) w) (hm : ∀ X ∈ L', X ∈ L) (hp : ∀ G, Beside w0.heap.size L w G → Beside w0.heap.size L' w G) : Sep w0 (A :: L') w :=
 ⟨h.low, fun X hX => by rcases List.mem_cons.1 hX with rfl | hX; exact h.loc _ (List.mem_cons_self ..); exact h.loc X (List.mem_cons_of_mem _ (hm X hX)), h.all.under hp⟩
theorem Sep.sw2 {w0 w : World} {A B : Thing} {L : List Thing} (h : Sep w0 (A :: B :: L) w) : Sep w0 (B :: A :: L) w :=
 ⟨h.low, fun X hX => h.loc X (by simp at hX ⊢; rcases hX with h | h | h <;> simp [h]), h.all.swap⟩
theorem Beside.sw3 {b : Nat} {w : World} {G : Nat → Prop} {A B C : Thing} {L : List Thing} (h : Beside b (A :: B :: C :: L) w G) : Beside b (C :: A :: B :: L) w G := (h.under fun _ h => h.swap).swap
theorem Beside.sw4 {b : Nat} {w : World} {G : Nat → Prop} {A B C D : Thing} {L : List Thing} (h : Beside b (A :: B :: C :: D :: L) w G) : Beside b (D :: A :: B :: C :: L) w G := (h.under fun _ h => h.sw3).swap
theorem Beside.sw5 {b : Nat} {w : World} {G : Nat → Prop} {A B C D E : Thing} {L : List Thing} (h : Beside b (A :: B :: C :: D :: E :: L) w G) : Beside b (E :: A :: B :: C :: D :: L) w G := (h.under fun _ h => h.sw4).swap
theorem Sep.sw3 {w0 w : World} {A B C : Thing} {L : List Thing} (h : Sep w0 (A :: B :: C :: L) w) : Sep w0 (C :: A :: B :: L) w :=
 ⟨h.low, fun X hX => h.loc X (by simp at hX ⊢; rcases hX with h | h | h | h <;> simp [h]), h.all.sw3⟩
theorem Sep.sw4 {w0 w : World} {A B C D : Thing} {L : List Thing} (h : Sep w0 (A :: B :: C :: D :: L) w) : Sep w0 (D :: A :: B :: C :: L) w :=
 ⟨h.low, fun X hX => h.loc X (by simp at hX ⊢; rcases hX with h | h | h | h | h <;> simp [h]), h.all.sw4⟩
theorem Sep.sw5 {w0 w : World} {A B C D E : Thing} {L : List Thing} (h : Sep w0 (A :: B :: C :: D :: E :: L) w) : Sep w0 (E :: A :: B :: C :: D :: L) w :=
 ⟨h.low, fun X hX => h.loc X (by simp at hX ⊢; rcases hX with h | h | h | h | h | h <;> simp [h]), h.all.sw5⟩
/-- The first one goes behind the second .. seventh. -/
theorem Sep.to3 {w0 w : World} {A B C : Thing} {L : List Thing} (h : Sep w0 (A :: B :: C :: L) w) : Sep w0 (B :: C :: A :: L) w := h.sw3.sw3
theorem Sep.to4 {w0 w : World} {A B C D : Thing} {L : List Thing} (h : Sep w0 (A :: B :: C :: D :: L) w) : Sep w0 (B :: C :: D :: A :: L) w := h.sw4.sw4.sw4
theorem Sep.to5 {w0 w : World} {A B C D E : Thing} {L : List Thing} (h : Sep w0 (A :: B :: C :: D :: E :: L) w) : Sep w0 (B :: C :: D :: E :: A :: L) w := h.sw5.sw5.sw5.sw5
/-- Two as one. -/
def Both (A B : Thing) : Thing := fun w F => ∃ Fa Fb : Nat → Prop, A w Fa ∧ B w Fb ∧ (∀ k, Fa k → ¬ Fb k) ∧ ∀ k, F k ↔ Fa k ∨ Fb k
def Ex {α : Sort _} (A : α → Thing) : Thing := fun w F => ∃ x, A x w F
/-- Something said of no block. -/
def Fact (p : Prop) : Thing := fun _ F => p ∧ ∀ k, ¬ F k
theorem loc_both {A B : Thing} (ha : Loc A) (hb : Loc B) : Loc (Both A B) := by
 intro w w' F ⟨Fa, Fb, h1, h2, h3, h4⟩ hs hk
 exact ⟨Fa, Fb, ha _ _ _ h1 hs fun k hk' => hk k ((h4 k).2 (.inl hk')), hb _ _ _ h2 hs fun k hk' => hk k ((h4 k).2 (.inr hk')), h3, h4⟩
theorem loc_ex {α : Sort _} {A : α → Thing} (h : ∀ x, Loc (A x)) : Loc (Ex A) := fun w w' F ⟨x, hx⟩ hs hk => ⟨x, h x _ _ _ hx hs hk⟩
theorem loc_fact (p : Prop) : Loc (Fact p) := fun _ _ _ h _ _ => h
theorem Sep.both {w0 w : World} {A B : Thing} {L : List Thing} (h : Sep w0 (Both A B :: L) w) (ha : Loc A) (hb : Loc B) : Sep w0 (A :: B :: L) w := by
 obtain ⟨hl, hloc, F, ⟨Fa, Fb, h1, h2, h3, h4⟩, hf, hr⟩ := h
 refine ⟨hl, ?_, Fa, h1, fun k hk => hf k ((h4 k).2 (.inl hk)), Fb, h2, fun k hk => ?_, hr.less fun k hk => ?_⟩
 ·intro X hX
  rcases List.mem_cons.1 hX with rfl | hX
  ·exact ha
  ·rcases List.mem_cons.1 hX with rfl | hX
   ·exact hb
   ·exact hloc X (List.mem_cons_of_mem _ hX)
 ·have := hf k ((h4 k).2 (.inr hk))
  exact ⟨this.1, this.2.1, fun hn => hn.elim id fun hk' => h3 k hk' hk⟩
 ·rcases hk with (h1 | h1) | h1
  ·exact h1.elim
  ·exact .inr ((h4 k).2 (.inl h1))
  ·exact .inr ((h4 k).2 (.inr h1))
theorem Sep.join {w0 w : World} {A B : Thing} {L : List Thing} (h : Sep w0 (A :: B :: L) w) : Sep w0 (Both A B :: L) w := by
 obtain ⟨hl, hloc, F, h1, hf, F', h2, hf', hr⟩ := h
 refine ⟨hl, ?_, fun k => F k ∨ F' k, ⟨F, F', h1, h2, fun k hk hk' => (hf' k hk').2.2 (.inr hk), fun _ => Iff.rfl⟩, fun k hk => ?_, hr.less fun k hk => ?_⟩
 ·intro X hX
  rcases List.mem_cons.1 hX with rfl | hX
  ·exact loc_both (hloc _ (List.mem_cons_self ..)) (hloc _ (List.mem_cons_of_mem _ (List.mem_cons_self ..)))
  ·exact hloc X (List.mem_cons_of_mem _ (List.mem_cons_of_mem _ hX))
 ·rcases hk with h1 | h1
  ·exact hf k h1
  ·have := hf' k h1; exact ⟨this.1, this.2.1, fun h => h.elim⟩
 ·rcases hk with h1 | h1 | h1
  ·exact h1.elim
  ·exact .inl (.inr h1)
  ·exact .inr h1
theorem Sep.ex {α : Sort _} {w0 w : World} {A : α → Thing} {L : List Thing} (h : Sep w0 (Ex A :: L) w) (hl : ∀ x, Loc (A x)) : ∃ x, Sep w0 (A x :: L) w := by
 obtain ⟨hb, hloc, F, ⟨x, hx⟩, hf, hr⟩ := h
 refine ⟨x, hb, ?_, F, hx, hf, hr⟩
 intro X hX
 rcases List.mem_cons.1 hX with rfl | hX
 ·exact hl x
 ·exact hloc X (List.mem_cons_of_mem _ hX)
theorem Sep.give {α : Sort _} {w0 w : World} {A : α → Thing} {L : List Thing} (x : α) (h : Sep w0 (A x :: L) w) (hl : ∀ x, Loc (A x)) : Sep w0 (Ex A :: L) w := h.imp (loc_ex hl) fun F hF => ⟨x, hF⟩
theorem Sep.fact {w0 w : World} {p : Prop} {L : List Thing} (h : Sep w0 (Fact p :: L) w) : p := by obtain ⟨F, hF, _⟩ := h.head; exact hF.1
theorem Sep.say {w0 w : World} {p : Prop} {L : List Thing} (h : Sep w0 L w) (hp : p) : Sep w0 (Fact p :: L) w := h.new (loc_fact p) (Below.refl _ _) (F := fun _ => False) ⟨hp, fun _ h => h⟩ fun _ h => h.elim

/-- Several as one. -/
def Grp : List Thing → Thing
 | [] => Fact True
 | A :: L => Both A (Grp L)
theorem loc_grp {L : List Thing} (h : ∀ A ∈ L, Loc A) : Loc (Grp L) := by
 induction L with
 | nil => exact loc_fact _
 | cons A L ih => exact loc_both (h A (List.mem_cons_self ..)) (ih fun X hX => h X (List.mem_cons_of_mem _ hX))
theorem Beside.both {B : Nat} {w : World} {A A' : Thing} {L : List Thing} {G : Nat → Prop} (h : Beside B (Both A A' :: L) w G) : Beside B (A :: A' :: L) w G := by
 obtain ⟨F, ⟨Fa, Fb, h1, h2, h3, h4⟩, hf, hr⟩ := h
 refine ⟨Fa, h1, fun k hk => hf k ((h4 k).2 (.inl hk)), Fb, h2, fun k hk => ?_, hr.less fun k hk => ?_⟩
 ·have := hf k ((h4 k).2 (.inr hk))
  exact ⟨this.1, this.2.1, fun hn => hn.elim this.2.2 fun hk' => h3 k hk' hk⟩
 ·rcases hk with (h1 | h1) | h1
  ·exact .inl h1
  ·exact .inr ((h4 k).2 (.inl h1))
  ·exact .inr ((h4 k).2 (.inr h1))
theorem Beside.join {B : Nat} {w : World} {A A' : Thing} {L : List Thing} {G : Nat → Prop} (h : Beside B (A :: A' :: L) w G) : Beside B (Both A A' :: L) w G := by
 obtain ⟨F, h1, hf, F', h2, hf', hr⟩ := h
 refine ⟨fun k => F k ∨ F' k, ⟨F, F', h1, h2, fun k hk hk' => (hf' k hk').2.2 (.inr hk), fun _ => Iff.rfl⟩, fun k hk => ?_, hr.less fun k hk => ?_⟩
 ·rcases hk with h1 | h1
  ·exact hf k h1
  ·have := hf' k h1; exact ⟨this.1, this.2.1, fun h => this.2.2 (.inl h)⟩
 ·rcases hk with h1 | h1 | h1
  ·exact .inl (.inl h1)
  ·exact .inl (.inr h1)
  ·exact .inr h1
theorem Beside.grp {B : Nat} {w : World} {M L : List Thing} {G : Nat → Prop} : Beside B (Grp M :: L) w G ↔ Beside B (M ++ L) w G := by
 induction M generalizing G with
 | nil =>
  constructor
  ·rintro ⟨F, hF, _, hr⟩
   exact hr.less fun k hk => .inl hk
  ·intro h
   exact ⟨fun _ => False, ⟨trivial, fun _ h => h⟩, fun k hk => hk.elim, h.less fun k hk => hk.elim id False.elim⟩
 | cons A M ih =>
  constructor
  ·intro h
   exact (Beside.both h).under fun _ h => ih.1 h
  ·intro h
   exact ((Beside.under (A := A) (L := M ++ L) h fun _ h => ih.2 h)).join
theorem Sep.open_ {w0 w : World} {M L : List Thing} (h : Sep w0 (Grp M :: L) w) (hl : ∀ A ∈ M, Loc A) : Sep w0 (M ++ L) w :=
 ⟨h.low, fun X hX => (List.mem_append.1 hX).elim (hl X) fun hX => h.loc X (List.mem_cons_of_mem _ hX), Beside.grp.1 h.all⟩
theorem Sep.close {w0 w : World} {M L : List Thing} (h : Sep w0 (M ++ L) w) : Sep w0 (Grp M :: L) w :=
 ⟨h.low, fun X hX => (List.mem_cons.1 hX).elim (fun e => e ▸ loc_grp fun A hA => h.loc A (List.mem_append_left _ hA)) fun hX => h.loc X (List.mem_append_right _ hX), Beside.grp.2 h.all⟩

/-- A block, whole. -/
def Blk (g : Nat) (o : Obj) : Thing := fun w F => w.heap[g]? = some o ∧ ∀ k, F k ↔ k = g
abbrev Cl (g : Nat) (xs : Array Value) (t : TypeId) : Thing := Blk g (.cells xs t (0, 0))
theorem loc_blk (g : Nat) (o : Obj) : Loc (Blk g o) := fun w w' F h _ hk => ⟨(hk g ((h.2 g).2 rfl)).trans h.1, h.2⟩
theorem Sep.blk {w0 w : World} {g : Nat} {o : Obj} {L : List Thing} (h : Sep w0 (Blk g o :: L) w) : w.heap[g]? = some o := by obtain ⟨F, hF, _⟩ := h.head; exact hF.1
theorem Sep.blk_lt {w0 w : World} {g : Nat} {o : Obj} {L : List Thing} (h : Sep w0 (Blk g o :: L) w) : w0.heap.size ≤ g ∧ g < w.heap.size := by obtain ⟨F, hF, h2⟩ := h.head; exact h2 g ((hF.2 g).2 rfl)
theorem Sep.cell {w0 w : World} {g o : Nat} {xs : Array Value} {t : TypeId} {x : Value} {L : List Thing} (h : Sep w0 (Cl g xs t :: L) w) (hx : xs[o]? = some x) : w.cell? ⟨g, o, none⟩ = some x := by
 unfold World.cell?
 rw [h.blk]
 simpa using hx
theorem Sep.setCell {w0 w : World} {g : Nat} {xs : Array Value} {t : TypeId} {L : List Thing} (h : Sep w0 (Cl g xs t :: L) w) (o : Nat) (x : Value) : Sep w0 (Cl g (xs.setIfInBounds o x) t :: L) (w.setCell ⟨g, o, none⟩ x) :=
 h.change (loc_blk _ _) fun F hF hlt => ⟨F, ⟨heap_setCell_at hF.1 x, hF.2⟩, fun k hk => ⟨.inl hk, by have := hlt k hk; simpa [World.setCell] using this⟩, chg_setCell ((hF.2 g).2 rfl) o x⟩
theorem Sep.alloc {w0 w : World} {L : List Thing} (h : Sep w0 L w) (o : Obj) : Sep w0 (Blk w.heap.size o :: L) (w.alloc o) :=
 h.new (loc_blk _ _) ((Below.refl _ w).alloc (Nat.le_refl _) o) (F := fun k => k = w.heap.size) ⟨heap_alloc_new w o, fun _ => Iff.rfl⟩ fun k hk => by subst hk; simp
theorem Sep.alloc0 {w0 w : World} {L : List Thing} (h : Sep w0 L w) (o : Obj) : Sep w0 L (w.alloc o) := (h.alloc o).drop
theorem Sep.drew {w0 w : World} {L : List Thing} (h : Sep w0 L w) : Sep w0 L w.drew := h.below ((Below.refl _ w).drew)
theorem Sep.drewN {w0 w : World} {L : List Thing} (h : Sep w0 L w) (n : Nat) : Sep w0 L (w.drewN n) := h.below ⟨rfl, rfl, rfl, Nat.le_refl _, fun _ _ => rfl⟩

/-- A slice of the call's own. -/
def Rw (e : TypeId) (v : Value) (xs : List Value) : Thing := fun w F => (∃ base, Own w base e v xs) ∧ ∀ k, F k ↔ v.ownBlock = some k
theorem loc_rw (e : TypeId) (v : Value) (xs : List Value) : Loc (Rw e v xs) := fun w w' F ⟨⟨b, h⟩, hf⟩ hs hk => ⟨⟨b, h.keep fun k hb _ => hk k ((hf k).2 hb)⟩, hf⟩
theorem Sep.rw_ {w0 w : World} {e : TypeId} {v : Value} {xs : List Value} {L : List Thing} (h : Sep w0 (Rw e v xs :: L) w) : Own w w0.heap.size e v xs := by
 obtain ⟨F, ⟨⟨b, hF⟩, h1⟩, h2⟩ := h.head
 refine ⟨hF.1, ?_⟩
 rcases hF.2 with h3 | ⟨g, cap, cur, rfl, hb, r⟩
 ·exact .inl h3
 ·exact .inr ⟨g, cap, cur, rfl, (h2 g ((h1 g).2 rfl)).1, r⟩
theorem Sep.sl {w0 w : World} {e : TypeId} {v : Value} {xs : List Value} {L : List Thing} (h : Sep w0 (Rw e v xs :: L) w) : Sl w v xs := h.rw_.sl
theorem Sep.row {w0 w w' : World} {e : TypeId} {v : Value} {xs : List Value} {L : List Thing} (h : Sep w0 L w) (hb : Below w.heap.size w w') (ho : Own w' w.heap.size e v xs) : Sep w0 (Rw e v xs :: L) w' :=
 h.new (loc_rw e v xs) hb (F := fun k => v.ownBlock = some k) ⟨⟨_, ho⟩, fun _ => Iff.rfl⟩ fun k hk => ho.lt k hk
theorem Sep.rnil {w0 w : World} {L : List Thing} (e : TypeId) (h : Sep w0 L w) : Sep w0 (Rw e (.slice none 0 0) [] :: L) w := h.row (Below.refl _ _) (World.ownsRow_nil w _ e 1)
/-- A row that is appended to. -/
theorem Sep.grown {w0 w w' : World} {e : TypeId} {v v' : Value} {xs xs' : List Value} {L : List Thing} (h : Sep w0 (Rw e v xs :: L) w) (hg : w.grownBy w' v.ownBlock) (ho : Own w' w0.heap.size e v' xs') (hat : v'.ownBlock = v.ownBlock ∨ v'.ownBlock = some w.heap.size) : Sep w0 (Rw e v' xs' :: L) w' := by
 refine h.change (loc_rw _ _ _) fun F hF hlt => ⟨fun k => v'.ownBlock = some k, ⟨⟨_, ho⟩, fun _ => Iff.rfl⟩, fun k hk => ?_, ⟨hg.os, hg.tape, hg.output, hg.size, fun k hk hn => ?_⟩⟩
 ·refine ⟨?_, (ho.lt k hk).2⟩
  rcases hat with h1 | h1
  ·exact .inl ((hF.2 k).2 (h1 ▸ hk))
  ·rw [h1] at hk; cases hk; exact .inr (Nat.le_refl _)
 ·exact hg.block k hk fun e => hn ((hF.2 k).2 e.symm)
/-- 'append' of what reads as a list onto a row. -/
theorem append_sep {P : Program} {w0 w : World} {t ty e : TypeId} {i : TypeInfo} {z : Value} (ht : P.underlying t = some (.slice e)) (hi : P.info? e = some i) (hz : i.zero = some z)
  (hsize : i.size = 1) (hby : i.bytes ≤ 64) (hzs : z.cells.size = 1) {v x : Value} {xs ys : List Value} {L : List Thing} (h : Sep w0 (Rw e v xs :: L) w) (hx : Sl w x ys) (h1 : ∀ u ∈ ys, u.oneCell' = true)
  (hlen : xs.length + ys.length ≤ 2199023255552) :
  ∃ v' w', (Builtin.append_ #[t, t] ty #[v, x]).run P w = .ok v' w' ∧ Sep w0 (Rw e v' (xs ++ ys) :: L) w' ∧ (v' = .slice none 0 0 → v = .slice none 0 0) := by
 have hown := h.rw_
 have hm : xs.length + ys.length ≤ maxLen := by unfold maxLen; omega
 have hbb : (xs.length + ys.length) * i.bytes ≤ 140737488355328 := by
  calc (xs.length + ys.length) * i.bytes ≤ 2199023255552 * 64 := Nat.mul_le_mul hlen hby
   _ = 140737488355328 := by omega
 rcases hx with (⟨rfl, rfl⟩ | ⟨b, off, cap, rfl, h2, h3, h4, hc⟩) | ⟨x, c, rfl, rfl⟩
 ·refine ⟨v, w, run_append_owned_none (P := P) w w0.heap.size t ty e i 1 ht hi v _ xs hown, by simpa using h, id⟩
 ·obtain ⟨v', w', hr, ho, hg, hn, hat⟩ := run_append_own_at (P := P) w w0.heap.size t ty e i z 1 i.bytes ht hi hz hsize rfl hzs (by decide) v xs.length xs hown ⟨b, off, none⟩ ys.length cap ys (by simp)
   (fun j u hj => by
    have hadd : (⟨b, off, none⟩ : Addr).add j = ⟨b, off + j, none⟩ := by unfold Addr.add; split <;> simp_all
    rw [hadd]; exact hc j u hj) h1 hm hbb h.size
  refine ⟨v', w', hr, h.grown hg ?_ hat, fun h => (hn.1 h).1⟩
  show w'.ownsRow _ e 1 v' (xs ++ ys).length (xs ++ ys)
  rw [List.length_append]
  exact ho
 ·obtain ⟨v', w', hr, ho, hg, hn, hat⟩ := run_append_own_at (P := P) w w0.heap.size t ty e i z 1 i.bytes ht hi hz hsize rfl hzs (by decide) v xs.length xs hown x 0 c [] (by simp) (fun j u hj => by simp at hj) h1
   (by simpa using hm) (by simpa using hbb) h.size
  refine ⟨v', w', hr, h.grown hg ?_ hat, fun h => (hn.1 h).1⟩
  simpa using ho

/-- A block as a row of its own. -/
theorem Sep.asRow {w0 w : World} {g : Nat} {xs : Array Value} {e : TypeId} {L : List Thing} (h : Sep w0 (Cl g xs e :: L) w) (n : Nat) (hn : xs.size = n) (hl : n ≤ maxLen) : Sep w0 (Rw e (.slice (some ⟨g, 0, none⟩) n n) xs.toList :: L) w := by
 refine h.imp (loc_rw _ _ _) fun F hF => ⟨⟨0, ?_, .inr ⟨g, n, xs, ?_, Nat.zero_le _, hF.1, ?_, hl, by simpa using hn, ?_⟩⟩, fun k => ⟨fun hk => by rw [(hF.2 k).1 hk]; rfl, fun hk => (hF.2 k).2 (by simpa [Value.ownBlock] using hk.symm)⟩⟩
 ·simp
 ·simp [hn]
 ·simp [hn]
 ·apply List.take_of_length_le; simp
/-- 'append', 'copy' whose run is known: one step of a region that draws. -/
theorem step_append_run {P : Program} {ops : Array Oper} {o : Oper} {a : Act} {w : World} {K : Act → World → Prop} {Q : Exit → Act → World → Prop} {E : Prop}
  (hg : o.guard = none) (d x : Operand) (dT sT : TypeId) (hop : o.op = Op.call { callee := Callee.builtin Builtin.append, args := #[d, x], argTypes := #[dT, sT] })
  (v u : Value) (hd : a.eval d = v) (hx : a.eval x = u) {v' : Value} {w' : World} (hr : (Builtin.append_ #[dT, sT] o.type #[v, u]).run P w = .ok v' w') (hK : K (a.put o.dst v') w') :
  if Region.wanted o (yielded ops a.tmps) = true then Oper.wp P o a w K Q else E := by
 have hw : Region.wanted o (yielded ops a.tmps) = true := by simp [Region.wanted, hg]
 rw [if_pos hw]
 unfold Oper.wp
 simp [execOp, hop, resolve, invoke, builtin, hd, hx, hr, Result.andThen]
 exact hK
end Go.Proofs.YtcnbmeiielkigaaGreatDoor
