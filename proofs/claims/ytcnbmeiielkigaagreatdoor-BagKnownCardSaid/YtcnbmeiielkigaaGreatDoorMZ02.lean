/- Package item: lines. -/
import Derived.StringKeys
import Derived.Test.YtcnbmeiielkigaaGreatDoorMZ01
import Derived.Test.YtcnbmeiielkigaaGreatDoorMZ00
namespace Go.Proofs.YtcnbmeiielkigaaGreatDoor
open Go.RowKit
set_option linter.unusedVariables false
set_option linter.unusedSimpArgs false
/-- Texts. -/
abbrev KS := { s : ByteArray // s.size ≤ maxLen }
abbrev Ln := KS × Int
def ksV (s : KS) : Value := .string s.1
def unV (_ : Unit) : Value := .agg #[]
theorem ksOk : KeyOk Tryz.prog 9 ksV where
 law := Go.Maps.string_keyed Tryz.underlying9
 key := fun s => ⟨_, WideMaps.keyOf_string_mk Tryz.underlying9 s.2⟩
 inj := by
  rintro ⟨a, ha⟩ ⟨b, hb⟩ h
  simp only [ksV, Value.string.injEq] at h
  exact Subtype.ext h
/-- A slice of lines that is read. -/
def LnS (w : World) (v : Value) (ls : List Ln) : Prop :=
 (∃ a c, v = .slice a 0 c ∧ (a = none → c = 0) ∧ ls = []) ∨ ∃ b off c, v = .slice (some ⟨b, off, none⟩) ls.length c ∧ ls.length ≤ c ∧ c ≤ maxLen ∧ b < w.heap.size ∧ ∀ i (hi : i < ls.length), w.cell? ⟨b, off + i * 2, none⟩ = some (.string ls[i].1.1) ∧ w.cell? ⟨b, off + i * 2 + 1, none⟩ = some (.int .i64 ls[i].2)
theorem LnS.len {w : World} {v : Value} {ls : List Ln} (h : LnS w v ls) : ∃ a c, v = .slice a ls.length c := by
 rcases h with ⟨a, c, rfl, _, rfl⟩ | ⟨b, off, c, rfl, _⟩
 ·exact ⟨a, c, rfl⟩
 ·exact ⟨_, c, rfl⟩
theorem LnS.below {w w' : World} {v : Value} {ls : List Ln} (h : LnS w v ls) (hb : Below w.heap.size w w') : LnS w' v ls := by
 rcases h with h | ⟨b, off, c, rfl, h1, h2, h3, h4⟩
 ·exact .inl h
 ·refine .inr ⟨b, off, c, rfl, h1, h2, by have := hb.size; omega, fun i hi => ?_⟩
  rw [hb.cell (p := ⟨b, off + i * 2, none⟩) h3, hb.cell (p := ⟨b, off + i * 2 + 1, none⟩) h3]
  exact h4 i hi
theorem LnS.at {w : World} {a : Option Addr} {n c : Nat} {ls : List Ln} (h : LnS w (.slice a n c) ls) {i : Nat} (hi : i < ls.length) : n = ls.length ∧ n ≤ c ∧ c ≤ maxLen ∧ ∃ b off, a = some ⟨b, off, none⟩ ∧ b < w.heap.size ∧
  ∀ wz, Below w.heap.size w wz → wz.cell? ⟨b, off + i * 2, none⟩ = some (.string ls[i].1.1) ∧ wz.cell? ⟨b, off + i * 2 + 1, none⟩ = some (.int .i64 ls[i].2) := by
 rcases h with ⟨a', c', _, _, rfl⟩ | ⟨b, off, c', hv, h1, h2, h3, h4⟩
 ·simp at hi
 ·simp only [Value.slice.injEq] at hv
  obtain ⟨rfl, rfl, rfl⟩ := hv
  refine ⟨rfl, h1, h2, b, off, rfl, h3, fun wz hb => ?_⟩
  rw [hb.cell (p := ⟨b, off + i * 2, none⟩) h3, hb.cell (p := ⟨b, off + i * 2 + 1, none⟩) h3]
  exact h4 i hi
def lineB (l : Ln) : Bool := nameB l.1.1 && qtyB l.2
def linesB (ls : List Ln) : Bool := decide (1 ≤ ls.length) && decide (ls.length ≤ 4) && ls.all lineB && decide ((ls.map (·.1)).Nodup)
def namS (ls : List Ln) : List (KS × Unit) := ls.map fun l => (l.1, ())
theorem namS_keys (ls : List Ln) : (namS ls).map (·.1) = ls.map (·.1) := by simp [namS]
def memB (s : KS) (ls : List Ln) : Bool := ls.any fun l => decide (l.1 = s)
theorem memB_iff {s : KS} {ls : List Ln} : memB s ls = true ↔ s ∈ ls.map (·.1) := by
 unfold memB
 rw [List.any_eq_true]
 constructor
 ·rintro ⟨l, hl, h⟩
  exact List.mem_map.2 ⟨l, hl, of_decide_eq_true h⟩
 ·intro h
  obtain ⟨l, hl, rfl⟩ := List.mem_map.1 h
  exact ⟨l, hl, decide_eq_true rfl⟩
theorem namS_get (ls : List Ln) (s : KS) : (mget (namS ls) s).isSome = memB s ls := by
 cases hb : memB s ls with
 | true =>
  cases hm : mget (namS ls) s with
  | some _ => rfl
  | none =>
   obtain ⟨l, hl, rfl⟩ := List.mem_map.1 (memB_iff.1 hb)
   unfold mget at hm
   rw [Option.map_eq_none_iff, List.find?_eq_none] at hm
   have := hm (l.1, ()) (List.mem_map.2 ⟨l, hl, rfl⟩)
   simp at this
 | false =>
  rw [mget_none]
  ·rfl
  ·intro p hp he
   obtain ⟨l, hl, rfl⟩ := List.mem_map.1 hp
   have := memB_iff.2 (List.mem_map.2 ⟨l, hl, he⟩)
   rw [hb] at this
   cases this
theorem namS_put {ls : List Ln} {l : Ln} (h : memB l.1 ls = false) : mset (mens (namS ls) l.1 ()) l.1 () = namS (ls ++ [l]) := by
 have h1 := namS_get ls l.1
 rw [h] at h1
 unfold mens
 rw [h1]
 simp only [Bool.false_eq_true, if_false]
 unfold mset namS
 rw [List.map_append, List.map_append]
 congr 1
 ·rw [List.map_map]
  apply List.map_congr_left
  intro x hx
  simp only [Function.comp]
  split
  ·rename_i he; rw [he]
  ·rfl
 ·simp
theorem Sep.mapKeys' {α β : Type} [DecidableEq α] {kv : α → Value} {vv : β → Value} {w0 w : World} {b : Nat} {S : List (α × β)} {L : List Thing} (h : Sep w0 (MapT kv vv b S :: L) w) : (S.map (·.1)).Nodup := by
 obtain ⟨F, ⟨⟨es, c, hb, M⟩, _⟩, _⟩ := h.head
 exact M.keys
theorem lines_bad_line {ls : List Ln} {k : Nat} (hk : k < ls.length) (h : lineB ls[k] = false) : linesB ls = false := by
 have : ls.all lineB = false := by
  rw [List.all_eq_false]
  exact ⟨ls[k], List.getElem_mem hk, by rw [h]; simp⟩
 simp [linesB, this]
theorem lines_twice {ls : List Ln} {k : Nat} (hk : k < ls.length) (h : ls[k].1 ∈ (ls.take k).map (·.1)) : linesB ls = false := by
 have : ¬ (ls.map (·.1)).Nodup := by
  intro hn
  rw [← List.take_append_drop k ls, List.map_append, List.nodup_append] at hn
  exact hn.2.2 _ h _ (List.mem_map.2 ⟨ls[k], by rw [List.drop_eq_getElem_cons hk]; exact List.mem_cons_self .., rfl⟩) rfl
 simp [linesB, this]
theorem zeroUn (w : World) : (zeroValue 107).run Tryz.prog w = .ok (unV ()) w := by kernel_rfl
set_option maxRecDepth 100000 in
set_option maxHeartbeats 2000000 in
theorem areLines_any {w0 w : World} {L : List Thing} (v : Value) (ls : List Ln) (h : Sep w0 L w) (hv : LnS w v ls) : Calls Tryz.prog 100 #[v] w fun e w' => e = .returned (.bool (linesB ls)) ∧ Sep w0 L w' := by
 suffices hs : Calls Tryz.prog 100 #[v] w fun e w' => e = .returned (.bool (linesB ls)) ∧ Sep w [] w' from hs.mono fun e w' ⟨h1, h2⟩ => ⟨h1, h.below h2.low⟩
 obtain ⟨a, c, rfl⟩ := hv.len
 have HV := Lib.hid hv
 clear h hv
 obtain ⟨r, hr⟩ : ∃ r, r = linesB ls := ⟨_, rfl⟩
 rw [← hr]
 have HR := Lib.hid hr
 clear hr
 have hmm := @run_makeMap Tryz.prog
 have hSt := Lib.hid (Sep.start w)
 by_cases h1 : 1 ≤ ls.length
 ·by_cases h4 : ls.length ≤ 4
  ·have d1 : ¬ (ls.length : Int) < 1 := by omega
   have d2 : ¬ (4 : Int) < (ls.length : Int) := by omega
   have d3 : 1 ≤ (ls.length : Int) := by omega
   have H0 := Lib.hid (hSt.out.newMap (kv := ksV) (vv := unV))
   go_enter Tryz.func100, Tryz.ntmps100
   go_wp2_with fail
   clear hmm
   generalize w.heap.size = b at *
   go_loopw [19] (fun i wr => ∃ k : Nat, k ≤ ls.length ∧ i = .int .i64 k ∧ (ls.take k).all lineB = true ∧ Sep w [MapT ksV unV b (namS (ls.take k))] wr) (fun i _ => ls.length - (intOf i).toNat)
   case atStart => exact ⟨0, by omega, rfl, rfl, H0.out⟩
   case round =>
    obtain ⟨k, hk, rfl, hall, hs⟩ := hrel
    clear H0
    have k0 : (0 : Int) ≤ (k : Int) := by omega
    have k9 : (k : Int) ≤ 4 := by omega
    by_cases hkl : k < ls.length
    ·have hd : decide (k < ls.length) = true := decide_eq_true hkl
     have kl : (k : Int) < (ls.length : Int) := by omega
     obtain ⟨-, -, -, bl, off, rfl, hbl, hcell⟩ := HV.out.at hkl
     obtain ⟨c0, c1⟩ := hcell wr hs.low
     have hmk := namS_get (ls.take k) ls[k].1
     obtain ⟨bq, hbq⟩ : ∃ z, z = wr.heap.size := ⟨_, rfl⟩
     obtain ⟨wq, hwq⟩ : ∃ z, z = wr.alloc (.cells #[.string ls[k].1.1, .int .i64 ls[k].2] 68) := ⟨_, rfl⟩
     have h3 := hs.alloc (.cells #[.string ls[k].1.1, .int .i64 ls[k].2] 68)
     rw [← hbq, ← hwq] at h3
     have q0 := h3.cell (o := 0) (x := .string ls[k].1.1) rfl
     have hlook := map_look (t := 106) ksOk Tryz.underlying106 (zeroUn _) h3.sw2 ls[k].1 true
     rw [hmk] at hlook
     have hv0 : ((mget (namS (ls.take k)) ls[k].1).map unV).getD (unV ()) = .agg #[] := by cases mget (namS (ls.take k)) ls[k].1 <;> rfl
     rw [hv0] at hlook
     unfold ksV at hlook
     simp only [if_true] at hlook
     have h4 := h3.alloc0 (.cells #[] 107)
     obtain ⟨wz, hwz⟩ : ∃ z, z = wq.alloc (.cells #[] 107) := ⟨_, rfl⟩
     rw [← hwz] at h4
     have HN := Lib.hid (name_any ls[k].1.1 wz ls[k].1.2)
     have HQ := Lib.hid (isQty_any ls[k].2 wz)
     have q1 := h4.cell (o := 0) (x := .string ls[k].1.1) rfl
     have q2 := h4.cell (o := 1) (x := .int .i64 ls[k].2) rfl
     rw [hwz] at q1 q2
     rw [hwq] at q0 q1 q2 hlook
     have h5 := h4.drop
     rw [hwz, hwq] at h5
     have HN := Lib.hid (fun wx => name_any ls[k].1.1 wx ls[k].1.2)
     have HQ := Lib.hid (fun wx => isQty_any ls[k].2 wx)
     cases hm : memB ls[k].1 (ls.take k) with
     | true =>
      have HF : Hid (r = false) := Lib.hid (by rw [HR.out]; exact lines_twice hkl (memB_iff.1 hm))
      rw [hm] at hlook
      have H5 := Lib.hid h5.drop
      clear hs hall hcell h3 h4 h5 hmk hm hwz hwq hv0 HR q1 q2
      go_wp2_with fail
      go_ret
      rw [HF.out]
      exact ⟨rfl, H5.out⟩
     | false =>
      rw [hm] at hlook
      cases hl : lineB ls[k] with
      | false =>
       have HF : Hid (r = false) := Lib.hid (by rw [HR.out]; exact lines_bad_line hkl hl)
       have H5 := Lib.hid h5.drop
       cases hn : nameB ls[k].1.1 with
       | false =>
        rw [hn] at HN
        clear hs hall hcell h3 h4 h5 hmk hm hwz hwq hv0 HR hl hn
        go_wp2_with fail
        refine (HN.out _).mono ?_
        rintro r0 w1 ⟨rfl, rfl⟩
        go_wp2_with fail
        go_ret
        rw [HF.out]
        exact ⟨rfl, H5.out⟩
       | true =>
        have hq : qtyB ls[k].2 = false := by simpa [lineB, hn] using hl
        rw [hn] at HN
        rw [hq] at HQ
        clear hs hall hcell h3 h4 h5 hmk hm hwz hwq hv0 HR hl hn hq
        go_wp2_with fail
        refine (HN.out _).mono ?_
        rintro r0 w1 ⟨rfl, rfl⟩
        go_wp2_with fail
        refine (HQ.out _).mono ?_
        rintro r0 w1 ⟨rfl, rfl⟩
        go_wp2_with fail
        go_ret
        rw [HF.out]
        exact ⟨rfl, H5.out⟩
      | true =>
       have hn : nameB ls[k].1.1 = true := by simp [lineB] at hl; exact hl.1
       have hq : qtyB ls[k].2 = true := by simp [lineB] at hl; exact hl.2
       rw [hn] at HN
       rw [hq] at HQ
       obtain ⟨w', hupd, h6⟩ := map_update (t := 106) ksOk Tryz.underlying106 h5 ls[k].1 ()
       rw [namS_put hm, ← List.take_succ_eq_append_getElem hkl] at h6
       unfold ksV unV at hupd
       have H6 := Lib.hid h6
       have HA : Hid ((ls.take (k + 1)).all lineB = true) := Lib.hid (by rw [List.take_succ_eq_append_getElem hkl, List.all_append, hall]; simp [hl])
       clear hs hall hcell h3 h4 h5 h6 hmk hm hwz hwq hv0 HR hl hn hq
       go_wp2_with fail
       refine (HN.out _).mono ?_
       rintro r0 w1 ⟨rfl, rfl⟩
       go_wp2_with fail
       refine (HQ.out _).mono ?_
       rintro r0 w1 ⟨rfl, rfl⟩
       go_wp2_with fail
       go_roundw
       case rel => exact ⟨k + 1, of_decide_eq_true hd, by go_num, HA.out, H6.out⟩
       case measure => have hkn := of_decide_eq_true hd; simp [intOf]; omega
    ·have hd : decide (k < ls.length) = false := decide_eq_false hkl
     have hkn : ls.take k = ls := List.take_of_length_le (by omega)
     have hnd := hs.mapKeys'
     rw [hkn] at hall hnd
     rw [namS_keys] at hnd
     have HF : Hid (r = true) := Lib.hid (by rw [HR.out]; simp [linesB, h1, h4, hall, hnd])
     have HS := Lib.hid hs.drop
     clear hs hall hnd hkn HR
     go_wp2_with fail
     go_ret
     rw [HF.out]
     exact ⟨rfl, HS.out⟩
  ·have HF : Hid (r = false) := Lib.hid (by rw [HR.out]; simp [linesB, h4])
   have d1 : ¬ (ls.length : Int) < 1 := by omega
   have d2 : (4 : Int) < (ls.length : Int) := by omega
   clear hmm
   go_enter Tryz.func100, Tryz.ntmps100
   go_wp2_with fail
   go_ret
   rw [HF.out]
   exact ⟨rfl, hSt.out⟩
 ·have HF : Hid (r = false) := Lib.hid (by rw [HR.out]; simp [linesB, h1])
  have d1 : (ls.length : Int) < 1 := by omega
  clear hmm
  go_enter Tryz.func100, Tryz.ntmps100
  go_wp2_with fail
  go_ret
  rw [HF.out]
  exact ⟨rfl, hSt.out⟩
end Go.Proofs.YtcnbmeiielkigaaGreatDoor
/- Package item: fields, Check, CheckRes. -/
namespace Go.Proofs.YtcnbmeiielkigaaGreatDoor
open Go.RowKit
set_option linter.unusedVariables false
set_option linter.unusedSimpArgs false
def kindsL : List Int := [0, 5, 9, 22, 2, 2, 2, 4, 1, 2]
/-- The table of kinds lies where start-up laid it. -/
def KindsAt (w : World) : Prop := 1 < w.heap.size ∧ ∀ k (hk : k < kindsL.length), w.cell? ⟨1, k, none⟩ = some (.int .i64 kindsL[k])
theorem KindsAt.below {w w' : World} (h : KindsAt w) (hb : Below w.heap.size w w') : KindsAt w' :=
 ⟨by have := hb.size; have := h.1; omega, fun k hk => by rw [hb.cell (p := ⟨1, k, none⟩) h.1]; exact h.2 k hk⟩
def fieldsOf (k : Int) : Int := if 0 ≤ k ∧ k ≤ 9 then kindsL.getD k.toNat 0 else 0
theorem fields_any (k : Int) (w : World) (h : KindsAt w) : Calls Tryz.prog 97 #[.int .i64 k] w fun e w' => e = .returned (.int .i64 (fieldsOf k)) ∧ w = w' := by
 by_cases h0 : 0 ≤ k
 ·by_cases h9 : k ≤ 9
  ·obtain ⟨j, rfl⟩ : ∃ j : Nat, k = j := ⟨k.toNat, by omega⟩
   have hj : j < kindsL.length := by simp [kindsL]; omega
   have hf : fieldsOf j = kindsL[j] := by
    unfold fieldsOf
    rw [if_pos ⟨h0, h9⟩, Int.toNat_natCast, List.getD_eq_getElem?_getD, List.getElem?_eq_getElem hj]
    rfl
   rw [hf]
   have c0 := h.2 j hj
   have d1 : ¬ (j : Int) < 0 := by omega
   have d2 : ¬ (9 : Int) < (j : Int) := by omega
   have d3 : (j : Int) < 10 := by omega
   generalize kindsL[j] = z at *
   clear h hj hf
   go_enter Tryz.func97, Tryz.ntmps97
   go_wp2
   go_ret
   exact ⟨rfl, rfl⟩
  ·have hf : fieldsOf k = 0 := by unfold fieldsOf; rw [if_neg (by omega)]
   rw [hf]
   clear h
   go_enter Tryz.func97, Tryz.ntmps97
   go_wp2
   go_ret
   exact ⟨rfl, rfl⟩
 ·have hf : fieldsOf k = 0 := by unfold fieldsOf; rw [if_neg (by omega)]
  rw [hf]
  clear h
  go_enter Tryz.func97, Tryz.ntmps97
  go_wp2
  go_ret
  exact ⟨rfl, rfl⟩
/-- The classes of kinds by what they have. -/
def Cls (h : Int) : Prop := h = 5 ∨ h = 9 ∨ h = 22 ∨ h = 2 ∨ h = 4 ∨ h = 1
def cntB (h n : Int) : Bool := if h = 5 ∨ h = 22 ∨ h = 4 then qtyB n else if h = 9 then chgB n else decide (n = 0)
theorem isCount_any (h n : Int) (w : World) (hc : Cls h) : Calls Tryz.prog 101 #[.int .i64 h, .int .i64 n] w fun e w' => e = .returned (.bool (cntB h n)) ∧ w = w' := by
 have HQ := Lib.hid (isQty_any n w)
 have HC := Lib.hid (isChange_any n w)
 rcases hc with rfl | rfl | rfl | rfl | rfl | rfl
 ·rw [show cntB 5 n = qtyB n from rfl]
  go_enter Tryz.func101, Tryz.ntmps101
  go_wp2_with fail
  refine HQ.out.mono ?_
  rintro r0 w1 ⟨rfl, rfl⟩
  go_wp2_with fail
  go_ret
  exact ⟨rfl, rfl⟩
 ·rw [show cntB 9 n = chgB n from rfl]
  go_enter Tryz.func101, Tryz.ntmps101
  go_wp2_with fail
  refine HC.out.mono ?_
  rintro r0 w1 ⟨rfl, rfl⟩
  go_wp2_with fail
  go_ret
  exact ⟨rfl, rfl⟩
 ·rw [show cntB 22 n = qtyB n from rfl]
  go_enter Tryz.func101, Tryz.ntmps101
  go_wp2_with fail
  refine HQ.out.mono ?_
  rintro r0 w1 ⟨rfl, rfl⟩
  go_wp2_with fail
  go_ret
  exact ⟨rfl, rfl⟩
 ·have hz : cntB 2 n = (n == 0) := by simp [cntB]; rfl
  rw [hz]
  go_enter Tryz.func101, Tryz.ntmps101
  go_wp2_with fail
  go_ret
  exact ⟨rfl, rfl⟩
 ·rw [show cntB 4 n = qtyB n from rfl]
  go_enter Tryz.func101, Tryz.ntmps101
  go_wp2_with fail
  refine HQ.out.mono ?_
  rintro r0 w1 ⟨rfl, rfl⟩
  go_wp2_with fail
  go_ret
  exact ⟨rfl, rfl⟩
 ·have hz : cntB 1 n = (n == 0) := by simp [cntB]; rfl
  rw [hz]
  go_enter Tryz.func101, Tryz.ntmps101
  go_wp2_with fail
  go_ret
  exact ⟨rfl, rfl⟩
end Go.Proofs.YtcnbmeiielkigaaGreatDoor
/- Package item: Check, CheckRes. -/
namespace Go.Proofs.YtcnbmeiielkigaaGreatDoor
open Go.RowKit
set_option linter.unusedVariables false
set_option linter.unusedSimpArgs false
def skuB (h : Int) (sku : KS) : Bool := if h = 5 ∨ h = 9 ∨ h = 1 then nameB sku.1 else sku.1.toList.isEmpty
def ordB (h ord : Int) : Bool := if h = 22 ∨ h = 2 then qtyB ord else (ord == 0)
def linB (h : Int) (ls : List Ln) : Bool := if h = 22 then linesB ls else ((ls.length : Int) == 0)
/-- May this op be? -/
def okB (k : Int) (sku : KS) (ord n : Int) (ls : List Ln) : Bool := (fieldsOf k != 0) && skuB (fieldsOf k) sku && ordB (fieldsOf k) ord && cntB (fieldsOf k) n && linB (fieldsOf k) ls
theorem fields_cls (k : Int) : fieldsOf k = 0 ∨ Cls (fieldsOf k) := by
 unfold fieldsOf
 split
 ·have : k.toNat = 0 ∨ k.toNat = 1 ∨ k.toNat = 2 ∨ k.toNat = 3 ∨ k.toNat = 4 ∨ k.toNat = 5 ∨ k.toNat = 6 ∨ k.toNat = 7 ∨ k.toNat = 8 ∨ k.toNat = 9 := by omega
  rcases this with h | h | h | h | h | h | h | h | h | h <;> rw [h] <;> simp [kindsL, Cls]
 ·exact .inl rfl
def opCells (k : Int) (sku : KS) (ord n : Int) (v : Value) : Array Value := #[.int .i64 k, .string sku.1, .int .i64 ord, .int .i64 n, v]
theorem op_cells {w0 w : World} {b : Nat} {k : Int} {sku : KS} {ord n : Int} {v : Value} {L : List Thing} (h : Sep w0 (Cl b (opCells k sku ord n v) 30 :: L) w) :
  w.cell? ⟨b, 0, none⟩ = some (.int .i64 k) ∧ w.cell? ⟨b, 1, none⟩ = some (.string sku.1) ∧ w.cell? ⟨b, 2, none⟩ = some (.int .i64 ord) ∧ w.cell? ⟨b, 3, none⟩ = some (.int .i64 n) ∧ w.cell? ⟨b, 4, none⟩ = some v :=
 ⟨h.cell rfl, h.cell rfl, h.cell rfl, h.cell rfl, h.cell rfl⟩
set_option maxRecDepth 100000 in
set_option maxHeartbeats 2000000 in
theorem check_cls (h k : Int) (sku : KS) (ord n : Int) (v : Value) (ls : List Ln) (w : World) (hh : fieldsOf k = h) (hc : Cls h) (hv : LnS w v ls) (hk : KindsAt w) :
  Calls Tryz.prog 94 #[.agg #[.int .i64 k, .string sku.1, .int .i64 ord, .int .i64 n, v]] w fun e w' => e = .returned (.int .i64 (if skuB h sku && ordB h ord && cntB h n && linB h ls then 0 else 2)) ∧ Sep w [] w' := by
 obtain ⟨a, c, rfl⟩ := hv.len
 have h1 := (Sep.start w).alloc (.cells (opCells k sku ord n (.slice a ls.length c)) 30)
 obtain ⟨b, hb⟩ : ∃ z, z = w.heap.size := ⟨_, rfl⟩
 obtain ⟨wa, hwa⟩ : ∃ z, z = w.alloc (.cells (opCells k sku ord n (.slice a ls.length c)) 30) := ⟨_, rfl⟩
 rw [← hb, ← hwa] at h1
 have hF : ∀ wx, Below w.heap.size w wx → Calls Tryz.prog 97 #[.int .i64 k] wx fun e w' => e = .returned (.int .i64 h) ∧ wx = w' := fun wx hb => by
  have := fields_any k wx (hk.below hb)
  rwa [hh] at this
 have HF := Lib.hid (hF wa h1.low)
 have HLn : Hid (∀ wx M, Sep w M wx → Calls Tryz.prog 100 #[.slice a ls.length c] wx fun e w' => e = .returned (.bool (linesB ls)) ∧ Sep w M w') := Lib.hid fun wx M hx => areLines_any _ ls hx (hv.below hx.low)
 have HNm := Lib.hid (fun wx => name_any sku.1 wx sku.2)
 have HQ := Lib.hid (fun wx => isQty_any ord wx)
 have HC := Lib.hid (fun wx => isCount_any h n wx hc)
 obtain ⟨c0, c1, c2, c3, c4⟩ := op_cells h1
 have H1 := Lib.hid h1
 have HA := Lib.hid (op_cells (h1.drewN 1))
 unfold opCells at hwa
 clear h1 hv hk hF hh
 obtain ⟨r, hr, hp⟩ : ∃ r : Int, r = (if skuB h sku && ordB h ord && cntB h n && linB h ls then 0 else 2) ∧ ((skuB h sku = false ∧ r = 2) ∨ (skuB h sku = true ∧ ordB h ord = false ∧ r = 2) ∨ (skuB h sku = true ∧ ordB h ord = true ∧ cntB h n = false ∧ r = 2) ∨ (skuB h sku = true ∧ ordB h ord = true ∧ cntB h n = true ∧ linB h ls = false ∧ r = 2) ∨ (skuB h sku = true ∧ ordB h ord = true ∧ cntB h n = true ∧ linB h ls = true ∧ r = 0)) := by
  refine ⟨_, rfl, ?_⟩
  cases skuB h sku <;> cases ordB h ord <;> cases cntB h n <;> cases linB h ls <;> simp
 rw [← hr]
 clear hr
 by_cases h22 : h = 22
 ·subst h22
  clear hc
  rw [show skuB 22 sku = sku.1.toList.isEmpty from rfl, show ordB 22 ord = qtyB ord from rfl, show linB 22 ls = linesB ls from rfl] at hp
  generalize linesB ls = b4 at *
  generalize cntB 22 n = b3 at *
  generalize qtyB ord = b2 at *
  rcases hp with ⟨e1, rfl⟩ | ⟨e1, rfl, rfl⟩ | ⟨e1, rfl, rfl, rfl⟩ | ⟨e1, rfl, rfl, rfl, rfl⟩ | ⟨e1, rfl, rfl, rfl, rfl⟩
  all_goals
   go_enter Tryz.func94, Tryz.ntmps94
   go_wp2_with fail
   rw [← hwa, ← hb]
   clear hwa hb
   refine HF.out.mono ?_
   rintro r0 w1 ⟨rfl, rfl⟩
   go_wp2_with fail
   go_quiet (fail)
   go_wp2_with fail
   refine (HQ.out _).mono ?_
   rintro r0 w1 ⟨rfl, rfl⟩
   go_wp2_with fail
   refine (HLn.out _ _ (H1.out.drewN nq)).mono ?_
   rintro r0 w2 ⟨rfl, h2⟩
   clear c0 c1 c2 c3 c4
   obtain ⟨c0, c1, c2, c3, c4⟩ := op_cells h2
   have H2 := Lib.hid h2.drop
   clear h2
   go_wp2_with ((refine (HC.out _).mono ?_; rintro r0 w1 ⟨rfl, rfl⟩))
   go_ret
   exact ⟨rfl, H2.out⟩
 ·rcases hc with rfl | rfl | rfl | rfl | rfl | rfl
  ·rw [show skuB 5 sku = nameB sku.1 from rfl, show ordB 5 ord = (ord == 0) from rfl, show linB 5 ls = ((ls.length : Int) == 0) from rfl] at hp
   generalize nameB sku.1 = b1 at *
   generalize cntB 5 n = b3 at *
   rcases hp with ⟨rfl, rfl⟩ | ⟨rfl, e2, rfl⟩ | ⟨rfl, e2, rfl, rfl⟩ | ⟨rfl, e2, rfl, e4, rfl⟩ | ⟨rfl, e2, rfl, e4, rfl⟩
   all_goals
    go_enter Tryz.func94, Tryz.ntmps94
    go_wp2_with fail
    rw [← hwa, ← hb]
    clear hwa hb
    refine HF.out.mono ?_
    rintro r0 w1 ⟨rfl, rfl⟩
    go_wp2_with fail
    go_quiet (fail)
    go_wp2_with fail
    refine (HNm.out _).mono ?_
    rintro r0 w1 ⟨rfl, rfl⟩
    go_wp2_with ((refine (HC.out _).mono ?_; rintro r0 w1 ⟨rfl, rfl⟩))
    go_ret
    exact ⟨rfl, H1.out.drop.drewN nq⟩
  ·rw [show skuB 9 sku = nameB sku.1 from rfl, show ordB 9 ord = (ord == 0) from rfl, show linB 9 ls = ((ls.length : Int) == 0) from rfl] at hp
   generalize nameB sku.1 = b1 at *
   generalize cntB 9 n = b3 at *
   rcases hp with ⟨rfl, rfl⟩ | ⟨rfl, e2, rfl⟩ | ⟨rfl, e2, rfl, rfl⟩ | ⟨rfl, e2, rfl, e4, rfl⟩ | ⟨rfl, e2, rfl, e4, rfl⟩
   all_goals
    go_enter Tryz.func94, Tryz.ntmps94
    go_wp2_with fail
    rw [← hwa, ← hb]
    clear hwa hb
    refine HF.out.mono ?_
    rintro r0 w1 ⟨rfl, rfl⟩
    go_wp2_with fail
    go_quiet (fail)
    go_wp2_with fail
    refine (HNm.out _).mono ?_
    rintro r0 w1 ⟨rfl, rfl⟩
    go_wp2_with ((refine (HC.out _).mono ?_; rintro r0 w1 ⟨rfl, rfl⟩))
    go_ret
    exact ⟨rfl, H1.out.drop.drewN nq⟩
  ·exact absurd rfl h22
  ·rw [show skuB 2 sku = sku.1.toList.isEmpty from rfl, show ordB 2 ord = qtyB ord from rfl, show linB 2 ls = ((ls.length : Int) == 0) from rfl] at hp
   generalize qtyB ord = b2 at *
   generalize cntB 2 n = b3 at *
   rcases hp with ⟨e1, rfl⟩ | ⟨e1, rfl, rfl⟩ | ⟨e1, rfl, rfl, rfl⟩ | ⟨e1, rfl, rfl, e4, rfl⟩ | ⟨e1, rfl, rfl, e4, rfl⟩
   all_goals
    go_enter Tryz.func94, Tryz.ntmps94
    go_wp2_with fail
    rw [← hwa, ← hb]
    clear hwa hb
    refine HF.out.mono ?_
    rintro r0 w1 ⟨rfl, rfl⟩
    go_wp2_with fail
    go_quiet (fail)
    go_wp2_with fail
    refine (HQ.out _).mono ?_
    rintro r0 w1 ⟨rfl, rfl⟩
    go_wp2_with ((refine (HC.out _).mono ?_; rintro r0 w1 ⟨rfl, rfl⟩))
    go_ret
    exact ⟨rfl, H1.out.drop.drewN nq⟩
  ·rw [show skuB 4 sku = sku.1.toList.isEmpty from rfl, show ordB 4 ord = (ord == 0) from rfl, show linB 4 ls = ((ls.length : Int) == 0) from rfl] at hp
   generalize cntB 4 n = b3 at *
   rcases hp with ⟨e1, rfl⟩ | ⟨e1, e2, rfl⟩ | ⟨e1, e2, rfl, rfl⟩ | ⟨e1, e2, rfl, e4, rfl⟩ | ⟨e1, e2, rfl, e4, rfl⟩
   all_goals
    go_enter Tryz.func94, Tryz.ntmps94
    go_wp2_with fail
    rw [← hwa, ← hb]
    clear hwa hb
    refine HF.out.mono ?_
    rintro r0 w1 ⟨rfl, rfl⟩
    go_wp2_with fail
    go_quiet (fail)
    go_wp2_with ((refine (HC.out _).mono ?_; rintro r0 w1 ⟨rfl, rfl⟩))
    go_ret
    exact ⟨rfl, H1.out.drop.drewN nq⟩
  ·rw [show skuB 1 sku = nameB sku.1 from rfl, show ordB 1 ord = (ord == 0) from rfl, show linB 1 ls = ((ls.length : Int) == 0) from rfl] at hp
   generalize nameB sku.1 = b1 at *
   generalize cntB 1 n = b3 at *
   rcases hp with ⟨rfl, rfl⟩ | ⟨rfl, e2, rfl⟩ | ⟨rfl, e2, rfl, rfl⟩ | ⟨rfl, e2, rfl, e4, rfl⟩ | ⟨rfl, e2, rfl, e4, rfl⟩
   all_goals
    go_enter Tryz.func94, Tryz.ntmps94
    go_wp2_with fail
    rw [← hwa, ← hb]
    clear hwa hb
    refine HF.out.mono ?_
    rintro r0 w1 ⟨rfl, rfl⟩
    go_wp2_with fail
    go_quiet (fail)
    go_wp2_with fail
    refine (HNm.out _).mono ?_
    rintro r0 w1 ⟨rfl, rfl⟩
    go_wp2_with ((refine (HC.out _).mono ?_; rintro r0 w1 ⟨rfl, rfl⟩))
    go_ret
    exact ⟨rfl, H1.out.drop.drewN nq⟩
set_option maxRecDepth 100000 in
set_option maxHeartbeats 1000000 in
theorem check_zero (k : Int) (sku : KS) (ord n : Int) (v : Value) (ls : List Ln) (w : World) (hh : fieldsOf k = 0) (hv : LnS w v ls) (hk : KindsAt w) :
  Calls Tryz.prog 94 #[.agg #[.int .i64 k, .string sku.1, .int .i64 ord, .int .i64 n, v]] w fun e w' => e = .returned (.int .i64 2) ∧ Sep w [] w' := by
 obtain ⟨a, c, rfl⟩ := hv.len
 have h1 := (Sep.start w).alloc (.cells (opCells k sku ord n (.slice a ls.length c)) 30)
 obtain ⟨b, hb⟩ : ∃ z, z = w.heap.size := ⟨_, rfl⟩
 obtain ⟨wa, hwa⟩ : ∃ z, z = w.alloc (.cells (opCells k sku ord n (.slice a ls.length c)) 30) := ⟨_, rfl⟩
 rw [← hb, ← hwa] at h1
 have hF : Calls Tryz.prog 97 #[.int .i64 k] wa fun e w' => e = .returned (.int .i64 0) ∧ wa = w' := by
  have := fields_any k wa (hk.below h1.low)
  rwa [hh] at this
 have HF := Lib.hid hF
 obtain ⟨c0, c1, c2, c3, c4⟩ := op_cells h1
 have H1 := Lib.hid h1
 unfold opCells at hwa
 clear h1 hv hk hF hh
 go_enter Tryz.func94, Tryz.ntmps94
 go_wp2_with fail
 rw [← hwa, ← hb]
 clear hwa hb
 refine HF.out.mono ?_
 rintro r0 w1 ⟨rfl, rfl⟩
 go_wp2_with fail
 go_quiet (fail)
 go_wp2_with fail
 go_ret
 exact ⟨rfl, H1.out.drop.drewN nq⟩
theorem check_any {w0 w : World} {L : List Thing} (k : Int) (sku : KS) (ord n : Int) (v : Value) (ls : List Ln) (h : Sep w0 L w) (hv : LnS w v ls) (hk : KindsAt w) :
  Calls Tryz.prog 94 #[.agg #[.int .i64 k, .string sku.1, .int .i64 ord, .int .i64 n, v]] w fun e w' => e = .returned (.int .i64 (if okB k sku ord n ls then 0 else 2)) ∧ Sep w0 L w' := by
 rcases fields_cls k with h0 | hc
 ·refine (check_zero k sku ord n v ls w h0 hv hk).mono ?_
  rintro e w' ⟨rfl, h1⟩
  refine ⟨?_, h.below h1.low⟩
  simp [okB, h0]
 ·refine (check_cls (fieldsOf k) k sku ord n v ls w rfl hc hv hk).mono ?_
  rintro e w' ⟨rfl, h1⟩
  refine ⟨?_, h.below h1.low⟩
  have h0 : (fieldsOf k != 0) = true := by
   rcases hc with h | h | h | h | h | h <;> rw [h] <;> rfl
  simp [okB, h0]
end Go.Proofs.YtcnbmeiielkigaaGreatDoor
/- Things beside each other, picked by number: in another order, some left out. -/
namespace Go.Proofs.YtcnbmeiielkigaaGreatDoor
open Go.RowKit
set_option linter.unusedVariables false
theorem Beside.perm {B : Nat} {w : World} {L M : List Thing} (hp : L.Perm M) : ∀ {G : Nat → Prop}, Beside B L w G → Beside B M w G := by
 induction hp with
 | nil => intro G h; exact h
 | cons A _ ih => intro G h; exact h.under fun _ h => ih h
 | swap A A' L => intro G h; exact h.swap
 | trans _ _ ih1 ih2 => intro G h; exact ih2 (ih1 h)
theorem Sep.perm {w0 w : World} {L M : List Thing} (h : Sep w0 L w) (hp : L.Perm M) : Sep w0 M w :=
 ⟨h.low, fun X hX => h.loc X (hp.mem_iff.2 hX), h.all.perm hp⟩
theorem Sep.left {w0 w : World} {L M : List Thing} (h : Sep w0 (L ++ M) w) : Sep w0 M w := by
 induction L with
 | nil => exact h
 | cons A L ih => exact ih h.drop
/-- The things of M with the numbers is. -/
abbrev picks (M : List Thing) (is : List Nat) : List Thing := is.map fun i => M.getD i (Fact True)
/-- Those left out. -/
def rest (M : List Thing) (is : List Nat) : List Thing := ((List.range M.length).filter fun i => !is.contains i).map fun i => M.getD i (Fact True)
theorem range_picks (M : List Thing) : (List.range M.length).map (fun i => M.getD i (Fact True)) = M := by
 apply List.ext_getElem
 ·simp
 ·intro i h1 h2
  simp at h1
  simp [List.getD_eq_getElem?_getD, h1]
def nodupB : List Nat → Bool
 | [] => true
 | a :: l => !l.contains a && nodupB l
theorem nodupB_spec {l : List Nat} (h : nodupB l = true) : l.Nodup := by
 induction l with
 | nil => exact List.nodup_nil
 | cons a l ih =>
  simp only [nodupB, Bool.and_eq_true, Bool.not_eq_true'] at h
  refine List.nodup_cons.2 ⟨fun hm => ?_, ih h.2⟩
  have := h.1
  simp [hm] at this
/-- Each number of is is below n, and stands there once. -/
def okPick (n : Nat) (is : List Nat) : Bool := is.all (fun i => decide (i < n)) && nodupB is
theorem perm_of_pick {n : Nat} {is : List Nat} (h : okPick n is = true) : (List.range n).Perm (is ++ (List.range n).filter fun i => !is.contains i) := by
 simp only [okPick, Bool.and_eq_true, List.all_eq_true, decide_eq_true_eq] at h
 have hnd := nodupB_spec h.2
 have h1 : ((List.range n).filter fun i => is.contains i).Perm is := by
  rw [List.perm_ext_iff_of_nodup (List.nodup_range.filter _) hnd]
  intro a
  simp only [List.mem_filter, List.mem_range, List.contains_iff_mem]
  exact ⟨fun ha => ha.2, fun ha => ⟨h.1 a ha, ha⟩⟩
 exact (List.filter_append_perm (fun i => is.contains i) (List.range n)).symm.trans (h1.append_right _)
theorem Sep.pickL {w0 w : World} {M L : List Thing} (h : Sep w0 (M ++ L) w) (is : List Nat) (hk : okPick M.length is = true) : Sep w0 (picks M is ++ L) w := by
 have h1 : M.Perm (picks M is ++ rest M is) := by
  have h2 := (perm_of_pick hk).map (fun i => M.getD i (Fact True))
  rw [range_picks, List.map_append] at h2
  exact h2
 have h3 : (M ++ L).Perm (rest M is ++ (picks M is ++ L)) := by
  refine (h1.append_right L).trans ?_
  rw [← List.append_assoc]
  exact (List.perm_append_comm).append_right L
 exact (h.perm h3).left
theorem Sep.pick {w0 w : World} {M : List Thing} (h : Sep w0 M w) (is : List Nat) (hk : okPick M.length is = true) : Sep w0 (picks M is) w := by
 have h1 : Sep w0 (M ++ []) w := by rw [List.append_nil]; exact h
 have h2 := h1.pickL is hk
 rwa [List.append_nil] at h2
end Go.Proofs.YtcnbmeiielkigaaGreatDoor
/- Package item: Same. -/
namespace Go.Proofs.YtcnbmeiielkigaaGreatDoor
open Go.RowKit
set_option linter.unusedVariables false
set_option linter.unusedSimpArgs false
theorem str_ne {x y : ByteArray} (h : ¬ x = y) : (x.toList == y.toList) = false := by
 rw [beq_eq_false_iff_ne, ByteArray.toList_eq, ByteArray.toList_eq]
 exact fun e => h (ByteArray.ext (Array.toList_inj.mp e))
theorem takeL_succ {la lb : List Ln} {k : Nat} (h : la.take k = lb.take k) (ha : k < la.length) (hb : k < lb.length) (he : la[k] = lb[k]) : la.take (k + 1) = lb.take (k + 1) := by
 rw [List.take_succ_eq_append_getElem ha, List.take_succ_eq_append_getElem hb, h, he]
set_option maxRecDepth 100000 in
set_option maxHeartbeats 2000000 in
theorem equalL_any {w0 w : World} {L : List Thing} (va vb : Value) (la lb : List Ln) (hs : Sep w0 L w) (ha : LnS w va la) (hb : LnS w vb lb) (hl : la.length ≤ 9223372036854775807) :
  Calls Tryz.prog 85 #[va, vb] w fun e w' => e = .returned (.bool (decide (la = lb))) ∧ Sep w0 L w' := by
 obtain ⟨aa, ca, rfl⟩ := ha.len
 obtain ⟨ab, cb, rfl⟩ := hb.len
 have HA := Lib.hid ha
 have HB := Lib.hid hb
 have HS := Lib.hid hs
 clear ha hb hs
 by_cases hne : la.length = lb.length
 ·have hn : (((la.length : Nat) : Int) != ((lb.length : Nat) : Int)) = false := by simp [hne]
  have hn' : (la.length != lb.length) = false := by simp [hne]
  have HN := Lib.hid hne
  obtain ⟨r, hr⟩ : ∃ r : Bool, r = decide (la = lb) := ⟨_, rfl⟩
  rw [← hr]
  have HR := Lib.hid hr
  clear hne hr
  go_enter Tryz.func85, Tryz.ntmps85
  go_wp2_with fail
  go_loopw [13] (fun i wr => ∃ k m : Nat, k ≤ la.length ∧ i = .int .i64 k ∧ la.take k = lb.take k ∧ wr = w.drewN m) (fun i _ => la.length - (intOf i).toNat)
  case atStart => exact ⟨0, 0, by omega, rfl, rfl, rfl⟩
  case round =>
   obtain ⟨k, m, hk, rfl, ht, rfl⟩ := hrel
   have k0 : (0 : Int) ≤ (k : Int) := by omega
   have kb : (k : Int) ≤ 9223372036854775807 := by omega
   by_cases hkn : k < la.length
   ·have hd : decide (k < la.length) = true := decide_eq_true hkn
    have hkb : k < lb.length := by have := HN.out; omega
    have k1 : (k : Int) < (la.length : Int) := by omega
    have k2 : (k : Int) < (lb.length : Int) := by omega
    obtain ⟨-, -, -, b1, o1, rfl, -, hc1⟩ := HA.out.at hkn
    obtain ⟨-, -, -, b2, o2, rfl, -, hc2⟩ := HB.out.at hkb
    obtain ⟨c0, c1⟩ := hc1 w (Below.refl _ w)
    obtain ⟨d0, d1⟩ := hc2 w (Below.refl _ w)
    by_cases he : la[k] = lb[k]
    ·have HT := Lib.hid (takeL_succ ht hkn hkb he)
     rw [← he] at d0 d1
     generalize la[k] = z at *
     clear ht hc1 hc2 hkn hkb he
     go_wp2_with fail
     go_quiet (fail)
     go_wp2_with fail
     go_roundw
     case rel => exact ⟨k + 1, m + nq, of_decide_eq_true hd, by go_num, HT.out, by simp [World.drewN, Nat.add_assoc]⟩
     case measure => have hkn := of_decide_eq_true hd; simp [intOf]; omega
    ·have HF : Hid (r = false) := Lib.hid (by
      rw [HR.out]
      exact decide_eq_false fun e => by subst e; exact he rfl)
     generalize la[k] = z at *
     generalize lb[k] = z' at *
     by_cases hs : z.1.1 = z'.1.1
     ·have e2 : (z.2 == z'.2) = false := by
       rw [beq_eq_false_iff_ne]
       exact fun h => he (Prod.ext (Subtype.ext hs) h)
      rw [← hs] at d0
      clear ht hc1 hc2 hkn hkb he hs
      go_wp2_with fail
      go_quiet (fail)
      go_wp2_with fail
      go_ret
      rw [HF.out]
      exact ⟨rfl, (HS.out.drewN m).drewN nq⟩
     ·have e3 : (z.1.1.toList == z'.1.1.toList) = false := str_ne hs
      have e4 : (z.1.1.toList != z'.1.1.toList) = true := by rw [bne, e3]; rfl
      clear ht hc1 hc2 hkn hkb he hs
      go_wp2_with fail
      go_quiet (fail)
      go_wp2_with fail
      go_ret
      rw [HF.out]
      exact ⟨rfl, (HS.out.drewN m).drewN nq⟩
   ·have hd : decide (k < la.length) = false := decide_eq_false hkn
    have HF : Hid (r = true) := Lib.hid (by
     rw [HR.out]
     have hkl : k = la.length := by omega
     rw [hkl, List.take_length, HN.out, List.take_length] at ht
     exact decide_eq_true ht)
    clear ht hkn
    go_wp2_with fail
    go_ret
    rw [HF.out]
    exact ⟨rfl, HS.out.drewN m⟩
 ·have hn : (((la.length : Nat) : Int) != ((lb.length : Nat) : Int)) = true := by rw [bne_iff_ne]; omega
  have hn' : (la.length != lb.length) = true := by rw [bne_iff_ne]; exact hne
  have hx : decide (la = lb) = false := decide_eq_false fun e => hne (by rw [e])
  rw [hx]
  clear hne hx
  go_enter Tryz.func85, Tryz.ntmps85
  go_wp2_with fail
  go_ret
  exact ⟨rfl, HS.out⟩
def sameB (k : Int) (s : KS) (o n : Int) (ls : List Ln) (k' : Int) (s' : KS) (o' n' : Int) (ls' : List Ln) : Bool := decide (k = k') && decide (s.1 = s'.1) && decide (o = o') && decide (n = n') && decide (ls = ls')
set_option maxRecDepth 100000 in
set_option maxHeartbeats 4000000 in
theorem same_any {w0 w : World} {L : List Thing} (k : Int) (s : KS) (o n : Int) (v : Value) (ls : List Ln) (k' : Int) (s' : KS) (o' n' : Int) (v' : Value) (ls' : List Ln) (h : Sep w0 L w) (hv : LnS w v ls) (hv' : LnS w v' ls') (hl : ls.length ≤ 9223372036854775807) :
  Calls Tryz.prog 58 #[.agg #[.int .i64 k, .string s.1, .int .i64 o, .int .i64 n, v], .agg #[.int .i64 k', .string s'.1, .int .i64 o', .int .i64 n', v']] w fun e w' => e = .returned (.bool (sameB k s o n ls k' s' o' n' ls')) ∧ Sep w0 L w' := by
 suffices hh : Calls Tryz.prog 58 #[.agg #[.int .i64 k, .string s.1, .int .i64 o, .int .i64 n, v], .agg #[.int .i64 k', .string s'.1, .int .i64 o', .int .i64 n', v']] w fun e w' => e = .returned (.bool (sameB k s o n ls k' s' o' n' ls')) ∧ Sep w [] w' from hh.mono fun e w' ⟨h1, h2⟩ => ⟨h1, h.below h2.low⟩
 clear h
 obtain ⟨a, c, rfl⟩ := hv.len
 obtain ⟨a', c', rfl⟩ := hv'.len
 obtain ⟨wa, hwa⟩ : ∃ z, z = (w.alloc (.cells (opCells k s o n (.slice a ls.length c)) 30)).alloc (.cells (opCells k' s' o' n' (.slice a' ls'.length c')) 30) := ⟨_, rfl⟩
 have h1 := ((Sep.start w).alloc (.cells (opCells k s o n (.slice a ls.length c)) 30)).alloc (.cells (opCells k' s' o' n' (.slice a' ls'.length c')) 30)
 rw [← hwa] at h1
 rw [show (w.alloc (.cells (opCells k s o n (.slice a ls.length c)) 30)).heap.size = w.heap.size + 1 by simp] at h1
 have HE := Lib.hid (equalL_any _ _ ls ls' (Sep.start wa) (hv.below h1.low) (hv'.below h1.low) hl)
 obtain ⟨c0, c1, c2, c3, c4⟩ := op_cells h1.sw2
 obtain ⟨d0, d1, d2, d3, d4⟩ := op_cells h1
 have HL := Lib.hid h1.low
 unfold opCells at hwa
 clear h1 hv hv'
 unfold sameB
 by_cases e0 : k = k'
 ·subst e0
  rw [decide_eq_true rfl, Bool.true_and]
  by_cases e1 : s.1 = s'.1
  ·rw [decide_eq_true e1, Bool.true_and]
   rw [← e1] at d1 hwa ⊢
   clear e1
   by_cases e2 : o = o'
   ·subst e2
    rw [decide_eq_true rfl, Bool.true_and]
    by_cases e3 : n = n'
    ·subst e3
     rw [decide_eq_true rfl, Bool.true_and]
     generalize decide (ls = ls') = r at *
     go_enter Tryz.func58, Tryz.ntmps58
     go_wp2_with fail
     rw [← hwa]
     clear hwa
     go_wp2_with fail
     refine HE.out.mono ?_
     rintro r0 w1 ⟨rfl, h2⟩
     have H2 := Lib.hid (HL.out.trans (h2.low.mono HL.out.size))
     clear h2
     go_wp2_with fail
     go_ret
     exact ⟨rfl, Sep.nil H2.out⟩
    ·rw [decide_eq_false e3, Bool.false_and]
     have f : (n == n') = false := beq_eq_false_iff_ne.2 e3
     clear e3
     go_enter Tryz.func58, Tryz.ntmps58
     go_wp2_with fail
     rw [← hwa]
     clear hwa
     go_wp2_with fail
     go_ret
     exact ⟨rfl, Sep.nil HL.out⟩
   ·rw [decide_eq_false e2, Bool.false_and, Bool.false_and]
    have f : (o == o') = false := beq_eq_false_iff_ne.2 e2
    clear e2
    go_enter Tryz.func58, Tryz.ntmps58
    go_wp2_with fail
    rw [← hwa]
    clear hwa
    go_wp2_with fail
    go_ret
    exact ⟨rfl, Sep.nil HL.out⟩
  ·rw [decide_eq_false e1, Bool.false_and, Bool.false_and, Bool.false_and]
   have f := str_ne e1
   clear e1
   go_enter Tryz.func58, Tryz.ntmps58
   go_wp2_with fail
   rw [← hwa]
   clear hwa
   go_wp2_with fail
   go_ret
   exact ⟨rfl, Sep.nil HL.out⟩
 ·rw [decide_eq_false e0, Bool.false_and, Bool.false_and, Bool.false_and, Bool.false_and]
  have f : (k == k') = false := beq_eq_false_iff_ne.2 e0
  clear e0
  go_enter Tryz.func58, Tryz.ntmps58
  go_wp2_with fail
  rw [← hwa]
  clear hwa
  go_wp2_with fail
  go_ret
  exact ⟨rfl, Sep.nil HL.out⟩
end Go.Proofs.YtcnbmeiielkigaaGreatDoor
/- Slices of one's own whose elements take several cells (structs). -/
namespace Go.Proofs.YtcnbmeiielkigaaGreatDoor
open Go.RowKit
set_option linter.unusedVariables false
theorem ownsRow_keep {w w' : World} {base sz n : Nat} {e : TypeId} {v : Value} {xs : List Value} (h : w.ownsRow base e sz v n xs) (hk : ∀ b, v.ownBlock = some b → b < w.heap.size → w'.heap[b]? = w.heap[b]?) : w'.ownsRow base e sz v n xs := by
 refine ⟨h.1, ?_⟩
 rcases h.2 with h0 | ⟨g, cap, cur, rfl, hb, hc, r⟩
 ·exact .inl h0
 ·refine .inr ⟨g, cap, cur, rfl, hb, ?_, r⟩
  rw [hk g rfl (by
   rcases Nat.lt_or_ge g w.heap.size with h1 | h1
   ·exact h1
   ·rw [Array.getElem?_eq_none h1] at hc; cases hc)]
  exact hc
theorem ownsRow_lt {w : World} {base sz n : Nat} {e : TypeId} {v : Value} {xs : List Value} (h : w.ownsRow base e sz v n xs) (k : Nat) (hk : v.ownBlock = some k) : base ≤ k ∧ k < w.heap.size := by
 rcases h.2 with ⟨rfl, _⟩ | ⟨g, cap, cur, rfl, hb, hc, r⟩
 ·cases hk
 ·simp only [Value.ownBlock, Option.some.injEq] at hk
  subst hk
  refine ⟨hb, ?_⟩
  rcases Nat.lt_or_ge g w.heap.size with h1 | h1
  ·exact h1
  ·rw [Array.getElem?_eq_none h1] at hc; cases hc
/-- A slice of n elements of sz cells each. -/
def Rn (sz : Nat) (e : TypeId) (v : Value) (n : Nat) (xs : List Value) : Thing := fun w F => (∃ base, w.ownsRow base e sz v n xs) ∧ ∀ k, F k ↔ v.ownBlock = some k
theorem loc_rn (sz : Nat) (e : TypeId) (v : Value) (n : Nat) (xs : List Value) : Loc (Rn sz e v n xs) := fun w w' F ⟨⟨b, h⟩, hf⟩ hs hk => ⟨⟨b, ownsRow_keep h fun k hb _ => hk k ((hf k).2 hb)⟩, hf⟩
theorem Sep.rn {w0 w : World} {sz n : Nat} {e : TypeId} {v : Value} {xs : List Value} {L : List Thing} (h : Sep w0 (Rn sz e v n xs :: L) w) : w.ownsRow w0.heap.size e sz v n xs := by
 obtain ⟨F, ⟨⟨b, hF⟩, h1⟩, h2⟩ := h.head
 refine ⟨hF.1, ?_⟩
 rcases hF.2 with h3 | ⟨g, cap, cur, rfl, hb, r⟩
 ·exact .inl h3
 ·exact .inr ⟨g, cap, cur, rfl, (h2 g ((h1 g).2 rfl)).1, r⟩
theorem Sep.rnNil {w0 w : World} {L : List Thing} (sz : Nat) (e : TypeId) (h : Sep w0 L w) : Sep w0 (Rn sz e (.slice none 0 0) 0 [] :: L) w :=
 h.new (loc_rn sz e _ _ _) (Below.refl _ _) (F := fun _ => False) ⟨⟨0, World.ownsRow_nil w _ e sz⟩, fun k => ⟨fun h => h.elim, fun h => by cases h⟩⟩ fun _ h => h.elim
/-- 'append' of so many elements, that stand in a row of cells, onto it. -/
theorem append_rn {P : Program} {w0 w : World} {t ty e : TypeId} {i : TypeInfo} {z : Value} {sz : Nat} (ht : P.underlying t = some (.slice e)) (hi : P.info? e = some i) (hz : i.zero = some z)
  (hsize : i.size = sz) (hby : i.bytes ≤ 256) (hzs : z.cells.size = sz) (hpos : 0 < sz) {v : Value} {n m c b off : Nat} {xs news : List Value} {L : List Thing} (h : Sep w0 (Rn sz e v n xs :: L) w)
  (hl : news.length = m * sz) (hnews : ∀ j u, news[j]? = some u → w.cell? ⟨b, off + j, none⟩ = some u) (h1 : ∀ u ∈ news, u.oneCell' = true) (hlen : n + m ≤ 549755813888) :
  ∃ v' w', (Builtin.append_ #[t, t] ty #[v, .slice (some ⟨b, off, none⟩) m c]).run P w = .ok v' w' ∧ Sep w0 (Rn sz e v' (n + m) (xs ++ news) :: L) w' := by
 have hown := h.rn
 have hm : n + m ≤ maxLen := by unfold maxLen; omega
 have hbb : (n + m) * i.bytes ≤ 140737488355328 := by
  calc (n + m) * i.bytes ≤ 549755813888 * 256 := Nat.mul_le_mul hlen hby
   _ = 140737488355328 := by omega
 have hadd : ∀ j, (⟨b, off, none⟩ : Addr).add j = ⟨b, off + j, none⟩ := fun j => by unfold Addr.add; split <;> simp_all
 obtain ⟨v', w', hr, ho, hg, hn, hat⟩ := run_append_own_at (P := P) w w0.heap.size t ty e i z sz i.bytes ht hi hz hsize rfl hzs hpos v n xs hown ⟨b, off, none⟩ m c news hl (fun j u hj => by rw [hadd]; exact hnews j u hj) h1 hm hbb h.size
 refine ⟨v', w', hr, ?_⟩
 refine h.change (loc_rn _ _ _ _ _) fun F hF hlt => ⟨fun k => v'.ownBlock = some k, ⟨⟨_, ho⟩, fun _ => Iff.rfl⟩, fun k hk => ?_, ⟨hg.os, hg.tape, hg.output, hg.size, fun k hk hn => ?_⟩⟩
 ·refine ⟨?_, (ownsRow_lt ho k hk).2⟩
  rcases hat with h1 | h1
  ·exact .inl ((hF.2 k).2 (h1 ▸ hk))
  ·rw [h1] at hk; cases hk; exact .inr (Nat.le_refl _)
 ·exact hg.block k hk fun e => hn ((hF.2 k).2 e.symm)
/-- What it reads as. -/
theorem Sep.rnForm {w0 w : World} {sz n : Nat} {e : TypeId} {v : Value} {xs : List Value} {L : List Thing} (h : Sep w0 (Rn sz e v n xs :: L) w) : ∃ a c, v = .slice a n c ∧ n ≤ c ∧ c ≤ maxLen ∧ xs.length = n * sz ∧
  (0 < n → ∃ b, a = some ⟨b, 0, none⟩ ∧ b < w.heap.size ∧ ∀ j (hj : j < xs.length), w.cell? ⟨b, j, none⟩ = some xs[j]) := by
 have ho := h.rn
 rcases ho.2 with ⟨rfl, rfl⟩ | ⟨g, cap, cur, rfl, hb, hc, h1, h2, h3, h4⟩
 ·exact ⟨none, 0, rfl, Nat.le_refl _, Nat.zero_le _, ho.1, fun h0 => by omega⟩
 ·refine ⟨_, _, rfl, h1, h2, ho.1, fun h0 => ⟨g, rfl, (ownsRow_lt ho g rfl).2, fun j hj => ?_⟩⟩
  have hj2 : j < n * sz := by rw [← ho.1]; exact hj
  unfold World.cell?
  rw [hc]
  have h5 : (cur.toList.take (n * sz))[j]? = some xs[j] := by rw [h4]; exact List.getElem?_eq_getElem hj
  rw [List.getElem?_take, if_pos hj2] at h5
  simpa using h5
end Go.Proofs.YtcnbmeiielkigaaGreatDoor
