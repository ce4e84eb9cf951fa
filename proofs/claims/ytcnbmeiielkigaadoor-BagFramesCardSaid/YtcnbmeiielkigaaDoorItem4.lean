/- Package item: Check, CheckRes. -/
import Derived.Test.YtcnbmeiielkigaaDoorItem3
namespace Go.Proofs.YtcnbmeiielkigaaDoor
open Go.RowKit
set_option linter.unusedVariables false
set_option linter.unusedSimpArgs false
def skuB (h : Int) (sku : KS) : Bool := if h = 5 ∨ h = 9 ∨ h = 1 then nameB sku.1 else sku.1.toList.isEmpty
def ordB (h ord : Int) : Bool := if h = 22 ∨ h = 2 then qtyB ord else (ord == 0)
def linB (h : Int) (ls : List Ln) : Bool := if h = 22 then linesB ls else ((ls.length : Int) == 0)
/-- May this op be? -/
def okB (k : Int) (sku : KS) (ord n : Int) (ls : List Ln) : Bool := (fieldsOf k != 0) && skuB (fieldsOf k) sku && ordB (fieldsOf k) ord && cntB (fieldsOf k) n && linB (fieldsOf k) ls
theorem fields_cls (k : Int) : fieldsOf k = 0 ∨ Cls (fieldsOf k) := by
  unfold fieldsOf
  split
  · have : k.toNat = 0 ∨ k.toNat = 1 ∨ k.toNat = 2 ∨ k.toNat = 3 ∨ k.toNat = 4 ∨ k.toNat = 5 ∨ k.toNat = 6 ∨ k.toNat = 7 ∨ k.toNat = 8 ∨ k.toNat = 9 := by omega
    rcases this with h | h | h | h | h | h | h | h | h | h <;> rw [h] <;> simp [kindsL, Cls]
  · exact .inl rfl
def opCells (k : Int) (sku : KS) (ord n : Int) (v : Value) : Array Value := #[.int .i64 k, .string sku.1, .int .i64 ord, .int .i64 n, v]
theorem op_cells {w0 w : World} {b : Nat} {k : Int} {sku : KS} {ord n : Int} {v : Value} {L : List Thing} (h : Sep w0 (Cl b (opCells k sku ord n v) 33 :: L) w) :
    w.cell? ⟨b, 0, none⟩ = some (.int .i64 k) ∧ w.cell? ⟨b, 1, none⟩ = some (.string sku.1) ∧ w.cell? ⟨b, 2, none⟩ = some (.int .i64 ord) ∧ w.cell? ⟨b, 3, none⟩ = some (.int .i64 n) ∧ w.cell? ⟨b, 4, none⟩ = some v :=
  ⟨h.cell rfl, h.cell rfl, h.cell rfl, h.cell rfl, h.cell rfl⟩
set_option maxRecDepth 100000 in
set_option maxHeartbeats 2000000 in
theorem check_cls (h k : Int) (sku : KS) (ord n : Int) (v : Value) (ls : List Ln) (w : World) (hh : fieldsOf k = h) (hc : Cls h) (hv : LnS w v ls) (hk : KindsAt w) :
    Calls Tryd.prog 52 #[.agg #[.int .i64 k, .string sku.1, .int .i64 ord, .int .i64 n, v]] w fun e w' => e = .returned (.int .i64 (if skuB h sku && ordB h ord && cntB h n && linB h ls then 0 else 2)) ∧ Sep w [] w' := by
  obtain ⟨a, c, rfl⟩ := hv.len
  have h1 := (Sep.start w).alloc (.cells (opCells k sku ord n (.slice a ls.length c)) 33)
  obtain ⟨b, hb⟩ : ∃ z, z = w.heap.size := ⟨_, rfl⟩
  obtain ⟨wa, hwa⟩ : ∃ z, z = w.alloc (.cells (opCells k sku ord n (.slice a ls.length c)) 33) := ⟨_, rfl⟩
  rw [← hb, ← hwa] at h1
  have hF : ∀ wx, Below w.heap.size w wx → Calls Tryd.prog 57 #[.int .i64 k] wx fun e w' => e = .returned (.int .i64 h) ∧ wx = w' := fun wx hb => by
    have := fields_any k wx (hk.below hb)
    rwa [hh] at this
  have HF := Lib.hid (hF wa h1.low)
  have HLn : Hid (∀ wx M, Sep w M wx → Calls Tryd.prog 60 #[.slice a ls.length c] wx fun e w' => e = .returned (.bool (linesB ls)) ∧ Sep w M w') := Lib.hid fun wx M hx => areLines_any _ ls hx (hv.below hx.low)
  have HNm := Lib.hid (fun wx => name_any sku.1 wx sku.2)
  have HQ := Lib.hid (fun wx => isQty_any ord wx)
  have HC := Lib.hid (fun wx => isCount_any h n wx hc)
  obtain ⟨c0, c1, c2, c3, c4⟩ := op_cells h1
  have H1 := Lib.hid h1
  have HA := Lib.hid (op_cells (h1.drewN 1))
  unfold opCells at hwa
  clear h1 hv hk hF hh
  obtain ⟨r, hr, hp⟩ : ∃ r : Int, r = (if skuB h sku && ordB h ord && cntB h n && linB h ls then 0 else 2) ∧ ((skuB h sku = false ∧ r = 2) ∨ (skuB h sku = true ∧ ordB h ord = false ∧ r = 2) ∨ (skuB h sku = true ∧ ordB h ord = true ∧ cntB h n = false ∧ r = 2) ∨ (skuB h sku = true ∧ ordB h ord = true ∧ cntB h n = true ∧ linB h ls = false ∧ r = 2) ∨ (skuB h sku = true ∧ ordB h ord = true ∧ cntB h n = true ∧ linB h ls = true ∧ r = 0)) := by
    refine ⟨_, rfl, ?_⟩
    cases skuB h sku <;> cases ordB h ord <;> cases cntB h n <;> cases linB h ls <;> simp
  rw [← hr]
  clear hr
  by_cases h22 : h = 22
  · subst h22
    clear hc
    rw [show skuB 22 sku = sku.1.toList.isEmpty from rfl, show ordB 22 ord = qtyB ord from rfl, show linB 22 ls = linesB ls from rfl] at hp
    generalize linesB ls = b4 at *
    generalize cntB 22 n = b3 at *
    generalize qtyB ord = b2 at *
    rcases hp with ⟨e1, rfl⟩ | ⟨e1, rfl, rfl⟩ | ⟨e1, rfl, rfl, rfl⟩ | ⟨e1, rfl, rfl, rfl, rfl⟩ | ⟨e1, rfl, rfl, rfl, rfl⟩
    all_goals
      go_enter Tryd.func52, Tryd.ntmps52
      go_wp2_with fail
      rw [← hwa, ← hb]
      clear hwa hb
      refine HF.out.mono ?_
      rintro r0 w1 ⟨rfl, rfl⟩
      go_wp2_with fail
      go_quiet (fail)
      go_wp2_with fail
      refine (HQ.out _).mono ?_
      rintro r0 w1 ⟨rfl, rfl⟩
      go_wp2_with fail
      refine (HLn.out _ _ (H1.out.drewN nq)).mono ?_
      rintro r0 w2 ⟨rfl, h2⟩
      clear c0 c1 c2 c3 c4
      obtain ⟨c0, c1, c2, c3, c4⟩ := op_cells h2
      have H2 := Lib.hid h2.drop
      clear h2
      go_wp2_with ((refine (HC.out _).mono ?_; rintro r0 w1 ⟨rfl, rfl⟩))
      go_ret
      exact ⟨rfl, H2.out⟩
  · rcases hc with rfl | rfl | rfl | rfl | rfl | rfl
    · rw [show skuB 5 sku = nameB sku.1 from rfl, show ordB 5 ord = (ord == 0) from rfl, show linB 5 ls = ((ls.length : Int) == 0) from rfl] at hp
      generalize nameB sku.1 = b1 at *
      generalize cntB 5 n = b3 at *
      rcases hp with ⟨rfl, rfl⟩ | ⟨rfl, e2, rfl⟩ | ⟨rfl, e2, rfl, rfl⟩ | ⟨rfl, e2, rfl, e4, rfl⟩ | ⟨rfl, e2, rfl, e4, rfl⟩
      all_goals
        go_enter Tryd.func52, Tryd.ntmps52
        go_wp2_with fail
        rw [← hwa, ← hb]
        clear hwa hb
        refine HF.out.mono ?_
        rintro r0 w1 ⟨rfl, rfl⟩
        go_wp2_with fail
        go_quiet (fail)
        go_wp2_with fail
        refine (HNm.out _).mono ?_
        rintro r0 w1 ⟨rfl, rfl⟩
        go_wp2_with ((refine (HC.out _).mono ?_; rintro r0 w1 ⟨rfl, rfl⟩))
        go_ret
        exact ⟨rfl, H1.out.drop.drewN nq⟩
    · rw [show skuB 9 sku = nameB sku.1 from rfl, show ordB 9 ord = (ord == 0) from rfl, show linB 9 ls = ((ls.length : Int) == 0) from rfl] at hp
      generalize nameB sku.1 = b1 at *
      generalize cntB 9 n = b3 at *
      rcases hp with ⟨rfl, rfl⟩ | ⟨rfl, e2, rfl⟩ | ⟨rfl, e2, rfl, rfl⟩ | ⟨rfl, e2, rfl, e4, rfl⟩ | ⟨rfl, e2, rfl, e4, rfl⟩
      all_goals
        go_enter Tryd.func52, Tryd.ntmps52
        go_wp2_with fail
        rw [← hwa, ← hb]
        clear hwa hb
        refine HF.out.mono ?_
        rintro r0 w1 ⟨rfl, rfl⟩
        go_wp2_with fail
        go_quiet (fail)
        go_wp2_with fail
        refine (HNm.out _).mono ?_
        rintro r0 w1 ⟨rfl, rfl⟩
        go_wp2_with ((refine (HC.out _).mono ?_; rintro r0 w1 ⟨rfl, rfl⟩))
        go_ret
        exact ⟨rfl, H1.out.drop.drewN nq⟩
    · exact absurd rfl h22
    · rw [show skuB 2 sku = sku.1.toList.isEmpty from rfl, show ordB 2 ord = qtyB ord from rfl, show linB 2 ls = ((ls.length : Int) == 0) from rfl] at hp
      generalize qtyB ord = b2 at *
      generalize cntB 2 n = b3 at *
      rcases hp with ⟨e1, rfl⟩ | ⟨e1, rfl, rfl⟩ | ⟨e1, rfl, rfl, rfl⟩ | ⟨e1, rfl, rfl, e4, rfl⟩ | ⟨e1, rfl, rfl, e4, rfl⟩
      all_goals
        go_enter Tryd.func52, Tryd.ntmps52
        go_wp2_with fail
        rw [← hwa, ← hb]
        clear hwa hb
        refine HF.out.mono ?_
        rintro r0 w1 ⟨rfl, rfl⟩
        go_wp2_with fail
        go_quiet (fail)
        go_wp2_with fail
        refine (HQ.out _).mono ?_
        rintro r0 w1 ⟨rfl, rfl⟩
        go_wp2_with ((refine (HC.out _).mono ?_; rintro r0 w1 ⟨rfl, rfl⟩))
        go_ret
        exact ⟨rfl, H1.out.drop.drewN nq⟩
    · rw [show skuB 4 sku = sku.1.toList.isEmpty from rfl, show ordB 4 ord = (ord == 0) from rfl, show linB 4 ls = ((ls.length : Int) == 0) from rfl] at hp
      generalize cntB 4 n = b3 at *
      rcases hp with ⟨e1, rfl⟩ | ⟨e1, e2, rfl⟩ | ⟨e1, e2, rfl, rfl⟩ | ⟨e1, e2, rfl, e4, rfl⟩ | ⟨e1, e2, rfl, e4, rfl⟩
      all_goals
        go_enter Tryd.func52, Tryd.ntmps52
        go_wp2_with fail
        rw [← hwa, ← hb]
        clear hwa hb
        refine HF.out.mono ?_
        rintro r0 w1 ⟨rfl, rfl⟩
        go_wp2_with fail
        go_quiet (fail)
        go_wp2_with ((refine (HC.out _).mono ?_; rintro r0 w1 ⟨rfl, rfl⟩))
        go_ret
        exact ⟨rfl, H1.out.drop.drewN nq⟩
    · rw [show skuB 1 sku = nameB sku.1 from rfl, show ordB 1 ord = (ord == 0) from rfl, show linB 1 ls = ((ls.length : Int) == 0) from rfl] at hp
      generalize nameB sku.1 = b1 at *
      generalize cntB 1 n = b3 at *
      rcases hp with ⟨rfl, rfl⟩ | ⟨rfl, e2, rfl⟩ | ⟨rfl, e2, rfl, rfl⟩ | ⟨rfl, e2, rfl, e4, rfl⟩ | ⟨rfl, e2, rfl, e4, rfl⟩
      all_goals
        go_enter Tryd.func52, Tryd.ntmps52
        go_wp2_with fail
        rw [← hwa, ← hb]
        clear hwa hb
        refine HF.out.mono ?_
        rintro r0 w1 ⟨rfl, rfl⟩
        go_wp2_with fail
        go_quiet (fail)
        go_wp2_with fail
        refine (HNm.out _).mono ?_
        rintro r0 w1 ⟨rfl, rfl⟩
        go_wp2_with ((refine (HC.out _).mono ?_; rintro r0 w1 ⟨rfl, rfl⟩))
        go_ret
        exact ⟨rfl, H1.out.drop.drewN nq⟩
set_option maxRecDepth 100000 in
set_option maxHeartbeats 1000000 in
theorem check_zero (k : Int) (sku : KS) (ord n : Int) (v : Value) (ls : List Ln) (w : World) (hh : fieldsOf k = 0) (hv : LnS w v ls) (hk : KindsAt w) :
    Calls Tryd.prog 52 #[.agg #[.int .i64 k, .string sku.1, .int .i64 ord, .int .i64 n, v]] w fun e w' => e = .returned (.int .i64 2) ∧ Sep w [] w' := by
  obtain ⟨a, c, rfl⟩ := hv.len
  have h1 := (Sep.start w).alloc (.cells (opCells k sku ord n (.slice a ls.length c)) 33)
  obtain ⟨b, hb⟩ : ∃ z, z = w.heap.size := ⟨_, rfl⟩
  obtain ⟨wa, hwa⟩ : ∃ z, z = w.alloc (.cells (opCells k sku ord n (.slice a ls.length c)) 33) := ⟨_, rfl⟩
  rw [← hb, ← hwa] at h1
  have hF : Calls Tryd.prog 57 #[.int .i64 k] wa fun e w' => e = .returned (.int .i64 0) ∧ wa = w' := by
    have := fields_any k wa (hk.below h1.low)
    rwa [hh] at this
  have HF := Lib.hid hF
  obtain ⟨c0, c1, c2, c3, c4⟩ := op_cells h1
  have H1 := Lib.hid h1
  unfold opCells at hwa
  clear h1 hv hk hF hh
  go_enter Tryd.func52, Tryd.ntmps52
  go_wp2_with fail
  rw [← hwa, ← hb]
  clear hwa hb
  refine HF.out.mono ?_
  rintro r0 w1 ⟨rfl, rfl⟩
  go_wp2_with fail
  go_quiet (fail)
  go_wp2_with fail
  go_ret
  exact ⟨rfl, H1.out.drop.drewN nq⟩
theorem check_any {w0 w : World} {L : List Thing} (k : Int) (sku : KS) (ord n : Int) (v : Value) (ls : List Ln) (h : Sep w0 L w) (hv : LnS w v ls) (hk : KindsAt w) :
    Calls Tryd.prog 52 #[.agg #[.int .i64 k, .string sku.1, .int .i64 ord, .int .i64 n, v]] w fun e w' => e = .returned (.int .i64 (if okB k sku ord n ls then 0 else 2)) ∧ Sep w0 L w' := by
  rcases fields_cls k with h0 | hc
  · refine (check_zero k sku ord n v ls w h0 hv hk).mono ?_
    rintro e w' ⟨rfl, h1⟩
    refine ⟨?_, h.below h1.low⟩
    simp [okB, h0]
  · refine (check_cls (fieldsOf k) k sku ord n v ls w rfl hc hv hk).mono ?_
    rintro e w' ⟨rfl, h1⟩
    refine ⟨?_, h.below h1.low⟩
    have h0 : (fieldsOf k != 0) = true := by
      rcases hc with h | h | h | h | h | h <;> rw [h] <;> rfl
    simp [okB, h0]
end Go.Proofs.YtcnbmeiielkigaaDoor
