/- Package item: Check, CheckRes. -/
import Derived.Test.YtafkbodmiblbnaaDoorMZ04
import Derived.Test.YtafkbodmiblbnaaDoorMZ01
namespace Go.Proofs.YtafkbodmiblbnaaDoor
open Go.RowKit
set_option linter.unusedVariables false
set_option linter.unusedSimpArgs false
def skuB (h : Int) (sku : KS) : Bool := if h = 5 ∨ h = 9 ∨ h = 1 then nameB sku.1 else sku.1.toList.isEmpty
def ordB (h ord : Int) : Bool := if h = 22 ∨ h = 2 then qtyB ord else (ord == 0)
def linB (h : Int) (ls : List Ln) : Bool := if h = 22 then linesB ls else ((ls.length : Int) == 0)
/-- May this op be? -/
def okB (k : Int) (sku : KS) (ord n : Int) (ls : List Ln) : Bool := (fieldsOf k != 0) && skuB (fieldsOf k) sku && ordB (fieldsOf k) ord && cntB (fieldsOf k) n && linB (fieldsOf k) ls
theorem fields_cls (k : Int) : fieldsOf k = 0 ∨ Cls (fieldsOf k) := by
  unfold fieldsOf
  split
  · have : k.toNat = 0 ∨ k.toNat = 1 ∨ k.toNat = 2 ∨ k.toNat = 3 ∨ k.toNat = 4 ∨ k.toNat = 5 ∨ k.toNat = 6 ∨ k.toNat = 7 ∨ k.toNat = 8 ∨ k.toNat = 9 := by omega
    rcases this with h | h | h | h | h | h | h | h | h | h <;> rw [h] <;> simp [kindsL, Cls]
  · exact .inl rfl
def opCells (k : Int) (sku : KS) (ord n : Int) (v : Value) : Array Value := #[.int .i64 k, .string sku.1, .int .i64 ord, .int .i64 n, v]
theorem op_cells {w0 w : World} {b : Nat} {k : Int} {sku : KS} {ord n : Int} {v : Value} {L : List Thing} (h : Sep w0 (Cl b (opCells k sku ord n v) 30 :: L) w) :
    w.cell? ⟨b, 0, none⟩ = some (.int .i64 k) ∧ w.cell? ⟨b, 1, none⟩ = some (.string sku.1) ∧ w.cell? ⟨b, 2, none⟩ = some (.int .i64 ord) ∧ w.cell? ⟨b, 3, none⟩ = some (.int .i64 n) ∧ w.cell? ⟨b, 4, none⟩ = some v :=
  ⟨h.cell rfl, h.cell rfl, h.cell rfl, h.cell rfl, h.cell rfl⟩
set_option maxRecDepth 100000 in
set_option maxHeartbeats 2000000 in
theorem check_cls (h k : Int) (sku : KS) (ord n : Int) (v : Value) (ls : List Ln) (w : World) (hh : fieldsOf k = h) (hc : Cls h) (hv : LnS w v ls) (hk : KindsAt w) :
    Calls Tryd.prog 71 #[.agg #[.int .i64 k, .string sku.1, .int .i64 ord, .int .i64 n, v]] w fun e w' => e = .returned (.int .i64 (if skuB h sku && ordB h ord && cntB h n && linB h ls then 0 else 2)) ∧ Sep w [] w' := by
  obtain ⟨a, c, rfl⟩ := hv.len
  have h1 := (Sep.start w).alloc (.cells (opCells k sku ord n (.slice a ls.length c)) 30)
  obtain ⟨b, hb⟩ : ∃ z, z = w.heap.size := ⟨_, rfl⟩
  obtain ⟨wa, hwa⟩ : ∃ z, z = w.alloc (.cells (opCells k sku ord n (.slice a ls.length c)) 30) := ⟨_, rfl⟩
  rw [← hb, ← hwa] at h1
  have hF : ∀ wx, Below w.heap.size w wx → Calls Tryd.prog 72 #[.int .i64 k] wx fun e w' => e = .returned (.int .i64 h) ∧ wx = w' := fun wx hb => by
    have := fields_any k wx (hk.below hb)
    rwa [hh] at this
  have HF := Lib.hid (hF wa h1.low)
  have HLn : Hid (∀ wx M, Sep w M wx → Calls Tryd.prog 85 #[.slice a ls.length c] wx fun e w' => e = .returned (.bool (linesB ls)) ∧ Sep w M w') := Lib.hid fun wx M hx => areLines_any _ ls hx (hv.below hx.low)
  have HNm := Lib.hid (fun wx => name_any sku.1 wx sku.2)
  have HQ := Lib.hid (fun wx => isQty_any ord wx)
  have HC := Lib.hid (fun wx => isCount_any h n wx hc)
  obtain ⟨c0, c1, c2, c3, c4⟩ := op_cells h1
  have H1 := Lib.hid h1
  have HA := Lib.hid (op_cells (h1.drewN 1))
  unfold opCells at hwa
  clear h1 hv hk hF hh
  obtain ⟨r, hr, hp⟩ : ∃ r : Int, r = (if skuB h sku && ordB h ord && cntB h n && linB h ls then 0 else 2) ∧ ((skuB h sku = false ∧ r = 2) ∨ (skuB h sku = true ∧ ordB h ord = false ∧ r = 2) ∨ (skuB h sku = true ∧ ordB h ord = true ∧ cntB h n = false ∧ r = 2) ∨ (skuB h sku = true ∧ ordB h ord = true ∧ cntB h n = true ∧ linB h ls = false ∧ r = 2) ∨ (skuB h sku = true ∧ ordB h ord = true ∧ cntB h n = true ∧ linB h ls = true ∧ r = 0)) := by
    refine ⟨_, rfl, ?_⟩
    cases skuB h sku <;> cases ordB h ord <;> cases cntB h n <;> cases linB h ls <;> simp
  rw [← hr]
  clear hr
  by_cases h22 : h = 22
  · subst h22
    clear hc
    rw [show skuB 22 sku = sku.1.toList.isEmpty from rfl, show ordB 22 ord = qtyB ord from rfl, show linB 22 ls = linesB ls from rfl] at hp
    generalize linesB ls = b4 at *
    generalize cntB 22 n = b3 at *
    generalize qtyB ord = b2 at *
    rcases hp with ⟨e1, rfl⟩ | ⟨e1, rfl, rfl⟩ | ⟨e1, rfl, rfl, rfl⟩ | ⟨e1, rfl, rfl, rfl, rfl⟩ | ⟨e1, rfl, rfl, rfl, rfl⟩
    all_goals
      go_enter Tryd.func71, Tryd.ntmps71
      go_wp2_with fail
      rw [← hwa, ← hb]
      clear hwa hb
      refine HF.out.mono ?_
      rintro r0 w1 ⟨rfl, rfl⟩
      go_wp2_with fail
      go_quiet (fail)
      go_wp2_with fail
      refine (HQ.out _).mono ?_
      rintro r0 w1 ⟨rfl, rfl⟩
      go_wp2_with fail
      refine (HLn.out _ _ (H1.out.drewN nq)).mono ?_
      rintro r0 w2 ⟨rfl, h2⟩
      clear c0 c1 c2 c3 c4
      obtain ⟨c0, c1, c2, c3, c4⟩ := op_cells h2
      have H2 := Lib.hid h2.drop
      clear h2
      go_wp2_with ((refine (HC.out _).mono ?_; rintro r0 w1 ⟨rfl, rfl⟩))
      go_ret
      exact ⟨rfl, H2.out⟩
  · rcases hc with rfl | rfl | rfl | rfl | rfl | rfl
    · rw [show skuB 5 sku = nameB sku.1 from rfl, show ordB 5 ord = (ord == 0) from rfl, show linB 5 ls = ((ls.length : Int) == 0) from rfl] at hp
      generalize nameB sku.1 = b1 at *
      generalize cntB 5 n = b3 at *
      rcases hp with ⟨rfl, rfl⟩ | ⟨rfl, e2, rfl⟩ | ⟨rfl, e2, rfl, rfl⟩ | ⟨rfl, e2, rfl, e4, rfl⟩ | ⟨rfl, e2, rfl, e4, rfl⟩
      all_goals
        go_enter Tryd.func71, Tryd.ntmps71
        go_wp2_with fail
        rw [← hwa, ← hb]
        clear hwa hb
        refine HF.out.mono ?_
        rintro r0 w1 ⟨rfl, rfl⟩
        go_wp2_with fail
        go_quiet (fail)
        go_wp2_with fail
        refine (HNm.out _).mono ?_
        rintro r0 w1 ⟨rfl, rfl⟩
        go_wp2_with ((refine (HC.out _).mono ?_; rintro r0 w1 ⟨rfl, rfl⟩))
        go_ret
        exact ⟨rfl, H1.out.drop.drewN nq⟩
    · rw [show skuB 9 sku = nameB sku.1 from rfl, show ordB 9 ord = (ord == 0) from rfl, show linB 9 ls = ((ls.length : Int) == 0) from rfl] at hp
      generalize nameB sku.1 = b1 at *
      generalize cntB 9 n = b3 at *
      rcases hp with ⟨rfl, rfl⟩ | ⟨rfl, e2, rfl⟩ | ⟨rfl, e2, rfl, rfl⟩ | ⟨rfl, e2, rfl, e4, rfl⟩ | ⟨rfl, e2, rfl, e4, rfl⟩
      all_goals
        go_enter Tryd.func71, Tryd.ntmps71
        go_wp2_with fail
        rw [← hwa, ← hb]
        clear hwa hb
        refine HF.out.mono ?_
        rintro r0 w1 ⟨rfl, rfl⟩
        go_wp2_with fail
        go_quiet (fail)
        go_wp2_with fail
        refine (HNm.out _).mono ?_
        rintro r0 w1 ⟨rfl, rfl⟩
        go_wp2_with ((refine (HC.out _).mono ?_; rintro r0 w1 ⟨rfl, rfl⟩))
        go_ret
        exact ⟨rfl, H1.out.drop.drewN nq⟩
    · exact absurd rfl h22
    · rw [show skuB 2 sku = sku.1.toList.isEmpty from rfl, show ordB 2 ord = qtyB ord from rfl, show linB 2 ls = ((ls.length : Int) == 0) from rfl] at hp
      generalize qtyB ord = b2 at *
      generalize cntB 2 n = b3 at *
      rcases hp with ⟨e1, rfl⟩ | ⟨e1, rfl, rfl⟩ | ⟨e1, rfl, rfl, rfl⟩ | ⟨e1, rfl, rfl, e4, rfl⟩ | ⟨e1, rfl, rfl, e4, rfl⟩
      all_goals
        go_enter Tryd.func71, Tryd.ntmps71
        go_wp2_with fail
        rw [← hwa, ← hb]
        clear hwa hb
        refine HF.out.mono ?_
        rintro r0 w1 ⟨rfl, rfl⟩
        go_wp2_with fail
        go_quiet (fail)
        go_wp2_with fail
        refine (HQ.out _).mono ?_
        rintro r0 w1 ⟨rfl, rfl⟩
        go_wp2_with ((refine (HC.out _).mono ?_; rintro r0 w1 ⟨rfl, rfl⟩))
        go_ret
        exact ⟨rfl, H1.out.drop.drewN nq⟩
    · rw [show skuB 4 sku = sku.1.toList.isEmpty from rfl, show ordB 4 ord = (ord == 0) from rfl, show linB 4 ls = ((ls.length : Int) == 0) from rfl] at hp
      generalize cntB 4 n = b3 at *
      rcases hp with ⟨e1, rfl⟩ | ⟨e1, e2, rfl⟩ | ⟨e1, e2, rfl, rfl⟩ | ⟨e1, e2, rfl, e4, rfl⟩ | ⟨e1, e2, rfl, e4, rfl⟩
      all_goals
        go_enter Tryd.func71, Tryd.ntmps71
        go_wp2_with fail
        rw [← hwa, ← hb]
        clear hwa hb
        refine HF.out.mono ?_
        rintro r0 w1 ⟨rfl, rfl⟩
        go_wp2_with fail
        go_quiet (fail)
        go_wp2_with ((refine (HC.out _).mono ?_; rintro r0 w1 ⟨rfl, rfl⟩))
        go_ret
        exact ⟨rfl, H1.out.drop.drewN nq⟩
    · rw [show skuB 1 sku = nameB sku.1 from rfl, show ordB 1 ord = (ord == 0) from rfl, show linB 1 ls = ((ls.length : Int) == 0) from rfl] at hp
      generalize nameB sku.1 = b1 at *
      generalize cntB 1 n = b3 at *
      rcases hp with ⟨rfl, rfl⟩ | ⟨rfl, e2, rfl⟩ | ⟨rfl, e2, rfl, rfl⟩ | ⟨rfl, e2, rfl, e4, rfl⟩ | ⟨rfl, e2, rfl, e4, rfl⟩
      all_goals
        go_enter Tryd.func71, Tryd.ntmps71
        go_wp2_with fail
        rw [← hwa, ← hb]
        clear hwa hb
        refine HF.out.mono ?_
        rintro r0 w1 ⟨rfl, rfl⟩
        go_wp2_with fail
        go_quiet (fail)
        go_wp2_with fail
        refine (HNm.out _).mono ?_
        rintro r0 w1 ⟨rfl, rfl⟩
        go_wp2_with ((refine (HC.out _).mono ?_; rintro r0 w1 ⟨rfl, rfl⟩))
        go_ret
        exact ⟨rfl, H1.out.drop.drewN nq⟩
set_option maxRecDepth 100000 in
set_option maxHeartbeats 1000000 in
theorem check_zero (k : Int) (sku : KS) (ord n : Int) (v : Value) (ls : List Ln) (w : World) (hh : fieldsOf k = 0) (hv : LnS w v ls) (hk : KindsAt w) :
    Calls Tryd.prog 71 #[.agg #[.int .i64 k, .string sku.1, .int .i64 ord, .int .i64 n, v]] w fun e w' => e = .returned (.int .i64 2) ∧ Sep w [] w' := by
  obtain ⟨a, c, rfl⟩ := hv.len
  have h1 := (Sep.start w).alloc (.cells (opCells k sku ord n (.slice a ls.length c)) 30)
  obtain ⟨b, hb⟩ : ∃ z, z = w.heap.size := ⟨_, rfl⟩
  obtain ⟨wa, hwa⟩ : ∃ z, z = w.alloc (.cells (opCells k sku ord n (.slice a ls.length c)) 30) := ⟨_, rfl⟩
  rw [← hb, ← hwa] at h1
  have hF : Calls Tryd.prog 72 #[.int .i64 k] wa fun e w' => e = .returned (.int .i64 0) ∧ wa = w' := by
    have := fields_any k wa (hk.below h1.low)
    rwa [hh] at this
  have HF := Lib.hid hF
  obtain ⟨c0, c1, c2, c3, c4⟩ := op_cells h1
  have H1 := Lib.hid h1
  unfold opCells at hwa
  clear h1 hv hk hF hh
  go_enter Tryd.func71, Tryd.ntmps71
  go_wp2_with fail
  rw [← hwa, ← hb]
  clear hwa hb
  refine HF.out.mono ?_
  rintro r0 w1 ⟨rfl, rfl⟩
  go_wp2_with fail
  go_quiet (fail)
  go_wp2_with fail
  go_ret
  exact ⟨rfl, H1.out.drop.drewN nq⟩
theorem check_any {w0 w : World} {L : List Thing} (k : Int) (sku : KS) (ord n : Int) (v : Value) (ls : List Ln) (h : Sep w0 L w) (hv : LnS w v ls) (hk : KindsAt w) :
    Calls Tryd.prog 71 #[.agg #[.int .i64 k, .string sku.1, .int .i64 ord, .int .i64 n, v]] w fun e w' => e = .returned (.int .i64 (if okB k sku ord n ls then 0 else 2)) ∧ Sep w0 L w' := by
  rcases fields_cls k with h0 | hc
  · refine (check_zero k sku ord n v ls w h0 hv hk).mono ?_
    rintro e w' ⟨rfl, h1⟩
    refine ⟨?_, h.below h1.low⟩
    simp [okB, h0]
  · refine (check_cls (fieldsOf k) k sku ord n v ls w rfl hc hv hk).mono ?_
    rintro e w' ⟨rfl, h1⟩
    refine ⟨?_, h.below h1.low⟩
    have h0 : (fieldsOf k != 0) = true := by
      rcases hc with h | h | h | h | h | h <;> rw [h] <;> rfl
    simp [okB, h0]
end Go.Proofs.YtafkbodmiblbnaaDoor
/- Things beside each other, picked by number: in another order, some left out. -/
namespace Go.Proofs.YtafkbodmiblbnaaDoor
open Go.RowKit
set_option linter.unusedVariables false
theorem Beside.perm {B : Nat} {w : World} {L M : List Thing} (hp : L.Perm M) : ∀ {G : Nat → Prop}, Beside B L w G → Beside B M w G := by
  induction hp with
  | nil => intro G h; exact h
  | cons A _ ih => intro G h; exact h.under fun _ h => ih h
  | swap A A' L => intro G h; exact h.swap
  | trans _ _ ih1 ih2 => intro G h; exact ih2 (ih1 h)
theorem Sep.perm {w0 w : World} {L M : List Thing} (h : Sep w0 L w) (hp : L.Perm M) : Sep w0 M w :=
  ⟨h.low, fun X hX => h.loc X (hp.mem_iff.2 hX), h.all.perm hp⟩
theorem Sep.left {w0 w : World} {L M : List Thing} (h : Sep w0 (L ++ M) w) : Sep w0 M w := by
  induction L with
  | nil => exact h
  | cons A L ih => exact ih h.drop
/-- The things of M with the numbers is. -/
abbrev picks (M : List Thing) (is : List Nat) : List Thing := is.map fun i => M.getD i (Fact True)
/-- Those left out. -/
def rest (M : List Thing) (is : List Nat) : List Thing := ((List.range M.length).filter fun i => !is.contains i).map fun i => M.getD i (Fact True)
theorem range_picks (M : List Thing) : (List.range M.length).map (fun i => M.getD i (Fact True)) = M := by
  apply List.ext_getElem
  · simp
  · intro i h1 h2
    simp at h1
    simp [List.getD_eq_getElem?_getD, h1]
def nodupB : List Nat → Bool
  | [] => true
  | a :: l => !l.contains a && nodupB l
theorem nodupB_spec {l : List Nat} (h : nodupB l = true) : l.Nodup := by
  induction l with
  | nil => exact List.nodup_nil
  | cons a l ih =>
    simp only [nodupB, Bool.and_eq_true, Bool.not_eq_true'] at h
    refine List.nodup_cons.2 ⟨fun hm => ?_, ih h.2⟩
    have := h.1
    simp [hm] at this
/-- Each number of is is below n, and stands there once. -/
def okPick (n : Nat) (is : List Nat) : Bool := is.all (fun i => decide (i < n)) && nodupB is
theorem perm_of_pick {n : Nat} {is : List Nat} (h : okPick n is = true) : (List.range n).Perm (is ++ (List.range n).filter fun i => !is.contains i) := by
  simp only [okPick, Bool.and_eq_true, List.all_eq_true, decide_eq_true_eq] at h
  have hnd := nodupB_spec h.2
  have h1 : ((List.range n).filter fun i => is.contains i).Perm is := by
    rw [List.perm_ext_iff_of_nodup (List.nodup_range.filter _) hnd]
    intro a
    simp only [List.mem_filter, List.mem_range, List.contains_iff_mem]
    exact ⟨fun ha => ha.2, fun ha => ⟨h.1 a ha, ha⟩⟩
  exact (List.filter_append_perm (fun i => is.contains i) (List.range n)).symm.trans (h1.append_right _)
theorem Sep.pickL {w0 w : World} {M L : List Thing} (h : Sep w0 (M ++ L) w) (is : List Nat) (hk : okPick M.length is = true) : Sep w0 (picks M is ++ L) w := by
  have h1 : M.Perm (picks M is ++ rest M is) := by
    have h2 := (perm_of_pick hk).map (fun i => M.getD i (Fact True))
    rw [range_picks, List.map_append] at h2
    exact h2
  have h3 : (M ++ L).Perm (rest M is ++ (picks M is ++ L)) := by
    refine (h1.append_right L).trans ?_
    rw [← List.append_assoc]
    exact (List.perm_append_comm).append_right L
  exact (h.perm h3).left
theorem Sep.pick {w0 w : World} {M : List Thing} (h : Sep w0 M w) (is : List Nat) (hk : okPick M.length is = true) : Sep w0 (picks M is) w := by
  have h1 : Sep w0 (M ++ []) w := by rw [List.append_nil]; exact h
  have h2 := h1.pickL is hk
  rwa [List.append_nil] at h2
end Go.Proofs.YtafkbodmiblbnaaDoor
/- Package item: Same. -/
namespace Go.Proofs.YtafkbodmiblbnaaDoor
open Go.RowKit
set_option linter.unusedVariables false
set_option linter.unusedSimpArgs false
theorem str_ne {x y : ByteArray} (h : ¬ x = y) : (x.toList == y.toList) = false := by
  rw [beq_eq_false_iff_ne, ByteArray.toList_eq, ByteArray.toList_eq]
  exact fun e => h (ByteArray.ext (Array.toList_inj.mp e))
theorem takeL_succ {la lb : List Ln} {k : Nat} (h : la.take k = lb.take k) (ha : k < la.length) (hb : k < lb.length) (he : la[k] = lb[k]) : la.take (k + 1) = lb.take (k + 1) := by
  rw [List.take_succ_eq_append_getElem ha, List.take_succ_eq_append_getElem hb, h, he]
set_option maxRecDepth 100000 in
set_option maxHeartbeats 2000000 in
theorem equalL_any {w0 w : World} {L : List Thing} (va vb : Value) (la lb : List Ln) (hs : Sep w0 L w) (ha : LnS w va la) (hb : LnS w vb lb) (hl : la.length ≤ 9223372036854775807) :
    Calls Tryd.prog 80 #[va, vb] w fun e w' => e = .returned (.bool (decide (la = lb))) ∧ Sep w0 L w' := by
  obtain ⟨aa, ca, rfl⟩ := ha.len
  obtain ⟨ab, cb, rfl⟩ := hb.len
  have HA := Lib.hid ha
  have HB := Lib.hid hb
  have HS := Lib.hid hs
  clear ha hb hs
  by_cases hne : la.length = lb.length
  · have hn : (((la.length : Nat) : Int) != ((lb.length : Nat) : Int)) = false := by simp [hne]
    have hn' : (la.length != lb.length) = false := by simp [hne]
    have HN := Lib.hid hne
    obtain ⟨r, hr⟩ : ∃ r : Bool, r = decide (la = lb) := ⟨_, rfl⟩
    rw [← hr]
    have HR := Lib.hid hr
    clear hne hr
    go_enter Tryd.func80, Tryd.ntmps80
    go_wp2_with fail
    go_loopw [13] (fun i wr => ∃ k m : Nat, k ≤ la.length ∧ i = .int .i64 k ∧ la.take k = lb.take k ∧ wr = w.drewN m) (fun i _ => la.length - (intOf i).toNat)
    case atStart => exact ⟨0, 0, by omega, rfl, rfl, rfl⟩
    case round =>
      obtain ⟨k, m, hk, rfl, ht, rfl⟩ := hrel
      have k0 : (0 : Int) ≤ (k : Int) := by omega
      have kb : (k : Int) ≤ 9223372036854775807 := by omega
      by_cases hkn : k < la.length
      · have hd : decide (k < la.length) = true := decide_eq_true hkn
        have hkb : k < lb.length := by have := HN.out; omega
        have k1 : (k : Int) < (la.length : Int) := by omega
        have k2 : (k : Int) < (lb.length : Int) := by omega
        obtain ⟨-, -, -, b1, o1, rfl, -, hc1⟩ := HA.out.at hkn
        obtain ⟨-, -, -, b2, o2, rfl, -, hc2⟩ := HB.out.at hkb
        obtain ⟨c0, c1⟩ := hc1 w (Below.refl _ w)
        obtain ⟨d0, d1⟩ := hc2 w (Below.refl _ w)
        by_cases he : la[k] = lb[k]
        · have HT := Lib.hid (takeL_succ ht hkn hkb he)
          rw [← he] at d0 d1
          generalize la[k] = z at *
          clear ht hc1 hc2 hkn hkb he
          go_wp2_with fail
          go_quiet (fail)
          go_wp2_with fail
          go_roundw
          case rel => exact ⟨k + 1, m + nq, of_decide_eq_true hd, by go_num, HT.out, by simp [World.drewN, Nat.add_assoc]⟩
          case measure => have hkn := of_decide_eq_true hd; simp [intOf]; omega
        · have HF : Hid (r = false) := Lib.hid (by
            rw [HR.out]
            exact decide_eq_false fun e => by subst e; exact he rfl)
          generalize la[k] = z at *
          generalize lb[k] = z' at *
          by_cases hs : z.1.1 = z'.1.1
          · have e2 : (z.2 == z'.2) = false := by
              rw [beq_eq_false_iff_ne]
              exact fun h => he (Prod.ext (Subtype.ext hs) h)
            rw [← hs] at d0
            clear ht hc1 hc2 hkn hkb he hs
            go_wp2_with fail
            go_quiet (fail)
            go_wp2_with fail
            go_ret
            rw [HF.out]
            exact ⟨rfl, (HS.out.drewN m).drewN nq⟩
          · have e3 : (z.1.1.toList == z'.1.1.toList) = false := str_ne hs
            have e4 : (z.1.1.toList != z'.1.1.toList) = true := by rw [bne, e3]; rfl
            clear ht hc1 hc2 hkn hkb he hs
            go_wp2_with fail
            go_quiet (fail)
            go_wp2_with fail
            go_ret
            rw [HF.out]
            exact ⟨rfl, (HS.out.drewN m).drewN nq⟩
      · have hd : decide (k < la.length) = false := decide_eq_false hkn
        have HF : Hid (r = true) := Lib.hid (by
          rw [HR.out]
          have hkl : k = la.length := by omega
          rw [hkl, List.take_length, HN.out, List.take_length] at ht
          exact decide_eq_true ht)
        clear ht hkn
        go_wp2_with fail
        go_ret
        rw [HF.out]
        exact ⟨rfl, HS.out.drewN m⟩
  · have hn : (((la.length : Nat) : Int) != ((lb.length : Nat) : Int)) = true := by rw [bne_iff_ne]; omega
    have hn' : (la.length != lb.length) = true := by rw [bne_iff_ne]; exact hne
    have hx : decide (la = lb) = false := decide_eq_false fun e => hne (by rw [e])
    rw [hx]
    clear hne hx
    go_enter Tryd.func80, Tryd.ntmps80
    go_wp2_with fail
    go_ret
    exact ⟨rfl, HS.out⟩
def sameB (k : Int) (s : KS) (o n : Int) (ls : List Ln) (k' : Int) (s' : KS) (o' n' : Int) (ls' : List Ln) : Bool := decide (k = k') && decide (s.1 = s'.1) && decide (o = o') && decide (n = n') && decide (ls = ls')
set_option maxRecDepth 100000 in
set_option maxHeartbeats 4000000 in
theorem same_any {w0 w : World} {L : List Thing} (k : Int) (s : KS) (o n : Int) (v : Value) (ls : List Ln) (k' : Int) (s' : KS) (o' n' : Int) (v' : Value) (ls' : List Ln) (h : Sep w0 L w) (hv : LnS w v ls) (hv' : LnS w v' ls') (hl : ls.length ≤ 9223372036854775807) :
    Calls Tryd.prog 63 #[.agg #[.int .i64 k, .string s.1, .int .i64 o, .int .i64 n, v], .agg #[.int .i64 k', .string s'.1, .int .i64 o', .int .i64 n', v']] w fun e w' => e = .returned (.bool (sameB k s o n ls k' s' o' n' ls')) ∧ Sep w0 L w' := by
  suffices hh : Calls Tryd.prog 63 #[.agg #[.int .i64 k, .string s.1, .int .i64 o, .int .i64 n, v], .agg #[.int .i64 k', .string s'.1, .int .i64 o', .int .i64 n', v']] w fun e w' => e = .returned (.bool (sameB k s o n ls k' s' o' n' ls')) ∧ Sep w [] w' from hh.mono fun e w' ⟨h1, h2⟩ => ⟨h1, h.below h2.low⟩
  clear h
  obtain ⟨a, c, rfl⟩ := hv.len
  obtain ⟨a', c', rfl⟩ := hv'.len
  obtain ⟨wa, hwa⟩ : ∃ z, z = (w.alloc (.cells (opCells k s o n (.slice a ls.length c)) 30)).alloc (.cells (opCells k' s' o' n' (.slice a' ls'.length c')) 30) := ⟨_, rfl⟩
  have h1 := ((Sep.start w).alloc (.cells (opCells k s o n (.slice a ls.length c)) 30)).alloc (.cells (opCells k' s' o' n' (.slice a' ls'.length c')) 30)
  rw [← hwa] at h1
  rw [show (w.alloc (.cells (opCells k s o n (.slice a ls.length c)) 30)).heap.size = w.heap.size + 1 by simp] at h1
  have HE := Lib.hid (equalL_any _ _ ls ls' (Sep.start wa) (hv.below h1.low) (hv'.below h1.low) hl)
  obtain ⟨c0, c1, c2, c3, c4⟩ := op_cells h1.sw2
  obtain ⟨d0, d1, d2, d3, d4⟩ := op_cells h1
  have HL := Lib.hid h1.low
  unfold opCells at hwa
  clear h1 hv hv'
  unfold sameB
  by_cases e0 : k = k'
  · subst e0
    rw [decide_eq_true rfl, Bool.true_and]
    by_cases e1 : s.1 = s'.1
    · rw [decide_eq_true e1, Bool.true_and]
      rw [← e1] at d1 hwa ⊢
      clear e1
      by_cases e2 : o = o'
      · subst e2
        rw [decide_eq_true rfl, Bool.true_and]
        by_cases e3 : n = n'
        · subst e3
          rw [decide_eq_true rfl, Bool.true_and]
          generalize decide (ls = ls') = r at *
          go_enter Tryd.func63, Tryd.ntmps63
          go_wp2_with fail
          rw [← hwa]
          clear hwa
          go_wp2_with fail
          refine HE.out.mono ?_
          rintro r0 w1 ⟨rfl, h2⟩
          have H2 := Lib.hid (HL.out.trans (h2.low.mono HL.out.size))
          clear h2
          go_wp2_with fail
          go_ret
          exact ⟨rfl, Sep.nil H2.out⟩
        · rw [decide_eq_false e3, Bool.false_and]
          have f : (n == n') = false := beq_eq_false_iff_ne.2 e3
          clear e3
          go_enter Tryd.func63, Tryd.ntmps63
          go_wp2_with fail
          rw [← hwa]
          clear hwa
          go_wp2_with fail
          go_ret
          exact ⟨rfl, Sep.nil HL.out⟩
      · rw [decide_eq_false e2, Bool.false_and, Bool.false_and]
        have f : (o == o') = false := beq_eq_false_iff_ne.2 e2
        clear e2
        go_enter Tryd.func63, Tryd.ntmps63
        go_wp2_with fail
        rw [← hwa]
        clear hwa
        go_wp2_with fail
        go_ret
        exact ⟨rfl, Sep.nil HL.out⟩
    · rw [decide_eq_false e1, Bool.false_and, Bool.false_and, Bool.false_and]
      have f := str_ne e1
      clear e1
      go_enter Tryd.func63, Tryd.ntmps63
      go_wp2_with fail
      rw [← hwa]
      clear hwa
      go_wp2_with fail
      go_ret
      exact ⟨rfl, Sep.nil HL.out⟩
  · rw [decide_eq_false e0, Bool.false_and, Bool.false_and, Bool.false_and, Bool.false_and]
    have f : (k == k') = false := beq_eq_false_iff_ne.2 e0
    clear e0
    go_enter Tryd.func63, Tryd.ntmps63
    go_wp2_with fail
    rw [← hwa]
    clear hwa
    go_wp2_with fail
    go_ret
    exact ⟨rfl, Sep.nil HL.out⟩
end Go.Proofs.YtafkbodmiblbnaaDoor
