/- Stage 5: made. -/
import Derived.Test.YtafkbodmiblbnaaDoorMMb12
namespace Go.Proofs.YtafkbodmiblbnaaDoor
open Go Go.RowKit
set_option linter.unusedVariables false
set_option linter.unusedSimpArgs false
theorem step_store_mid {P : Program} {ops : Array Oper} {op : Oper} {a : Act} {w : World} {K : Act → World → Prop} {Q : Exit → Act → World → Prop} {E : Prop} (hg : op.guard = none) (ty : TypeId) (x y : Operand) (ho : op.op = .store ty x y)
    (b o : Nat) (cells : Array Value) (hx : a.eval x = .pointer (some ⟨b, o, none⟩)) (hy : a.eval y = .agg cells)
    (ht : w.there b o cells.size) (hi : (P.info? ty).map (·.size) = some cells.size) (h1 : cells.all (·.oneCell') = true)
    (h : K (a.put op.dst undef) (w.setCells b o cells.toList)) : if Region.wanted op (yielded ops a.tmps) = true then Oper.wp P op a w K Q else E := by
  have hw : Region.wanted op (yielded ops a.tmps) = true := by simp [Region.wanted, hg]
  rw [if_pos hw]
  exact wp_store_mid ty x y ho b o cells hx hy ht hi h1 h
theorem holds0 (b : Bool) : holdsB b 0 = true := by unfold holdsB; rfl
theorem holds1 {b : Bool} {n : Int} (hb : b = true) (h : 0 ≤ n ∧ n ≤ 9007199254740991) : holdsB b n = true := by
  unfold holdsB
  split
  · rfl
  · rw [hb]; exact decide_eq_true h
theorem chk_mk {g : MgM} (hk : mfieldsOf g.k ≠ 0) (hf : 0 ≤ g.f ∧ g.f < 23) (ht : 0 ≤ g.t ∧ g.t < 23) (hv : holdsB (bit (mfieldsOf g.k) 1) g.v = true) (ho : holdsB (bit (mfieldsOf g.k) 2) g.o = true) (hcm : holdsB (bit (mfieldsOf g.k) 4) g.cm = true) (hla : holdsB (bit (mfieldsOf g.k) 8) g.la = true)
    (he : fEB (mfieldsOf g.k) g.en = true) (hr : fRB (mfieldsOf g.k) g.rc g.ra g.rb g.s = true) (hi : fIB (mfieldsOf g.k) g.ib g.ck g.ps g.ic = true) : chkB g = true := by
  unfold chkB
  rw [hv, ho, hcm, hla, he, hr, hi, show partB g.f = true from decide_eq_true hf, show partB g.t = true from decide_eq_true ht]
  simp [hk]
theorem img_mk {has ib ic : Int} {l : List UInt8} {ps : List (EnM × Value)} (hb : bit has 128 = true) (h : (0 ≤ ib ∧ ib < 1099511627776) ∧ ps.length ≤ 32 ∧ rowOk ps = true ∧ (ib ≤ ic ∧ ic ≤ ib + ps.length) ∧ l.length ≤ 300) : fIB has ib l ps ic = true := by
  obtain ⟨h1, h2, h3, h4, h5⟩ := h
  unfold fIB ckI
  rw [if_pos hb]
  unfold rowOk at h3
  rw [h3, show numB ib = true from decide_eq_true (by omega), decide_eq_true h4, decide_eq_true h2, decide_eq_true (show l.length ≤ 16384 by omega)]
  rfl
theorem zeroL {w0 w : World} {L : List Thing} (h : Sep w0 L w) : Sep w0 (LnR (.slice none 0 0) [] :: By (.slice none 0 0) [] :: EnT (.slice none 0 0) [] :: L) w := ((h.enNil).rnil _).rnNil 2 _
theorem zeroL2 {w0 w : World} {ls : List Ln} {L : List Thing} (hl : ls = []) (h : Sep w0 L w) : Sep w0 (LnR (.slice none 0 0) ls :: By (.slice none 0 0) [] :: EnT (.slice none 0 0) [] :: L) w := by subst hl; exact zeroL h
def MadeG (w0 : World) (L : List Thing) (e : Ending) (w' : World) : Prop := ∃ g, e = .returned (.agg (mgC g)) ∧ chkB g = true ∧ Sep w0 (LnR g.lv g.en.p.ls :: By g.cv g.ck :: EnT g.ev g.ps :: L) w'
set_option maxRecDepth 100000 in
set_option maxHeartbeats 64000000 in
theorem made05_any {w0 w : World} {L : List Thing} (s : SdM) (h : Sep w0 L w) (hs : ∀ wx, Sep w0 L wx → SdS wx s) : Calls Tryd.prog 7 #[.agg (sdC s)] w (MadeG w0 L) := by
  have h1 := (h.alloc (.cells (sdC s) 26)).alloc (.cells #[.int .i64 0, .int .i64 0, .int .i64 0, .int .i64 0, .int .i64 0, .int .i64 0, .int .i64 0, .int .i64 0, .int .i64 0, .int .i64 0, .string ⟨#[]⟩, .int .i64 0, .int .i64 0, .slice none 0 0, .int .i64 0, .int .i64 0, .int .i64 0, .bool false, .int .i64 0, .slice none 0 0, .slice none 0 0, .int .i64 0] 39)
  rw [show (w.alloc (.cells (sdC s) 26)).heap.size = w.heap.size + 1 by simp] at h1
  obtain ⟨b1, hb1⟩ : ∃ z, z = w.heap.size := ⟨_, rfl⟩
  obtain ⟨b2, hb2⟩ : ∃ z, z = w.heap.size + 1 := ⟨_, rfl⟩
  obtain ⟨w1, hw1⟩ : ∃ z, z = (w.alloc (.cells (sdC s) 26)).alloc (.cells #[.int .i64 0, .int .i64 0, .int .i64 0, .int .i64 0, .int .i64 0, .int .i64 0, .int .i64 0, .int .i64 0, .int .i64 0, .int .i64 0, .string ⟨#[]⟩, .int .i64 0, .int .i64 0, .slice none 0 0, .int .i64 0, .int .i64 0, .int .i64 0, .bool false, .int .i64 0, .slice none 0 0, .slice none 0 0, .int .i64 0] 39) := ⟨_, rfl⟩
  rw [← hw1, ← hb2, ← hb1] at h1
  have HSD := Lib.hid hs
  have HCK := Lib.hid (fun wx => bring_any s.k 10 wx (by unfold Sm; omega))
  have HCF := Lib.hid (fun wx => bring_any s.f 23 wx (by unfold Sm; omega))
  have HCT := Lib.hid (fun wx => bring_any s.t 23 wx (by unfold Sm; omega))
  have HCA := Lib.hid (fun wx => bring_any s.n0 1125899906842624 wx (by unfold Sm; omega))
  have HCB := Lib.hid (fun wx => bring_any s.n1 1125899906842624 wx (by unfold Sm; omega))
  have HCC := Lib.hid (fun wx => bring_any s.n2 1125899906842624 wx (by unfold Sm; omega))
  have hk : 0 ≤ s.k % 10 ∧ s.k % 10 < 10 := by omega
  have hf : 0 ≤ s.f % 23 ∧ s.f % 23 < 23 := by omega
  have ht : 0 ≤ s.t % 23 ∧ s.t % 23 < 23 := by omega
  have ha : 0 ≤ s.n0 % 1125899906842624 ∧ s.n0 % 1125899906842624 < 1125899906842624 := by omega
  have hb : 0 ≤ s.n1 % 1125899906842624 ∧ s.n1 % 1125899906842624 < 1125899906842624 := by omega
  have hc : 0 ≤ s.n2 % 1125899906842624 ∧ s.n2 % 1125899906842624 < 1125899906842624 := by omega
  generalize s.k % 10 = qk at *
  generalize s.f % 23 = qf at *
  generalize s.t % 23 = qt at *
  generalize s.n0 % 1125899906842624 = qa at *
  generalize s.n1 % 1125899906842624 = qb at *
  generalize s.n2 % 1125899906842624 = qc at *
  have e1 : IntKind.i64.wrap (1 + qk) = 1 + qk := IntWalk.i64_in _ (by omega)
  have HQ := Lib.hid (And.intro hf (And.intro ht (And.intro ha (And.intro hb hc))))
  have HQK := Lib.hid hk
  have s0 := h1.drew.sw2.cell (o := 0) (x := .int .i64 s.k) rfl
  have s1 := h1.drew.sw2.cell (o := 1) (x := .int .i64 s.f) rfl
  have s2 := h1.drew.sw2.cell (o := 2) (x := .int .i64 s.t) rfl
  have h2 := (h1.alloc (.cells #[.int .i64 0, .int .i64 0, .int .i64 0, .int .i64 0, .int .i64 0, .int .i64 0, .int .i64 0, .int .i64 0, .int .i64 0, .int .i64 0, .string ⟨#[]⟩, .int .i64 0, .int .i64 0, .slice none 0 0, .int .i64 0, .int .i64 0, .int .i64 0, .bool false, .int .i64 0, .slice none 0 0, .slice none 0 0, .int .i64 0] 39)).drew
  have t0 := h2.sw3.cell (o := 0) (x := .int .i64 s.k) rfl
  have t1 := h2.sw3.cell (o := 1) (x := .int .i64 s.f) rfl
  have t2 := h2.sw3.cell (o := 2) (x := .int .i64 s.t) rfl
  have HT3 := Lib.hid (h2.thereAt 0 22 (by show 22 ≤ 22; omega))
  have h3 := h2.storeW #[.int .i64 (1 + qk), .int .i64 qf, .int .i64 qt, .int .i64 0, .int .i64 0, .int .i64 0, .int .i64 0, .int .i64 0, .int .i64 0, .int .i64 0, .string ⟨#[]⟩, .int .i64 0, .int .i64 0, .slice none 0 0, .int .i64 0, .int .i64 0, .int .i64 0, .bool false, .int .i64 0, .slice none 0 0, .slice none 0 0, .int .i64 0] rfl
  have HSC : Hid ((sdC s).size = 9) := Lib.hid rfl
  obtain ⟨sdc, hsdc⟩ : ∃ z, z = sdC s := ⟨_, rfl⟩
  have HSD2 := Lib.hid hsdc
  have m3 : sdc[3]? = some (.int .i64 s.n0) := by rw [hsdc]; rfl
  have m4 : sdc[4]? = some (.int .i64 s.n1) := by rw [hsdc]; rfl
  have m5 : sdc[5]? = some (.int .i64 s.n2) := by rw [hsdc]; rfl
  have m6 : sdc[6]? = some (.int .i64 s.n3) := by rw [hsdc]; rfl
  rw [← hsdc] at HSC h3 hw1 ⊢
  have H3 := Lib.hid h3
  have HM := Lib.hid (And.intro m3 (And.intro m4 (And.intro m5 m6)))
  clear h h1 h2 h3 hs hk hf ht ha hb hc hsdc m3 m4 m5 m6
  go_enter Tryd.func7, Tryd.ntmps7
  (try dsimp only); repeat' (first | go_values | go_skip | go_guarded | go_step | go_upon | go_back)
  rw [← hw1, ← hb2, ← hb1]
  clear hw1 hb2 hb1
  refine wp_region_G (fun w' => w'.cell? ⟨b1, 0, none⟩ = some (.int .i64 s.k) ∧ w'.cell? ⟨b1, 1, none⟩ = some (.int .i64 s.f) ∧ w'.cell? ⟨b1, 2, none⟩ = some (.int .i64 s.t)) [12] (by kernel_rfl) ⟨s0, s1, s2⟩ (fun hS => ?_)
  try dsimp only at hS
  refine wpAnyG_take' (i := 0) (v := ?v0_1ra) rfl (by kernel_rfl) (by kernel_rfl) (by kernel_rfl) (by kernel_rfl) (fun _ _ _ h => h) (Or.inl ⟨by rfl, ?hy0_1ra⟩) hS ?rest0_1ra
  case hy0_1ra => intro w hSw; (try dsimp only at hSw); go_simp; (try with_reducible rfl)
  case rest0_1ra =>
  try simp only [List.getElem_toArray, List.getElem_cons_succ, List.getElem_cons_zero, Act.put, List.setIfInBounds_toArray, List.set_cons_zero, List.set_cons_succ]
  refine wpAnyG_take' (i := 1) (v := ?v1_2ra) rfl (by kernel_rfl) (by kernel_rfl) (by kernel_rfl) (by kernel_rfl) (fun _ _ _ h => h) (Or.inl ⟨by rfl, ?hy1_2ra⟩) hS ?rest1_2ra
  case hy1_2ra => intro w hSw; (try dsimp only at hSw); go_simp; (try with_reducible rfl)
  case rest1_2ra =>
  try simp only [List.getElem_toArray, List.getElem_cons_succ, List.getElem_cons_zero, Act.put, List.setIfInBounds_toArray, List.set_cons_zero, List.set_cons_succ]
  refine wpAnyG_call (i := 2) (v := .int .i64 qk) rfl (by kernel_rfl) (by kernel_rfl) (by kernel_rfl) (by kernel_rfl) (fun _ _ _ h => h) ⟨by rfl, fun wx hx => ⟨_, _, ?hr2ra, (HCK.out wx).mono fun e w' hh => ⟨hh.1, hh.2.symm⟩⟩⟩ hS ?rest2rac
  case hr2ra => go_simp; (try with_reducible rfl)
  case rest2rac =>
  try simp only [List.getElem_toArray, List.getElem_cons_succ, List.getElem_cons_zero, Act.put, List.setIfInBounds_toArray, List.set_cons_zero, List.set_cons_succ]
  refine wpAnyG_take' (i := 3) (v := ?v3_3ra) rfl (by kernel_rfl) (by kernel_rfl) (by kernel_rfl) (by kernel_rfl) (fun _ _ _ h => h) (Or.inl ⟨by rfl, ?hy3_3ra⟩) hS ?rest3_3ra
  case hy3_3ra => intro w hSw; (try dsimp only at hSw); go_simp; (try with_reducible rfl)
  case rest3_3ra =>
  try simp only [List.getElem_toArray, List.getElem_cons_succ, List.getElem_cons_zero, Act.put, List.setIfInBounds_toArray, List.set_cons_zero, List.set_cons_succ]
  refine wpAnyG_take' (i := 4) (v := ?v4_4ra) rfl (by kernel_rfl) (by kernel_rfl) (by kernel_rfl) (by kernel_rfl) (fun _ _ _ h => h) (Or.inl ⟨by rfl, ?hy4_4ra⟩) hS ?rest4_4ra
  case hy4_4ra => intro w hSw; (try dsimp only at hSw); go_simp; (try with_reducible rfl)
  case rest4_4ra =>
  try simp only [List.getElem_toArray, List.getElem_cons_succ, List.getElem_cons_zero, Act.put, List.setIfInBounds_toArray, List.set_cons_zero, List.set_cons_succ]
  refine wpAnyG_take' (i := 5) (v := ?v5_5ra) rfl (by kernel_rfl) (by kernel_rfl) (by kernel_rfl) (by kernel_rfl) (fun _ _ _ h => h) (Or.inl ⟨by rfl, ?hy5_5ra⟩) hS ?rest5_5ra
  case hy5_5ra => intro w hSw; (try dsimp only at hSw); go_simp; (try with_reducible rfl)
  case rest5_5ra =>
  try simp only [List.getElem_toArray, List.getElem_cons_succ, List.getElem_cons_zero, Act.put, List.setIfInBounds_toArray, List.set_cons_zero, List.set_cons_succ]
  refine wpAnyG_call (i := 6) (v := .int .i64 qf) rfl (by kernel_rfl) (by kernel_rfl) (by kernel_rfl) (by kernel_rfl) (fun _ _ _ h => h) ⟨by rfl, fun wx hx => ⟨_, _, ?hr6ra, (HCF.out wx).mono fun e w' hh => ⟨hh.1, hh.2.symm⟩⟩⟩ hS ?rest6rac
  case hr6ra => go_simp; (try with_reducible rfl)
  case rest6rac =>
  try simp only [List.getElem_toArray, List.getElem_cons_succ, List.getElem_cons_zero, Act.put, List.setIfInBounds_toArray, List.set_cons_zero, List.set_cons_succ]
  refine wpAnyG_take' (i := 7) (v := ?v7_6ra) rfl (by kernel_rfl) (by kernel_rfl) (by kernel_rfl) (by kernel_rfl) (fun _ _ _ h => h) (Or.inl ⟨by rfl, ?hy7_6ra⟩) hS ?rest7_6ra
  case hy7_6ra => intro w hSw; (try dsimp only at hSw); go_simp; (try with_reducible rfl)
  case rest7_6ra =>
  try simp only [List.getElem_toArray, List.getElem_cons_succ, List.getElem_cons_zero, Act.put, List.setIfInBounds_toArray, List.set_cons_zero, List.set_cons_succ]
  refine wpAnyG_take' (i := 8) (v := ?v8_7ra) rfl (by kernel_rfl) (by kernel_rfl) (by kernel_rfl) (by kernel_rfl) (fun _ _ _ h => h) (Or.inl ⟨by rfl, ?hy8_7ra⟩) hS ?rest8_7ra
  case hy8_7ra => intro w hSw; (try dsimp only at hSw); go_simp; (try with_reducible rfl)
  case rest8_7ra =>
  try simp only [List.getElem_toArray, List.getElem_cons_succ, List.getElem_cons_zero, Act.put, List.setIfInBounds_toArray, List.set_cons_zero, List.set_cons_succ]
  refine wpAnyG_call (i := 9) (v := .int .i64 qt) rfl (by kernel_rfl) (by kernel_rfl) (by kernel_rfl) (by kernel_rfl) (fun _ _ _ h => h) ⟨by rfl, fun wx hx => ⟨_, _, ?hr9ra, (HCT.out wx).mono fun e w' hh => ⟨hh.1, hh.2.symm⟩⟩⟩ hS ?rest9rac
  case hr9ra => go_simp; (try with_reducible rfl)
  case rest9rac =>
  try simp only [List.getElem_toArray, List.getElem_cons_succ, List.getElem_cons_zero, Act.put, List.setIfInBounds_toArray, List.set_cons_zero, List.set_cons_succ]
  refine wpAnyG_take' (i := 10) (v := ?v10_8ra) rfl (by kernel_rfl) (by kernel_rfl) (by kernel_rfl) (by kernel_rfl) (fun _ _ _ h => h) (Or.inl ⟨by rfl, ?hy10_8ra⟩) hS ?rest10_8ra
  case hy10_8ra => intro w hSw; (try dsimp only at hSw); go_simp; (try with_reducible rfl)
  case rest10_8ra =>
  try simp only [List.getElem_toArray, List.getElem_cons_succ, List.getElem_cons_zero, Act.put, List.setIfInBounds_toArray, List.set_cons_zero, List.set_cons_succ]
  refine wpAnyG_one (i := 11) (by kernel_rfl) rfl (fun K hK => ?_)
  go_simp
  refine hK.out _ _ (fun _ => ?hS9ra) ?rest9ra
  case hS9ra => exact ⟨t0, t1, t2⟩
  clear K hK
  try simp only [List.getElem_toArray, List.getElem_cons_succ, List.getElem_cons_zero, Act.put, List.setIfInBounds_toArray, List.set_cons_zero, List.set_cons_succ]
  refine wpAnyG_one (i := 12) (by kernel_rfl) rfl (fun K hK => ?_)
  refine step_store_mid (by rfl) 39 (.tmp 3) (.tmp 17) rfl _ 0 #[.int .i64 (1 + qk), .int .i64 qf, .int .i64 qt, .int .i64 0, .int .i64 0, .int .i64 0, .int .i64 0, .int .i64 0, .int .i64 0, .int .i64 0, .string ⟨#[]⟩, .int .i64 0, .int .i64 0, .slice none 0 0, .int .i64 0, .int .i64 0, .int .i64 0, .bool false, .int .i64 0, .slice none 0 0, .slice none 0 0, .int .i64 0] rfl rfl HT3.out (by kernel_rfl) (by kernel_rfl) ?_
  refine hK.out _ _ (fun hno => by cases hno) ?_
  clear K hK
  try simp only [List.getElem_toArray, List.getElem_cons_succ, List.getElem_cons_zero, Act.put, List.setIfInBounds_toArray, List.set_cons_zero, List.set_cons_succ]
  refine wpAnyG_done (by kernel_rfl) ?_ _
  try simp only [List.getElem_toArray, List.getElem_cons_succ, List.getElem_cons_zero, Act.put, List.setIfInBounds_toArray, List.set_cons_zero, List.set_cons_succ]
  obtain ⟨wp, hwp⟩ : ∃ z, z = (w1.alloc (.cells #[.int .i64 0, .int .i64 0, .int .i64 0, .int .i64 0, .int .i64 0, .int .i64 0, .int .i64 0, .int .i64 0, .int .i64 0, .int .i64 0, .string ⟨#[]⟩, .int .i64 0, .int .i64 0, .slice none 0 0, .int .i64 0, .int .i64 0, .int .i64 0, .bool false, .int .i64 0, .slice none 0 0, .slice none 0 0, .int .i64 0] 39)).drew.setCells w1.heap.size 0 [.int .i64 (1 + qk), .int .i64 qf, .int .i64 qt, .int .i64 0, .int .i64 0, .int .i64 0, .int .i64 0, .int .i64 0, .int .i64 0, .int .i64 0, .string ⟨#[]⟩, .int .i64 0, .int .i64 0, .slice none 0 0, .int .i64 0, .int .i64 0, .int .i64 0, .bool false, .int .i64 0, .slice none 0 0, .slice none 0 0, .int .i64 0] := ⟨_, rfl⟩
  have h3 : Sep w0 (Cl w1.heap.size #[.int .i64 (1 + qk), .int .i64 qf, .int .i64 qt, .int .i64 0, .int .i64 0, .int .i64 0, .int .i64 0, .int .i64 0, .int .i64 0, .int .i64 0, .string ⟨#[]⟩, .int .i64 0, .int .i64 0, .slice none 0 0, .int .i64 0, .int .i64 0, .int .i64 0, .bool false, .int .i64 0, .slice none 0 0, .slice none 0 0, .int .i64 0] 39 :: Cl b2 #[.int .i64 0, .int .i64 0, .int .i64 0, .int .i64 0, .int .i64 0, .int .i64 0, .int .i64 0, .int .i64 0, .int .i64 0, .int .i64 0, .string ⟨#[]⟩, .int .i64 0, .int .i64 0, .slice none 0 0, .int .i64 0, .int .i64 0, .int .i64 0, .bool false, .int .i64 0, .slice none 0 0, .slice none 0 0, .int .i64 0] 39 :: Cl b1 sdc 26 :: L) wp := by rw [hwp]; exact H3.out
  obtain ⟨b3, hb3⟩ : ∃ z, z = w1.heap.size := ⟨_, rfl⟩
  rw [← hb3] at h3 hwp ⊢
  rw [← hwp]
  clear hwp hb3 H3 s0 s1 s2 t0 t1 t2 HT3 HCK HCF HCT hS
  have s3 := h3.drew.sw3.cell HM.out.1
  have s4 := h3.drew.sw3.cell HM.out.2.1
  have s5 := h3.drew.sw3.cell HM.out.2.2.1
  have H3 := Lib.hid h3
  clear h3
  (try dsimp only); repeat' (first | go_values | go_skip | go_guarded | go_step | go_upon | go_back)
  refine wp_region_G (fun w' => w'.cell? ⟨b1, 3, none⟩ = some (.int .i64 s.n0) ∧ w'.cell? ⟨b1, 4, none⟩ = some (.int .i64 s.n1) ∧ w'.cell? ⟨b1, 5, none⟩ = some (.int .i64 s.n2)) [12] (by kernel_rfl) ⟨s3, s4, s5⟩ (fun hS => ?_)
  try dsimp only at hS
  refine wpAnyG_take' (i := 0) (v := ?v0_1rb) rfl (by kernel_rfl) (by kernel_rfl) (by kernel_rfl) (by kernel_rfl) (fun _ _ _ h => h) (Or.inl ⟨by rfl, ?hy0_1rb⟩) hS ?rest0_1rb
  case hy0_1rb => intro w hSw; (try dsimp only at hSw); go_simp; (try with_reducible rfl)
  case rest0_1rb =>
  try simp only [List.getElem_toArray, List.getElem_cons_succ, List.getElem_cons_zero, Act.put, List.setIfInBounds_toArray, List.set_cons_zero, List.set_cons_succ]
  refine wpAnyG_take' (i := 1) (v := ?v1_2rb) rfl (by kernel_rfl) (by kernel_rfl) (by kernel_rfl) (by kernel_rfl) (fun _ _ _ h => h) (Or.inl ⟨by rfl, ?hy1_2rb⟩) hS ?rest1_2rb
  case hy1_2rb => intro w hSw; (try dsimp only at hSw); go_simp; (try with_reducible rfl)
  case rest1_2rb =>
  try simp only [List.getElem_toArray, List.getElem_cons_succ, List.getElem_cons_zero, Act.put, List.setIfInBounds_toArray, List.set_cons_zero, List.set_cons_succ]
  refine wpAnyG_take' (i := 2) (v := ?v2_3rb) rfl (by kernel_rfl) (by kernel_rfl) (by kernel_rfl) (by kernel_rfl) (fun _ _ _ h => h) (Or.inl ⟨by rfl, ?hy2_3rb⟩) hS ?rest2_3rb
  case hy2_3rb => intro w hSw; (try dsimp only at hSw); go_simp; (try with_reducible rfl)
  case rest2_3rb =>
  try simp only [List.getElem_toArray, List.getElem_cons_succ, List.getElem_cons_zero, Act.put, List.setIfInBounds_toArray, List.set_cons_zero, List.set_cons_succ]
  refine wpAnyG_call (i := 3) (v := .int .i64 qa) rfl (by kernel_rfl) (by kernel_rfl) (by kernel_rfl) (by kernel_rfl) (fun _ _ _ h => h) ⟨by rfl, fun wx hx => ⟨_, _, ?hr3rb, (HCA.out wx).mono fun e w' hh => ⟨hh.1, hh.2.symm⟩⟩⟩ hS ?rest3rbc
  case hr3rb => go_simp; (try with_reducible rfl)
  case rest3rbc =>
  try simp only [List.getElem_toArray, List.getElem_cons_succ, List.getElem_cons_zero, Act.put, List.setIfInBounds_toArray, List.set_cons_zero, List.set_cons_succ]
  refine wpAnyG_take' (i := 4) (v := ?v4_4rb) rfl (by kernel_rfl) (by kernel_rfl) (by kernel_rfl) (by kernel_rfl) (fun _ _ _ h => h) (Or.inl ⟨by rfl, ?hy4_4rb⟩) hS ?rest4_4rb
  case hy4_4rb => intro w hSw; (try dsimp only at hSw); go_simp; (try with_reducible rfl)
  case rest4_4rb =>
  try simp only [List.getElem_toArray, List.getElem_cons_succ, List.getElem_cons_zero, Act.put, List.setIfInBounds_toArray, List.set_cons_zero, List.set_cons_succ]
  refine wpAnyG_take' (i := 5) (v := ?v5_5rb) rfl (by kernel_rfl) (by kernel_rfl) (by kernel_rfl) (by kernel_rfl) (fun _ _ _ h => h) (Or.inl ⟨by rfl, ?hy5_5rb⟩) hS ?rest5_5rb
  case hy5_5rb => intro w hSw; (try dsimp only at hSw); go_simp; (try with_reducible rfl)
  case rest5_5rb =>
  try simp only [List.getElem_toArray, List.getElem_cons_succ, List.getElem_cons_zero, Act.put, List.setIfInBounds_toArray, List.set_cons_zero, List.set_cons_succ]
  refine wpAnyG_take' (i := 6) (v := ?v6_6rb) rfl (by kernel_rfl) (by kernel_rfl) (by kernel_rfl) (by kernel_rfl) (fun _ _ _ h => h) (Or.inl ⟨by rfl, ?hy6_6rb⟩) hS ?rest6_6rb
  case hy6_6rb => intro w hSw; (try dsimp only at hSw); go_simp; (try with_reducible rfl)
  case rest6_6rb =>
  try simp only [List.getElem_toArray, List.getElem_cons_succ, List.getElem_cons_zero, Act.put, List.setIfInBounds_toArray, List.set_cons_zero, List.set_cons_succ]
  refine wpAnyG_call (i := 7) (v := .int .i64 qb) rfl (by kernel_rfl) (by kernel_rfl) (by kernel_rfl) (by kernel_rfl) (fun _ _ _ h => h) ⟨by rfl, fun wx hx => ⟨_, _, ?hr7rb, (HCB.out wx).mono fun e w' hh => ⟨hh.1, hh.2.symm⟩⟩⟩ hS ?rest7rbc
  case hr7rb => go_simp; (try with_reducible rfl)
  case rest7rbc =>
  try simp only [List.getElem_toArray, List.getElem_cons_succ, List.getElem_cons_zero, Act.put, List.setIfInBounds_toArray, List.set_cons_zero, List.set_cons_succ]
  refine wpAnyG_take' (i := 8) (v := ?v8_7rb) rfl (by kernel_rfl) (by kernel_rfl) (by kernel_rfl) (by kernel_rfl) (fun _ _ _ h => h) (Or.inl ⟨by rfl, ?hy8_7rb⟩) hS ?rest8_7rb
  case hy8_7rb => intro w hSw; (try dsimp only at hSw); go_simp; (try with_reducible rfl)
  case rest8_7rb =>
  try simp only [List.getElem_toArray, List.getElem_cons_succ, List.getElem_cons_zero, Act.put, List.setIfInBounds_toArray, List.set_cons_zero, List.set_cons_succ]
  refine wpAnyG_take' (i := 9) (v := ?v9_8rb) rfl (by kernel_rfl) (by kernel_rfl) (by kernel_rfl) (by kernel_rfl) (fun _ _ _ h => h) (Or.inl ⟨by rfl, ?hy9_8rb⟩) hS ?rest9_8rb
  case hy9_8rb => intro w hSw; (try dsimp only at hSw); go_simp; (try with_reducible rfl)
  case rest9_8rb =>
  try simp only [List.getElem_toArray, List.getElem_cons_succ, List.getElem_cons_zero, Act.put, List.setIfInBounds_toArray, List.set_cons_zero, List.set_cons_succ]
  refine wpAnyG_take' (i := 10) (v := ?v10_9rb) rfl (by kernel_rfl) (by kernel_rfl) (by kernel_rfl) (by kernel_rfl) (fun _ _ _ h => h) (Or.inl ⟨by rfl, ?hy10_9rb⟩) hS ?rest10_9rb
  case hy10_9rb => intro w hSw; (try dsimp only at hSw); go_simp; (try with_reducible rfl)
  case rest10_9rb =>
  try simp only [List.getElem_toArray, List.getElem_cons_succ, List.getElem_cons_zero, Act.put, List.setIfInBounds_toArray, List.set_cons_zero, List.set_cons_succ]
  refine wpAnyG_call (i := 11) (v := .int .i64 qc) rfl (by kernel_rfl) (by kernel_rfl) (by kernel_rfl) (by kernel_rfl) (fun _ _ _ h => h) ⟨by rfl, fun wx hx => ⟨_, _, ?hr11rb, (HCC.out wx).mono fun e w' hh => ⟨hh.1, hh.2.symm⟩⟩⟩ hS ?rest11rbc
  case hr11rb => go_simp; (try with_reducible rfl)
  case rest11rbc =>
  try simp only [List.getElem_toArray, List.getElem_cons_succ, List.getElem_cons_zero, Act.put, List.setIfInBounds_toArray, List.set_cons_zero, List.set_cons_succ]
  refine wpAnyG_one (i := 12) (by kernel_rfl) rfl (fun K hK => ?_)
  go_simp
  refine hK.out _ _ (fun _ => ?hS10rb) ?rest10rb
  case hS10rb => exact ⟨s3, s4, s5⟩
  clear K hK
  try simp only [List.getElem_toArray, List.getElem_cons_succ, List.getElem_cons_zero, Act.put, List.setIfInBounds_toArray, List.set_cons_zero, List.set_cons_succ]
  refine wpAnyG_one (i := 13) (by kernel_rfl) rfl (fun K hK => ?_)
  go_simp
  refine hK.out _ _ (fun _ => ?hS11rb) ?rest11rb
  case hS11rb => exact ⟨s3, s4, s5⟩
  clear K hK
  try simp only [List.getElem_toArray, List.getElem_cons_succ, List.getElem_cons_zero, Act.put, List.setIfInBounds_toArray, List.set_cons_zero, List.set_cons_succ]
  refine wpAnyG_one (i := 14) (by kernel_rfl) rfl (fun K hK => ?_)
  go_simp
  refine hK.out _ _ (fun _ => ?hS12rb) ?rest12rb
  case hS12rb => exact ⟨s3, s4, s5⟩
  clear K hK
  try simp only [List.getElem_toArray, List.getElem_cons_succ, List.getElem_cons_zero, Act.put, List.setIfInBounds_toArray, List.set_cons_zero, List.set_cons_succ]
  refine wpAnyG_done (by kernel_rfl) ?_ _
  try simp only [List.getElem_toArray, List.getElem_cons_succ, List.getElem_cons_zero, Act.put, List.setIfInBounds_toArray, List.set_cons_zero, List.set_cons_succ]
  have hq0 := H3.out.drew
  obtain ⟨wq, hwq⟩ : ∃ z, z = wp.drew := ⟨_, rfl⟩
  rw [← hwq] at hq0 ⊢
  clear hwq H3 s3 s4 s5 HCA HCB HCC hS
  obtain ⟨kd, hkd⟩ : ∃ z, z = 1 + qk := ⟨_, rfl⟩
  rw [← hkd] at hq0 ⊢
  have hkk : kd = 1 ∨ kd = 2 ∨ kd = 3 ∨ kd = 4 ∨ kd = 5 ∨ kd = 6 ∨ kd = 7 ∨ kd = 8 ∨ kd = 9 ∨ kd = 10 := by have := HQK.out; omega
  clear hkd e1
  rcases hkk with rfl | rfl | rfl | rfl | rfl | rfl | rfl | rfl | rfl | rfl
  · have hq : Sep w0 (Cl b3 (mgC (⟨1, qf, qt, 0, 0, 0, 0, EnM.zero, .slice none 0 0, 0, 0, 0, false, 0, [], .slice none 0 0, [], .slice none 0 0, 0⟩ : MgM)) 39 :: Cl b2 #[.int .i64 0, .int .i64 0, .int .i64 0, .int .i64 0, .int .i64 0, .int .i64 0, .int .i64 0, .int .i64 0, .int .i64 0, .int .i64 0, .string ⟨#[]⟩, .int .i64 0, .int .i64 0, .slice none 0 0, .int .i64 0, .int .i64 0, .int .i64 0, .bool false, .int .i64 0, .slice none 0 0, .slice none 0 0, .int .i64 0] 39 :: Cl b1 sdc 26 :: L) wq := hq0
    clear hq0
    have c0 := hq.cell (o := 0) (x := .int .i64 1) rfl
    have y4 := hq.sw3.cell HM.out.2.1
    have h5 := hq
    obtain ⟨w5, hw5⟩ : ∃ z, z = wq := ⟨_, rfl⟩
    rw [← hw5] at h5
    have HEN := Lib.hid (entry05_any s.n1 h5)
    clear h5
    have HQ5 := Lib.hid hq
    clear hq
    (try dsimp only); repeat' (first | go_values | go_skip | go_guarded | go_step | go_upon | go_back)
    (try rw [← hw5])
    refine HEN.out.mono ?_
    rintro r0 w6 ⟨rfl, h6⟩
    clear HEN
    obtain ⟨X, hX⟩ : ∃ X, X = enK s.n1 := ⟨_, rfl⟩
    have hXk : X.ok = true := by rw [hX]; exact enK_ok _
    have hXl : X.p.ls = [] := by rw [hX]; rfl
    rw [← hX]
    unfold enV
    have h7 := h6
    have HTH := Lib.hid (h7.thereAt 7 7 (by show 14 ≤ 22; omega))
    have h8 := Sep.setCells [.int .i64 X.c, .int .i64 X.m, .int .i64 X.p.k, .string X.p.s.1, .int .i64 X.p.o, .int .i64 X.p.n, .slice none 0 0] _ 7 _ h7
    have HG : Hid (Sep w0 (Cl b3 (mgC { (⟨1, qf, qt, 0, 0, 0, 0, EnM.zero, .slice none 0 0, 0, 0, 0, false, 0, [], .slice none 0 0, [], .slice none 0 0, 0⟩ : MgM) with en := X }) 39 :: Cl b2 #[.int .i64 0, .int .i64 0, .int .i64 0, .int .i64 0, .int .i64 0, .int .i64 0, .int .i64 0, .int .i64 0, .int .i64 0, .int .i64 0, .string ⟨#[]⟩, .int .i64 0, .int .i64 0, .slice none 0 0, .int .i64 0, .int .i64 0, .int .i64 0, .bool false, .int .i64 0, .slice none 0 0, .slice none 0 0, .int .i64 0] 39 :: Cl b1 sdc 26 :: L) (w6.setCells b3 7 [.int .i64 X.c, .int .i64 X.m, .int .i64 X.p.k, .string X.p.s.1, .int .i64 X.p.o, .int .i64 X.p.n, .slice none 0 0])) := Lib.hid (by rw [← wr_en' (⟨1, qf, qt, 0, 0, 0, 0, EnM.zero, .slice none 0 0, 0, 0, 0, false, 0, [], .slice none 0 0, [], .slice none 0 0, 0⟩ : MgM) X (.slice none 0 0)]; exact h8)
    have HXK := Lib.hid (And.intro hXk hXl)
    clear h6 h7 h8 hX hXk hXl
    (try dsimp only); repeat' (first | (with_reducible show wpList _ _ _ (Oper.mk _ (Op.store 32 _ _) _ _ _ _ :: _) _ _; refine stopP ?_) | go_values | go_skip | go_guarded | go_step | go_upon | go_back)
    unfold StopP
    refine wpList_store_mid rfl 32 (.tmp 43) (.tmp 42) rfl b3 7 #[.int .i64 X.c, .int .i64 X.m, .int .i64 X.p.k, .string X.p.s.1, .int .i64 X.p.o, .int .i64 X.p.n, .slice none 0 0] rfl rfl HTH.out (by kernel_rfl) (by first | kernel_rfl | assumption | rfl) ?_
    have h20 := HG.out
    have hlm := h20.loadW 39 Tryd.underlying39 rfl (by kernel_rfl)
    have HT2 := Lib.hid (h20.sw2.thereAt 0 22 (by show 22 ≤ 22; omega))
    have h21 := h20.sw2.storeW (mgC { (⟨1, qf, qt, 0, 0, 0, 0, EnM.zero, .slice none 0 0, 0, 0, 0, false, 0, [], .slice none 0 0, [], .slice none 0 0, 0⟩ : MgM) with en := X }) rfl
    have HV := Lib.hid (h21.loadV 39 Tryd.underlying39 rfl (by kernel_rfl))
    have HF := Lib.hid ((zeroL2 HXK.out.2 (h21.drop.drop.drop)))
    have HMS : Hid ((mgC { (⟨1, qf, qt, 0, 0, 0, 0, EnM.zero, .slice none 0 0, 0, 0, 0, false, 0, [], .slice none 0 0, [], .slice none 0 0, 0⟩ : MgM) with en := X }).size = 22) := Lib.hid rfl
    have H1C := Lib.hid (mgC_one { (⟨1, qf, qt, 0, 0, 0, 0, EnM.zero, .slice none 0 0, 0, 0, 0, false, 0, [], .slice none 0 0, [], .slice none 0 0, 0⟩ : MgM) with en := X } rfl rfl rfl)
    obtain ⟨mc, hmc⟩ : ∃ z, z = mgC { (⟨1, qf, qt, 0, 0, 0, 0, EnM.zero, .slice none 0 0, 0, 0, 0, false, 0, [], .slice none 0 0, [], .slice none 0 0, 0⟩ : MgM) with en := X } := ⟨_, rfl⟩
    have HMC := Lib.hid hmc
    rw [← hmc] at hlm HV HMS H1C HF
    have HLM := Lib.hid hlm
    clear h20 h21 hlm hmc HG
    (try dsimp only); repeat' (first | (with_reducible show wpList _ _ _ (Oper.mk _ (Op.load 39 _) _ _ _ _ :: _) _ _; refine stopP ?_) | go_values | go_skip | go_guarded | go_step | go_upon | go_back)
    unfold StopP
    have hq_ := HLM.out
    refine wpList_load_run rfl 39 _ rfl _ _ rfl hq_ ?_
    clear hq_ HLM
    (try dsimp only); repeat' (first | (with_reducible show wpList _ _ _ (Oper.mk _ (Op.store 39 _ _) _ _ _ _ :: _) _ _; refine stopP ?_) | go_values | go_skip | go_guarded | go_step | go_upon | go_back)
    unfold StopP
    refine wpList_store_mid rfl 39 (.tmp 2) (.tmp 112) rfl b2 0 mc rfl rfl (by rw [HMS.out]; exact HT2.out) (by rw [HMS.out]; kernel_rfl) H1C.out ?_
    (try dsimp only); repeat' (first | go_values | go_skip | go_guarded | go_step | go_upon | go_back)
    exact bodyPost_ret (results_cell rfl rfl HV.out) rfl ⟨{ (⟨1, qf, qt, 0, 0, 0, 0, EnM.zero, .slice none 0 0, 0, 0, 0, false, 0, [], .slice none 0 0, [], .slice none 0 0, 0⟩ : MgM) with en := X }, by rw [HMC.out], chk_mk (by show mfieldsOf 1 ≠ 0; decide) HQ.out.1 HQ.out.2.1 (holds0 _) (holds0 _) (holds0 _) (holds0 _) (by (show fEB (mfieldsOf 1) X = true); unfold fEB; rw [if_pos (by decide)]; exact HXK.out.1) (by kernel_rfl) (by kernel_rfl), HF.out⟩
  · have hq : Sep w0 (Cl b3 (mgC (⟨2, qf, qt, 0, 0, 0, 0, EnM.zero, .slice none 0 0, 0, 0, 0, false, 0, [], .slice none 0 0, [], .slice none 0 0, 0⟩ : MgM)) 39 :: Cl b2 #[.int .i64 0, .int .i64 0, .int .i64 0, .int .i64 0, .int .i64 0, .int .i64 0, .int .i64 0, .int .i64 0, .int .i64 0, .int .i64 0, .string ⟨#[]⟩, .int .i64 0, .int .i64 0, .slice none 0 0, .int .i64 0, .int .i64 0, .int .i64 0, .bool false, .int .i64 0, .slice none 0 0, .slice none 0 0, .int .i64 0] 39 :: Cl b1 sdc 26 :: L) wq := hq0
    clear hq0
    have c0 := hq.cell (o := 0) (x := .int .i64 2) rfl
    have x3 := hq.cell (o := 3) (x := .int .i64 0) rfl
    have f3 := hq.frozen 3
    have x4 := hq.cell (o := 4) (x := .int .i64 0) rfl
    have f4 := hq.frozen 4
    have z1 : 0 ≤ qa ∧ 0 ≤ qb ∧ 0 ≤ qc := by have := HQ.out; omega
    have t1 : qa.tmod 8 = qa % 8 := Int.tmod_eq_emod_of_nonneg z1.1
    have t2 : qc.tmod 8 = qc % 8 := Int.tmod_eq_emod_of_nonneg z1.2.2
    have t3 : qb.tmod 2147483647 = qb % 2147483647 := Int.tmod_eq_emod_of_nonneg z1.2.1
    have t4 : qa.tmod 2147483647 = qa % 2147483647 := Int.tmod_eq_emod_of_nonneg z1.1
    have t5 : qc.tmod 7 = qc % 7 := Int.tmod_eq_emod_of_nonneg z1.2.2
    obtain ⟨a8, ha8, ha80, ha81⟩ : ∃ z : Int, qa % 8 = z ∧ 0 ≤ z ∧ z < 8 := ⟨_, rfl, by omega, by omega⟩
    obtain ⟨c8, hc8, hc80, hc81⟩ : ∃ z : Int, qc % 8 = z ∧ 0 ≤ z ∧ z < 8 := ⟨_, rfl, by omega, by omega⟩
    obtain ⟨b9, hb9, hb90, hb91⟩ : ∃ z : Int, qb % 2147483647 = z ∧ 0 ≤ z ∧ z ≤ 2147483646 := ⟨_, rfl, by omega, by omega⟩
    obtain ⟨a9, ha9, ha90, ha91⟩ : ∃ z : Int, qa % 2147483647 = z ∧ 0 ≤ z ∧ z ≤ 2147483646 := ⟨_, rfl, by omega, by omega⟩
    obtain ⟨c7, hc7, hc70, hc71⟩ : ∃ z : Int, qc % 7 = z ∧ 0 ≤ z ∧ z < 7 := ⟨_, rfl, by omega, by omega⟩
    rw [ha8] at t1
    rw [hc8] at t2
    rw [hb9] at t3
    rw [ha9] at t4
    rw [hc7] at t5
    have e9 : IntKind.i64.wrap (1 + b9) = 1 + b9 := IntWalk.i64_in _ (by omega)
    obtain ⟨z11, z12, z13⟩ := z1
    have HEE : Hid ((0 ≤ a8 ∧ a8 < 8) ∧ 0 ≤ b9 ∧ b9 ≤ 2147483646) := Lib.hid (by omega)
    have HRR : Hid ((0 ≤ c7 ∧ c7 < 7) ∧ (0 ≤ b9 ∧ b9 ≤ 2147483646) ∧ (0 ≤ a9 ∧ a9 ≤ 2147483646)) := Lib.hid (by omega)
    have h7 := ((hq.setCell 3 (.int .i64 qa)).setCell 4 (.int .i64 qb))
    have HTH := Lib.hid (h7.thereAt 7 7 (by show 14 ≤ 22; omega))
    have h8 := Sep.setCells [.int .i64 a8, .int .i64 (1 + b9), .int .i64 0, .string ⟨#[]⟩, .int .i64 0, .int .i64 0, .slice none 0 0] _ 7 _ h7
    have h9 : Sep w0 (Cl b3 (mgC { (⟨2, qf, qt, 0, 0, 0, 0, EnM.zero, .slice none 0 0, 0, 0, 0, false, 0, [], .slice none 0 0, [], .slice none 0 0, 0⟩ : MgM) with v := qa, o := qb, en := ⟨a8, 1 + b9, OpM.zero⟩ }) 39 :: Cl b2 #[.int .i64 0, .int .i64 0, .int .i64 0, .int .i64 0, .int .i64 0, .int .i64 0, .int .i64 0, .int .i64 0, .int .i64 0, .int .i64 0, .string ⟨#[]⟩, .int .i64 0, .int .i64 0, .slice none 0 0, .int .i64 0, .int .i64 0, .int .i64 0, .bool false, .int .i64 0, .slice none 0 0, .slice none 0 0, .int .i64 0] 39 :: Cl b1 sdc 26 :: L) (((wq.setCell ⟨b3, 3, none⟩ (.int .i64 qa)).setCell ⟨b3, 4, none⟩ (.int .i64 qb)).setCells b3 7 [.int .i64 a8, .int .i64 (1 + b9), .int .i64 0, .string ⟨#[]⟩, .int .i64 0, .int .i64 0, .slice none 0 0]) := by rw [show mgC { (⟨2, qf, qt, 0, 0, 0, 0, EnM.zero, .slice none 0 0, 0, 0, 0, false, 0, [], .slice none 0 0, [], .slice none 0 0, 0⟩ : MgM) with v := qa, o := qb, en := ⟨a8, 1 + b9, OpM.zero⟩ } = writeAt (mgC { (⟨2, qf, qt, 0, 0, 0, 0, EnM.zero, .slice none 0 0, 0, 0, 0, false, 0, [], .slice none 0 0, [], .slice none 0 0, 0⟩ : MgM) with v := qa, o := qb }) 7 [.int .i64 a8, .int .i64 (1 + b9), .int .i64 0, .string ⟨#[]⟩, .int .i64 0, .int .i64 0, .slice none 0 0] from (wr_en' { (⟨2, qf, qt, 0, 0, 0, 0, EnM.zero, .slice none 0 0, 0, 0, 0, false, 0, [], .slice none 0 0, [], .slice none 0 0, 0⟩ : MgM) with v := qa, o := qb } ⟨a8, 1 + b9, OpM.zero⟩ (.slice none 0 0)).symm]; exact h8
    obtain ⟨w9, hw9⟩ : ∃ z, z = ((wq.setCell ⟨b3, 3, none⟩ (.int .i64 qa)).setCell ⟨b3, 4, none⟩ (.int .i64 qb)).setCells b3 7 [.int .i64 a8, .int .i64 (1 + b9), .int .i64 0, .string ⟨#[]⟩, .int .i64 0, .int .i64 0, .slice none 0 0] := ⟨_, rfl⟩
    rw [← hw9] at h9
    have h9 := h9.drew
    have d6 := h9.sw3.cell HM.out.2.2.2
    have HTR := Lib.hid (h9.thereAt 14 3 (by show 17 ≤ 22; omega))
    have h10 := Sep.setCells [.int .i64 c7, .int .i64 b9, .int .i64 a9] _ 14 _ h9
    rw [wr_rs] at h10
    obtain ⟨w10, hw10⟩ : ∃ z, z = w9.drew.setCells b3 14 (#[.int .i64 c7, .int .i64 b9, .int .i64 a9] : Array Value).toList := ⟨_, rfl⟩
    have hw102 : w10 = w9.drew.setCells b3 14 [.int .i64 c7, .int .i64 b9, .int .i64 a9] := hw10
    rw [← hw102] at h10
    clear hw102
    have d7 := h10.sw3.cell HM.out.2.2.2
    have x17 := h10.cell (o := 17) (x := .bool false) rfl
    have f17 := h10.frozen 17
    obtain ⟨sb, hsb⟩ : ∃ z, z = (Int.tmod s.n3 2 == 0) := ⟨_, rfl⟩
    have h11 := h10.setCell 17 (.bool sb)
    have HG : Hid (Sep w0 (Cl b3 (mgC { (⟨2, qf, qt, 0, 0, 0, 0, EnM.zero, .slice none 0 0, 0, 0, 0, false, 0, [], .slice none 0 0, [], .slice none 0 0, 0⟩ : MgM) with v := qa, o := qb, en := ⟨a8, 1 + b9, OpM.zero⟩, rc := c7, ra := b9, rb := a9, s := sb }) 39 :: Cl b2 #[.int .i64 0, .int .i64 0, .int .i64 0, .int .i64 0, .int .i64 0, .int .i64 0, .int .i64 0, .int .i64 0, .int .i64 0, .int .i64 0, .string ⟨#[]⟩, .int .i64 0, .int .i64 0, .slice none 0 0, .int .i64 0, .int .i64 0, .int .i64 0, .bool false, .int .i64 0, .slice none 0 0, .slice none 0 0, .int .i64 0] 39 :: Cl b1 sdc 26 :: L) (w10.setCell ⟨b3, 17, none⟩ (.bool sb))) := Lib.hid h11
    clear hq h7 h8 h9 h10 h11
    (try dsimp only); repeat' (first | (with_reducible show wpList _ _ _ (Oper.mk _ (Op.store 32 _ _) _ _ _ _ :: _) _ _; refine stopP ?_) | go_values | go_skip | go_guarded | go_step | go_upon | go_back)
    unfold StopP
    refine wpList_store_mid rfl 32 (.tmp 54) (.tmp 52) rfl b3 7 #[.int .i64 a8, .int .i64 (1 + b9), .int .i64 0, .string ⟨#[]⟩, .int .i64 0, .int .i64 0, .slice none 0 0] rfl rfl HTH.out (by kernel_rfl) (by first | kernel_rfl | assumption | rfl) ?_
    show wpList _ _ _ _ _ (((wq.setCell ⟨b3, 3, none⟩ (.int .i64 qa)).setCell ⟨b3, 4, none⟩ (.int .i64 qb)).setCells b3 7 [.int .i64 a8, .int .i64 (1 + b9), .int .i64 0, .string ⟨#[]⟩, .int .i64 0, .int .i64 0, .slice none 0 0])
    rw [← hw9]
    clear hw9 HTH
    (try dsimp only); repeat' (first | go_values | go_skip | go_guarded | go_step | go_upon | go_back)
    refine wp_region_G (fun w' => w'.cell? ⟨b1, 6, none⟩ = some (.int .i64 s.n3)) [15] (by kernel_rfl) d6 (fun hS => ?_)
    try dsimp only at hS
    refine wpAnyG_take' (i := 0) (v := ?v0_1rc) rfl (by kernel_rfl) (by kernel_rfl) (by kernel_rfl) (by kernel_rfl) (fun _ _ _ h => h) (Or.inl ⟨by rfl, ?hy0_1rc⟩) hS ?rest0_1rc
    case hy0_1rc => intro w hSw; (try dsimp only at hSw); go_simp; (try with_reducible rfl)
    case rest0_1rc =>
    try simp only [List.getElem_toArray, List.getElem_cons_succ, List.getElem_cons_zero, Act.put, List.setIfInBounds_toArray, List.set_cons_zero, List.set_cons_succ]
    refine wpAnyG_take' (i := 1) (v := ?v1_2rc) rfl (by kernel_rfl) (by kernel_rfl) (by kernel_rfl) (by kernel_rfl) (fun _ _ _ h => h) (Or.inl ⟨by rfl, ?hy1_2rc⟩) hS ?rest1_2rc
    case hy1_2rc => intro w hSw; (try dsimp only at hSw); go_simp; (try with_reducible rfl)
    case rest1_2rc =>
    try simp only [List.getElem_toArray, List.getElem_cons_succ, List.getElem_cons_zero, Act.put, List.setIfInBounds_toArray, List.set_cons_zero, List.set_cons_succ]
    refine wpAnyG_take' (i := 2) (v := ?v2_3rc) rfl (by kernel_rfl) (by kernel_rfl) (by kernel_rfl) (by kernel_rfl) (fun _ _ _ h => h) (Or.inl ⟨by rfl, ?hy2_3rc⟩) hS ?rest2_3rc
    case hy2_3rc => intro w hSw; (try dsimp only at hSw); go_simp; (try with_reducible rfl)
    case rest2_3rc =>
    try simp only [List.getElem_toArray, List.getElem_cons_succ, List.getElem_cons_zero, Act.put, List.setIfInBounds_toArray, List.set_cons_zero, List.set_cons_succ]
    refine wpAnyG_take' (i := 3) (v := ?v3_4rc) rfl (by kernel_rfl) (by kernel_rfl) (by kernel_rfl) (by kernel_rfl) (fun _ _ _ h => h) (Or.inl ⟨by rfl, ?hy3_4rc⟩) hS ?rest3_4rc
    case hy3_4rc => intro w hSw; (try dsimp only at hSw); go_simp; (try with_reducible rfl)
    case rest3_4rc =>
    try simp only [List.getElem_toArray, List.getElem_cons_succ, List.getElem_cons_zero, Act.put, List.setIfInBounds_toArray, List.set_cons_zero, List.set_cons_succ]
    refine wpAnyG_take' (i := 4) (v := ?v4_5rc) rfl (by kernel_rfl) (by kernel_rfl) (by kernel_rfl) (by kernel_rfl) (fun _ _ _ h => h) (Or.inl ⟨by rfl, ?hy4_5rc⟩) hS ?rest4_5rc
    case hy4_5rc => intro w hSw; (try dsimp only at hSw); go_simp; (try with_reducible rfl)
    case rest4_5rc =>
    try simp only [List.getElem_toArray, List.getElem_cons_succ, List.getElem_cons_zero, Act.put, List.setIfInBounds_toArray, List.set_cons_zero, List.set_cons_succ]
    refine wpAnyG_take' (i := 5) (v := ?v5_6rc) rfl (by kernel_rfl) (by kernel_rfl) (by kernel_rfl) (by kernel_rfl) (fun _ _ _ h => h) (Or.inl ⟨by rfl, ?hy5_6rc⟩) hS ?rest5_6rc
    case hy5_6rc => intro w hSw; (try dsimp only at hSw); go_simp; (try with_reducible rfl)
    case rest5_6rc =>
    try simp only [List.getElem_toArray, List.getElem_cons_succ, List.getElem_cons_zero, Act.put, List.setIfInBounds_toArray, List.set_cons_zero, List.set_cons_succ]
    refine wpAnyG_take' (i := 6) (v := ?v6_7rc) rfl (by kernel_rfl) (by kernel_rfl) (by kernel_rfl) (by kernel_rfl) (fun _ _ _ h => h) (Or.inl ⟨by rfl, ?hy6_7rc⟩) hS ?rest6_7rc
    case hy6_7rc => intro w hSw; (try dsimp only at hSw); go_simp; (try with_reducible rfl)
    case rest6_7rc =>
    try simp only [List.getElem_toArray, List.getElem_cons_succ, List.getElem_cons_zero, Act.put, List.setIfInBounds_toArray, List.set_cons_zero, List.set_cons_succ]
    refine wpAnyG_take' (i := 7) (v := ?v7_8rc) rfl (by kernel_rfl) (by kernel_rfl) (by kernel_rfl) (by kernel_rfl) (fun _ _ _ h => h) (Or.inl ⟨by rfl, ?hy7_8rc⟩) hS ?rest7_8rc
    case hy7_8rc => intro w hSw; (try dsimp only at hSw); go_simp; (try with_reducible rfl)
    case rest7_8rc =>
    try simp only [List.getElem_toArray, List.getElem_cons_succ, List.getElem_cons_zero, Act.put, List.setIfInBounds_toArray, List.set_cons_zero, List.set_cons_succ]
    refine wpAnyG_take' (i := 8) (v := ?v8_9rc) rfl (by kernel_rfl) (by kernel_rfl) (by kernel_rfl) (by kernel_rfl) (fun _ _ _ h => h) (Or.inl ⟨by rfl, ?hy8_9rc⟩) hS ?rest8_9rc
    case hy8_9rc => intro w hSw; (try dsimp only at hSw); go_simp; (try with_reducible rfl)
    case rest8_9rc =>
    try simp only [List.getElem_toArray, List.getElem_cons_succ, List.getElem_cons_zero, Act.put, List.setIfInBounds_toArray, List.set_cons_zero, List.set_cons_succ]
    refine wpAnyG_take' (i := 9) (v := ?v9_10rc) rfl (by kernel_rfl) (by kernel_rfl) (by kernel_rfl) (by kernel_rfl) (fun _ _ _ h => h) (Or.inl ⟨by rfl, ?hy9_10rc⟩) hS ?rest9_10rc
    case hy9_10rc => intro w hSw; (try dsimp only at hSw); go_simp; (try with_reducible rfl)
    case rest9_10rc =>
    try simp only [List.getElem_toArray, List.getElem_cons_succ, List.getElem_cons_zero, Act.put, List.setIfInBounds_toArray, List.set_cons_zero, List.set_cons_succ]
    refine wpAnyG_take' (i := 10) (v := ?v10_11rc) rfl (by kernel_rfl) (by kernel_rfl) (by kernel_rfl) (by kernel_rfl) (fun _ _ _ h => h) (Or.inl ⟨by rfl, ?hy10_11rc⟩) hS ?rest10_11rc
    case hy10_11rc => intro w hSw; (try dsimp only at hSw); go_simp; (try with_reducible rfl)
    case rest10_11rc =>
    try simp only [List.getElem_toArray, List.getElem_cons_succ, List.getElem_cons_zero, Act.put, List.setIfInBounds_toArray, List.set_cons_zero, List.set_cons_succ]
    refine wpAnyG_take' (i := 11) (v := ?v11_12rc) rfl (by kernel_rfl) (by kernel_rfl) (by kernel_rfl) (by kernel_rfl) (fun _ _ _ h => h) (Or.inl ⟨by rfl, ?hy11_12rc⟩) hS ?rest11_12rc
    case hy11_12rc => intro w hSw; (try dsimp only at hSw); go_simp; (try with_reducible rfl)
    case rest11_12rc =>
    try simp only [List.getElem_toArray, List.getElem_cons_succ, List.getElem_cons_zero, Act.put, List.setIfInBounds_toArray, List.set_cons_zero, List.set_cons_succ]
    refine wpAnyG_take' (i := 12) (v := ?v12_13rc) rfl (by kernel_rfl) (by kernel_rfl) (by kernel_rfl) (by kernel_rfl) (fun _ _ _ h => h) (Or.inl ⟨by rfl, ?hy12_13rc⟩) hS ?rest12_13rc
    case hy12_13rc => intro w hSw; (try dsimp only at hSw); go_simp; (try with_reducible rfl)
    case rest12_13rc =>
    try simp only [List.getElem_toArray, List.getElem_cons_succ, List.getElem_cons_zero, Act.put, List.setIfInBounds_toArray, List.set_cons_zero, List.set_cons_succ]
    refine wpAnyG_one (i := 13) (by kernel_rfl) rfl (fun K hK => ?_)
    refine step_store_mid (by rfl) 34 (.tmp 67) (.tmp 61) rfl b3 14 #[.int .i64 c7, .int .i64 b9, .int .i64 a9] rfl rfl HTR.out (by kernel_rfl) (by kernel_rfl) ?_
    rw [← hw10]
    clear hw10
    refine hK.out _ _ (fun _ => ?hS14rc) ?rest14rc
    case hS14rc => exact d7
    clear K hK
    try simp only [List.getElem_toArray, List.getElem_cons_succ, List.getElem_cons_zero, Act.put, List.setIfInBounds_toArray, List.set_cons_zero, List.set_cons_succ]
    refine wpAnyG_take' (i := 14) (v := ?v14_15rc) rfl (by kernel_rfl) (by kernel_rfl) (by kernel_rfl) (by kernel_rfl) (fun _ _ _ h => h) (Or.inl ⟨by rfl, ?hy14_15rc⟩) d7 ?rest14_15rc
    case hy14_15rc => intro w hSw; (try dsimp only at hSw); go_simp; (try with_reducible rfl)
    case rest14_15rc =>
    try simp only [List.getElem_toArray, List.getElem_cons_succ, List.getElem_cons_zero, Act.put, List.setIfInBounds_toArray, List.set_cons_zero, List.set_cons_succ]
    refine wpAnyG_one (i := 15) (by kernel_rfl) rfl (fun K hK => ?_)
    go_simp
    rw [← hsb]
    refine hK.out _ _ (fun hno => by cases hno) ?_
    clear K hK
    try simp only [List.getElem_toArray, List.getElem_cons_succ, List.getElem_cons_zero, Act.put, List.setIfInBounds_toArray, List.set_cons_zero, List.set_cons_succ]
    refine wpAnyG_done (by kernel_rfl) ?_ _
    try simp only [List.getElem_toArray, List.getElem_cons_succ, List.getElem_cons_zero, Act.put, List.setIfInBounds_toArray, List.set_cons_zero, List.set_cons_succ]
    have h20 := HG.out
    have hlm := h20.loadW 39 Tryd.underlying39 rfl (by kernel_rfl)
    have HT2 := Lib.hid (h20.sw2.thereAt 0 22 (by show 22 ≤ 22; omega))
    have h21 := h20.sw2.storeW (mgC { (⟨2, qf, qt, 0, 0, 0, 0, EnM.zero, .slice none 0 0, 0, 0, 0, false, 0, [], .slice none 0 0, [], .slice none 0 0, 0⟩ : MgM) with v := qa, o := qb, en := ⟨a8, 1 + b9, OpM.zero⟩, rc := c7, ra := b9, rb := a9, s := sb }) rfl
    have HV := Lib.hid (h21.loadV 39 Tryd.underlying39 rfl (by kernel_rfl))
    have HF := Lib.hid ((zeroL (h21.drop.drop.drop)))
    have HMS : Hid ((mgC { (⟨2, qf, qt, 0, 0, 0, 0, EnM.zero, .slice none 0 0, 0, 0, 0, false, 0, [], .slice none 0 0, [], .slice none 0 0, 0⟩ : MgM) with v := qa, o := qb, en := ⟨a8, 1 + b9, OpM.zero⟩, rc := c7, ra := b9, rb := a9, s := sb }).size = 22) := Lib.hid rfl
    have H1C := Lib.hid (mgC_one { (⟨2, qf, qt, 0, 0, 0, 0, EnM.zero, .slice none 0 0, 0, 0, 0, false, 0, [], .slice none 0 0, [], .slice none 0 0, 0⟩ : MgM) with v := qa, o := qb, en := ⟨a8, 1 + b9, OpM.zero⟩, rc := c7, ra := b9, rb := a9, s := sb } rfl rfl rfl)
    obtain ⟨mc, hmc⟩ : ∃ z, z = mgC { (⟨2, qf, qt, 0, 0, 0, 0, EnM.zero, .slice none 0 0, 0, 0, 0, false, 0, [], .slice none 0 0, [], .slice none 0 0, 0⟩ : MgM) with v := qa, o := qb, en := ⟨a8, 1 + b9, OpM.zero⟩, rc := c7, ra := b9, rb := a9, s := sb } := ⟨_, rfl⟩
    have HMC := Lib.hid hmc
    rw [← hmc] at hlm HV HMS H1C HF
    have HLM := Lib.hid hlm
    clear h20 h21 hlm hmc HG
    (try dsimp only); repeat' (first | (with_reducible show wpList _ _ _ (Oper.mk _ (Op.load 39 _) _ _ _ _ :: _) _ _; refine stopP ?_) | go_values | go_skip | go_guarded | go_step | go_upon | go_back)
    unfold StopP
    have hq_ := HLM.out
    refine wpList_load_run rfl 39 _ rfl _ _ rfl hq_ ?_
    clear hq_ HLM
    (try dsimp only); repeat' (first | (with_reducible show wpList _ _ _ (Oper.mk _ (Op.store 39 _ _) _ _ _ _ :: _) _ _; refine stopP ?_) | go_values | go_skip | go_guarded | go_step | go_upon | go_back)
    unfold StopP
    refine wpList_store_mid rfl 39 (.tmp 2) (.tmp 112) rfl b2 0 mc rfl rfl (by rw [HMS.out]; exact HT2.out) (by rw [HMS.out]; kernel_rfl) H1C.out ?_
    (try dsimp only); repeat' (first | go_values | go_skip | go_guarded | go_step | go_upon | go_back)
    exact bodyPost_ret (results_cell rfl rfl HV.out) rfl ⟨{ (⟨2, qf, qt, 0, 0, 0, 0, EnM.zero, .slice none 0 0, 0, 0, 0, false, 0, [], .slice none 0 0, [], .slice none 0 0, 0⟩ : MgM) with v := qa, o := qb, en := ⟨a8, 1 + b9, OpM.zero⟩, rc := c7, ra := b9, rb := a9, s := sb }, by rw [HMC.out], chk_mk (by show mfieldsOf 2 ≠ 0; decide) HQ.out.1 HQ.out.2.1 (holds1 (by kernel_rfl) (by (show 0 ≤ qa ∧ qa ≤ 9007199254740991); have := HQ.out; omega)) (holds1 (by kernel_rfl) (by (show 0 ≤ qb ∧ qb ≤ 9007199254740991); have := HQ.out; omega)) (holds0 _) (holds0 _) (by (show fEB (mfieldsOf 2) ⟨a8, 1 + b9, OpM.zero⟩ = true); unfold fEB; rw [if_neg (by decide), if_pos (by decide), show hdB a8 (1 + b9) = true from decide_eq_true (by have := HEE.out; omega)]; kernel_rfl) (by (show fRB (mfieldsOf 2) c7 b9 a9 sb = true); unfold fRB; rw [if_pos (by decide)]; exact decide_eq_true (by have := HRR.out; omega)) (by kernel_rfl), HF.out⟩
  · have hq : Sep w0 (Cl b3 (mgC (⟨3, qf, qt, 0, 0, 0, 0, EnM.zero, .slice none 0 0, 0, 0, 0, false, 0, [], .slice none 0 0, [], .slice none 0 0, 0⟩ : MgM)) 39 :: Cl b2 #[.int .i64 0, .int .i64 0, .int .i64 0, .int .i64 0, .int .i64 0, .int .i64 0, .int .i64 0, .int .i64 0, .int .i64 0, .int .i64 0, .string ⟨#[]⟩, .int .i64 0, .int .i64 0, .slice none 0 0, .int .i64 0, .int .i64 0, .int .i64 0, .bool false, .int .i64 0, .slice none 0 0, .slice none 0 0, .int .i64 0] 39 :: Cl b1 sdc 26 :: L) wq := hq0
    clear hq0
    have c0 := hq.cell (o := 0) (x := .int .i64 3) rfl
    have x3 := hq.cell (o := 3) (x := .int .i64 0) rfl
    have f3 := hq.frozen 3
    have x4 := hq.cell (o := 4) (x := .int .i64 0) rfl
    have f4 := hq.frozen 4
    have x5 := hq.cell (o := 5) (x := .int .i64 0) rfl
    have f5 := hq.frozen 5
    have y6 := hq.sw3.cell HM.out.2.2.2
    have h5 := (hq.setCell 3 (.int .i64 qa))
    obtain ⟨w5, hw5⟩ : ∃ z, z = (wq.setCell ⟨b3, 3, none⟩ (.int .i64 qa)) := ⟨_, rfl⟩
    rw [← hw5] at h5
    have HEN := Lib.hid (entry05_any s.n3 h5)
    clear h5
    have HQ5 := Lib.hid hq
    clear hq
    (try dsimp only); repeat' (first | go_values | go_skip | go_guarded | go_step | go_upon | go_back)
    (try rw [← hw5])
    refine HEN.out.mono ?_
    rintro r0 w6 ⟨rfl, h6⟩
    clear HEN
    have z4 := h6.cell (o := 4) (x := .int .i64 0) rfl
    have g4 := h6.frozen 4
    have z5 := h6.cell (o := 5) (x := .int .i64 0) rfl
    have g5 := h6.frozen 5
    obtain ⟨X, hX⟩ : ∃ X, X = enK s.n3 := ⟨_, rfl⟩
    have hXk : X.ok = true := by rw [hX]; exact enK_ok _
    have hXl : X.p.ls = [] := by rw [hX]; rfl
    rw [← hX]
    unfold enV
    have h7 := ((h6.setCell 4 (.int .i64 qb)).setCell 5 (.int .i64 qc))
    have HTH := Lib.hid (h7.thereAt 7 7 (by show 14 ≤ 22; omega))
    have h8 := Sep.setCells [.int .i64 X.c, .int .i64 X.m, .int .i64 X.p.k, .string X.p.s.1, .int .i64 X.p.o, .int .i64 X.p.n, .slice none 0 0] _ 7 _ h7
    have HG : Hid (Sep w0 (Cl b3 (mgC { (⟨3, qf, qt, 0, 0, 0, 0, EnM.zero, .slice none 0 0, 0, 0, 0, false, 0, [], .slice none 0 0, [], .slice none 0 0, 0⟩ : MgM) with v := qa, o := qb, cm := qc, en := X }) 39 :: Cl b2 #[.int .i64 0, .int .i64 0, .int .i64 0, .int .i64 0, .int .i64 0, .int .i64 0, .int .i64 0, .int .i64 0, .int .i64 0, .int .i64 0, .string ⟨#[]⟩, .int .i64 0, .int .i64 0, .slice none 0 0, .int .i64 0, .int .i64 0, .int .i64 0, .bool false, .int .i64 0, .slice none 0 0, .slice none 0 0, .int .i64 0] 39 :: Cl b1 sdc 26 :: L) (((w6.setCell ⟨b3, 4, none⟩ (.int .i64 qb)).setCell ⟨b3, 5, none⟩ (.int .i64 qc)).setCells b3 7 [.int .i64 X.c, .int .i64 X.m, .int .i64 X.p.k, .string X.p.s.1, .int .i64 X.p.o, .int .i64 X.p.n, .slice none 0 0])) := Lib.hid (by rw [← wr_en' { (⟨3, qf, qt, 0, 0, 0, 0, EnM.zero, .slice none 0 0, 0, 0, 0, false, 0, [], .slice none 0 0, [], .slice none 0 0, 0⟩ : MgM) with v := qa, o := qb, cm := qc } X (.slice none 0 0)]; exact h8)
    have HXK := Lib.hid (And.intro hXk hXl)
    clear h6 h7 h8 hX hXk hXl
    (try dsimp only); repeat' (first | (with_reducible show wpList _ _ _ (Oper.mk _ (Op.store 32 _ _) _ _ _ _ :: _) _ _; refine stopP ?_) | go_values | go_skip | go_guarded | go_step | go_upon | go_back)
    unfold StopP
    refine wpList_store_mid rfl 32 (.tmp 79) (.tmp 76) rfl b3 7 #[.int .i64 X.c, .int .i64 X.m, .int .i64 X.p.k, .string X.p.s.1, .int .i64 X.p.o, .int .i64 X.p.n, .slice none 0 0] rfl rfl HTH.out (by kernel_rfl) (by first | kernel_rfl | assumption | rfl) ?_
    have h20 := HG.out
    have hlm := h20.loadW 39 Tryd.underlying39 rfl (by kernel_rfl)
    have HT2 := Lib.hid (h20.sw2.thereAt 0 22 (by show 22 ≤ 22; omega))
    have h21 := h20.sw2.storeW (mgC { (⟨3, qf, qt, 0, 0, 0, 0, EnM.zero, .slice none 0 0, 0, 0, 0, false, 0, [], .slice none 0 0, [], .slice none 0 0, 0⟩ : MgM) with v := qa, o := qb, cm := qc, en := X }) rfl
    have HV := Lib.hid (h21.loadV 39 Tryd.underlying39 rfl (by kernel_rfl))
    have HF := Lib.hid ((zeroL2 HXK.out.2 (h21.drop.drop.drop)))
    have HMS : Hid ((mgC { (⟨3, qf, qt, 0, 0, 0, 0, EnM.zero, .slice none 0 0, 0, 0, 0, false, 0, [], .slice none 0 0, [], .slice none 0 0, 0⟩ : MgM) with v := qa, o := qb, cm := qc, en := X }).size = 22) := Lib.hid rfl
    have H1C := Lib.hid (mgC_one { (⟨3, qf, qt, 0, 0, 0, 0, EnM.zero, .slice none 0 0, 0, 0, 0, false, 0, [], .slice none 0 0, [], .slice none 0 0, 0⟩ : MgM) with v := qa, o := qb, cm := qc, en := X } rfl rfl rfl)
    obtain ⟨mc, hmc⟩ : ∃ z, z = mgC { (⟨3, qf, qt, 0, 0, 0, 0, EnM.zero, .slice none 0 0, 0, 0, 0, false, 0, [], .slice none 0 0, [], .slice none 0 0, 0⟩ : MgM) with v := qa, o := qb, cm := qc, en := X } := ⟨_, rfl⟩
    have HMC := Lib.hid hmc
    rw [← hmc] at hlm HV HMS H1C HF
    have HLM := Lib.hid hlm
    clear h20 h21 hlm hmc HG
    (try dsimp only); repeat' (first | (with_reducible show wpList _ _ _ (Oper.mk _ (Op.load 39 _) _ _ _ _ :: _) _ _; refine stopP ?_) | go_values | go_skip | go_guarded | go_step | go_upon | go_back)
    unfold StopP
    have hq_ := HLM.out
    refine wpList_load_run rfl 39 _ rfl _ _ rfl hq_ ?_
    clear hq_ HLM
    (try dsimp only); repeat' (first | (with_reducible show wpList _ _ _ (Oper.mk _ (Op.store 39 _ _) _ _ _ _ :: _) _ _; refine stopP ?_) | go_values | go_skip | go_guarded | go_step | go_upon | go_back)
    unfold StopP
    refine wpList_store_mid rfl 39 (.tmp 2) (.tmp 112) rfl b2 0 mc rfl rfl (by rw [HMS.out]; exact HT2.out) (by rw [HMS.out]; kernel_rfl) H1C.out ?_
    (try dsimp only); repeat' (first | go_values | go_skip | go_guarded | go_step | go_upon | go_back)
    exact bodyPost_ret (results_cell rfl rfl HV.out) rfl ⟨{ (⟨3, qf, qt, 0, 0, 0, 0, EnM.zero, .slice none 0 0, 0, 0, 0, false, 0, [], .slice none 0 0, [], .slice none 0 0, 0⟩ : MgM) with v := qa, o := qb, cm := qc, en := X }, by rw [HMC.out], chk_mk (by show mfieldsOf 3 ≠ 0; decide) HQ.out.1 HQ.out.2.1 (holds1 (by kernel_rfl) (by (show 0 ≤ qa ∧ qa ≤ 9007199254740991); have := HQ.out; omega)) (holds1 (by kernel_rfl) (by (show 0 ≤ qb ∧ qb ≤ 9007199254740991); have := HQ.out; omega)) (holds1 (by kernel_rfl) (by (show 0 ≤ qc ∧ qc ≤ 9007199254740991); have := HQ.out; omega)) (holds0 _) (by (show fEB (mfieldsOf 3) X = true); unfold fEB; rw [if_pos (by decide)]; exact HXK.out.1) (by kernel_rfl) (by kernel_rfl), HF.out⟩
  · have hq : Sep w0 (Cl b3 (mgC (⟨4, qf, qt, 0, 0, 0, 0, EnM.zero, .slice none 0 0, 0, 0, 0, false, 0, [], .slice none 0 0, [], .slice none 0 0, 0⟩ : MgM)) 39 :: Cl b2 #[.int .i64 0, .int .i64 0, .int .i64 0, .int .i64 0, .int .i64 0, .int .i64 0, .int .i64 0, .int .i64 0, .int .i64 0, .int .i64 0, .string ⟨#[]⟩, .int .i64 0, .int .i64 0, .slice none 0 0, .int .i64 0, .int .i64 0, .int .i64 0, .bool false, .int .i64 0, .slice none 0 0, .slice none 0 0, .int .i64 0] 39 :: Cl b1 sdc 26 :: L) wq := hq0
    clear hq0
    have c0 := hq.cell (o := 0) (x := .int .i64 4) rfl
    have x3 := hq.cell (o := 3) (x := .int .i64 0) rfl
    have f3 := hq.frozen 3
    have x4 := hq.cell (o := 4) (x := .int .i64 0) rfl
    have f4 := hq.frozen 4
    have HG : Hid (Sep w0 (Cl b3 (mgC { (⟨4, qf, qt, 0, 0, 0, 0, EnM.zero, .slice none 0 0, 0, 0, 0, false, 0, [], .slice none 0 0, [], .slice none 0 0, 0⟩ : MgM) with v := qa, o := qb }) 39 :: Cl b2 #[.int .i64 0, .int .i64 0, .int .i64 0, .int .i64 0, .int .i64 0, .int .i64 0, .int .i64 0, .int .i64 0, .int .i64 0, .int .i64 0, .string ⟨#[]⟩, .int .i64 0, .int .i64 0, .slice none 0 0, .int .i64 0, .int .i64 0, .int .i64 0, .bool false, .int .i64 0, .slice none 0 0, .slice none 0 0, .int .i64 0] 39 :: Cl b1 sdc 26 :: L) ((wq.setCell ⟨b3, 3, none⟩ (.int .i64 qa)).setCell ⟨b3, 4, none⟩ (.int .i64 qb))) := Lib.hid ((hq.setCell 3 (.int .i64 qa)).setCell 4 (.int .i64 qb))
    clear hq
    have h20 := HG.out
    have hlm := h20.loadW 39 Tryd.underlying39 rfl (by kernel_rfl)
    have HT2 := Lib.hid (h20.sw2.thereAt 0 22 (by show 22 ≤ 22; omega))
    have h21 := h20.sw2.storeW (mgC { (⟨4, qf, qt, 0, 0, 0, 0, EnM.zero, .slice none 0 0, 0, 0, 0, false, 0, [], .slice none 0 0, [], .slice none 0 0, 0⟩ : MgM) with v := qa, o := qb }) rfl
    have HV := Lib.hid (h21.loadV 39 Tryd.underlying39 rfl (by kernel_rfl))
    have HF := Lib.hid ((zeroL (h21.drop.drop.drop)))
    have HMS : Hid ((mgC { (⟨4, qf, qt, 0, 0, 0, 0, EnM.zero, .slice none 0 0, 0, 0, 0, false, 0, [], .slice none 0 0, [], .slice none 0 0, 0⟩ : MgM) with v := qa, o := qb }).size = 22) := Lib.hid rfl
    have H1C := Lib.hid (mgC_one { (⟨4, qf, qt, 0, 0, 0, 0, EnM.zero, .slice none 0 0, 0, 0, 0, false, 0, [], .slice none 0 0, [], .slice none 0 0, 0⟩ : MgM) with v := qa, o := qb } rfl rfl rfl)
    obtain ⟨mc, hmc⟩ : ∃ z, z = mgC { (⟨4, qf, qt, 0, 0, 0, 0, EnM.zero, .slice none 0 0, 0, 0, 0, false, 0, [], .slice none 0 0, [], .slice none 0 0, 0⟩ : MgM) with v := qa, o := qb } := ⟨_, rfl⟩
    have HMC := Lib.hid hmc
    rw [← hmc] at hlm HV HMS H1C HF
    have HLM := Lib.hid hlm
    clear h20 h21 hlm hmc HG
    (try dsimp only); repeat' (first | (with_reducible show wpList _ _ _ (Oper.mk _ (Op.load 39 _) _ _ _ _ :: _) _ _; refine stopP ?_) | go_values | go_skip | go_guarded | go_step | go_upon | go_back)
    unfold StopP
    have hq_ := HLM.out
    refine wpList_load_run rfl 39 _ rfl _ _ rfl hq_ ?_
    clear hq_ HLM
    (try dsimp only); repeat' (first | (with_reducible show wpList _ _ _ (Oper.mk _ (Op.store 39 _ _) _ _ _ _ :: _) _ _; refine stopP ?_) | go_values | go_skip | go_guarded | go_step | go_upon | go_back)
    unfold StopP
    refine wpList_store_mid rfl 39 (.tmp 2) (.tmp 112) rfl b2 0 mc rfl rfl (by rw [HMS.out]; exact HT2.out) (by rw [HMS.out]; kernel_rfl) H1C.out ?_
    (try dsimp only); repeat' (first | go_values | go_skip | go_guarded | go_step | go_upon | go_back)
    exact bodyPost_ret (results_cell rfl rfl HV.out) rfl ⟨{ (⟨4, qf, qt, 0, 0, 0, 0, EnM.zero, .slice none 0 0, 0, 0, 0, false, 0, [], .slice none 0 0, [], .slice none 0 0, 0⟩ : MgM) with v := qa, o := qb }, by rw [HMC.out], chk_mk (by show mfieldsOf 4 ≠ 0; decide) HQ.out.1 HQ.out.2.1 (holds1 (by kernel_rfl) (by (show 0 ≤ qa ∧ qa ≤ 9007199254740991); have := HQ.out; omega)) (holds1 (by kernel_rfl) (by (show 0 ≤ qb ∧ qb ≤ 9007199254740991); have := HQ.out; omega)) (holds0 _) (holds0 _) (by kernel_rfl) (by kernel_rfl) (by kernel_rfl), HF.out⟩
  · have hq : Sep w0 (Cl b3 (mgC (⟨5, qf, qt, 0, 0, 0, 0, EnM.zero, .slice none 0 0, 0, 0, 0, false, 0, [], .slice none 0 0, [], .slice none 0 0, 0⟩ : MgM)) 39 :: Cl b2 #[.int .i64 0, .int .i64 0, .int .i64 0, .int .i64 0, .int .i64 0, .int .i64 0, .int .i64 0, .int .i64 0, .int .i64 0, .int .i64 0, .string ⟨#[]⟩, .int .i64 0, .int .i64 0, .slice none 0 0, .int .i64 0, .int .i64 0, .int .i64 0, .bool false, .int .i64 0, .slice none 0 0, .slice none 0 0, .int .i64 0] 39 :: Cl b1 sdc 26 :: L) wq := hq0
    clear hq0
    have c0 := hq.cell (o := 0) (x := .int .i64 5) rfl
    have x3 := hq.cell (o := 3) (x := .int .i64 0) rfl
    have f3 := hq.frozen 3
    have x4 := hq.cell (o := 4) (x := .int .i64 0) rfl
    have f4 := hq.frozen 4
    have x5 := hq.cell (o := 5) (x := .int .i64 0) rfl
    have f5 := hq.frozen 5
    have HG : Hid (Sep w0 (Cl b3 (mgC { (⟨5, qf, qt, 0, 0, 0, 0, EnM.zero, .slice none 0 0, 0, 0, 0, false, 0, [], .slice none 0 0, [], .slice none 0 0, 0⟩ : MgM) with v := qa, o := qb, cm := qc }) 39 :: Cl b2 #[.int .i64 0, .int .i64 0, .int .i64 0, .int .i64 0, .int .i64 0, .int .i64 0, .int .i64 0, .int .i64 0, .int .i64 0, .int .i64 0, .string ⟨#[]⟩, .int .i64 0, .int .i64 0, .slice none 0 0, .int .i64 0, .int .i64 0, .int .i64 0, .bool false, .int .i64 0, .slice none 0 0, .slice none 0 0, .int .i64 0] 39 :: Cl b1 sdc 26 :: L) (((wq.setCell ⟨b3, 3, none⟩ (.int .i64 qa)).setCell ⟨b3, 4, none⟩ (.int .i64 qb)).setCell ⟨b3, 5, none⟩ (.int .i64 qc))) := Lib.hid (((hq.setCell 3 (.int .i64 qa)).setCell 4 (.int .i64 qb)).setCell 5 (.int .i64 qc))
    clear hq
    have h20 := HG.out
    have hlm := h20.loadW 39 Tryd.underlying39 rfl (by kernel_rfl)
    have HT2 := Lib.hid (h20.sw2.thereAt 0 22 (by show 22 ≤ 22; omega))
    have h21 := h20.sw2.storeW (mgC { (⟨5, qf, qt, 0, 0, 0, 0, EnM.zero, .slice none 0 0, 0, 0, 0, false, 0, [], .slice none 0 0, [], .slice none 0 0, 0⟩ : MgM) with v := qa, o := qb, cm := qc }) rfl
    have HV := Lib.hid (h21.loadV 39 Tryd.underlying39 rfl (by kernel_rfl))
    have HF := Lib.hid ((zeroL (h21.drop.drop.drop)))
    have HMS : Hid ((mgC { (⟨5, qf, qt, 0, 0, 0, 0, EnM.zero, .slice none 0 0, 0, 0, 0, false, 0, [], .slice none 0 0, [], .slice none 0 0, 0⟩ : MgM) with v := qa, o := qb, cm := qc }).size = 22) := Lib.hid rfl
    have H1C := Lib.hid (mgC_one { (⟨5, qf, qt, 0, 0, 0, 0, EnM.zero, .slice none 0 0, 0, 0, 0, false, 0, [], .slice none 0 0, [], .slice none 0 0, 0⟩ : MgM) with v := qa, o := qb, cm := qc } rfl rfl rfl)
    obtain ⟨mc, hmc⟩ : ∃ z, z = mgC { (⟨5, qf, qt, 0, 0, 0, 0, EnM.zero, .slice none 0 0, 0, 0, 0, false, 0, [], .slice none 0 0, [], .slice none 0 0, 0⟩ : MgM) with v := qa, o := qb, cm := qc } := ⟨_, rfl⟩
    have HMC := Lib.hid hmc
    rw [← hmc] at hlm HV HMS H1C HF
    have HLM := Lib.hid hlm
    clear h20 h21 hlm hmc HG
    (try dsimp only); repeat' (first | (with_reducible show wpList _ _ _ (Oper.mk _ (Op.load 39 _) _ _ _ _ :: _) _ _; refine stopP ?_) | go_values | go_skip | go_guarded | go_step | go_upon | go_back)
    unfold StopP
    have hq_ := HLM.out
    refine wpList_load_run rfl 39 _ rfl _ _ rfl hq_ ?_
    clear hq_ HLM
    (try dsimp only); repeat' (first | (with_reducible show wpList _ _ _ (Oper.mk _ (Op.store 39 _ _) _ _ _ _ :: _) _ _; refine stopP ?_) | go_values | go_skip | go_guarded | go_step | go_upon | go_back)
    unfold StopP
    refine wpList_store_mid rfl 39 (.tmp 2) (.tmp 112) rfl b2 0 mc rfl rfl (by rw [HMS.out]; exact HT2.out) (by rw [HMS.out]; kernel_rfl) H1C.out ?_
    (try dsimp only); repeat' (first | go_values | go_skip | go_guarded | go_step | go_upon | go_back)
    exact bodyPost_ret (results_cell rfl rfl HV.out) rfl ⟨{ (⟨5, qf, qt, 0, 0, 0, 0, EnM.zero, .slice none 0 0, 0, 0, 0, false, 0, [], .slice none 0 0, [], .slice none 0 0, 0⟩ : MgM) with v := qa, o := qb, cm := qc }, by rw [HMC.out], chk_mk (by show mfieldsOf 5 ≠ 0; decide) HQ.out.1 HQ.out.2.1 (holds1 (by kernel_rfl) (by (show 0 ≤ qa ∧ qa ≤ 9007199254740991); have := HQ.out; omega)) (holds1 (by kernel_rfl) (by (show 0 ≤ qb ∧ qb ≤ 9007199254740991); have := HQ.out; omega)) (holds1 (by kernel_rfl) (by (show 0 ≤ qc ∧ qc ≤ 9007199254740991); have := HQ.out; omega)) (holds0 _) (by kernel_rfl) (by kernel_rfl) (by kernel_rfl), HF.out⟩
  · have hq : Sep w0 (Cl b3 (mgC (⟨6, qf, qt, 0, 0, 0, 0, EnM.zero, .slice none 0 0, 0, 0, 0, false, 0, [], .slice none 0 0, [], .slice none 0 0, 0⟩ : MgM)) 39 :: Cl b2 #[.int .i64 0, .int .i64 0, .int .i64 0, .int .i64 0, .int .i64 0, .int .i64 0, .int .i64 0, .int .i64 0, .int .i64 0, .int .i64 0, .string ⟨#[]⟩, .int .i64 0, .int .i64 0, .slice none 0 0, .int .i64 0, .int .i64 0, .int .i64 0, .bool false, .int .i64 0, .slice none 0 0, .slice none 0 0, .int .i64 0] 39 :: Cl b1 sdc 26 :: L) wq := hq0
    clear hq0
    have c0 := hq.cell (o := 0) (x := .int .i64 6) rfl
    have x3 := hq.cell (o := 3) (x := .int .i64 0) rfl
    have f3 := hq.frozen 3
    have HG : Hid (Sep w0 (Cl b3 (mgC { (⟨6, qf, qt, 0, 0, 0, 0, EnM.zero, .slice none 0 0, 0, 0, 0, false, 0, [], .slice none 0 0, [], .slice none 0 0, 0⟩ : MgM) with v := qa }) 39 :: Cl b2 #[.int .i64 0, .int .i64 0, .int .i64 0, .int .i64 0, .int .i64 0, .int .i64 0, .int .i64 0, .int .i64 0, .int .i64 0, .int .i64 0, .string ⟨#[]⟩, .int .i64 0, .int .i64 0, .slice none 0 0, .int .i64 0, .int .i64 0, .int .i64 0, .bool false, .int .i64 0, .slice none 0 0, .slice none 0 0, .int .i64 0] 39 :: Cl b1 sdc 26 :: L) (wq.setCell ⟨b3, 3, none⟩ (.int .i64 qa))) := Lib.hid (hq.setCell 3 (.int .i64 qa))
    clear hq
    have h20 := HG.out
    have hlm := h20.loadW 39 Tryd.underlying39 rfl (by kernel_rfl)
    have HT2 := Lib.hid (h20.sw2.thereAt 0 22 (by show 22 ≤ 22; omega))
    have h21 := h20.sw2.storeW (mgC { (⟨6, qf, qt, 0, 0, 0, 0, EnM.zero, .slice none 0 0, 0, 0, 0, false, 0, [], .slice none 0 0, [], .slice none 0 0, 0⟩ : MgM) with v := qa }) rfl
    have HV := Lib.hid (h21.loadV 39 Tryd.underlying39 rfl (by kernel_rfl))
    have HF := Lib.hid ((zeroL (h21.drop.drop.drop)))
    have HMS : Hid ((mgC { (⟨6, qf, qt, 0, 0, 0, 0, EnM.zero, .slice none 0 0, 0, 0, 0, false, 0, [], .slice none 0 0, [], .slice none 0 0, 0⟩ : MgM) with v := qa }).size = 22) := Lib.hid rfl
    have H1C := Lib.hid (mgC_one { (⟨6, qf, qt, 0, 0, 0, 0, EnM.zero, .slice none 0 0, 0, 0, 0, false, 0, [], .slice none 0 0, [], .slice none 0 0, 0⟩ : MgM) with v := qa } rfl rfl rfl)
    obtain ⟨mc, hmc⟩ : ∃ z, z = mgC { (⟨6, qf, qt, 0, 0, 0, 0, EnM.zero, .slice none 0 0, 0, 0, 0, false, 0, [], .slice none 0 0, [], .slice none 0 0, 0⟩ : MgM) with v := qa } := ⟨_, rfl⟩
    have HMC := Lib.hid hmc
    rw [← hmc] at hlm HV HMS H1C HF
    have HLM := Lib.hid hlm
    clear h20 h21 hlm hmc HG
    (try dsimp only); repeat' (first | (with_reducible show wpList _ _ _ (Oper.mk _ (Op.load 39 _) _ _ _ _ :: _) _ _; refine stopP ?_) | go_values | go_skip | go_guarded | go_step | go_upon | go_back)
    unfold StopP
    have hq_ := HLM.out
    refine wpList_load_run rfl 39 _ rfl _ _ rfl hq_ ?_
    clear hq_ HLM
    (try dsimp only); repeat' (first | (with_reducible show wpList _ _ _ (Oper.mk _ (Op.store 39 _ _) _ _ _ _ :: _) _ _; refine stopP ?_) | go_values | go_skip | go_guarded | go_step | go_upon | go_back)
    unfold StopP
    refine wpList_store_mid rfl 39 (.tmp 2) (.tmp 112) rfl b2 0 mc rfl rfl (by rw [HMS.out]; exact HT2.out) (by rw [HMS.out]; kernel_rfl) H1C.out ?_
    (try dsimp only); repeat' (first | go_values | go_skip | go_guarded | go_step | go_upon | go_back)
    exact bodyPost_ret (results_cell rfl rfl HV.out) rfl ⟨{ (⟨6, qf, qt, 0, 0, 0, 0, EnM.zero, .slice none 0 0, 0, 0, 0, false, 0, [], .slice none 0 0, [], .slice none 0 0, 0⟩ : MgM) with v := qa }, by rw [HMC.out], chk_mk (by show mfieldsOf 6 ≠ 0; decide) HQ.out.1 HQ.out.2.1 (holds1 (by kernel_rfl) (by (show 0 ≤ qa ∧ qa ≤ 9007199254740991); have := HQ.out; omega)) (holds0 _) (holds0 _) (holds0 _) (by kernel_rfl) (by kernel_rfl) (by kernel_rfl), HF.out⟩
  · have hq : Sep w0 (Cl b3 (mgC (⟨7, qf, qt, 0, 0, 0, 0, EnM.zero, .slice none 0 0, 0, 0, 0, false, 0, [], .slice none 0 0, [], .slice none 0 0, 0⟩ : MgM)) 39 :: Cl b2 #[.int .i64 0, .int .i64 0, .int .i64 0, .int .i64 0, .int .i64 0, .int .i64 0, .int .i64 0, .int .i64 0, .int .i64 0, .int .i64 0, .string ⟨#[]⟩, .int .i64 0, .int .i64 0, .slice none 0 0, .int .i64 0, .int .i64 0, .int .i64 0, .bool false, .int .i64 0, .slice none 0 0, .slice none 0 0, .int .i64 0] 39 :: Cl b1 sdc 26 :: L) wq := hq0
    clear hq0
    have c0 := hq.cell (o := 0) (x := .int .i64 7) rfl
    have x3 := hq.cell (o := 3) (x := .int .i64 0) rfl
    have f3 := hq.frozen 3
    have x6 := hq.cell (o := 6) (x := .int .i64 0) rfl
    have f6 := hq.frozen 6
    have h5 := (hq.setCell 3 (.int .i64 qa))
    obtain ⟨w5, hw5⟩ : ∃ z, z = (wq.setCell ⟨b3, 3, none⟩ (.int .i64 qa)) := ⟨_, rfl⟩
    rw [← hw5] at h5
    have HLS := Lib.hid (h5.sw3.loadW 26 Tryd.underlying26 rfl (by rw [HSC.out]; kernel_rfl))
    have HIM := Lib.hid (image05_any s h5 (fun wx hx => HSD.out wx hx.drop.drop.drop))
    rw [← HSD2.out] at HIM
    clear h5 hq
    (try dsimp only); repeat' (first | (with_reducible show wpList _ _ _ (Oper.mk _ (Op.load 26 _) _ _ _ _ :: _) _ _; refine stopP ?_) | go_values | go_skip | go_guarded | go_step | go_upon | go_back)
    unfold StopP
    rw [← hw5]
    have hq_ := HLS.out
    refine wpList_load_run rfl 26 _ rfl _ _ rfl hq_ ?_
    clear hq_ HLS hw5
    (try dsimp only); repeat' (first | go_values | go_skip | go_guarded | go_step | go_upon | go_back)
    refine HIM.out.mono ?_
    rintro r0 w6 ⟨cv, ev, ps, ib, ic, rfl, hib, hpl, hok, hic, h6⟩
    clear HIM
    obtain ⟨cva, cvc, rfl⟩ := bv_form h6.sl
    obtain ⟨eva, evc, rfl, -, -⟩ := h6.sw2.enForm
    unfold imgC
    have h6 := h6.pickL (M := [_, _, _, _, _]) [2, 3, 4, 0, 1] rfl
    obtain ⟨ckx, hck⟩ : ∃ z, z = s.ck.take 300 := ⟨_, rfl⟩
    have hckl : ckx.length ≤ 300 := by rw [hck, List.length_take]; omega
    rw [← hck] at h6 ⊢
    have z6 := h6.cell (o := 6) (x := .int .i64 0) rfl
    have g6 := h6.frozen 6
    have h7 := (h6.setCell 6 (.int .i64 qb))
    have HTH := Lib.hid (h7.thereAt 18 4 (by show 22 ≤ 22; omega))
    have h8 := Sep.setCells [.int .i64 ib, .slice cva ckx.length cvc, .slice eva ps.length evc, .int .i64 ic] _ 18 _ h7
    have HG : Hid (Sep w0 (Cl b3 (mgC { (⟨7, qf, qt, 0, 0, 0, 0, EnM.zero, .slice none 0 0, 0, 0, 0, false, 0, [], .slice none 0 0, [], .slice none 0 0, 0⟩ : MgM) with v := qa, la := qb, ib := ib, ck := ckx, cv := .slice cva ckx.length cvc, ps := ps, ev := .slice eva ps.length evc, ic := ic }) 39 :: Cl b2 #[.int .i64 0, .int .i64 0, .int .i64 0, .int .i64 0, .int .i64 0, .int .i64 0, .int .i64 0, .int .i64 0, .int .i64 0, .int .i64 0, .string ⟨#[]⟩, .int .i64 0, .int .i64 0, .slice none 0 0, .int .i64 0, .int .i64 0, .int .i64 0, .bool false, .int .i64 0, .slice none 0 0, .slice none 0 0, .int .i64 0] 39 :: Cl b1 sdc 26 :: By (.slice cva ckx.length cvc) ckx :: EnT (.slice eva ps.length evc) ps :: L) ((w6.setCell ⟨b3, 6, none⟩ (.int .i64 qb)).setCells b3 18 [.int .i64 ib, .slice cva ckx.length cvc, .slice eva ps.length evc, .int .i64 ic])) := Lib.hid (by rw [show mgC { (⟨7, qf, qt, 0, 0, 0, 0, EnM.zero, .slice none 0 0, 0, 0, 0, false, 0, [], .slice none 0 0, [], .slice none 0 0, 0⟩ : MgM) with v := qa, la := qb, ib := ib, ck := ckx, cv := .slice cva ckx.length cvc, ps := ps, ev := .slice eva ps.length evc, ic := ic } = writeAt (mgC { (⟨7, qf, qt, 0, 0, 0, 0, EnM.zero, .slice none 0 0, 0, 0, 0, false, 0, [], .slice none 0 0, [], .slice none 0 0, 0⟩ : MgM) with v := qa, la := qb }) 18 [.int .i64 ib, .slice cva ckx.length cvc, .slice eva ps.length evc, .int .i64 ic] from (by simp [writeAt, mgC])]; exact h8)
    have HIQ := Lib.hid (And.intro hib (And.intro hpl (And.intro hok (And.intro hic hckl))))
    clear h6 h7 h8 hck hib hpl hok hic hckl
    (try dsimp only); repeat' (first | (with_reducible show wpList _ _ _ (Oper.mk _ (Op.store 37 _ _) _ _ _ _ :: _) _ _; refine stopP ?_) | go_values | go_skip | go_guarded | go_step | go_upon | go_back)
    unfold StopP
    refine wpList_store_mid rfl 37 (.tmp 97) (.tmp 95) rfl b3 18 #[.int .i64 ib, .slice cva ckx.length cvc, .slice eva ps.length evc, .int .i64 ic] rfl rfl HTH.out (by kernel_rfl) (by first | kernel_rfl | assumption | rfl) ?_
    have h20 := HG.out
    have hlm := h20.loadW 39 Tryd.underlying39 rfl (by kernel_rfl)
    have HT2 := Lib.hid (h20.sw2.thereAt 0 22 (by show 22 ≤ 22; omega))
    have h21 := h20.sw2.storeW (mgC { (⟨7, qf, qt, 0, 0, 0, 0, EnM.zero, .slice none 0 0, 0, 0, 0, false, 0, [], .slice none 0 0, [], .slice none 0 0, 0⟩ : MgM) with v := qa, la := qb, ib := ib, ck := ckx, cv := .slice cva ckx.length cvc, ps := ps, ev := .slice eva ps.length evc, ic := ic }) rfl
    have HV := Lib.hid (h21.loadV 39 Tryd.underlying39 rfl (by kernel_rfl))
    have HF := Lib.hid ((Sep.rnNil 2 117 h21.drop.drop.drop))
    have HMS : Hid ((mgC { (⟨7, qf, qt, 0, 0, 0, 0, EnM.zero, .slice none 0 0, 0, 0, 0, false, 0, [], .slice none 0 0, [], .slice none 0 0, 0⟩ : MgM) with v := qa, la := qb, ib := ib, ck := ckx, cv := .slice cva ckx.length cvc, ps := ps, ev := .slice eva ps.length evc, ic := ic }).size = 22) := Lib.hid rfl
    have H1C := Lib.hid (mgC_one { (⟨7, qf, qt, 0, 0, 0, 0, EnM.zero, .slice none 0 0, 0, 0, 0, false, 0, [], .slice none 0 0, [], .slice none 0 0, 0⟩ : MgM) with v := qa, la := qb, ib := ib, ck := ckx, cv := .slice cva ckx.length cvc, ps := ps, ev := .slice eva ps.length evc, ic := ic } rfl rfl rfl)
    obtain ⟨mc, hmc⟩ : ∃ z, z = mgC { (⟨7, qf, qt, 0, 0, 0, 0, EnM.zero, .slice none 0 0, 0, 0, 0, false, 0, [], .slice none 0 0, [], .slice none 0 0, 0⟩ : MgM) with v := qa, la := qb, ib := ib, ck := ckx, cv := .slice cva ckx.length cvc, ps := ps, ev := .slice eva ps.length evc, ic := ic } := ⟨_, rfl⟩
    have HMC := Lib.hid hmc
    rw [← hmc] at hlm HV HMS H1C HF
    have HLM := Lib.hid hlm
    clear h20 h21 hlm hmc HG
    (try dsimp only); repeat' (first | (with_reducible show wpList _ _ _ (Oper.mk _ (Op.load 39 _) _ _ _ _ :: _) _ _; refine stopP ?_) | go_values | go_skip | go_guarded | go_step | go_upon | go_back)
    unfold StopP
    have hq_ := HLM.out
    refine wpList_load_run rfl 39 _ rfl _ _ rfl hq_ ?_
    clear hq_ HLM
    (try dsimp only); repeat' (first | (with_reducible show wpList _ _ _ (Oper.mk _ (Op.store 39 _ _) _ _ _ _ :: _) _ _; refine stopP ?_) | go_values | go_skip | go_guarded | go_step | go_upon | go_back)
    unfold StopP
    refine wpList_store_mid rfl 39 (.tmp 2) (.tmp 112) rfl b2 0 mc rfl rfl (by rw [HMS.out]; exact HT2.out) (by rw [HMS.out]; kernel_rfl) H1C.out ?_
    (try dsimp only); repeat' (first | go_values | go_skip | go_guarded | go_step | go_upon | go_back)
    exact bodyPost_ret (results_cell rfl rfl HV.out) rfl ⟨{ (⟨7, qf, qt, 0, 0, 0, 0, EnM.zero, .slice none 0 0, 0, 0, 0, false, 0, [], .slice none 0 0, [], .slice none 0 0, 0⟩ : MgM) with v := qa, la := qb, ib := ib, ck := ckx, cv := .slice cva ckx.length cvc, ps := ps, ev := .slice eva ps.length evc, ic := ic }, by rw [HMC.out], chk_mk (by show mfieldsOf 7 ≠ 0; decide) HQ.out.1 HQ.out.2.1 (holds1 (by kernel_rfl) (by (show 0 ≤ qa ∧ qa ≤ 9007199254740991); have := HQ.out; omega)) (holds0 _) (holds0 _) (holds1 (by kernel_rfl) (by (show 0 ≤ qb ∧ qb ≤ 9007199254740991); have := HQ.out; omega)) (by kernel_rfl) (by kernel_rfl) (by (show fIB (mfieldsOf 7) ib ckx ps ic = true); exact img_mk (by decide) HIQ.out), HF.out⟩
  · have hq : Sep w0 (Cl b3 (mgC (⟨8, qf, qt, 0, 0, 0, 0, EnM.zero, .slice none 0 0, 0, 0, 0, false, 0, [], .slice none 0 0, [], .slice none 0 0, 0⟩ : MgM)) 39 :: Cl b2 #[.int .i64 0, .int .i64 0, .int .i64 0, .int .i64 0, .int .i64 0, .int .i64 0, .int .i64 0, .int .i64 0, .int .i64 0, .int .i64 0, .string ⟨#[]⟩, .int .i64 0, .int .i64 0, .slice none 0 0, .int .i64 0, .int .i64 0, .int .i64 0, .bool false, .int .i64 0, .slice none 0 0, .slice none 0 0, .int .i64 0] 39 :: Cl b1 sdc 26 :: L) wq := hq0
    clear hq0
    have c0 := hq.cell (o := 0) (x := .int .i64 8) rfl
    have x3 := hq.cell (o := 3) (x := .int .i64 0) rfl
    have f3 := hq.frozen 3
    have x4 := hq.cell (o := 4) (x := .int .i64 0) rfl
    have f4 := hq.frozen 4
    have HG : Hid (Sep w0 (Cl b3 (mgC { (⟨8, qf, qt, 0, 0, 0, 0, EnM.zero, .slice none 0 0, 0, 0, 0, false, 0, [], .slice none 0 0, [], .slice none 0 0, 0⟩ : MgM) with v := qa, o := qb }) 39 :: Cl b2 #[.int .i64 0, .int .i64 0, .int .i64 0, .int .i64 0, .int .i64 0, .int .i64 0, .int .i64 0, .int .i64 0, .int .i64 0, .int .i64 0, .string ⟨#[]⟩, .int .i64 0, .int .i64 0, .slice none 0 0, .int .i64 0, .int .i64 0, .int .i64 0, .bool false, .int .i64 0, .slice none 0 0, .slice none 0 0, .int .i64 0] 39 :: Cl b1 sdc 26 :: L) ((wq.setCell ⟨b3, 3, none⟩ (.int .i64 qa)).setCell ⟨b3, 4, none⟩ (.int .i64 qb))) := Lib.hid ((hq.setCell 3 (.int .i64 qa)).setCell 4 (.int .i64 qb))
    clear hq
    have h20 := HG.out
    have hlm := h20.loadW 39 Tryd.underlying39 rfl (by kernel_rfl)
    have HT2 := Lib.hid (h20.sw2.thereAt 0 22 (by show 22 ≤ 22; omega))
    have h21 := h20.sw2.storeW (mgC { (⟨8, qf, qt, 0, 0, 0, 0, EnM.zero, .slice none 0 0, 0, 0, 0, false, 0, [], .slice none 0 0, [], .slice none 0 0, 0⟩ : MgM) with v := qa, o := qb }) rfl
    have HV := Lib.hid (h21.loadV 39 Tryd.underlying39 rfl (by kernel_rfl))
    have HF := Lib.hid ((zeroL (h21.drop.drop.drop)))
    have HMS : Hid ((mgC { (⟨8, qf, qt, 0, 0, 0, 0, EnM.zero, .slice none 0 0, 0, 0, 0, false, 0, [], .slice none 0 0, [], .slice none 0 0, 0⟩ : MgM) with v := qa, o := qb }).size = 22) := Lib.hid rfl
    have H1C := Lib.hid (mgC_one { (⟨8, qf, qt, 0, 0, 0, 0, EnM.zero, .slice none 0 0, 0, 0, 0, false, 0, [], .slice none 0 0, [], .slice none 0 0, 0⟩ : MgM) with v := qa, o := qb } rfl rfl rfl)
    obtain ⟨mc, hmc⟩ : ∃ z, z = mgC { (⟨8, qf, qt, 0, 0, 0, 0, EnM.zero, .slice none 0 0, 0, 0, 0, false, 0, [], .slice none 0 0, [], .slice none 0 0, 0⟩ : MgM) with v := qa, o := qb } := ⟨_, rfl⟩
    have HMC := Lib.hid hmc
    rw [← hmc] at hlm HV HMS H1C HF
    have HLM := Lib.hid hlm
    clear h20 h21 hlm hmc HG
    (try dsimp only); repeat' (first | (with_reducible show wpList _ _ _ (Oper.mk _ (Op.load 39 _) _ _ _ _ :: _) _ _; refine stopP ?_) | go_values | go_skip | go_guarded | go_step | go_upon | go_back)
    unfold StopP
    have hq_ := HLM.out
    refine wpList_load_run rfl 39 _ rfl _ _ rfl hq_ ?_
    clear hq_ HLM
    (try dsimp only); repeat' (first | (with_reducible show wpList _ _ _ (Oper.mk _ (Op.store 39 _ _) _ _ _ _ :: _) _ _; refine stopP ?_) | go_values | go_skip | go_guarded | go_step | go_upon | go_back)
    unfold StopP
    refine wpList_store_mid rfl 39 (.tmp 2) (.tmp 112) rfl b2 0 mc rfl rfl (by rw [HMS.out]; exact HT2.out) (by rw [HMS.out]; kernel_rfl) H1C.out ?_
    (try dsimp only); repeat' (first | go_values | go_skip | go_guarded | go_step | go_upon | go_back)
    exact bodyPost_ret (results_cell rfl rfl HV.out) rfl ⟨{ (⟨8, qf, qt, 0, 0, 0, 0, EnM.zero, .slice none 0 0, 0, 0, 0, false, 0, [], .slice none 0 0, [], .slice none 0 0, 0⟩ : MgM) with v := qa, o := qb }, by rw [HMC.out], chk_mk (by show mfieldsOf 8 ≠ 0; decide) HQ.out.1 HQ.out.2.1 (holds1 (by kernel_rfl) (by (show 0 ≤ qa ∧ qa ≤ 9007199254740991); have := HQ.out; omega)) (holds1 (by kernel_rfl) (by (show 0 ≤ qb ∧ qb ≤ 9007199254740991); have := HQ.out; omega)) (holds0 _) (holds0 _) (by kernel_rfl) (by kernel_rfl) (by kernel_rfl), HF.out⟩
  · have hq : Sep w0 (Cl b3 (mgC (⟨9, qf, qt, 0, 0, 0, 0, EnM.zero, .slice none 0 0, 0, 0, 0, false, 0, [], .slice none 0 0, [], .slice none 0 0, 0⟩ : MgM)) 39 :: Cl b2 #[.int .i64 0, .int .i64 0, .int .i64 0, .int .i64 0, .int .i64 0, .int .i64 0, .int .i64 0, .int .i64 0, .int .i64 0, .int .i64 0, .string ⟨#[]⟩, .int .i64 0, .int .i64 0, .slice none 0 0, .int .i64 0, .int .i64 0, .int .i64 0, .bool false, .int .i64 0, .slice none 0 0, .slice none 0 0, .int .i64 0] 39 :: Cl b1 sdc 26 :: L) wq := hq0
    clear hq0
    have c0 := hq.cell (o := 0) (x := .int .i64 9) rfl
    have x3 := hq.cell (o := 3) (x := .int .i64 0) rfl
    have f3 := hq.frozen 3
    have h5 := (hq.setCell 3 (.int .i64 qa))
    obtain ⟨w5, hw5⟩ : ∃ z, z = (wq.setCell ⟨b3, 3, none⟩ (.int .i64 qa)) := ⟨_, rfl⟩
    rw [← hw5] at h5
    have HLS := Lib.hid (h5.sw3.loadW 26 Tryd.underlying26 rfl (by rw [HSC.out]; kernel_rfl))
    have HIM := Lib.hid (image05_any s h5 (fun wx hx => HSD.out wx hx.drop.drop.drop))
    rw [← HSD2.out] at HIM
    clear h5 hq
    (try dsimp only); repeat' (first | (with_reducible show wpList _ _ _ (Oper.mk _ (Op.load 26 _) _ _ _ _ :: _) _ _; refine stopP ?_) | go_values | go_skip | go_guarded | go_step | go_upon | go_back)
    unfold StopP
    rw [← hw5]
    have hq_ := HLS.out
    refine wpList_load_run rfl 26 _ rfl _ _ rfl hq_ ?_
    clear hq_ HLS hw5
    (try dsimp only); repeat' (first | go_values | go_skip | go_guarded | go_step | go_upon | go_back)
    refine HIM.out.mono ?_
    rintro r0 w6 ⟨cv, ev, ps, ib, ic, rfl, hib, hpl, hok, hic, h6⟩
    clear HIM
    obtain ⟨cva, cvc, rfl⟩ := bv_form h6.sl
    obtain ⟨eva, evc, rfl, -, -⟩ := h6.sw2.enForm
    unfold imgC
    have h6 := h6.pickL (M := [_, _, _, _, _]) [2, 3, 4, 0, 1] rfl
    obtain ⟨ckx, hck⟩ : ∃ z, z = s.ck.take 300 := ⟨_, rfl⟩
    have hckl : ckx.length ≤ 300 := by rw [hck, List.length_take]; omega
    rw [← hck] at h6 ⊢
    have h7 := h6
    have HTH := Lib.hid (h7.thereAt 18 4 (by show 22 ≤ 22; omega))
    have h8 := Sep.setCells [.int .i64 ib, .slice cva ckx.length cvc, .slice eva ps.length evc, .int .i64 ic] _ 18 _ h7
    have HG : Hid (Sep w0 (Cl b3 (mgC { (⟨9, qf, qt, 0, 0, 0, 0, EnM.zero, .slice none 0 0, 0, 0, 0, false, 0, [], .slice none 0 0, [], .slice none 0 0, 0⟩ : MgM) with v := qa, ib := ib, ck := ckx, cv := .slice cva ckx.length cvc, ps := ps, ev := .slice eva ps.length evc, ic := ic }) 39 :: Cl b2 #[.int .i64 0, .int .i64 0, .int .i64 0, .int .i64 0, .int .i64 0, .int .i64 0, .int .i64 0, .int .i64 0, .int .i64 0, .int .i64 0, .string ⟨#[]⟩, .int .i64 0, .int .i64 0, .slice none 0 0, .int .i64 0, .int .i64 0, .int .i64 0, .bool false, .int .i64 0, .slice none 0 0, .slice none 0 0, .int .i64 0] 39 :: Cl b1 sdc 26 :: By (.slice cva ckx.length cvc) ckx :: EnT (.slice eva ps.length evc) ps :: L) (w6.setCells b3 18 [.int .i64 ib, .slice cva ckx.length cvc, .slice eva ps.length evc, .int .i64 ic])) := Lib.hid (by rw [show mgC { (⟨9, qf, qt, 0, 0, 0, 0, EnM.zero, .slice none 0 0, 0, 0, 0, false, 0, [], .slice none 0 0, [], .slice none 0 0, 0⟩ : MgM) with v := qa, ib := ib, ck := ckx, cv := .slice cva ckx.length cvc, ps := ps, ev := .slice eva ps.length evc, ic := ic } = writeAt (mgC { (⟨9, qf, qt, 0, 0, 0, 0, EnM.zero, .slice none 0 0, 0, 0, 0, false, 0, [], .slice none 0 0, [], .slice none 0 0, 0⟩ : MgM) with v := qa }) 18 [.int .i64 ib, .slice cva ckx.length cvc, .slice eva ps.length evc, .int .i64 ic] from (by simp [writeAt, mgC])]; exact h8)
    have HIQ := Lib.hid (And.intro hib (And.intro hpl (And.intro hok (And.intro hic hckl))))
    clear h6 h7 h8 hck hib hpl hok hic hckl
    (try dsimp only); repeat' (first | (with_reducible show wpList _ _ _ (Oper.mk _ (Op.store 37 _ _) _ _ _ _ :: _) _ _; refine stopP ?_) | go_values | go_skip | go_guarded | go_step | go_upon | go_back)
    unfold StopP
    refine wpList_store_mid rfl 37 (.tmp 102) (.tmp 101) rfl b3 18 #[.int .i64 ib, .slice cva ckx.length cvc, .slice eva ps.length evc, .int .i64 ic] rfl rfl HTH.out (by kernel_rfl) (by first | kernel_rfl | assumption | rfl) ?_
    have h20 := HG.out
    have hlm := h20.loadW 39 Tryd.underlying39 rfl (by kernel_rfl)
    have HT2 := Lib.hid (h20.sw2.thereAt 0 22 (by show 22 ≤ 22; omega))
    have h21 := h20.sw2.storeW (mgC { (⟨9, qf, qt, 0, 0, 0, 0, EnM.zero, .slice none 0 0, 0, 0, 0, false, 0, [], .slice none 0 0, [], .slice none 0 0, 0⟩ : MgM) with v := qa, ib := ib, ck := ckx, cv := .slice cva ckx.length cvc, ps := ps, ev := .slice eva ps.length evc, ic := ic }) rfl
    have HV := Lib.hid (h21.loadV 39 Tryd.underlying39 rfl (by kernel_rfl))
    have HF := Lib.hid ((Sep.rnNil 2 117 h21.drop.drop.drop))
    have HMS : Hid ((mgC { (⟨9, qf, qt, 0, 0, 0, 0, EnM.zero, .slice none 0 0, 0, 0, 0, false, 0, [], .slice none 0 0, [], .slice none 0 0, 0⟩ : MgM) with v := qa, ib := ib, ck := ckx, cv := .slice cva ckx.length cvc, ps := ps, ev := .slice eva ps.length evc, ic := ic }).size = 22) := Lib.hid rfl
    have H1C := Lib.hid (mgC_one { (⟨9, qf, qt, 0, 0, 0, 0, EnM.zero, .slice none 0 0, 0, 0, 0, false, 0, [], .slice none 0 0, [], .slice none 0 0, 0⟩ : MgM) with v := qa, ib := ib, ck := ckx, cv := .slice cva ckx.length cvc, ps := ps, ev := .slice eva ps.length evc, ic := ic } rfl rfl rfl)
    obtain ⟨mc, hmc⟩ : ∃ z, z = mgC { (⟨9, qf, qt, 0, 0, 0, 0, EnM.zero, .slice none 0 0, 0, 0, 0, false, 0, [], .slice none 0 0, [], .slice none 0 0, 0⟩ : MgM) with v := qa, ib := ib, ck := ckx, cv := .slice cva ckx.length cvc, ps := ps, ev := .slice eva ps.length evc, ic := ic } := ⟨_, rfl⟩
    have HMC := Lib.hid hmc
    rw [← hmc] at hlm HV HMS H1C HF
    have HLM := Lib.hid hlm
    clear h20 h21 hlm hmc HG
    (try dsimp only); repeat' (first | (with_reducible show wpList _ _ _ (Oper.mk _ (Op.load 39 _) _ _ _ _ :: _) _ _; refine stopP ?_) | go_values | go_skip | go_guarded | go_step | go_upon | go_back)
    unfold StopP
    have hq_ := HLM.out
    refine wpList_load_run rfl 39 _ rfl _ _ rfl hq_ ?_
    clear hq_ HLM
    (try dsimp only); repeat' (first | (with_reducible show wpList _ _ _ (Oper.mk _ (Op.store 39 _ _) _ _ _ _ :: _) _ _; refine stopP ?_) | go_values | go_skip | go_guarded | go_step | go_upon | go_back)
    unfold StopP
    refine wpList_store_mid rfl 39 (.tmp 2) (.tmp 112) rfl b2 0 mc rfl rfl (by rw [HMS.out]; exact HT2.out) (by rw [HMS.out]; kernel_rfl) H1C.out ?_
    (try dsimp only); repeat' (first | go_values | go_skip | go_guarded | go_step | go_upon | go_back)
    exact bodyPost_ret (results_cell rfl rfl HV.out) rfl ⟨{ (⟨9, qf, qt, 0, 0, 0, 0, EnM.zero, .slice none 0 0, 0, 0, 0, false, 0, [], .slice none 0 0, [], .slice none 0 0, 0⟩ : MgM) with v := qa, ib := ib, ck := ckx, cv := .slice cva ckx.length cvc, ps := ps, ev := .slice eva ps.length evc, ic := ic }, by rw [HMC.out], chk_mk (by show mfieldsOf 9 ≠ 0; decide) HQ.out.1 HQ.out.2.1 (holds1 (by kernel_rfl) (by (show 0 ≤ qa ∧ qa ≤ 9007199254740991); have := HQ.out; omega)) (holds0 _) (holds0 _) (holds0 _) (by kernel_rfl) (by kernel_rfl) (by (show fIB (mfieldsOf 9) ib ckx ps ic = true); exact img_mk (by decide) HIQ.out), HF.out⟩
  · have hq : Sep w0 (Cl b3 (mgC (⟨10, qf, qt, 0, 0, 0, 0, EnM.zero, .slice none 0 0, 0, 0, 0, false, 0, [], .slice none 0 0, [], .slice none 0 0, 0⟩ : MgM)) 39 :: Cl b2 #[.int .i64 0, .int .i64 0, .int .i64 0, .int .i64 0, .int .i64 0, .int .i64 0, .int .i64 0, .int .i64 0, .int .i64 0, .int .i64 0, .string ⟨#[]⟩, .int .i64 0, .int .i64 0, .slice none 0 0, .int .i64 0, .int .i64 0, .int .i64 0, .bool false, .int .i64 0, .slice none 0 0, .slice none 0 0, .int .i64 0] 39 :: Cl b1 sdc 26 :: L) wq := hq0
    clear hq0
    have c0 := hq.cell (o := 0) (x := .int .i64 10) rfl
    have x3 := hq.cell (o := 3) (x := .int .i64 0) rfl
    have f3 := hq.frozen 3
    have z1 : 0 ≤ qa ∧ 0 ≤ qb ∧ 0 ≤ qc := by have := HQ.out; omega
    have t1 : qa.tmod 8 = qa % 8 := Int.tmod_eq_emod_of_nonneg z1.1
    have t2 : qc.tmod 8 = qc % 8 := Int.tmod_eq_emod_of_nonneg z1.2.2
    have t3 : qb.tmod 2147483647 = qb % 2147483647 := Int.tmod_eq_emod_of_nonneg z1.2.1
    have t4 : qa.tmod 2147483647 = qa % 2147483647 := Int.tmod_eq_emod_of_nonneg z1.1
    have t5 : qc.tmod 7 = qc % 7 := Int.tmod_eq_emod_of_nonneg z1.2.2
    obtain ⟨a8, ha8, ha80, ha81⟩ : ∃ z : Int, qa % 8 = z ∧ 0 ≤ z ∧ z < 8 := ⟨_, rfl, by omega, by omega⟩
    obtain ⟨c8, hc8, hc80, hc81⟩ : ∃ z : Int, qc % 8 = z ∧ 0 ≤ z ∧ z < 8 := ⟨_, rfl, by omega, by omega⟩
    obtain ⟨b9, hb9, hb90, hb91⟩ : ∃ z : Int, qb % 2147483647 = z ∧ 0 ≤ z ∧ z ≤ 2147483646 := ⟨_, rfl, by omega, by omega⟩
    obtain ⟨a9, ha9, ha90, ha91⟩ : ∃ z : Int, qa % 2147483647 = z ∧ 0 ≤ z ∧ z ≤ 2147483646 := ⟨_, rfl, by omega, by omega⟩
    obtain ⟨c7, hc7, hc70, hc71⟩ : ∃ z : Int, qc % 7 = z ∧ 0 ≤ z ∧ z < 7 := ⟨_, rfl, by omega, by omega⟩
    rw [ha8] at t1
    rw [hc8] at t2
    rw [hb9] at t3
    rw [ha9] at t4
    rw [hc7] at t5
    have e9 : IntKind.i64.wrap (1 + b9) = 1 + b9 := IntWalk.i64_in _ (by omega)
    obtain ⟨z11, z12, z13⟩ := z1
    have HEE : Hid ((0 ≤ c8 ∧ c8 < 8) ∧ 0 ≤ b9 ∧ b9 ≤ 2147483646) := Lib.hid (by omega)
    have h7 := (hq.setCell 3 (.int .i64 qa))
    have HTH := Lib.hid (h7.thereAt 7 7 (by show 14 ≤ 22; omega))
    have h8 := Sep.setCells [.int .i64 c8, .int .i64 (1 + b9), .int .i64 0, .string ⟨#[]⟩, .int .i64 0, .int .i64 0, .slice none 0 0] _ 7 _ h7
    have h9 : Sep w0 (Cl b3 (mgC { (⟨10, qf, qt, 0, 0, 0, 0, EnM.zero, .slice none 0 0, 0, 0, 0, false, 0, [], .slice none 0 0, [], .slice none 0 0, 0⟩ : MgM) with v := qa, en := ⟨c8, 1 + b9, OpM.zero⟩ }) 39 :: Cl b2 #[.int .i64 0, .int .i64 0, .int .i64 0, .int .i64 0, .int .i64 0, .int .i64 0, .int .i64 0, .int .i64 0, .int .i64 0, .int .i64 0, .string ⟨#[]⟩, .int .i64 0, .int .i64 0, .slice none 0 0, .int .i64 0, .int .i64 0, .int .i64 0, .bool false, .int .i64 0, .slice none 0 0, .slice none 0 0, .int .i64 0] 39 :: Cl b1 sdc 26 :: L) ((wq.setCell ⟨b3, 3, none⟩ (.int .i64 qa)).setCells b3 7 [.int .i64 c8, .int .i64 (1 + b9), .int .i64 0, .string ⟨#[]⟩, .int .i64 0, .int .i64 0, .slice none 0 0]) := by rw [show mgC { (⟨10, qf, qt, 0, 0, 0, 0, EnM.zero, .slice none 0 0, 0, 0, 0, false, 0, [], .slice none 0 0, [], .slice none 0 0, 0⟩ : MgM) with v := qa, en := ⟨c8, 1 + b9, OpM.zero⟩ } = writeAt (mgC { (⟨10, qf, qt, 0, 0, 0, 0, EnM.zero, .slice none 0 0, 0, 0, 0, false, 0, [], .slice none 0 0, [], .slice none 0 0, 0⟩ : MgM) with v := qa }) 7 [.int .i64 c8, .int .i64 (1 + b9), .int .i64 0, .string ⟨#[]⟩, .int .i64 0, .int .i64 0, .slice none 0 0] from (wr_en' { (⟨10, qf, qt, 0, 0, 0, 0, EnM.zero, .slice none 0 0, 0, 0, 0, false, 0, [], .slice none 0 0, [], .slice none 0 0, 0⟩ : MgM) with v := qa } ⟨c8, 1 + b9, OpM.zero⟩ (.slice none 0 0)).symm]; exact h8
    have HG := Lib.hid h9
    clear hq h7 h8 h9
    (try dsimp only); repeat' (first | (with_reducible show wpList _ _ _ (Oper.mk _ (Op.store 32 _ _) _ _ _ _ :: _) _ _; refine stopP ?_) | go_values | go_skip | go_guarded | go_step | go_upon | go_back)
    unfold StopP
    refine wpList_store_mid rfl 32 (.tmp 111) (.tmp 110) rfl b3 7 #[.int .i64 c8, .int .i64 (1 + b9), .int .i64 0, .string ⟨#[]⟩, .int .i64 0, .int .i64 0, .slice none 0 0] rfl rfl HTH.out (by kernel_rfl) (by first | kernel_rfl | assumption | rfl) ?_
    have h20 := HG.out
    have hlm := h20.loadW 39 Tryd.underlying39 rfl (by kernel_rfl)
    have HT2 := Lib.hid (h20.sw2.thereAt 0 22 (by show 22 ≤ 22; omega))
    have h21 := h20.sw2.storeW (mgC { (⟨10, qf, qt, 0, 0, 0, 0, EnM.zero, .slice none 0 0, 0, 0, 0, false, 0, [], .slice none 0 0, [], .slice none 0 0, 0⟩ : MgM) with v := qa, en := ⟨c8, 1 + b9, OpM.zero⟩ }) rfl
    have HV := Lib.hid (h21.loadV 39 Tryd.underlying39 rfl (by kernel_rfl))
    have HF := Lib.hid ((zeroL (h21.drop.drop.drop)))
    have HMS : Hid ((mgC { (⟨10, qf, qt, 0, 0, 0, 0, EnM.zero, .slice none 0 0, 0, 0, 0, false, 0, [], .slice none 0 0, [], .slice none 0 0, 0⟩ : MgM) with v := qa, en := ⟨c8, 1 + b9, OpM.zero⟩ }).size = 22) := Lib.hid rfl
    have H1C := Lib.hid (mgC_one { (⟨10, qf, qt, 0, 0, 0, 0, EnM.zero, .slice none 0 0, 0, 0, 0, false, 0, [], .slice none 0 0, [], .slice none 0 0, 0⟩ : MgM) with v := qa, en := ⟨c8, 1 + b9, OpM.zero⟩ } rfl rfl rfl)
    obtain ⟨mc, hmc⟩ : ∃ z, z = mgC { (⟨10, qf, qt, 0, 0, 0, 0, EnM.zero, .slice none 0 0, 0, 0, 0, false, 0, [], .slice none 0 0, [], .slice none 0 0, 0⟩ : MgM) with v := qa, en := ⟨c8, 1 + b9, OpM.zero⟩ } := ⟨_, rfl⟩
    have HMC := Lib.hid hmc
    rw [← hmc] at hlm HV HMS H1C HF
    have HLM := Lib.hid hlm
    clear h20 h21 hlm hmc HG
    (try dsimp only); repeat' (first | (with_reducible show wpList _ _ _ (Oper.mk _ (Op.load 39 _) _ _ _ _ :: _) _ _; refine stopP ?_) | go_values | go_skip | go_guarded | go_step | go_upon | go_back)
    unfold StopP
    have hq_ := HLM.out
    refine wpList_load_run rfl 39 _ rfl _ _ rfl hq_ ?_
    clear hq_ HLM
    (try dsimp only); repeat' (first | (with_reducible show wpList _ _ _ (Oper.mk _ (Op.store 39 _ _) _ _ _ _ :: _) _ _; refine stopP ?_) | go_values | go_skip | go_guarded | go_step | go_upon | go_back)
    unfold StopP
    refine wpList_store_mid rfl 39 (.tmp 2) (.tmp 112) rfl b2 0 mc rfl rfl (by rw [HMS.out]; exact HT2.out) (by rw [HMS.out]; kernel_rfl) H1C.out ?_
    (try dsimp only); repeat' (first | go_values | go_skip | go_guarded | go_step | go_upon | go_back)
    exact bodyPost_ret (results_cell rfl rfl HV.out) rfl ⟨{ (⟨10, qf, qt, 0, 0, 0, 0, EnM.zero, .slice none 0 0, 0, 0, 0, false, 0, [], .slice none 0 0, [], .slice none 0 0, 0⟩ : MgM) with v := qa, en := ⟨c8, 1 + b9, OpM.zero⟩ }, by rw [HMC.out], chk_mk (by show mfieldsOf 10 ≠ 0; decide) HQ.out.1 HQ.out.2.1 (holds1 (by kernel_rfl) (by (show 0 ≤ qa ∧ qa ≤ 9007199254740991); have := HQ.out; omega)) (holds0 _) (holds0 _) (holds0 _) (by (show fEB (mfieldsOf 10) ⟨c8, 1 + b9, OpM.zero⟩ = true); unfold fEB; rw [if_neg (by decide), if_pos (by decide), show hdB c8 (1 + b9) = true from decide_eq_true (by have := HEE.out; omega)]; kernel_rfl) (by kernel_rfl) (by kernel_rfl), HF.out⟩
end Go.Proofs.YtafkbodmiblbnaaDoor
