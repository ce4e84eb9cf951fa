/- Stage 18's laws: works. -/
import Derived.Test.YthgndegjiodopaaDoorCho16
namespace Go.Proofs.YthgndegjiodopaaDoor
open Go Go.RowKit
set_option linter.unusedVariables false
set_option linter.unusedSimpArgs false
theorem bdl (l : List OvM) (h : ∀ x ∈ l, ∃ fr la k co, x = lO fr la k co ∧ IQ fr ∧ k ≤ 24) : BdL l := by
  refine ⟨fun x hx => ?_, fun x hx => ?_⟩
  · obtain ⟨fr, la, k, co, rfl, h1, h2⟩ := h x hx
    exact h1
  · obtain ⟨fr, la, k, co, rfl, h1, h2⟩ := h x hx
    refine ⟨by show (0 : Int) ≤ 0; omega, by show (0 : Int) ≤ 9007199254740991; omega, by show (rowP k).length ≤ 24; rw [rowP_len]; exact h2, fun e he => ?_⟩
    obtain ⟨q, hq, rfl⟩ := List.mem_map.1 he
    obtain ⟨i, -, rfl⟩ := List.mem_map.1 (show q ∈ (List.range k).map _ from hq)
    exact Nat.zero_le _
theorem bdl2 (f1 l1 c1 f2 l2 c2 : Int) (k1 k2 : Nat) (h1 : IQ f1) (h2 : IQ f2) (h3 : k1 ≤ 24) (h4 : k2 ≤ 24) : BdL [lO f1 l1 k1 c1, lO f2 l2 k2 c2] := bdl _ fun x hx => by
  rcases (show x = lO f1 l1 k1 c1 ∨ x = lO f2 l2 k2 c2 by simpa using hx) with rfl | rfl
  · exact ⟨_, _, _, _, rfl, h1, h3⟩
  · exact ⟨_, _, _, _, rfl, h2, h4⟩
set_option maxRecDepth 100000 in
set_option maxHeartbeats 16000000 in
theorem works18_any {w0 w : World} {L : List Thing} (h : Sep w0 L w) (hk : KindsAt w0) :
    Calls Tryd.prog 7 #[] w fun e w' => e = .returned (.bool true) ∧ Sep w0 L w' := by
  have HK := Lib.hid hk
  have H := Lib.hid h
  clear h hk
  go_enter Tryd.func7, Tryd.ntmps7
  have HO := Lib.hid (offer_any 0 1 2 3 H.out (by omega))
  (try dsimp only); repeat' (first | go_values | go_skip | go_guarded | go_step | go_upon | go_back)
  refine HO.out.mono ?_
  rintro r0 w1 ⟨a1, c1, rfl, hh⟩
  have H := Lib.hid hh
  clear HO hh
  have h2 := H.out.alloc (.cells (ovC (⟨0, 1, 0, 2, .slice a1 3 c1, rowP 3⟩ : OvM)) 33)
  have HG := Lib.hid (mk1 (⟨0, 1, 0, 2, .slice a1 3 c1, rowP 3⟩ : OvM) 3 4 h2 (by omega) (by decide) (by omega) (by omega) (lAdd 3 4 0 1 3 2 a1 c1 (by omega) (by omega) (by omega) (by omega) (by omega) (by omega) (by omega) (by omega)) HK.out)
  unfold ovC at HG
  clear H h2
  (try simp only [ovV, ovC])
  (try dsimp only); repeat' (first | go_values | go_skip | go_guarded | go_step | go_upon | go_back)
  refine HG.out.mono ?_
  rintro r0 w1 ⟨gA, bA, xsA, rfl, hpA, hh⟩
  have HPA := Lib.hid hpA
  have H := Lib.hid (Sep.pickL (M := [_, _, _]) hh [0] rfl)
  clear HG hh hpA
  have HO := Lib.hid (offer_any 0 1 2 3 H.out (by omega))
  (try dsimp only); repeat' (first | go_values | go_skip | go_guarded | go_step | go_upon | go_back)
  refine HO.out.mono ?_
  rintro r0 w1 ⟨a2, c2, rfl, hh⟩
  have H := Lib.hid hh
  clear HO hh
  have HO := Lib.hid (offer_any 2 1 2 2 H.out (by omega))
  (try dsimp only); repeat' (first | go_values | go_skip | go_guarded | go_step | go_upon | go_back)
  refine HO.out.mono ?_
  rintro r0 w1 ⟨a3, c3, rfl, hh⟩
  have H := Lib.hid hh
  clear HO hh
  have h2 := H.out.sw2.alloc (.cells (ovC (⟨0, 1, 0, 2, .slice a2 3 c2, rowP 3⟩ : OvM) ++ ovC (⟨2, 1, 0, 2, .slice a3 2 c3, rowP 2⟩ : OvM)) 33)
  have HG := Lib.hid (mk2 (⟨0, 1, 0, 2, .slice a2 3 c2, rowP 3⟩ : OvM) (⟨2, 1, 0, 2, .slice a3 2 c3, rowP 2⟩ : OvM) 3 4 h2 (by omega) (by decide) (by omega) (by omega) (lAdd 3 4 0 1 3 2 a2 c2 (by omega) (by omega) (by omega) (by omega) (by omega) (by omega) (by omega) (by omega)) (lAdd 3 4 2 1 2 2 a3 c3 (by omega) (by omega) (by omega) (by omega) (by omega) (by omega) (by omega) (by omega)) (by show (0 : Int) ≠ 2; decide) HK.out)
  unfold ovC at HG
  clear H h2
  (try simp only [ovV, ovC])
  (try dsimp only); repeat' (first | go_values | go_skip | go_guarded | go_step | go_upon | go_back)
  refine HG.out.mono ?_
  rintro r0 w1 ⟨gB, bB, xsB, rfl, hpB, hh⟩
  have HPB := Lib.hid hpB
  have H := Lib.hid (Sep.pickL (M := [_, _, _, _]) hh [0] rfl)
  clear HG hh hpB
  have HO := Lib.hid (offer_any 0 1 0 3 H.out (by omega))
  (try dsimp only); repeat' (first | go_values | go_skip | go_guarded | go_step | go_upon | go_back)
  refine HO.out.mono ?_
  rintro r0 w1 ⟨a4, c4, rfl, hh⟩
  have H := Lib.hid hh
  clear HO hh
  have HO := Lib.hid (offer_any 1 3 1 1 H.out (by omega))
  (try dsimp only); repeat' (first | go_values | go_skip | go_guarded | go_step | go_upon | go_back)
  refine HO.out.mono ?_
  rintro r0 w1 ⟨a5, c5, rfl, hh⟩
  have H := Lib.hid hh
  clear HO hh
  have h2 := H.out.sw2.alloc (.cells (ovC (⟨0, 1, 0, 0, .slice a4 3 c4, rowP 3⟩ : OvM) ++ ovC (⟨1, 3, 0, 1, .slice a5 1 c5, rowP 1⟩ : OvM)) 33)
  have HG := Lib.hid (mk2 (⟨0, 1, 0, 0, .slice a4 3 c4, rowP 3⟩ : OvM) (⟨1, 3, 0, 1, .slice a5 1 c5, rowP 1⟩ : OvM) 3 4 h2 (by omega) (by decide) (by omega) (by omega) (lAdd 3 4 0 1 3 0 a4 c4 (by omega) (by omega) (by omega) (by omega) (by omega) (by omega) (by omega) (by omega)) (lAdd 3 4 1 3 1 1 a5 c5 (by omega) (by omega) (by omega) (by omega) (by omega) (by omega) (by omega) (by omega)) (by show (0 : Int) ≠ 1; decide) HK.out)
  unfold ovC at HG
  clear H h2
  (try simp only [ovV, ovC])
  (try dsimp only); repeat' (first | go_values | go_skip | go_guarded | go_step | go_upon | go_back)
  refine HG.out.mono ?_
  rintro r0 w1 ⟨gC, bC, xsC, rfl, hpC, hh⟩
  have HPC := Lib.hid hpC
  have H := Lib.hid (Sep.pickL (M := [_, _, _, _]) hh [0] rfl)
  clear HG hh hpC
  have HO := Lib.hid (offer_any 0 1 3 3 H.out (by omega))
  (try dsimp only); repeat' (first | go_values | go_skip | go_guarded | go_step | go_upon | go_back)
  refine HO.out.mono ?_
  rintro r0 w1 ⟨a6, c6, rfl, hh⟩
  have H := Lib.hid hh
  clear HO hh
  have HO := Lib.hid (offer_any 1 3 1 1 H.out (by omega))
  (try dsimp only); repeat' (first | go_values | go_skip | go_guarded | go_step | go_upon | go_back)
  refine HO.out.mono ?_
  rintro r0 w1 ⟨a7, c7, rfl, hh⟩
  have H := Lib.hid hh
  clear HO hh
  have h2 := H.out.sw2.alloc (.cells (ovC (⟨0, 1, 0, 3, .slice a6 3 c6, rowP 3⟩ : OvM) ++ ovC (⟨1, 3, 0, 1, .slice a7 1 c7, rowP 1⟩ : OvM)) 33)
  have HG := Lib.hid (mk2 (⟨0, 1, 0, 3, .slice a6 3 c6, rowP 3⟩ : OvM) (⟨1, 3, 0, 1, .slice a7 1 c7, rowP 1⟩ : OvM) 3 4 h2 (by omega) (by decide) (by omega) (by omega) (lAdd 3 4 0 1 3 3 a6 c6 (by omega) (by omega) (by omega) (by omega) (by omega) (by omega) (by omega) (by omega)) (lAdd 3 4 1 3 1 1 a7 c7 (by omega) (by omega) (by omega) (by omega) (by omega) (by omega) (by omega) (by omega)) (by show (0 : Int) ≠ 1; decide) HK.out)
  unfold ovC at HG
  clear H h2
  (try simp only [ovV, ovC])
  (try dsimp only); repeat' (first | go_values | go_skip | go_guarded | go_step | go_upon | go_back)
  refine HG.out.mono ?_
  rintro r0 w1 ⟨gD, bD, xsD, rfl, hpD, hh⟩
  have HPD := Lib.hid hpD
  have H := Lib.hid (Sep.pickL (M := [_, _, _, _]) hh [0] rfl)
  clear HG hh hpD
  have h2 := Sep.pickL (M := [_, _, _, _]) H.out [3, 0, 1, 2] rfl
  have HG := Lib.hid (oChooseFewL ([lO 0 1 3 2]) h2 HPA.out (by omega) (by decide))
  clear H h2
  (try dsimp only); repeat' (first | go_values | go_skip | go_guarded | go_step | go_upon | go_back)
  refine HG.out.mono ?_
  rintro r0 w1 ⟨rfl, hh⟩
  have h3 := (hh).alloc (.cells #[.int .i64 0, .slice none 0 0, .slice none 0 0, .int .i64 0] 31)
  have HT := Lib.hid (Sep.thereAt h3 0 4 (Nat.le_refl 4))
  have h4 := Sep.storeW h3 #[.int .i64 0, .slice none 0 0, .slice none 0 0, .int .i64 0] rfl
  have H := Lib.hid h4
  clear HG hh h3 h4
  (try dsimp only); repeat' (first | (with_reducible show wpList _ _ _ (Oper.mk _ (Op.store 31 _ _) _ _ _ _ :: _) _ _; refine stopP ?_) | go_values | go_skip | go_guarded | go_step | go_upon | go_back)
  unfold StopP
  refine wpList_store_mid rfl 31 (.tmp 5) (.tmp 49) rfl _ 0 #[.int .i64 0, .slice none 0 0, .slice none 0 0, .int .i64 0] rfl rfl HT.out (by kernel_rfl) (by kernel_rfl) ?_
  clear HT
  have h2 := Sep.pickL (M := [_, _, _, _, _]) H.out [4, 2, 3] rfl
  have HG := Lib.hid (oChooseL ([lO 0 1 3 2, lO 2 1 2 2]) h2 HPB.out (by omega) (bdl2 _ _ _ _ _ _ _ _ (by decide) (by decide) (by omega) (by omega)) (by decide) (by decide))
  clear H h2
  (try dsimp only); repeat' (first | go_values | go_skip | go_guarded | go_step | go_upon | go_back)
  refine HG.out.mono ?_
  rintro r0 w1 ⟨aB, cB, qsB, rfl, hqB, hh⟩
  rw [show choAns (minO (byFr [lO 0 1 3 2, lO 2 1 2 2] 3)) (maxCo (byFr [lO 0 1 3 2, lO 2 1 2 2] 3) (minO (byFr [lO 0 1 3 2, lO 2 1 2 2] 3)).co) aB cB = .tuple #[.agg #[.int .i64 0, .slice none 0 0, .slice aB 3 cB, .int .i64 2], .int .i64 0, .int .i64 0] by kernel_rfl]
  have h3 := (hh.drop).alloc (.cells #[.int .i64 0, .slice none 0 0, .slice none 0 0, .int .i64 0] 31)
  have HT := Lib.hid (Sep.thereAt h3 0 4 (Nat.le_refl 4))
  have h4 := Sep.storeW h3 #[.int .i64 0, .slice none 0 0, .slice aB 3 cB, .int .i64 2] rfl
  have H := Lib.hid h4
  clear HG hh h3 h4
  (try dsimp only); repeat' (first | (with_reducible show wpList _ _ _ (Oper.mk _ (Op.store 31 _ _) _ _ _ _ :: _) _ _; refine stopP ?_) | go_values | go_skip | go_guarded | go_step | go_upon | go_back)
  unfold StopP
  refine wpList_store_mid rfl 31 (.tmp 8) (.tmp 55) rfl _ 0 #[.int .i64 0, .slice none 0 0, .slice aB 3 cB, .int .i64 2] rfl rfl HT.out (by kernel_rfl) (by kernel_rfl) ?_
  clear HT
  have h2 := Sep.pickL (M := [_, _, _, _]) H.out [3, 2, 0] rfl
  have HG := Lib.hid (oChooseL ([lO 0 1 3 0, lO 1 3 1 1]) h2 HPC.out (by omega) (bdl2 _ _ _ _ _ _ _ _ (by decide) (by decide) (by omega) (by omega)) (by decide) (by decide))
  clear H h2
  (try dsimp only); repeat' (first | go_values | go_skip | go_guarded | go_step | go_upon | go_back)
  refine HG.out.mono ?_
  rintro r0 w1 ⟨aC, cC, qsC, rfl, hqC, hh⟩
  rw [show choAns (minO (byFr [lO 0 1 3 0, lO 1 3 1 1] 3)) (maxCo (byFr [lO 0 1 3 0, lO 1 3 1 1] 3) (minO (byFr [lO 0 1 3 0, lO 1 3 1 1] 3)).co) aC cC = .tuple #[.agg #[.int .i64 0, .slice none 0 0, .slice aC 1 cC, .int .i64 1], .int .i64 1, .int .i64 0] by kernel_rfl]
  have h3 := (hh.drop).alloc (.cells #[.int .i64 0, .slice none 0 0, .slice none 0 0, .int .i64 0] 31)
  have HT := Lib.hid (Sep.thereAt h3 0 4 (Nat.le_refl 4))
  have h4 := Sep.storeW h3 #[.int .i64 0, .slice none 0 0, .slice aC 1 cC, .int .i64 1] rfl
  have H := Lib.hid h4
  clear HG hh h3 h4
  (try dsimp only); repeat' (first | (with_reducible show wpList _ _ _ (Oper.mk _ (Op.store 31 _ _) _ _ _ _ :: _) _ _; refine stopP ?_) | go_values | go_skip | go_guarded | go_step | go_upon | go_back)
  unfold StopP
  refine wpList_store_mid rfl 31 (.tmp 11) (.tmp 61) rfl _ 0 #[.int .i64 0, .slice none 0 0, .slice aC 1 cC, .int .i64 1] rfl rfl HT.out (by kernel_rfl) (by kernel_rfl) ?_
  clear HT
  have h2 := Sep.pickL (M := [_, _, _, _]) H.out [2, 0, 3] rfl
  have HG := Lib.hid (oChooseL ([lO 0 1 3 3, lO 1 3 1 1]) h2 HPD.out (by omega) (bdl2 _ _ _ _ _ _ _ _ (by decide) (by decide) (by omega) (by omega)) (by decide) (by decide))
  clear H h2
  (try dsimp only); repeat' (first | go_values | go_skip | go_guarded | go_step | go_upon | go_back)
  refine HG.out.mono ?_
  rintro r0 w1 ⟨aD, cD, qsD, rfl, hqD, hh⟩
  rw [show choAns (minO (byFr [lO 0 1 3 3, lO 1 3 1 1] 3)) (maxCo (byFr [lO 0 1 3 3, lO 1 3 1 1] 3) (minO (byFr [lO 0 1 3 3, lO 1 3 1 1] 3)).co) aD cD = .tuple #[.agg #[.int .i64 0, .slice none 0 0, .slice none 0 0, .int .i64 0], .int .i64 0, .int .i64 9] by kernel_rfl]
  have h3 := (hh.drop).alloc (.cells #[.int .i64 0, .slice none 0 0, .slice none 0 0, .int .i64 0] 31)
  have HT := Lib.hid (Sep.thereAt h3 0 4 (Nat.le_refl 4))
  have h4 := Sep.storeW h3 #[.int .i64 0, .slice none 0 0, .slice none 0 0, .int .i64 0] rfl
  have H := Lib.hid h4
  clear HG hh h3 h4
  (try dsimp only); repeat' (first | (with_reducible show wpList _ _ _ (Oper.mk _ (Op.store 31 _ _) _ _ _ _ :: _) _ _; refine stopP ?_) | go_values | go_skip | go_guarded | go_step | go_upon | go_back)
  unfold StopP
  refine wpList_store_mid rfl 31 (.tmp 14) (.tmp 67) rfl _ 0 #[.int .i64 0, .slice none 0 0, .slice none 0 0, .int .i64 0] rfl rfl HT.out (by kernel_rfl) (by kernel_rfl) ?_
  clear HT
  have hC := Sep.pickL (M := [_, _, _, _]) H.out [2] rfl
  have hB := Sep.pickL (M := [_, _, _, _]) H.out [3] rfl
  have e2 := Sep.cell (o := 2) hC rfl
  have e3 := Sep.cell (o := 3) hC rfl
  have d2 := Sep.cell (o := 2) hB rfl
  have d3 := Sep.cell (o := 3) hB rfl
  have HF := Lib.hid (Sep.pickL (M := [_, _, _, _]) H.out [] rfl)
  clear H hC hB
  (try dsimp only); repeat' (first | go_values | go_skip | go_guarded | go_step | go_upon | go_back)
  go_ret
  exact ⟨rfl, HF.out⟩
end Go.Proofs.YthgndegjiodopaaDoor
