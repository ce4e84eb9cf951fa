/- The statement's own (stage 21): works. -/
import Derived.Test.YtdemconpdjgimaaDoorPx10
namespace Go.Proofs.YtdemconpdjgimaaDoor
open Go.RowKit
set_option linter.unusedVariables false
set_option linter.unusedSimpArgs false
theorem iq1 : IQ 1 := by unfold IQ; omega
theorem iq3 : IQ 3 := by unfold IQ; omega
theorem iq4 : IQ 4 := by unfold IQ; omega
def xB : Bal := rBal 1 4 3 iq1 iq4 iq3
theorem small_nil : Small [] := by intro y; show (0 : Nat) < 32768; decide
def S1 : List (Bal × Nat) := addS [] xB 1
def S2 : List (Bal × Nat) := addS S1 xB 1
theorem few1 : ¬ enough (3 : Nat) ≤ (popc ((mget [] xB).getD 0 ||| 2 ^ 1) : Nat) := of_decide_eq_true (by kernel_rfl)
theorem few2 : ¬ enough (3 : Nat) ≤ (popc ((mget S1 xB).getD 0 ||| 2 ^ 1) : Nat) := of_decide_eq_true (by kernel_rfl)
theorem won3 : enough (3 : Nat) ≤ (popc ((mget S2 xB).getD 0 ||| 2 ^ 2) : Nat) := of_decide_eq_true (by kernel_rfl)
theorem rok3 (who : Int) (h0 : 0 ≤ who) (h1 : who < 3) : ROk ((3 : Nat) : Int) who 1 4 3 1 := ⟨h0, h1, by decide, by decide, by decide, by decide, by decide, by decide, by decide, by decide, by decide⟩
theorem asInts {w0 w : World} {g : Nat} {xs : Array Value} {L : List Thing} (h : Sep w0 (Cl g xs 3 :: L) w) (l : List Int) (n : Nat) (hx : xs.toList = iv .i64 l) (hn : xs.size = n) (hl : n ≤ maxLen) : Sep w0 (Is (.slice (some ⟨g, 0, none⟩) n n) l :: L) w := by
  have h2 := h.asRow n hn hl
  rw [hx] at h2
  exact h2
set_option maxRecDepth 100000 in
set_option maxHeartbeats 0 in
theorem works21_any {w0 w : World} {L : List Thing} (h : Sep w0 L w) (hK : KindsAt w0) (hM : MKindsAt w0) : Calls Tryd.prog 7 #[] w fun e w' => e = .returned (.bool true) ∧ Sep w0 L w' := by
  have HNW := Lib.hid (pxnew_ok 2 ((3 : Nat) : Int) 2 h (by decide) (by decide) (by unfold IQ; omega) (of_decide_eq_true (by kernel_rfl)) (by decide) (by decide))
  have HK := Lib.hid hK
  have HM := Lib.hid hM
  clear h hK hM
  go_enter Tryd.func7, Tryd.ntmps7
  (try dsimp only); repeat' (first | go_values | go_skip | go_guarded | go_step | go_upon | go_back)
  refine HNW.out.mono ?_
  rintro r0 w2 ⟨g, gc, rfl, h2⟩
  have H2 := Lib.hid h2
  clear h2 HNW
  (try dsimp only); repeat' (first | go_values | go_skip | go_guarded | go_step | go_upon | go_back)
  refine (pxtick_idle H2.out).mono ?_
  rintro r0 w3 ⟨rfl, rfl⟩
  (try dsimp only); repeat' (first | go_values | go_skip | go_guarded | go_step | go_upon | go_back)
  refine (ship_any 5 H2.out).mono ?_
  rintro r0 w3 ⟨rfl, h3⟩
  have HA := Lib.hid (ask2_ok (n := 3) h3 5 (by decide) (by decide) HK.out (by decide) (by decide) (by decide) (of_decide_eq_true (by kernel_rfl)) (by decide))
  clear H2 h3
  (try dsimp only); repeat' (first | go_values | go_skip | go_guarded | go_step | go_upon | go_back)
  refine HA.out.mono ?_
  rintro r0 w4 ⟨rfl, la, lc, gt, b, hla, h4⟩
  have HLA := Lib.hid hla
  have H4 := Lib.hid h4
  clear HA h4 hla
  (try dsimp only); repeat' (first | go_values | go_skip | go_guarded | go_step | go_upon | go_back)
  refine (ship_any 5 H4.out).mono ?_
  rintro r0 w5 ⟨rfl, h5⟩
  have HA := Lib.hid (ask2_no (l := 0) (p := 0) h5 5)
  clear H4 h5
  (try dsimp only); repeat' (first | go_values | go_skip | go_guarded | go_step | go_upon | go_back)
  refine HA.out.mono ?_
  rintro r0 w6 ⟨rfl, h6⟩
  have H6 := Lib.hid h6
  clear HA h6
  (try dsimp only); repeat' (first | go_values | go_skip | go_guarded | go_step | go_upon | go_back)
  refine (pxnum_any H6.out).mono ?_
  rintro r0 w7 ⟨rfl, rfl⟩
  (try dsimp only); repeat' (first | go_values | go_skip | go_guarded | go_step | go_upon | go_back)
  refine (pxtick_first H6.out (by decide) (by decide) HLA.out (by decide) (by decide) (by decide)).mono ?_
  rintro r0 w8 ⟨v8, rows8, rfl, -, hr8, h8⟩
  have h9 := h8.alloc (.cells #[.int .i64 0] 3)
  have h10 := asInts h9 [0] 1 rfl rfl (by decide)
  have HT := Lib.hid (to_any h10.sw2 hr8 (by decide))
  clear H6 h8 h9 h10 hr8
  (try dsimp only); repeat' (first | go_values | go_skip | go_guarded | go_step | go_upon | go_back)
  refine HT.out.mono ?_
  rintro r0 w11 ⟨rfl, h11⟩
  have h12 : Sep w0 (PrxC g gc 2 ((3 : Nat) : Int) 1 0 true true 6 5 (.slice la 0 lc) (.pointer (some ⟨gt, 0, none⟩)) :: CkT gc 2 0 :: TalC gt b ((3 : Nat) : Int) :: BalM b [] :: L) w11 := h11.drop.drop
  have HW := Lib.hid (pxtick_wait h12 (by decide) (by decide) (by decide) (by decide))
  clear HT h11 h12
  (try dsimp only); repeat' (first | go_values | go_skip | go_guarded | go_step | go_upon | go_back)
  refine HW.out.mono ?_
  rintro r0 w13 ⟨rfl, h13⟩
  have HT := Lib.hid (to_any (o := 5) (ts := []) (rows := []) ((h13.rnil 3).rnNil 22 44) ⟨[], rfl, (fun v hv => by cases hv), rfl⟩ (by decide))
  clear HW h13
  (try dsimp only); repeat' (first | go_values | go_skip | go_guarded | go_step | go_upon | go_back)
  refine HT.out.mono ?_
  rintro r0 w14 ⟨rfl, h14⟩
  have HA2 := Lib.hid (pxtick_all h14.drop.drop (by decide) (by decide) (by decide) (by decide) (by decide) HLA.out (by decide))
  clear HT h14
  (try dsimp only); repeat' (first | go_values | go_skip | go_guarded | go_step | go_upon | go_back)
  refine HA2.out.mono ?_
  rintro r0 w15 ⟨v15, rows15, rfl, -, hr15, h15⟩
  have h16 := h15.alloc (.cells #[.int .i64 0, .int .i64 1, .int .i64 2] 3)
  have h17 := asInts h16 [0, 1, 2] 3 rfl rfl (by decide)
  have HT := Lib.hid (to_any h17.sw2 hr15 (by decide))
  clear HA2 h15 h16 h17 hr15
  (try dsimp only); repeat' (first | go_values | go_skip | go_guarded | go_step | go_upon | go_back)
  refine HT.out.mono ?_
  rintro r0 w18 ⟨rfl, h18⟩
  have HW := Lib.hid (pxtick_wait h18.drop.drop (by decide) (by decide) (by decide) (by decide))
  clear HT h18
  (try dsimp only); repeat' (first | go_values | go_skip | go_guarded | go_step | go_upon | go_back)
  refine HW.out.mono ?_
  rintro r0 w19 ⟨rfl, h19⟩
  have HT := Lib.hid (to_any (o := 5) (ts := []) (rows := []) ((h19.rnil 3).rnNil 22 44) ⟨[], rfl, (fun v hv => by cases hv), rfl⟩ (by decide))
  clear HW h19
  (try dsimp only); repeat' (first | go_values | go_skip | go_guarded | go_step | go_upon | go_back)
  refine HT.out.mono ?_
  rintro r0 w20 ⟨rfl, h20⟩
  have h20 : Sep w0 (PrxC g gc 2 ((3 : Nat) : Int) 1 0 true true 6 5 (.slice la 0 lc) (.pointer (some ⟨gt, 0, none⟩)) :: TalC gt b ((3 : Nat) : Int) :: BalM b [] :: L) w20 := h20.drop.drop.sw2.drop
  have H20 := Lib.hid h20
  clear HT h20
  (try dsimp only); repeat' (first | go_values | go_skip | go_guarded | go_step | go_upon | go_back)
  refine (reply_any 1 1 4 3 H20.out).mono ?_
  rintro r0 w21 ⟨rfl, h21⟩
  have HT := Lib.hid (tk_few (who := 1) HM.out h21 (rok3 1 (by decide) (by decide)) small_nil iq1 iq4 iq3 few1)
  unfold zTup at HT
  clear H20 h21
  (try dsimp only); repeat' (first | go_values | go_skip | go_guarded | go_step | go_upon | go_back)
  refine HT.out.mono ?_
  rintro r0 w22 ⟨rfl, h22⟩
  have h23 := h22.alloc0 (.cells #[.int .i64 0, .int .i64 0, .int .i64 0] 38)
  have H23 := Lib.hid h23
  clear HT h22 h23
  (try dsimp only); repeat' (first | go_values | go_skip | go_guarded | go_step | go_upon | go_back)
  refine (reply_any 1 1 4 3 H23.out).mono ?_
  rintro r0 w24 ⟨rfl, h24⟩
  have h24 : Sep w0 (PrxC g gc 2 ((3 : Nat) : Int) 1 1 true true 6 5 (.slice la 0 lc) (.pointer (some ⟨gt, 0, none⟩)) :: TalC gt b ((3 : Nat) : Int) :: BalM b S1 :: L) w24 := h24
  have HT := Lib.hid (tk_few (who := 1) HM.out h24 (rok3 1 (by decide) (by decide)) (small_add small_nil _ 1 (by decide)) iq1 iq4 iq3 few2)
  unfold zTup at HT
  clear H23 h24
  (try dsimp only); repeat' (first | go_values | go_skip | go_guarded | go_step | go_upon | go_back)
  refine HT.out.mono ?_
  rintro r0 w25 ⟨rfl, h25⟩
  have h26 := h25.alloc0 (.cells #[.int .i64 0, .int .i64 0, .int .i64 0] 38)
  have H26 := Lib.hid h26
  clear HT h25 h26
  (try dsimp only); repeat' (first | go_values | go_skip | go_guarded | go_step | go_upon | go_back)
  refine (reply_any 2 1 4 3 H26.out).mono ?_
  rintro r0 w27 ⟨rfl, h27⟩
  have h27 : Sep w0 (PrxC g gc 2 ((3 : Nat) : Int) 1 1 true true 6 5 (.slice la 0 lc) (.pointer (some ⟨gt, 0, none⟩)) :: TalC gt b ((3 : Nat) : Int) :: BalM b S2 :: L) w27 := h27
  have HT := Lib.hid (tk_won (who := 2) HM.out h27 (rok3 2 (by decide) (by decide)) (small_add (small_add small_nil _ 1 (by decide)) _ 1 (by decide)) iq1 iq4 iq3 won3)
  clear H26 h27
  (try dsimp only); repeat' (first | go_values | go_skip | go_guarded | go_step | go_upon | go_back)
  refine HT.out.mono ?_
  rintro r0 w28 ⟨rfl, h28⟩
  have h28 : Sep w0 (PrxC g gc 2 ((3 : Nat) : Int) 1 1 false true 0 0 (.slice none 0 0) (.pointer none) :: L) w28 := h28
  have h29 := h28.alloc (.cells #[.int .i64 0, .int .i64 3, .int .i64 0] 38)
  obtain ⟨br, hbr⟩ : ∃ z, z = w28.heap.size := ⟨_, rfl⟩
  obtain ⟨w29, hw29⟩ : ∃ z, z = w28.alloc (.cells #[.int .i64 0, .int .i64 3, .int .i64 0] 38) := ⟨_, rfl⟩
  rw [← hbr, ← hw29] at h29
  have H29 := Lib.hid h29
  clear HT h28 h29
  (try dsimp only); repeat' (first | go_values | go_skip | go_guarded | go_step | go_upon | go_back)
  rw [← hw29, ← hbr]
  clear hw29 hbr
  refine (reply_any 0 1 4 3 H29.out).mono ?_
  rintro r0 w30 ⟨rfl, h30⟩
  have h31 : Sep w0 (Cl w30.heap.size #[.int .i64 0, .int .i64 0, .int .i64 0, .int .i64 0, .int .i64 0, .int .i64 0, .int .i64 0, .int .i64 0, .int .i64 0, .int .i64 0, .string ⟨#[]⟩, .int .i64 0, .int .i64 0, .slice none 0 0, .int .i64 0, .int .i64 0, .int .i64 0, .bool false, .int .i64 0, .slice none 0 0, .slice none 0 0, .int .i64 0] 44 :: Cl br #[.int .i64 0, .int .i64 3, .int .i64 0] 38 :: PrxC g gc 2 ((3 : Nat) : Int) 1 1 false true 0 0 (.slice none 0 0) (.pointer none) :: L) (w30.alloc (.cells #[.int .i64 0, .int .i64 0, .int .i64 0, .int .i64 0, .int .i64 0, .int .i64 0, .int .i64 0, .int .i64 0, .int .i64 0, .int .i64 0, .string ⟨#[]⟩, .int .i64 0, .int .i64 0, .slice none 0 0, .int .i64 0, .int .i64 0, .int .i64 0, .bool false, .int .i64 0, .slice none 0 0, .slice none 0 0, .int .i64 0] 44)) := h30.alloc _
  have HTH := Lib.hid (h31.thereW 22 rfl)
  have h32 := h31.storeW (msC (rpM 0 1 4 3) (.slice none 0 0) (.slice none 0 0) (.slice none 0 0)) rfl
  have k17 := h32.cell (o := 17) (x := .bool false) rfl
  have kf17 := h32.frozen 17
  have h33 : Sep w0 (Cl w30.heap.size (msC (rM 0 1 4 3 1 true) (.slice none 0 0) (.slice none 0 0) (.slice none 0 0)) 44 :: Cl br #[.int .i64 0, .int .i64 3, .int .i64 0] 38 :: PrxC g gc 2 ((3 : Nat) : Int) 1 1 false true 0 0 (.slice none 0 0) (.pointer none) :: L) _ := h32.setCell 17 (.bool true)
  have HLD := Lib.hid h33.loadMs
  have h33q : Sep w0 (PrxC g gc 2 ((3 : Nat) : Int) 1 1 false true 0 0 (.slice none 0 0) (.pointer none) :: Cl br #[.int .i64 0, .int .i64 3, .int .i64 0] 38 :: L) _ := h33.pickL (M := [_, _, _]) [2, 1] rfl
  have HT := Lib.hid (tk_off (s := true) HM.out h33q (rok3 0 (by decide) (by decide)) rfl)
  unfold zTup at HT
  clear H29 h30 h31 h32 h33 h33q
  try dsimp only
  iterate 4 (first | go_values | go_skip | go_guarded | go_step | go_upon | go_back)
  refine wpList_store_mid rfl 44 (.tmp 15) (.tmp 101) rfl _ 0 (msC (rpM 0 1 4 3) (.slice none 0 0) (.slice none 0 0) (.slice none 0 0)) rfl rfl HTH.out (by kernel_rfl) (by kernel_rfl) ?_
  clear HTH
  iterate 19 (first | go_values | go_skip | go_guarded | go_step | go_upon | go_back)
  refine wpList_load_run rfl 44 _ rfl _ _ rfl HLD.out ?_
  clear HLD
  (try dsimp only); repeat' (first | go_values | go_skip | go_guarded | go_step | go_upon | go_back)
  refine HT.out.mono ?_
  rintro r0 w34 ⟨rfl, h34⟩
  have h35 := h34.alloc0 (.cells #[.int .i64 0, .int .i64 0, .int .i64 0] 38)
  have c0 := h35.sw2.cell (o := 0) (x := .int .i64 0) rfl
  have c1 := h35.sw2.cell (o := 1) (x := .int .i64 3) rfl
  have c2 := h35.sw2.cell (o := 2) (x := .int .i64 0) rfl
  have H35 := Lib.hid h35
  clear HT h34 h35 k17 kf17
  (try dsimp only); repeat' (first | go_values | go_skip | go_guarded | go_step | go_upon | go_back)
  refine (pxwaits_any H35.out).mono ?_
  rintro r0 w36 ⟨rfl, rfl⟩
  (try dsimp only); repeat' (first | go_values | go_skip | go_guarded | go_step | go_upon | go_back)
  refine (pxview_any H35.out).mono ?_
  rintro r0 w36 ⟨rfl, rfl⟩
  (try dsimp only); repeat' (first | go_values | go_skip | go_guarded | go_step | go_upon | go_back)
  go_ret
  exact ⟨rfl, H35.out.drop.drop⟩
end Go.Proofs.YtdemconpdjgimaaDoor
