/- The statement's own: works. -/
import Derived.Test.YtjjjkfdppleagaaTable12
namespace Go.Proofs.Ytjjjkfdppleagaa
open Go Go.RowKit
set_option linter.unusedVariables false
set_option linter.unusedSimpArgs false
theorem build8 (w : World) (c0_0 c1_0 c2_0 c3_0 c4_0 c5_0 c6_0 c7_0 : Int) :
    (Instr.buildSlice 52 8 #[(0, (.int .u8 c0_0)), (1, (.int .u8 c1_0)), (2, (.int .u8 c2_0)), (3, (.int .u8 c3_0)), (4, (.int .u8 c4_0)), (5, (.int .u8 c5_0)), (6, (.int .u8 c6_0)), (7, (.int .u8 c7_0))]).run Try.prog w = .ok (.slice (some ⟨w.heap.size, 0, none⟩) 8 8) (w.alloc (.cells #[.int .u8 c0_0, .int .u8 c1_0, .int .u8 c2_0, .int .u8 c3_0, .int .u8 c4_0, .int .u8 c5_0, .int .u8 c6_0, .int .u8 c7_0] 5)) := by
  simp [go_sem]
theorem wpList_build8 {w : World} {ops : Array Oper} {rest : List Oper} {o : Oper} {a : Act} {Q : Exit → Act → World → Prop} (hgd : o.guard = none) (x0 x1 x2 x3 x4 x5 x6 x7 : Operand)
    (ho : o.op = .buildSlice 52 8 #[(0, x0), (1, x1), (2, x2), (3, x3), (4, x4), (5, x5), (6, x6), (7, x7)]) {c0_0 c1_0 c2_0 c3_0 c4_0 c5_0 c6_0 c7_0 : Int} (h0 : a.eval x0 = (.int .u8 c0_0)) (h1 : a.eval x1 = (.int .u8 c1_0)) (h2 : a.eval x2 = (.int .u8 c2_0)) (h3 : a.eval x3 = (.int .u8 c3_0)) (h4 : a.eval x4 = (.int .u8 c4_0)) (h5 : a.eval x5 = (.int .u8 c5_0)) (h6 : a.eval x6 = (.int .u8 c6_0)) (h7 : a.eval x7 = (.int .u8 c7_0)) {l : Array Value} (hl : #[.int .u8 c0_0, .int .u8 c1_0, .int .u8 c2_0, .int .u8 c3_0, .int .u8 c4_0, .int .u8 c5_0, .int .u8 c6_0, .int .u8 c7_0] = l)
    (h : wpList Try.prog ops Q rest (a.put o.dst (.slice (some ⟨w.heap.size, 0, none⟩) 8 8)) (w.alloc (.cells l 5))) : wpList Try.prog ops Q (o :: rest) a w := by
  subst hl
  refine wpList_plain hgd fun K hK => ?_
  unfold Oper.wp
  simp [execOp, ho, h0, h1, h2, h3, h4, h5, h6, h7, build8, Result.andThen]
  exact hK _ _ h
theorem opwp_build8 {w : World} {o : Oper} {a : Act} {K : Act → World → Prop} {Q : Exit → Act → World → Prop} (x0 x1 x2 x3 x4 x5 x6 x7 : Operand)
    (ho : o.op = .buildSlice 52 8 #[(0, x0), (1, x1), (2, x2), (3, x3), (4, x4), (5, x5), (6, x6), (7, x7)]) {c0_0 c1_0 c2_0 c3_0 c4_0 c5_0 c6_0 c7_0 : Int} (h0 : a.eval x0 = (.int .u8 c0_0)) (h1 : a.eval x1 = (.int .u8 c1_0)) (h2 : a.eval x2 = (.int .u8 c2_0)) (h3 : a.eval x3 = (.int .u8 c3_0)) (h4 : a.eval x4 = (.int .u8 c4_0)) (h5 : a.eval x5 = (.int .u8 c5_0)) (h6 : a.eval x6 = (.int .u8 c6_0)) (h7 : a.eval x7 = (.int .u8 c7_0)) {l : Array Value} (hl : #[.int .u8 c0_0, .int .u8 c1_0, .int .u8 c2_0, .int .u8 c3_0, .int .u8 c4_0, .int .u8 c5_0, .int .u8 c6_0, .int .u8 c7_0] = l)
    (h : K (a.put o.dst (.slice (some ⟨w.heap.size, 0, none⟩) 8 8)) (w.alloc (.cells l 5))) : Oper.wp Try.prog o a w K Q := by
  subst hl
  unfold Oper.wp
  simp [execOp, ho, h0, h1, h2, h3, h4, h5, h6, h7, build8, Result.andThen]
  exact h
def T1 : List SW := T0.set 3 ⟨true, 3, 5, 9, 0, 1, 2⟩
def T2 : List SW := T1.set 3 ⟨true, 3, 7, 12, 0, 0, 0⟩
def T3 : List SW := T2.set 3 ⟨true, 3, 5, 9, 0, 1, 2⟩
def T4 : List SW := T3.set 3 ⟨false, 0, 0, 0, 0, 0, 0⟩
def bs8 : List UInt8 := [1, 3, 5, 9, 3, 0, 1, 2]
theorem jv0 : judgeV T0 3 5 = 1 := by kernel_rfl
theorem jv1 : judgeV T1 3 5 = 2 := by kernel_rfl
theorem jv2 : judgeV T1 3 4 = 3 := by kernel_rfl
theorem jv3 : judgeV T1 3 6 = 1 := by kernel_rfl
theorem jv4 : judgeV T1 3 7 = 1 := by kernel_rfl
theorem tb1 : tabBs T1 = bs8 := by kernel_rfl
theorem ok1 : ∀ s ∈ seatsOf T1, clientOk s.c s.n s.o s.k s.a s.b = true := by
  have h : (seatsOf T1).all (fun s => clientOk s.c s.n s.o s.k s.a s.b) = true := by kernel_rfl
  exact fun s hs => List.all_eq_true.1 h s hs
theorem ln4 : (seatsOf T4).length = 0 := by kernel_rfl
set_option maxRecDepth 100000 in
set_option maxHeartbeats 16000000 in
theorem works10_any {w0 w : World} {L : List Thing} (h : Sep w0 L w) : Calls Try.prog 27 #[] w fun e w' => e = .returned (.bool true) ∧ Sep w0 L w' := by
  have HN := Lib.hid (tnew_any h)
  clear h
  go_enter Try.func27, Try.ntmps27
  (try dsimp only); repeat' (first | go_values | go_skip | go_guarded | go_step | go_upon | go_back)
  refine HN.out.mono ?_
  rintro r0 w1 ⟨g, rfl, h1⟩
  have hj := judge_any 3 5 h1 rfl
  rw [jv0] at hj
  have HJ := Lib.hid hj
  clear HN h1 hj
  (try dsimp only); repeat' (first | go_values | go_skip | go_guarded | go_step | go_upon | go_back)
  refine HJ.out.mono ?_
  rintro r1 w2 ⟨rfl, h2⟩
  have hp := put_new 3 5 9 0 1 2 h2 rfl SW.zero rfl (by kernel_rfl) jv0
  rw [show ((3 : Nat) : Int) = 3 from rfl] at hp
  dsimp only [SW.zero] at hp
  have HP := Lib.hid hp
  clear HJ h2 hp
  (try dsimp only); repeat' (first | go_values | go_skip | go_guarded | go_step | go_upon | go_back)
  refine HP.out.mono ?_
  rintro r2 w3 ⟨rfl, h3⟩
  have h4 : Sep w0 (Cl w3.heap.size #[.bool false, .int .i64 0, .int .i64 0, .int .i64 0, .int .i64 0, .int .i64 0, .int .i64 0] 33 :: TabT g T1 :: L) _ := Sep.alloc h3 (.cells #[.bool false, .int .i64 0, .int .i64 0, .int .i64 0, .int .i64 0, .int .i64 0, .int .i64 0] 33)
  obtain ⟨b2, hb2⟩ : ∃ z, z = w3.heap.size := ⟨_, rfl⟩
  obtain ⟨w4, hw4⟩ : ∃ z, z = w3.alloc (.cells #[.bool false, .int .i64 0, .int .i64 0, .int .i64 0, .int .i64 0, .int .i64 0, .int .i64 0] 33) := ⟨_, rfl⟩
  rw [← hb2, ← hw4] at h4
  have hj := judge_any 3 5 h4.sw2 rfl
  rw [jv1] at hj
  have HJ2 := Lib.hid hj
  clear HP h3 h4 hj
  (try dsimp only); repeat' (first | go_values | go_skip | go_guarded | go_step | go_upon | go_back)
  rw [← hw4, ← hb2]
  clear hw4 hb2
  refine HJ2.out.mono ?_
  rintro r3 w5 ⟨rfl, h5⟩
  have hj := judge_any 3 4 h5 rfl
  rw [jv2] at hj
  have HJ3 := Lib.hid hj
  clear HJ2 h5 hj
  (try dsimp only); repeat' (first | go_values | go_skip | go_guarded | go_step | go_upon | go_back)
  refine HJ3.out.mono ?_
  rintro r4 w6 ⟨rfl, h6⟩
  have hj := judge_any 3 6 h6 rfl
  rw [jv3] at hj
  have HJ4 := Lib.hid hj
  clear HJ3 h6 hj
  (try dsimp only); repeat' (first | go_values | go_skip | go_guarded | go_step | go_upon | go_back)
  refine HJ4.out.mono ?_
  rintro r5 w7 ⟨rfl, h7⟩
  have hb := tbytes_any h7 rfl ok1
  rw [tb1] at hb
  have HB := Lib.hid hb
  clear HJ4 h7 hb
  (try dsimp only); repeat' (first | go_values | go_skip | go_guarded | go_step | go_upon | go_back)
  refine HB.out.mono ?_
  rintro r6 w8 ⟨u, rfl, h8⟩
  obtain ⟨ua, uc, rfl⟩ := h8.sl.len
  have h9 := h8.alloc (.cells #[.int .u8 1, .int .u8 3, .int .u8 5, .int .u8 9, .int .u8 3, .int .u8 0, .int .u8 1, .int .u8 2] 5)
  have h10 := h9.asRow 8 rfl (by unfold maxLen; omega)
  have HE := Lib.hid (eqBytes_any _ _ bs8 bs8 _ h9.sw2.sl (show Sl _ _ (bv bs8) from h10.sl))
  have H9 := Lib.hid (h9.drop.drop)
  clear HB h8 h9 h10
  rw [show (bs8 == bs8) = true from by kernel_rfl] at HE
  (try dsimp only); repeat' (first | (refine opwp_build8 (l := #[.int .u8 1, .int .u8 3, .int .u8 5, .int .u8 9, .int .u8 3, .int .u8 0, .int .u8 1, .int .u8 2]) _ _ _ _ _ _ _ _ rfl rfl rfl rfl rfl rfl rfl rfl rfl rfl ?_) | go_values | go_skip | go_guarded | go_step | go_upon | go_back)
  refine HE.out.mono ?_
  rintro r7 w9 ⟨rfl, rfl⟩
  have hp := put_new 3 7 12 0 0 0 H9.out rfl ⟨true, 3, 5, 9, 0, 1, 2⟩ rfl (by kernel_rfl) jv4
  rw [show ((3 : Nat) : Int) = 3 from rfl] at hp
  dsimp only at hp
  have HP := Lib.hid hp
  clear HE H9 hp
  (try dsimp only); repeat' (first | go_values | go_skip | go_guarded | go_step | go_upon | go_back)
  refine HP.out.mono ?_
  rintro r8 w10 ⟨rfl, h11⟩
  have h12 : Sep w0 (Cl w10.heap.size #[.bool true, .int .i64 3, .int .i64 5, .int .i64 9, .int .i64 0, .int .i64 1, .int .i64 2] 33 :: TabT g T2 :: Cl b2 #[.bool false, .int .i64 0, .int .i64 0, .int .i64 0, .int .i64 0, .int .i64 0, .int .i64 0] 33 :: L) _ := Sep.alloc h11 (.cells #[.bool true, .int .i64 3, .int .i64 5, .int .i64 9, .int .i64 0, .int .i64 1, .int .i64 2] 33)
  have hq := back_ok 3 ⟨true, 3, 7, 12, 0, 0, 0⟩ rfl rfl ⟨true, 3, 5, 9, 0, 1, 2⟩ h12.sw2 rfl (by kernel_rfl)
  rw [show ((3 : Nat) : Int) = 3 from rfl] at hq
  dsimp only at hq
  have HQ := Lib.hid hq
  obtain ⟨c0, c1, c2, c3, c4, c5, c6⟩ := cells7z h12
  clear HP h11 h12 hq
  (try dsimp only); repeat' (first | go_values | go_skip | go_guarded | go_step | go_upon | go_back)
  refine HQ.out.mono ?_
  rintro r9 w11 ⟨rfl, h13⟩
  clear c0 c1 c2 c3 c4 c5 c6
  have h14 : Sep w0 (TabT g T3 :: Cl _ #[.bool true, .int .i64 3, .int .i64 5, .int .i64 9, .int .i64 0, .int .i64 1, .int .i64 2] 33 :: Cl b2 #[.bool false, .int .i64 0, .int .i64 0, .int .i64 0, .int .i64 0, .int .i64 0, .int .i64 0] 33 :: L) w11 := h13
  have hq := back_ok 3 ⟨true, 3, 5, 9, 0, 1, 2⟩ rfl rfl ⟨false, 0, 0, 0, 0, 0, 0⟩ h14 rfl (by kernel_rfl)
  rw [show ((3 : Nat) : Int) = 3 from rfl] at hq
  dsimp only at hq
  have HQ2 := Lib.hid hq
  obtain ⟨c0, c1, c2, c3, c4, c5, c6⟩ := cells7z (h14.pickL (M := [_, _, _]) [2, 0, 1] rfl)
  clear HQ h13 h14 hq
  (try dsimp only); repeat' (first | go_values | go_skip | go_guarded | go_step | go_upon | go_back)
  refine HQ2.out.mono ?_
  rintro r10 w12 ⟨rfl, h15⟩
  have h16 : Sep w0 (TabT g T4 :: Cl _ #[.bool true, .int .i64 3, .int .i64 5, .int .i64 9, .int .i64 0, .int .i64 1, .int .i64 2] 33 :: Cl b2 #[.bool false, .int .i64 0, .int .i64 0, .int .i64 0, .int .i64 0, .int .i64 0, .int .i64 0] 33 :: L) w12 := h15
  have hl := len_any h16 rfl
  rw [ln4] at hl
  have HL := Lib.hid hl
  clear HQ2 h15 h16 hl c0 c1 c2 c3 c4 c5 c6
  (try dsimp only); repeat' (first | go_values | go_skip | go_guarded | go_step | go_upon | go_back)
  refine HL.out.mono ?_
  rintro r11 w13 ⟨rfl, h17⟩
  have H17 := Lib.hid (h17.drop.drop.drop)
  clear HL h17
  (try dsimp only); repeat' (first | go_values | go_skip | go_guarded | go_step | go_upon | go_back)
  go_ret
  exact ⟨rfl, H17.out⟩
end Go.Proofs.Ytjjjkfdppleagaa
