/- TableOpened. -/
import Derived.Test.YtjjjkfdppleagaaTable20
namespace Go.Proofs.Ytjjjkfdppleagaa
open Go Go.RowKit
set_option linter.unusedVariables false
set_option linter.unusedSimpArgs false
structure TabO (T : List SW) : Prop where
  tab : TabI T
  many : (seatsOf T).length ≤ 6
theorem TabO.zero : TabO T0 := ⟨TabI.zero, by have h : (seatsOf T0).length = 0 := by kernel_rfl
                                              omega⟩
theorem TabO.put {T : List SW} (h : TabO T) {i : Nat} (hi : i < 8) (s : SW) {n : Int} (hj : judgeV T i n = 1) (hs : s.had = true) (hc : s.c = i) (ho : clientOk s.c s.n s.o s.k s.a s.b = true) : TabO (T.set i s) := by
  have hiT : i < T.length := by rw [h.tab.len]; exact hi
  refine ⟨h.tab.put i hiT s hs hc ho, ?_⟩
  cases h0 : (T[i]).had with
  | true => rw [seats_set_had T i hiT s h0 hs]; exact h.many
  | false =>
    rw [seats_set_new T i hiT s h0 hs]
    rw [judge_free h.tab.len hi (List.getElem?_eq_getElem hiT) h0] at hj
    split at hj
    · cases hj
    · omega
theorem seatAt_seat (T : List SW) (c : Int) : ∃ d x n o k a b, (seatAt T c) = ⟨d, x, n, o, k, a, b⟩ := ⟨_, _, _, _, _, _, _, rfl⟩
set_option maxRecDepth 100000 in
set_option maxHeartbeats 0 in
theorem opened10_any (v v2 : Value) (b : List UInt8) (bn bc : Nat) (ba : Option Addr) (w : World) (h : RdC Try.prog w 45 [v]) (hv2 : v2 = .slice ba bn bc) (hbn : b.length = bn) (hb2 : Sl w (.slice ba bn bc) (bv b)) (hbnc : bn ≤ bc) :
    Calls Try.prog 7 #[v, v2] w fun e w' => e = .returned (.bool true) ∧ Below w.heap.size w w' := by
  subst hv2
  obtain ⟨la, len, cap, rfl, hlc, hcm, hd⟩ := seats_of h
  have HD := Lib.hid hd
  have l0 : (0 : Int) ≤ (len : Int) := by omega
  obtain ⟨m, hml, hm4, hm, hmo⟩ := min_len bn 400
  rw [show ((400 : Nat) : Int) = 400 from rfl] at hm
  have mc : (m : Int) ≤ (bc : Int) := by omega
  have m0 : (0 : Int) ≤ (m : Int) := by omega
  subst hbn
  have HSL := Lib.hid (sl_pre hb2 hml)
  have HTL : Hid ((b.take m).length = m ∧ m ≤ 400) := Lib.hid ⟨by rw [List.length_take]; omega, hm4⟩
  generalize b.take m = bt at *
  have HN := Lib.hid (tnew_any (Sep.start w))
  clear h hd hlc hcm hb2 hml hm4 hmo hbnc
  generalize b.length = bn at *
  clear b
  go_enter Try.func7, Try.ntmps7
  (try dsimp only); repeat' (first | go_values | go_skip | go_guarded | go_step | go_upon | go_back)
  refine HN.out.mono ?_
  rintro r0 w1 ⟨t, rfl, h1⟩
  have H1 := Lib.hid h1
  clear HN h1
  (try dsimp only); repeat' (first | go_values | go_skip | go_guarded | go_step | go_upon | go_back)
  go_loopw [6] (fun i wr => ∃ (k : Nat) (T : List SW), k ≤ len ∧ k ≤ 20 ∧ i = .int .i64 k ∧ TabO T ∧ Sep w [TabT t T] wr) (fun i _ => 20 - (intOf i).toNat)
  case atStart => exact ⟨0, T0, Nat.zero_le _, by omega, rfl, TabO.zero, H1.out⟩
  case round =>
    obtain ⟨k, T, hkl, hk20, rfl, hT, hs⟩ := hrel
    clear H1
    have k0 : (0 : Int) ≤ (k : Int) := by omega
    have k20 : (k : Int) ≤ 20 := by omega
    have HT := Lib.hid hT
    by_cases hgo : k < len ∧ k < 20
    · have d0 : decide (k < len) = true := decide_eq_true hgo.1
      have d1 : decide ((k : Int) < 20) = true := decide_eq_true (by omega)
      have k1 : (k : Int) < (len : Int) := by omega
      obtain ⟨b0, off, rfl, hbl, xc, xn, xo, xk, xa, xb, hat⟩ := HD.out k hgo.1
      have q : ∀ j z, [.int .i64 xc, .int .i64 xn, .int .i64 xo, .int .i64 xk, .int .i64 xa, .int .i64 xb][j]? = some z → ∀ wx, Below w.heap.size w wx → wx.cell? ⟨b0, off + k * 6 + j, none⟩ = some z := fun j z hj wx hb => (hb.cell (p := ⟨b0, off + k * 6 + j, none⟩) hbl).trans (hat j z hj)
      have HS := Lib.hid hs
      have e0 := q 0 _ rfl _ HS.out.low
      have e1 := q 1 _ rfl _ HS.out.low
      have e2 := q 2 _ rfl _ HS.out.low
      have e3 := q 3 _ rfl _ HS.out.low
      have e4 := q 4 _ rfl _ HS.out.low
      have e5 := q 5 _ rfl _ HS.out.low
      simp only [Nat.add_zero] at e0
      have hmd := made10_any xc xn xo xk xa xb HS.out
      obtain ⟨i, hi, hi8⟩ : ∃ i : Nat, xc % 8 = (i : Int) ∧ i < 8 := ⟨(xc % 8).toNat, by omega, by omega⟩
      obtain ⟨num, hn0, hn1, hn2⟩ : ∃ z : Int, 1 + xn % 2147483647 = z ∧ 1 ≤ z ∧ z ≤ 2147483647 := ⟨_, rfl, by omega, by omega⟩
      obtain ⟨so, hso, so1, so2⟩ : ∃ z : Int, 1 + xo % 1125899906842624 = z ∧ 1 ≤ z ∧ z ≤ 1125899906842624 := ⟨_, rfl, by omega, by omega⟩
      obtain ⟨sk, hsk, sk1, sk2⟩ : ∃ z : Int, xk % 7 = z ∧ 0 ≤ z ∧ z ≤ 6 := ⟨_, rfl, by omega, by omega⟩
      obtain ⟨sa, hsa, sa1, sa2⟩ : ∃ z : Int, xa % 2147483647 = z ∧ 0 ≤ z ∧ z ≤ 2147483646 := ⟨_, rfl, by omega, by omega⟩
      obtain ⟨sb, hsb, sb1, sb2⟩ : ∃ z : Int, xb % 2147483647 = z ∧ 0 ≤ z ∧ z ≤ 2147483646 := ⟨_, rfl, by omega, by omega⟩
      rw [hi, hn0, hso, hsk, hsa, hsb] at hmd
      have HM := Lib.hid hmd
      have HC : Hid (clientOk i num so sk sa sb = true) := Lib.hid (by
        unfold clientOk clientB resB
        simp
        omega)
      have HI8 := Lib.hid hi8
      clear q hmd hi hn0 hso so1 so2 hsk sk1 sk2 hsa sa1 sa2 hsb sb1 sb2 hn1 hn2 hi8
      have HG := Lib.hid hgo
      clear hs hat hgo hkl hk20 HD hT
      (try dsimp only); repeat' (first | go_values | go_skip | go_guarded | go_step | go_upon | go_back)
      refine HM.out.mono ?_
      rintro r0 w4 ⟨rfl, h4⟩
      clear HM e0 e1 e2 e3 e4 e5 HS
      by_cases hj : judgeV T i num = 1
      · have hiT : i < T.length := by rw [HT.out.tab.len]; exact HI8.out
        have HPT := Lib.hid (put_new i num so sk sa sb h4 HT.out.tab.len T[i] (List.getElem?_eq_getElem hiT) HC.out hj)
        have HO := Lib.hid (HT.out.put HI8.out ⟨true, i, num, so, sk, sa, sb⟩ hj rfl rfl HC.out)
        clear h4 hj
        (try dsimp only); repeat' (first | go_values | go_skip | go_guarded | go_step | go_upon | go_back)
        refine HPT.out.mono ?_
        rintro r1 w6 ⟨rfl, h6⟩
        have H6 := Lib.hid h6
        clear h6 HPT
        (try dsimp only); repeat' (first | go_values | go_skip | go_guarded | go_step | go_upon | go_back)
        go_roundw
        case rel => exact ⟨k + 1, _, by have := HG.out.1; omega, by have := HG.out.2; omega, by go_num, HO.out, H6.out⟩
        case measure => have := HG.out.2; simp [intOf]; omega
      · have HPT := Lib.hid (put_not i num so sk sa sb h4 HT.out.tab.len HC.out hj)
        clear h4 hj
        (try dsimp only); repeat' (first | go_values | go_skip | go_guarded | go_step | go_upon | go_back)
        refine HPT.out.mono ?_
        rintro r1 w6 ⟨z, rfl, -, h6⟩
        have H6 := Lib.hid h6
        clear h6 HPT
        (try dsimp only); repeat' (first | go_values | go_skip | go_guarded | go_step | go_upon | go_back)
        go_roundw
        case rel => exact ⟨k + 1, T, by have := HG.out.1; omega, by have := HG.out.2; omega, by go_num, HT.out, H6.out⟩
        case measure => have := HG.out.2; simp [intOf]; omega
    · have HTB := Lib.hid (tbytes_any hs HT.out.tab.len HT.out.tab.oks)
      clear hs hT
      by_cases hkx : k < len
      · have d0 : decide (k < len) = true := decide_eq_true hkx
        have d1 : decide ((k : Int) < 20) = false := decide_eq_false (by omega)
        clear hgo hkl hk20 hkx
        as_aux_lemma =>
          (try dsimp only); repeat' (first | go_values | go_skip | go_guarded | go_step | go_upon | go_back)
          refine HTB.out.mono ?_
          rintro r1 w5 ⟨u5, rfl, h5⟩
          have HOP := Lib.hid (topen_any u5 (tabBs T) h5 h5.sl (by have h9 := seatsBs_len (seatsOf T); have h8 := HT.out.many; rw [tabBs_len]; omega))
          obtain ⟨a5, c5, rfl⟩ := h5.sl.len
          clear HTB h5
          (try dsimp only); repeat' (first | go_values | go_skip | go_guarded | go_step | go_upon | go_back)
          refine HOP.out.mono ?_
          rintro r2 w6 (⟨T2, g2, hop, rfl, h6⟩ | ⟨er, hop, -, -, -⟩)
          case' inr => rw [opnT_back T HT.out.tab HT.out.many] at hop; cases hop
          rw [opnT_back T HT.out.tab HT.out.many] at hop
          simp only [Prod.mk.injEq, Option.some.injEq, and_true] at hop
          subst hop
          have h6q : Sep w [TabT t T, TabT g2 T] w6 := h6.pick [2, 0] rfl
          have HL1 := Lib.hid (len_any h6q HT.out.tab.len)
          clear HOP h6 h6q
          (try dsimp only); repeat' (first | go_values | go_skip | go_guarded | go_step | go_upon | go_back)
          refine HL1.out.mono ?_
          rintro r3 w7 ⟨rfl, h7⟩
          have HL2 := Lib.hid (len_any h7.sw2 HT.out.tab.len)
          clear HL1 h7
          (try dsimp only); repeat' (first | go_values | go_skip | go_guarded | go_step | go_upon | go_back)
          refine HL2.out.mono ?_
          rintro r4 w8 ⟨rfl, h8⟩
          have HB1 := Lib.hid (tbytes_any h8.sw2 HT.out.tab.len HT.out.tab.oks)
          clear HL2 h8
          (try dsimp only); repeat' (first | go_values | go_skip | go_guarded | go_step | go_upon | go_back)
          refine HB1.out.mono ?_
          rintro r5 w9 ⟨u9, rfl, h9⟩
          have HB2 := Lib.hid (tbytes_any h9.sw3 HT.out.tab.len HT.out.tab.oks)
          obtain ⟨a9, c9, rfl⟩ := h9.sl.len
          clear HB1 h9
          (try dsimp only); repeat' (first | go_values | go_skip | go_guarded | go_step | go_upon | go_back)
          refine HB2.out.mono ?_
          rintro r6 w10 ⟨u10, rfl, h10⟩
          have HE := Lib.hid (eqBytes_any _ _ _ _ _ h10.sw3.sl h10.sl)
          rw [beq_self_eq_true] at HE
          obtain ⟨a10, c10, rfl⟩ := h10.sl.len
          have h10q : Sep w [TabT t T, TabT g2 T] w10 := h10.pick [3, 1] rfl
          have H10 := Lib.hid h10q
          clear HB2 h10 h10q
          (try dsimp only); repeat' (first | go_values | go_skip | go_guarded | go_step | go_upon | go_back)
          refine HE.out.mono ?_
          rintro r7 w11 ⟨rfl, rfl⟩
          clear HE
          (try dsimp only); repeat' (first | go_values | go_skip | go_guarded | go_step | go_upon | go_back)
          go_loopw [9] (fun i wr => ∃ (c : Nat), c ≤ 8 ∧ i = .int .i64 c ∧ Sep w [TabT t T, TabT g2 T] wr) (fun i _ => 8 - (intOf i).toNat)
          case atStart => exact ⟨0, by omega, rfl, H10.out⟩
          case round =>
            obtain ⟨c, hc, rfl, hs⟩ := hrel
            clear H10
            have c0 : (0 : Int) ≤ (c : Int) := by omega
            have c8 : (c : Int) ≤ 8 := by omega
            by_cases hc8 : c < 8
            · have dc : decide ((c : Int) < 8) = true := decide_eq_true (by omega)
              have HF1 := Lib.hid (find_any c hs HT.out.tab.len)
              have HF2 : Hid (∀ wx M, Sep w (TabT g2 T :: M) wx → Calls Try.prog 14 #[.pointer (some ⟨g2, 0, none⟩), .int .i64 c] wx fun e w' => e = .returned (.tuple #[(seatAt T c).val, .bool (seatAt T c).had]) ∧ Sep w (TabT g2 T :: M) w') := Lib.hid fun wx M hx => find_any c hx HT.out.tab.len
              obtain ⟨xd, xc, xn, xo, xk, xa, xb, hx⟩ := seatAt_seat T c
              rw [hx] at HF1 HF2
              unfold SW.val at HF1 HF2
              dsimp only at HF1 HF2
              have HC8 := Lib.hid hc8
              clear hs hx hc8 hc
              (try dsimp only); repeat' (first | go_values | go_skip | go_guarded | go_step | go_upon | go_back)
              refine HF1.out.mono ?_
              rintro r8 w12 ⟨rfl, h12⟩
              have h13 := h12.alloc (.cells #[.int .i64 xc, .int .i64 xn, .int .i64 xo, .int .i64 xk, .int .i64 xa, .int .i64 xb] 31)
              have h13q : Sep w [TabT g2 T, TabT t T, Cl w12.heap.size #[.int .i64 xc, .int .i64 xn, .int .i64 xo, .int .i64 xk, .int .i64 xa, .int .i64 xb] 31] _ := h13.pick [2, 1, 0] rfl
              have HF3 := Lib.hid (HF2.out _ _ h13q)
              obtain ⟨b12, hb12⟩ : ∃ z, z = w12.heap.size := ⟨_, rfl⟩
              obtain ⟨w13, hw13⟩ : ∃ z, z = w12.alloc (.cells #[.int .i64 xc, .int .i64 xn, .int .i64 xo, .int .i64 xk, .int .i64 xa, .int .i64 xb] 31) := ⟨_, rfl⟩
              clear HF1 HF2 h12 h13 h13q
              (try dsimp only); repeat' (first | go_values | go_skip | go_guarded | go_step | go_upon | go_back)
              rw [← hw13, ← hb12]
              rw [← hw13, ← hb12] at HF3
              clear hw13 hb12
              refine HF3.out.mono ?_
              rintro r9 w14 ⟨rfl, h14⟩
              have h15 := h14.alloc (.cells #[.int .i64 xc, .int .i64 xn, .int .i64 xo, .int .i64 xk, .int .i64 xa, .int .i64 xb] 31)
              obtain ⟨x0, x1, x2, x3, x4, x5⟩ := cells6z h15
              obtain ⟨y0, y1, y2, y3, y4, y5⟩ := cells6z (h15.pick [3] rfl : Sep w [Cl b12 _ _] _)
              have h15q : Sep w [TabT t T, TabT g2 T] _ := h15.pick [2, 1] rfl
              have H15 := Lib.hid h15q
              clear HF3 h14 h15 h15q
              (try dsimp only); repeat' (first | go_values | go_skip | go_guarded | go_step | go_upon | go_back)
              go_roundw
              case rel => exact ⟨c + 1, by have := HC8.out; omega, by go_num, H15.out⟩
              case measure => have := HC8.out; simp [intOf]; omega
            · have dc : decide ((c : Int) < 8) = false := decide_eq_false (by omega)
              have HS := Lib.hid hs
              clear hs hc8 hc
              have HTO := Lib.hid (topen_any (.slice ba m bc) bt HS.out (HSL.out.below HS.out.low) (by have := HTL.out; omega))
              (try dsimp only); repeat' (first | go_values | go_skip | go_guarded | go_step | go_upon | go_back)
              refine HTO.out.mono ?_
              rintro r8 w12 (⟨T2, g3, hop, rfl, h12⟩ | ⟨er, hop, her, rfl, h12⟩)
              · obtain ⟨hI2, hb2⟩ := opnT_again _ _ hop
                have HB3 := Lib.hid (tbytes_any h12 hI2.len hI2.oks)
                rw [hb2] at HB3
                clear HTO hop h12 hI2 hb2
                (try dsimp only); repeat' (first | go_values | go_skip | go_guarded | go_step | go_upon | go_back)
                refine HB3.out.mono ?_
                rintro r9 w13 ⟨u13, rfl, h13⟩
                have HE3 := Lib.hid (eqBytes_any _ _ _ _ _ h13.sl (HSL.out.below h13.low))
                rw [beq_self_eq_true] at HE3
                obtain ⟨a13, c13, rfl⟩ := h13.sl.len
                have HW := Lib.hid (works10_any h13)
                clear HB3 h13
                (try dsimp only); repeat' (first | go_values | go_skip | go_guarded | go_step | go_upon | go_back)
                refine HE3.out.mono ?_
                rintro r10 w14 ⟨rfl, rfl⟩
                clear HE3
                (try dsimp only); repeat' (first | go_values | go_skip | go_guarded | go_step | go_upon | go_back)
                refine HW.out.mono ?_
                rintro r10 w14 ⟨rfl, h14⟩
                have H14 := Lib.hid h14.low
                clear HW h14
                (try dsimp only); repeat' (first | go_values | go_skip | go_guarded | go_step | go_upon | go_back)
                go_ret
                exact ⟨rfl, H14.out⟩
              · have d9 : (er != 0) = true := by rw [bne_iff_ne]; exact her
                have d10 : (er == 0) = false := beq_eq_false_iff_ne.2 her
                have HW := Lib.hid (works10_any h12)
                clear HTO hop h12 her
                (try dsimp only); repeat' (first | go_values | go_skip | go_guarded | go_step | go_upon | go_back)
                refine HW.out.mono ?_
                rintro r10 w14 ⟨rfl, h14⟩
                have H14 := Lib.hid h14.low
                clear HW h14
                (try dsimp only); repeat' (first | go_values | go_skip | go_guarded | go_step | go_upon | go_back)
                go_ret
                exact ⟨rfl, H14.out⟩
      · have d0 : decide (k < len) = false := decide_eq_false hkx
        clear hgo hkl hk20 hkx
        as_aux_lemma =>
          (try dsimp only); repeat' (first | go_values | go_skip | go_guarded | go_step | go_upon | go_back)
          refine HTB.out.mono ?_
          rintro r1 w5 ⟨u5, rfl, h5⟩
          have HOP := Lib.hid (topen_any u5 (tabBs T) h5 h5.sl (by have h9 := seatsBs_len (seatsOf T); have h8 := HT.out.many; rw [tabBs_len]; omega))
          obtain ⟨a5, c5, rfl⟩ := h5.sl.len
          clear HTB h5
          (try dsimp only); repeat' (first | go_values | go_skip | go_guarded | go_step | go_upon | go_back)
          refine HOP.out.mono ?_
          rintro r2 w6 (⟨T2, g2, hop, rfl, h6⟩ | ⟨er, hop, -, -, -⟩)
          case' inr => rw [opnT_back T HT.out.tab HT.out.many] at hop; cases hop
          rw [opnT_back T HT.out.tab HT.out.many] at hop
          simp only [Prod.mk.injEq, Option.some.injEq, and_true] at hop
          subst hop
          have h6q : Sep w [TabT t T, TabT g2 T] w6 := h6.pick [2, 0] rfl
          have HL1 := Lib.hid (len_any h6q HT.out.tab.len)
          clear HOP h6 h6q
          (try dsimp only); repeat' (first | go_values | go_skip | go_guarded | go_step | go_upon | go_back)
          refine HL1.out.mono ?_
          rintro r3 w7 ⟨rfl, h7⟩
          have HL2 := Lib.hid (len_any h7.sw2 HT.out.tab.len)
          clear HL1 h7
          (try dsimp only); repeat' (first | go_values | go_skip | go_guarded | go_step | go_upon | go_back)
          refine HL2.out.mono ?_
          rintro r4 w8 ⟨rfl, h8⟩
          have HB1 := Lib.hid (tbytes_any h8.sw2 HT.out.tab.len HT.out.tab.oks)
          clear HL2 h8
          (try dsimp only); repeat' (first | go_values | go_skip | go_guarded | go_step | go_upon | go_back)
          refine HB1.out.mono ?_
          rintro r5 w9 ⟨u9, rfl, h9⟩
          have HB2 := Lib.hid (tbytes_any h9.sw3 HT.out.tab.len HT.out.tab.oks)
          obtain ⟨a9, c9, rfl⟩ := h9.sl.len
          clear HB1 h9
          (try dsimp only); repeat' (first | go_values | go_skip | go_guarded | go_step | go_upon | go_back)
          refine HB2.out.mono ?_
          rintro r6 w10 ⟨u10, rfl, h10⟩
          have HE := Lib.hid (eqBytes_any _ _ _ _ _ h10.sw3.sl h10.sl)
          rw [beq_self_eq_true] at HE
          obtain ⟨a10, c10, rfl⟩ := h10.sl.len
          have h10q : Sep w [TabT t T, TabT g2 T] w10 := h10.pick [3, 1] rfl
          have H10 := Lib.hid h10q
          clear HB2 h10 h10q
          (try dsimp only); repeat' (first | go_values | go_skip | go_guarded | go_step | go_upon | go_back)
          refine HE.out.mono ?_
          rintro r7 w11 ⟨rfl, rfl⟩
          clear HE
          (try dsimp only); repeat' (first | go_values | go_skip | go_guarded | go_step | go_upon | go_back)
          go_loopw [9] (fun i wr => ∃ (c : Nat), c ≤ 8 ∧ i = .int .i64 c ∧ Sep w [TabT t T, TabT g2 T] wr) (fun i _ => 8 - (intOf i).toNat)
          case atStart => exact ⟨0, by omega, rfl, H10.out⟩
          case round =>
            obtain ⟨c, hc, rfl, hs⟩ := hrel
            clear H10
            have c0 : (0 : Int) ≤ (c : Int) := by omega
            have c8 : (c : Int) ≤ 8 := by omega
            by_cases hc8 : c < 8
            · have dc : decide ((c : Int) < 8) = true := decide_eq_true (by omega)
              have HF1 := Lib.hid (find_any c hs HT.out.tab.len)
              have HF2 : Hid (∀ wx M, Sep w (TabT g2 T :: M) wx → Calls Try.prog 14 #[.pointer (some ⟨g2, 0, none⟩), .int .i64 c] wx fun e w' => e = .returned (.tuple #[(seatAt T c).val, .bool (seatAt T c).had]) ∧ Sep w (TabT g2 T :: M) w') := Lib.hid fun wx M hx => find_any c hx HT.out.tab.len
              obtain ⟨xd, xc, xn, xo, xk, xa, xb, hx⟩ := seatAt_seat T c
              rw [hx] at HF1 HF2
              unfold SW.val at HF1 HF2
              dsimp only at HF1 HF2
              have HC8 := Lib.hid hc8
              clear hs hx hc8 hc
              (try dsimp only); repeat' (first | go_values | go_skip | go_guarded | go_step | go_upon | go_back)
              refine HF1.out.mono ?_
              rintro r8 w12 ⟨rfl, h12⟩
              have h13 := h12.alloc (.cells #[.int .i64 xc, .int .i64 xn, .int .i64 xo, .int .i64 xk, .int .i64 xa, .int .i64 xb] 31)
              have h13q : Sep w [TabT g2 T, TabT t T, Cl w12.heap.size #[.int .i64 xc, .int .i64 xn, .int .i64 xo, .int .i64 xk, .int .i64 xa, .int .i64 xb] 31] _ := h13.pick [2, 1, 0] rfl
              have HF3 := Lib.hid (HF2.out _ _ h13q)
              obtain ⟨b12, hb12⟩ : ∃ z, z = w12.heap.size := ⟨_, rfl⟩
              obtain ⟨w13, hw13⟩ : ∃ z, z = w12.alloc (.cells #[.int .i64 xc, .int .i64 xn, .int .i64 xo, .int .i64 xk, .int .i64 xa, .int .i64 xb] 31) := ⟨_, rfl⟩
              clear HF1 HF2 h12 h13 h13q
              (try dsimp only); repeat' (first | go_values | go_skip | go_guarded | go_step | go_upon | go_back)
              rw [← hw13, ← hb12]
              rw [← hw13, ← hb12] at HF3
              clear hw13 hb12
              refine HF3.out.mono ?_
              rintro r9 w14 ⟨rfl, h14⟩
              have h15 := h14.alloc (.cells #[.int .i64 xc, .int .i64 xn, .int .i64 xo, .int .i64 xk, .int .i64 xa, .int .i64 xb] 31)
              obtain ⟨x0, x1, x2, x3, x4, x5⟩ := cells6z h15
              obtain ⟨y0, y1, y2, y3, y4, y5⟩ := cells6z (h15.pick [3] rfl : Sep w [Cl b12 _ _] _)
              have h15q : Sep w [TabT t T, TabT g2 T] _ := h15.pick [2, 1] rfl
              have H15 := Lib.hid h15q
              clear HF3 h14 h15 h15q
              (try dsimp only); repeat' (first | go_values | go_skip | go_guarded | go_step | go_upon | go_back)
              go_roundw
              case rel => exact ⟨c + 1, by have := HC8.out; omega, by go_num, H15.out⟩
              case measure => have := HC8.out; simp [intOf]; omega
            · have dc : decide ((c : Int) < 8) = false := decide_eq_false (by omega)
              have HS := Lib.hid hs
              clear hs hc8 hc
              have HTO := Lib.hid (topen_any (.slice ba m bc) bt HS.out (HSL.out.below HS.out.low) (by have := HTL.out; omega))
              (try dsimp only); repeat' (first | go_values | go_skip | go_guarded | go_step | go_upon | go_back)
              refine HTO.out.mono ?_
              rintro r8 w12 (⟨T2, g3, hop, rfl, h12⟩ | ⟨er, hop, her, rfl, h12⟩)
              · obtain ⟨hI2, hb2⟩ := opnT_again _ _ hop
                have HB3 := Lib.hid (tbytes_any h12 hI2.len hI2.oks)
                rw [hb2] at HB3
                clear HTO hop h12 hI2 hb2
                (try dsimp only); repeat' (first | go_values | go_skip | go_guarded | go_step | go_upon | go_back)
                refine HB3.out.mono ?_
                rintro r9 w13 ⟨u13, rfl, h13⟩
                have HE3 := Lib.hid (eqBytes_any _ _ _ _ _ h13.sl (HSL.out.below h13.low))
                rw [beq_self_eq_true] at HE3
                obtain ⟨a13, c13, rfl⟩ := h13.sl.len
                have HW := Lib.hid (works10_any h13)
                clear HB3 h13
                (try dsimp only); repeat' (first | go_values | go_skip | go_guarded | go_step | go_upon | go_back)
                refine HE3.out.mono ?_
                rintro r10 w14 ⟨rfl, rfl⟩
                clear HE3
                (try dsimp only); repeat' (first | go_values | go_skip | go_guarded | go_step | go_upon | go_back)
                refine HW.out.mono ?_
                rintro r10 w14 ⟨rfl, h14⟩
                have H14 := Lib.hid h14.low
                clear HW h14
                (try dsimp only); repeat' (first | go_values | go_skip | go_guarded | go_step | go_upon | go_back)
                go_ret
                exact ⟨rfl, H14.out⟩
              · have d9 : (er != 0) = true := by rw [bne_iff_ne]; exact her
                have d10 : (er == 0) = false := beq_eq_false_iff_ne.2 her
                have HW := Lib.hid (works10_any h12)
                clear HTO hop h12 her
                (try dsimp only); repeat' (first | go_values | go_skip | go_guarded | go_step | go_upon | go_back)
                refine HW.out.mono ?_
                rintro r10 w14 ⟨rfl, h14⟩
                have H14 := Lib.hid h14.low
                clear HW h14
                (try dsimp only); repeat' (first | go_values | go_skip | go_guarded | go_step | go_upon | go_back)
                go_ret
                exact ⟨rfl, H14.out⟩
end Go.Proofs.Ytjjjkfdppleagaa
