/- Package table: readSeat. -/
import Derived.Test.YtjjjkfdppleagaaTable18
namespace Go.Proofs.Ytjjjkfdppleagaa
open Go Go.RowKit
set_option linter.unusedVariables false
set_option linter.unusedSimpArgs false
theorem store6 {w0 w : World} {b : Nat} {v0 v1 v2 v3 v4 v5 u0 u1 u2 u3 u4 u5 : Value} {t : TypeId} {L : List Thing} (h : Sep w0 (Cl b #[v0, v1, v2, v3, v4, v5] t :: L) w) :
    Sep w0 (Cl b #[u0, u1, u2, u3, u4, u5] t :: L) ((((((w.setCell ⟨b, 0, none⟩ u0).setCell ⟨b, 1, none⟩ u1).setCell ⟨b, 2, none⟩ u2).setCell ⟨b, 3, none⟩ u3).setCell ⟨b, 4, none⟩ u4).setCell ⟨b, 5, none⟩ u5) := (((((h.setCell 0 _).setCell 1 _).setCell 2 _).setCell 3 _).setCell 4 _).setCell 5 _
theorem store6b {w0 w : World} {b : Nat} {v0 v1 v2 v3 v4 v5 u3 u4 u5 : Value} {t : TypeId} {L : List Thing} (h : Sep w0 (Cl b #[v0, v1, v2, v3, v4, v5] t :: L) w) :
    Sep w0 (Cl b #[v0, v1, v2, u3, u4, u5] t :: L) (((w.setCell ⟨b, 3, none⟩ u3).setCell ⟨b, 4, none⟩ u4).setCell ⟨b, 5, none⟩ u5) := ((h.setCell 3 _).setCell 4 _).setCell 5 _
theorem frz6 {w0 w : World} {b : Nat} {xs : Array Value} {t : TypeId} {L : List Thing} (h : Sep w0 (Cl b xs t :: L) w) : w.frozen? ⟨b, 0, none⟩ = false ∧ w.frozen? ⟨b, 1, none⟩ = false ∧ w.frozen? ⟨b, 2, none⟩ = false ∧ w.frozen? ⟨b, 3, none⟩ = false ∧ w.frozen? ⟨b, 4, none⟩ = false ∧ w.frozen? ⟨b, 5, none⟩ = false :=
  ⟨h.frozen 0, h.frozen 1, h.frozen 2, h.frozen 3, h.frozen 4, h.frozen 5⟩
theorem builtS (c n o : Int) : Try.prog.built 31 [(0, .int .i64 c), (1, .int .i64 n), (2, .int .i64 o)] = some #[.int .i64 c, .int .i64 n, .int .i64 o, .int .i64 0, .int .i64 0, .int .i64 0] := by kernel_rfl
set_option maxRecDepth 100000 in
set_option maxHeartbeats 0 in
theorem rdseat_any {w0 w : World} {L : List Thing} {g : Nat} {l : List UInt8} (h : Sep w0 (RdrT g l 0 :: L) w) (hl : l.length ≤ 1000000) :
    Calls Try.prog 51 #[.pointer (some ⟨g, 0, none⟩)] w fun r w' => r = .returned (.tuple #[(rdSeat l 0).1.val, .int .i64 (rdSeat l 0).2.1]) ∧ Sep w0 (RdrT g (rdSeat l 0).2.2.1 (rdSeat l 0).2.2.2 :: L) w' := by
  have hlt := rdNe_lt l 0
  have h0 := h.alloc (.cells #[.int .i64 0, .int .i64 0, .int .i64 0, .int .i64 0, .int .i64 0, .int .i64 0] 31)
  obtain ⟨b2, hb2⟩ : ∃ z, z = w.heap.size := ⟨_, rfl⟩
  rw [← hb2] at h0
  obtain ⟨ki, hki⟩ : ∃ ki, ki = (rdNe l 0).1 := ⟨_, rfl⟩
  have k0 : (0 : Int) ≤ (ki : Int) := by omega
  have k1 : (ki : Int) ≤ 255 := by omega
  have hn := rnum_sep h0.sw2
  have l1 := rdNe_len l 0
  rw [← hki] at hn
  obtain ⟨R, hR⟩ : ∃ R, R = rdSeat l 0 := ⟨_, rfl⟩
  rw [← hR]
  unfold rdSeat at hR
  dsimp only at hR
  rw [← hki] at hR
  generalize (rdNe l 0).2.1 = r1 at *
  generalize (rdNe l 0).2.2 = e1 at *
  have HN := Lib.hid hn
  have hb1 := rdVe_u64 r1 e1
  have l2 := rdVe_len r1 e1
  have HV1 : Hid (∀ wx M, Sep w0 (RdrT g r1 e1 :: M) wx → Calls Try.prog 68 #[.pointer (some ⟨g, 0, none⟩)] wx fun r w' => r = .returned (.int .u64 (rdVe r1 e1).1) ∧ Sep w0 (RdrT g (rdVe r1 e1).2.1 (rdVe r1 e1).2.2 :: M) w') := Lib.hid fun wx M hx => rvarint_sep hx
  generalize (rdVe r1 e1).1 = u at *
  generalize (rdVe r1 e1).2.1 = r2 at *
  generalize (rdVe r1 e1).2.2 = e2 at *
  have hb2' := rdVe_u64 r2 e2
  have l3 := rdVe_len r2 e2
  have HV2 : Hid (∀ wx M, Sep w0 (RdrT g r2 e2 :: M) wx → Calls Try.prog 68 #[.pointer (some ⟨g, 0, none⟩)] wx fun r w' => r = .returned (.int .u64 (rdVe r2 e2).1) ∧ Sep w0 (RdrT g (rdVe r2 e2).2.1 (rdVe r2 e2).2.2 :: M) w') := Lib.hid fun wx M hx => rvarint_sep hx
  generalize (rdVe r2 e2).1 = u' at *
  generalize (rdVe r2 e2).2.1 = r3 at *
  generalize (rdVe r2 e2).2.2 = e3 at *
  have l4 := rdTe_len r3 e3
  have HT : Hid (∀ wx M, Sep w0 (RdrT g r3 e3 :: M) wx → Calls Try.prog 69 #[.pointer (some ⟨g, 0, none⟩)] wx fun r w' => ∃ v', r = .returned v' ∧ Sep w0 (By v' (rdTe r3 e3).1 :: RdrT g (rdTe r3 e3).2.1 (rdTe r3 e3).2.2 :: M) w') := Lib.hid fun wx M hx => rtext_sep hx (by omega)
  generalize (rdTe r3 e3).1 = tx at *
  generalize (rdTe r3 e3).2.1 = r4 at *
  generalize (rdTe r3 e3).2.2 = e4 at *
  have HP : Hid (∀ wx M v, Sep w0 M wx → Sl wx v (bv tx) → Calls Try.prog 70 #[v] wx fun r w' => ∃ (p : Int × Int × Int) (err : Int), r = .returned (.tuple #[.agg #[.int .i64 p.1, .int .i64 p.2.1, .int .i64 p.2.2], .int .i64 err]) ∧ (p, err) = prsRes tx ∧ Sep w0 M w') := Lib.hid fun wx M v hx hv => parseRes_any v tx hx hv (by omega)
  simp only [i64w_eq] at hR
  have HR := Lib.hid hR
  unfold U64 at hb1 hb2'
  have a0 : (0 : Int) ≤ (u : Int) := by omega
  have a1 : (u : Int) ≤ 18446744073709551615 := by omega
  have a2 : (0 : Int) ≤ (u' : Int) := by omega
  have a3 : (u' : Int) ≤ 18446744073709551615 := by omega
  clear h h0 hl hlt hn hki hR hb1 hb2' l1 l2 l3 l4
  go_enter Try.func51, Try.ntmps51
  (try dsimp only); repeat' (first | go_values | go_skip | go_guarded | go_step | go_upon | go_back)
  rw [← hb2]
  refine HN.out.mono ?_
  rintro q0 w1 ⟨rfl, h1⟩
  have H1 := Lib.hid h1
  clear h1 HN hb2
  (try dsimp only); repeat' (first | go_values | go_skip | go_guarded | go_step | go_upon | go_back)
  refine (HV1.out _ _ H1.out).mono ?_
  rintro q0 w2 ⟨rfl, h2⟩
  have H2 := Lib.hid h2
  clear h2 HV1 H1
  (try dsimp only); repeat' (first | go_values | go_skip | go_guarded | go_step | go_upon | go_back)
  refine (HV2.out _ _ H2.out).mono ?_
  rintro q0 w3 ⟨rfl, h3⟩
  have h4 := h3.alloc (.cells #[.int .i64 ki, .int .i64 (wrap64 u), .int .i64 (wrap64 u'), .int .i64 0, .int .i64 0, .int .i64 0] 31)
  obtain ⟨b4, hb4⟩ : ∃ z, z = w3.heap.size := ⟨_, rfl⟩
  obtain ⟨w4, hw4⟩ : ∃ z, z = w3.alloc (.cells #[.int .i64 ki, .int .i64 (wrap64 u), .int .i64 (wrap64 u'), .int .i64 0, .int .i64 0, .int .i64 0] 31) := ⟨_, rfl⟩
  rw [← hb4, ← hw4] at h4
  have h4q : Sep w0 (RdrT g r3 e3 :: Cl b4 #[.int .i64 ki, .int .i64 (wrap64 u), .int .i64 (wrap64 u'), .int .i64 0, .int .i64 0, .int .i64 0] 31 :: Cl b2 #[.int .i64 0, .int .i64 0, .int .i64 0, .int .i64 0, .int .i64 0, .int .i64 0] 31 :: L) w4 := h4.sw2
  have H4 := Lib.hid h4q
  clear h3 h4 h4q HV2 H2
  (try dsimp only); repeat' (first | go_values | go_skip | go_guarded | go_step | go_upon | go_back)
  generalize wrap64 (u : Int) = ra at *
  generalize wrap64 (u' : Int) = rb at *
  rw [← hw4, ← hb4]
  clear hw4 hb4
  refine (HT.out _ _ H4.out).mono ?_
  rintro q0 w5 ⟨v, rfl, h5⟩
  have HE : Hid (∀ wx M, Sep w0 (RdrT g r4 e4 :: M) wx → Calls Try.prog 50 #[.pointer (some ⟨g, 0, none⟩)] wx fun r w' => r = .returned (.int .i64 e4) ∧ wx = w') := Lib.hid fun wx M hx => rerr_sep hx
  obtain ⟨ta, tc, rfl⟩ := h5.sl.len
  have H5 := Lib.hid h5
  clear HT H4 h5
  by_cases he4 : e4 = 0
  · subst he4
    (try dsimp only); repeat' (first | go_values | go_skip | go_guarded | go_step | go_upon | go_back)
    refine (HE.out _ _ H5.out.sw2).mono ?_
    rintro q0 w6 ⟨rfl, rfl⟩
    clear HE
    (try dsimp only); repeat' (first | go_values | go_skip | go_guarded | go_step | go_upon | go_back)
    refine (HP.out _ _ _ H5.out H5.out.sl).mono ?_
    rintro q0 w7 ⟨p, er, rfl, hp, h7⟩
    obtain ⟨p0, p1, p2⟩ := p
    dsimp only
    have h8 := h7.alloc (.cells #[.int .i64 p0, .int .i64 p1, .int .i64 p2] 29)
    obtain ⟨b6, hb6⟩ : ∃ z, z = w7.heap.size := ⟨_, rfl⟩
    have h8q : Sep w0 (Cl w7.heap.size #[.int .i64 p0, .int .i64 p1, .int .i64 p2] 29 :: By (.slice ta (bv tx).length tc) tx :: RdrT g r4 0 :: Cl b4 #[.int .i64 ki, .int .i64 ra, .int .i64 rb, .int .i64 0, .int .i64 0, .int .i64 0] 31 :: Cl b2 #[.int .i64 0, .int .i64 0, .int .i64 0, .int .i64 0, .int .i64 0, .int .i64 0] 31 :: L) _ := h8
    obtain ⟨y0, y1, y2⟩ := cells3 h8q
    obtain ⟨-, -, -, f3, f4, f5⟩ := frz6 h8q.sw4
    obtain ⟨-, -, -, x3, x4, x5⟩ := cells6z h8q.sw4
    have h9 := store6b (u3 := .int .i64 p0) (u4 := .int .i64 p1) (u5 := .int .i64 p2) h8q.sw4
    obtain ⟨c0, c1, c2, c3, c4, c5⟩ := cells6z h9
    have hq : Hid (R = if er = 0 ∧ clientOk ki ra rb p0 p1 p2 = true then (⟨true, ki, ra, rb, p0, p1, p2⟩, 0, r4, 0) else (SW.zero, 4, r4, 0)) := Lib.hid (by
      rw [HR.out, if_neg (by simp), ← hp])
    have h9q : Sep w0 (Cl b4 #[.int .i64 ki, .int .i64 ra, .int .i64 rb, .int .i64 p0, .int .i64 p1, .int .i64 p2] 31 :: Cl b2 #[.int .i64 0, .int .i64 0, .int .i64 0, .int .i64 0, .int .i64 0, .int .i64 0] 31 :: RdrT g r4 0 :: L) _ := (h9.pickL (M := [_, _, _, _, _]) [0, 4, 3] rfl)
    have H9 := Lib.hid h9q
    clear h7 h8 h8q h9 h9q hp HR HP H5 hb6
    by_cases her : er = 0
    · subst her
      (try dsimp only); repeat' (first | go_values | go_skip | go_guarded | go_step | go_upon | go_back)
      refine (isSeat_any ki ra rb p0 p1 p2 _).mono ?_
      rintro q0 w8 ⟨rfl, hb8⟩
      have h10 := H9.out.below hb8
      clear c0 c1 c2 c3 c4 c5 f3 f4 f5 x3 x4 x5 y0 y1 y2 H9 hb8
      cases hok : clientOk ki ra rb p0 p1 p2 with
      | true =>
        obtain ⟨c0, c1, c2, c3, c4, c5⟩ := cells6z h10
        have h11 := store6 (u0 := .int .i64 ki) (u1 := .int .i64 ra) (u2 := .int .i64 rb) (u3 := .int .i64 p0) (u4 := .int .i64 p1) (u5 := .int .i64 p2) h10.sw2
        obtain ⟨z0, z1, z2, z3, z4, z5⟩ := cells6z h11
        obtain ⟨f0, f1, f2, f3, f4, f5⟩ := frz6 h10.sw2
        obtain ⟨x0, x1, x2, x3, x4, x5⟩ := cells6z h10.sw2
        have H11 := Lib.hid h11.drop.drop
        have hRR : R = (⟨true, ki, ra, rb, p0, p1, p2⟩, 0, r4, 0) := by rw [hq.out, if_pos ⟨rfl, hok⟩]
        have HRR := Lib.hid hRR
        clear h10 h11 hRR
        (try dsimp only); repeat' (first | go_values | go_skip | go_guarded | go_step | go_upon | go_back)
        exact bodyPost_ret (v := .tuple #[.agg #[.int .i64 ki, .int .i64 ra, .int .i64 rb, .int .i64 p0, .int .i64 p1, .int .i64 p2], .int .i64 0]) (by simp [results, Try.results51, go_sem, z0, z1, z2, z3, z4, z5]) rfl ⟨by rw [HRR.out]; rfl, by rw [HRR.out]; exact H11.out⟩
      | false =>
        have h11 := store6 (u0 := .int .i64 0) (u1 := .int .i64 0) (u2 := .int .i64 0) (u3 := .int .i64 0) (u4 := .int .i64 0) (u5 := .int .i64 0) h10.sw2
        obtain ⟨z0, z1, z2, z3, z4, z5⟩ := cells6z h11
        obtain ⟨f0, f1, f2, f3, f4, f5⟩ := frz6 h10.sw2
        obtain ⟨x0, x1, x2, x3, x4, x5⟩ := cells6z h10.sw2
        have H11 := Lib.hid h11.drop.drop
        have hRR : R = (SW.zero, 4, r4, 0) := by rw [hq.out, if_neg (by simp [hok])]
        have HRR := Lib.hid hRR
        clear h10 h11 hRR
        (try dsimp only); repeat' (first | go_values | go_skip | go_guarded | go_step | go_upon | go_back)
        exact bodyPost_ret (v := .tuple #[.agg #[.int .i64 0, .int .i64 0, .int .i64 0, .int .i64 0, .int .i64 0, .int .i64 0], .int .i64 4]) (by simp [results, Try.results51, go_sem, z0, z1, z2, z3, z4, z5]) rfl ⟨by rw [HRR.out]; rfl, by rw [HRR.out]; exact H11.out⟩
    · have her2 : (er != 0) = true := by rw [bne_iff_ne]; exact her
      have h10 := H9.out
      clear H9
      have h11 := store6 (u0 := .int .i64 0) (u1 := .int .i64 0) (u2 := .int .i64 0) (u3 := .int .i64 0) (u4 := .int .i64 0) (u5 := .int .i64 0) h10.sw2
      obtain ⟨z0, z1, z2, z3, z4, z5⟩ := cells6z h11
      obtain ⟨f0, f1, f2, f3, f4, f5⟩ := frz6 h10.sw2
      obtain ⟨x0, x1, x2, x3, x4, x5⟩ := cells6z h10.sw2
      have H11 := Lib.hid h11.drop.drop
      have hRR : R = (SW.zero, 4, r4, 0) := by rw [hq.out, if_neg (by simp [her])]
      have HRR := Lib.hid hRR
      clear h10 h11 hRR
      (try dsimp only); repeat' (first | go_values | go_skip | go_guarded | go_step | go_upon | go_back)
      exact bodyPost_ret (v := .tuple #[.agg #[.int .i64 0, .int .i64 0, .int .i64 0, .int .i64 0, .int .i64 0, .int .i64 0], .int .i64 4]) (by simp [results, Try.results51, go_sem, z0, z1, z2, z3, z4, z5]) rfl ⟨by rw [HRR.out]; rfl, by rw [HRR.out]; exact H11.out⟩
  · have he2 : (e4 != 0) = true := by rw [bne_iff_ne]; exact he4
    (try dsimp only); repeat' (first | go_values | go_skip | go_guarded | go_step | go_upon | go_back)
    refine (HE.out _ _ H5.out.sw2).mono ?_
    rintro q0 w6 ⟨rfl, rfl⟩
    (try dsimp only); repeat' (first | go_values | go_skip | go_guarded | go_step | go_upon | go_back)
    refine (HE.out _ _ H5.out.sw2).mono ?_
    rintro q0 w6 ⟨rfl, rfl⟩
    have h10 : Sep w0 (Cl b4 #[.int .i64 ki, .int .i64 ra, .int .i64 rb, .int .i64 0, .int .i64 0, .int .i64 0] 31 :: Cl b2 #[.int .i64 0, .int .i64 0, .int .i64 0, .int .i64 0, .int .i64 0, .int .i64 0] 31 :: RdrT g r4 e4 :: L) _ := (H5.out.pickL (M := [_, _, _, _]) [2, 3, 1] rfl)
    clear H5 HE HP
    have h11 := store6 (u0 := .int .i64 0) (u1 := .int .i64 0) (u2 := .int .i64 0) (u3 := .int .i64 0) (u4 := .int .i64 0) (u5 := .int .i64 0) h10.sw2
    obtain ⟨z0, z1, z2, z3, z4, z5⟩ := cells6z h11
    obtain ⟨f0, f1, f2, f3, f4, f5⟩ := frz6 h10.sw2
    obtain ⟨x0, x1, x2, x3, x4, x5⟩ := cells6z h10.sw2
    have H11 := Lib.hid h11.drop.drop
    have hRR : R = (SW.zero, e4, r4, e4) := by rw [HR.out, if_pos he4]
    have HRR := Lib.hid hRR
    clear h10 h11 hRR
    (try dsimp only); repeat' (first | go_values | go_skip | go_guarded | go_step | go_upon | go_back)
    exact bodyPost_ret (v := .tuple #[.agg #[.int .i64 0, .int .i64 0, .int .i64 0, .int .i64 0, .int .i64 0, .int .i64 0], .int .i64 e4]) (by simp [results, Try.results51, go_sem, z0, z1, z2, z3, z4, z5]) rfl ⟨by rw [HRR.out]; rfl, by rw [HRR.out]; exact H11.out⟩
end Go.Proofs.Ytjjjkfdppleagaa
