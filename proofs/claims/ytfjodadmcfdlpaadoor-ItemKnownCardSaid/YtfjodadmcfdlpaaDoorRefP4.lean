/- The document's own item: ParseRes; Parse, whatever the kind. -/
import Derived.Test.YtfjodadmcfdlpaaDoorRefP2
import Derived.Test.YtfjodadmcfdlpaaDoorRefP3
namespace Go.Proofs.YtfjodadmcfdlpaaDoor
open Go.RowKit
set_option linter.unusedVariables false
set_option linter.unusedSimpArgs false
theorem rprs2_eq {k : Nat} {r : List UInt8} {e : Int} (hf : fieldsOf k = 2) : rprs2 k r e = prs2 k r e := by
  unfold rprs2 prs2
  refine rprsFin_eq (fun h => ?_) (fun h => ?_)
  · rw [sml_of (rdVe_u64 r e) (.inl (ok_o h hf))]
  · rw [sml_of (rdVe_u64 r e) (.inr (ok_o h hf))]
theorem rprs4_eq {k : Nat} {r : List UInt8} {e : Int} (hf : fieldsOf k = 4) : rprs4 k r e = prs4 k r e := by
  unfold rprs4 prs4
  refine rprsFin_eq (fun h => ?_) (fun h => ?_)
  · rw [sml_of (rdVe_u64 r e) (.inl (ok_n h (.inr hf)))]
  · rw [sml_of (rdVe_u64 r e) (.inr (ok_n h (.inr hf)))]
theorem rprs5_eq {k : Nat} {r : List UInt8} {e : Int} (hf : fieldsOf k = 5) : rprs5 k r e = prs5 k r e := by
  unfold rprs5 prs5
  refine rprsFin_eq (fun h => ?_) (fun h => ?_)
  · rw [sml_of (rdVe_u64 _ _) (.inl (ok_n h (.inl hf)))]
  · rw [sml_of (rdVe_u64 _ _) (.inr (ok_n h (.inl hf)))]
theorem rprs22_eq {k : Nat} {r : List UInt8} {e : Int} (hf : fieldsOf k = 22) : rprs22 k r e = prs22 k r e := by
  unfold rprs22 prs22
  dsimp only
  have h1 := rdVe_u64 r e
  generalize rdVe r e = a at *
  have h2 := rdVe_u64 a.2.1 a.2.2
  generalize rdVe a.2.1 a.2.2 = b at *
  unfold rrdL rdL
  obtain ⟨g1, g2⟩ := rrdLs_eq (min (rdVe b.2.1 b.2.2).1 5) (rdVe b.2.1 b.2.2).2.1 (rdVe b.2.1 b.2.2).2.2
  refine rprsFin_ls g1 fun he => ?_
  obtain ⟨g3, raw, g4, g5, g6⟩ := g2 he
  refine ⟨g3, fun h => ?_, fun h => ?_⟩
  · obtain ⟨q1, q2, q3⟩ := ok_22 h hf
    dsimp only at q1 q2 q3
    rw [g5] at q3 ⊢
    rw [g6, sml_of h1 (.inl q1), sml_of h2 (.inl q2), raw_eq g4 (.inl q3)]
  · obtain ⟨q1, q2, q3⟩ := ok_22 h hf
    dsimp only at q1 q2 q3
    rw [g6] at q3 ⊢
    rw [g5, sml_of h1 (.inr q1), sml_of h2 (.inr q2), raw_eq g4 (.inr q3)]
theorem rparse_any {w0 w : World} {L : List Thing} (v : Value) (l : List UInt8) (h : Sep w0 L w) (hv : Sl w v (bv l)) (hl : l.length ≤ 1000000) :
    Calls Tryd.prog 27 #[v] w fun r w' => ∃ (p : OpM) (err : Int) (u : Value), r = .returned (.tuple #[.agg #[.int .i64 p.k, .string p.s.1, .int .i64 p.o, .int .i64 p.n, u], .int .i64 err]) ∧ (p, err) = prsOp l ∧ Sep w0 (LnR u p.ls :: L) w' := by
  have hc : Calls Tryd.prog 27 #[v] w (RPrs w (prsOp l)) := by
    unfold prsOp
    rcases kind_is (rdNe l 0).1 with ⟨hf, hk⟩ | ⟨hf, hk⟩ | ⟨hf, hk⟩ | ⟨hf, hk⟩ | ⟨hf, hk⟩ | ⟨hf, hk⟩ | ⟨hf, hk⟩
    · have := rparse_5 v l hv hl hk; rw [rprs5_eq hf] at this; simpa [hf] using this
    · have := rparse_9 v l hv hl hk; rw [show rprs9 (rdNe l 0).1 (rdNe l 0).2.1 (rdNe l 0).2.2 = prs9 (rdNe l 0).1 (rdNe l 0).2.1 (rdNe l 0).2.2 from rprsFin_eq (fun _ => rfl) (fun _ => rfl)] at this; simpa [hf] using this
    · have := rparse_22 v l hv hl hk; rw [rprs22_eq hf] at this; simpa [hf] using this
    · have := rparse_2 v l hv hl hk; rw [rprs2_eq hf] at this; simpa [hf] using this
    · have := rparse_4 v l hv hl hk; rw [rprs4_eq hf] at this; simpa [hf] using this
    · have := rparse_1 v l hv hl hk; rw [show rprs1 (rdNe l 0).1 (rdNe l 0).2.1 (rdNe l 0).2.2 = prs1 (rdNe l 0).1 (rdNe l 0).2.1 (rdNe l 0).2.2 from rprsFin_eq (fun _ => rfl) (fun _ => rfl)] at this; simpa [hf] using this
    · have := rparse_0 v l hv hl hk; rw [show rprs0 (rdNe l 0).1 (rdNe l 0).2.1 (rdNe l 0).2.2 = prs0 (rdNe l 0).1 (rdNe l 0).2.1 (rdNe l 0).2.2 from rprsFin_eq (fun _ => rfl) (fun _ => rfl)] at this; simpa [hf] using this
  refine hc.mono ?_
  rintro e w' ⟨p, err, u, rfl, h1, h2⟩
  exact ⟨p, err, u, rfl, h1, h.onto1 h2⟩
set_option maxRecDepth 100000 in
set_option maxHeartbeats 16000000 in
theorem rparseRes_w {w : World} (v : Value) (l : List UInt8) (hv : Sl w v (bv l)) (hl : l.length ≤ 1000000) :
    Calls Tryd.prog 29 #[v] w fun r w' => ∃ (p : Int × Int × Int) (err : Int), r = .returned (.tuple #[.agg #[.int .i64 p.1, .int .i64 p.2.1, .int .i64 p.2.2], .int .i64 err]) ∧ (p, err) = rprsRes l ∧ Sep w [] w' := by
  have hlt := rdNe_lt l 0
  have h0 := (Sep.start w).alloc (.cells #[.int .i64 0, .int .i64 0, .int .i64 0] 26)
  have HR := Lib.hid (rread_sep v l _ h0 (hv.below h0.low) (by omega))
  obtain ⟨ki, hki⟩ : ∃ ki, ki = (rdNe l 0).1 := ⟨_, rfl⟩
  have k0 : (0 : Int) ≤ (ki : Int) := by omega
  have k1 : (ki : Int) ≤ 255 := by omega
  have HN : Hid (∀ wx M g, Sep w (RrT g l 0 :: M) wx → Calls Tryd.prog 58 #[.pointer (some ⟨g, 0, none⟩), .int .i64 8] wx fun r w' => r = .returned (.int .u64 ki) ∧ Sep w (RrT g (rdNe l 0).2.1 (rdNe l 0).2.2 :: M) w') := Lib.hid fun wx M g hx => by rw [hki]; exact rrnum_sep hx
  obtain ⟨F, hF⟩ : ∃ F, F = rprsRes l := ⟨_, rfl⟩
  rw [← hF]
  unfold rprsRes at hF
  dsimp only at hF
  rw [← hki] at hF
  generalize (rdNe l 0).2.1 = r1 at *
  generalize (rdNe l 0).2.2 = e1 at *
  have HV1 : Hid (∀ wx M g, Sep w (RrT g r1 e1 :: M) wx → Calls Tryd.prog 61 #[.pointer (some ⟨g, 0, none⟩)] wx fun r w' => r = .returned (.int .u64 (rdVe r1 e1).1) ∧ Sep w (RrT g (rdVe r1 e1).2.1 (rdVe r1 e1).2.2 :: M) w') := Lib.hid fun wx M g hx => rrvarint_sep hx
  have HS1 := Lib.hid (fun wx => small_any (rdVe r1 e1).1 wx (rdVe_u64 r1 e1))
  generalize sml (rdVe r1 e1).1 = ra at *
  generalize (rdVe r1 e1).1 = u at *
  generalize (rdVe r1 e1).2.1 = r2 at *
  generalize (rdVe r1 e1).2.2 = e2 at *
  have HV2 : Hid (∀ wx M g, Sep w (RrT g r2 e2 :: M) wx → Calls Tryd.prog 61 #[.pointer (some ⟨g, 0, none⟩)] wx fun r w' => r = .returned (.int .u64 (rdVe r2 e2).1) ∧ Sep w (RrT g (rdVe r2 e2).2.1 (rdVe r2 e2).2.2 :: M) w') := Lib.hid fun wx M g hx => rrvarint_sep hx
  have HS2 := Lib.hid (fun wx => small_any (rdVe r2 e2).1 wx (rdVe_u64 r2 e2))
  generalize sml (rdVe r2 e2).1 = rb at *
  generalize (rdVe r2 e2).1 = u' at *
  generalize (rdVe r2 e2).2.1 = r3 at *
  generalize (rdVe r2 e2).2.2 = e3 at *
  have HF := Lib.hid hF
  obtain ⟨b0, hb0⟩ : ∃ z, z = w.heap.size := ⟨_, rfl⟩
  rw [← hb0] at HR
  clear hv hl hlt hki h0 hF
  go_enter Tryd.func29, Tryd.ntmps29
  go_wp2_with fail
  rw [← hb0]
  clear hb0
  refine HR.out.mono ?_
  rintro q0 w1 ⟨g, rfl, h1⟩
  have H1 := Lib.hid h1
  clear h1 HR
  go_wp2_with fail
  refine (HN.out _ _ _ H1.out).mono ?_
  rintro q0 w2 ⟨rfl, h2⟩
  have h3 := h2.alloc (.cells #[.int .i64 ki, .int .i64 0, .int .i64 0] 26)
  obtain ⟨bo, hbo⟩ : ∃ z, z = w2.heap.size := ⟨_, rfl⟩
  obtain ⟨wo, hwo⟩ : ∃ z, z = w2.alloc (.cells #[.int .i64 ki, .int .i64 0, .int .i64 0] 26) := ⟨_, rfl⟩
  rw [← hbo, ← hwo] at h3
  have HV := Lib.hid (HV1.out _ _ _ h3.sw2)
  clear h2 h3 HN H1 HV1
  go_wp2_with fail
  rw [← hwo, ← hbo]
  clear hwo hbo
  refine HV.out.mono ?_
  rintro q0 w3 ⟨rfl, h4⟩
  have HQ := Lib.hid (HS1.out w3)
  obtain ⟨d0, d1, d2⟩ := cells3 h4.sw2
  obtain ⟨f0, f1, f2, -, -⟩ := frz5 h4.sw2
  have h5 : Sep w [Cl bo #[.int .i64 ki, .int .i64 ra, .int .i64 0] 26, RrT g r2 e2, Cl b0 #[.int .i64 0, .int .i64 0, .int .i64 0] 26] (w3.setCell ⟨bo, 1, none⟩ (.int .i64 ra)) := h4.sw2.setCell 1 _
  have H5 := Lib.hid h5
  clear h4 h5 HV HS1
  go_wp2_with fail
  refine HQ.out.mono ?_
  rintro q0 wq ⟨rfl, rfl⟩
  have HV := Lib.hid (HV2.out _ _ _ H5.out.sw2)
  clear HQ HV2 H5
  go_wp2_with fail
  refine HV.out.mono ?_
  rintro q0 w4 ⟨rfl, h6⟩
  have HQ := Lib.hid (HS2.out w4)
  clear d0 d1 d2 f0 f1 f2
  obtain ⟨d0, d1, d2⟩ := cells3 h6.sw2
  obtain ⟨f0, f1, f2, -, -⟩ := frz5 h6.sw2
  have h7 : Sep w [Cl bo #[.int .i64 ki, .int .i64 ra, .int .i64 rb] 26, RrT g r3 e3, Cl b0 #[.int .i64 0, .int .i64 0, .int .i64 0] 26] (w4.setCell ⟨bo, 2, none⟩ (.int .i64 rb)) := h6.sw2.setCell 2 _
  have H7 := Lib.hid h7
  have HER := Lib.hid (rrerr_sep h7.sw2)
  have HEN := Lib.hid (rrend_sep h7.sw2)
  have HC := Lib.hid (rres_any ki ra rb h7)
  have c := cells3 h7
  have z := cells3 h7.sw3
  have f := frz5 h7.sw3
  clear h6 h7 HV HS2
  go_wp2_with fail
  refine HQ.out.mono ?_
  rintro q0 wq ⟨rfl, rfl⟩
  obtain ⟨c0, c1, c2⟩ := c
  obtain ⟨z0, z1, z2⟩ := z
  obtain ⟨g0, g1, g2, -, -⟩ := f
  clear HQ
  by_cases hee : e3 = 0
  · have hb : (e3 != 0) = false := by simp [hee]
    by_cases hen : endErr r3 e3 = 0
    · have hb2 : (endErr r3 e3 != 0) = false := by simp [hen]
      have hF3 : F = if resB ki ra rb then (((ki : Int), ra, rb), 0) else ((0, 0, 0), 4) := by rw [HF.out, if_neg (by simp [hee]), if_neg (by rw [hee] at hen; simp [hen])]
      generalize endErr r3 e3 = en at *
      clear hee hen
      cases hok : resB ki ra rb with
      | true =>
        rw [hok] at HC hF3
        have HFF := Lib.hid hF3
        clear hok hF3 HF
        go_wp2_with (first | ((with_reducible refine HER.out.mono ?_); rintro r9 w9 ⟨rfl, rfl⟩) | ((with_reducible refine HEN.out.mono ?_); rintro r9 w9 ⟨rfl, rfl⟩))
        refine HC.out.mono ?_
        rintro q0 w8 ⟨rfl, h8⟩
        clear c0 c1 c2 z0 z1 z2 g0 g1 g2 d0 d1 d2 f0 f1 f2
        unfold okE
        obtain ⟨c0, c1, c2⟩ := cells3 h8
        obtain ⟨g0, g1, g2, -, -⟩ := frz5 h8.sw3
        obtain ⟨z0, z1, z2⟩ := cells3 h8.sw3
        have h9 := store3 (u0 := .int .i64 ki) (u1 := .int .i64 ra) (u2 := .int .i64 rb) h8.sw3
        obtain ⟨y0, y1, y2⟩ := cells3 h9
        have H9 := Lib.hid h9.drop.drop.drop
        clear h8 h9 HC H7 HER HEN
        go_wp2_with fail
        exact bodyPost_ret (v := .tuple #[.agg #[.int .i64 ki, .int .i64 ra, .int .i64 rb], .int .i64 0]) (by simp [results, Tryd.results29, go_sem, y0, y1, y2]) rfl ⟨((ki : Int), ra, rb), 0, rfl, HFF.out.symm, H9.out⟩
      | false =>
        rw [hok] at HC hF3
        have HFF := Lib.hid hF3
        clear hok hF3 HF
        go_wp2_with (first | ((with_reducible refine HER.out.mono ?_); rintro r9 w9 ⟨rfl, rfl⟩) | ((with_reducible refine HEN.out.mono ?_); rintro r9 w9 ⟨rfl, rfl⟩))
        refine HC.out.mono ?_
        rintro q0 w8 ⟨rfl, h8⟩
        clear c0 c1 c2 z0 z1 z2 g0 g1 g2 d0 d1 d2 f0 f1 f2
        unfold okE
        obtain ⟨g0, g1, g2, -, -⟩ := frz5 h8.sw3
        obtain ⟨z0, z1, z2⟩ := cells3 h8.sw3
        have h9 := store3 (u0 := .int .i64 0) (u1 := .int .i64 0) (u2 := .int .i64 0) h8.sw3
        obtain ⟨y0, y1, y2⟩ := cells3 h9
        have H9 := Lib.hid h9.drop.drop.drop
        clear h8 h9 HC H7 HER HEN
        go_wp2_with fail
        exact bodyPost_ret (v := .tuple #[.agg #[.int .i64 0, .int .i64 0, .int .i64 0], .int .i64 4]) (by simp [results, Tryd.results29, go_sem, y0, y1, y2]) rfl ⟨(0, 0, 0), 4, rfl, HFF.out.symm, H9.out⟩
    · have hb2 : (endErr r3 e3 != 0) = true := by rw [bne_iff_ne]; exact hen
      have hFF : F = ((0, 0, 0), 4) := by rw [HF.out, if_neg (by simp [hee]), if_pos (by rw [hee] at hen; exact hen)]
      have h9 := store3 (u0 := .int .i64 0) (u1 := .int .i64 0) (u2 := .int .i64 0) H7.out.sw3
      obtain ⟨y0, y1, y2⟩ := cells3 h9
      have H9 := Lib.hid h9.drop.drop.drop
      have HFF := Lib.hid hFF
      generalize endErr r3 e3 = en at *
      clear h9 hFF hee hen HF HC
      go_wp2_with (first | ((with_reducible refine HER.out.mono ?_); rintro r9 w9 ⟨rfl, rfl⟩) | ((with_reducible refine HEN.out.mono ?_); rintro r9 w9 ⟨rfl, rfl⟩))
      exact bodyPost_ret (v := .tuple #[.agg #[.int .i64 0, .int .i64 0, .int .i64 0], .int .i64 4]) (by simp [results, Tryd.results29, go_sem, y0, y1, y2]) rfl ⟨(0, 0, 0), 4, rfl, HFF.out.symm, H9.out⟩
  · have hb : (e3 != 0) = true := by rw [bne_iff_ne]; exact hee
    have hFF : F = ((0, 0, 0), e3) := by rw [HF.out, if_pos hee]
    have h9 := store3 (u0 := .int .i64 0) (u1 := .int .i64 0) (u2 := .int .i64 0) H7.out.sw3
    obtain ⟨y0, y1, y2⟩ := cells3 h9
    have H9 := Lib.hid h9.drop.drop.drop
    have HFF := Lib.hid hFF
    have HER2 := Lib.hid (rrerr_sep h9.sw3)
    clear h9 hFF hee HF HC HEN
    go_wp2_with (first | ((with_reducible refine HER.out.mono ?_); rintro r9 w9 ⟨rfl, rfl⟩) | ((with_reducible refine HER2.out.mono ?_); rintro r9 w9 ⟨rfl, rfl⟩))
    exact bodyPost_ret (v := .tuple #[.agg #[.int .i64 0, .int .i64 0, .int .i64 0], .int .i64 e3]) (by simp [results, Tryd.results29, go_sem, y0, y1, y2]) rfl ⟨(0, 0, 0), e3, rfl, HFF.out.symm, H9.out⟩
theorem rparseRes_any {w0 w : World} {L : List Thing} (v : Value) (l : List UInt8) (h : Sep w0 L w) (hv : Sl w v (bv l)) (hl : l.length ≤ 1000000) :
    Calls Tryd.prog 29 #[v] w fun r w' => ∃ (p : Int × Int × Int) (err : Int), r = .returned (.tuple #[.agg #[.int .i64 p.1, .int .i64 p.2.1, .int .i64 p.2.2], .int .i64 err]) ∧ (p, err) = prsRes l ∧ Sep w0 L w' :=
  (rparseRes_w v l hv hl).mono fun e w' ⟨p, err, h1, h2, h3⟩ => ⟨p, err, h1, by rw [h2, rprsRes_eq], h.below h3.low⟩
end Go.Proofs.YtfjodadmcfdlpaaDoor
