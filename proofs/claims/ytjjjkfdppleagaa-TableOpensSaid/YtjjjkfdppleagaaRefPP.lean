/- The document's ParseRes by itself, and small: out of RefP1 and RefP4. -/
import Derived.Test.YtjjjkfdppleagaaBkE
import Derived.Test.YtjjjkfdppleagaaRefRes
import Derived.Test.YtjjjkfdppleagaaTable35
namespace Go.Proofs.Ytjjjkfdppleagaa
open Go Go.RowKit
set_option linter.unusedVariables false
set_option linter.unusedSimpArgs false
def sml (u : Nat) : Int := if 9007199254740991 < u then -1 else (u : Int)
theorem small_any (u : Nat) (w : World) (hu : U64 u) : Calls Try.prog 74 #[.int .u64 u] w fun e w' => e = .returned (.int .i64 (sml u)) ∧ w = w' := by
  unfold U64 at hu
  unfold sml
  by_cases h : 9007199254740991 < u
  · rw [if_pos h]
    have h1 : (9007199254740991 : Int) < (u : Int) := by omega
    go_enter Try.func74, Try.ntmps74
    go_wp2
    go_ret
    exact ⟨rfl, rfl⟩
  · rw [if_neg h]
    have h1 : ¬ (9007199254740991 : Int) < (u : Int) := by omega
    have h2 : wrap64 (u : Int) = u := by unfold wrap64; omega
    go_enter Try.func74, Try.ntmps74
    go_wp2
    go_ret
    first | exact ⟨rfl, rfl⟩ | (rw [h2]; exact ⟨rfl, rfl⟩)
theorem small10_any (u : Nat) (w : World) (hu : U64 u) : Calls Try.prog 56 #[.int .u64 u] w fun e w' => e = .returned (.int .i64 (smlT u)) ∧ w = w' := by
  unfold U64 at hu
  unfold smlT
  by_cases h : 9007199254740991 < u
  · rw [if_pos h]
    have h1 : (9007199254740991 : Int) < (u : Int) := by omega
    go_enter Try.func56, Try.ntmps56
    go_wp2
    go_ret
    exact ⟨rfl, rfl⟩
  · rw [if_neg h]
    have h1 : ¬ (9007199254740991 : Int) < (u : Int) := by omega
    have h2 : wrap64 (u : Int) = u := by unfold wrap64; omega
    go_enter Try.func56, Try.ntmps56
    go_wp2
    go_ret
    first | exact ⟨rfl, rfl⟩ | (rw [h2]; exact ⟨rfl, rfl⟩)
theorem i64w_val (u : Nat) (hu : U64 u) : i64w u = if u < 9223372036854775808 then (u : Int) else (u : Int) - 18446744073709551616 := by
  unfold U64 at hu
  rw [i64w_eq]; unfold wrap64
  split <;> omega
theorem sml_res {u : Nat} (hu : U64 u) : (0 ≤ i64w u ∧ i64w u ≤ 2147483647 ↔ 0 ≤ sml u ∧ sml u ≤ 2147483647) ∧ (0 ≤ i64w u → i64w u ≤ 2147483647 → i64w u = sml u) := by
  have h1 := i64w_val u hu
  unfold U64 at hu
  unfold sml
  rw [h1]
  split <;> split <;> refine ⟨⟨fun h => ?_, fun h => ?_⟩, fun h1 h2 => ?_⟩ <;> omega
theorem end4 {rest : List UInt8} (hr : ¬ endErr rest 0 = 0) : endErr rest 0 = 4 := by
  unfold endErr at hr ⊢
  by_cases hx : (0 : Int) = 0 ∧ 0 < rest.length
  · rw [if_pos hx]
  · rw [if_neg hx] at hr
    exact absurd rfl hr
/-- What the document's ParseRes answers. -/
def rprsRes (l : List UInt8) : (Int × Int × Int) × Int :=
  let a := rdNe l 0
  let b := rdVe a.2.1 a.2.2
  let c := rdVe b.2.1 b.2.2
  if c.2.2 ≠ 0 then ((0, 0, 0), c.2.2) else if endErr c.2.1 0 ≠ 0 then ((0, 0, 0), 4) else if resB (a.1 : Nat) (sml b.1) (sml c.1) then (((a.1 : Nat), sml b.1, sml c.1), 0) else ((0, 0, 0), 4)
theorem rprsRes_eq (l : List UInt8) : rprsRes l = prsRes l := by
  unfold rprsRes prsRes
  dsimp only
  have hb1 := rdVe_u64 (rdNe l 0).2.1 (rdNe l 0).2.2
  generalize (rdNe l 0).1 = k
  generalize rdVe (rdNe l 0).2.1 (rdNe l 0).2.2 = b at *
  have hb2 := rdVe_u64 b.2.1 b.2.2
  generalize rdVe b.2.1 b.2.2 = c at *
  obtain ⟨x1, x2⟩ := sml_res hb1
  obtain ⟨y1, y2⟩ := sml_res hb2
  have hres : resB (k : Nat) (sml b.1) (sml c.1) = resB (k : Nat) (i64w b.1) (i64w c.1) := by
    unfold resB
    rw [Bool.eq_iff_iff]
    simp only [decide_eq_true_eq]
    omega
  by_cases he : c.2.2 = 0
  · rw [he, if_neg (by simp)]
    by_cases hr : endErr c.2.1 0 = 0
    · rw [if_neg (by simp [hr]), if_pos hr, hres]
      cases hk : resB (k : Nat) (i64w b.1) (i64w c.1) with
      | false => rfl
      | true =>
        unfold resB at hk
        have := of_decide_eq_true hk
        rw [x2 (by omega) (by omega), y2 (by omega) (by omega)]
    · rw [if_pos hr, if_neg hr]
      have : endErr c.2.1 0 = 4 := end4 hr
      rw [this]
  · rw [if_pos he]
    have : endErr c.2.1 c.2.2 = c.2.2 := by unfold endErr; rw [if_neg (by omega)]
    rw [this, if_neg he]
set_option maxRecDepth 100000 in
set_option maxHeartbeats 16000000 in
theorem rparseRes_w {w : World} (v : Value) (l : List UInt8) (hv : Sl w v (bv l)) (hl : l.length ≤ 1000000) :
    Calls Try.prog 58 #[v] w fun r w' => ∃ (p : Int × Int × Int) (err : Int), r = .returned (.tuple #[.agg #[.int .i64 p.1, .int .i64 p.2.1, .int .i64 p.2.2], .int .i64 err]) ∧ (p, err) = rprsRes l ∧ Sep w [] w' := by
  have hlt := rdNe_lt l 0
  have h0 := (Sep.start w).alloc (.cells #[.int .i64 0, .int .i64 0, .int .i64 0] 29)
  have HR := Lib.hid (rread_sep v l _ h0 (hv.below h0.low) (by omega))
  obtain ⟨ki, hki⟩ : ∃ ki, ki = (rdNe l 0).1 := ⟨_, rfl⟩
  have k0 : (0 : Int) ≤ (ki : Int) := by omega
  have k1 : (ki : Int) ≤ 255 := by omega
  have HN : Hid (∀ wx M g, Sep w (RrT g l 0 :: M) wx → Calls Try.prog 54 #[.pointer (some ⟨g, 0, none⟩), .int .i64 8] wx fun r w' => r = .returned (.int .u64 ki) ∧ Sep w (RrT g (rdNe l 0).2.1 (rdNe l 0).2.2 :: M) w') := Lib.hid fun wx M g hx => by rw [hki]; exact rrnum_sep hx
  obtain ⟨F, hF⟩ : ∃ F, F = rprsRes l := ⟨_, rfl⟩
  rw [← hF]
  unfold rprsRes at hF
  dsimp only at hF
  rw [← hki] at hF
  generalize (rdNe l 0).2.1 = r1 at *
  generalize (rdNe l 0).2.2 = e1 at *
  have HV1 : Hid (∀ wx M g, Sep w (RrT g r1 e1 :: M) wx → Calls Try.prog 57 #[.pointer (some ⟨g, 0, none⟩)] wx fun r w' => r = .returned (.int .u64 (rdVe r1 e1).1) ∧ Sep w (RrT g (rdVe r1 e1).2.1 (rdVe r1 e1).2.2 :: M) w') := Lib.hid fun wx M g hx => rrvarint_sep hx
  have HS1 := Lib.hid (fun wx => small_any (rdVe r1 e1).1 wx (rdVe_u64 r1 e1))
  generalize sml (rdVe r1 e1).1 = ra at *
  generalize (rdVe r1 e1).1 = u at *
  generalize (rdVe r1 e1).2.1 = r2 at *
  generalize (rdVe r1 e1).2.2 = e2 at *
  have HV2 : Hid (∀ wx M g, Sep w (RrT g r2 e2 :: M) wx → Calls Try.prog 57 #[.pointer (some ⟨g, 0, none⟩)] wx fun r w' => r = .returned (.int .u64 (rdVe r2 e2).1) ∧ Sep w (RrT g (rdVe r2 e2).2.1 (rdVe r2 e2).2.2 :: M) w') := Lib.hid fun wx M g hx => rrvarint_sep hx
  have HS2 := Lib.hid (fun wx => small_any (rdVe r2 e2).1 wx (rdVe_u64 r2 e2))
  generalize sml (rdVe r2 e2).1 = rb at *
  generalize (rdVe r2 e2).1 = u' at *
  generalize (rdVe r2 e2).2.1 = r3 at *
  generalize (rdVe r2 e2).2.2 = e3 at *
  have HF := Lib.hid hF
  obtain ⟨b0, hb0⟩ : ∃ z, z = w.heap.size := ⟨_, rfl⟩
  rw [← hb0] at HR
  clear hv hl hlt hki h0 hF
  go_enter Try.func58, Try.ntmps58
  go_wp2_with fail
  rw [← hb0]
  clear hb0
  refine HR.out.mono ?_
  rintro q0 w1 ⟨g, rfl, h1⟩
  have H1 := Lib.hid h1
  clear h1 HR
  go_wp2_with fail
  refine (HN.out _ _ _ H1.out).mono ?_
  rintro q0 w2 ⟨rfl, h2⟩
  have h3 := h2.alloc (.cells #[.int .i64 ki, .int .i64 0, .int .i64 0] 29)
  obtain ⟨bo, hbo⟩ : ∃ z, z = w2.heap.size := ⟨_, rfl⟩
  obtain ⟨wo, hwo⟩ : ∃ z, z = w2.alloc (.cells #[.int .i64 ki, .int .i64 0, .int .i64 0] 29) := ⟨_, rfl⟩
  rw [← hbo, ← hwo] at h3
  have HV := Lib.hid (HV1.out _ _ _ h3.sw2)
  clear h2 h3 HN H1 HV1
  go_wp2_with fail
  rw [← hwo, ← hbo]
  clear hwo hbo
  refine HV.out.mono ?_
  rintro q0 w3 ⟨rfl, h4⟩
  have HQ := Lib.hid (HS1.out w3)
  obtain ⟨d0, d1, d2⟩ := cells3 h4.sw2
  obtain ⟨f0, f1, f2, -, -⟩ := frz5 h4.sw2
  have h5 : Sep w [Cl bo #[.int .i64 ki, .int .i64 ra, .int .i64 0] 29, RrT g r2 e2, Cl b0 #[.int .i64 0, .int .i64 0, .int .i64 0] 29] (w3.setCell ⟨bo, 1, none⟩ (.int .i64 ra)) := h4.sw2.setCell 1 _
  have H5 := Lib.hid h5
  clear h4 h5 HV HS1
  go_wp2_with fail
  refine HQ.out.mono ?_
  rintro q0 wq ⟨rfl, rfl⟩
  have HV := Lib.hid (HV2.out _ _ _ H5.out.sw2)
  clear HQ HV2 H5
  go_wp2_with fail
  refine HV.out.mono ?_
  rintro q0 w4 ⟨rfl, h6⟩
  have HQ := Lib.hid (HS2.out w4)
  clear d0 d1 d2 f0 f1 f2
  obtain ⟨d0, d1, d2⟩ := cells3 h6.sw2
  obtain ⟨f0, f1, f2, -, -⟩ := frz5 h6.sw2
  have h7 : Sep w [Cl bo #[.int .i64 ki, .int .i64 ra, .int .i64 rb] 29, RrT g r3 e3, Cl b0 #[.int .i64 0, .int .i64 0, .int .i64 0] 29] (w4.setCell ⟨bo, 2, none⟩ (.int .i64 rb)) := h6.sw2.setCell 2 _
  have H7 := Lib.hid h7
  have HER := Lib.hid (rrerr_sep h7.sw2)
  have HEN := Lib.hid (rrend_sep h7.sw2)
  have HC := Lib.hid (rres_any ki ra rb h7)
  have c := cells3 h7
  have z := cells3 h7.sw3
  have f := frz5 h7.sw3
  clear h6 h7 HV HS2
  go_wp2_with fail
  refine HQ.out.mono ?_
  rintro q0 wq ⟨rfl, rfl⟩
  obtain ⟨c0, c1, c2⟩ := c
  obtain ⟨z0, z1, z2⟩ := z
  obtain ⟨g0, g1, g2, -, -⟩ := f
  clear HQ
  by_cases hee : e3 = 0
  · have hb : (e3 != 0) = false := by simp [hee]
    by_cases hen : endErr r3 e3 = 0
    · have hb2 : (endErr r3 e3 != 0) = false := by simp [hen]
      have hF3 : F = if resB ki ra rb then (((ki : Int), ra, rb), 0) else ((0, 0, 0), 4) := by rw [HF.out, if_neg (by simp [hee]), if_neg (by rw [hee] at hen; simp [hen])]
      generalize endErr r3 e3 = en at *
      clear hee hen
      cases hok : resB ki ra rb with
      | true =>
        rw [hok] at HC hF3
        have HFF := Lib.hid hF3
        clear hok hF3 HF
        go_wp2_with (first | ((with_reducible refine HER.out.mono ?_); rintro r9 w9 ⟨rfl, rfl⟩) | ((with_reducible refine HEN.out.mono ?_); rintro r9 w9 ⟨rfl, rfl⟩))
        refine HC.out.mono ?_
        rintro q0 w8 ⟨rfl, h8⟩
        clear c0 c1 c2 z0 z1 z2 g0 g1 g2 d0 d1 d2 f0 f1 f2
        unfold okE
        obtain ⟨c0, c1, c2⟩ := cells3 h8
        obtain ⟨g0, g1, g2, -, -⟩ := frz5 h8.sw3
        obtain ⟨z0, z1, z2⟩ := cells3 h8.sw3
        have h9 := store3 (u0 := .int .i64 ki) (u1 := .int .i64 ra) (u2 := .int .i64 rb) h8.sw3
        obtain ⟨y0, y1, y2⟩ := cells3 h9
        have H9 := Lib.hid h9.drop.drop.drop
        clear h8 h9 HC H7 HER HEN
        go_wp2_with fail
        exact bodyPost_ret (v := .tuple #[.agg #[.int .i64 ki, .int .i64 ra, .int .i64 rb], .int .i64 0]) (by simp [results, Try.results58, go_sem, y0, y1, y2]) rfl ⟨((ki : Int), ra, rb), 0, rfl, HFF.out.symm, H9.out⟩
      | false =>
        rw [hok] at HC hF3
        have HFF := Lib.hid hF3
        clear hok hF3 HF
        go_wp2_with (first | ((with_reducible refine HER.out.mono ?_); rintro r9 w9 ⟨rfl, rfl⟩) | ((with_reducible refine HEN.out.mono ?_); rintro r9 w9 ⟨rfl, rfl⟩))
        refine HC.out.mono ?_
        rintro q0 w8 ⟨rfl, h8⟩
        clear c0 c1 c2 z0 z1 z2 g0 g1 g2 d0 d1 d2 f0 f1 f2
        unfold okE
        obtain ⟨g0, g1, g2, -, -⟩ := frz5 h8.sw3
        obtain ⟨z0, z1, z2⟩ := cells3 h8.sw3
        have h9 := store3 (u0 := .int .i64 0) (u1 := .int .i64 0) (u2 := .int .i64 0) h8.sw3
        obtain ⟨y0, y1, y2⟩ := cells3 h9
        have H9 := Lib.hid h9.drop.drop.drop
        clear h8 h9 HC H7 HER HEN
        go_wp2_with fail
        exact bodyPost_ret (v := .tuple #[.agg #[.int .i64 0, .int .i64 0, .int .i64 0], .int .i64 4]) (by simp [results, Try.results58, go_sem, y0, y1, y2]) rfl ⟨(0, 0, 0), 4, rfl, HFF.out.symm, H9.out⟩
    · have hb2 : (endErr r3 e3 != 0) = true := by rw [bne_iff_ne]; exact hen
      have hFF : F = ((0, 0, 0), 4) := by rw [HF.out, if_neg (by simp [hee]), if_pos (by rw [hee] at hen; exact hen)]
      have h9 := store3 (u0 := .int .i64 0) (u1 := .int .i64 0) (u2 := .int .i64 0) H7.out.sw3
      obtain ⟨y0, y1, y2⟩ := cells3 h9
      have H9 := Lib.hid h9.drop.drop.drop
      have HFF := Lib.hid hFF
      generalize endErr r3 e3 = en at *
      clear h9 hFF hee hen HF HC
      go_wp2_with (first | ((with_reducible refine HER.out.mono ?_); rintro r9 w9 ⟨rfl, rfl⟩) | ((with_reducible refine HEN.out.mono ?_); rintro r9 w9 ⟨rfl, rfl⟩))
      exact bodyPost_ret (v := .tuple #[.agg #[.int .i64 0, .int .i64 0, .int .i64 0], .int .i64 4]) (by simp [results, Try.results58, go_sem, y0, y1, y2]) rfl ⟨(0, 0, 0), 4, rfl, HFF.out.symm, H9.out⟩
  · have hb : (e3 != 0) = true := by rw [bne_iff_ne]; exact hee
    have hFF : F = ((0, 0, 0), e3) := by rw [HF.out, if_pos hee]
    have h9 := store3 (u0 := .int .i64 0) (u1 := .int .i64 0) (u2 := .int .i64 0) H7.out.sw3
    obtain ⟨y0, y1, y2⟩ := cells3 h9
    have H9 := Lib.hid h9.drop.drop.drop
    have HFF := Lib.hid hFF
    have HER2 := Lib.hid (rrerr_sep h9.sw3)
    clear h9 hFF hee HF HC HEN
    go_wp2_with (first | ((with_reducible refine HER.out.mono ?_); rintro r9 w9 ⟨rfl, rfl⟩) | ((with_reducible refine HER2.out.mono ?_); rintro r9 w9 ⟨rfl, rfl⟩))
    exact bodyPost_ret (v := .tuple #[.agg #[.int .i64 0, .int .i64 0, .int .i64 0], .int .i64 e3]) (by simp [results, Try.results58, go_sem, y0, y1, y2]) rfl ⟨(0, 0, 0), e3, rfl, HFF.out.symm, H9.out⟩
theorem rparseRes_any {w0 w : World} {L : List Thing} (v : Value) (l : List UInt8) (h : Sep w0 L w) (hv : Sl w v (bv l)) (hl : l.length ≤ 1000000) :
    Calls Try.prog 58 #[v] w fun r w' => ∃ (p : Int × Int × Int) (err : Int), r = .returned (.tuple #[.agg #[.int .i64 p.1, .int .i64 p.2.1, .int .i64 p.2.2], .int .i64 err]) ∧ (p, err) = prsRes l ∧ Sep w0 L w' :=
  (rparseRes_w v l hv hl).mono fun e w' ⟨p, err, h1, h2, h3⟩ => ⟨p, err, h1, by rw [h2, rprsRes_eq], h.below h3.low⟩
end Go.Proofs.Ytjjjkfdppleagaa
