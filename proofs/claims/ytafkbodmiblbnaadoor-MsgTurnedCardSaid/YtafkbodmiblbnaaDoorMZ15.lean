/- Package item: which answers may be. -/
import Derived.Test.YtafkbodmiblbnaaDoorMZ01
import Derived.Test.YtafkbodmiblbnaaDoorMItem9
import Derived.Test.YtafkbodmiblbnaaDoorMZ12
namespace Go.Proofs.YtafkbodmiblbnaaDoor
open Go.RowKit
set_option linter.unusedVariables false
set_option linter.unusedSimpArgs false
def resB (k a b : Int) : Bool := decide (0 ≤ k ∧ k ≤ 6 ∧ 0 ≤ a ∧ 0 ≤ b ∧ a ≤ 2147483647 ∧ b ≤ 2147483647)
def okE (x : Bool) : Int := if x then 0 else 2
theorem res_any (k a b : Int) (w : World) : Calls Tryd.prog 64 #[.agg #[.int .i64 k, .int .i64 a, .int .i64 b]] w fun e w' => e = .returned (.int .i64 (okE (resB k a b))) ∧ w' = w.alloc (.cells #[.int .i64 k, .int .i64 a, .int .i64 b] 34) := by
  by_cases h0 : k < 0
  · have hb : resB k a b = false := decide_eq_false fun h => by omega
    rw [hb]
    clear hb
    go_enter Tryd.func64, Tryd.ntmps64
    go_wp2
    go_ret
    exact ⟨rfl, rfl⟩
  · by_cases h1 : 6 < k
    · have hb : resB k a b = false := decide_eq_false fun h => by omega
      rw [hb]
      clear hb
      go_enter Tryd.func64, Tryd.ntmps64
      go_wp2
      go_ret
      exact ⟨rfl, rfl⟩
    · have k0 : 0 ≤ k := by omega
      have k1 : k ≤ 6 := by omega
      rcases Int.lt_trichotomy a b with hab | rfl | hab
      · by_cases h2 : a < 0
        · have hb : resB k a b = false := decide_eq_false fun h => by omega
          rw [hb]
          clear hb
          go_enter Tryd.func64, Tryd.ntmps64
          go_wp2
          go_ret
          exact ⟨rfl, rfl⟩
        · have h2' : 0 ≤ a := by omega
          by_cases h3 : 2147483647 < b
          · have hb : resB k a b = false := decide_eq_false fun h => by omega
            rw [hb]
            clear hb
            go_enter Tryd.func64, Tryd.ntmps64
            go_wp2
            go_ret
            exact ⟨rfl, rfl⟩
          · have h3' : b ≤ 2147483647 := by omega
            have hb : resB k a b = true := decide_eq_true (by omega)
            rw [hb]
            clear hb
            go_enter Tryd.func64, Tryd.ntmps64
            go_wp2
            go_ret
            exact ⟨rfl, rfl⟩
      · by_cases h2 : a < 0
        · have hb : resB k a a = false := decide_eq_false fun h => by omega
          rw [hb]
          clear hb
          go_enter Tryd.func64, Tryd.ntmps64
          go_wp2
          go_ret
          exact ⟨rfl, rfl⟩
        · have h2' : 0 ≤ a := by omega
          by_cases h3 : 2147483647 < a
          · have hb : resB k a a = false := decide_eq_false fun h => by omega
            rw [hb]
            clear hb
            go_enter Tryd.func64, Tryd.ntmps64
            go_wp2
            go_ret
            exact ⟨rfl, rfl⟩
          · have h3' : a ≤ 2147483647 := by omega
            have hb : resB k a a = true := decide_eq_true (by omega)
            rw [hb]
            clear hb
            go_enter Tryd.func64, Tryd.ntmps64
            go_wp2
            go_ret
            exact ⟨rfl, rfl⟩
      · by_cases h2 : b < 0
        · have hb : resB k a b = false := decide_eq_false fun h => by omega
          rw [hb]
          clear hb
          go_enter Tryd.func64, Tryd.ntmps64
          go_wp2
          go_ret
          exact ⟨rfl, rfl⟩
        · have h2' : 0 ≤ b := by omega
          by_cases h3 : 2147483647 < a
          · have hb : resB k a b = false := decide_eq_false fun h => by omega
            rw [hb]
            clear hb
            go_enter Tryd.func64, Tryd.ntmps64
            go_wp2
            go_ret
            exact ⟨rfl, rfl⟩
          · have h3' : a ≤ 2147483647 := by omega
            have hb : resB k a b = true := decide_eq_true (by omega)
            rw [hb]
            clear hb
            go_enter Tryd.func64, Tryd.ntmps64
            go_wp2
            go_ret
            exact ⟨rfl, rfl⟩
end Go.Proofs.YtafkbodmiblbnaaDoor
/- Package item: ParseRes. -/
namespace Go.Proofs.YtafkbodmiblbnaaDoor
open Go.RowKit
set_option linter.unusedVariables false
set_option linter.unusedSimpArgs false
theorem cells3 {w0 w : World} {b : Nat} {v0 v1 v2 : Value} {t : TypeId} {L : List Thing} (h : Sep w0 (Cl b #[v0, v1, v2] t :: L) w) :
    w.cell? ⟨b, 0, none⟩ = some v0 ∧ w.cell? ⟨b, 1, none⟩ = some v1 ∧ w.cell? ⟨b, 2, none⟩ = some v2 := ⟨h.cell rfl, h.cell rfl, h.cell rfl⟩
theorem store3 {w0 w : World} {b : Nat} {v0 v1 v2 u0 u1 u2 : Value} {t : TypeId} {L : List Thing} (h : Sep w0 (Cl b #[v0, v1, v2] t :: L) w) :
    Sep w0 (Cl b #[u0, u1, u2] t :: L) (((w.setCell ⟨b, 0, none⟩ u0).setCell ⟨b, 1, none⟩ u1).setCell ⟨b, 2, none⟩ u2) := ((h.setCell 0 _).setCell 1 _).setCell 2 _
/-- What ParseRes answers. -/
def prsRes (l : List UInt8) : (Int × Int × Int) × Int :=
  let a := rdNe l 0
  let b := rdVe a.2.1 a.2.2
  let c := rdVe b.2.1 b.2.2
  if endErr c.2.1 c.2.2 = 0 then (if resB (a.1 : Nat) (i64w b.1) (i64w c.1) then (((a.1 : Nat), i64w b.1, i64w c.1), 0) else ((0, 0, 0), 4)) else ((0, 0, 0), endErr c.2.1 c.2.2)
set_option maxRecDepth 100000 in
set_option maxHeartbeats 8000000 in
theorem parseRes_any {w0 w : World} {L : List Thing} (v : Value) (l : List UInt8) (h : Sep w0 L w) (hv : Sl w v (bv l)) (hl : l.length ≤ 1000000) :
    Calls Tryd.prog 60 #[v] w fun r w' => ∃ (p : Int × Int × Int) (err : Int), r = .returned (.tuple #[.agg #[.int .i64 p.1, .int .i64 p.2.1, .int .i64 p.2.2], .int .i64 err]) ∧ (p, err) = prsRes l ∧ Sep w0 L w' := by
  have hlt := rdNe_lt l 0
  have h0 := h.alloc (.cells #[.int .i64 0, .int .i64 0, .int .i64 0] 34)
  have hlow : Below w.heap.size w (w.alloc (.cells #[.int .i64 0, .int .i64 0, .int .i64 0] 34)) := (Below.refl _ w).alloc (Nat.le_refl _) _
  have HR := Lib.hid (read_sep v l _ h0 (hv.below hlow) (by omega))
  obtain ⟨ki, hki⟩ : ∃ ki, ki = (rdNe l 0).1 := ⟨_, rfl⟩
  have k0 : (0 : Int) ≤ (ki : Int) := by omega
  have k1 : (ki : Int) ≤ 255 := by omega
  have HN : Hid (∀ wx M g, Sep w0 (RdrT g l 0 :: M) wx → Calls Tryd.prog 55 #[.pointer (some ⟨g, 0, none⟩), .int .i64 8] wx fun r w' => r = .returned (.int .u64 ki) ∧ Sep w0 (RdrT g (rdNe l 0).2.1 (rdNe l 0).2.2 :: M) w') := Lib.hid fun wx M g hx => by rw [hki]; exact rnum_sep hx
  obtain ⟨F, hF⟩ : ∃ F, F = prsRes l := ⟨_, rfl⟩
  rw [← hF]
  unfold prsRes at hF
  dsimp only at hF
  rw [← hki] at hF
  generalize (rdNe l 0).2.1 = r1 at *
  generalize (rdNe l 0).2.2 = e1 at *
  have hb1 := rdVe_u64 r1 e1
  have HV1 : Hid (∀ wx M g, Sep w0 (RdrT g r1 e1 :: M) wx → Calls Tryd.prog 57 #[.pointer (some ⟨g, 0, none⟩)] wx fun r w' => r = .returned (.int .u64 (rdVe r1 e1).1) ∧ Sep w0 (RdrT g (rdVe r1 e1).2.1 (rdVe r1 e1).2.2 :: M) w') := Lib.hid fun wx M g hx => rvarint_sep hx
  generalize (rdVe r1 e1).1 = u at *
  generalize (rdVe r1 e1).2.1 = r2 at *
  generalize (rdVe r1 e1).2.2 = e2 at *
  have hb2 := rdVe_u64 r2 e2
  have HV2 : Hid (∀ wx M g, Sep w0 (RdrT g r2 e2 :: M) wx → Calls Tryd.prog 57 #[.pointer (some ⟨g, 0, none⟩)] wx fun r w' => r = .returned (.int .u64 (rdVe r2 e2).1) ∧ Sep w0 (RdrT g (rdVe r2 e2).2.1 (rdVe r2 e2).2.2 :: M) w') := Lib.hid fun wx M g hx => rvarint_sep hx
  generalize (rdVe r2 e2).1 = u' at *
  generalize (rdVe r2 e2).2.1 = r3 at *
  generalize (rdVe r2 e2).2.2 = e3 at *
  simp only [i64w_eq] at hF
  have HF := Lib.hid hF
  unfold U64 at hb1 hb2
  have a0 : (0 : Int) ≤ (u : Int) := by omega
  have a1 : (u : Int) ≤ 18446744073709551615 := by omega
  have a2 : (0 : Int) ≤ (u' : Int) := by omega
  have a3 : (u' : Int) ≤ 18446744073709551615 := by omega
  clear h hv hl hlt h0 hlow hki hF hb1 hb2
  go_enter Tryd.func60, Tryd.ntmps60
  go_wp2_with fail
  refine HR.out.mono ?_
  rintro q0 w1 ⟨g, rfl, h1⟩
  have H1 := Lib.hid h1
  clear h1 HR
  go_wp2_with fail
  refine (HN.out _ _ _ H1.out).mono ?_
  rintro q0 w2 ⟨rfl, h2⟩
  have H2 := Lib.hid h2
  clear h2 HN H1
  go_wp2_with fail
  refine (HV1.out _ _ _ H2.out).mono ?_
  rintro q0 w3 ⟨rfl, h3⟩
  have H3 := Lib.hid h3
  clear h3 HV1 H2
  go_wp2_with fail
  refine (HV2.out _ _ _ H3.out).mono ?_
  rintro q0 w4 ⟨rfl, h4⟩
  have h5 := h4.alloc (.cells #[.int .i64 ki, .int .i64 (wrap64 u), .int .i64 (wrap64 u')] 34)
  have H5 := Lib.hid h5
  have HE := Lib.hid (rend_sep h5.sw2)
  have HC := Lib.hid (res_any ki (wrap64 u) (wrap64 u') (w4.alloc (.cells #[.int .i64 ki, .int .i64 (wrap64 u), .int .i64 (wrap64 u')] 34)))
  obtain ⟨b0, b1, b2⟩ := cells3 h5
  have z := cells3 h5.sw3
  have f := frz5 h5.sw3
  clear h4 h5 HV2 H3
  go_wp2_with fail
  generalize wrap64 (u : Int) = ra at *
  generalize wrap64 (u' : Int) = rb at *
  generalize hwx : w4.alloc (.cells #[.int .i64 ki, .int .i64 ra, .int .i64 rb] 34) = wx at *
  clear hwx
  refine HE.out.mono ?_
  rintro q0 w7 ⟨rfl, rfl⟩
  obtain ⟨z0, z1, z2⟩ := z
  obtain ⟨g0, g1, g2, -, -⟩ := f
  by_cases hee : endErr r3 e3 = 0
  · have hF3 : F = if resB ki ra rb then (((ki : Int), ra, rb), 0) else ((0, 0, 0), 4) := by rw [HF.out, if_pos hee]
    generalize endErr r3 e3 = er at *
    subst hee
    have h6 := H5.out.alloc0 (.cells #[.int .i64 ki, .int .i64 ra, .int .i64 rb] 34)
    obtain ⟨d0, d1, d2⟩ := cells3 h6
    obtain ⟨x0, x1, x2⟩ := cells3 h6.sw3
    obtain ⟨m0, m1, m2, -, -⟩ := frz5 h6.sw3
    cases hok : resB ki ra rb with
    | true =>
      rw [hok] at HC hF3
      have HFF := Lib.hid hF3
      have h9 := store3 (u0 := .int .i64 ki) (u1 := .int .i64 ra) (u2 := .int .i64 rb) h6.sw3
      obtain ⟨y0, y1, y2⟩ := cells3 h9
      have H9 := Lib.hid h9.drop.drop.drop
      clear hok hF3 HF HE h6 h9
      go_wp2_with fail
      refine HC.out.mono ?_
      rintro q0 w8 ⟨rfl, rfl⟩
      unfold okE
      go_wp2_with fail
      exact bodyPost_ret (v := .tuple #[.agg #[.int .i64 ki, .int .i64 ra, .int .i64 rb], .int .i64 0]) (by simp [results, Tryd.results60, go_sem, y0, y1, y2]) rfl ⟨((ki : Int), ra, rb), 0, rfl, HFF.out.symm, H9.out⟩
    | false =>
      rw [hok] at HC hF3
      have HFF := Lib.hid hF3
      have h9 := store3 (u0 := .int .i64 0) (u1 := .int .i64 0) (u2 := .int .i64 0) h6.sw3
      obtain ⟨y0, y1, y2⟩ := cells3 h9
      have H9 := Lib.hid h9.drop.drop.drop
      clear hok hF3 HF HE h6 h9
      go_wp2_with fail
      refine HC.out.mono ?_
      rintro q0 w8 ⟨rfl, rfl⟩
      unfold okE
      go_wp2_with fail
      exact bodyPost_ret (v := .tuple #[.agg #[.int .i64 0, .int .i64 0, .int .i64 0], .int .i64 4]) (by simp [results, Tryd.results60, go_sem, y0, y1, y2]) rfl ⟨(0, 0, 0), 4, rfl, HFF.out.symm, H9.out⟩
  · have hb : (endErr r3 e3 != 0) = true := by rw [bne_iff_ne]; exact hee
    have hFF : F = ((0, 0, 0), endErr r3 e3) := by rw [HF.out, if_neg hee]
    have HFF := Lib.hid hFF
    generalize endErr r3 e3 = er at *
    have h9 := store3 (u0 := .int .i64 0) (u1 := .int .i64 0) (u2 := .int .i64 0) (H5.out.sw3)
    obtain ⟨y0, y1, y2⟩ := cells3 h9
    have H9 := Lib.hid h9.drop.drop.drop
    clear hFF hee HF HC HE h9
    go_wp2_with fail
    exact bodyPost_ret (v := .tuple #[.agg #[.int .i64 0, .int .i64 0, .int .i64 0], .int .i64 er]) (by simp [results, Tryd.results60, go_sem, y0, y1, y2]) rfl ⟨(0, 0, 0), er, rfl, HFF.out.symm, H9.out⟩
end Go.Proofs.YtafkbodmiblbnaaDoor
/- The document's own item: Copy, CheckRes. -/
namespace Go.Proofs.YtafkbodmiblbnaaDoor
open Go.RowKit
set_option linter.unusedVariables false
set_option linter.unusedSimpArgs false
theorem resB_eq (k a b : Int) : resB k a b = (wthB k 0 6 && wthB a 0 2147483647 && wthB b 0 2147483647) := by
  unfold resB wthB
  rw [Bool.eq_iff_iff]
  simp only [decide_eq_true_eq, Bool.and_eq_true]
  omega
end Go.Proofs.YtafkbodmiblbnaaDoor
