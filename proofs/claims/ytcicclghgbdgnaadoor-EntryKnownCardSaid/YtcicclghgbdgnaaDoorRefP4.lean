/- The document's own item: ParseRes; Parse, whatever the kind. -/
import Derived.Test.YtcicclghgbdgnaaDoorRefP2
import Derived.Test.YtcicclghgbdgnaaDoorRefP3
namespace Go.Proofs.YtcicclghgbdgnaaDoor
open Go.RowKit
set_option linter.unusedVariables false
set_option linter.unusedSimpArgs false
theorem rprs2_eq {k : Nat} {r : List UInt8} {e : Int} (hf : fieldsOf k = 2) : rprs2 k r e = prs2 k r e := by
  unfold rprs2 prs2
  refine rprsFin_eq (fun h => ?_) (fun h => ?_)
  · rw [sml_of (rdVe_u64 r e) (.inl (ok_o h hf))]
  · rw [sml_of (rdVe_u64 r e) (.inr (ok_o h hf))]
theorem rprs4_eq {k : Nat} {r : List UInt8} {e : Int} (hf : fieldsOf k = 4) : rprs4 k r e = prs4 k r e := by
  unfold rprs4 prs4
  refine rprsFin_eq (fun h => ?_) (fun h => ?_)
  · rw [sml_of (rdVe_u64 r e) (.inl (ok_n h (.inr hf)))]
  · rw [sml_of (rdVe_u64 r e) (.inr (ok_n h (.inr hf)))]
theorem rprs5_eq {k : Nat} {r : List UInt8} {e : Int} (hf : fieldsOf k = 5) : rprs5 k r e = prs5 k r e := by
  unfold rprs5 prs5
  refine rprsFin_eq (fun h => ?_) (fun h => ?_)
  · rw [sml_of (rdVe_u64 _ _) (.inl (ok_n h (.inl hf)))]
  · rw [sml_of (rdVe_u64 _ _) (.inr (ok_n h (.inl hf)))]
theorem rprs22_eq {k : Nat} {r : List UInt8} {e : Int} (hf : fieldsOf k = 22) : rprs22 k r e = prs22 k r e := by
  unfold rprs22 prs22
  dsimp only
  have h1 := rdVe_u64 r e
  generalize rdVe r e = a at *
  have h2 := rdVe_u64 a.2.1 a.2.2
  generalize rdVe a.2.1 a.2.2 = b at *
  unfold rrdL rdL
  obtain ⟨g1, g2⟩ := rrdLs_eq (min (rdVe b.2.1 b.2.2).1 5) (rdVe b.2.1 b.2.2).2.1 (rdVe b.2.1 b.2.2).2.2
  refine rprsFin_ls g1 fun he => ?_
  obtain ⟨g3, raw, g4, g5, g6⟩ := g2 he
  refine ⟨g3, fun h => ?_, fun h => ?_⟩
  · obtain ⟨q1, q2, q3⟩ := ok_22 h hf
    dsimp only at q1 q2 q3
    rw [g5] at q3 ⊢
    rw [g6, sml_of h1 (.inl q1), sml_of h2 (.inl q2), raw_eq g4 (.inl q3)]
  · obtain ⟨q1, q2, q3⟩ := ok_22 h hf
    dsimp only at q1 q2 q3
    rw [g6] at q3 ⊢
    rw [g5, sml_of h1 (.inr q1), sml_of h2 (.inr q2), raw_eq g4 (.inr q3)]
theorem rparse_any {w0 w : World} {L : List Thing} (v : Value) (l : List UInt8) (h : Sep w0 L w) (hv : Sl w v (bv l)) (hl : l.length ≤ 1000000) :
    Calls Tryd.prog 80 #[v] w fun r w' => ∃ (p : OpM) (err : Int) (u : Value), r = .returned (.tuple #[.agg #[.int .i64 p.k, .string p.s.1, .int .i64 p.o, .int .i64 p.n, u], .int .i64 err]) ∧ (p, err) = prsOp l ∧ Sep w0 (LnR u p.ls :: L) w' := by
  have hc : Calls Tryd.prog 80 #[v] w (RPrs w (prsOp l)) := by
    unfold prsOp
    rcases kind_is (rdNe l 0).1 with ⟨hf, hk⟩ | ⟨hf, hk⟩ | ⟨hf, hk⟩ | ⟨hf, hk⟩ | ⟨hf, hk⟩ | ⟨hf, hk⟩ | ⟨hf, hk⟩
    · have := rparse_5 v l hv hl hk; rw [rprs5_eq hf] at this; simpa [hf] using this
    · have := rparse_9 v l hv hl hk; rw [show rprs9 (rdNe l 0).1 (rdNe l 0).2.1 (rdNe l 0).2.2 = prs9 (rdNe l 0).1 (rdNe l 0).2.1 (rdNe l 0).2.2 from rprsFin_eq (fun _ => rfl) (fun _ => rfl)] at this; simpa [hf] using this
    · have := rparse_22 v l hv hl hk; rw [rprs22_eq hf] at this; simpa [hf] using this
    · have := rparse_2 v l hv hl hk; rw [rprs2_eq hf] at this; simpa [hf] using this
    · have := rparse_4 v l hv hl hk; rw [rprs4_eq hf] at this; simpa [hf] using this
    · have := rparse_1 v l hv hl hk; rw [show rprs1 (rdNe l 0).1 (rdNe l 0).2.1 (rdNe l 0).2.2 = prs1 (rdNe l 0).1 (rdNe l 0).2.1 (rdNe l 0).2.2 from rprsFin_eq (fun _ => rfl) (fun _ => rfl)] at this; simpa [hf] using this
    · have := rparse_0 v l hv hl hk; rw [show rprs0 (rdNe l 0).1 (rdNe l 0).2.1 (rdNe l 0).2.2 = prs0 (rdNe l 0).1 (rdNe l 0).2.1 (rdNe l 0).2.2 from rprsFin_eq (fun _ => rfl) (fun _ => rfl)] at this; simpa [hf] using this
  refine hc.mono ?_
  rintro e w' ⟨p, err, u, rfl, h1, h2⟩
  exact ⟨p, err, u, rfl, h1, h.onto1 h2⟩
end Go.Proofs.YtcicclghgbdgnaaDoor
