/- Package item: ParseRes, where the rest of the package lacks. -/
import Derived.Test.YtjjjkfdppleagaaResB
import Derived.Test.YtjjjkfdppleagaaBkD
namespace Go.Proofs.Ytjjjkfdppleagaa
open Go.RowKit
set_option linter.unusedVariables false
set_option linter.unusedSimpArgs false
def i64w (u : Nat) : Int := IntKind.i64.wrap (u : Int)
theorem rdTe_len (rest : List UInt8) (e : Int) : (rdTe rest e).1.length ≤ rest.length ∧ (rdTe rest e).2.1.length ≤ rest.length := by
  unfold rdTe
  split
  · unfold rdT
    have := rdV_len rest
    split
    · exact ⟨by simp, this⟩
    · split
      · exact ⟨by simp, by simp⟩
      · refine ⟨?_, ?_⟩
        · rw [List.length_take]; omega
        · rw [List.length_drop]; omega
  · exact ⟨by simp, Nat.le_refl _⟩
theorem rdVe_len (rest : List UInt8) (e : Int) : (rdVe rest e).2.1.length ≤ rest.length := by
  unfold rdVe
  split
  · exact rdV_len rest
  · exact Nat.le_refl _
theorem rdVe_u64 (rest : List UInt8) (e : Int) : U64 (rdVe rest e).1 := by
  unfold rdVe
  split
  · exact rdV_u64 rest
  · exact Nat.zero_lt_succ _
theorem i64w_eq (u : Nat) : i64w u = wrap64 (u : Int) := by unfold i64w; exact IntWalk.i64_left _
theorem rdNe_lt (l : List UInt8) (e : Int) : (rdNe l e).1 < 256 := by
  unfold rdNe
  split
  · unfold rdN
    split
    · exact Nat.zero_lt_succ _
    · have := beVal_lt (l.take 1)
      have h2 : (l.take 1).length ≤ 1 := by rw [List.length_take]; omega
      rcases Nat.eq_zero_or_pos (l.take 1).length with h | h
      · rw [h] at this; dsimp only; omega
      · have h3 : (l.take 1).length = 1 := by omega
        rw [h3] at this; dsimp only; omega
  · exact Nat.zero_lt_succ _
theorem rdNe_len (l : List UInt8) (e : Int) : (rdNe l e).2.1.length ≤ l.length := by
  unfold rdNe
  split
  · unfold rdN
    split
    · exact Nat.zero_le _
    · rw [List.length_drop]; omega
  · exact Nat.le_refl _
theorem frz5 {w0 w : World} {b : Nat} {xs : Array Value} {t : TypeId} {L : List Thing} (h : Sep w0 (Cl b xs t :: L) w) :
    (w.frozen? ⟨b, 0, none⟩ = false ∧ w.frozen? ⟨b, 1, none⟩ = false ∧ w.frozen? ⟨b, 2, none⟩ = false ∧ w.frozen? ⟨b, 3, none⟩ = false ∧ w.frozen? ⟨b, 4, none⟩ = false) := by
  have k : ∀ o, w.frozen? ⟨b, o, none⟩ = false := fun o => by unfold World.frozen?; rw [h.blk]; simp
  exact ⟨k 0, k 1, k 2, k 3, k 4⟩
theorem store3 {w0 w : World} {b : Nat} {v0 v1 v2 u0 u1 u2 : Value} {t : TypeId} {L : List Thing} (h : Sep w0 (Cl b #[v0, v1, v2] t :: L) w) :
    Sep w0 (Cl b #[u0, u1, u2] t :: L) (((w.setCell ⟨b, 0, none⟩ u0).setCell ⟨b, 1, none⟩ u1).setCell ⟨b, 2, none⟩ u2) := ((h.setCell 0 _).setCell 1 _).setCell 2 _
/-- What ParseRes answers. -/
def prsRes (l : List UInt8) : (Int × Int × Int) × Int :=
  let a := rdNe l 0
  let b := rdVe a.2.1 a.2.2
  let c := rdVe b.2.1 b.2.2
  if endErr c.2.1 c.2.2 = 0 then (if resB (a.1 : Nat) (i64w b.1) (i64w c.1) then (((a.1 : Nat), i64w b.1, i64w c.1), 0) else ((0, 0, 0), 4)) else ((0, 0, 0), endErr c.2.1 c.2.2)
set_option maxRecDepth 100000 in
set_option maxHeartbeats 8000000 in
theorem parseRes_any {w0 w : World} {L : List Thing} (v : Value) (l : List UInt8) (h : Sep w0 L w) (hv : Sl w v (bv l)) (hl : l.length ≤ 1000000) :
    Calls Try.prog 70 #[v] w fun r w' => ∃ (p : Int × Int × Int) (err : Int), r = .returned (.tuple #[.agg #[.int .i64 p.1, .int .i64 p.2.1, .int .i64 p.2.2], .int .i64 err]) ∧ (p, err) = prsRes l ∧ Sep w0 L w' := by
  have hlt := rdNe_lt l 0
  have h0 := h.alloc (.cells #[.int .i64 0, .int .i64 0, .int .i64 0] 29)
  have hlow : Below w.heap.size w (w.alloc (.cells #[.int .i64 0, .int .i64 0, .int .i64 0] 29)) := (Below.refl _ w).alloc (Nat.le_refl _) _
  have HR := Lib.hid (read_sep v l _ h0 (hv.below hlow) (by omega))
  obtain ⟨ki, hki⟩ : ∃ ki, ki = (rdNe l 0).1 := ⟨_, rfl⟩
  have k0 : (0 : Int) ≤ (ki : Int) := by omega
  have k1 : (ki : Int) ≤ 255 := by omega
  have HN : Hid (∀ wx M g, Sep w0 (RdrT g l 0 :: M) wx → Calls Try.prog 49 #[.pointer (some ⟨g, 0, none⟩), .int .i64 8] wx fun r w' => r = .returned (.int .u64 ki) ∧ Sep w0 (RdrT g (rdNe l 0).2.1 (rdNe l 0).2.2 :: M) w') := Lib.hid fun wx M g hx => by rw [hki]; exact rnum_sep hx
  obtain ⟨F, hF⟩ : ∃ F, F = prsRes l := ⟨_, rfl⟩
  rw [← hF]
  unfold prsRes at hF
  dsimp only at hF
  rw [← hki] at hF
  generalize (rdNe l 0).2.1 = r1 at *
  generalize (rdNe l 0).2.2 = e1 at *
  have hb1 := rdVe_u64 r1 e1
  have HV1 : Hid (∀ wx M g, Sep w0 (RdrT g r1 e1 :: M) wx → Calls Try.prog 68 #[.pointer (some ⟨g, 0, none⟩)] wx fun r w' => r = .returned (.int .u64 (rdVe r1 e1).1) ∧ Sep w0 (RdrT g (rdVe r1 e1).2.1 (rdVe r1 e1).2.2 :: M) w') := Lib.hid fun wx M g hx => rvarint_sep hx
  generalize (rdVe r1 e1).1 = u at *
  generalize (rdVe r1 e1).2.1 = r2 at *
  generalize (rdVe r1 e1).2.2 = e2 at *
  have hb2 := rdVe_u64 r2 e2
  have HV2 : Hid (∀ wx M g, Sep w0 (RdrT g r2 e2 :: M) wx → Calls Try.prog 68 #[.pointer (some ⟨g, 0, none⟩)] wx fun r w' => r = .returned (.int .u64 (rdVe r2 e2).1) ∧ Sep w0 (RdrT g (rdVe r2 e2).2.1 (rdVe r2 e2).2.2 :: M) w') := Lib.hid fun wx M g hx => rvarint_sep hx
  generalize (rdVe r2 e2).1 = u' at *
  generalize (rdVe r2 e2).2.1 = r3 at *
  generalize (rdVe r2 e2).2.2 = e3 at *
  simp only [i64w_eq] at hF
  have HF := Lib.hid hF
  unfold U64 at hb1 hb2
  have a0 : (0 : Int) ≤ (u : Int) := by omega
  have a1 : (u : Int) ≤ 18446744073709551615 := by omega
  have a2 : (0 : Int) ≤ (u' : Int) := by omega
  have a3 : (u' : Int) ≤ 18446744073709551615 := by omega
  clear h hv hl hlt h0 hlow hki hF hb1 hb2
  go_enter Try.func70, Try.ntmps70
  go_wp2_with fail
  refine HR.out.mono ?_
  rintro q0 w1 ⟨g, rfl, h1⟩
  have H1 := Lib.hid h1
  clear h1 HR
  go_wp2_with fail
  refine (HN.out _ _ _ H1.out).mono ?_
  rintro q0 w2 ⟨rfl, h2⟩
  have H2 := Lib.hid h2
  clear h2 HN H1
  go_wp2_with fail
  refine (HV1.out _ _ _ H2.out).mono ?_
  rintro q0 w3 ⟨rfl, h3⟩
  have H3 := Lib.hid h3
  clear h3 HV1 H2
  go_wp2_with fail
  refine (HV2.out _ _ _ H3.out).mono ?_
  rintro q0 w4 ⟨rfl, h4⟩
  have h5 := h4.alloc (.cells #[.int .i64 ki, .int .i64 (wrap64 u), .int .i64 (wrap64 u')] 29)
  have H5 := Lib.hid h5
  have HE := Lib.hid (rend_sep h5.sw2)
  have HC := Lib.hid (res_any ki (wrap64 u) (wrap64 u') (w4.alloc (.cells #[.int .i64 ki, .int .i64 (wrap64 u), .int .i64 (wrap64 u')] 29)))
  obtain ⟨b0, b1, b2⟩ := cells3 h5
  have z := cells3 h5.sw3
  have f := frz5 h5.sw3
  clear h4 h5 HV2 H3
  go_wp2_with fail
  generalize wrap64 (u : Int) = ra at *
  generalize wrap64 (u' : Int) = rb at *
  generalize hwx : w4.alloc (.cells #[.int .i64 ki, .int .i64 ra, .int .i64 rb] 29) = wx at *
  clear hwx
  refine HE.out.mono ?_
  rintro q0 w7 ⟨rfl, rfl⟩
  obtain ⟨z0, z1, z2⟩ := z
  obtain ⟨g0, g1, g2, -, -⟩ := f
  by_cases hee : endErr r3 e3 = 0
  · have hF3 : F = if resB ki ra rb then (((ki : Int), ra, rb), 0) else ((0, 0, 0), 4) := by rw [HF.out, if_pos hee]
    generalize endErr r3 e3 = er at *
    subst hee
    have h6 := H5.out.alloc0 (.cells #[.int .i64 ki, .int .i64 ra, .int .i64 rb] 29)
    obtain ⟨d0, d1, d2⟩ := cells3 h6
    obtain ⟨x0, x1, x2⟩ := cells3 h6.sw3
    obtain ⟨m0, m1, m2, -, -⟩ := frz5 h6.sw3
    cases hok : resB ki ra rb with
    | true =>
      rw [hok] at HC hF3
      have HFF := Lib.hid hF3
      have h9 := store3 (u0 := .int .i64 ki) (u1 := .int .i64 ra) (u2 := .int .i64 rb) h6.sw3
      obtain ⟨y0, y1, y2⟩ := cells3 h9
      have H9 := Lib.hid h9.drop.drop.drop
      clear hok hF3 HF HE h6 h9
      go_wp2_with fail
      refine HC.out.mono ?_
      rintro q0 w8 ⟨rfl, rfl⟩
      unfold okE
      go_wp2_with fail
      exact bodyPost_ret (v := .tuple #[.agg #[.int .i64 ki, .int .i64 ra, .int .i64 rb], .int .i64 0]) (by simp [results, Try.results70, go_sem, y0, y1, y2]) rfl ⟨((ki : Int), ra, rb), 0, rfl, HFF.out.symm, H9.out⟩
    | false =>
      rw [hok] at HC hF3
      have HFF := Lib.hid hF3
      have h9 := store3 (u0 := .int .i64 0) (u1 := .int .i64 0) (u2 := .int .i64 0) h6.sw3
      obtain ⟨y0, y1, y2⟩ := cells3 h9
      have H9 := Lib.hid h9.drop.drop.drop
      clear hok hF3 HF HE h6 h9
      go_wp2_with fail
      refine HC.out.mono ?_
      rintro q0 w8 ⟨rfl, rfl⟩
      unfold okE
      go_wp2_with fail
      exact bodyPost_ret (v := .tuple #[.agg #[.int .i64 0, .int .i64 0, .int .i64 0], .int .i64 4]) (by simp [results, Try.results70, go_sem, y0, y1, y2]) rfl ⟨(0, 0, 0), 4, rfl, HFF.out.symm, H9.out⟩
  · have hb : (endErr r3 e3 != 0) = true := by rw [bne_iff_ne]; exact hee
    have hFF : F = ((0, 0, 0), endErr r3 e3) := by rw [HF.out, if_neg hee]
    have HFF := Lib.hid hFF
    generalize endErr r3 e3 = er at *
    have h9 := store3 (u0 := .int .i64 0) (u1 := .int .i64 0) (u2 := .int .i64 0) (H5.out.sw3)
    obtain ⟨y0, y1, y2⟩ := cells3 h9
    have H9 := Lib.hid h9.drop.drop.drop
    clear hFF hee HF HC HE h9
    go_wp2_with fail
    exact bodyPost_ret (v := .tuple #[.agg #[.int .i64 0, .int .i64 0, .int .i64 0], .int .i64 er]) (by simp [results, Try.results70, go_sem, y0, y1, y2]) rfl ⟨(0, 0, 0), er, rfl, HFF.out.symm, H9.out⟩
theorem rdVe_vint (u : Nat) (l : List UInt8) (h : U64 u) : rdVe (vint u ++ l) 0 = (u, l, 0) := by unfold rdVe; rw [if_pos rfl]; exact rdV_back u l h
theorem rdNe_byte (k : Nat) (l : List UInt8) (h : k < 256) : rdNe ([UInt8.ofNat k] ++ l) 0 = (k, l, 0) := by
  unfold rdNe
  rw [if_pos rfl]
  unfold rdN
  rw [if_neg (by simp)]
  simp [beVal, UInt8.toNat_ofNat']
  omega
theorem i64w_back {n : Int} (h0 : 0 ≤ n) (h1 : n ≤ 9007199254740991) : i64w n.toNat = n := by
  rw [i64w_eq]; unfold wrap64; omega
theorem end_nil : endErr [] 0 = 0 := rfl
theorem prsRes_back {c a b : Int} (h : resB c a b = true) : prsRes (resBs c a b) = ((c, a, b), 0) := by
  have hs := of_decide_eq_true h
  obtain ⟨s0, s1, s2, s3, s4, s5⟩ := hs
  obtain ⟨j, rfl⟩ : ∃ j : Nat, c = j := ⟨c.toNat, by omega⟩
  have hr : resBs j a b = [UInt8.ofNat j] ++ (vint a.toNat ++ (vint b.toNat ++ [])) := by unfold resBs; simp
  unfold prsRes
  rw [hr, rdNe_byte j _ (by omega)]
  dsimp only
  rw [rdVe_vint _ _ (by unfold U64; omega)]
  dsimp only
  rw [rdVe_vint _ _ (by unfold U64; omega)]
  dsimp only
  rw [end_nil, if_pos rfl, i64w_back s2 (by omega), i64w_back s3 (by omega), h]
  rfl
/- What can be read has just these bytes. -/
theorem rdVe_zero {r : List UInt8} {e : Int} (h : (rdVe r e).2.2 = 0) : e = 0 ∧ r = vint (rdVe r e).1 ++ (rdVe r e).2.1 := by
  unfold rdVe at h ⊢
  by_cases he : e = 0
  · rw [if_pos he] at h ⊢
    exact ⟨he, rdV_vint r _ _ (by rw [← h])⟩
  · rw [if_neg he] at h; exact absurd h he
theorem rdTe_zero {r : List UInt8} {e : Int} (h : (rdTe r e).2.2 = 0) : e = 0 ∧ r = (vint (rdTe r e).1.length ++ (rdTe r e).1) ++ (rdTe r e).2.1 := by
  unfold rdTe at h ⊢
  by_cases he : e = 0
  · rw [if_pos he] at h ⊢
    refine ⟨he, ?_⟩
    unfold rdT at h ⊢
    by_cases h1 : (rdV r).2.2 = 0
    · rw [if_neg (by simpa using h1)] at h ⊢
      by_cases h2 : (rdV r).2.1.length < (rdV r).1
      · rw [if_pos h2] at h; simp at h
      · rw [if_neg h2]
        dsimp only
        rw [List.length_take, Nat.min_eq_left (by omega), List.append_assoc, List.take_append_drop]
        exact rdV_vint r _ _ (by rw [← h1])
    · rw [if_pos (by simpa using h1)] at h; exact absurd h h1
  · rw [if_neg he] at h; exact absurd h he
theorem rdNe_zero {r : List UInt8} {e : Int} (h : (rdNe r e).2.2 = 0) : e = 0 ∧ r = [UInt8.ofNat (rdNe r e).1] ++ (rdNe r e).2.1 := by
  unfold rdNe at h ⊢
  by_cases he : e = 0
  · rw [if_pos he] at h ⊢
    refine ⟨he, ?_⟩
    unfold rdN at h ⊢
    by_cases h1 : r.length < 1
    · rw [if_pos h1] at h; simp at h
    · rw [if_neg h1]
      cases r with
      | nil => simp at h1
      | cons c r => simp [beVal]
  · rw [if_neg he] at h; exact absurd h he
theorem rdVe_u {r : List UInt8} {e : Int} (h : 0 ≤ i64w (rdVe r e).1) : (i64w (rdVe r e).1).toNat = (rdVe r e).1 := by
  have := rdVe_u64 r e
  unfold U64 at this
  rw [i64w_eq] at h ⊢
  unfold wrap64 at h ⊢
  omega
theorem endErr_zero {r : List UInt8} {e : Int} (h : endErr r e = 0) : e = 0 ∧ r = [] := by
  unfold endErr at h
  by_cases he : e = 0 ∧ 0 < r.length
  · rw [if_pos he] at h; cases h
  · rw [if_neg he] at h
    refine ⟨h, ?_⟩
    cases r with
    | nil => rfl
    | cons c r => exact absurd ⟨h, by simp⟩ he
theorem prsRes_again (l : List UInt8) : (∃ c a b : Int, prsRes l = ((c, a, b), 0) ∧ resB c a b = true ∧ l = resBs c a b) ∨ ∃ er, prsRes l = ((0, 0, 0), er) ∧ er ≠ 0 := by
  unfold prsRes
  dsimp only
  by_cases h : endErr (rdVe (rdVe (rdNe l 0).2.1 (rdNe l 0).2.2).2.1 (rdVe (rdNe l 0).2.1 (rdNe l 0).2.2).2.2).2.1 (rdVe (rdVe (rdNe l 0).2.1 (rdNe l 0).2.2).2.1 (rdVe (rdNe l 0).2.1 (rdNe l 0).2.2).2.2).2.2 = 0
  · rw [if_pos h]
    obtain ⟨he, hr⟩ := endErr_zero h
    cases hb : resB ((rdNe l 0).1 : Nat) (i64w (rdVe (rdNe l 0).2.1 (rdNe l 0).2.2).1) (i64w (rdVe (rdVe (rdNe l 0).2.1 (rdNe l 0).2.2).2.1 (rdVe (rdNe l 0).2.1 (rdNe l 0).2.2).2.2).1) with
    | true =>
      rw [if_pos rfl]
      refine .inl ⟨_, _, _, rfl, hb, ?_⟩
      have hs := of_decide_eq_true hb
      obtain ⟨a1, a2⟩ := rdVe_zero he
      obtain ⟨b1, b2⟩ := rdVe_zero a1
      obtain ⟨_, c2⟩ := rdNe_zero b1
      rw [hr] at a2
      unfold resBs
      rw [rdVe_u hs.2.2.1, rdVe_u hs.2.2.2.1]
      conv => lhs; rw [c2, b2, a2]
      simp
    | false => exact .inr ⟨4, rfl, by decide⟩
  · rw [if_neg h]; exact .inr ⟨_, rfl, h⟩
end Go.Proofs.Ytjjjkfdppleagaa
