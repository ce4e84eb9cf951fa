/- Package item: Parse. -/
import Derived.IntWalk
import Derived.Test.YtafkbodmiblbnaaDoorMItem8
namespace Go.Proofs.YtafkbodmiblbnaaDoor
open Go.RowKit
set_option linter.unusedVariables false
set_option linter.unusedSimpArgs false
theorem rint_sep {w0 w : World} {L : List Thing} {g : Nat} {rest : List UInt8} {e : Int} (h : Sep w0 (RdrT g rest e :: L) w) :
    Calls Tryd.prog 88 #[.pointer (some ⟨g, 0, none⟩)] w fun r w' => r = .returned (.int .i64 (zag (rdVe rest e).1)) ∧ Sep w0 (RdrT g (rdVe rest e).2.1 (rdVe rest e).2.2 :: L) w' := by
  obtain ⟨F, hr, hk, _⟩ := h.rdr
  exact (rint_any g rest e w hr).mono fun r w' ⟨h1, h2, h3⟩ => ⟨h1, hk _ _ _ h2 h3⟩
def sZ : KS := ⟨⟨#[]⟩, Nat.zero_le _⟩
/-- An op. -/
structure OpM where
  k : Int
  s : KS
  o : Int
  n : Int
  ls : List Ln
def OpM.zero : OpM := ⟨0, sZ, 0, 0, []⟩
def OpM.ok (p : OpM) : Bool := okB p.k p.s p.o p.n p.ls
/-- What Parse answers of what it has read. -/
def prsFin (p : OpM) (rest : List UInt8) (e : Int) : OpM × Int := if endErr rest e = 0 then (if p.ok then (p, 0) else (OpM.zero, 4)) else (OpM.zero, endErr rest e)
theorem i64w_eq (u : Nat) : i64w u = wrap64 (u : Int) := by unfold i64w; exact IntWalk.i64_left _
theorem rdNe_lt (l : List UInt8) (e : Int) : (rdNe l e).1 < 256 := by
  unfold rdNe
  split
  · unfold rdN
    split
    · exact Nat.zero_lt_succ _
    · have := beVal_lt (l.take 1)
      have h2 : (l.take 1).length ≤ 1 := by rw [List.length_take]; omega
      rcases Nat.eq_zero_or_pos (l.take 1).length with h | h
      · rw [h] at this; dsimp only; omega
      · have h3 : (l.take 1).length = 1 := by omega
        rw [h3] at this; dsimp only; omega
  · exact Nat.zero_lt_succ _
def prs0 (k : Nat) (r : List UInt8) (e : Int) : OpM × Int := prsFin ⟨k, sZ, 0, 0, []⟩ r e
def prs2 (k : Nat) (r : List UInt8) (e : Int) : OpM × Int := prsFin ⟨k, sZ, i64w (rdVe r e).1, 0, []⟩ (rdVe r e).2.1 (rdVe r e).2.2
def prs4 (k : Nat) (r : List UInt8) (e : Int) : OpM × Int := prsFin ⟨k, sZ, 0, i64w (rdVe r e).1, []⟩ (rdVe r e).2.1 (rdVe r e).2.2
def prs1 (k : Nat) (r : List UInt8) (e : Int) : OpM × Int := prsFin ⟨k, mkS (rdTe r e).1, 0, 0, []⟩ (rdTe r e).2.1 (rdTe r e).2.2
def prs5 (k : Nat) (r : List UInt8) (e : Int) : OpM × Int := prsFin ⟨k, mkS (rdTe r e).1, 0, i64w (rdVe (rdTe r e).2.1 (rdTe r e).2.2).1, []⟩ (rdVe (rdTe r e).2.1 (rdTe r e).2.2).2.1 (rdVe (rdTe r e).2.1 (rdTe r e).2.2).2.2
def prs9 (k : Nat) (r : List UInt8) (e : Int) : OpM × Int := prsFin ⟨k, mkS (rdTe r e).1, 0, zag (rdVe (rdTe r e).2.1 (rdTe r e).2.2).1, []⟩ (rdVe (rdTe r e).2.1 (rdTe r e).2.2).2.1 (rdVe (rdTe r e).2.1 (rdTe r e).2.2).2.2
def prs22 (k : Nat) (r : List UInt8) (e : Int) : OpM × Int := let a := rdVe r e; let b := rdVe a.2.1 a.2.2; let c := rdL b.2.1 b.2.2; prsFin ⟨k, sZ, i64w a.1, i64w b.1, c.1⟩ c.2.1 c.2.2
theorem rdNe_len (l : List UInt8) (e : Int) : (rdNe l e).2.1.length ≤ l.length := by
  unfold rdNe
  split
  · unfold rdN
    split
    · exact Nat.zero_le _
    · rw [List.length_drop]; omega
  · exact Nat.le_refl _
set_option maxRecDepth 100000 in
set_option maxHeartbeats 16000000 in
theorem parse_0 {w : World} (v : Value) (l : List UInt8) (hv : Sl w v (bv l)) (hk : KindsAt w) (hl : l.length ≤ 1000000) (hf : fieldsOf (rdNe l 0).1 = 0) :
    Calls Tryd.prog 78 #[v] w fun r w' => ∃ (p : OpM) (err : Int) (u : Value), r = .returned (.tuple #[.agg #[.int .i64 p.k, .string p.s.1, .int .i64 p.o, .int .i64 p.n, u], .int .i64 err]) ∧ (p, err) = prs0 (rdNe l 0).1 (rdNe l 0).2.1 (rdNe l 0).2.2 ∧ Sep w [LnR u p.ls] w' := by
  have hlt := rdNe_lt l 0
  have hl1 := rdNe_len l 0
  have h0 := (Sep.start w).alloc (.cells opZ 30)
  have HR := Lib.hid (read_sep v l _ h0 (hv.below h0.low) (by omega))
  have HK : Hid (∀ wx, Below w.heap.size w wx → Calls Tryd.prog 72 #[.int .i64 (rdNe l 0).1] wx fun e w' => e = .returned (.int .i64 0) ∧ wx = w') := Lib.hid fun wx hb => by
    have := fields_any (rdNe l 0).1 wx (hk.below hb)
    rwa [hf] at this
  have HKA := Lib.hid hk
  obtain ⟨ki, hki⟩ : ∃ ki, ki = (rdNe l 0).1 := ⟨_, rfl⟩
  have k0 : (0 : Int) ≤ (ki : Int) := by omega
  have k1 : (ki : Int) ≤ 255 := by omega
  have HN : Hid (∀ wx M g, Sep w (RdrT g l 0 :: M) wx → Calls Tryd.prog 55 #[.pointer (some ⟨g, 0, none⟩), .int .i64 8] wx fun r w' => r = .returned (.int .u64 ki) ∧ Sep w (RdrT g (rdNe l 0).2.1 (rdNe l 0).2.2 :: M) w') := Lib.hid fun wx M g hx => by rw [hki]; exact rnum_sep hx
  rw [← hki] at HK ⊢
  generalize (rdNe l 0).2.1 = r1 at *
  generalize (rdNe l 0).2.2 = e1 at *
  have HLN := Lib.hid (show r1.length ≤ 1000000 by omega)
  unfold opZ at *
  obtain ⟨F, hF⟩ : ∃ F, F = prs0 ki r1 e1 := ⟨_, rfl⟩
  rw [← hF]
  unfold prs0 at hF
  have HF := Lib.hid hF
  clear hv hk hl hf hlt hki h0 hF hl1
  go_enter Tryd.func78, Tryd.ntmps78
  go_wp2_with fail
  refine HR.out.mono ?_
  rintro q0 w1 ⟨g, rfl, h1⟩
  have H1 := Lib.hid h1
  clear h1 HR
  go_wp2_with fail
  refine (HN.out _ _ _ H1.out).mono ?_
  rintro q0 w2 ⟨rfl, h2⟩
  have h3 := h2.alloc (.cells #[.int .i64 ki, .string ⟨#[]⟩, .int .i64 0, .int .i64 0, .slice none 0 0] 30)
  obtain ⟨bo, hbo⟩ : ∃ z, z = w2.heap.size := ⟨_, rfl⟩
  obtain ⟨wo, hwo⟩ : ∃ z, z = w2.alloc (.cells #[.int .i64 ki, .string ⟨#[]⟩, .int .i64 0, .int .i64 0, .slice none 0 0] 30) := ⟨_, rfl⟩
  rw [← hbo, ← hwo] at h3
  obtain ⟨c0, c1, c2, c3, c4⟩ := cells5 h3
  rw [hwo] at c0
  have H3 := Lib.hid h3
  clear h2 h3 HN H1
  go_wp2_with fail
  rw [← hwo, ← hbo]
  clear hwo hbo c0
  refine (HK.out _ H3.out.low).mono ?_
  rintro q0 w4 ⟨rfl, rfl⟩
  clear HK c1 c2 c3 c4
  have hF2 : F = prsFin ⟨ki, sZ, 0, 0, []⟩ r1 e1 := by have := HF.out; simpa only [i64w_eq] using this
  clear HF
  have HF := Lib.hid hF2
  have H6 := Lib.hid H3.out
  have HE := Lib.hid (rend_sep (Sep.sw2 H3.out))
  have HC : Hid (Calls Tryd.prog 71 #[.agg #[.int .i64 ki, .string ⟨#[]⟩, .int .i64 0, .int .i64 0, .slice none 0 0]] wo fun e w' => e = .returned (.int .i64 (if okB ki sZ 0 0 [] then 0 else 2)) ∧ Sep w [Cl bo #[.int .i64 ki, .string ⟨#[]⟩, .int .i64 0, .int .i64 0, .slice none 0 0] 30, RdrT g r1 e1, Cl w.heap.size #[.int .i64 0, .string ⟨#[]⟩, .int .i64 0, .int .i64 0, .slice none 0 0] 30] w') := Lib.hid (check_any ki sZ 0 0 (.slice none 0 0) [] H3.out (.inl ⟨none, 0, rfl, fun _ => rfl, rfl⟩) (HKA.out.below (Sep.low H3.out)))
  have f := frz5 (Sep.sw3 H3.out)
  have z := cells5 (Sep.sw3 H3.out)
  obtain ⟨b0, b1, b2, b3, b4⟩ := cells5 H3.out
  clear hF2
  go_wp2_with fail
  generalize wo = w6 at *
  refine HE.out.mono ?_
  rintro q0 w7 ⟨rfl, rfl⟩
  obtain ⟨g0, g1, g2, g3, g4⟩ := f
  obtain ⟨z0, z1, z2, z3, z4⟩ := z
  by_cases hee : endErr r1 e1 = 0
  · have hb : (endErr r1 e1 != 0) = false := by simp [hee]
    have hF3 : F = if okB ki sZ 0 0 [] then (⟨ki, sZ, 0, 0, []⟩, 0) else (OpM.zero, 4) := by rw [HF.out]; unfold prsFin OpM.ok; rw [if_pos hee]
    generalize endErr r1 e1 = er at *
    subst hee
    cases hok : okB ki sZ 0 0 [] with
    | true =>
      rw [hok] at HC hF3
      have HFF := Lib.hid hF3
      clear hok hF3 HF HE
      go_wp2_with fail
      refine HC.out.mono ?_
      rintro q0 w8 ⟨rfl, h8⟩
      clear b0 b1 b2 b3 b4 g0 g1 g2 g3 g4 z0 z1 z2 z3 z4
      obtain ⟨b0, b1, b2, b3, b4⟩ := cells5 h8
      obtain ⟨g0, g1, g2, g3, g4⟩ := frz5 h8.sw3
      obtain ⟨z0, z1, z2, z3, z4⟩ := cells5 h8.sw3
      have h9 := store5 (u0 := .int .i64 ki) (u1 := .string ⟨#[]⟩) (u2 := .int .i64 0) (u3 := .int .i64 0) (u4 := .slice none 0 0) h8.sw3
      obtain ⟨y0, y1, y2, y3, y4⟩ := cells5 h9
      have H9 := Lib.hid (h9.drop.drop.drop.rnNil 2 117)
      clear h8 h9 HC H6
      go_wp2_with fail
      exact bodyPost_ret (v := .tuple #[.agg #[.int .i64 ki, .string ⟨#[]⟩, .int .i64 0, .int .i64 0, .slice none 0 0], .int .i64 0]) (by simp [results, Tryd.results78, go_sem, y0, y1, y2, y3, y4]) rfl ⟨⟨ki, sZ, 0, 0, []⟩, 0, _, rfl, HFF.out.symm, H9.out⟩
    | false =>
      rw [hok] at HC hF3
      have HFF := Lib.hid hF3
      clear hok hF3 HF HE
      go_wp2_with fail
      refine HC.out.mono ?_
      rintro q0 w8 ⟨rfl, h8⟩
      clear b0 b1 b2 b3 b4 g0 g1 g2 g3 g4 z0 z1 z2 z3 z4
      obtain ⟨g0, g1, g2, g3, g4⟩ := frz5 h8.sw3
      obtain ⟨z0, z1, z2, z3, z4⟩ := cells5 h8.sw3
      have h9 := store5 (u0 := .int .i64 0) (u1 := .string ⟨#[]⟩) (u2 := .int .i64 0) (u3 := .int .i64 0) (u4 := .slice none 0 0) h8.sw3
      obtain ⟨y0, y1, y2, y3, y4⟩ := cells5 h9
      have H9 := Lib.hid (h9.drop.drop.drop.rnNil 2 117)
      clear h8 h9 HC H6
      go_wp2_with fail
      exact bodyPost_ret (v := .tuple #[.agg #[.int .i64 0, .string ⟨#[]⟩, .int .i64 0, .int .i64 0, .slice none 0 0], .int .i64 4]) (by simp [results, Tryd.results78, go_sem, y0, y1, y2, y3, y4]) rfl ⟨OpM.zero, 4, _, rfl, HFF.out.symm, H9.out⟩
  · have hb : (endErr r1 e1 != 0) = true := by rw [bne_iff_ne]; exact hee
    have hFF : F = (OpM.zero, endErr r1 e1) := by rw [HF.out]; unfold prsFin; rw [if_neg hee]
    have h7 := store5 (u0 := .int .i64 0) (u1 := .string ⟨#[]⟩) (u2 := .int .i64 0) (u3 := .int .i64 0) (u4 := .slice none 0 0) (H6.out.sw3)
    obtain ⟨y0, y1, y2, y3, y4⟩ := cells5 h7
    have H7 := Lib.hid (h7.drop.drop.drop.rnNil 2 117)
    have HFF := Lib.hid hFF
    generalize endErr r1 e1 = er at *
    clear h7 hFF hee HF HC HE
    go_wp2_with fail
    exact bodyPost_ret (v := .tuple #[.agg #[.int .i64 0, .string ⟨#[]⟩, .int .i64 0, .int .i64 0, .slice none 0 0], .int .i64 er]) (by simp [results, Tryd.results78, go_sem, y0, y1, y2, y3, y4]) rfl ⟨OpM.zero, er, _, rfl, HFF.out.symm, H7.out⟩
set_option maxRecDepth 100000 in
set_option maxHeartbeats 16000000 in
theorem parse_1 {w : World} (v : Value) (l : List UInt8) (hv : Sl w v (bv l)) (hk : KindsAt w) (hl : l.length ≤ 1000000) (hf : fieldsOf (rdNe l 0).1 = 1) :
    Calls Tryd.prog 78 #[v] w fun r w' => ∃ (p : OpM) (err : Int) (u : Value), r = .returned (.tuple #[.agg #[.int .i64 p.k, .string p.s.1, .int .i64 p.o, .int .i64 p.n, u], .int .i64 err]) ∧ (p, err) = prs1 (rdNe l 0).1 (rdNe l 0).2.1 (rdNe l 0).2.2 ∧ Sep w [LnR u p.ls] w' := by
  have hlt := rdNe_lt l 0
  have hl1 := rdNe_len l 0
  have h0 := (Sep.start w).alloc (.cells opZ 30)
  have HR := Lib.hid (read_sep v l _ h0 (hv.below h0.low) (by omega))
  have HK : Hid (∀ wx, Below w.heap.size w wx → Calls Tryd.prog 72 #[.int .i64 (rdNe l 0).1] wx fun e w' => e = .returned (.int .i64 1) ∧ wx = w') := Lib.hid fun wx hb => by
    have := fields_any (rdNe l 0).1 wx (hk.below hb)
    rwa [hf] at this
  have HKA := Lib.hid hk
  obtain ⟨ki, hki⟩ : ∃ ki, ki = (rdNe l 0).1 := ⟨_, rfl⟩
  have k0 : (0 : Int) ≤ (ki : Int) := by omega
  have k1 : (ki : Int) ≤ 255 := by omega
  have HN : Hid (∀ wx M g, Sep w (RdrT g l 0 :: M) wx → Calls Tryd.prog 55 #[.pointer (some ⟨g, 0, none⟩), .int .i64 8] wx fun r w' => r = .returned (.int .u64 ki) ∧ Sep w (RdrT g (rdNe l 0).2.1 (rdNe l 0).2.2 :: M) w') := Lib.hid fun wx M g hx => by rw [hki]; exact rnum_sep hx
  rw [← hki] at HK ⊢
  generalize (rdNe l 0).2.1 = r1 at *
  generalize (rdNe l 0).2.2 = e1 at *
  have HLN := Lib.hid (show r1.length ≤ 1000000 by omega)
  unfold opZ at *
  obtain ⟨F, hF⟩ : ∃ F, F = prs1 ki r1 e1 := ⟨_, rfl⟩
  rw [← hF]
  unfold prs1 at hF
  have HF := Lib.hid hF
  clear hv hk hl hf hlt hki h0 hF hl1
  go_enter Tryd.func78, Tryd.ntmps78
  go_wp2_with fail
  refine HR.out.mono ?_
  rintro q0 w1 ⟨g, rfl, h1⟩
  have H1 := Lib.hid h1
  clear h1 HR
  go_wp2_with fail
  refine (HN.out _ _ _ H1.out).mono ?_
  rintro q0 w2 ⟨rfl, h2⟩
  have h3 := h2.alloc (.cells #[.int .i64 ki, .string ⟨#[]⟩, .int .i64 0, .int .i64 0, .slice none 0 0] 30)
  obtain ⟨bo, hbo⟩ : ∃ z, z = w2.heap.size := ⟨_, rfl⟩
  obtain ⟨wo, hwo⟩ : ∃ z, z = w2.alloc (.cells #[.int .i64 ki, .string ⟨#[]⟩, .int .i64 0, .int .i64 0, .slice none 0 0] 30) := ⟨_, rfl⟩
  rw [← hbo, ← hwo] at h3
  obtain ⟨c0, c1, c2, c3, c4⟩ := cells5 h3
  rw [hwo] at c0
  have H3 := Lib.hid h3
  clear h2 h3 HN H1
  go_wp2_with fail
  rw [← hwo, ← hbo]
  clear hwo hbo c0
  refine (HK.out _ H3.out.low).mono ?_
  rintro q0 w4 ⟨rfl, rfl⟩
  clear HK c1 c2 c3 c4
  have HV := Lib.hid (rtext_sep (Sep.sw2 H3.out) (by have := HLN.out; omega))
  have htl := rdTe_len r1 e1
  go_wp2_with fail
  refine HV.out.mono ?_
  rintro q0 w10 ⟨vt, rfl, ht⟩
  obtain ⟨at9, ct9, rfl⟩ := ht.sl.len
  rw [bv_length] at ht
  rw [bv_length]
  have hcv := conv_bytes (P := Tryd.prog) Tryd.underlying24 Tryd.underlying5 Tryd.underlying9 ht.sl
  have hs1 := ht.drop
  have hmk := mkS_val (l := (rdTe r1 e1).1) (by have := HLN.out; unfold maxLen; omega)
  have HLN2 := Lib.hid (show (rdTe r1 e1).2.1.length ≤ 1000000 by have := HLN.out; omega)
  rw [← hmk] at hcv
  clear hmk htl HV HLN ht
  generalize mkS (rdTe r1 e1).1 = tx1 at *
  generalize (rdTe r1 e1).2.1 = ra1 at *
  generalize (rdTe r1 e1).2.2 = ea1 at *
  obtain ⟨c0, c1, c2, c3, c4⟩ := cells5 (Sep.sw2 hs1)
  obtain ⟨f0, f1, f2, f3, f4⟩ := frz5 (Sep.sw2 hs1)
  have hz1 : Sep w [Cl bo #[.int .i64 ki, .string tx1.1, .int .i64 0, .int .i64 0, .slice none 0 0] 30, RdrT g ra1 ea1, Cl w.heap.size #[.int .i64 0, .string ⟨#[]⟩, .int .i64 0, .int .i64 0, .slice none 0 0] 30] (w10.setCell ⟨bo, 1, none⟩ (.string tx1.1)) := (Sep.sw2 hs1).setCell 1 _
  have hF2 : F = prsFin ⟨ki, tx1, 0, 0, []⟩ ra1 ea1 := by have := HF.out; simpa only [i64w_eq] using this
  clear HF
  have HF := Lib.hid hF2
  have H6 := Lib.hid hz1
  have HE := Lib.hid (rend_sep (Sep.sw2 hz1))
  have HC : Hid (Calls Tryd.prog 71 #[.agg #[.int .i64 ki, .string tx1.1, .int .i64 0, .int .i64 0, .slice none 0 0]] (w10.setCell ⟨bo, 1, none⟩ (.string tx1.1)) fun e w' => e = .returned (.int .i64 (if okB ki tx1 0 0 [] then 0 else 2)) ∧ Sep w [Cl bo #[.int .i64 ki, .string tx1.1, .int .i64 0, .int .i64 0, .slice none 0 0] 30, RdrT g ra1 ea1, Cl w.heap.size #[.int .i64 0, .string ⟨#[]⟩, .int .i64 0, .int .i64 0, .slice none 0 0] 30] w') := Lib.hid (check_any ki tx1 0 0 (.slice none 0 0) [] hz1 (.inl ⟨none, 0, rfl, fun _ => rfl, rfl⟩) (HKA.out.below (Sep.low hz1)))
  have f := frz5 (Sep.sw3 hz1)
  have z := cells5 (Sep.sw3 hz1)
  obtain ⟨b0, b1, b2, b3, b4⟩ := cells5 hz1
  clear hF2
  go_wp2_with fail
  generalize (w10.setCell ⟨bo, 1, none⟩ (.string tx1.1)) = w6 at *
  refine HE.out.mono ?_
  rintro q0 w7 ⟨rfl, rfl⟩
  obtain ⟨g0, g1, g2, g3, g4⟩ := f
  obtain ⟨z0, z1, z2, z3, z4⟩ := z
  by_cases hee : endErr ra1 ea1 = 0
  · have hb : (endErr ra1 ea1 != 0) = false := by simp [hee]
    have hF3 : F = if okB ki tx1 0 0 [] then (⟨ki, tx1, 0, 0, []⟩, 0) else (OpM.zero, 4) := by rw [HF.out]; unfold prsFin OpM.ok; rw [if_pos hee]
    generalize endErr ra1 ea1 = er at *
    subst hee
    cases hok : okB ki tx1 0 0 [] with
    | true =>
      rw [hok] at HC hF3
      have HFF := Lib.hid hF3
      clear hok hF3 HF HE
      go_wp2_with fail
      refine HC.out.mono ?_
      rintro q0 w8 ⟨rfl, h8⟩
      clear b0 b1 b2 b3 b4 g0 g1 g2 g3 g4 z0 z1 z2 z3 z4
      obtain ⟨b0, b1, b2, b3, b4⟩ := cells5 h8
      obtain ⟨g0, g1, g2, g3, g4⟩ := frz5 h8.sw3
      obtain ⟨z0, z1, z2, z3, z4⟩ := cells5 h8.sw3
      have h9 := store5 (u0 := .int .i64 ki) (u1 := .string tx1.1) (u2 := .int .i64 0) (u3 := .int .i64 0) (u4 := .slice none 0 0) h8.sw3
      obtain ⟨y0, y1, y2, y3, y4⟩ := cells5 h9
      have H9 := Lib.hid (h9.drop.drop.drop.rnNil 2 117)
      clear h8 h9 HC H6
      go_wp2_with fail
      exact bodyPost_ret (v := .tuple #[.agg #[.int .i64 ki, .string tx1.1, .int .i64 0, .int .i64 0, .slice none 0 0], .int .i64 0]) (by simp [results, Tryd.results78, go_sem, y0, y1, y2, y3, y4]) rfl ⟨⟨ki, tx1, 0, 0, []⟩, 0, _, rfl, HFF.out.symm, H9.out⟩
    | false =>
      rw [hok] at HC hF3
      have HFF := Lib.hid hF3
      clear hok hF3 HF HE
      go_wp2_with fail
      refine HC.out.mono ?_
      rintro q0 w8 ⟨rfl, h8⟩
      clear b0 b1 b2 b3 b4 g0 g1 g2 g3 g4 z0 z1 z2 z3 z4
      obtain ⟨g0, g1, g2, g3, g4⟩ := frz5 h8.sw3
      obtain ⟨z0, z1, z2, z3, z4⟩ := cells5 h8.sw3
      have h9 := store5 (u0 := .int .i64 0) (u1 := .string ⟨#[]⟩) (u2 := .int .i64 0) (u3 := .int .i64 0) (u4 := .slice none 0 0) h8.sw3
      obtain ⟨y0, y1, y2, y3, y4⟩ := cells5 h9
      have H9 := Lib.hid (h9.drop.drop.drop.rnNil 2 117)
      clear h8 h9 HC H6
      go_wp2_with fail
      exact bodyPost_ret (v := .tuple #[.agg #[.int .i64 0, .string ⟨#[]⟩, .int .i64 0, .int .i64 0, .slice none 0 0], .int .i64 4]) (by simp [results, Tryd.results78, go_sem, y0, y1, y2, y3, y4]) rfl ⟨OpM.zero, 4, _, rfl, HFF.out.symm, H9.out⟩
  · have hb : (endErr ra1 ea1 != 0) = true := by rw [bne_iff_ne]; exact hee
    have hFF : F = (OpM.zero, endErr ra1 ea1) := by rw [HF.out]; unfold prsFin; rw [if_neg hee]
    have h7 := store5 (u0 := .int .i64 0) (u1 := .string ⟨#[]⟩) (u2 := .int .i64 0) (u3 := .int .i64 0) (u4 := .slice none 0 0) (H6.out.sw3)
    obtain ⟨y0, y1, y2, y3, y4⟩ := cells5 h7
    have H7 := Lib.hid (h7.drop.drop.drop.rnNil 2 117)
    have HFF := Lib.hid hFF
    generalize endErr ra1 ea1 = er at *
    clear h7 hFF hee HF HC HE
    go_wp2_with fail
    exact bodyPost_ret (v := .tuple #[.agg #[.int .i64 0, .string ⟨#[]⟩, .int .i64 0, .int .i64 0, .slice none 0 0], .int .i64 er]) (by simp [results, Tryd.results78, go_sem, y0, y1, y2, y3, y4]) rfl ⟨OpM.zero, er, _, rfl, HFF.out.symm, H7.out⟩
set_option maxRecDepth 100000 in
set_option maxHeartbeats 16000000 in
theorem parse_2 {w : World} (v : Value) (l : List UInt8) (hv : Sl w v (bv l)) (hk : KindsAt w) (hl : l.length ≤ 1000000) (hf : fieldsOf (rdNe l 0).1 = 2) :
    Calls Tryd.prog 78 #[v] w fun r w' => ∃ (p : OpM) (err : Int) (u : Value), r = .returned (.tuple #[.agg #[.int .i64 p.k, .string p.s.1, .int .i64 p.o, .int .i64 p.n, u], .int .i64 err]) ∧ (p, err) = prs2 (rdNe l 0).1 (rdNe l 0).2.1 (rdNe l 0).2.2 ∧ Sep w [LnR u p.ls] w' := by
  have hlt := rdNe_lt l 0
  have hl1 := rdNe_len l 0
  have h0 := (Sep.start w).alloc (.cells opZ 30)
  have HR := Lib.hid (read_sep v l _ h0 (hv.below h0.low) (by omega))
  have HK : Hid (∀ wx, Below w.heap.size w wx → Calls Tryd.prog 72 #[.int .i64 (rdNe l 0).1] wx fun e w' => e = .returned (.int .i64 2) ∧ wx = w') := Lib.hid fun wx hb => by
    have := fields_any (rdNe l 0).1 wx (hk.below hb)
    rwa [hf] at this
  have HKA := Lib.hid hk
  obtain ⟨ki, hki⟩ : ∃ ki, ki = (rdNe l 0).1 := ⟨_, rfl⟩
  have k0 : (0 : Int) ≤ (ki : Int) := by omega
  have k1 : (ki : Int) ≤ 255 := by omega
  have HN : Hid (∀ wx M g, Sep w (RdrT g l 0 :: M) wx → Calls Tryd.prog 55 #[.pointer (some ⟨g, 0, none⟩), .int .i64 8] wx fun r w' => r = .returned (.int .u64 ki) ∧ Sep w (RdrT g (rdNe l 0).2.1 (rdNe l 0).2.2 :: M) w') := Lib.hid fun wx M g hx => by rw [hki]; exact rnum_sep hx
  rw [← hki] at HK ⊢
  generalize (rdNe l 0).2.1 = r1 at *
  generalize (rdNe l 0).2.2 = e1 at *
  have HLN := Lib.hid (show r1.length ≤ 1000000 by omega)
  unfold opZ at *
  obtain ⟨F, hF⟩ : ∃ F, F = prs2 ki r1 e1 := ⟨_, rfl⟩
  rw [← hF]
  unfold prs2 at hF
  have HF := Lib.hid hF
  clear hv hk hl hf hlt hki h0 hF hl1
  go_enter Tryd.func78, Tryd.ntmps78
  go_wp2_with fail
  refine HR.out.mono ?_
  rintro q0 w1 ⟨g, rfl, h1⟩
  have H1 := Lib.hid h1
  clear h1 HR
  go_wp2_with fail
  refine (HN.out _ _ _ H1.out).mono ?_
  rintro q0 w2 ⟨rfl, h2⟩
  have h3 := h2.alloc (.cells #[.int .i64 ki, .string ⟨#[]⟩, .int .i64 0, .int .i64 0, .slice none 0 0] 30)
  obtain ⟨bo, hbo⟩ : ∃ z, z = w2.heap.size := ⟨_, rfl⟩
  obtain ⟨wo, hwo⟩ : ∃ z, z = w2.alloc (.cells #[.int .i64 ki, .string ⟨#[]⟩, .int .i64 0, .int .i64 0, .slice none 0 0] 30) := ⟨_, rfl⟩
  rw [← hbo, ← hwo] at h3
  obtain ⟨c0, c1, c2, c3, c4⟩ := cells5 h3
  rw [hwo] at c0
  have H3 := Lib.hid h3
  clear h2 h3 HN H1
  go_wp2_with fail
  rw [← hwo, ← hbo]
  clear hwo hbo c0
  refine (HK.out _ H3.out.low).mono ?_
  rintro q0 w4 ⟨rfl, rfl⟩
  clear HK c1 c2 c3 c4
  have HV := Lib.hid (rvarint_sep (Sep.sw2 H3.out))
  go_wp2_with fail
  refine HV.out.mono ?_
  rintro q0 w20 ⟨rfl, hs2⟩
  have hu2 := rdVe_u64 r1 e1
  generalize (rdVe r1 e1).1 = u2 at *
  generalize (rdVe r1 e1).2.1 = ra2 at *
  generalize (rdVe r1 e1).2.2 = ea2 at *
  unfold U64 at hu2
  have ua2 : (0 : Int) ≤ (u2 : Int) := by omega
  have ub2 : (u2 : Int) ≤ 18446744073709551615 := by omega
  clear hu2 HV
  obtain ⟨c0, c1, c2, c3, c4⟩ := cells5 (Sep.sw2 hs2)
  obtain ⟨f0, f1, f2, f3, f4⟩ := frz5 (Sep.sw2 hs2)
  have hz2 : Sep w [Cl bo #[.int .i64 ki, .string ⟨#[]⟩, .int .i64 (wrap64 u2), .int .i64 0, .slice none 0 0] 30, RdrT g ra2 ea2, Cl w.heap.size #[.int .i64 0, .string ⟨#[]⟩, .int .i64 0, .int .i64 0, .slice none 0 0] 30] (w20.setCell ⟨bo, 2, none⟩ (.int .i64 (wrap64 u2))) := (Sep.sw2 hs2).setCell 2 _
  have hF2 : F = prsFin ⟨ki, sZ, (wrap64 u2), 0, []⟩ ra2 ea2 := by have := HF.out; simpa only [i64w_eq] using this
  clear HF
  have HF := Lib.hid hF2
  have H6 := Lib.hid hz2
  have HE := Lib.hid (rend_sep (Sep.sw2 hz2))
  have HC : Hid (Calls Tryd.prog 71 #[.agg #[.int .i64 ki, .string ⟨#[]⟩, .int .i64 (wrap64 u2), .int .i64 0, .slice none 0 0]] (w20.setCell ⟨bo, 2, none⟩ (.int .i64 (wrap64 u2))) fun e w' => e = .returned (.int .i64 (if okB ki sZ (wrap64 u2) 0 [] then 0 else 2)) ∧ Sep w [Cl bo #[.int .i64 ki, .string ⟨#[]⟩, .int .i64 (wrap64 u2), .int .i64 0, .slice none 0 0] 30, RdrT g ra2 ea2, Cl w.heap.size #[.int .i64 0, .string ⟨#[]⟩, .int .i64 0, .int .i64 0, .slice none 0 0] 30] w') := Lib.hid (check_any ki sZ (wrap64 u2) 0 (.slice none 0 0) [] hz2 (.inl ⟨none, 0, rfl, fun _ => rfl, rfl⟩) (HKA.out.below (Sep.low hz2)))
  have f := frz5 (Sep.sw3 hz2)
  have z := cells5 (Sep.sw3 hz2)
  obtain ⟨b0, b1, b2, b3, b4⟩ := cells5 hz2
  clear hF2
  go_wp2_with fail
  generalize (w20.setCell ⟨bo, 2, none⟩ (.int .i64 (wrap64 u2))) = w6 at *
  refine HE.out.mono ?_
  rintro q0 w7 ⟨rfl, rfl⟩
  obtain ⟨g0, g1, g2, g3, g4⟩ := f
  obtain ⟨z0, z1, z2, z3, z4⟩ := z
  by_cases hee : endErr ra2 ea2 = 0
  · have hb : (endErr ra2 ea2 != 0) = false := by simp [hee]
    have hF3 : F = if okB ki sZ (wrap64 u2) 0 [] then (⟨ki, sZ, (wrap64 u2), 0, []⟩, 0) else (OpM.zero, 4) := by rw [HF.out]; unfold prsFin OpM.ok; rw [if_pos hee]
    generalize endErr ra2 ea2 = er at *
    subst hee
    cases hok : okB ki sZ (wrap64 u2) 0 [] with
    | true =>
      rw [hok] at HC hF3
      have HFF := Lib.hid hF3
      clear hok hF3 HF HE
      go_wp2_with fail
      refine HC.out.mono ?_
      rintro q0 w8 ⟨rfl, h8⟩
      clear b0 b1 b2 b3 b4 g0 g1 g2 g3 g4 z0 z1 z2 z3 z4
      obtain ⟨b0, b1, b2, b3, b4⟩ := cells5 h8
      obtain ⟨g0, g1, g2, g3, g4⟩ := frz5 h8.sw3
      obtain ⟨z0, z1, z2, z3, z4⟩ := cells5 h8.sw3
      have h9 := store5 (u0 := .int .i64 ki) (u1 := .string ⟨#[]⟩) (u2 := .int .i64 (wrap64 u2)) (u3 := .int .i64 0) (u4 := .slice none 0 0) h8.sw3
      obtain ⟨y0, y1, y2, y3, y4⟩ := cells5 h9
      have H9 := Lib.hid (h9.drop.drop.drop.rnNil 2 117)
      clear h8 h9 HC H6
      go_wp2_with fail
      exact bodyPost_ret (v := .tuple #[.agg #[.int .i64 ki, .string ⟨#[]⟩, .int .i64 (wrap64 u2), .int .i64 0, .slice none 0 0], .int .i64 0]) (by simp [results, Tryd.results78, go_sem, y0, y1, y2, y3, y4]) rfl ⟨⟨ki, sZ, (wrap64 u2), 0, []⟩, 0, _, rfl, HFF.out.symm, H9.out⟩
    | false =>
      rw [hok] at HC hF3
      have HFF := Lib.hid hF3
      clear hok hF3 HF HE
      go_wp2_with fail
      refine HC.out.mono ?_
      rintro q0 w8 ⟨rfl, h8⟩
      clear b0 b1 b2 b3 b4 g0 g1 g2 g3 g4 z0 z1 z2 z3 z4
      obtain ⟨g0, g1, g2, g3, g4⟩ := frz5 h8.sw3
      obtain ⟨z0, z1, z2, z3, z4⟩ := cells5 h8.sw3
      have h9 := store5 (u0 := .int .i64 0) (u1 := .string ⟨#[]⟩) (u2 := .int .i64 0) (u3 := .int .i64 0) (u4 := .slice none 0 0) h8.sw3
      obtain ⟨y0, y1, y2, y3, y4⟩ := cells5 h9
      have H9 := Lib.hid (h9.drop.drop.drop.rnNil 2 117)
      clear h8 h9 HC H6
      go_wp2_with fail
      exact bodyPost_ret (v := .tuple #[.agg #[.int .i64 0, .string ⟨#[]⟩, .int .i64 0, .int .i64 0, .slice none 0 0], .int .i64 4]) (by simp [results, Tryd.results78, go_sem, y0, y1, y2, y3, y4]) rfl ⟨OpM.zero, 4, _, rfl, HFF.out.symm, H9.out⟩
  · have hb : (endErr ra2 ea2 != 0) = true := by rw [bne_iff_ne]; exact hee
    have hFF : F = (OpM.zero, endErr ra2 ea2) := by rw [HF.out]; unfold prsFin; rw [if_neg hee]
    have h7 := store5 (u0 := .int .i64 0) (u1 := .string ⟨#[]⟩) (u2 := .int .i64 0) (u3 := .int .i64 0) (u4 := .slice none 0 0) (H6.out.sw3)
    obtain ⟨y0, y1, y2, y3, y4⟩ := cells5 h7
    have H7 := Lib.hid (h7.drop.drop.drop.rnNil 2 117)
    have HFF := Lib.hid hFF
    generalize endErr ra2 ea2 = er at *
    clear h7 hFF hee HF HC HE
    go_wp2_with fail
    exact bodyPost_ret (v := .tuple #[.agg #[.int .i64 0, .string ⟨#[]⟩, .int .i64 0, .int .i64 0, .slice none 0 0], .int .i64 er]) (by simp [results, Tryd.results78, go_sem, y0, y1, y2, y3, y4]) rfl ⟨OpM.zero, er, _, rfl, HFF.out.symm, H7.out⟩
set_option maxRecDepth 100000 in
set_option maxHeartbeats 16000000 in
theorem parse_4 {w : World} (v : Value) (l : List UInt8) (hv : Sl w v (bv l)) (hk : KindsAt w) (hl : l.length ≤ 1000000) (hf : fieldsOf (rdNe l 0).1 = 4) :
    Calls Tryd.prog 78 #[v] w fun r w' => ∃ (p : OpM) (err : Int) (u : Value), r = .returned (.tuple #[.agg #[.int .i64 p.k, .string p.s.1, .int .i64 p.o, .int .i64 p.n, u], .int .i64 err]) ∧ (p, err) = prs4 (rdNe l 0).1 (rdNe l 0).2.1 (rdNe l 0).2.2 ∧ Sep w [LnR u p.ls] w' := by
  have hlt := rdNe_lt l 0
  have hl1 := rdNe_len l 0
  have h0 := (Sep.start w).alloc (.cells opZ 30)
  have HR := Lib.hid (read_sep v l _ h0 (hv.below h0.low) (by omega))
  have HK : Hid (∀ wx, Below w.heap.size w wx → Calls Tryd.prog 72 #[.int .i64 (rdNe l 0).1] wx fun e w' => e = .returned (.int .i64 4) ∧ wx = w') := Lib.hid fun wx hb => by
    have := fields_any (rdNe l 0).1 wx (hk.below hb)
    rwa [hf] at this
  have HKA := Lib.hid hk
  obtain ⟨ki, hki⟩ : ∃ ki, ki = (rdNe l 0).1 := ⟨_, rfl⟩
  have k0 : (0 : Int) ≤ (ki : Int) := by omega
  have k1 : (ki : Int) ≤ 255 := by omega
  have HN : Hid (∀ wx M g, Sep w (RdrT g l 0 :: M) wx → Calls Tryd.prog 55 #[.pointer (some ⟨g, 0, none⟩), .int .i64 8] wx fun r w' => r = .returned (.int .u64 ki) ∧ Sep w (RdrT g (rdNe l 0).2.1 (rdNe l 0).2.2 :: M) w') := Lib.hid fun wx M g hx => by rw [hki]; exact rnum_sep hx
  rw [← hki] at HK ⊢
  generalize (rdNe l 0).2.1 = r1 at *
  generalize (rdNe l 0).2.2 = e1 at *
  have HLN := Lib.hid (show r1.length ≤ 1000000 by omega)
  unfold opZ at *
  obtain ⟨F, hF⟩ : ∃ F, F = prs4 ki r1 e1 := ⟨_, rfl⟩
  rw [← hF]
  unfold prs4 at hF
  have HF := Lib.hid hF
  clear hv hk hl hf hlt hki h0 hF hl1
  go_enter Tryd.func78, Tryd.ntmps78
  go_wp2_with fail
  refine HR.out.mono ?_
  rintro q0 w1 ⟨g, rfl, h1⟩
  have H1 := Lib.hid h1
  clear h1 HR
  go_wp2_with fail
  refine (HN.out _ _ _ H1.out).mono ?_
  rintro q0 w2 ⟨rfl, h2⟩
  have h3 := h2.alloc (.cells #[.int .i64 ki, .string ⟨#[]⟩, .int .i64 0, .int .i64 0, .slice none 0 0] 30)
  obtain ⟨bo, hbo⟩ : ∃ z, z = w2.heap.size := ⟨_, rfl⟩
  obtain ⟨wo, hwo⟩ : ∃ z, z = w2.alloc (.cells #[.int .i64 ki, .string ⟨#[]⟩, .int .i64 0, .int .i64 0, .slice none 0 0] 30) := ⟨_, rfl⟩
  rw [← hbo, ← hwo] at h3
  obtain ⟨c0, c1, c2, c3, c4⟩ := cells5 h3
  rw [hwo] at c0
  have H3 := Lib.hid h3
  clear h2 h3 HN H1
  go_wp2_with fail
  rw [← hwo, ← hbo]
  clear hwo hbo c0
  refine (HK.out _ H3.out.low).mono ?_
  rintro q0 w4 ⟨rfl, rfl⟩
  clear HK c1 c2 c3 c4
  have HV := Lib.hid (rvarint_sep (Sep.sw2 H3.out))
  go_wp2_with fail
  refine HV.out.mono ?_
  rintro q0 w30 ⟨rfl, hs3⟩
  have hu3 := rdVe_u64 r1 e1
  generalize (rdVe r1 e1).1 = u3 at *
  generalize (rdVe r1 e1).2.1 = ra3 at *
  generalize (rdVe r1 e1).2.2 = ea3 at *
  unfold U64 at hu3
  have ua3 : (0 : Int) ≤ (u3 : Int) := by omega
  have ub3 : (u3 : Int) ≤ 18446744073709551615 := by omega
  clear hu3 HV
  obtain ⟨c0, c1, c2, c3, c4⟩ := cells5 (Sep.sw2 hs3)
  obtain ⟨f0, f1, f2, f3, f4⟩ := frz5 (Sep.sw2 hs3)
  have hz3 : Sep w [Cl bo #[.int .i64 ki, .string ⟨#[]⟩, .int .i64 0, .int .i64 (wrap64 u3), .slice none 0 0] 30, RdrT g ra3 ea3, Cl w.heap.size #[.int .i64 0, .string ⟨#[]⟩, .int .i64 0, .int .i64 0, .slice none 0 0] 30] (w30.setCell ⟨bo, 3, none⟩ (.int .i64 (wrap64 u3))) := (Sep.sw2 hs3).setCell 3 _
  have hF2 : F = prsFin ⟨ki, sZ, 0, (wrap64 u3), []⟩ ra3 ea3 := by have := HF.out; simpa only [i64w_eq] using this
  clear HF
  have HF := Lib.hid hF2
  have H6 := Lib.hid hz3
  have HE := Lib.hid (rend_sep (Sep.sw2 hz3))
  have HC : Hid (Calls Tryd.prog 71 #[.agg #[.int .i64 ki, .string ⟨#[]⟩, .int .i64 0, .int .i64 (wrap64 u3), .slice none 0 0]] (w30.setCell ⟨bo, 3, none⟩ (.int .i64 (wrap64 u3))) fun e w' => e = .returned (.int .i64 (if okB ki sZ 0 (wrap64 u3) [] then 0 else 2)) ∧ Sep w [Cl bo #[.int .i64 ki, .string ⟨#[]⟩, .int .i64 0, .int .i64 (wrap64 u3), .slice none 0 0] 30, RdrT g ra3 ea3, Cl w.heap.size #[.int .i64 0, .string ⟨#[]⟩, .int .i64 0, .int .i64 0, .slice none 0 0] 30] w') := Lib.hid (check_any ki sZ 0 (wrap64 u3) (.slice none 0 0) [] hz3 (.inl ⟨none, 0, rfl, fun _ => rfl, rfl⟩) (HKA.out.below (Sep.low hz3)))
  have f := frz5 (Sep.sw3 hz3)
  have z := cells5 (Sep.sw3 hz3)
  obtain ⟨b0, b1, b2, b3, b4⟩ := cells5 hz3
  clear hF2
  go_wp2_with fail
  generalize (w30.setCell ⟨bo, 3, none⟩ (.int .i64 (wrap64 u3))) = w6 at *
  refine HE.out.mono ?_
  rintro q0 w7 ⟨rfl, rfl⟩
  obtain ⟨g0, g1, g2, g3, g4⟩ := f
  obtain ⟨z0, z1, z2, z3, z4⟩ := z
  by_cases hee : endErr ra3 ea3 = 0
  · have hb : (endErr ra3 ea3 != 0) = false := by simp [hee]
    have hF3 : F = if okB ki sZ 0 (wrap64 u3) [] then (⟨ki, sZ, 0, (wrap64 u3), []⟩, 0) else (OpM.zero, 4) := by rw [HF.out]; unfold prsFin OpM.ok; rw [if_pos hee]
    generalize endErr ra3 ea3 = er at *
    subst hee
    cases hok : okB ki sZ 0 (wrap64 u3) [] with
    | true =>
      rw [hok] at HC hF3
      have HFF := Lib.hid hF3
      clear hok hF3 HF HE
      go_wp2_with fail
      refine HC.out.mono ?_
      rintro q0 w8 ⟨rfl, h8⟩
      clear b0 b1 b2 b3 b4 g0 g1 g2 g3 g4 z0 z1 z2 z3 z4
      obtain ⟨b0, b1, b2, b3, b4⟩ := cells5 h8
      obtain ⟨g0, g1, g2, g3, g4⟩ := frz5 h8.sw3
      obtain ⟨z0, z1, z2, z3, z4⟩ := cells5 h8.sw3
      have h9 := store5 (u0 := .int .i64 ki) (u1 := .string ⟨#[]⟩) (u2 := .int .i64 0) (u3 := .int .i64 (wrap64 u3)) (u4 := .slice none 0 0) h8.sw3
      obtain ⟨y0, y1, y2, y3, y4⟩ := cells5 h9
      have H9 := Lib.hid (h9.drop.drop.drop.rnNil 2 117)
      clear h8 h9 HC H6
      go_wp2_with fail
      exact bodyPost_ret (v := .tuple #[.agg #[.int .i64 ki, .string ⟨#[]⟩, .int .i64 0, .int .i64 (wrap64 u3), .slice none 0 0], .int .i64 0]) (by simp [results, Tryd.results78, go_sem, y0, y1, y2, y3, y4]) rfl ⟨⟨ki, sZ, 0, (wrap64 u3), []⟩, 0, _, rfl, HFF.out.symm, H9.out⟩
    | false =>
      rw [hok] at HC hF3
      have HFF := Lib.hid hF3
      clear hok hF3 HF HE
      go_wp2_with fail
      refine HC.out.mono ?_
      rintro q0 w8 ⟨rfl, h8⟩
      clear b0 b1 b2 b3 b4 g0 g1 g2 g3 g4 z0 z1 z2 z3 z4
      obtain ⟨g0, g1, g2, g3, g4⟩ := frz5 h8.sw3
      obtain ⟨z0, z1, z2, z3, z4⟩ := cells5 h8.sw3
      have h9 := store5 (u0 := .int .i64 0) (u1 := .string ⟨#[]⟩) (u2 := .int .i64 0) (u3 := .int .i64 0) (u4 := .slice none 0 0) h8.sw3
      obtain ⟨y0, y1, y2, y3, y4⟩ := cells5 h9
      have H9 := Lib.hid (h9.drop.drop.drop.rnNil 2 117)
      clear h8 h9 HC H6
      go_wp2_with fail
      exact bodyPost_ret (v := .tuple #[.agg #[.int .i64 0, .string ⟨#[]⟩, .int .i64 0, .int .i64 0, .slice none 0 0], .int .i64 4]) (by simp [results, Tryd.results78, go_sem, y0, y1, y2, y3, y4]) rfl ⟨OpM.zero, 4, _, rfl, HFF.out.symm, H9.out⟩
  · have hb : (endErr ra3 ea3 != 0) = true := by rw [bne_iff_ne]; exact hee
    have hFF : F = (OpM.zero, endErr ra3 ea3) := by rw [HF.out]; unfold prsFin; rw [if_neg hee]
    have h7 := store5 (u0 := .int .i64 0) (u1 := .string ⟨#[]⟩) (u2 := .int .i64 0) (u3 := .int .i64 0) (u4 := .slice none 0 0) (H6.out.sw3)
    obtain ⟨y0, y1, y2, y3, y4⟩ := cells5 h7
    have H7 := Lib.hid (h7.drop.drop.drop.rnNil 2 117)
    have HFF := Lib.hid hFF
    generalize endErr ra3 ea3 = er at *
    clear h7 hFF hee HF HC HE
    go_wp2_with fail
    exact bodyPost_ret (v := .tuple #[.agg #[.int .i64 0, .string ⟨#[]⟩, .int .i64 0, .int .i64 0, .slice none 0 0], .int .i64 er]) (by simp [results, Tryd.results78, go_sem, y0, y1, y2, y3, y4]) rfl ⟨OpM.zero, er, _, rfl, HFF.out.symm, H7.out⟩
set_option maxRecDepth 100000 in
set_option maxHeartbeats 16000000 in
theorem parse_5 {w : World} (v : Value) (l : List UInt8) (hv : Sl w v (bv l)) (hk : KindsAt w) (hl : l.length ≤ 1000000) (hf : fieldsOf (rdNe l 0).1 = 5) :
    Calls Tryd.prog 78 #[v] w fun r w' => ∃ (p : OpM) (err : Int) (u : Value), r = .returned (.tuple #[.agg #[.int .i64 p.k, .string p.s.1, .int .i64 p.o, .int .i64 p.n, u], .int .i64 err]) ∧ (p, err) = prs5 (rdNe l 0).1 (rdNe l 0).2.1 (rdNe l 0).2.2 ∧ Sep w [LnR u p.ls] w' := by
  have hlt := rdNe_lt l 0
  have hl1 := rdNe_len l 0
  have h0 := (Sep.start w).alloc (.cells opZ 30)
  have HR := Lib.hid (read_sep v l _ h0 (hv.below h0.low) (by omega))
  have HK : Hid (∀ wx, Below w.heap.size w wx → Calls Tryd.prog 72 #[.int .i64 (rdNe l 0).1] wx fun e w' => e = .returned (.int .i64 5) ∧ wx = w') := Lib.hid fun wx hb => by
    have := fields_any (rdNe l 0).1 wx (hk.below hb)
    rwa [hf] at this
  have HKA := Lib.hid hk
  obtain ⟨ki, hki⟩ : ∃ ki, ki = (rdNe l 0).1 := ⟨_, rfl⟩
  have k0 : (0 : Int) ≤ (ki : Int) := by omega
  have k1 : (ki : Int) ≤ 255 := by omega
  have HN : Hid (∀ wx M g, Sep w (RdrT g l 0 :: M) wx → Calls Tryd.prog 55 #[.pointer (some ⟨g, 0, none⟩), .int .i64 8] wx fun r w' => r = .returned (.int .u64 ki) ∧ Sep w (RdrT g (rdNe l 0).2.1 (rdNe l 0).2.2 :: M) w') := Lib.hid fun wx M g hx => by rw [hki]; exact rnum_sep hx
  rw [← hki] at HK ⊢
  generalize (rdNe l 0).2.1 = r1 at *
  generalize (rdNe l 0).2.2 = e1 at *
  have HLN := Lib.hid (show r1.length ≤ 1000000 by omega)
  unfold opZ at *
  obtain ⟨F, hF⟩ : ∃ F, F = prs5 ki r1 e1 := ⟨_, rfl⟩
  rw [← hF]
  unfold prs5 at hF
  have HF := Lib.hid hF
  clear hv hk hl hf hlt hki h0 hF hl1
  go_enter Tryd.func78, Tryd.ntmps78
  go_wp2_with fail
  refine HR.out.mono ?_
  rintro q0 w1 ⟨g, rfl, h1⟩
  have H1 := Lib.hid h1
  clear h1 HR
  go_wp2_with fail
  refine (HN.out _ _ _ H1.out).mono ?_
  rintro q0 w2 ⟨rfl, h2⟩
  have h3 := h2.alloc (.cells #[.int .i64 ki, .string ⟨#[]⟩, .int .i64 0, .int .i64 0, .slice none 0 0] 30)
  obtain ⟨bo, hbo⟩ : ∃ z, z = w2.heap.size := ⟨_, rfl⟩
  obtain ⟨wo, hwo⟩ : ∃ z, z = w2.alloc (.cells #[.int .i64 ki, .string ⟨#[]⟩, .int .i64 0, .int .i64 0, .slice none 0 0] 30) := ⟨_, rfl⟩
  rw [← hbo, ← hwo] at h3
  obtain ⟨c0, c1, c2, c3, c4⟩ := cells5 h3
  rw [hwo] at c0
  have H3 := Lib.hid h3
  clear h2 h3 HN H1
  go_wp2_with fail
  rw [← hwo, ← hbo]
  clear hwo hbo c0
  refine (HK.out _ H3.out.low).mono ?_
  rintro q0 w4 ⟨rfl, rfl⟩
  clear HK c1 c2 c3 c4
  have HV := Lib.hid (rtext_sep (Sep.sw2 H3.out) (by have := HLN.out; omega))
  have htl := rdTe_len r1 e1
  go_wp2_with fail
  refine HV.out.mono ?_
  rintro q0 w10 ⟨vt, rfl, ht⟩
  obtain ⟨at9, ct9, rfl⟩ := ht.sl.len
  rw [bv_length] at ht
  rw [bv_length]
  have hcv := conv_bytes (P := Tryd.prog) Tryd.underlying24 Tryd.underlying5 Tryd.underlying9 ht.sl
  have hs1 := ht.drop
  have hmk := mkS_val (l := (rdTe r1 e1).1) (by have := HLN.out; unfold maxLen; omega)
  have HLN2 := Lib.hid (show (rdTe r1 e1).2.1.length ≤ 1000000 by have := HLN.out; omega)
  rw [← hmk] at hcv
  clear hmk htl HV HLN ht
  generalize mkS (rdTe r1 e1).1 = tx1 at *
  generalize (rdTe r1 e1).2.1 = ra1 at *
  generalize (rdTe r1 e1).2.2 = ea1 at *
  obtain ⟨c0, c1, c2, c3, c4⟩ := cells5 (Sep.sw2 hs1)
  obtain ⟨f0, f1, f2, f3, f4⟩ := frz5 (Sep.sw2 hs1)
  have hz1 : Sep w [Cl bo #[.int .i64 ki, .string tx1.1, .int .i64 0, .int .i64 0, .slice none 0 0] 30, RdrT g ra1 ea1, Cl w.heap.size #[.int .i64 0, .string ⟨#[]⟩, .int .i64 0, .int .i64 0, .slice none 0 0] 30] (w10.setCell ⟨bo, 1, none⟩ (.string tx1.1)) := (Sep.sw2 hs1).setCell 1 _
  have HV := Lib.hid (rvarint_sep (Sep.sw2 hz1))
  clear hs1
  go_wp2_with fail
  refine HV.out.mono ?_
  rintro q0 w30 ⟨rfl, hs3⟩
  have hu3 := rdVe_u64 ra1 ea1
  generalize (rdVe ra1 ea1).1 = u3 at *
  generalize (rdVe ra1 ea1).2.1 = ra3 at *
  generalize (rdVe ra1 ea1).2.2 = ea3 at *
  unfold U64 at hu3
  have ua3 : (0 : Int) ≤ (u3 : Int) := by omega
  have ub3 : (u3 : Int) ≤ 18446744073709551615 := by omega
  clear hu3 HV
  obtain ⟨c0, c1, c2, c3, c4⟩ := cells5 (Sep.sw2 hs3)
  obtain ⟨f0, f1, f2, f3, f4⟩ := frz5 (Sep.sw2 hs3)
  have hz3 : Sep w [Cl bo #[.int .i64 ki, .string tx1.1, .int .i64 0, .int .i64 (wrap64 u3), .slice none 0 0] 30, RdrT g ra3 ea3, Cl w.heap.size #[.int .i64 0, .string ⟨#[]⟩, .int .i64 0, .int .i64 0, .slice none 0 0] 30] (w30.setCell ⟨bo, 3, none⟩ (.int .i64 (wrap64 u3))) := (Sep.sw2 hs3).setCell 3 _
  have hF2 : F = prsFin ⟨ki, tx1, 0, (wrap64 u3), []⟩ ra3 ea3 := by have := HF.out; simpa only [i64w_eq] using this
  clear HF
  have HF := Lib.hid hF2
  have H6 := Lib.hid hz3
  have HE := Lib.hid (rend_sep (Sep.sw2 hz3))
  have HC : Hid (Calls Tryd.prog 71 #[.agg #[.int .i64 ki, .string tx1.1, .int .i64 0, .int .i64 (wrap64 u3), .slice none 0 0]] (w30.setCell ⟨bo, 3, none⟩ (.int .i64 (wrap64 u3))) fun e w' => e = .returned (.int .i64 (if okB ki tx1 0 (wrap64 u3) [] then 0 else 2)) ∧ Sep w [Cl bo #[.int .i64 ki, .string tx1.1, .int .i64 0, .int .i64 (wrap64 u3), .slice none 0 0] 30, RdrT g ra3 ea3, Cl w.heap.size #[.int .i64 0, .string ⟨#[]⟩, .int .i64 0, .int .i64 0, .slice none 0 0] 30] w') := Lib.hid (check_any ki tx1 0 (wrap64 u3) (.slice none 0 0) [] hz3 (.inl ⟨none, 0, rfl, fun _ => rfl, rfl⟩) (HKA.out.below (Sep.low hz3)))
  have f := frz5 (Sep.sw3 hz3)
  have z := cells5 (Sep.sw3 hz3)
  obtain ⟨b0, b1, b2, b3, b4⟩ := cells5 hz3
  clear hF2
  go_wp2_with fail
  generalize (w30.setCell ⟨bo, 3, none⟩ (.int .i64 (wrap64 u3))) = w6 at *
  refine HE.out.mono ?_
  rintro q0 w7 ⟨rfl, rfl⟩
  obtain ⟨g0, g1, g2, g3, g4⟩ := f
  obtain ⟨z0, z1, z2, z3, z4⟩ := z
  by_cases hee : endErr ra3 ea3 = 0
  · have hb : (endErr ra3 ea3 != 0) = false := by simp [hee]
    have hF3 : F = if okB ki tx1 0 (wrap64 u3) [] then (⟨ki, tx1, 0, (wrap64 u3), []⟩, 0) else (OpM.zero, 4) := by rw [HF.out]; unfold prsFin OpM.ok; rw [if_pos hee]
    generalize endErr ra3 ea3 = er at *
    subst hee
    cases hok : okB ki tx1 0 (wrap64 u3) [] with
    | true =>
      rw [hok] at HC hF3
      have HFF := Lib.hid hF3
      clear hok hF3 HF HE
      go_wp2_with fail
      refine HC.out.mono ?_
      rintro q0 w8 ⟨rfl, h8⟩
      clear b0 b1 b2 b3 b4 g0 g1 g2 g3 g4 z0 z1 z2 z3 z4
      obtain ⟨b0, b1, b2, b3, b4⟩ := cells5 h8
      obtain ⟨g0, g1, g2, g3, g4⟩ := frz5 h8.sw3
      obtain ⟨z0, z1, z2, z3, z4⟩ := cells5 h8.sw3
      have h9 := store5 (u0 := .int .i64 ki) (u1 := .string tx1.1) (u2 := .int .i64 0) (u3 := .int .i64 (wrap64 u3)) (u4 := .slice none 0 0) h8.sw3
      obtain ⟨y0, y1, y2, y3, y4⟩ := cells5 h9
      have H9 := Lib.hid (h9.drop.drop.drop.rnNil 2 117)
      clear h8 h9 HC H6
      go_wp2_with fail
      exact bodyPost_ret (v := .tuple #[.agg #[.int .i64 ki, .string tx1.1, .int .i64 0, .int .i64 (wrap64 u3), .slice none 0 0], .int .i64 0]) (by simp [results, Tryd.results78, go_sem, y0, y1, y2, y3, y4]) rfl ⟨⟨ki, tx1, 0, (wrap64 u3), []⟩, 0, _, rfl, HFF.out.symm, H9.out⟩
    | false =>
      rw [hok] at HC hF3
      have HFF := Lib.hid hF3
      clear hok hF3 HF HE
      go_wp2_with fail
      refine HC.out.mono ?_
      rintro q0 w8 ⟨rfl, h8⟩
      clear b0 b1 b2 b3 b4 g0 g1 g2 g3 g4 z0 z1 z2 z3 z4
      obtain ⟨g0, g1, g2, g3, g4⟩ := frz5 h8.sw3
      obtain ⟨z0, z1, z2, z3, z4⟩ := cells5 h8.sw3
      have h9 := store5 (u0 := .int .i64 0) (u1 := .string ⟨#[]⟩) (u2 := .int .i64 0) (u3 := .int .i64 0) (u4 := .slice none 0 0) h8.sw3
      obtain ⟨y0, y1, y2, y3, y4⟩ := cells5 h9
      have H9 := Lib.hid (h9.drop.drop.drop.rnNil 2 117)
      clear h8 h9 HC H6
      go_wp2_with fail
      exact bodyPost_ret (v := .tuple #[.agg #[.int .i64 0, .string ⟨#[]⟩, .int .i64 0, .int .i64 0, .slice none 0 0], .int .i64 4]) (by simp [results, Tryd.results78, go_sem, y0, y1, y2, y3, y4]) rfl ⟨OpM.zero, 4, _, rfl, HFF.out.symm, H9.out⟩
  · have hb : (endErr ra3 ea3 != 0) = true := by rw [bne_iff_ne]; exact hee
    have hFF : F = (OpM.zero, endErr ra3 ea3) := by rw [HF.out]; unfold prsFin; rw [if_neg hee]
    have h7 := store5 (u0 := .int .i64 0) (u1 := .string ⟨#[]⟩) (u2 := .int .i64 0) (u3 := .int .i64 0) (u4 := .slice none 0 0) (H6.out.sw3)
    obtain ⟨y0, y1, y2, y3, y4⟩ := cells5 h7
    have H7 := Lib.hid (h7.drop.drop.drop.rnNil 2 117)
    have HFF := Lib.hid hFF
    generalize endErr ra3 ea3 = er at *
    clear h7 hFF hee HF HC HE
    go_wp2_with fail
    exact bodyPost_ret (v := .tuple #[.agg #[.int .i64 0, .string ⟨#[]⟩, .int .i64 0, .int .i64 0, .slice none 0 0], .int .i64 er]) (by simp [results, Tryd.results78, go_sem, y0, y1, y2, y3, y4]) rfl ⟨OpM.zero, er, _, rfl, HFF.out.symm, H7.out⟩
set_option maxRecDepth 100000 in
set_option maxHeartbeats 16000000 in
theorem parse_9 {w : World} (v : Value) (l : List UInt8) (hv : Sl w v (bv l)) (hk : KindsAt w) (hl : l.length ≤ 1000000) (hf : fieldsOf (rdNe l 0).1 = 9) :
    Calls Tryd.prog 78 #[v] w fun r w' => ∃ (p : OpM) (err : Int) (u : Value), r = .returned (.tuple #[.agg #[.int .i64 p.k, .string p.s.1, .int .i64 p.o, .int .i64 p.n, u], .int .i64 err]) ∧ (p, err) = prs9 (rdNe l 0).1 (rdNe l 0).2.1 (rdNe l 0).2.2 ∧ Sep w [LnR u p.ls] w' := by
  have hlt := rdNe_lt l 0
  have hl1 := rdNe_len l 0
  have h0 := (Sep.start w).alloc (.cells opZ 30)
  have HR := Lib.hid (read_sep v l _ h0 (hv.below h0.low) (by omega))
  have HK : Hid (∀ wx, Below w.heap.size w wx → Calls Tryd.prog 72 #[.int .i64 (rdNe l 0).1] wx fun e w' => e = .returned (.int .i64 9) ∧ wx = w') := Lib.hid fun wx hb => by
    have := fields_any (rdNe l 0).1 wx (hk.below hb)
    rwa [hf] at this
  have HKA := Lib.hid hk
  obtain ⟨ki, hki⟩ : ∃ ki, ki = (rdNe l 0).1 := ⟨_, rfl⟩
  have k0 : (0 : Int) ≤ (ki : Int) := by omega
  have k1 : (ki : Int) ≤ 255 := by omega
  have HN : Hid (∀ wx M g, Sep w (RdrT g l 0 :: M) wx → Calls Tryd.prog 55 #[.pointer (some ⟨g, 0, none⟩), .int .i64 8] wx fun r w' => r = .returned (.int .u64 ki) ∧ Sep w (RdrT g (rdNe l 0).2.1 (rdNe l 0).2.2 :: M) w') := Lib.hid fun wx M g hx => by rw [hki]; exact rnum_sep hx
  rw [← hki] at HK ⊢
  generalize (rdNe l 0).2.1 = r1 at *
  generalize (rdNe l 0).2.2 = e1 at *
  have HLN := Lib.hid (show r1.length ≤ 1000000 by omega)
  unfold opZ at *
  obtain ⟨F, hF⟩ : ∃ F, F = prs9 ki r1 e1 := ⟨_, rfl⟩
  rw [← hF]
  unfold prs9 at hF
  have HF := Lib.hid hF
  clear hv hk hl hf hlt hki h0 hF hl1
  go_enter Tryd.func78, Tryd.ntmps78
  go_wp2_with fail
  refine HR.out.mono ?_
  rintro q0 w1 ⟨g, rfl, h1⟩
  have H1 := Lib.hid h1
  clear h1 HR
  go_wp2_with fail
  refine (HN.out _ _ _ H1.out).mono ?_
  rintro q0 w2 ⟨rfl, h2⟩
  have h3 := h2.alloc (.cells #[.int .i64 ki, .string ⟨#[]⟩, .int .i64 0, .int .i64 0, .slice none 0 0] 30)
  obtain ⟨bo, hbo⟩ : ∃ z, z = w2.heap.size := ⟨_, rfl⟩
  obtain ⟨wo, hwo⟩ : ∃ z, z = w2.alloc (.cells #[.int .i64 ki, .string ⟨#[]⟩, .int .i64 0, .int .i64 0, .slice none 0 0] 30) := ⟨_, rfl⟩
  rw [← hbo, ← hwo] at h3
  obtain ⟨c0, c1, c2, c3, c4⟩ := cells5 h3
  rw [hwo] at c0
  have H3 := Lib.hid h3
  clear h2 h3 HN H1
  go_wp2_with fail
  rw [← hwo, ← hbo]
  clear hwo hbo c0
  refine (HK.out _ H3.out.low).mono ?_
  rintro q0 w4 ⟨rfl, rfl⟩
  clear HK c1 c2 c3 c4
  have HV := Lib.hid (rtext_sep (Sep.sw2 H3.out) (by have := HLN.out; omega))
  have htl := rdTe_len r1 e1
  go_wp2_with fail
  refine HV.out.mono ?_
  rintro q0 w10 ⟨vt, rfl, ht⟩
  obtain ⟨at9, ct9, rfl⟩ := ht.sl.len
  rw [bv_length] at ht
  rw [bv_length]
  have hcv := conv_bytes (P := Tryd.prog) Tryd.underlying24 Tryd.underlying5 Tryd.underlying9 ht.sl
  have hs1 := ht.drop
  have hmk := mkS_val (l := (rdTe r1 e1).1) (by have := HLN.out; unfold maxLen; omega)
  have HLN2 := Lib.hid (show (rdTe r1 e1).2.1.length ≤ 1000000 by have := HLN.out; omega)
  rw [← hmk] at hcv
  clear hmk htl HV HLN ht
  generalize mkS (rdTe r1 e1).1 = tx1 at *
  generalize (rdTe r1 e1).2.1 = ra1 at *
  generalize (rdTe r1 e1).2.2 = ea1 at *
  obtain ⟨c0, c1, c2, c3, c4⟩ := cells5 (Sep.sw2 hs1)
  obtain ⟨f0, f1, f2, f3, f4⟩ := frz5 (Sep.sw2 hs1)
  have hz1 : Sep w [Cl bo #[.int .i64 ki, .string tx1.1, .int .i64 0, .int .i64 0, .slice none 0 0] 30, RdrT g ra1 ea1, Cl w.heap.size #[.int .i64 0, .string ⟨#[]⟩, .int .i64 0, .int .i64 0, .slice none 0 0] 30] (w10.setCell ⟨bo, 1, none⟩ (.string tx1.1)) := (Sep.sw2 hs1).setCell 1 _
  have HV := Lib.hid (rint_sep (Sep.sw2 hz1))
  clear hs1
  go_wp2_with fail
  refine HV.out.mono ?_
  rintro q0 w30 ⟨rfl, hs3⟩
  generalize zag (rdVe ra1 ea1).1 = u3 at *
  generalize (rdVe ra1 ea1).2.1 = ra3 at *
  generalize (rdVe ra1 ea1).2.2 = ea3 at *
  clear HV
  obtain ⟨c0, c1, c2, c3, c4⟩ := cells5 (Sep.sw2 hs3)
  obtain ⟨f0, f1, f2, f3, f4⟩ := frz5 (Sep.sw2 hs3)
  have hz3 : Sep w [Cl bo #[.int .i64 ki, .string tx1.1, .int .i64 0, .int .i64 u3, .slice none 0 0] 30, RdrT g ra3 ea3, Cl w.heap.size #[.int .i64 0, .string ⟨#[]⟩, .int .i64 0, .int .i64 0, .slice none 0 0] 30] (w30.setCell ⟨bo, 3, none⟩ (.int .i64 u3)) := (Sep.sw2 hs3).setCell 3 _
  have hF2 : F = prsFin ⟨ki, tx1, 0, u3, []⟩ ra3 ea3 := by have := HF.out; simpa only [i64w_eq] using this
  clear HF
  have HF := Lib.hid hF2
  have H6 := Lib.hid hz3
  have HE := Lib.hid (rend_sep (Sep.sw2 hz3))
  have HC : Hid (Calls Tryd.prog 71 #[.agg #[.int .i64 ki, .string tx1.1, .int .i64 0, .int .i64 u3, .slice none 0 0]] (w30.setCell ⟨bo, 3, none⟩ (.int .i64 u3)) fun e w' => e = .returned (.int .i64 (if okB ki tx1 0 u3 [] then 0 else 2)) ∧ Sep w [Cl bo #[.int .i64 ki, .string tx1.1, .int .i64 0, .int .i64 u3, .slice none 0 0] 30, RdrT g ra3 ea3, Cl w.heap.size #[.int .i64 0, .string ⟨#[]⟩, .int .i64 0, .int .i64 0, .slice none 0 0] 30] w') := Lib.hid (check_any ki tx1 0 u3 (.slice none 0 0) [] hz3 (.inl ⟨none, 0, rfl, fun _ => rfl, rfl⟩) (HKA.out.below (Sep.low hz3)))
  have f := frz5 (Sep.sw3 hz3)
  have z := cells5 (Sep.sw3 hz3)
  obtain ⟨b0, b1, b2, b3, b4⟩ := cells5 hz3
  clear hF2
  go_wp2_with fail
  generalize (w30.setCell ⟨bo, 3, none⟩ (.int .i64 u3)) = w6 at *
  refine HE.out.mono ?_
  rintro q0 w7 ⟨rfl, rfl⟩
  obtain ⟨g0, g1, g2, g3, g4⟩ := f
  obtain ⟨z0, z1, z2, z3, z4⟩ := z
  by_cases hee : endErr ra3 ea3 = 0
  · have hb : (endErr ra3 ea3 != 0) = false := by simp [hee]
    have hF3 : F = if okB ki tx1 0 u3 [] then (⟨ki, tx1, 0, u3, []⟩, 0) else (OpM.zero, 4) := by rw [HF.out]; unfold prsFin OpM.ok; rw [if_pos hee]
    generalize endErr ra3 ea3 = er at *
    subst hee
    cases hok : okB ki tx1 0 u3 [] with
    | true =>
      rw [hok] at HC hF3
      have HFF := Lib.hid hF3
      clear hok hF3 HF HE
      go_wp2_with fail
      refine HC.out.mono ?_
      rintro q0 w8 ⟨rfl, h8⟩
      clear b0 b1 b2 b3 b4 g0 g1 g2 g3 g4 z0 z1 z2 z3 z4
      obtain ⟨b0, b1, b2, b3, b4⟩ := cells5 h8
      obtain ⟨g0, g1, g2, g3, g4⟩ := frz5 h8.sw3
      obtain ⟨z0, z1, z2, z3, z4⟩ := cells5 h8.sw3
      have h9 := store5 (u0 := .int .i64 ki) (u1 := .string tx1.1) (u2 := .int .i64 0) (u3 := .int .i64 u3) (u4 := .slice none 0 0) h8.sw3
      obtain ⟨y0, y1, y2, y3, y4⟩ := cells5 h9
      have H9 := Lib.hid (h9.drop.drop.drop.rnNil 2 117)
      clear h8 h9 HC H6
      go_wp2_with fail
      exact bodyPost_ret (v := .tuple #[.agg #[.int .i64 ki, .string tx1.1, .int .i64 0, .int .i64 u3, .slice none 0 0], .int .i64 0]) (by simp [results, Tryd.results78, go_sem, y0, y1, y2, y3, y4]) rfl ⟨⟨ki, tx1, 0, u3, []⟩, 0, _, rfl, HFF.out.symm, H9.out⟩
    | false =>
      rw [hok] at HC hF3
      have HFF := Lib.hid hF3
      clear hok hF3 HF HE
      go_wp2_with fail
      refine HC.out.mono ?_
      rintro q0 w8 ⟨rfl, h8⟩
      clear b0 b1 b2 b3 b4 g0 g1 g2 g3 g4 z0 z1 z2 z3 z4
      obtain ⟨g0, g1, g2, g3, g4⟩ := frz5 h8.sw3
      obtain ⟨z0, z1, z2, z3, z4⟩ := cells5 h8.sw3
      have h9 := store5 (u0 := .int .i64 0) (u1 := .string ⟨#[]⟩) (u2 := .int .i64 0) (u3 := .int .i64 0) (u4 := .slice none 0 0) h8.sw3
      obtain ⟨y0, y1, y2, y3, y4⟩ := cells5 h9
      have H9 := Lib.hid (h9.drop.drop.drop.rnNil 2 117)
      clear h8 h9 HC H6
      go_wp2_with fail
      exact bodyPost_ret (v := .tuple #[.agg #[.int .i64 0, .string ⟨#[]⟩, .int .i64 0, .int .i64 0, .slice none 0 0], .int .i64 4]) (by simp [results, Tryd.results78, go_sem, y0, y1, y2, y3, y4]) rfl ⟨OpM.zero, 4, _, rfl, HFF.out.symm, H9.out⟩
  · have hb : (endErr ra3 ea3 != 0) = true := by rw [bne_iff_ne]; exact hee
    have hFF : F = (OpM.zero, endErr ra3 ea3) := by rw [HF.out]; unfold prsFin; rw [if_neg hee]
    have h7 := store5 (u0 := .int .i64 0) (u1 := .string ⟨#[]⟩) (u2 := .int .i64 0) (u3 := .int .i64 0) (u4 := .slice none 0 0) (H6.out.sw3)
    obtain ⟨y0, y1, y2, y3, y4⟩ := cells5 h7
    have H7 := Lib.hid (h7.drop.drop.drop.rnNil 2 117)
    have HFF := Lib.hid hFF
    generalize endErr ra3 ea3 = er at *
    clear h7 hFF hee HF HC HE
    go_wp2_with fail
    exact bodyPost_ret (v := .tuple #[.agg #[.int .i64 0, .string ⟨#[]⟩, .int .i64 0, .int .i64 0, .slice none 0 0], .int .i64 er]) (by simp [results, Tryd.results78, go_sem, y0, y1, y2, y3, y4]) rfl ⟨OpM.zero, er, _, rfl, HFF.out.symm, H7.out⟩
set_option maxRecDepth 100000 in
set_option maxHeartbeats 16000000 in
theorem parse_22 {w : World} (v : Value) (l : List UInt8) (hv : Sl w v (bv l)) (hk : KindsAt w) (hl : l.length ≤ 1000000) (hf : fieldsOf (rdNe l 0).1 = 22) :
    Calls Tryd.prog 78 #[v] w fun r w' => ∃ (p : OpM) (err : Int) (u : Value), r = .returned (.tuple #[.agg #[.int .i64 p.k, .string p.s.1, .int .i64 p.o, .int .i64 p.n, u], .int .i64 err]) ∧ (p, err) = prs22 (rdNe l 0).1 (rdNe l 0).2.1 (rdNe l 0).2.2 ∧ Sep w [LnR u p.ls] w' := by
  have hlt := rdNe_lt l 0
  have hl1 := rdNe_len l 0
  have h0 := (Sep.start w).alloc (.cells opZ 30)
  have HR := Lib.hid (read_sep v l _ h0 (hv.below h0.low) (by omega))
  have HK : Hid (∀ wx, Below w.heap.size w wx → Calls Tryd.prog 72 #[.int .i64 (rdNe l 0).1] wx fun e w' => e = .returned (.int .i64 22) ∧ wx = w') := Lib.hid fun wx hb => by
    have := fields_any (rdNe l 0).1 wx (hk.below hb)
    rwa [hf] at this
  have HKA := Lib.hid hk
  obtain ⟨ki, hki⟩ : ∃ ki, ki = (rdNe l 0).1 := ⟨_, rfl⟩
  have k0 : (0 : Int) ≤ (ki : Int) := by omega
  have k1 : (ki : Int) ≤ 255 := by omega
  have HN : Hid (∀ wx M g, Sep w (RdrT g l 0 :: M) wx → Calls Tryd.prog 55 #[.pointer (some ⟨g, 0, none⟩), .int .i64 8] wx fun r w' => r = .returned (.int .u64 ki) ∧ Sep w (RdrT g (rdNe l 0).2.1 (rdNe l 0).2.2 :: M) w') := Lib.hid fun wx M g hx => by rw [hki]; exact rnum_sep hx
  rw [← hki] at HK ⊢
  generalize (rdNe l 0).2.1 = r1 at *
  generalize (rdNe l 0).2.2 = e1 at *
  have HLN := Lib.hid (show r1.length ≤ 1000000 by omega)
  unfold opZ at *
  obtain ⟨F, hF⟩ : ∃ F, F = prs22 ki r1 e1 := ⟨_, rfl⟩
  rw [← hF]
  unfold prs22 at hF
  dsimp only at hF
  have HF := Lib.hid hF
  clear hv hk hl hf hlt hki h0 hF hl1
  go_enter Tryd.func78, Tryd.ntmps78
  go_wp2_with fail
  refine HR.out.mono ?_
  rintro q0 w1 ⟨g, rfl, h1⟩
  have H1 := Lib.hid h1
  clear h1 HR
  go_wp2_with fail
  refine (HN.out _ _ _ H1.out).mono ?_
  rintro q0 w2 ⟨rfl, h2⟩
  have h3 := h2.alloc (.cells #[.int .i64 ki, .string ⟨#[]⟩, .int .i64 0, .int .i64 0, .slice none 0 0] 30)
  obtain ⟨bo, hbo⟩ : ∃ z, z = w2.heap.size := ⟨_, rfl⟩
  obtain ⟨wo, hwo⟩ : ∃ z, z = w2.alloc (.cells #[.int .i64 ki, .string ⟨#[]⟩, .int .i64 0, .int .i64 0, .slice none 0 0] 30) := ⟨_, rfl⟩
  rw [← hbo, ← hwo] at h3
  obtain ⟨c0, c1, c2, c3, c4⟩ := cells5 h3
  rw [hwo] at c0
  have H3 := Lib.hid h3
  clear h2 h3 HN H1
  go_wp2_with fail
  rw [← hwo, ← hbo]
  clear hwo hbo c0
  refine (HK.out _ H3.out.low).mono ?_
  rintro q0 w4 ⟨rfl, rfl⟩
  clear HK c1 c2 c3 c4
  have hlen2 := rdVe_len r1 e1
  have hlen3 := rdVe_len (rdVe r1 e1).2.1 (rdVe r1 e1).2.2
  have HV := Lib.hid (rvarint_sep (Sep.sw2 H3.out))
  go_wp2_with fail
  refine HV.out.mono ?_
  rintro q0 w20 ⟨rfl, hs2⟩
  have hu2 := rdVe_u64 r1 e1
  generalize (rdVe r1 e1).1 = u2 at *
  generalize (rdVe r1 e1).2.1 = ra2 at *
  generalize (rdVe r1 e1).2.2 = ea2 at *
  unfold U64 at hu2
  have ua2 : (0 : Int) ≤ (u2 : Int) := by omega
  have ub2 : (u2 : Int) ≤ 18446744073709551615 := by omega
  clear hu2 HV
  obtain ⟨c0, c1, c2, c3, c4⟩ := cells5 (Sep.sw2 hs2)
  obtain ⟨f0, f1, f2, f3, f4⟩ := frz5 (Sep.sw2 hs2)
  have hz2 : Sep w [Cl bo #[.int .i64 ki, .string ⟨#[]⟩, .int .i64 (wrap64 u2), .int .i64 0, .slice none 0 0] 30, RdrT g ra2 ea2, Cl w.heap.size #[.int .i64 0, .string ⟨#[]⟩, .int .i64 0, .int .i64 0, .slice none 0 0] 30] (w20.setCell ⟨bo, 2, none⟩ (.int .i64 (wrap64 u2))) := (Sep.sw2 hs2).setCell 2 _
  have HV := Lib.hid (rvarint_sep (Sep.sw2 hz2))
  clear hs2
  go_wp2_with fail
  refine HV.out.mono ?_
  rintro q0 w30 ⟨rfl, hs3⟩
  have hu3 := rdVe_u64 ra2 ea2
  generalize (rdVe ra2 ea2).1 = u3 at *
  generalize (rdVe ra2 ea2).2.1 = ra3 at *
  generalize (rdVe ra2 ea2).2.2 = ea3 at *
  unfold U64 at hu3
  have ua3 : (0 : Int) ≤ (u3 : Int) := by omega
  have ub3 : (u3 : Int) ≤ 18446744073709551615 := by omega
  clear hu3 HV
  obtain ⟨c0, c1, c2, c3, c4⟩ := cells5 (Sep.sw2 hs3)
  obtain ⟨f0, f1, f2, f3, f4⟩ := frz5 (Sep.sw2 hs3)
  have hz3 : Sep w [Cl bo #[.int .i64 ki, .string ⟨#[]⟩, .int .i64 (wrap64 u2), .int .i64 (wrap64 u3), .slice none 0 0] 30, RdrT g ra3 ea3, Cl w.heap.size #[.int .i64 0, .string ⟨#[]⟩, .int .i64 0, .int .i64 0, .slice none 0 0] 30] (w30.setCell ⟨bo, 3, none⟩ (.int .i64 (wrap64 u3))) := (Sep.sw2 hs3).setCell 3 _
  have HV := Lib.hid (readLines_any (Sep.sw2 hz3) (by have := HLN.out; have h1 := hlen2; have h3 := hlen3; omega))
  clear hs3
  go_wp2_with fail
  refine HV.out.mono ?_
  rintro q0 w90 ⟨vl, rfl, hs9⟩
  clear HV
  generalize (rdL ra3 ea3).1 = lsn at *
  generalize (rdL ra3 ea3).2.1 = ra9 at *
  generalize (rdL ra3 ea3).2.2 = ea9 at *
  obtain ⟨al, cl9, rfl, -⟩ := hs9.rnForm
  obtain ⟨c0, c1, c2, c3, c4⟩ := cells5 (Sep.sw3 hs9)
  obtain ⟨f0, f1, f2, f3, f4⟩ := frz5 (Sep.sw3 hs9)
  have hz9 : Sep w [Cl bo #[.int .i64 ki, .string ⟨#[]⟩, .int .i64 (wrap64 u2), .int .i64 (wrap64 u3), .slice al lsn.length cl9] 30, RdrT g ra9 ea9, Cl w.heap.size #[.int .i64 0, .string ⟨#[]⟩, .int .i64 0, .int .i64 0, .slice none 0 0] 30, LnR (.slice al lsn.length cl9) lsn] (w90.setCell ⟨bo, 4, none⟩ (.slice al lsn.length cl9)) := (((Sep.sw3 hs9).setCell 4 (.slice al lsn.length cl9)).pick [0, 2, 3, 1] rfl)
  have hF2 : F = prsFin ⟨ki, sZ, (wrap64 u2), (wrap64 u3), lsn⟩ ra9 ea9 := by have := HF.out; simpa only [i64w_eq] using this
  clear HF
  have HF := Lib.hid hF2
  have H6 := Lib.hid hz9
  have HE := Lib.hid (rend_sep (Sep.sw2 hz9))
  have HC : Hid (Calls Tryd.prog 71 #[.agg #[.int .i64 ki, .string ⟨#[]⟩, .int .i64 (wrap64 u2), .int .i64 (wrap64 u3), .slice al lsn.length cl9]] (w90.setCell ⟨bo, 4, none⟩ (.slice al lsn.length cl9)) fun e w' => e = .returned (.int .i64 (if okB ki sZ (wrap64 u2) (wrap64 u3) lsn then 0 else 2)) ∧ Sep w [Cl bo #[.int .i64 ki, .string ⟨#[]⟩, .int .i64 (wrap64 u2), .int .i64 (wrap64 u3), .slice al lsn.length cl9] 30, RdrT g ra9 ea9, Cl w.heap.size #[.int .i64 0, .string ⟨#[]⟩, .int .i64 0, .int .i64 0, .slice none 0 0] 30, LnR (.slice al lsn.length cl9) lsn] w') := Lib.hid (check_any ki sZ (wrap64 u2) (wrap64 u3) (.slice al lsn.length cl9) lsn hz9 (Sep.lnS (Sep.sw4 hz9)) (HKA.out.below (Sep.low hz9)))
  have f := frz5 (Sep.sw3 hz9)
  have z := cells5 (Sep.sw3 hz9)
  obtain ⟨b0, b1, b2, b3, b4⟩ := cells5 hz9
  clear hF2
  go_wp2_with fail
  generalize (w90.setCell ⟨bo, 4, none⟩ (.slice al lsn.length cl9)) = w6 at *
  refine HE.out.mono ?_
  rintro q0 w7 ⟨rfl, rfl⟩
  obtain ⟨g0, g1, g2, g3, g4⟩ := f
  obtain ⟨z0, z1, z2, z3, z4⟩ := z
  by_cases hee : endErr ra9 ea9 = 0
  · have hb : (endErr ra9 ea9 != 0) = false := by simp [hee]
    have hF3 : F = if okB ki sZ (wrap64 u2) (wrap64 u3) lsn then (⟨ki, sZ, (wrap64 u2), (wrap64 u3), lsn⟩, 0) else (OpM.zero, 4) := by rw [HF.out]; unfold prsFin OpM.ok; rw [if_pos hee]
    generalize endErr ra9 ea9 = er at *
    subst hee
    cases hok : okB ki sZ (wrap64 u2) (wrap64 u3) lsn with
    | true =>
      rw [hok] at HC hF3
      have HFF := Lib.hid hF3
      clear hok hF3 HF HE
      go_wp2_with fail
      refine HC.out.mono ?_
      rintro q0 w8 ⟨rfl, h8⟩
      clear b0 b1 b2 b3 b4 g0 g1 g2 g3 g4 z0 z1 z2 z3 z4
      obtain ⟨b0, b1, b2, b3, b4⟩ := cells5 h8
      obtain ⟨g0, g1, g2, g3, g4⟩ := frz5 h8.sw3
      obtain ⟨z0, z1, z2, z3, z4⟩ := cells5 h8.sw3
      have h9 := store5 (u0 := .int .i64 ki) (u1 := .string ⟨#[]⟩) (u2 := .int .i64 (wrap64 u2)) (u3 := .int .i64 (wrap64 u3)) (u4 := .slice al lsn.length cl9) h8.sw3
      obtain ⟨y0, y1, y2, y3, y4⟩ := cells5 h9
      have H9 := Lib.hid h9.drop.drop.drop
      clear h8 h9 HC H6
      go_wp2_with fail
      exact bodyPost_ret (v := .tuple #[.agg #[.int .i64 ki, .string ⟨#[]⟩, .int .i64 (wrap64 u2), .int .i64 (wrap64 u3), .slice al lsn.length cl9], .int .i64 0]) (by simp [results, Tryd.results78, go_sem, y0, y1, y2, y3, y4]) rfl ⟨⟨ki, sZ, (wrap64 u2), (wrap64 u3), lsn⟩, 0, _, rfl, HFF.out.symm, H9.out⟩
    | false =>
      rw [hok] at HC hF3
      have HFF := Lib.hid hF3
      clear hok hF3 HF HE
      go_wp2_with fail
      refine HC.out.mono ?_
      rintro q0 w8 ⟨rfl, h8⟩
      clear b0 b1 b2 b3 b4 g0 g1 g2 g3 g4 z0 z1 z2 z3 z4
      obtain ⟨g0, g1, g2, g3, g4⟩ := frz5 h8.sw3
      obtain ⟨z0, z1, z2, z3, z4⟩ := cells5 h8.sw3
      have h9 := store5 (u0 := .int .i64 0) (u1 := .string ⟨#[]⟩) (u2 := .int .i64 0) (u3 := .int .i64 0) (u4 := .slice none 0 0) h8.sw3
      obtain ⟨y0, y1, y2, y3, y4⟩ := cells5 h9
      have H9 := Lib.hid (h9.drop.drop.drop.drop.rnNil 2 117)
      clear h8 h9 HC H6
      go_wp2_with fail
      exact bodyPost_ret (v := .tuple #[.agg #[.int .i64 0, .string ⟨#[]⟩, .int .i64 0, .int .i64 0, .slice none 0 0], .int .i64 4]) (by simp [results, Tryd.results78, go_sem, y0, y1, y2, y3, y4]) rfl ⟨OpM.zero, 4, _, rfl, HFF.out.symm, H9.out⟩
  · have hb : (endErr ra9 ea9 != 0) = true := by rw [bne_iff_ne]; exact hee
    have hFF : F = (OpM.zero, endErr ra9 ea9) := by rw [HF.out]; unfold prsFin; rw [if_neg hee]
    have h7 := store5 (u0 := .int .i64 0) (u1 := .string ⟨#[]⟩) (u2 := .int .i64 0) (u3 := .int .i64 0) (u4 := .slice none 0 0) (H6.out.sw3)
    obtain ⟨y0, y1, y2, y3, y4⟩ := cells5 h7
    have H7 := Lib.hid (h7.drop.drop.drop.drop.rnNil 2 117)
    have HFF := Lib.hid hFF
    generalize endErr ra9 ea9 = er at *
    clear h7 hFF hee HF HC HE
    go_wp2_with fail
    exact bodyPost_ret (v := .tuple #[.agg #[.int .i64 0, .string ⟨#[]⟩, .int .i64 0, .int .i64 0, .slice none 0 0], .int .i64 er]) (by simp [results, Tryd.results78, go_sem, y0, y1, y2, y3, y4]) rfl ⟨OpM.zero, er, _, rfl, HFF.out.symm, H7.out⟩
/-- What Parse answers. -/
def prsOp (l : List UInt8) : OpM × Int :=
  if fieldsOf (rdNe l 0).1 = 5 then prs5 (rdNe l 0).1 (rdNe l 0).2.1 (rdNe l 0).2.2
  else if fieldsOf (rdNe l 0).1 = 9 then prs9 (rdNe l 0).1 (rdNe l 0).2.1 (rdNe l 0).2.2
  else if fieldsOf (rdNe l 0).1 = 22 then prs22 (rdNe l 0).1 (rdNe l 0).2.1 (rdNe l 0).2.2
  else if fieldsOf (rdNe l 0).1 = 2 then prs2 (rdNe l 0).1 (rdNe l 0).2.1 (rdNe l 0).2.2
  else if fieldsOf (rdNe l 0).1 = 4 then prs4 (rdNe l 0).1 (rdNe l 0).2.1 (rdNe l 0).2.2
  else if fieldsOf (rdNe l 0).1 = 1 then prs1 (rdNe l 0).1 (rdNe l 0).2.1 (rdNe l 0).2.2
  else prs0 (rdNe l 0).1 (rdNe l 0).2.1 (rdNe l 0).2.2
theorem Sep.onto1 {w0 w w' : World} {A : Thing} {L : List Thing} (h : Sep w0 L w) (h' : Sep w [A] w') : Sep w0 (A :: L) w' := by
  obtain ⟨F, hF, h2⟩ := h'.head
  exact h.new (h'.loc _ (List.mem_cons_self ..)) h'.low hF h2
theorem parse_any {w0 w : World} {L : List Thing} (v : Value) (l : List UInt8) (h : Sep w0 L w) (hv : Sl w v (bv l)) (hk : KindsAt w) (hl : l.length ≤ 1000000) :
    Calls Tryd.prog 78 #[v] w fun r w' => ∃ (p : OpM) (err : Int) (u : Value), r = .returned (.tuple #[.agg #[.int .i64 p.k, .string p.s.1, .int .i64 p.o, .int .i64 p.n, u], .int .i64 err]) ∧ (p, err) = prsOp l ∧ Sep w0 (LnR u p.ls :: L) w' := by
  have hc : Calls Tryd.prog 78 #[v] w fun r w' => ∃ (p : OpM) (err : Int) (u : Value), r = .returned (.tuple #[.agg #[.int .i64 p.k, .string p.s.1, .int .i64 p.o, .int .i64 p.n, u], .int .i64 err]) ∧ (p, err) = prsOp l ∧ Sep w [LnR u p.ls] w' := by
    unfold prsOp
    rcases fields_cls (rdNe l 0).1 with h0 | h1 | h1 | h1 | h1 | h1 | h1
    · have := parse_0 v l hv hk hl h0; simpa [h0] using this
    · have := parse_5 v l hv hk hl h1; simpa [h1] using this
    · have := parse_9 v l hv hk hl h1; simpa [h1] using this
    · have := parse_22 v l hv hk hl h1; simpa [h1] using this
    · have := parse_2 v l hv hk hl h1; simpa [h1] using this
    · have := parse_4 v l hv hk hl h1; simpa [h1] using this
    · have := parse_1 v l hv hk hl h1; simpa [h1] using this
  refine hc.mono ?_
  rintro e w' ⟨p, err, u, rfl, h1, h2⟩
  exact ⟨p, err, u, rfl, h1, h.onto1 h2⟩
end Go.Proofs.YtafkbodmiblbnaaDoor
