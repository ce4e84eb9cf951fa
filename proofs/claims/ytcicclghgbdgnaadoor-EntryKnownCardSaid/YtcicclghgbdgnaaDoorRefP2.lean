/- The document's own item: Parse. -/
import Derived.Test.YtcicclghgbdgnaaDoorBkK
import Derived.Test.YtcicclghgbdgnaaDoorRefI3
namespace Go.Proofs.YtcicclghgbdgnaaDoor
open Go.RowKit
set_option linter.unusedVariables false
set_option linter.unusedSimpArgs false
set_option maxRecDepth 100000 in
set_option maxHeartbeats 16000000 in
theorem rparse_0 {w : World} (v : Value) (l : List UInt8) (hv : Sl w v (bv l)) (hl : l.length ≤ 1000000) (hk : KindIs (rdNe l 0).1 false false false false false false) :
    Calls Tryd.prog 80 #[v] w (RPrs w (rprs0 (rdNe l 0).1 (rdNe l 0).2.1 (rdNe l 0).2.2)) := by
  have hlt := rdNe_lt l 0
  have hl1 := rdNe_len l 0
  have h0 := (Sep.start w).alloc (.cells #[.int .i64 0, .string ⟨#[]⟩, .int .i64 0, .int .i64 0, .slice none 0 0] 24)
  have HR := Lib.hid (rread_sep v l _ h0 (hv.below h0.low) (by omega))
  obtain ⟨ki, hki⟩ : ∃ ki, ki = (rdNe l 0).1 := ⟨_, rfl⟩
  have k0 : (0 : Int) ≤ (ki : Int) := by omega
  have k1 : (ki : Int) ≤ 255 := by omega
  have HN : Hid (∀ wx M g, Sep w (RrT g l 0 :: M) wx → Calls Tryd.prog 77 #[.pointer (some ⟨g, 0, none⟩), .int .i64 8] wx fun r w' => r = .returned (.int .u64 ki) ∧ Sep w (RrT g (rdNe l 0).2.1 (rdNe l 0).2.2 :: M) w') := Lib.hid fun wx M g hx => by rw [hki]; exact rrnum_sep hx
  rw [← hki] at hk ⊢
  have HS := Lib.hid (fun wx => hasSku_any (ki : Int) wx)
  have HO := Lib.hid (fun wx => hasOrder_any (ki : Int) wx)
  have HNu := Lib.hid (fun wx => hasN_any (ki : Int) wx)
  rw [hk.sk] at HS
  rw [hk.od] at HO
  rw [hk.nu] at HNu
  have had := hk.ad
  have hre := hk.re
  generalize (rdNe l 0).2.1 = r1 at *
  generalize (rdNe l 0).2.2 = e1 at *
  have HLN := Lib.hid (show r1.length ≤ 1000000 by omega)
  obtain ⟨F, hF⟩ : ∃ F, F = rprs0 ki r1 e1 := ⟨_, rfl⟩
  rw [← hF]
  unfold rprs0 at hF
  try dsimp only at hF
  have HF := Lib.hid hF
  obtain ⟨b0, hb0⟩ : ∃ z, z = w.heap.size := ⟨_, rfl⟩
  rw [← hb0] at HR
  clear hv hl hlt hki h0 hF hl1 hk
  go_enter Tryd.func80, Tryd.ntmps80
  go_wp2_with fail
  rw [← hb0]
  clear hb0
  refine HR.out.mono ?_
  rintro q0 w1 ⟨g, rfl, h1⟩
  have H1 := Lib.hid h1
  clear h1 HR
  go_wp2_with fail
  refine (HN.out _ _ _ H1.out).mono ?_
  rintro q0 w2 ⟨rfl, h2⟩
  have h3 := h2.alloc (.cells #[.int .i64 ki, .string ⟨#[]⟩, .int .i64 0, .int .i64 0, .slice none 0 0] 24)
  obtain ⟨bo, hbo⟩ : ∃ z, z = w2.heap.size := ⟨_, rfl⟩
  obtain ⟨wo, hwo⟩ : ∃ z, z = w2.alloc (.cells #[.int .i64 ki, .string ⟨#[]⟩, .int .i64 0, .int .i64 0, .slice none 0 0] 24) := ⟨_, rfl⟩
  rw [← hbo, ← hwo] at h3
  obtain ⟨c0, c1, c2, c3, c4⟩ := cells5 h3
  rw [hwo] at c0
  have H3 := Lib.hid h3
  clear h2 h3 HN H1
  go_wp2_with fail
  rw [← hwo, ← hbo]
  rw [← hwo] at c0
  clear hwo hbo
  have HZ := Lib.hid H3.out
  have HER := Lib.hid (rrerr_sep (Sep.sw2 H3.out))
  have HEN := Lib.hid (rrend_sep (Sep.sw2 H3.out))
  go_wp2_with (first | ((with_reducible refine (HS.out _).mono ?_); rintro r9 w9 ⟨rfl, rfl⟩) | ((with_reducible refine (HO.out _).mono ?_); rintro r9 w9 ⟨rfl, rfl⟩) | ((with_reducible refine (HNu.out _).mono ?_); rintro r9 w9 ⟨rfl, rfl⟩))
  generalize wo = wz at *
  go_loopw [7] (fun i wr => i = .int .u64 0 ∧ wr = wz) (fun _ _ => 0)
  case atStart => exact ⟨rfl, rfl⟩
  case round =>
    obtain ⟨rfl, rfl⟩ := hrel
    have HC : Hid (Calls Tryd.prog 34 #[.agg #[.int .i64 ki, .string ⟨#[]⟩, .int .i64 0, .int .i64 0, (.slice none 0 0)]] _ fun e w' => e = .returned (.int .i64 (if okB ki sZ 0 0 [] then 0 else 2)) ∧ Sep w [Cl bo #[.int .i64 ki, .string ⟨#[]⟩, .int .i64 0, .int .i64 0, (.slice none 0 0)] 24, RrT g r1 e1, Cl b0 #[.int .i64 0, .string ⟨#[]⟩, .int .i64 0, .int .i64 0, .slice none 0 0] 24] w') := Lib.hid (rcheck_any ki sZ 0 0 (.slice none 0 0) [] HZ.out (.inl ⟨none, 0, rfl, fun _ => rfl, rfl⟩) (by first | (simp; done) | omega))
    obtain ⟨g0, g1, g2, g3, g4⟩ := frz5 HZ.out.sw3
    obtain ⟨z0, z1, z2, z3, z4⟩ := cells5 HZ.out.sw3
    by_cases hee : e1 = 0
    · have hb : (e1 != 0) = false := by simp [hee]
      by_cases hen : endErr r1 e1 = 0
      · have hb2 : (endErr r1 e1 != 0) = false := by simp [hen]
        have hF3 : F = if okB ki sZ 0 0 [] then (⟨ki, sZ, 0, 0, []⟩, 0) else (OpM.zero, 4) := by rw [HF.out]; unfold rprsFin OpM.ok; rw [if_neg (by simp [hee]), if_neg (by rw [hee] at hen; simp [hen])]
        generalize endErr r1 e1 = en at *
        clear hee hen
        cases hok : okB ki sZ 0 0 [] with
        | true =>
          rw [hok] at HC hF3
          have HFF := Lib.hid hF3
          clear hok hF3 HF
          go_wp2_with (first | ((with_reducible refine HER.out.mono ?_); rintro r9 w9 ⟨rfl, rfl⟩) | ((with_reducible refine HEN.out.mono ?_); rintro r9 w9 ⟨rfl, rfl⟩))
          refine HC.out.mono ?_
          rintro q0 w8 ⟨rfl, h8⟩
          clear c0 c1 c2 c3 c4 g0 g1 g2 g3 g4 z0 z1 z2 z3 z4
          obtain ⟨c0, c1, c2, c3, c4⟩ := cells5 h8
          obtain ⟨g0, g1, g2, g3, g4⟩ := frz5 h8.sw3
          obtain ⟨z0, z1, z2, z3, z4⟩ := cells5 h8.sw3
          have h9 := store5 (u0 := .int .i64 ki) (u1 := .string ⟨#[]⟩) (u2 := .int .i64 0) (u3 := .int .i64 0) (u4 := (.slice none 0 0)) h8.sw3
          obtain ⟨y0, y1, y2, y3, y4⟩ := cells5 h9
          have H9 := Lib.hid (h9.drop.drop.drop.rnNil 2 36)
          clear h8 h9 HC HZ HER HEN
          go_wp2_with fail
          exact bodyPost_ret (v := .tuple #[.agg #[.int .i64 ki, .string ⟨#[]⟩, .int .i64 0, .int .i64 0, (.slice none 0 0)], .int .i64 0]) (by simp [results, Tryd.results80, go_sem, y0, y1, y2, y3, y4]) rfl ⟨⟨ki, sZ, 0, 0, []⟩, 0, _, rfl, HFF.out.symm, H9.out⟩
        | false =>
          rw [hok] at HC hF3
          have HFF := Lib.hid hF3
          clear hok hF3 HF
          go_wp2_with (first | ((with_reducible refine HER.out.mono ?_); rintro r9 w9 ⟨rfl, rfl⟩) | ((with_reducible refine HEN.out.mono ?_); rintro r9 w9 ⟨rfl, rfl⟩))
          refine HC.out.mono ?_
          rintro q0 w8 ⟨rfl, h8⟩
          clear c0 c1 c2 c3 c4 g0 g1 g2 g3 g4 z0 z1 z2 z3 z4
          obtain ⟨g0, g1, g2, g3, g4⟩ := frz5 h8.sw3
          obtain ⟨z0, z1, z2, z3, z4⟩ := cells5 h8.sw3
          have h9 := store5 (u0 := .int .i64 0) (u1 := .string ⟨#[]⟩) (u2 := .int .i64 0) (u3 := .int .i64 0) (u4 := .slice none 0 0) h8.sw3
          obtain ⟨y0, y1, y2, y3, y4⟩ := cells5 h9
          have H9 := Lib.hid (h9.drop.drop.drop.rnNil 2 36)
          clear h8 h9 HC HZ HER HEN
          go_wp2_with fail
          exact bodyPost_ret (v := .tuple #[.agg #[.int .i64 0, .string ⟨#[]⟩, .int .i64 0, .int .i64 0, .slice none 0 0], .int .i64 4]) (by simp [results, Tryd.results80, go_sem, y0, y1, y2, y3, y4]) rfl ⟨OpM.zero, 4, _, rfl, HFF.out.symm, H9.out⟩
      · have hb2 : (endErr r1 e1 != 0) = true := by rw [bne_iff_ne]; exact hen
        have hFF : F = (OpM.zero, 4) := by rw [HF.out]; unfold rprsFin; rw [if_neg (by simp [hee]), if_pos (by rw [hee] at hen; exact hen)]
        have h9 := store5 (u0 := .int .i64 0) (u1 := .string ⟨#[]⟩) (u2 := .int .i64 0) (u3 := .int .i64 0) (u4 := .slice none 0 0) HZ.out.sw3
        obtain ⟨y0, y1, y2, y3, y4⟩ := cells5 h9
        have H9 := Lib.hid (h9.drop.drop.drop.rnNil 2 36)
        have HFF := Lib.hid hFF
        generalize endErr r1 e1 = en at *
        clear h9 hFF hee hen HF HC
        go_wp2_with (first | ((with_reducible refine HER.out.mono ?_); rintro r9 w9 ⟨rfl, rfl⟩) | ((with_reducible refine HEN.out.mono ?_); rintro r9 w9 ⟨rfl, rfl⟩))
        exact bodyPost_ret (v := .tuple #[.agg #[.int .i64 0, .string ⟨#[]⟩, .int .i64 0, .int .i64 0, .slice none 0 0], .int .i64 4]) (by simp [results, Tryd.results80, go_sem, y0, y1, y2, y3, y4]) rfl ⟨OpM.zero, 4, _, rfl, HFF.out.symm, H9.out⟩
    · have hb : (e1 != 0) = true := by rw [bne_iff_ne]; exact hee
      have hFF : F = (OpM.zero, e1) := by rw [HF.out]; unfold rprsFin; rw [if_pos hee]
      have h9 := store5 (u0 := .int .i64 0) (u1 := .string ⟨#[]⟩) (u2 := .int .i64 0) (u3 := .int .i64 0) (u4 := .slice none 0 0) HZ.out.sw3
      obtain ⟨y0, y1, y2, y3, y4⟩ := cells5 h9
      have H9 := Lib.hid (h9.drop.drop.drop.rnNil 2 36)
      have HFF := Lib.hid hFF
      have HER2 := Lib.hid (rrerr_sep h9.sw3)
      clear h9 hFF hee HF HC HEN
      go_wp2_with (first | ((with_reducible refine HER.out.mono ?_); rintro r9 w9 ⟨rfl, rfl⟩) | ((with_reducible refine HER2.out.mono ?_); rintro r9 w9 ⟨rfl, rfl⟩))
      exact bodyPost_ret (v := .tuple #[.agg #[.int .i64 0, .string ⟨#[]⟩, .int .i64 0, .int .i64 0, .slice none 0 0], .int .i64 e1]) (by simp [results, Tryd.results80, go_sem, y0, y1, y2, y3, y4]) rfl ⟨OpM.zero, e1, _, rfl, HFF.out.symm, H9.out⟩
set_option maxRecDepth 100000 in
set_option maxHeartbeats 16000000 in
theorem rparse_1 {w : World} (v : Value) (l : List UInt8) (hv : Sl w v (bv l)) (hl : l.length ≤ 1000000) (hk : KindIs (rdNe l 0).1 true true false false false false) :
    Calls Tryd.prog 80 #[v] w (RPrs w (rprs1 (rdNe l 0).1 (rdNe l 0).2.1 (rdNe l 0).2.2)) := by
  have hlt := rdNe_lt l 0
  have hl1 := rdNe_len l 0
  have h0 := (Sep.start w).alloc (.cells #[.int .i64 0, .string ⟨#[]⟩, .int .i64 0, .int .i64 0, .slice none 0 0] 24)
  have HR := Lib.hid (rread_sep v l _ h0 (hv.below h0.low) (by omega))
  obtain ⟨ki, hki⟩ : ∃ ki, ki = (rdNe l 0).1 := ⟨_, rfl⟩
  have k0 : (0 : Int) ≤ (ki : Int) := by omega
  have k1 : (ki : Int) ≤ 255 := by omega
  have HN : Hid (∀ wx M g, Sep w (RrT g l 0 :: M) wx → Calls Tryd.prog 77 #[.pointer (some ⟨g, 0, none⟩), .int .i64 8] wx fun r w' => r = .returned (.int .u64 ki) ∧ Sep w (RrT g (rdNe l 0).2.1 (rdNe l 0).2.2 :: M) w') := Lib.hid fun wx M g hx => by rw [hki]; exact rrnum_sep hx
  rw [← hki] at hk ⊢
  have HS := Lib.hid (fun wx => hasSku_any (ki : Int) wx)
  have HO := Lib.hid (fun wx => hasOrder_any (ki : Int) wx)
  have HNu := Lib.hid (fun wx => hasN_any (ki : Int) wx)
  rw [hk.sk] at HS
  rw [hk.od] at HO
  rw [hk.nu] at HNu
  have had := hk.ad
  have hre := hk.re
  generalize (rdNe l 0).2.1 = r1 at *
  generalize (rdNe l 0).2.2 = e1 at *
  have HLN := Lib.hid (show r1.length ≤ 1000000 by omega)
  obtain ⟨F, hF⟩ : ∃ F, F = rprs1 ki r1 e1 := ⟨_, rfl⟩
  rw [← hF]
  unfold rprs1 at hF
  try dsimp only at hF
  have HF := Lib.hid hF
  obtain ⟨b0, hb0⟩ : ∃ z, z = w.heap.size := ⟨_, rfl⟩
  rw [← hb0] at HR
  clear hv hl hlt hki h0 hF hl1 hk
  go_enter Tryd.func80, Tryd.ntmps80
  go_wp2_with fail
  rw [← hb0]
  clear hb0
  refine HR.out.mono ?_
  rintro q0 w1 ⟨g, rfl, h1⟩
  have H1 := Lib.hid h1
  clear h1 HR
  go_wp2_with fail
  refine (HN.out _ _ _ H1.out).mono ?_
  rintro q0 w2 ⟨rfl, h2⟩
  have h3 := h2.alloc (.cells #[.int .i64 ki, .string ⟨#[]⟩, .int .i64 0, .int .i64 0, .slice none 0 0] 24)
  obtain ⟨bo, hbo⟩ : ∃ z, z = w2.heap.size := ⟨_, rfl⟩
  obtain ⟨wo, hwo⟩ : ∃ z, z = w2.alloc (.cells #[.int .i64 ki, .string ⟨#[]⟩, .int .i64 0, .int .i64 0, .slice none 0 0] 24) := ⟨_, rfl⟩
  rw [← hbo, ← hwo] at h3
  obtain ⟨c0, c1, c2, c3, c4⟩ := cells5 h3
  rw [hwo] at c0
  have H3 := Lib.hid h3
  clear h2 h3 HN H1
  go_wp2_with fail
  rw [← hwo, ← hbo]
  rw [← hwo] at c0
  clear hwo hbo
  have HV := Lib.hid (rrtext_sep (Sep.sw2 H3.out) (by have := HLN.out; omega))
  have htl := rdTe_len r1 e1
  go_wp2_with (first | ((with_reducible refine (HS.out _).mono ?_); rintro r9 w9 ⟨rfl, rfl⟩) | ((with_reducible refine (HO.out _).mono ?_); rintro r9 w9 ⟨rfl, rfl⟩) | ((with_reducible refine (HNu.out _).mono ?_); rintro r9 w9 ⟨rfl, rfl⟩))
  refine HV.out.mono ?_
  rintro q0 w10 ⟨vt, rfl, ht⟩
  obtain ⟨at9, ct9, rfl⟩ := ht.sl.len
  rw [bv_length] at ht
  rw [bv_length]
  have hcv := conv_bytes (P := Tryd.prog) Tryd.underlying27 Tryd.underlying5 Tryd.underlying9 ht.sl
  have hs1 := ht.drop
  have hmk := mkS_val (l := (rdTe r1 e1).1) (by have := HLN.out; unfold maxLen; omega)
  have HLN2 := Lib.hid (show (rdTe r1 e1).2.1.length ≤ 1000000 by have := HLN.out; omega)
  rw [← hmk] at hcv
  clear hmk htl HV HLN ht c0 c1 c2 c3 c4
  generalize mkS (rdTe r1 e1).1 = tx1 at *
  generalize (rdTe r1 e1).2.1 = ra1 at *
  generalize (rdTe r1 e1).2.2 = ea1 at *
  obtain ⟨f0, f1, f2, f3, f4⟩ := frz5 (Sep.sw2 hs1)
  obtain ⟨d0, d1, d2, d3, d4⟩ := cells5 (Sep.sw2 hs1)
  have hz1 : Sep w [Cl bo #[.int .i64 ki, .string tx1.1, .int .i64 0, .int .i64 0, (.slice none 0 0)] 24, RrT g ra1 ea1, Cl b0 #[.int .i64 0, .string ⟨#[]⟩, .int .i64 0, .int .i64 0, .slice none 0 0] 24] (w10.setCell ⟨bo, 1, none⟩ (.string tx1.1)) := (Sep.sw2 hs1).setCell 1 _
  obtain ⟨c0, c1, c2, c3, c4⟩ := cells5 hz1
  clear hs1
  have HZ := Lib.hid hz1
  have HER := Lib.hid (rrerr_sep (Sep.sw2 hz1))
  have HEN := Lib.hid (rrend_sep (Sep.sw2 hz1))
  go_wp2_with (first | ((with_reducible refine (HS.out _).mono ?_); rintro r9 w9 ⟨rfl, rfl⟩) | ((with_reducible refine (HO.out _).mono ?_); rintro r9 w9 ⟨rfl, rfl⟩) | ((with_reducible refine (HNu.out _).mono ?_); rintro r9 w9 ⟨rfl, rfl⟩))
  generalize (w10.setCell ⟨bo, 1, none⟩ (.string tx1.1)) = wz at *
  go_loopw [7] (fun i wr => i = .int .u64 0 ∧ wr = wz) (fun _ _ => 0)
  case atStart => exact ⟨rfl, rfl⟩
  case round =>
    obtain ⟨rfl, rfl⟩ := hrel
    have HC : Hid (Calls Tryd.prog 34 #[.agg #[.int .i64 ki, .string tx1.1, .int .i64 0, .int .i64 0, (.slice none 0 0)]] _ fun e w' => e = .returned (.int .i64 (if okB ki tx1 0 0 [] then 0 else 2)) ∧ Sep w [Cl bo #[.int .i64 ki, .string tx1.1, .int .i64 0, .int .i64 0, (.slice none 0 0)] 24, RrT g ra1 ea1, Cl b0 #[.int .i64 0, .string ⟨#[]⟩, .int .i64 0, .int .i64 0, .slice none 0 0] 24] w') := Lib.hid (rcheck_any ki tx1 0 0 (.slice none 0 0) [] HZ.out (.inl ⟨none, 0, rfl, fun _ => rfl, rfl⟩) (by first | (simp; done) | omega))
    obtain ⟨g0, g1, g2, g3, g4⟩ := frz5 HZ.out.sw3
    obtain ⟨z0, z1, z2, z3, z4⟩ := cells5 HZ.out.sw3
    by_cases hee : ea1 = 0
    · have hb : (ea1 != 0) = false := by simp [hee]
      by_cases hen : endErr ra1 ea1 = 0
      · have hb2 : (endErr ra1 ea1 != 0) = false := by simp [hen]
        have hF3 : F = if okB ki tx1 0 0 [] then (⟨ki, tx1, 0, 0, []⟩, 0) else (OpM.zero, 4) := by rw [HF.out]; unfold rprsFin OpM.ok; rw [if_neg (by simp [hee]), if_neg (by rw [hee] at hen; simp [hen])]
        generalize endErr ra1 ea1 = en at *
        clear hee hen
        cases hok : okB ki tx1 0 0 [] with
        | true =>
          rw [hok] at HC hF3
          have HFF := Lib.hid hF3
          clear hok hF3 HF
          go_wp2_with (first | ((with_reducible refine HER.out.mono ?_); rintro r9 w9 ⟨rfl, rfl⟩) | ((with_reducible refine HEN.out.mono ?_); rintro r9 w9 ⟨rfl, rfl⟩))
          refine HC.out.mono ?_
          rintro q0 w8 ⟨rfl, h8⟩
          clear c0 c1 c2 c3 c4 g0 g1 g2 g3 g4 z0 z1 z2 z3 z4
          obtain ⟨c0, c1, c2, c3, c4⟩ := cells5 h8
          obtain ⟨g0, g1, g2, g3, g4⟩ := frz5 h8.sw3
          obtain ⟨z0, z1, z2, z3, z4⟩ := cells5 h8.sw3
          have h9 := store5 (u0 := .int .i64 ki) (u1 := .string tx1.1) (u2 := .int .i64 0) (u3 := .int .i64 0) (u4 := (.slice none 0 0)) h8.sw3
          obtain ⟨y0, y1, y2, y3, y4⟩ := cells5 h9
          have H9 := Lib.hid (h9.drop.drop.drop.rnNil 2 36)
          clear h8 h9 HC HZ HER HEN
          go_wp2_with fail
          exact bodyPost_ret (v := .tuple #[.agg #[.int .i64 ki, .string tx1.1, .int .i64 0, .int .i64 0, (.slice none 0 0)], .int .i64 0]) (by simp [results, Tryd.results80, go_sem, y0, y1, y2, y3, y4]) rfl ⟨⟨ki, tx1, 0, 0, []⟩, 0, _, rfl, HFF.out.symm, H9.out⟩
        | false =>
          rw [hok] at HC hF3
          have HFF := Lib.hid hF3
          clear hok hF3 HF
          go_wp2_with (first | ((with_reducible refine HER.out.mono ?_); rintro r9 w9 ⟨rfl, rfl⟩) | ((with_reducible refine HEN.out.mono ?_); rintro r9 w9 ⟨rfl, rfl⟩))
          refine HC.out.mono ?_
          rintro q0 w8 ⟨rfl, h8⟩
          clear c0 c1 c2 c3 c4 g0 g1 g2 g3 g4 z0 z1 z2 z3 z4
          obtain ⟨g0, g1, g2, g3, g4⟩ := frz5 h8.sw3
          obtain ⟨z0, z1, z2, z3, z4⟩ := cells5 h8.sw3
          have h9 := store5 (u0 := .int .i64 0) (u1 := .string ⟨#[]⟩) (u2 := .int .i64 0) (u3 := .int .i64 0) (u4 := .slice none 0 0) h8.sw3
          obtain ⟨y0, y1, y2, y3, y4⟩ := cells5 h9
          have H9 := Lib.hid (h9.drop.drop.drop.rnNil 2 36)
          clear h8 h9 HC HZ HER HEN
          go_wp2_with fail
          exact bodyPost_ret (v := .tuple #[.agg #[.int .i64 0, .string ⟨#[]⟩, .int .i64 0, .int .i64 0, .slice none 0 0], .int .i64 4]) (by simp [results, Tryd.results80, go_sem, y0, y1, y2, y3, y4]) rfl ⟨OpM.zero, 4, _, rfl, HFF.out.symm, H9.out⟩
      · have hb2 : (endErr ra1 ea1 != 0) = true := by rw [bne_iff_ne]; exact hen
        have hFF : F = (OpM.zero, 4) := by rw [HF.out]; unfold rprsFin; rw [if_neg (by simp [hee]), if_pos (by rw [hee] at hen; exact hen)]
        have h9 := store5 (u0 := .int .i64 0) (u1 := .string ⟨#[]⟩) (u2 := .int .i64 0) (u3 := .int .i64 0) (u4 := .slice none 0 0) HZ.out.sw3
        obtain ⟨y0, y1, y2, y3, y4⟩ := cells5 h9
        have H9 := Lib.hid (h9.drop.drop.drop.rnNil 2 36)
        have HFF := Lib.hid hFF
        generalize endErr ra1 ea1 = en at *
        clear h9 hFF hee hen HF HC
        go_wp2_with (first | ((with_reducible refine HER.out.mono ?_); rintro r9 w9 ⟨rfl, rfl⟩) | ((with_reducible refine HEN.out.mono ?_); rintro r9 w9 ⟨rfl, rfl⟩))
        exact bodyPost_ret (v := .tuple #[.agg #[.int .i64 0, .string ⟨#[]⟩, .int .i64 0, .int .i64 0, .slice none 0 0], .int .i64 4]) (by simp [results, Tryd.results80, go_sem, y0, y1, y2, y3, y4]) rfl ⟨OpM.zero, 4, _, rfl, HFF.out.symm, H9.out⟩
    · have hb : (ea1 != 0) = true := by rw [bne_iff_ne]; exact hee
      have hFF : F = (OpM.zero, ea1) := by rw [HF.out]; unfold rprsFin; rw [if_pos hee]
      have h9 := store5 (u0 := .int .i64 0) (u1 := .string ⟨#[]⟩) (u2 := .int .i64 0) (u3 := .int .i64 0) (u4 := .slice none 0 0) HZ.out.sw3
      obtain ⟨y0, y1, y2, y3, y4⟩ := cells5 h9
      have H9 := Lib.hid (h9.drop.drop.drop.rnNil 2 36)
      have HFF := Lib.hid hFF
      have HER2 := Lib.hid (rrerr_sep h9.sw3)
      clear h9 hFF hee HF HC HEN
      go_wp2_with (first | ((with_reducible refine HER.out.mono ?_); rintro r9 w9 ⟨rfl, rfl⟩) | ((with_reducible refine HER2.out.mono ?_); rintro r9 w9 ⟨rfl, rfl⟩))
      exact bodyPost_ret (v := .tuple #[.agg #[.int .i64 0, .string ⟨#[]⟩, .int .i64 0, .int .i64 0, .slice none 0 0], .int .i64 ea1]) (by simp [results, Tryd.results80, go_sem, y0, y1, y2, y3, y4]) rfl ⟨OpM.zero, ea1, _, rfl, HFF.out.symm, H9.out⟩
set_option maxRecDepth 100000 in
set_option maxHeartbeats 16000000 in
theorem rparse_2 {w : World} (v : Value) (l : List UInt8) (hv : Sl w v (bv l)) (hl : l.length ≤ 1000000) (hk : KindIs (rdNe l 0).1 true false true false false false) :
    Calls Tryd.prog 80 #[v] w (RPrs w (rprs2 (rdNe l 0).1 (rdNe l 0).2.1 (rdNe l 0).2.2)) := by
  have hlt := rdNe_lt l 0
  have hl1 := rdNe_len l 0
  have h0 := (Sep.start w).alloc (.cells #[.int .i64 0, .string ⟨#[]⟩, .int .i64 0, .int .i64 0, .slice none 0 0] 24)
  have HR := Lib.hid (rread_sep v l _ h0 (hv.below h0.low) (by omega))
  obtain ⟨ki, hki⟩ : ∃ ki, ki = (rdNe l 0).1 := ⟨_, rfl⟩
  have k0 : (0 : Int) ≤ (ki : Int) := by omega
  have k1 : (ki : Int) ≤ 255 := by omega
  have HN : Hid (∀ wx M g, Sep w (RrT g l 0 :: M) wx → Calls Tryd.prog 77 #[.pointer (some ⟨g, 0, none⟩), .int .i64 8] wx fun r w' => r = .returned (.int .u64 ki) ∧ Sep w (RrT g (rdNe l 0).2.1 (rdNe l 0).2.2 :: M) w') := Lib.hid fun wx M g hx => by rw [hki]; exact rrnum_sep hx
  rw [← hki] at hk ⊢
  have HS := Lib.hid (fun wx => hasSku_any (ki : Int) wx)
  have HO := Lib.hid (fun wx => hasOrder_any (ki : Int) wx)
  have HNu := Lib.hid (fun wx => hasN_any (ki : Int) wx)
  rw [hk.sk] at HS
  rw [hk.od] at HO
  rw [hk.nu] at HNu
  have had := hk.ad
  have hre := hk.re
  generalize (rdNe l 0).2.1 = r1 at *
  generalize (rdNe l 0).2.2 = e1 at *
  have HLN := Lib.hid (show r1.length ≤ 1000000 by omega)
  obtain ⟨F, hF⟩ : ∃ F, F = rprs2 ki r1 e1 := ⟨_, rfl⟩
  rw [← hF]
  unfold rprs2 at hF
  try dsimp only at hF
  have HF := Lib.hid hF
  obtain ⟨b0, hb0⟩ : ∃ z, z = w.heap.size := ⟨_, rfl⟩
  rw [← hb0] at HR
  clear hv hl hlt hki h0 hF hl1 hk
  go_enter Tryd.func80, Tryd.ntmps80
  go_wp2_with fail
  rw [← hb0]
  clear hb0
  refine HR.out.mono ?_
  rintro q0 w1 ⟨g, rfl, h1⟩
  have H1 := Lib.hid h1
  clear h1 HR
  go_wp2_with fail
  refine (HN.out _ _ _ H1.out).mono ?_
  rintro q0 w2 ⟨rfl, h2⟩
  have h3 := h2.alloc (.cells #[.int .i64 ki, .string ⟨#[]⟩, .int .i64 0, .int .i64 0, .slice none 0 0] 24)
  obtain ⟨bo, hbo⟩ : ∃ z, z = w2.heap.size := ⟨_, rfl⟩
  obtain ⟨wo, hwo⟩ : ∃ z, z = w2.alloc (.cells #[.int .i64 ki, .string ⟨#[]⟩, .int .i64 0, .int .i64 0, .slice none 0 0] 24) := ⟨_, rfl⟩
  rw [← hbo, ← hwo] at h3
  obtain ⟨c0, c1, c2, c3, c4⟩ := cells5 h3
  rw [hwo] at c0
  have H3 := Lib.hid h3
  clear h2 h3 HN H1
  go_wp2_with fail
  rw [← hwo, ← hbo]
  rw [← hwo] at c0
  clear hwo hbo
  have HV := Lib.hid (rrvarint_sep (Sep.sw2 H3.out))
  go_wp2_with (first | ((with_reducible refine (HS.out _).mono ?_); rintro r9 w9 ⟨rfl, rfl⟩) | ((with_reducible refine (HO.out _).mono ?_); rintro r9 w9 ⟨rfl, rfl⟩) | ((with_reducible refine (HNu.out _).mono ?_); rintro r9 w9 ⟨rfl, rfl⟩))
  refine HV.out.mono ?_
  rintro q0 w20 ⟨rfl, hs2⟩
  have HSM := Lib.hid (small_any (rdVe r1 e1).1 w20 (rdVe_u64 r1 e1))
  obtain ⟨sm2, hsm2⟩ : ∃ z, z = sml (rdVe r1 e1).1 := ⟨_, rfl⟩
  rw [← hsm2] at HSM HF
  clear hsm2
  generalize (rdVe r1 e1).1 = u2 at *
  generalize (rdVe r1 e1).2.1 = ra2 at *
  generalize (rdVe r1 e1).2.2 = ea2 at *
  clear HV c0 c1 c2 c3 c4
  obtain ⟨d0, d1, d2, d3, d4⟩ := cells5 (Sep.sw2 hs2)
  obtain ⟨f0, f1, f2, f3, f4⟩ := frz5 (Sep.sw2 hs2)
  have hz2 : Sep w [Cl bo #[.int .i64 ki, .string ⟨#[]⟩, .int .i64 (sm2), .int .i64 0, (.slice none 0 0)] 24, RrT g ra2 ea2, Cl b0 #[.int .i64 0, .string ⟨#[]⟩, .int .i64 0, .int .i64 0, .slice none 0 0] 24] (w20.setCell ⟨bo, 2, none⟩ (.int .i64 sm2)) := (Sep.sw2 hs2).setCell 2 _
  have y := cells5 hz2
  clear hs2
  go_wp2_with fail
  refine HSM.out.mono ?_
  rintro q0 wq ⟨rfl, rfl⟩
  clear HSM
  obtain ⟨c0, c1, c2, c3, c4⟩ := y
  have HZ := Lib.hid hz2
  have HER := Lib.hid (rrerr_sep (Sep.sw2 hz2))
  have HEN := Lib.hid (rrend_sep (Sep.sw2 hz2))
  go_wp2_with (first | ((with_reducible refine (HS.out _).mono ?_); rintro r9 w9 ⟨rfl, rfl⟩) | ((with_reducible refine (HO.out _).mono ?_); rintro r9 w9 ⟨rfl, rfl⟩) | ((with_reducible refine (HNu.out _).mono ?_); rintro r9 w9 ⟨rfl, rfl⟩))
  generalize (w20.setCell ⟨bo, 2, none⟩ (.int .i64 sm2)) = wz at *
  go_loopw [7] (fun i wr => i = .int .u64 0 ∧ wr = wz) (fun _ _ => 0)
  case atStart => exact ⟨rfl, rfl⟩
  case round =>
    obtain ⟨rfl, rfl⟩ := hrel
    have HC : Hid (Calls Tryd.prog 34 #[.agg #[.int .i64 ki, .string ⟨#[]⟩, .int .i64 (sm2), .int .i64 0, (.slice none 0 0)]] _ fun e w' => e = .returned (.int .i64 (if okB ki sZ (sm2) 0 [] then 0 else 2)) ∧ Sep w [Cl bo #[.int .i64 ki, .string ⟨#[]⟩, .int .i64 (sm2), .int .i64 0, (.slice none 0 0)] 24, RrT g ra2 ea2, Cl b0 #[.int .i64 0, .string ⟨#[]⟩, .int .i64 0, .int .i64 0, .slice none 0 0] 24] w') := Lib.hid (rcheck_any ki sZ (sm2) 0 (.slice none 0 0) [] HZ.out (.inl ⟨none, 0, rfl, fun _ => rfl, rfl⟩) (by first | (simp; done) | omega))
    obtain ⟨g0, g1, g2, g3, g4⟩ := frz5 HZ.out.sw3
    obtain ⟨z0, z1, z2, z3, z4⟩ := cells5 HZ.out.sw3
    by_cases hee : ea2 = 0
    · have hb : (ea2 != 0) = false := by simp [hee]
      by_cases hen : endErr ra2 ea2 = 0
      · have hb2 : (endErr ra2 ea2 != 0) = false := by simp [hen]
        have hF3 : F = if okB ki sZ (sm2) 0 [] then (⟨ki, sZ, (sm2), 0, []⟩, 0) else (OpM.zero, 4) := by rw [HF.out]; unfold rprsFin OpM.ok; rw [if_neg (by simp [hee]), if_neg (by rw [hee] at hen; simp [hen])]
        generalize endErr ra2 ea2 = en at *
        clear hee hen
        cases hok : okB ki sZ (sm2) 0 [] with
        | true =>
          rw [hok] at HC hF3
          have HFF := Lib.hid hF3
          clear hok hF3 HF
          go_wp2_with (first | ((with_reducible refine HER.out.mono ?_); rintro r9 w9 ⟨rfl, rfl⟩) | ((with_reducible refine HEN.out.mono ?_); rintro r9 w9 ⟨rfl, rfl⟩))
          refine HC.out.mono ?_
          rintro q0 w8 ⟨rfl, h8⟩
          clear c0 c1 c2 c3 c4 g0 g1 g2 g3 g4 z0 z1 z2 z3 z4
          obtain ⟨c0, c1, c2, c3, c4⟩ := cells5 h8
          obtain ⟨g0, g1, g2, g3, g4⟩ := frz5 h8.sw3
          obtain ⟨z0, z1, z2, z3, z4⟩ := cells5 h8.sw3
          have h9 := store5 (u0 := .int .i64 ki) (u1 := .string ⟨#[]⟩) (u2 := .int .i64 (sm2)) (u3 := .int .i64 0) (u4 := (.slice none 0 0)) h8.sw3
          obtain ⟨y0, y1, y2, y3, y4⟩ := cells5 h9
          have H9 := Lib.hid (h9.drop.drop.drop.rnNil 2 36)
          clear h8 h9 HC HZ HER HEN
          go_wp2_with fail
          exact bodyPost_ret (v := .tuple #[.agg #[.int .i64 ki, .string ⟨#[]⟩, .int .i64 (sm2), .int .i64 0, (.slice none 0 0)], .int .i64 0]) (by simp [results, Tryd.results80, go_sem, y0, y1, y2, y3, y4]) rfl ⟨⟨ki, sZ, (sm2), 0, []⟩, 0, _, rfl, HFF.out.symm, H9.out⟩
        | false =>
          rw [hok] at HC hF3
          have HFF := Lib.hid hF3
          clear hok hF3 HF
          go_wp2_with (first | ((with_reducible refine HER.out.mono ?_); rintro r9 w9 ⟨rfl, rfl⟩) | ((with_reducible refine HEN.out.mono ?_); rintro r9 w9 ⟨rfl, rfl⟩))
          refine HC.out.mono ?_
          rintro q0 w8 ⟨rfl, h8⟩
          clear c0 c1 c2 c3 c4 g0 g1 g2 g3 g4 z0 z1 z2 z3 z4
          obtain ⟨g0, g1, g2, g3, g4⟩ := frz5 h8.sw3
          obtain ⟨z0, z1, z2, z3, z4⟩ := cells5 h8.sw3
          have h9 := store5 (u0 := .int .i64 0) (u1 := .string ⟨#[]⟩) (u2 := .int .i64 0) (u3 := .int .i64 0) (u4 := .slice none 0 0) h8.sw3
          obtain ⟨y0, y1, y2, y3, y4⟩ := cells5 h9
          have H9 := Lib.hid (h9.drop.drop.drop.rnNil 2 36)
          clear h8 h9 HC HZ HER HEN
          go_wp2_with fail
          exact bodyPost_ret (v := .tuple #[.agg #[.int .i64 0, .string ⟨#[]⟩, .int .i64 0, .int .i64 0, .slice none 0 0], .int .i64 4]) (by simp [results, Tryd.results80, go_sem, y0, y1, y2, y3, y4]) rfl ⟨OpM.zero, 4, _, rfl, HFF.out.symm, H9.out⟩
      · have hb2 : (endErr ra2 ea2 != 0) = true := by rw [bne_iff_ne]; exact hen
        have hFF : F = (OpM.zero, 4) := by rw [HF.out]; unfold rprsFin; rw [if_neg (by simp [hee]), if_pos (by rw [hee] at hen; exact hen)]
        have h9 := store5 (u0 := .int .i64 0) (u1 := .string ⟨#[]⟩) (u2 := .int .i64 0) (u3 := .int .i64 0) (u4 := .slice none 0 0) HZ.out.sw3
        obtain ⟨y0, y1, y2, y3, y4⟩ := cells5 h9
        have H9 := Lib.hid (h9.drop.drop.drop.rnNil 2 36)
        have HFF := Lib.hid hFF
        generalize endErr ra2 ea2 = en at *
        clear h9 hFF hee hen HF HC
        go_wp2_with (first | ((with_reducible refine HER.out.mono ?_); rintro r9 w9 ⟨rfl, rfl⟩) | ((with_reducible refine HEN.out.mono ?_); rintro r9 w9 ⟨rfl, rfl⟩))
        exact bodyPost_ret (v := .tuple #[.agg #[.int .i64 0, .string ⟨#[]⟩, .int .i64 0, .int .i64 0, .slice none 0 0], .int .i64 4]) (by simp [results, Tryd.results80, go_sem, y0, y1, y2, y3, y4]) rfl ⟨OpM.zero, 4, _, rfl, HFF.out.symm, H9.out⟩
    · have hb : (ea2 != 0) = true := by rw [bne_iff_ne]; exact hee
      have hFF : F = (OpM.zero, ea2) := by rw [HF.out]; unfold rprsFin; rw [if_pos hee]
      have h9 := store5 (u0 := .int .i64 0) (u1 := .string ⟨#[]⟩) (u2 := .int .i64 0) (u3 := .int .i64 0) (u4 := .slice none 0 0) HZ.out.sw3
      obtain ⟨y0, y1, y2, y3, y4⟩ := cells5 h9
      have H9 := Lib.hid (h9.drop.drop.drop.rnNil 2 36)
      have HFF := Lib.hid hFF
      have HER2 := Lib.hid (rrerr_sep h9.sw3)
      clear h9 hFF hee HF HC HEN
      go_wp2_with (first | ((with_reducible refine HER.out.mono ?_); rintro r9 w9 ⟨rfl, rfl⟩) | ((with_reducible refine HER2.out.mono ?_); rintro r9 w9 ⟨rfl, rfl⟩))
      exact bodyPost_ret (v := .tuple #[.agg #[.int .i64 0, .string ⟨#[]⟩, .int .i64 0, .int .i64 0, .slice none 0 0], .int .i64 ea2]) (by simp [results, Tryd.results80, go_sem, y0, y1, y2, y3, y4]) rfl ⟨OpM.zero, ea2, _, rfl, HFF.out.symm, H9.out⟩
set_option maxRecDepth 100000 in
set_option maxHeartbeats 16000000 in
theorem rparse_4 {w : World} (v : Value) (l : List UInt8) (hv : Sl w v (bv l)) (hl : l.length ≤ 1000000) (hk : KindIs (rdNe l 0).1 true false false false true false) :
    Calls Tryd.prog 80 #[v] w (RPrs w (rprs4 (rdNe l 0).1 (rdNe l 0).2.1 (rdNe l 0).2.2)) := by
  have hlt := rdNe_lt l 0
  have hl1 := rdNe_len l 0
  have h0 := (Sep.start w).alloc (.cells #[.int .i64 0, .string ⟨#[]⟩, .int .i64 0, .int .i64 0, .slice none 0 0] 24)
  have HR := Lib.hid (rread_sep v l _ h0 (hv.below h0.low) (by omega))
  obtain ⟨ki, hki⟩ : ∃ ki, ki = (rdNe l 0).1 := ⟨_, rfl⟩
  have k0 : (0 : Int) ≤ (ki : Int) := by omega
  have k1 : (ki : Int) ≤ 255 := by omega
  have HN : Hid (∀ wx M g, Sep w (RrT g l 0 :: M) wx → Calls Tryd.prog 77 #[.pointer (some ⟨g, 0, none⟩), .int .i64 8] wx fun r w' => r = .returned (.int .u64 ki) ∧ Sep w (RrT g (rdNe l 0).2.1 (rdNe l 0).2.2 :: M) w') := Lib.hid fun wx M g hx => by rw [hki]; exact rrnum_sep hx
  rw [← hki] at hk ⊢
  have HS := Lib.hid (fun wx => hasSku_any (ki : Int) wx)
  have HO := Lib.hid (fun wx => hasOrder_any (ki : Int) wx)
  have HNu := Lib.hid (fun wx => hasN_any (ki : Int) wx)
  rw [hk.sk] at HS
  rw [hk.od] at HO
  rw [hk.nu] at HNu
  have had := hk.ad
  have hre := hk.re
  generalize (rdNe l 0).2.1 = r1 at *
  generalize (rdNe l 0).2.2 = e1 at *
  have HLN := Lib.hid (show r1.length ≤ 1000000 by omega)
  obtain ⟨F, hF⟩ : ∃ F, F = rprs4 ki r1 e1 := ⟨_, rfl⟩
  rw [← hF]
  unfold rprs4 at hF
  try dsimp only at hF
  have HF := Lib.hid hF
  obtain ⟨b0, hb0⟩ : ∃ z, z = w.heap.size := ⟨_, rfl⟩
  rw [← hb0] at HR
  clear hv hl hlt hki h0 hF hl1 hk
  go_enter Tryd.func80, Tryd.ntmps80
  go_wp2_with fail
  rw [← hb0]
  clear hb0
  refine HR.out.mono ?_
  rintro q0 w1 ⟨g, rfl, h1⟩
  have H1 := Lib.hid h1
  clear h1 HR
  go_wp2_with fail
  refine (HN.out _ _ _ H1.out).mono ?_
  rintro q0 w2 ⟨rfl, h2⟩
  have h3 := h2.alloc (.cells #[.int .i64 ki, .string ⟨#[]⟩, .int .i64 0, .int .i64 0, .slice none 0 0] 24)
  obtain ⟨bo, hbo⟩ : ∃ z, z = w2.heap.size := ⟨_, rfl⟩
  obtain ⟨wo, hwo⟩ : ∃ z, z = w2.alloc (.cells #[.int .i64 ki, .string ⟨#[]⟩, .int .i64 0, .int .i64 0, .slice none 0 0] 24) := ⟨_, rfl⟩
  rw [← hbo, ← hwo] at h3
  obtain ⟨c0, c1, c2, c3, c4⟩ := cells5 h3
  rw [hwo] at c0
  have H3 := Lib.hid h3
  clear h2 h3 HN H1
  go_wp2_with fail
  rw [← hwo, ← hbo]
  rw [← hwo] at c0
  clear hwo hbo
  have HV := Lib.hid (rrvarint_sep (Sep.sw2 H3.out))
  go_wp2_with (first | ((with_reducible refine (HS.out _).mono ?_); rintro r9 w9 ⟨rfl, rfl⟩) | ((with_reducible refine (HO.out _).mono ?_); rintro r9 w9 ⟨rfl, rfl⟩) | ((with_reducible refine (HNu.out _).mono ?_); rintro r9 w9 ⟨rfl, rfl⟩))
  refine HV.out.mono ?_
  rintro q0 w30 ⟨rfl, hs3⟩
  have HSM := Lib.hid (small_any (rdVe r1 e1).1 w30 (rdVe_u64 r1 e1))
  obtain ⟨sm3, hsm3⟩ : ∃ z, z = sml (rdVe r1 e1).1 := ⟨_, rfl⟩
  rw [← hsm3] at HSM HF
  clear hsm3
  generalize (rdVe r1 e1).1 = u3 at *
  generalize (rdVe r1 e1).2.1 = ra3 at *
  generalize (rdVe r1 e1).2.2 = ea3 at *
  clear HV c0 c1 c2 c3 c4
  obtain ⟨d0, d1, d2, d3, d4⟩ := cells5 (Sep.sw2 hs3)
  obtain ⟨f0, f1, f2, f3, f4⟩ := frz5 (Sep.sw2 hs3)
  have hz3 : Sep w [Cl bo #[.int .i64 ki, .string ⟨#[]⟩, .int .i64 0, .int .i64 (sm3), (.slice none 0 0)] 24, RrT g ra3 ea3, Cl b0 #[.int .i64 0, .string ⟨#[]⟩, .int .i64 0, .int .i64 0, .slice none 0 0] 24] (w30.setCell ⟨bo, 3, none⟩ (.int .i64 sm3)) := (Sep.sw2 hs3).setCell 3 _
  have y := cells5 hz3
  clear hs3
  go_wp2_with fail
  refine HSM.out.mono ?_
  rintro q0 wq ⟨rfl, rfl⟩
  clear HSM
  obtain ⟨c0, c1, c2, c3, c4⟩ := y
  have HZ := Lib.hid hz3
  have HER := Lib.hid (rrerr_sep (Sep.sw2 hz3))
  have HEN := Lib.hid (rrend_sep (Sep.sw2 hz3))
  go_wp2_with (first | ((with_reducible refine (HS.out _).mono ?_); rintro r9 w9 ⟨rfl, rfl⟩) | ((with_reducible refine (HO.out _).mono ?_); rintro r9 w9 ⟨rfl, rfl⟩) | ((with_reducible refine (HNu.out _).mono ?_); rintro r9 w9 ⟨rfl, rfl⟩))
  generalize (w30.setCell ⟨bo, 3, none⟩ (.int .i64 sm3)) = wz at *
  go_loopw [7] (fun i wr => i = .int .u64 0 ∧ wr = wz) (fun _ _ => 0)
  case atStart => exact ⟨rfl, rfl⟩
  case round =>
    obtain ⟨rfl, rfl⟩ := hrel
    have HC : Hid (Calls Tryd.prog 34 #[.agg #[.int .i64 ki, .string ⟨#[]⟩, .int .i64 0, .int .i64 (sm3), (.slice none 0 0)]] _ fun e w' => e = .returned (.int .i64 (if okB ki sZ 0 (sm3) [] then 0 else 2)) ∧ Sep w [Cl bo #[.int .i64 ki, .string ⟨#[]⟩, .int .i64 0, .int .i64 (sm3), (.slice none 0 0)] 24, RrT g ra3 ea3, Cl b0 #[.int .i64 0, .string ⟨#[]⟩, .int .i64 0, .int .i64 0, .slice none 0 0] 24] w') := Lib.hid (rcheck_any ki sZ 0 (sm3) (.slice none 0 0) [] HZ.out (.inl ⟨none, 0, rfl, fun _ => rfl, rfl⟩) (by first | (simp; done) | omega))
    obtain ⟨g0, g1, g2, g3, g4⟩ := frz5 HZ.out.sw3
    obtain ⟨z0, z1, z2, z3, z4⟩ := cells5 HZ.out.sw3
    by_cases hee : ea3 = 0
    · have hb : (ea3 != 0) = false := by simp [hee]
      by_cases hen : endErr ra3 ea3 = 0
      · have hb2 : (endErr ra3 ea3 != 0) = false := by simp [hen]
        have hF3 : F = if okB ki sZ 0 (sm3) [] then (⟨ki, sZ, 0, (sm3), []⟩, 0) else (OpM.zero, 4) := by rw [HF.out]; unfold rprsFin OpM.ok; rw [if_neg (by simp [hee]), if_neg (by rw [hee] at hen; simp [hen])]
        generalize endErr ra3 ea3 = en at *
        clear hee hen
        cases hok : okB ki sZ 0 (sm3) [] with
        | true =>
          rw [hok] at HC hF3
          have HFF := Lib.hid hF3
          clear hok hF3 HF
          go_wp2_with (first | ((with_reducible refine HER.out.mono ?_); rintro r9 w9 ⟨rfl, rfl⟩) | ((with_reducible refine HEN.out.mono ?_); rintro r9 w9 ⟨rfl, rfl⟩))
          refine HC.out.mono ?_
          rintro q0 w8 ⟨rfl, h8⟩
          clear c0 c1 c2 c3 c4 g0 g1 g2 g3 g4 z0 z1 z2 z3 z4
          obtain ⟨c0, c1, c2, c3, c4⟩ := cells5 h8
          obtain ⟨g0, g1, g2, g3, g4⟩ := frz5 h8.sw3
          obtain ⟨z0, z1, z2, z3, z4⟩ := cells5 h8.sw3
          have h9 := store5 (u0 := .int .i64 ki) (u1 := .string ⟨#[]⟩) (u2 := .int .i64 0) (u3 := .int .i64 (sm3)) (u4 := (.slice none 0 0)) h8.sw3
          obtain ⟨y0, y1, y2, y3, y4⟩ := cells5 h9
          have H9 := Lib.hid (h9.drop.drop.drop.rnNil 2 36)
          clear h8 h9 HC HZ HER HEN
          go_wp2_with fail
          exact bodyPost_ret (v := .tuple #[.agg #[.int .i64 ki, .string ⟨#[]⟩, .int .i64 0, .int .i64 (sm3), (.slice none 0 0)], .int .i64 0]) (by simp [results, Tryd.results80, go_sem, y0, y1, y2, y3, y4]) rfl ⟨⟨ki, sZ, 0, (sm3), []⟩, 0, _, rfl, HFF.out.symm, H9.out⟩
        | false =>
          rw [hok] at HC hF3
          have HFF := Lib.hid hF3
          clear hok hF3 HF
          go_wp2_with (first | ((with_reducible refine HER.out.mono ?_); rintro r9 w9 ⟨rfl, rfl⟩) | ((with_reducible refine HEN.out.mono ?_); rintro r9 w9 ⟨rfl, rfl⟩))
          refine HC.out.mono ?_
          rintro q0 w8 ⟨rfl, h8⟩
          clear c0 c1 c2 c3 c4 g0 g1 g2 g3 g4 z0 z1 z2 z3 z4
          obtain ⟨g0, g1, g2, g3, g4⟩ := frz5 h8.sw3
          obtain ⟨z0, z1, z2, z3, z4⟩ := cells5 h8.sw3
          have h9 := store5 (u0 := .int .i64 0) (u1 := .string ⟨#[]⟩) (u2 := .int .i64 0) (u3 := .int .i64 0) (u4 := .slice none 0 0) h8.sw3
          obtain ⟨y0, y1, y2, y3, y4⟩ := cells5 h9
          have H9 := Lib.hid (h9.drop.drop.drop.rnNil 2 36)
          clear h8 h9 HC HZ HER HEN
          go_wp2_with fail
          exact bodyPost_ret (v := .tuple #[.agg #[.int .i64 0, .string ⟨#[]⟩, .int .i64 0, .int .i64 0, .slice none 0 0], .int .i64 4]) (by simp [results, Tryd.results80, go_sem, y0, y1, y2, y3, y4]) rfl ⟨OpM.zero, 4, _, rfl, HFF.out.symm, H9.out⟩
      · have hb2 : (endErr ra3 ea3 != 0) = true := by rw [bne_iff_ne]; exact hen
        have hFF : F = (OpM.zero, 4) := by rw [HF.out]; unfold rprsFin; rw [if_neg (by simp [hee]), if_pos (by rw [hee] at hen; exact hen)]
        have h9 := store5 (u0 := .int .i64 0) (u1 := .string ⟨#[]⟩) (u2 := .int .i64 0) (u3 := .int .i64 0) (u4 := .slice none 0 0) HZ.out.sw3
        obtain ⟨y0, y1, y2, y3, y4⟩ := cells5 h9
        have H9 := Lib.hid (h9.drop.drop.drop.rnNil 2 36)
        have HFF := Lib.hid hFF
        generalize endErr ra3 ea3 = en at *
        clear h9 hFF hee hen HF HC
        go_wp2_with (first | ((with_reducible refine HER.out.mono ?_); rintro r9 w9 ⟨rfl, rfl⟩) | ((with_reducible refine HEN.out.mono ?_); rintro r9 w9 ⟨rfl, rfl⟩))
        exact bodyPost_ret (v := .tuple #[.agg #[.int .i64 0, .string ⟨#[]⟩, .int .i64 0, .int .i64 0, .slice none 0 0], .int .i64 4]) (by simp [results, Tryd.results80, go_sem, y0, y1, y2, y3, y4]) rfl ⟨OpM.zero, 4, _, rfl, HFF.out.symm, H9.out⟩
    · have hb : (ea3 != 0) = true := by rw [bne_iff_ne]; exact hee
      have hFF : F = (OpM.zero, ea3) := by rw [HF.out]; unfold rprsFin; rw [if_pos hee]
      have h9 := store5 (u0 := .int .i64 0) (u1 := .string ⟨#[]⟩) (u2 := .int .i64 0) (u3 := .int .i64 0) (u4 := .slice none 0 0) HZ.out.sw3
      obtain ⟨y0, y1, y2, y3, y4⟩ := cells5 h9
      have H9 := Lib.hid (h9.drop.drop.drop.rnNil 2 36)
      have HFF := Lib.hid hFF
      have HER2 := Lib.hid (rrerr_sep h9.sw3)
      clear h9 hFF hee HF HC HEN
      go_wp2_with (first | ((with_reducible refine HER.out.mono ?_); rintro r9 w9 ⟨rfl, rfl⟩) | ((with_reducible refine HER2.out.mono ?_); rintro r9 w9 ⟨rfl, rfl⟩))
      exact bodyPost_ret (v := .tuple #[.agg #[.int .i64 0, .string ⟨#[]⟩, .int .i64 0, .int .i64 0, .slice none 0 0], .int .i64 ea3]) (by simp [results, Tryd.results80, go_sem, y0, y1, y2, y3, y4]) rfl ⟨OpM.zero, ea3, _, rfl, HFF.out.symm, H9.out⟩
set_option maxRecDepth 100000 in
set_option maxHeartbeats 16000000 in
theorem rparse_5 {w : World} (v : Value) (l : List UInt8) (hv : Sl w v (bv l)) (hl : l.length ≤ 1000000) (hk : KindIs (rdNe l 0).1 true true false false true false) :
    Calls Tryd.prog 80 #[v] w (RPrs w (rprs5 (rdNe l 0).1 (rdNe l 0).2.1 (rdNe l 0).2.2)) := by
  have hlt := rdNe_lt l 0
  have hl1 := rdNe_len l 0
  have h0 := (Sep.start w).alloc (.cells #[.int .i64 0, .string ⟨#[]⟩, .int .i64 0, .int .i64 0, .slice none 0 0] 24)
  have HR := Lib.hid (rread_sep v l _ h0 (hv.below h0.low) (by omega))
  obtain ⟨ki, hki⟩ : ∃ ki, ki = (rdNe l 0).1 := ⟨_, rfl⟩
  have k0 : (0 : Int) ≤ (ki : Int) := by omega
  have k1 : (ki : Int) ≤ 255 := by omega
  have HN : Hid (∀ wx M g, Sep w (RrT g l 0 :: M) wx → Calls Tryd.prog 77 #[.pointer (some ⟨g, 0, none⟩), .int .i64 8] wx fun r w' => r = .returned (.int .u64 ki) ∧ Sep w (RrT g (rdNe l 0).2.1 (rdNe l 0).2.2 :: M) w') := Lib.hid fun wx M g hx => by rw [hki]; exact rrnum_sep hx
  rw [← hki] at hk ⊢
  have HS := Lib.hid (fun wx => hasSku_any (ki : Int) wx)
  have HO := Lib.hid (fun wx => hasOrder_any (ki : Int) wx)
  have HNu := Lib.hid (fun wx => hasN_any (ki : Int) wx)
  rw [hk.sk] at HS
  rw [hk.od] at HO
  rw [hk.nu] at HNu
  have had := hk.ad
  have hre := hk.re
  generalize (rdNe l 0).2.1 = r1 at *
  generalize (rdNe l 0).2.2 = e1 at *
  have HLN := Lib.hid (show r1.length ≤ 1000000 by omega)
  obtain ⟨F, hF⟩ : ∃ F, F = rprs5 ki r1 e1 := ⟨_, rfl⟩
  rw [← hF]
  unfold rprs5 at hF
  try dsimp only at hF
  have HF := Lib.hid hF
  obtain ⟨b0, hb0⟩ : ∃ z, z = w.heap.size := ⟨_, rfl⟩
  rw [← hb0] at HR
  clear hv hl hlt hki h0 hF hl1 hk
  go_enter Tryd.func80, Tryd.ntmps80
  go_wp2_with fail
  rw [← hb0]
  clear hb0
  refine HR.out.mono ?_
  rintro q0 w1 ⟨g, rfl, h1⟩
  have H1 := Lib.hid h1
  clear h1 HR
  go_wp2_with fail
  refine (HN.out _ _ _ H1.out).mono ?_
  rintro q0 w2 ⟨rfl, h2⟩
  have h3 := h2.alloc (.cells #[.int .i64 ki, .string ⟨#[]⟩, .int .i64 0, .int .i64 0, .slice none 0 0] 24)
  obtain ⟨bo, hbo⟩ : ∃ z, z = w2.heap.size := ⟨_, rfl⟩
  obtain ⟨wo, hwo⟩ : ∃ z, z = w2.alloc (.cells #[.int .i64 ki, .string ⟨#[]⟩, .int .i64 0, .int .i64 0, .slice none 0 0] 24) := ⟨_, rfl⟩
  rw [← hbo, ← hwo] at h3
  obtain ⟨c0, c1, c2, c3, c4⟩ := cells5 h3
  rw [hwo] at c0
  have H3 := Lib.hid h3
  clear h2 h3 HN H1
  go_wp2_with fail
  rw [← hwo, ← hbo]
  rw [← hwo] at c0
  clear hwo hbo
  have HV := Lib.hid (rrtext_sep (Sep.sw2 H3.out) (by have := HLN.out; omega))
  have htl := rdTe_len r1 e1
  go_wp2_with (first | ((with_reducible refine (HS.out _).mono ?_); rintro r9 w9 ⟨rfl, rfl⟩) | ((with_reducible refine (HO.out _).mono ?_); rintro r9 w9 ⟨rfl, rfl⟩) | ((with_reducible refine (HNu.out _).mono ?_); rintro r9 w9 ⟨rfl, rfl⟩))
  refine HV.out.mono ?_
  rintro q0 w10 ⟨vt, rfl, ht⟩
  obtain ⟨at9, ct9, rfl⟩ := ht.sl.len
  rw [bv_length] at ht
  rw [bv_length]
  have hcv := conv_bytes (P := Tryd.prog) Tryd.underlying27 Tryd.underlying5 Tryd.underlying9 ht.sl
  have hs1 := ht.drop
  have hmk := mkS_val (l := (rdTe r1 e1).1) (by have := HLN.out; unfold maxLen; omega)
  have HLN2 := Lib.hid (show (rdTe r1 e1).2.1.length ≤ 1000000 by have := HLN.out; omega)
  rw [← hmk] at hcv
  clear hmk htl HV HLN ht c0 c1 c2 c3 c4
  generalize mkS (rdTe r1 e1).1 = tx1 at *
  generalize (rdTe r1 e1).2.1 = ra1 at *
  generalize (rdTe r1 e1).2.2 = ea1 at *
  obtain ⟨f0, f1, f2, f3, f4⟩ := frz5 (Sep.sw2 hs1)
  obtain ⟨d0, d1, d2, d3, d4⟩ := cells5 (Sep.sw2 hs1)
  have hz1 : Sep w [Cl bo #[.int .i64 ki, .string tx1.1, .int .i64 0, .int .i64 0, (.slice none 0 0)] 24, RrT g ra1 ea1, Cl b0 #[.int .i64 0, .string ⟨#[]⟩, .int .i64 0, .int .i64 0, .slice none 0 0] 24] (w10.setCell ⟨bo, 1, none⟩ (.string tx1.1)) := (Sep.sw2 hs1).setCell 1 _
  obtain ⟨c0, c1, c2, c3, c4⟩ := cells5 hz1
  clear hs1
  have HV := Lib.hid (rrvarint_sep (Sep.sw2 hz1))
  go_wp2_with (first | ((with_reducible refine (HS.out _).mono ?_); rintro r9 w9 ⟨rfl, rfl⟩) | ((with_reducible refine (HO.out _).mono ?_); rintro r9 w9 ⟨rfl, rfl⟩) | ((with_reducible refine (HNu.out _).mono ?_); rintro r9 w9 ⟨rfl, rfl⟩))
  refine HV.out.mono ?_
  rintro q0 w30 ⟨rfl, hs3⟩
  have HSM := Lib.hid (small_any (rdVe ra1 ea1).1 w30 (rdVe_u64 ra1 ea1))
  obtain ⟨sm3, hsm3⟩ : ∃ z, z = sml (rdVe ra1 ea1).1 := ⟨_, rfl⟩
  rw [← hsm3] at HSM HF
  clear hsm3
  generalize (rdVe ra1 ea1).1 = u3 at *
  generalize (rdVe ra1 ea1).2.1 = ra3 at *
  generalize (rdVe ra1 ea1).2.2 = ea3 at *
  clear HV c0 c1 c2 c3 c4
  obtain ⟨d0, d1, d2, d3, d4⟩ := cells5 (Sep.sw2 hs3)
  obtain ⟨f0, f1, f2, f3, f4⟩ := frz5 (Sep.sw2 hs3)
  have hz3 : Sep w [Cl bo #[.int .i64 ki, .string tx1.1, .int .i64 0, .int .i64 (sm3), (.slice none 0 0)] 24, RrT g ra3 ea3, Cl b0 #[.int .i64 0, .string ⟨#[]⟩, .int .i64 0, .int .i64 0, .slice none 0 0] 24] (w30.setCell ⟨bo, 3, none⟩ (.int .i64 sm3)) := (Sep.sw2 hs3).setCell 3 _
  have y := cells5 hz3
  clear hs3
  go_wp2_with fail
  refine HSM.out.mono ?_
  rintro q0 wq ⟨rfl, rfl⟩
  clear HSM
  obtain ⟨c0, c1, c2, c3, c4⟩ := y
  have HZ := Lib.hid hz3
  have HER := Lib.hid (rrerr_sep (Sep.sw2 hz3))
  have HEN := Lib.hid (rrend_sep (Sep.sw2 hz3))
  go_wp2_with (first | ((with_reducible refine (HS.out _).mono ?_); rintro r9 w9 ⟨rfl, rfl⟩) | ((with_reducible refine (HO.out _).mono ?_); rintro r9 w9 ⟨rfl, rfl⟩) | ((with_reducible refine (HNu.out _).mono ?_); rintro r9 w9 ⟨rfl, rfl⟩))
  generalize (w30.setCell ⟨bo, 3, none⟩ (.int .i64 sm3)) = wz at *
  go_loopw [7] (fun i wr => i = .int .u64 0 ∧ wr = wz) (fun _ _ => 0)
  case atStart => exact ⟨rfl, rfl⟩
  case round =>
    obtain ⟨rfl, rfl⟩ := hrel
    have HC : Hid (Calls Tryd.prog 34 #[.agg #[.int .i64 ki, .string tx1.1, .int .i64 0, .int .i64 (sm3), (.slice none 0 0)]] _ fun e w' => e = .returned (.int .i64 (if okB ki tx1 0 (sm3) [] then 0 else 2)) ∧ Sep w [Cl bo #[.int .i64 ki, .string tx1.1, .int .i64 0, .int .i64 (sm3), (.slice none 0 0)] 24, RrT g ra3 ea3, Cl b0 #[.int .i64 0, .string ⟨#[]⟩, .int .i64 0, .int .i64 0, .slice none 0 0] 24] w') := Lib.hid (rcheck_any ki tx1 0 (sm3) (.slice none 0 0) [] HZ.out (.inl ⟨none, 0, rfl, fun _ => rfl, rfl⟩) (by first | (simp; done) | omega))
    obtain ⟨g0, g1, g2, g3, g4⟩ := frz5 HZ.out.sw3
    obtain ⟨z0, z1, z2, z3, z4⟩ := cells5 HZ.out.sw3
    by_cases hee : ea3 = 0
    · have hb : (ea3 != 0) = false := by simp [hee]
      by_cases hen : endErr ra3 ea3 = 0
      · have hb2 : (endErr ra3 ea3 != 0) = false := by simp [hen]
        have hF3 : F = if okB ki tx1 0 (sm3) [] then (⟨ki, tx1, 0, (sm3), []⟩, 0) else (OpM.zero, 4) := by rw [HF.out]; unfold rprsFin OpM.ok; rw [if_neg (by simp [hee]), if_neg (by rw [hee] at hen; simp [hen])]
        generalize endErr ra3 ea3 = en at *
        clear hee hen
        cases hok : okB ki tx1 0 (sm3) [] with
        | true =>
          rw [hok] at HC hF3
          have HFF := Lib.hid hF3
          clear hok hF3 HF
          go_wp2_with (first | ((with_reducible refine HER.out.mono ?_); rintro r9 w9 ⟨rfl, rfl⟩) | ((with_reducible refine HEN.out.mono ?_); rintro r9 w9 ⟨rfl, rfl⟩))
          refine HC.out.mono ?_
          rintro q0 w8 ⟨rfl, h8⟩
          clear c0 c1 c2 c3 c4 g0 g1 g2 g3 g4 z0 z1 z2 z3 z4
          obtain ⟨c0, c1, c2, c3, c4⟩ := cells5 h8
          obtain ⟨g0, g1, g2, g3, g4⟩ := frz5 h8.sw3
          obtain ⟨z0, z1, z2, z3, z4⟩ := cells5 h8.sw3
          have h9 := store5 (u0 := .int .i64 ki) (u1 := .string tx1.1) (u2 := .int .i64 0) (u3 := .int .i64 (sm3)) (u4 := (.slice none 0 0)) h8.sw3
          obtain ⟨y0, y1, y2, y3, y4⟩ := cells5 h9
          have H9 := Lib.hid (h9.drop.drop.drop.rnNil 2 36)
          clear h8 h9 HC HZ HER HEN
          go_wp2_with fail
          exact bodyPost_ret (v := .tuple #[.agg #[.int .i64 ki, .string tx1.1, .int .i64 0, .int .i64 (sm3), (.slice none 0 0)], .int .i64 0]) (by simp [results, Tryd.results80, go_sem, y0, y1, y2, y3, y4]) rfl ⟨⟨ki, tx1, 0, (sm3), []⟩, 0, _, rfl, HFF.out.symm, H9.out⟩
        | false =>
          rw [hok] at HC hF3
          have HFF := Lib.hid hF3
          clear hok hF3 HF
          go_wp2_with (first | ((with_reducible refine HER.out.mono ?_); rintro r9 w9 ⟨rfl, rfl⟩) | ((with_reducible refine HEN.out.mono ?_); rintro r9 w9 ⟨rfl, rfl⟩))
          refine HC.out.mono ?_
          rintro q0 w8 ⟨rfl, h8⟩
          clear c0 c1 c2 c3 c4 g0 g1 g2 g3 g4 z0 z1 z2 z3 z4
          obtain ⟨g0, g1, g2, g3, g4⟩ := frz5 h8.sw3
          obtain ⟨z0, z1, z2, z3, z4⟩ := cells5 h8.sw3
          have h9 := store5 (u0 := .int .i64 0) (u1 := .string ⟨#[]⟩) (u2 := .int .i64 0) (u3 := .int .i64 0) (u4 := .slice none 0 0) h8.sw3
          obtain ⟨y0, y1, y2, y3, y4⟩ := cells5 h9
          have H9 := Lib.hid (h9.drop.drop.drop.rnNil 2 36)
          clear h8 h9 HC HZ HER HEN
          go_wp2_with fail
          exact bodyPost_ret (v := .tuple #[.agg #[.int .i64 0, .string ⟨#[]⟩, .int .i64 0, .int .i64 0, .slice none 0 0], .int .i64 4]) (by simp [results, Tryd.results80, go_sem, y0, y1, y2, y3, y4]) rfl ⟨OpM.zero, 4, _, rfl, HFF.out.symm, H9.out⟩
      · have hb2 : (endErr ra3 ea3 != 0) = true := by rw [bne_iff_ne]; exact hen
        have hFF : F = (OpM.zero, 4) := by rw [HF.out]; unfold rprsFin; rw [if_neg (by simp [hee]), if_pos (by rw [hee] at hen; exact hen)]
        have h9 := store5 (u0 := .int .i64 0) (u1 := .string ⟨#[]⟩) (u2 := .int .i64 0) (u3 := .int .i64 0) (u4 := .slice none 0 0) HZ.out.sw3
        obtain ⟨y0, y1, y2, y3, y4⟩ := cells5 h9
        have H9 := Lib.hid (h9.drop.drop.drop.rnNil 2 36)
        have HFF := Lib.hid hFF
        generalize endErr ra3 ea3 = en at *
        clear h9 hFF hee hen HF HC
        go_wp2_with (first | ((with_reducible refine HER.out.mono ?_); rintro r9 w9 ⟨rfl, rfl⟩) | ((with_reducible refine HEN.out.mono ?_); rintro r9 w9 ⟨rfl, rfl⟩))
        exact bodyPost_ret (v := .tuple #[.agg #[.int .i64 0, .string ⟨#[]⟩, .int .i64 0, .int .i64 0, .slice none 0 0], .int .i64 4]) (by simp [results, Tryd.results80, go_sem, y0, y1, y2, y3, y4]) rfl ⟨OpM.zero, 4, _, rfl, HFF.out.symm, H9.out⟩
    · have hb : (ea3 != 0) = true := by rw [bne_iff_ne]; exact hee
      have hFF : F = (OpM.zero, ea3) := by rw [HF.out]; unfold rprsFin; rw [if_pos hee]
      have h9 := store5 (u0 := .int .i64 0) (u1 := .string ⟨#[]⟩) (u2 := .int .i64 0) (u3 := .int .i64 0) (u4 := .slice none 0 0) HZ.out.sw3
      obtain ⟨y0, y1, y2, y3, y4⟩ := cells5 h9
      have H9 := Lib.hid (h9.drop.drop.drop.rnNil 2 36)
      have HFF := Lib.hid hFF
      have HER2 := Lib.hid (rrerr_sep h9.sw3)
      clear h9 hFF hee HF HC HEN
      go_wp2_with (first | ((with_reducible refine HER.out.mono ?_); rintro r9 w9 ⟨rfl, rfl⟩) | ((with_reducible refine HER2.out.mono ?_); rintro r9 w9 ⟨rfl, rfl⟩))
      exact bodyPost_ret (v := .tuple #[.agg #[.int .i64 0, .string ⟨#[]⟩, .int .i64 0, .int .i64 0, .slice none 0 0], .int .i64 ea3]) (by simp [results, Tryd.results80, go_sem, y0, y1, y2, y3, y4]) rfl ⟨OpM.zero, ea3, _, rfl, HFF.out.symm, H9.out⟩
set_option maxRecDepth 100000 in
set_option maxHeartbeats 16000000 in
theorem rparse_9 {w : World} (v : Value) (l : List UInt8) (hv : Sl w v (bv l)) (hl : l.length ≤ 1000000) (hk : KindIs (rdNe l 0).1 true true false true true false) :
    Calls Tryd.prog 80 #[v] w (RPrs w (rprs9 (rdNe l 0).1 (rdNe l 0).2.1 (rdNe l 0).2.2)) := by
  have hlt := rdNe_lt l 0
  have hl1 := rdNe_len l 0
  have h0 := (Sep.start w).alloc (.cells #[.int .i64 0, .string ⟨#[]⟩, .int .i64 0, .int .i64 0, .slice none 0 0] 24)
  have HR := Lib.hid (rread_sep v l _ h0 (hv.below h0.low) (by omega))
  obtain ⟨ki, hki⟩ : ∃ ki, ki = (rdNe l 0).1 := ⟨_, rfl⟩
  have k0 : (0 : Int) ≤ (ki : Int) := by omega
  have k1 : (ki : Int) ≤ 255 := by omega
  have HN : Hid (∀ wx M g, Sep w (RrT g l 0 :: M) wx → Calls Tryd.prog 77 #[.pointer (some ⟨g, 0, none⟩), .int .i64 8] wx fun r w' => r = .returned (.int .u64 ki) ∧ Sep w (RrT g (rdNe l 0).2.1 (rdNe l 0).2.2 :: M) w') := Lib.hid fun wx M g hx => by rw [hki]; exact rrnum_sep hx
  rw [← hki] at hk ⊢
  have HS := Lib.hid (fun wx => hasSku_any (ki : Int) wx)
  have HO := Lib.hid (fun wx => hasOrder_any (ki : Int) wx)
  have HNu := Lib.hid (fun wx => hasN_any (ki : Int) wx)
  rw [hk.sk] at HS
  rw [hk.od] at HO
  rw [hk.nu] at HNu
  have had := hk.ad
  have hre := hk.re
  generalize (rdNe l 0).2.1 = r1 at *
  generalize (rdNe l 0).2.2 = e1 at *
  have HLN := Lib.hid (show r1.length ≤ 1000000 by omega)
  obtain ⟨F, hF⟩ : ∃ F, F = rprs9 ki r1 e1 := ⟨_, rfl⟩
  rw [← hF]
  unfold rprs9 at hF
  try dsimp only at hF
  have HF := Lib.hid hF
  obtain ⟨b0, hb0⟩ : ∃ z, z = w.heap.size := ⟨_, rfl⟩
  rw [← hb0] at HR
  clear hv hl hlt hki h0 hF hl1 hk
  go_enter Tryd.func80, Tryd.ntmps80
  go_wp2_with fail
  rw [← hb0]
  clear hb0
  refine HR.out.mono ?_
  rintro q0 w1 ⟨g, rfl, h1⟩
  have H1 := Lib.hid h1
  clear h1 HR
  go_wp2_with fail
  refine (HN.out _ _ _ H1.out).mono ?_
  rintro q0 w2 ⟨rfl, h2⟩
  have h3 := h2.alloc (.cells #[.int .i64 ki, .string ⟨#[]⟩, .int .i64 0, .int .i64 0, .slice none 0 0] 24)
  obtain ⟨bo, hbo⟩ : ∃ z, z = w2.heap.size := ⟨_, rfl⟩
  obtain ⟨wo, hwo⟩ : ∃ z, z = w2.alloc (.cells #[.int .i64 ki, .string ⟨#[]⟩, .int .i64 0, .int .i64 0, .slice none 0 0] 24) := ⟨_, rfl⟩
  rw [← hbo, ← hwo] at h3
  obtain ⟨c0, c1, c2, c3, c4⟩ := cells5 h3
  rw [hwo] at c0
  have H3 := Lib.hid h3
  clear h2 h3 HN H1
  go_wp2_with fail
  rw [← hwo, ← hbo]
  rw [← hwo] at c0
  clear hwo hbo
  have HV := Lib.hid (rrtext_sep (Sep.sw2 H3.out) (by have := HLN.out; omega))
  have htl := rdTe_len r1 e1
  go_wp2_with (first | ((with_reducible refine (HS.out _).mono ?_); rintro r9 w9 ⟨rfl, rfl⟩) | ((with_reducible refine (HO.out _).mono ?_); rintro r9 w9 ⟨rfl, rfl⟩) | ((with_reducible refine (HNu.out _).mono ?_); rintro r9 w9 ⟨rfl, rfl⟩))
  refine HV.out.mono ?_
  rintro q0 w10 ⟨vt, rfl, ht⟩
  obtain ⟨at9, ct9, rfl⟩ := ht.sl.len
  rw [bv_length] at ht
  rw [bv_length]
  have hcv := conv_bytes (P := Tryd.prog) Tryd.underlying27 Tryd.underlying5 Tryd.underlying9 ht.sl
  have hs1 := ht.drop
  have hmk := mkS_val (l := (rdTe r1 e1).1) (by have := HLN.out; unfold maxLen; omega)
  have HLN2 := Lib.hid (show (rdTe r1 e1).2.1.length ≤ 1000000 by have := HLN.out; omega)
  rw [← hmk] at hcv
  clear hmk htl HV HLN ht c0 c1 c2 c3 c4
  generalize mkS (rdTe r1 e1).1 = tx1 at *
  generalize (rdTe r1 e1).2.1 = ra1 at *
  generalize (rdTe r1 e1).2.2 = ea1 at *
  obtain ⟨f0, f1, f2, f3, f4⟩ := frz5 (Sep.sw2 hs1)
  obtain ⟨d0, d1, d2, d3, d4⟩ := cells5 (Sep.sw2 hs1)
  have hz1 : Sep w [Cl bo #[.int .i64 ki, .string tx1.1, .int .i64 0, .int .i64 0, (.slice none 0 0)] 24, RrT g ra1 ea1, Cl b0 #[.int .i64 0, .string ⟨#[]⟩, .int .i64 0, .int .i64 0, .slice none 0 0] 24] (w10.setCell ⟨bo, 1, none⟩ (.string tx1.1)) := (Sep.sw2 hs1).setCell 1 _
  obtain ⟨c0, c1, c2, c3, c4⟩ := cells5 hz1
  clear hs1
  have HV := Lib.hid (rrint_sep (Sep.sw2 hz1))
  go_wp2_with (first | ((with_reducible refine (HS.out _).mono ?_); rintro r9 w9 ⟨rfl, rfl⟩) | ((with_reducible refine (HO.out _).mono ?_); rintro r9 w9 ⟨rfl, rfl⟩) | ((with_reducible refine (HNu.out _).mono ?_); rintro r9 w9 ⟨rfl, rfl⟩))
  refine HV.out.mono ?_
  rintro q0 w30 ⟨rfl, hs3⟩
  generalize zag (rdVe ra1 ea1).1 = u3 at *
  generalize (rdVe ra1 ea1).2.1 = ra3 at *
  generalize (rdVe ra1 ea1).2.2 = ea3 at *
  clear HV c0 c1 c2 c3 c4
  obtain ⟨f0, f1, f2, f3, f4⟩ := frz5 (Sep.sw2 hs3)
  obtain ⟨d0, d1, d2, d3, d4⟩ := cells5 (Sep.sw2 hs3)
  have hz3 : Sep w [Cl bo #[.int .i64 ki, .string tx1.1, .int .i64 0, .int .i64 u3, (.slice none 0 0)] 24, RrT g ra3 ea3, Cl b0 #[.int .i64 0, .string ⟨#[]⟩, .int .i64 0, .int .i64 0, .slice none 0 0] 24] (w30.setCell ⟨bo, 3, none⟩ (.int .i64 u3)) := (Sep.sw2 hs3).setCell 3 _
  obtain ⟨c0, c1, c2, c3, c4⟩ := cells5 hz3
  clear hs3
  have HZ := Lib.hid hz3
  have HER := Lib.hid (rrerr_sep (Sep.sw2 hz3))
  have HEN := Lib.hid (rrend_sep (Sep.sw2 hz3))
  go_wp2_with (first | ((with_reducible refine (HS.out _).mono ?_); rintro r9 w9 ⟨rfl, rfl⟩) | ((with_reducible refine (HO.out _).mono ?_); rintro r9 w9 ⟨rfl, rfl⟩) | ((with_reducible refine (HNu.out _).mono ?_); rintro r9 w9 ⟨rfl, rfl⟩))
  generalize (w30.setCell ⟨bo, 3, none⟩ (.int .i64 u3)) = wz at *
  go_loopw [7] (fun i wr => i = .int .u64 0 ∧ wr = wz) (fun _ _ => 0)
  case atStart => exact ⟨rfl, rfl⟩
  case round =>
    obtain ⟨rfl, rfl⟩ := hrel
    have HC : Hid (Calls Tryd.prog 34 #[.agg #[.int .i64 ki, .string tx1.1, .int .i64 0, .int .i64 u3, (.slice none 0 0)]] _ fun e w' => e = .returned (.int .i64 (if okB ki tx1 0 u3 [] then 0 else 2)) ∧ Sep w [Cl bo #[.int .i64 ki, .string tx1.1, .int .i64 0, .int .i64 u3, (.slice none 0 0)] 24, RrT g ra3 ea3, Cl b0 #[.int .i64 0, .string ⟨#[]⟩, .int .i64 0, .int .i64 0, .slice none 0 0] 24] w') := Lib.hid (rcheck_any ki tx1 0 u3 (.slice none 0 0) [] HZ.out (.inl ⟨none, 0, rfl, fun _ => rfl, rfl⟩) (by first | (simp; done) | omega))
    obtain ⟨g0, g1, g2, g3, g4⟩ := frz5 HZ.out.sw3
    obtain ⟨z0, z1, z2, z3, z4⟩ := cells5 HZ.out.sw3
    by_cases hee : ea3 = 0
    · have hb : (ea3 != 0) = false := by simp [hee]
      by_cases hen : endErr ra3 ea3 = 0
      · have hb2 : (endErr ra3 ea3 != 0) = false := by simp [hen]
        have hF3 : F = if okB ki tx1 0 u3 [] then (⟨ki, tx1, 0, u3, []⟩, 0) else (OpM.zero, 4) := by rw [HF.out]; unfold rprsFin OpM.ok; rw [if_neg (by simp [hee]), if_neg (by rw [hee] at hen; simp [hen])]
        generalize endErr ra3 ea3 = en at *
        clear hee hen
        cases hok : okB ki tx1 0 u3 [] with
        | true =>
          rw [hok] at HC hF3
          have HFF := Lib.hid hF3
          clear hok hF3 HF
          go_wp2_with (first | ((with_reducible refine HER.out.mono ?_); rintro r9 w9 ⟨rfl, rfl⟩) | ((with_reducible refine HEN.out.mono ?_); rintro r9 w9 ⟨rfl, rfl⟩))
          refine HC.out.mono ?_
          rintro q0 w8 ⟨rfl, h8⟩
          clear c0 c1 c2 c3 c4 g0 g1 g2 g3 g4 z0 z1 z2 z3 z4
          obtain ⟨c0, c1, c2, c3, c4⟩ := cells5 h8
          obtain ⟨g0, g1, g2, g3, g4⟩ := frz5 h8.sw3
          obtain ⟨z0, z1, z2, z3, z4⟩ := cells5 h8.sw3
          have h9 := store5 (u0 := .int .i64 ki) (u1 := .string tx1.1) (u2 := .int .i64 0) (u3 := .int .i64 u3) (u4 := (.slice none 0 0)) h8.sw3
          obtain ⟨y0, y1, y2, y3, y4⟩ := cells5 h9
          have H9 := Lib.hid (h9.drop.drop.drop.rnNil 2 36)
          clear h8 h9 HC HZ HER HEN
          go_wp2_with fail
          exact bodyPost_ret (v := .tuple #[.agg #[.int .i64 ki, .string tx1.1, .int .i64 0, .int .i64 u3, (.slice none 0 0)], .int .i64 0]) (by simp [results, Tryd.results80, go_sem, y0, y1, y2, y3, y4]) rfl ⟨⟨ki, tx1, 0, u3, []⟩, 0, _, rfl, HFF.out.symm, H9.out⟩
        | false =>
          rw [hok] at HC hF3
          have HFF := Lib.hid hF3
          clear hok hF3 HF
          go_wp2_with (first | ((with_reducible refine HER.out.mono ?_); rintro r9 w9 ⟨rfl, rfl⟩) | ((with_reducible refine HEN.out.mono ?_); rintro r9 w9 ⟨rfl, rfl⟩))
          refine HC.out.mono ?_
          rintro q0 w8 ⟨rfl, h8⟩
          clear c0 c1 c2 c3 c4 g0 g1 g2 g3 g4 z0 z1 z2 z3 z4
          obtain ⟨g0, g1, g2, g3, g4⟩ := frz5 h8.sw3
          obtain ⟨z0, z1, z2, z3, z4⟩ := cells5 h8.sw3
          have h9 := store5 (u0 := .int .i64 0) (u1 := .string ⟨#[]⟩) (u2 := .int .i64 0) (u3 := .int .i64 0) (u4 := .slice none 0 0) h8.sw3
          obtain ⟨y0, y1, y2, y3, y4⟩ := cells5 h9
          have H9 := Lib.hid (h9.drop.drop.drop.rnNil 2 36)
          clear h8 h9 HC HZ HER HEN
          go_wp2_with fail
          exact bodyPost_ret (v := .tuple #[.agg #[.int .i64 0, .string ⟨#[]⟩, .int .i64 0, .int .i64 0, .slice none 0 0], .int .i64 4]) (by simp [results, Tryd.results80, go_sem, y0, y1, y2, y3, y4]) rfl ⟨OpM.zero, 4, _, rfl, HFF.out.symm, H9.out⟩
      · have hb2 : (endErr ra3 ea3 != 0) = true := by rw [bne_iff_ne]; exact hen
        have hFF : F = (OpM.zero, 4) := by rw [HF.out]; unfold rprsFin; rw [if_neg (by simp [hee]), if_pos (by rw [hee] at hen; exact hen)]
        have h9 := store5 (u0 := .int .i64 0) (u1 := .string ⟨#[]⟩) (u2 := .int .i64 0) (u3 := .int .i64 0) (u4 := .slice none 0 0) HZ.out.sw3
        obtain ⟨y0, y1, y2, y3, y4⟩ := cells5 h9
        have H9 := Lib.hid (h9.drop.drop.drop.rnNil 2 36)
        have HFF := Lib.hid hFF
        generalize endErr ra3 ea3 = en at *
        clear h9 hFF hee hen HF HC
        go_wp2_with (first | ((with_reducible refine HER.out.mono ?_); rintro r9 w9 ⟨rfl, rfl⟩) | ((with_reducible refine HEN.out.mono ?_); rintro r9 w9 ⟨rfl, rfl⟩))
        exact bodyPost_ret (v := .tuple #[.agg #[.int .i64 0, .string ⟨#[]⟩, .int .i64 0, .int .i64 0, .slice none 0 0], .int .i64 4]) (by simp [results, Tryd.results80, go_sem, y0, y1, y2, y3, y4]) rfl ⟨OpM.zero, 4, _, rfl, HFF.out.symm, H9.out⟩
    · have hb : (ea3 != 0) = true := by rw [bne_iff_ne]; exact hee
      have hFF : F = (OpM.zero, ea3) := by rw [HF.out]; unfold rprsFin; rw [if_pos hee]
      have h9 := store5 (u0 := .int .i64 0) (u1 := .string ⟨#[]⟩) (u2 := .int .i64 0) (u3 := .int .i64 0) (u4 := .slice none 0 0) HZ.out.sw3
      obtain ⟨y0, y1, y2, y3, y4⟩ := cells5 h9
      have H9 := Lib.hid (h9.drop.drop.drop.rnNil 2 36)
      have HFF := Lib.hid hFF
      have HER2 := Lib.hid (rrerr_sep h9.sw3)
      clear h9 hFF hee HF HC HEN
      go_wp2_with (first | ((with_reducible refine HER.out.mono ?_); rintro r9 w9 ⟨rfl, rfl⟩) | ((with_reducible refine HER2.out.mono ?_); rintro r9 w9 ⟨rfl, rfl⟩))
      exact bodyPost_ret (v := .tuple #[.agg #[.int .i64 0, .string ⟨#[]⟩, .int .i64 0, .int .i64 0, .slice none 0 0], .int .i64 ea3]) (by simp [results, Tryd.results80, go_sem, y0, y1, y2, y3, y4]) rfl ⟨OpM.zero, ea3, _, rfl, HFF.out.symm, H9.out⟩
end Go.Proofs.YtcicclghgbdgnaaDoor
