/- The document's own item: Parse (lines). -/
import Derived.Test.YtcicclghgbdgnaaDoorBkK
import Derived.Test.YtcicclghgbdgnaaDoorRefI3
namespace Go.Proofs.YtcicclghgbdgnaaDoor
open Go.RowKit
set_option linter.unusedVariables false
set_option linter.unusedSimpArgs false
theorem app_line4 {w0 w : World} {v : Value} {ls : List Ln} {L : List Thing} {ty : TypeId} (s : KS) (n : Int) (h : Sep w0 (LnR v ls :: L) w) (hl : ls.length ≤ 1000) (bq : Nat) (hbq : w.heap.size = bq) :
    ∃ a c w', (Builtin.append_ #[22, 22] ty #[v, .slice (some ⟨bq, 0, none⟩) 1 1]).run Tryd.prog (w.alloc (.cells #[.string s.1, .int .i64 n] 36)) = .ok (.slice a (ls.length + 1) c) w' ∧ Sep w0 (LnR (.slice a (ls.length + 1) c) (ls ++ [(s, n)]) :: L) w' := by
  subst hbq
  exact app_line s n h hl
set_option maxRecDepth 100000 in
set_option maxHeartbeats 16000000 in
theorem rparse_22 {w : World} (v : Value) (l : List UInt8) (hv : Sl w v (bv l)) (hl : l.length ≤ 1000000) (hk : KindIs (rdNe l 0).1 true false true false true true) :
    Calls Tryd.prog 80 #[v] w (RPrs w (rprs22 (rdNe l 0).1 (rdNe l 0).2.1 (rdNe l 0).2.2)) := by
  have hlt := rdNe_lt l 0
  have hl1 := rdNe_len l 0
  have h0 := (Sep.start w).alloc (.cells #[.int .i64 0, .string ⟨#[]⟩, .int .i64 0, .int .i64 0, .slice none 0 0] 24)
  have HR := Lib.hid (rread_sep v l _ h0 (hv.below h0.low) (by omega))
  obtain ⟨ki, hki⟩ : ∃ ki, ki = (rdNe l 0).1 := ⟨_, rfl⟩
  have k0 : (0 : Int) ≤ (ki : Int) := by omega
  have k1 : (ki : Int) ≤ 255 := by omega
  have HN : Hid (∀ wx M g, Sep w (RrT g l 0 :: M) wx → Calls Tryd.prog 77 #[.pointer (some ⟨g, 0, none⟩), .int .i64 8] wx fun r w' => r = .returned (.int .u64 ki) ∧ Sep w (RrT g (rdNe l 0).2.1 (rdNe l 0).2.2 :: M) w') := Lib.hid fun wx M g hx => by rw [hki]; exact rrnum_sep hx
  rw [← hki] at hk ⊢
  have HS := Lib.hid (fun wx => hasSku_any (ki : Int) wx)
  have HO := Lib.hid (fun wx => hasOrder_any (ki : Int) wx)
  have HNu := Lib.hid (fun wx => hasN_any (ki : Int) wx)
  rw [hk.sk] at HS
  rw [hk.od] at HO
  rw [hk.nu] at HNu
  have had := hk.ad
  have hre := hk.re
  generalize (rdNe l 0).2.1 = r1 at *
  generalize (rdNe l 0).2.2 = e1 at *
  have HLN := Lib.hid (show r1.length ≤ 1000000 by omega)
  obtain ⟨F, hF⟩ : ∃ F, F = rprs22 ki r1 e1 := ⟨_, rfl⟩
  rw [← hF]
  unfold rprs22 at hF
  dsimp only at hF
  have HF := Lib.hid hF
  obtain ⟨b0, hb0⟩ : ∃ z, z = w.heap.size := ⟨_, rfl⟩
  rw [← hb0] at HR
  clear hv hl hlt hki h0 hF hl1 hk
  go_enter Tryd.func80, Tryd.ntmps80
  go_wp2_with fail
  rw [← hb0]
  clear hb0
  refine HR.out.mono ?_
  rintro q0 w1 ⟨g, rfl, h1⟩
  have H1 := Lib.hid h1
  clear h1 HR
  go_wp2_with fail
  refine (HN.out _ _ _ H1.out).mono ?_
  rintro q0 w2 ⟨rfl, h2⟩
  have h3 := h2.alloc (.cells #[.int .i64 ki, .string ⟨#[]⟩, .int .i64 0, .int .i64 0, .slice none 0 0] 24)
  obtain ⟨bo, hbo⟩ : ∃ z, z = w2.heap.size := ⟨_, rfl⟩
  obtain ⟨wo, hwo⟩ : ∃ z, z = w2.alloc (.cells #[.int .i64 ki, .string ⟨#[]⟩, .int .i64 0, .int .i64 0, .slice none 0 0] 24) := ⟨_, rfl⟩
  rw [← hbo, ← hwo] at h3
  obtain ⟨c0, c1, c2, c3, c4⟩ := cells5 h3
  rw [hwo] at c0
  have H3 := Lib.hid h3
  clear h2 h3 HN H1
  go_wp2_with fail
  rw [← hwo, ← hbo]
  rw [← hwo] at c0
  clear hwo hbo
  have hlen2 := rdVe_len r1 e1
  have hlen3 := rdVe_len (rdVe r1 e1).2.1 (rdVe r1 e1).2.2
  have HV := Lib.hid (rrvarint_sep (Sep.sw2 H3.out))
  go_wp2_with (first | ((with_reducible refine (HS.out _).mono ?_); rintro r9 w9 ⟨rfl, rfl⟩) | ((with_reducible refine (HO.out _).mono ?_); rintro r9 w9 ⟨rfl, rfl⟩) | ((with_reducible refine (HNu.out _).mono ?_); rintro r9 w9 ⟨rfl, rfl⟩))
  refine HV.out.mono ?_
  rintro q0 w20 ⟨rfl, hs2⟩
  have HSM := Lib.hid (small_any (rdVe r1 e1).1 w20 (rdVe_u64 r1 e1))
  obtain ⟨sm2, hsm2⟩ : ∃ z, z = sml (rdVe r1 e1).1 := ⟨_, rfl⟩
  rw [← hsm2] at HSM HF
  clear hsm2
  generalize (rdVe r1 e1).1 = u2 at *
  generalize (rdVe r1 e1).2.1 = ra2 at *
  generalize (rdVe r1 e1).2.2 = ea2 at *
  clear HV c0 c1 c2 c3 c4
  obtain ⟨d0, d1, d2, d3, d4⟩ := cells5 (Sep.sw2 hs2)
  obtain ⟨f0, f1, f2, f3, f4⟩ := frz5 (Sep.sw2 hs2)
  have hz2 : Sep w [Cl bo #[.int .i64 ki, .string ⟨#[]⟩, .int .i64 (sm2), .int .i64 0, (.slice none 0 0)] 24, RrT g ra2 ea2, Cl b0 #[.int .i64 0, .string ⟨#[]⟩, .int .i64 0, .int .i64 0, .slice none 0 0] 24] (w20.setCell ⟨bo, 2, none⟩ (.int .i64 sm2)) := (Sep.sw2 hs2).setCell 2 _
  have y := cells5 hz2
  clear hs2
  go_wp2_with fail
  refine HSM.out.mono ?_
  rintro q0 wq ⟨rfl, rfl⟩
  clear HSM
  obtain ⟨c0, c1, c2, c3, c4⟩ := y
  have HV := Lib.hid (rrvarint_sep (Sep.sw2 hz2))
  go_wp2_with (first | ((with_reducible refine (HS.out _).mono ?_); rintro r9 w9 ⟨rfl, rfl⟩) | ((with_reducible refine (HO.out _).mono ?_); rintro r9 w9 ⟨rfl, rfl⟩) | ((with_reducible refine (HNu.out _).mono ?_); rintro r9 w9 ⟨rfl, rfl⟩))
  refine HV.out.mono ?_
  rintro q0 w30 ⟨rfl, hs3⟩
  have HSM := Lib.hid (small_any (rdVe ra2 ea2).1 w30 (rdVe_u64 ra2 ea2))
  obtain ⟨sm3, hsm3⟩ : ∃ z, z = sml (rdVe ra2 ea2).1 := ⟨_, rfl⟩
  rw [← hsm3] at HSM HF
  clear hsm3
  generalize (rdVe ra2 ea2).1 = u3 at *
  generalize (rdVe ra2 ea2).2.1 = ra3 at *
  generalize (rdVe ra2 ea2).2.2 = ea3 at *
  clear HV c0 c1 c2 c3 c4
  obtain ⟨d0, d1, d2, d3, d4⟩ := cells5 (Sep.sw2 hs3)
  obtain ⟨f0, f1, f2, f3, f4⟩ := frz5 (Sep.sw2 hs3)
  have hz3 : Sep w [Cl bo #[.int .i64 ki, .string ⟨#[]⟩, .int .i64 (sm2), .int .i64 (sm3), (.slice none 0 0)] 24, RrT g ra3 ea3, Cl b0 #[.int .i64 0, .string ⟨#[]⟩, .int .i64 0, .int .i64 0, .slice none 0 0] 24] (w30.setCell ⟨bo, 3, none⟩ (.int .i64 sm3)) := (Sep.sw2 hs3).setCell 3 _
  have y := cells5 hz3
  clear hs3
  go_wp2_with fail
  refine HSM.out.mono ?_
  rintro q0 wq ⟨rfl, rfl⟩
  clear HSM
  obtain ⟨c0, c1, c2, c3, c4⟩ := y
  have hlen4 := rdVe_len ra3 ea3
  have HV := Lib.hid (rrvarint_sep (Sep.sw2 hz3))
  go_wp2_with (first | ((with_reducible refine (HS.out _).mono ?_); rintro r9 w9 ⟨rfl, rfl⟩) | ((with_reducible refine (HO.out _).mono ?_); rintro r9 w9 ⟨rfl, rfl⟩) | ((with_reducible refine (HNu.out _).mono ?_); rintro r9 w9 ⟨rfl, rfl⟩))
  refine HV.out.mono ?_
  rintro q0 w40 ⟨rfl, hs4⟩
  have hu4 := rdVe_u64 ra3 ea3
  unfold rrdL at HF
  generalize (rdVe ra3 ea3).1 = u4 at *
  generalize (rdVe ra3 ea3).2.1 = r4 at *
  generalize (rdVe ra3 ea3).2.2 = e4 at *
  unfold U64 at hu4
  have ua4 : (0 : Int) ≤ (u4 : Int) := by omega
  have ub4 : (u4 : Int) ≤ 18446744073709551615 := by omega
  have HL4 := Lib.hid (show r4.length ≤ 1000000 by have := HLN.out; omega)
  have HS4 : Hid (Sep w [Cl bo #[.int .i64 ki, .string ⟨#[]⟩, .int .i64 (sm2), .int .i64 (sm3), (.slice none 0 0)] 24, LnR (.slice none 0 0) [], RrT g r4 e4, Cl b0 #[.int .i64 0, .string ⟨#[]⟩, .int .i64 0, .int .i64 0, .slice none 0 0] 24] w40) := Lib.hid ((hs4.rnNil 2 36).pick [2, 0, 1, 3] rfl)
  obtain ⟨m, hm⟩ : ∃ m, m = min u4 5 := ⟨_, rfl⟩
  rw [← hm] at HF
  have HM := Lib.hid hm
  clear HV c0 c1 c2 c3 c4 d0 d1 d2 d3 d4 f0 f1 f2 f3 f4 hs4 hu4 hlen2 hlen3 hlen4 hm HLN hz3 hz2 H3
  go_wp2_with (first | ((with_reducible refine (HS.out _).mono ?_); rintro r9 w9 ⟨rfl, rfl⟩) | ((with_reducible refine (HO.out _).mono ?_); rintro r9 w9 ⟨rfl, rfl⟩) | ((with_reducible refine (HNu.out _).mono ?_); rintro r9 w9 ⟨rfl, rfl⟩))
  go_loopw [7] (fun i wr => ∃ (j : Nat) (acc : List Ln) (rs : List UInt8) (es : Int) (av : Option Addr) (cv : Nat), j ≤ m ∧ i = .int .u64 j ∧ rs.length ≤ 1000000 ∧ acc.length = j ∧ rrdLs m r4 e4 = (acc ++ (rrdLs (m - j) rs es).1, (rrdLs (m - j) rs es).2) ∧ Sep w [Cl bo #[.int .i64 ki, .string ⟨#[]⟩, .int .i64 (sm2), .int .i64 (sm3), (.slice av acc.length cv)] 24, LnR (.slice av acc.length cv) acc, RrT g rs es, Cl b0 #[.int .i64 0, .string ⟨#[]⟩, .int .i64 0, .int .i64 0, .slice none 0 0] 24] wr) (fun i _ => m - (intOf i).toNat)
  case atStart => exact ⟨0, [], r4, e4, none, 0, by omega, rfl, HL4.out, rfl, by simp, HS4.out⟩
  case round =>
    obtain ⟨j, acc, rs, es, av, cv, hj, rfl, hrs, hacc, hrd, hs⟩ := hrel
    clear HS4 HL4
    have hm := HM.out
    have j0 : (0 : Int) ≤ (j : Int) := by omega
    have j9 : (j : Int) ≤ 5 := by omega
    have HER := Lib.hid (rrerr_sep (Sep.sw3 hs))
    by_cases hjm : j < m
    · have hd1 : decide (j < u4) = true := decide_eq_true (by omega)
      have hd2 : decide ((j : Int) < 5) = true := decide_eq_true (by omega)
      by_cases hes : es = 0
      · subst hes
        have hstep : rrdLs (m - j) rs 0 = ((mkS (rdTe rs 0).1, sml (rdVe (rdTe rs 0).2.1 (rdTe rs 0).2.2).1) :: (rrdLs (m - (j + 1)) (rdVe (rdTe rs 0).2.1 (rdTe rs 0).2.2).2.1 (rdVe (rdTe rs 0).2.1 (rdTe rs 0).2.2).2.2).1, (rrdLs (m - (j + 1)) (rdVe (rdTe rs 0).2.1 (rdTe rs 0).2.2).2.1 (rdVe (rdTe rs 0).2.1 (rdTe rs 0).2.2).2.2).2) := by
          rw [show m - j = (m - (j + 1)) + 1 by omega]
          rfl
        rw [hstep] at hrd
        have hl1 := rdTe_len rs 0
        have hl2 := rdVe_len (rdTe rs 0).2.1 (rdTe rs 0).2.2
        have HT := Lib.hid (rrtext_sep (Sep.sw3 hs) (by omega))
        have HRD := Lib.hid hrd
        have HRS := Lib.hid (show (rdVe (rdTe rs 0).2.1 (rdTe rs 0).2.2).2.1.length ≤ 1000000 ∧ (rdTe rs 0).1.length ≤ maxLen ∧ acc.length ≤ 1000 ∧ acc.length = j ∧ j < m from ⟨by omega, by unfold maxLen; omega, by omega, hacc, hjm⟩)
        have hmk := mkS_val (l := (rdTe rs 0).1) HRS.out.2.1
        clear hs hrd hstep hl1 hl2 hrs hacc hjm hm
        go_wp2_with ((with_reducible refine HER.out.mono ?_); rintro r9 w9 ⟨rfl, rfl⟩)
        refine HT.out.mono ?_
        rintro q0 w50 ⟨vt, rfl, ht⟩
        obtain ⟨at9, ct9, rfl⟩ := ht.sl.len
        rw [bv_length] at ht
        rw [bv_length]
        have hcv := conv_bytes (P := Tryd.prog) Tryd.underlying27 Tryd.underlying5 Tryd.underlying9 ht.sl
        rw [← hmk] at hcv
        have h5 := (ht.drop).alloc (.cells #[.string (mkS (rdTe rs 0).1).1, .int .i64 0] 36)
        obtain ⟨bx, hbx⟩ : ∃ z, z = w50.heap.size := ⟨_, rfl⟩
        obtain ⟨w51, hw51⟩ : ∃ z, z = w50.alloc (.cells #[.string (mkS (rdTe rs 0).1).1, .int .i64 0] 36) := ⟨_, rfl⟩
        rw [← hbx, ← hw51] at h5
        have HV := Lib.hid (rrvarint_sep (Sep.sw2 h5))
        clear HER HT ht h5 hmk
        go_wp2_with fail
        rw [← hw51, ← hbx]
        clear hw51 hbx hcv
        refine HV.out.mono ?_
        rintro q0 w52 ⟨rfl, h6⟩
        have HSM := Lib.hid (small_any (rdVe (rdTe rs 0).2.1 (rdTe rs 0).2.2).1 w52 (rdVe_u64 _ _))
        obtain ⟨sx, hsx⟩ : ∃ z, z = sml (rdVe (rdTe rs 0).2.1 (rdTe rs 0).2.2).1 := ⟨_, rfl⟩
        obtain ⟨nx, hnx⟩ : ∃ z, z = mkS (rdTe rs 0).1 := ⟨_, rfl⟩
        rw [← hsx] at HSM HRD
        rw [← hnx] at HRD h6
        clear HV hsx hnx
        generalize (rdVe (rdTe rs 0).2.1 (rdTe rs 0).2.2).1 = ux at *
        generalize (rdVe (rdTe rs 0).2.1 (rdTe rs 0).2.2).2.1 = rx at *
        generalize (rdVe (rdTe rs 0).2.1 (rdTe rs 0).2.2).2.2 = ex at *
        have x0 := h6.sw2.cell (o := 0) rfl
        have x1 := h6.sw2.cell (o := 1) rfl
        have x2 := (frz5 h6.sw2).1
        have x3 := (frz5 h6.sw2).2.1
        have h7 : Sep w [Cl bx #[.string nx.1, .int .i64 sx] 36, RrT g rx ex, Cl bo #[.int .i64 ki, .string ⟨#[]⟩, .int .i64 (sm2), .int .i64 (sm3), (.slice av acc.length cv)] 24, LnR (.slice av acc.length cv) acc, Cl b0 #[.int .i64 0, .string ⟨#[]⟩, .int .i64 0, .int .i64 0, .slice none 0 0] 24] (w52.setCell ⟨bx, 1, none⟩ (.int .i64 sx)) := h6.sw2.setCell 1 _
        obtain ⟨a8, c8, w8, hr, h8⟩ := app_line4 (ty := 22) nx sx (h7.pick [3, 0, 1, 2, 4] rfl : Sep w (LnR (.slice av acc.length cv) acc :: _) _) HRS.out.2.2.1 w52.heap.size (by simp [World.setCell])
        try dsimp only at hr
        have HR := Lib.hid hr
        obtain ⟨e0, e1', e2, e3, e4'⟩ := cells5 h7.sw3
        have y0 := h7.cell (o := 0) rfl
        have y1 := h7.cell (o := 1) rfl
        obtain ⟨g0, g1, g2, g3, g4⟩ := frz5 h8.sw4
        obtain ⟨v0, v1, v2, v3, v4⟩ := cells5 h8.sw4
        have hx := h8.sw4.setCell 4 (.slice a8 (acc.length + 1) c8)
        have HX : Hid (Sep w [Cl bo #[.int .i64 ki, .string ⟨#[]⟩, .int .i64 (sm2), .int .i64 (sm3), (.slice a8 (acc ++ [(nx, sx)]).length c8)] 24, LnR (.slice a8 (acc ++ [(nx, sx)]).length c8) (acc ++ [(nx, sx)]), RrT g rx ex, Cl b0 #[.int .i64 0, .string ⟨#[]⟩, .int .i64 0, .int .i64 0, .slice none 0 0] 24] (w8.setCell ⟨bo, 4, none⟩ (.slice a8 (acc.length + 1) c8))) := Lib.hid (by
          rw [List.length_append, List.length_singleton]
          exact hx.pick [0, 1, 3, 4] rfl)
        clear h6 h7 h8 hr hx
        go_wp2_with fail
        refine HSM.out.mono ?_
        rintro q0 wq ⟨rfl, rfl⟩
        clear HSM
        go_wp2_with (at_builtin; refine wpList_append_run rfl _ _ _ _ rfl rfl rfl HR.out ?_)
        go_roundw
        case rel => exact ⟨j + 1, _, rx, ex, a8, c8, HRS.out.2.2.2.2, by go_num, HRS.out.1, by rw [List.length_append, List.length_singleton, HRS.out.2.2.2.1], by rw [HRD.out]; simp, HX.out⟩
        case measure => have := HRS.out.2.2.2.2; simp [intOf]; omega
      · have hz : (es == 0) = false := by rw [beq_eq_false_iff_ne]; exact hes
        have hstep : rrdLs (m - j) rs es = ([], rs, es) := by
          rw [show m - j = (m - (j + 1)) + 1 by omega]
          unfold rrdLs
          rw [if_pos hes]
        have HES := Lib.hid hes
        clear hes
        rw [hstep] at hrd
        rw [hrd] at HF
        dsimp only at HF
        rw [List.append_nil] at HF
        have HZ : Hid (Sep w [Cl bo #[.int .i64 ki, .string ⟨#[]⟩, .int .i64 (sm2), .int .i64 (sm3), (.slice av acc.length cv)] 24, RrT g rs es, Cl b0 #[.int .i64 0, .string ⟨#[]⟩, .int .i64 0, .int .i64 0, .slice none 0 0] 24, LnR (.slice av acc.length cv) acc] wr) := Lib.hid (hs.pick [0, 2, 3, 1] rfl)
        have HEN := Lib.hid (rrend_sep (Sep.sw2 HZ.out))
        obtain ⟨c0, c1, c2, c3, c4⟩ := cells5 HZ.out
        have hal : acc.length ≤ 5 := by omega
        clear hs hrd hstep hm HM hacc hrs hj
        try clear hjm
        have HC : Hid (Calls Tryd.prog 34 #[.agg #[.int .i64 ki, .string ⟨#[]⟩, .int .i64 (sm2), .int .i64 (sm3), (.slice av acc.length cv)]] _ fun e w' => e = .returned (.int .i64 (if okB ki sZ (sm2) (sm3) acc then 0 else 2)) ∧ Sep w [Cl bo #[.int .i64 ki, .string ⟨#[]⟩, .int .i64 (sm2), .int .i64 (sm3), (.slice av acc.length cv)] 24, RrT g rs es, Cl b0 #[.int .i64 0, .string ⟨#[]⟩, .int .i64 0, .int .i64 0, .slice none 0 0] 24, LnR (.slice av acc.length cv) acc] w') := Lib.hid (rcheck_any ki sZ (sm2) (sm3) (.slice av acc.length cv) acc HZ.out (Sep.lnS (Sep.sw4 HZ.out)) (by first | (simp; done) | omega))
        obtain ⟨g0, g1, g2, g3, g4⟩ := frz5 HZ.out.sw3
        obtain ⟨z0, z1, z2, z3, z4⟩ := cells5 HZ.out.sw3
        by_cases hee : es = 0
        · exact absurd hee HES.out
        · have hb : (es != 0) = true := by rw [bne_iff_ne]; exact hee
          have hFF : F = (OpM.zero, es) := by rw [HF.out]; unfold rprsFin; rw [if_pos hee]
          have h9 := store5 (u0 := .int .i64 0) (u1 := .string ⟨#[]⟩) (u2 := .int .i64 0) (u3 := .int .i64 0) (u4 := .slice none 0 0) HZ.out.sw3
          obtain ⟨y0, y1, y2, y3, y4⟩ := cells5 h9
          have H9 := Lib.hid (h9.drop.drop.drop.drop.rnNil 2 36)
          have HFF := Lib.hid hFF
          have HER2 := Lib.hid (rrerr_sep h9.sw3)
          clear h9 hFF hee HF HC HEN
          go_wp2_with (first | ((with_reducible refine HER.out.mono ?_); rintro r9 w9 ⟨rfl, rfl⟩) | ((with_reducible refine HER2.out.mono ?_); rintro r9 w9 ⟨rfl, rfl⟩))
          exact bodyPost_ret (v := .tuple #[.agg #[.int .i64 0, .string ⟨#[]⟩, .int .i64 0, .int .i64 0, .slice none 0 0], .int .i64 es]) (by simp [results, Tryd.results80, go_sem, y0, y1, y2, y3, y4]) rfl ⟨OpM.zero, es, _, rfl, HFF.out.symm, H9.out⟩
    · have hstep : rrdLs (m - j) rs es = ([], rs, es) := by
        rw [show m - j = 0 by omega]
        rfl
      have hjm' : j = m := by omega
      by_cases h5 : u4 ≤ 5
      · have hd1 : decide (j < u4) = false := decide_eq_false (by omega)
        clear h5 hjm'
        rw [hstep] at hrd
        rw [hrd] at HF
        dsimp only at HF
        rw [List.append_nil] at HF
        have HZ : Hid (Sep w [Cl bo #[.int .i64 ki, .string ⟨#[]⟩, .int .i64 (sm2), .int .i64 (sm3), (.slice av acc.length cv)] 24, RrT g rs es, Cl b0 #[.int .i64 0, .string ⟨#[]⟩, .int .i64 0, .int .i64 0, .slice none 0 0] 24, LnR (.slice av acc.length cv) acc] wr) := Lib.hid (hs.pick [0, 2, 3, 1] rfl)
        have HEN := Lib.hid (rrend_sep (Sep.sw2 HZ.out))
        obtain ⟨c0, c1, c2, c3, c4⟩ := cells5 HZ.out
        have hal : acc.length ≤ 5 := by omega
        clear hs hrd hstep hm HM hacc hrs hj
        try clear hjm
        have HC : Hid (Calls Tryd.prog 34 #[.agg #[.int .i64 ki, .string ⟨#[]⟩, .int .i64 (sm2), .int .i64 (sm3), (.slice av acc.length cv)]] _ fun e w' => e = .returned (.int .i64 (if okB ki sZ (sm2) (sm3) acc then 0 else 2)) ∧ Sep w [Cl bo #[.int .i64 ki, .string ⟨#[]⟩, .int .i64 (sm2), .int .i64 (sm3), (.slice av acc.length cv)] 24, RrT g rs es, Cl b0 #[.int .i64 0, .string ⟨#[]⟩, .int .i64 0, .int .i64 0, .slice none 0 0] 24, LnR (.slice av acc.length cv) acc] w') := Lib.hid (rcheck_any ki sZ (sm2) (sm3) (.slice av acc.length cv) acc HZ.out (Sep.lnS (Sep.sw4 HZ.out)) (by first | (simp; done) | omega))
        obtain ⟨g0, g1, g2, g3, g4⟩ := frz5 HZ.out.sw3
        obtain ⟨z0, z1, z2, z3, z4⟩ := cells5 HZ.out.sw3
        by_cases hee : es = 0
        · have hb : (es != 0) = false := by simp [hee]
          by_cases hen : endErr rs es = 0
          · have hb2 : (endErr rs es != 0) = false := by simp [hen]
            have hF3 : F = if okB ki sZ (sm2) (sm3) acc then (⟨ki, sZ, (sm2), (sm3), acc⟩, 0) else (OpM.zero, 4) := by rw [HF.out]; unfold rprsFin OpM.ok; rw [if_neg (by simp [hee]), if_neg (by rw [hee] at hen; simp [hen])]
            generalize endErr rs es = en at *
            clear hee hen
            cases hok : okB ki sZ (sm2) (sm3) acc with
            | true =>
              rw [hok] at HC hF3
              have HFF := Lib.hid hF3
              clear hok hF3 HF
              go_wp2_with (first | ((with_reducible refine HER.out.mono ?_); rintro r9 w9 ⟨rfl, rfl⟩) | ((with_reducible refine HEN.out.mono ?_); rintro r9 w9 ⟨rfl, rfl⟩))
              refine HC.out.mono ?_
              rintro q0 w8 ⟨rfl, h8⟩
              clear c0 c1 c2 c3 c4 g0 g1 g2 g3 g4 z0 z1 z2 z3 z4
              obtain ⟨c0, c1, c2, c3, c4⟩ := cells5 h8
              obtain ⟨g0, g1, g2, g3, g4⟩ := frz5 h8.sw3
              obtain ⟨z0, z1, z2, z3, z4⟩ := cells5 h8.sw3
              have h9 := store5 (u0 := .int .i64 ki) (u1 := .string ⟨#[]⟩) (u2 := .int .i64 (sm2)) (u3 := .int .i64 (sm3)) (u4 := (.slice av acc.length cv)) h8.sw3
              obtain ⟨y0, y1, y2, y3, y4⟩ := cells5 h9
              have H9 := Lib.hid h9.drop.drop.drop
              clear h8 h9 HC HZ HER HEN
              go_wp2_with fail
              exact bodyPost_ret (v := .tuple #[.agg #[.int .i64 ki, .string ⟨#[]⟩, .int .i64 (sm2), .int .i64 (sm3), (.slice av acc.length cv)], .int .i64 0]) (by simp [results, Tryd.results80, go_sem, y0, y1, y2, y3, y4]) rfl ⟨⟨ki, sZ, (sm2), (sm3), acc⟩, 0, _, rfl, HFF.out.symm, H9.out⟩
            | false =>
              rw [hok] at HC hF3
              have HFF := Lib.hid hF3
              clear hok hF3 HF
              go_wp2_with (first | ((with_reducible refine HER.out.mono ?_); rintro r9 w9 ⟨rfl, rfl⟩) | ((with_reducible refine HEN.out.mono ?_); rintro r9 w9 ⟨rfl, rfl⟩))
              refine HC.out.mono ?_
              rintro q0 w8 ⟨rfl, h8⟩
              clear c0 c1 c2 c3 c4 g0 g1 g2 g3 g4 z0 z1 z2 z3 z4
              obtain ⟨g0, g1, g2, g3, g4⟩ := frz5 h8.sw3
              obtain ⟨z0, z1, z2, z3, z4⟩ := cells5 h8.sw3
              have h9 := store5 (u0 := .int .i64 0) (u1 := .string ⟨#[]⟩) (u2 := .int .i64 0) (u3 := .int .i64 0) (u4 := .slice none 0 0) h8.sw3
              obtain ⟨y0, y1, y2, y3, y4⟩ := cells5 h9
              have H9 := Lib.hid (h9.drop.drop.drop.drop.rnNil 2 36)
              clear h8 h9 HC HZ HER HEN
              go_wp2_with fail
              exact bodyPost_ret (v := .tuple #[.agg #[.int .i64 0, .string ⟨#[]⟩, .int .i64 0, .int .i64 0, .slice none 0 0], .int .i64 4]) (by simp [results, Tryd.results80, go_sem, y0, y1, y2, y3, y4]) rfl ⟨OpM.zero, 4, _, rfl, HFF.out.symm, H9.out⟩
          · have hb2 : (endErr rs es != 0) = true := by rw [bne_iff_ne]; exact hen
            have hFF : F = (OpM.zero, 4) := by rw [HF.out]; unfold rprsFin; rw [if_neg (by simp [hee]), if_pos (by rw [hee] at hen; exact hen)]
            have h9 := store5 (u0 := .int .i64 0) (u1 := .string ⟨#[]⟩) (u2 := .int .i64 0) (u3 := .int .i64 0) (u4 := .slice none 0 0) HZ.out.sw3
            obtain ⟨y0, y1, y2, y3, y4⟩ := cells5 h9
            have H9 := Lib.hid (h9.drop.drop.drop.drop.rnNil 2 36)
            have HFF := Lib.hid hFF
            generalize endErr rs es = en at *
            clear h9 hFF hee hen HF HC
            go_wp2_with (first | ((with_reducible refine HER.out.mono ?_); rintro r9 w9 ⟨rfl, rfl⟩) | ((with_reducible refine HEN.out.mono ?_); rintro r9 w9 ⟨rfl, rfl⟩))
            exact bodyPost_ret (v := .tuple #[.agg #[.int .i64 0, .string ⟨#[]⟩, .int .i64 0, .int .i64 0, .slice none 0 0], .int .i64 4]) (by simp [results, Tryd.results80, go_sem, y0, y1, y2, y3, y4]) rfl ⟨OpM.zero, 4, _, rfl, HFF.out.symm, H9.out⟩
        · have hb : (es != 0) = true := by rw [bne_iff_ne]; exact hee
          have hFF : F = (OpM.zero, es) := by rw [HF.out]; unfold rprsFin; rw [if_pos hee]
          have h9 := store5 (u0 := .int .i64 0) (u1 := .string ⟨#[]⟩) (u2 := .int .i64 0) (u3 := .int .i64 0) (u4 := .slice none 0 0) HZ.out.sw3
          obtain ⟨y0, y1, y2, y3, y4⟩ := cells5 h9
          have H9 := Lib.hid (h9.drop.drop.drop.drop.rnNil 2 36)
          have HFF := Lib.hid hFF
          have HER2 := Lib.hid (rrerr_sep h9.sw3)
          clear h9 hFF hee HF HC HEN
          go_wp2_with (first | ((with_reducible refine HER.out.mono ?_); rintro r9 w9 ⟨rfl, rfl⟩) | ((with_reducible refine HER2.out.mono ?_); rintro r9 w9 ⟨rfl, rfl⟩))
          exact bodyPost_ret (v := .tuple #[.agg #[.int .i64 0, .string ⟨#[]⟩, .int .i64 0, .int .i64 0, .slice none 0 0], .int .i64 es]) (by simp [results, Tryd.results80, go_sem, y0, y1, y2, y3, y4]) rfl ⟨OpM.zero, es, _, rfl, HFF.out.symm, H9.out⟩
      · have hd1 : decide (j < u4) = true := decide_eq_true (by omega)
        have hd2 : decide ((j : Int) < 5) = false := decide_eq_false (by omega)
        clear h5 hjm'
        rw [hstep] at hrd
        rw [hrd] at HF
        dsimp only at HF
        rw [List.append_nil] at HF
        have HZ : Hid (Sep w [Cl bo #[.int .i64 ki, .string ⟨#[]⟩, .int .i64 (sm2), .int .i64 (sm3), (.slice av acc.length cv)] 24, RrT g rs es, Cl b0 #[.int .i64 0, .string ⟨#[]⟩, .int .i64 0, .int .i64 0, .slice none 0 0] 24, LnR (.slice av acc.length cv) acc] wr) := Lib.hid (hs.pick [0, 2, 3, 1] rfl)
        have HEN := Lib.hid (rrend_sep (Sep.sw2 HZ.out))
        obtain ⟨c0, c1, c2, c3, c4⟩ := cells5 HZ.out
        have hal : acc.length ≤ 5 := by omega
        clear hs hrd hstep hm HM hacc hrs hj
        try clear hjm
        have HC : Hid (Calls Tryd.prog 34 #[.agg #[.int .i64 ki, .string ⟨#[]⟩, .int .i64 (sm2), .int .i64 (sm3), (.slice av acc.length cv)]] _ fun e w' => e = .returned (.int .i64 (if okB ki sZ (sm2) (sm3) acc then 0 else 2)) ∧ Sep w [Cl bo #[.int .i64 ki, .string ⟨#[]⟩, .int .i64 (sm2), .int .i64 (sm3), (.slice av acc.length cv)] 24, RrT g rs es, Cl b0 #[.int .i64 0, .string ⟨#[]⟩, .int .i64 0, .int .i64 0, .slice none 0 0] 24, LnR (.slice av acc.length cv) acc] w') := Lib.hid (rcheck_any ki sZ (sm2) (sm3) (.slice av acc.length cv) acc HZ.out (Sep.lnS (Sep.sw4 HZ.out)) (by first | (simp; done) | omega))
        obtain ⟨g0, g1, g2, g3, g4⟩ := frz5 HZ.out.sw3
        obtain ⟨z0, z1, z2, z3, z4⟩ := cells5 HZ.out.sw3
        by_cases hee : es = 0
        · have hb : (es != 0) = false := by simp [hee]
          by_cases hen : endErr rs es = 0
          · have hb2 : (endErr rs es != 0) = false := by simp [hen]
            have hF3 : F = if okB ki sZ (sm2) (sm3) acc then (⟨ki, sZ, (sm2), (sm3), acc⟩, 0) else (OpM.zero, 4) := by rw [HF.out]; unfold rprsFin OpM.ok; rw [if_neg (by simp [hee]), if_neg (by rw [hee] at hen; simp [hen])]
            generalize endErr rs es = en at *
            clear hee hen
            cases hok : okB ki sZ (sm2) (sm3) acc with
            | true =>
              rw [hok] at HC hF3
              have HFF := Lib.hid hF3
              clear hok hF3 HF
              go_wp2_with (first | ((with_reducible refine HER.out.mono ?_); rintro r9 w9 ⟨rfl, rfl⟩) | ((with_reducible refine HEN.out.mono ?_); rintro r9 w9 ⟨rfl, rfl⟩))
              refine HC.out.mono ?_
              rintro q0 w8 ⟨rfl, h8⟩
              clear c0 c1 c2 c3 c4 g0 g1 g2 g3 g4 z0 z1 z2 z3 z4
              obtain ⟨c0, c1, c2, c3, c4⟩ := cells5 h8
              obtain ⟨g0, g1, g2, g3, g4⟩ := frz5 h8.sw3
              obtain ⟨z0, z1, z2, z3, z4⟩ := cells5 h8.sw3
              have h9 := store5 (u0 := .int .i64 ki) (u1 := .string ⟨#[]⟩) (u2 := .int .i64 (sm2)) (u3 := .int .i64 (sm3)) (u4 := (.slice av acc.length cv)) h8.sw3
              obtain ⟨y0, y1, y2, y3, y4⟩ := cells5 h9
              have H9 := Lib.hid h9.drop.drop.drop
              clear h8 h9 HC HZ HER HEN
              go_wp2_with fail
              exact bodyPost_ret (v := .tuple #[.agg #[.int .i64 ki, .string ⟨#[]⟩, .int .i64 (sm2), .int .i64 (sm3), (.slice av acc.length cv)], .int .i64 0]) (by simp [results, Tryd.results80, go_sem, y0, y1, y2, y3, y4]) rfl ⟨⟨ki, sZ, (sm2), (sm3), acc⟩, 0, _, rfl, HFF.out.symm, H9.out⟩
            | false =>
              rw [hok] at HC hF3
              have HFF := Lib.hid hF3
              clear hok hF3 HF
              go_wp2_with (first | ((with_reducible refine HER.out.mono ?_); rintro r9 w9 ⟨rfl, rfl⟩) | ((with_reducible refine HEN.out.mono ?_); rintro r9 w9 ⟨rfl, rfl⟩))
              refine HC.out.mono ?_
              rintro q0 w8 ⟨rfl, h8⟩
              clear c0 c1 c2 c3 c4 g0 g1 g2 g3 g4 z0 z1 z2 z3 z4
              obtain ⟨g0, g1, g2, g3, g4⟩ := frz5 h8.sw3
              obtain ⟨z0, z1, z2, z3, z4⟩ := cells5 h8.sw3
              have h9 := store5 (u0 := .int .i64 0) (u1 := .string ⟨#[]⟩) (u2 := .int .i64 0) (u3 := .int .i64 0) (u4 := .slice none 0 0) h8.sw3
              obtain ⟨y0, y1, y2, y3, y4⟩ := cells5 h9
              have H9 := Lib.hid (h9.drop.drop.drop.drop.rnNil 2 36)
              clear h8 h9 HC HZ HER HEN
              go_wp2_with fail
              exact bodyPost_ret (v := .tuple #[.agg #[.int .i64 0, .string ⟨#[]⟩, .int .i64 0, .int .i64 0, .slice none 0 0], .int .i64 4]) (by simp [results, Tryd.results80, go_sem, y0, y1, y2, y3, y4]) rfl ⟨OpM.zero, 4, _, rfl, HFF.out.symm, H9.out⟩
          · have hb2 : (endErr rs es != 0) = true := by rw [bne_iff_ne]; exact hen
            have hFF : F = (OpM.zero, 4) := by rw [HF.out]; unfold rprsFin; rw [if_neg (by simp [hee]), if_pos (by rw [hee] at hen; exact hen)]
            have h9 := store5 (u0 := .int .i64 0) (u1 := .string ⟨#[]⟩) (u2 := .int .i64 0) (u3 := .int .i64 0) (u4 := .slice none 0 0) HZ.out.sw3
            obtain ⟨y0, y1, y2, y3, y4⟩ := cells5 h9
            have H9 := Lib.hid (h9.drop.drop.drop.drop.rnNil 2 36)
            have HFF := Lib.hid hFF
            generalize endErr rs es = en at *
            clear h9 hFF hee hen HF HC
            go_wp2_with (first | ((with_reducible refine HER.out.mono ?_); rintro r9 w9 ⟨rfl, rfl⟩) | ((with_reducible refine HEN.out.mono ?_); rintro r9 w9 ⟨rfl, rfl⟩))
            exact bodyPost_ret (v := .tuple #[.agg #[.int .i64 0, .string ⟨#[]⟩, .int .i64 0, .int .i64 0, .slice none 0 0], .int .i64 4]) (by simp [results, Tryd.results80, go_sem, y0, y1, y2, y3, y4]) rfl ⟨OpM.zero, 4, _, rfl, HFF.out.symm, H9.out⟩
        · have hb : (es != 0) = true := by rw [bne_iff_ne]; exact hee
          have hFF : F = (OpM.zero, es) := by rw [HF.out]; unfold rprsFin; rw [if_pos hee]
          have h9 := store5 (u0 := .int .i64 0) (u1 := .string ⟨#[]⟩) (u2 := .int .i64 0) (u3 := .int .i64 0) (u4 := .slice none 0 0) HZ.out.sw3
          obtain ⟨y0, y1, y2, y3, y4⟩ := cells5 h9
          have H9 := Lib.hid (h9.drop.drop.drop.drop.rnNil 2 36)
          have HFF := Lib.hid hFF
          have HER2 := Lib.hid (rrerr_sep h9.sw3)
          clear h9 hFF hee HF HC HEN
          go_wp2_with (first | ((with_reducible refine HER.out.mono ?_); rintro r9 w9 ⟨rfl, rfl⟩) | ((with_reducible refine HER2.out.mono ?_); rintro r9 w9 ⟨rfl, rfl⟩))
          exact bodyPost_ret (v := .tuple #[.agg #[.int .i64 0, .string ⟨#[]⟩, .int .i64 0, .int .i64 0, .slice none 0 0], .int .i64 es]) (by simp [results, Tryd.results80, go_sem, y0, y1, y2, y3, y4]) rfl ⟨OpM.zero, es, _, rfl, HFF.out.symm, H9.out⟩
end Go.Proofs.YtcicclghgbdgnaaDoor
