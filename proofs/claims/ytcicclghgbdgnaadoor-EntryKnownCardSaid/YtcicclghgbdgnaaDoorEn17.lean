/- The document's own: Rows. -/
import Derived.Test.YtcicclghgbdgnaaDoorEn12
import Derived.Test.YtcicclghgbdgnaaDoorEn16
namespace Go.Proofs.YtcicclghgbdgnaaDoor
open Go.RowKit
set_option linter.unusedVariables false
set_option linter.unusedSimpArgs false
set_option maxRecDepth 100000 in
set_option maxHeartbeats 16000000 in
theorem rerows_w {w : World} (v : Value) (l : List UInt8) (hv : Sl w v (bv l)) (hl : l.length ≤ 1000000) :
    Calls Tryd.prog 50 #[v] w (RwsP w [] (rwsOf l)) := by
  have HR := Lib.hid (rread_sep v l w (Sep.start w) hv (by omega))
  have hu := rdVe_u64 l 0
  have hlen := rdVe_len l 0
  obtain ⟨F, hF⟩ : ∃ F, F = rwsOf l := ⟨_, rfl⟩
  rw [← hF]
  unfold rwsOf at hF
  have HV : Hid (∀ wx M g, Sep w (RrT g l 0 :: M) wx → Calls Tryd.prog 78 #[.pointer (some ⟨g, 0, none⟩)] wx fun r w' => r = .returned (.int .u64 (rdVe l 0).1) ∧ Sep w (RrT g (rdVe l 0).2.1 (rdVe l 0).2.2 :: M) w') := Lib.hid fun wx M g hx => rrvarint_sep hx
  generalize (rdVe l 0).1 = n at *
  generalize (rdVe l 0).2.1 = r1 at *
  generalize (rdVe l 0).2.2 = e1 at *
  unfold U64 at hu
  have n0 : (0 : Int) ≤ (n : Int) := by omega
  have n1 : (n : Int) ≤ 18446744073709551615 := by omega
  have HL := Lib.hid (show r1.length ≤ 1000000 by omega)
  have HF := Lib.hid hF
  obtain ⟨a, c, rfl⟩ := hv.len
  clear hv hl hlen hF hu
  go_enter Tryd.func50, Tryd.ntmps50
  go_wp2_with fail
  refine HR.out.mono ?_
  rintro q0 w1 ⟨g, rfl, h1⟩
  have H1 := Lib.hid h1
  clear h1 HR
  go_wp2_with fail
  refine (HV.out _ _ _ H1.out).mono ?_
  rintro q0 w2 ⟨rfl, h2⟩
  have H2 := Lib.hid h2.enNil
  clear h2 HV H1
  go_wp2_with fail
  go_loopw [6, 7] (fun pv i wr => ∃ (j : Nat) (ps : List (EnM × Value)) (rs : List UInt8) (es : Int) (av : Option Addr) (cv : Nat), j ≤ n ∧ i = .int .u64 j ∧ pv = .slice av ps.length cv ∧ rs.length + ps.length ≤ 1000000 ∧ F = rwsA (n - j) rs es (ps.map (·.1)) ∧ Sep w [EnT (.slice av ps.length cv) ps, RrT g rs es] wr) (fun _ i _ => n - (intOf i).toNat)
  case atStart => exact ⟨0, [], r1, e1, none, 0, Nat.zero_le _, rfl, rfl, HL.out, HF.out, H2.out⟩
  case round =>
    obtain ⟨j, ps, rs, es, av, cv, hj, rfl, rfl, hrs, hrd, hs⟩ := hrel
    clear H2 HF HL
    have j0 : (0 : Int) ≤ (j : Int) := by omega
    by_cases hjn : j < n
    · have hd : decide (j < n) = true := decide_eq_true hjn
      have j1 : (j : Int) < (n : Int) := by omega
      have hlen := rdTe_len rs es
      have HT := Lib.hid (rrtext_sep hs.sw2 (by omega))
      have HE0 := Lib.hid (rrerr_sep hs.sw2)
      have hend0 := rrend_sep hs.sw2
      have he2 : ¬ es = 0 → (rdTe rs es).2.2 = es := by intro h; unfold rdTe; rw [if_neg h]
      have H00 := Lib.hid (hs.pick [] rfl : Sep w [] wr).enNil
      have hless : (rdTe rs es).2.2 = 0 → (rdTe rs es).2.1.length + 1 ≤ rs.length := rdTe_less
      rw [show n - j = (n - (j + 1)) + 1 by omega, rwsA] at hrd
      generalize (rdTe rs es).1 = t at *
      generalize (rdTe rs es).2.1 = r2 at *
      generalize (rdTe rs es).2.2 = e2 at *
      have HRD := Lib.hid hrd
      have HRS := Lib.hid (And.intro hrs (And.intro hlen hjn))
      have HLESS := Lib.hid hless
      clear hs hrd hless hlen hrs hjn hj
      by_cases h0 : ¬ es = 0
      · have hb0 : (es == 0) = false := by rw [beq_eq_false_iff_ne]; exact h0
        have hb1 : (es != 0) = true := by rw [bne_iff_ne]; exact h0
        have h2e := he2 h0
        have HF : Hid (F = ([], es)) := Lib.hid (by rw [HRD.out, h2e, if_pos h0])
        rw [show endErr rs es = es by unfold endErr; rw [if_neg (by simp [h0])]] at hend0
        have HN := Lib.hid hend0
        clear HRD HLESS HRS HT he2 h2e h0 hend0
        go_wp2_with (first | (refine HE0.out.mono ?_; rintro q9 w9 ⟨rfl, rfl⟩) | (refine HN.out.mono ?_; rintro q9 w9 ⟨rfl, rfl⟩))
        rw [HF.out]
        go_ret2
        exact ⟨[], _, rfl, rfl, H00.out⟩
      have h0' : es = 0 := Classical.byContradiction h0
      have hb0 : (es == 0) = true := by simp [h0']
      clear h0 h0' he2 hend0 H00
      go_wp2_with (refine HE0.out.mono ?_; rintro q9 w9 ⟨rfl, rfl⟩)
      clear HE0
      refine HT.out.mono ?_
      rintro q0 w3 ⟨v3, rfl, h3⟩
      obtain ⟨a3, c3, rfl⟩ := h3.sl.len
      rw [bv_length] at h3 ⊢
      have HE := Lib.hid (rrerr_sep h3.sw2)
      have H3 := Lib.hid h3
      clear h3 HT
      go_wp2_with fail
      refine HE.out.mono ?_
      rintro q0 w4 ⟨rfl, rfl⟩
      clear HE
      by_cases hee : e2 = 0
      · have hb : (e2 != 0) = false := by simp [hee]
        have HRD2 : Hid (F = if (prsEn t).2 ≠ 0 then ([], (prsEn t).2) else rwsA (n - (j + 1)) r2 0 (ps.map (·.1) ++ [(prsEn t).1])) := Lib.hid (by rw [HRD.out, if_neg (by simp [hee])])
        have HLS := Lib.hid (HLESS.out hee)
        have HP := Lib.hid (reparse_any (.slice a3 t.length c3) t H3.out H3.out.sl (by have := HRS.out; omega))
        have HRT : Hid (e2 = 0) := Lib.hid hee
        clear HRD HLESS H3 hee
        go_wp2_with fail
        refine HP.out.mono ?_
        rintro q0 w5 ⟨x, err, u, rfl, hp, h5⟩
        obtain ⟨au, ku, rfl, -⟩ := h5.rnForm
        have HRD3 : Hid (F = if err ≠ 0 then ([], err) else rwsA (n - (j + 1)) r2 0 (ps.map (·.1) ++ [x])) := Lib.hid (by rw [HRD2.out, ← hp])
        have h6 := h5.alloc (.cells (enC x (.slice au x.p.ls.length ku)) 26)
        have h7 := h6.alloc (.cells (enC x (.slice au x.p.ls.length ku)) 26)
        rw [show (w5.alloc (.cells (enC x (.slice au x.p.ls.length ku)) 26)).heap.size = w5.heap.size + 1 by simp] at h7
        by_cases hee : err = 0
        · have hb3 : (err != 0) = false := by simp [hee]
          obtain ⟨av2, cv2, w8, hr, h8⟩ := append_en (ty := 38) (h7.pick [0, 5, 2, 4] rfl : Sep w [Cl (w5.heap.size + 1) (enC x (.slice au x.p.ls.length ku)) 26, EnT (.slice av ps.length cv) ps, LnR (.slice au x.p.ls.length ku) x.p.ls, RrT g r2 e2] _) rfl (by have := HRS.out; omega)
          unfold enC at h6 hr
          obtain ⟨d0, d1, d2, d3, d4, d5, d6⟩ := cells7 h6
          have HAP := Lib.hid hr
          have H8 := Lib.hid h8
          have HF : Hid (F = rwsA (n - (j + 1)) r2 0 (ps.map (·.1) ++ [x])) := Lib.hid (by rw [HRD3.out, if_neg (by simp [hee])])
          unfold enV
          clear HP HRD2 HRD3 hp h5 h6 h7 hr h8 hee
          go_wp2_with (at_builtin; refine wpList_append_run rfl _ _ _ _ rfl rfl rfl HAP.out ?_)
          go_roundw
          case rel =>
            refine ⟨j + 1, ps ++ [(x, .slice au x.p.ls.length ku)], r2, 0, av2, cv2, HRS.out.2.2, by go_num, by rw [List.length_append, List.length_singleton], by rw [List.length_append, List.length_singleton]; have := HRS.out; have := HLS.out; omega, ?_, ?_⟩
            · rw [List.map_append]; exact HF.out
            · have := H8.out; rw [HRT.out] at this; rw [List.length_append, List.length_singleton]; exact this
          case measure => have := HRS.out.2.2; simp [intOf]; omega
        · have hb3 : (err != 0) = true := by rw [bne_iff_ne]; exact hee
          have HF : Hid (F = ([], err)) := Lib.hid (by rw [HRD3.out, if_pos hee])
          have H6 := Lib.hid (h6.pick [] rfl : Sep w [] _).enNil
          unfold enC at h6
          obtain ⟨d0, d1, d2, d3, d4, d5, d6⟩ := cells7 h6
          unfold enV
          clear HP HRD2 HRD3 hp h5 h6 h7 hee
          go_wp2_with fail
          rw [HF.out]
          go_ret2
          exact ⟨[], _, rfl, rfl, by unfold enC at H6; exact H6.out⟩
      · have hb : (e2 != 0) = true := by rw [bne_iff_ne]; exact hee
        have HF : Hid (F = ([], e2)) := Lib.hid (by rw [HRD.out, if_pos hee])
        have hen : endErr r2 e2 = e2 := by unfold endErr; rw [if_neg (by simp [hee])]
        have hend := rrend_sep H3.out.sw2
        rw [hen] at hend
        have HN := Lib.hid hend
        have H9 := Lib.hid (H3.out.pick [] rfl : Sep w [] _).enNil
        clear H3 HRD HLESS hee hen hend
        go_wp2_with fail
        refine HN.out.mono ?_
        rintro q0 w6 ⟨rfl, rfl⟩
        clear HN
        go_wp2_with fail
        rw [HF.out]
        go_ret2
        exact ⟨[], _, rfl, rfl, H9.out⟩
    · have hd : decide (j < n) = false := decide_eq_false hjn
      rw [show n - j = 0 by omega, rwsA] at hrd
      have HN := Lib.hid (rrend_sep hs.sw2)
      have HS := Lib.hid (hs.pick [0] rfl : Sep w [EnT (.slice av ps.length cv) ps] wr)
      have HE := Lib.hid (hs.pick [] rfl : Sep w [] wr).enNil
      have HRD := Lib.hid hrd
      clear hs hrd hrs hj hjn
      generalize endErr rs es = e2 at *
      go_wp2_with fail
      refine HN.out.mono ?_
      rintro q0 w6 ⟨rfl, rfl⟩
      clear HN
      by_cases hee : e2 = 0
      · have hb : (e2 != 0) = false := by simp [hee]
        have HF : Hid (F = (ps.map (·.1), 0)) := Lib.hid (by rw [HRD.out, if_neg (by simp [hee])])
        clear hee HRD HE
        go_wp2_with fail
        rw [HF.out]
        go_ret2
        exact ⟨ps, _, rfl, rfl, HS.out⟩
      · have hb : (e2 != 0) = true := by rw [bne_iff_ne]; exact hee
        have HF : Hid (F = ([], e2)) := Lib.hid (by rw [HRD.out, if_pos hee])
        clear hee HRD HS
        go_wp2_with fail
        rw [HF.out]
        go_ret2
        exact ⟨[], _, rfl, rfl, HE.out⟩
theorem rerows_any {w0 w : World} {L : List Thing} (v : Value) (l : List UInt8) (h : Sep w0 L w) (hv : Sl w v (bv l)) (hl : l.length ≤ 1000000) :
    Calls Tryd.prog 50 #[v] w (RwsP w0 L (rwsOf l)) := by
  refine (rerows_w v l hv hl).mono ?_
  rintro e w' ⟨ps, u, rfl, h1, h2⟩
  exact ⟨ps, u, rfl, h1, h.onto1 h2⟩
end Go.Proofs.YtcicclghgbdgnaaDoor
