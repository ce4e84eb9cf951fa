/- Package entry: Rows. -/
import Derived.Test.YtcicclghgbdgnaaDoorEn3
import Derived.Test.YtcicclghgbdgnaaDoorEn10
import Derived.Test.YtcicclghgbdgnaaDoorEn11
namespace Go.Proofs.YtcicclghgbdgnaaDoor
open Go.RowKit
set_option linter.unusedVariables false
set_option linter.unusedSimpArgs false
def RwsP (w0 : World) (L : List Thing) (F : List EnM × Int) (r : Ending) (w' : World) : Prop := ∃ (ps : List (EnM × Value)) (u : Value), r = .returned (.tuple #[u, .int .i64 F.2]) ∧ ps.map (·.1) = F.1 ∧ Sep w0 (EnT u ps :: L) w'
theorem vint_pos (u : Nat) : 1 ≤ (vint u).length := by unfold vint vintF; split <;> simp
theorem rdTe_less {rest : List UInt8} {e : Int} (h : (rdTe rest e).2.2 = 0) : (rdTe rest e).2.1.length + 1 ≤ rest.length := by
  obtain ⟨-, h2⟩ := rdTe_zero h
  have h3 := congrArg List.length h2
  rw [List.length_append, List.length_append] at h3
  have h4 : 1 ≤ (vint (rdTe rest e).1.length).length := vint_pos _
  omega
set_option maxRecDepth 100000 in
set_option maxHeartbeats 16000000 in
theorem decode_w {w : World} (v : Value) (l : List UInt8) (hv : Sl w v (bv l)) (hk : KindsAt w) (hl : l.length ≤ 1000000) :
    Calls Tryd.prog 48 #[v, .func (.func 23) #[] #[]] w (RwsP w [] (rwsOf l)) := by
  have HR := Lib.hid (read_sep v l w (Sep.start w) hv (by omega))
  have HK := Lib.hid hk
  have hu := rdVe_u64 l 0
  have hlen := rdVe_len l 0
  obtain ⟨F, hF⟩ : ∃ F, F = rwsOf l := ⟨_, rfl⟩
  rw [← hF]
  unfold rwsOf at hF
  have HV : Hid (∀ wx M g, Sep w (RdrT g l 0 :: M) wx → Calls Tryd.prog 44 #[.pointer (some ⟨g, 0, none⟩)] wx fun r w' => r = .returned (.int .u64 (rdVe l 0).1) ∧ Sep w (RdrT g (rdVe l 0).2.1 (rdVe l 0).2.2 :: M) w') := Lib.hid fun wx M g hx => rvarint_sep hx
  generalize (rdVe l 0).1 = n at *
  generalize (rdVe l 0).2.1 = r1 at *
  generalize (rdVe l 0).2.2 = e1 at *
  unfold U64 at hu
  have n0 : (0 : Int) ≤ (n : Int) := by omega
  have n1 : (n : Int) ≤ 18446744073709551615 := by omega
  have HL := Lib.hid (show r1.length ≤ 1000000 by omega)
  have HF := Lib.hid hF
  obtain ⟨a, c, rfl⟩ := hv.len
  clear hv hk hl hlen hF hu
  go_enter Tryd.func48, Tryd.ntmps48
  go_wp2_with fail
  refine HR.out.mono ?_
  rintro q0 w1 ⟨g, rfl, h1⟩
  have H1 := Lib.hid h1
  clear h1 HR
  go_wp2_with fail
  refine (HV.out _ _ _ H1.out).mono ?_
  rintro q0 w2 ⟨rfl, h2⟩
  have H2 := Lib.hid h2.enNil
  clear h2 HV H1
  go_wp2_with fail
  go_loopw [7, 16] (fun pv i wr => ∃ (j : Nat) (ps : List (EnM × Value)) (rs : List UInt8) (es : Int) (av : Option Addr) (cv : Nat), j ≤ n ∧ i = .int .u64 j ∧ pv = .slice av ps.length cv ∧ rs.length + ps.length ≤ 1000000 ∧ F = rwsA (n - j) rs es (ps.map (·.1)) ∧ Sep w [EnT (.slice av ps.length cv) ps, RdrT g rs es] wr) (fun _ i _ => n - (intOf i).toNat)
  case atStart => exact ⟨0, [], r1, e1, none, 0, Nat.zero_le _, rfl, rfl, HL.out, HF.out, H2.out⟩
  case round =>
    obtain ⟨j, ps, rs, es, av, cv, hj, rfl, rfl, hrs, hrd, hs⟩ := hrel
    clear H2 HF HL
    have j0 : (0 : Int) ≤ (j : Int) := by omega
    by_cases hjn : j < n
    · have hd : decide (j < n) = true := decide_eq_true hjn
      have j1 : (j : Int) < (n : Int) := by omega
      have hlen := rdTe_len rs es
      have HT := Lib.hid (rtext_sep hs.sw2 (by omega))
      have hless : (rdTe rs es).2.2 = 0 → (rdTe rs es).2.1.length + 1 ≤ rs.length := rdTe_less
      rw [show n - j = (n - (j + 1)) + 1 by omega, rwsA] at hrd
      generalize (rdTe rs es).1 = t at *
      generalize (rdTe rs es).2.1 = r2 at *
      generalize (rdTe rs es).2.2 = e2 at *
      have HRD := Lib.hid hrd
      have HRS := Lib.hid (And.intro hrs (And.intro hlen hjn))
      have HLESS := Lib.hid hless
      clear hs hrd hless hlen hrs hjn hj
      go_wp2_with fail
      refine HT.out.mono ?_
      rintro q0 w3 ⟨v3, rfl, h3⟩
      obtain ⟨a3, c3, rfl⟩ := h3.sl.len
      rw [bv_length] at h3 ⊢
      have HE := Lib.hid (rerr_sep h3.sw2)
      have H3 := Lib.hid h3
      clear h3 HT
      go_wp2_with fail
      refine HE.out.mono ?_
      rintro q0 w4 ⟨rfl, rfl⟩
      clear HE
      by_cases hee : e2 = 0
      · have hb : (e2 != 0) = false := by simp [hee]
        have HRD2 : Hid (F = if (prsEn t).2 ≠ 0 then ([], (prsEn t).2) else rwsA (n - (j + 1)) r2 0 (ps.map (·.1) ++ [(prsEn t).1])) := Lib.hid (by rw [HRD.out, if_neg (by simp [hee])])
        have HLS := Lib.hid (HLESS.out hee)
        have HP := Lib.hid (eparse_any (.slice a3 t.length c3) t H3.out H3.out.sl (HK.out.below H3.out.low) (by have := HRS.out; omega))
        have HRT : Hid (e2 = 0) := Lib.hid hee
        clear HRD HLESS H3 hee
        go_wp2_with fail
        refine HP.out.mono ?_
        rintro q0 w5 ⟨x, err, u, rfl, hp, h5⟩
        obtain ⟨au, ku, rfl, -⟩ := h5.rnForm
        have HRD3 : Hid (F = if err ≠ 0 then ([], err) else rwsA (n - (j + 1)) r2 0 (ps.map (·.1) ++ [x])) := Lib.hid (by rw [HRD2.out, ← hp])
        have h6 := h5.alloc (.cells (enC x (.slice au x.p.ls.length ku)) 26)
        have h7 := h6.alloc (.cells (enC x (.slice au x.p.ls.length ku)) 26)
        rw [show (w5.alloc (.cells (enC x (.slice au x.p.ls.length ku)) 26)).heap.size = w5.heap.size + 1 by simp] at h7
        by_cases hee : err = 0
        · have hb3 : (err != 0) = false := by simp [hee]
          obtain ⟨av2, cv2, w8, hr, h8⟩ := append_en (ty := 38) (h7.pick [0, 5, 2, 4] rfl : Sep w [Cl (w5.heap.size + 1) (enC x (.slice au x.p.ls.length ku)) 26, EnT (.slice av ps.length cv) ps, LnR (.slice au x.p.ls.length ku) x.p.ls, RdrT g r2 e2] _) rfl (by have := HRS.out; omega)
          unfold enC at h6 hr
          obtain ⟨d0, d1, d2, d3, d4, d5, d6⟩ := cells7 h6
          have HAP := Lib.hid hr
          have H8 := Lib.hid h8
          have HF : Hid (F = rwsA (n - (j + 1)) r2 0 (ps.map (·.1) ++ [x])) := Lib.hid (by rw [HRD3.out, if_neg (by simp [hee])])
          unfold enV
          clear HP HRD2 HRD3 hp h5 h6 h7 hr h8 hee
          go_wp2_with (at_builtin; refine wpList_append_run rfl _ _ _ _ rfl rfl rfl HAP.out ?_)
          go_roundw
          case rel =>
            refine ⟨j + 1, ps ++ [(x, .slice au x.p.ls.length ku)], r2, 0, av2, cv2, HRS.out.2.2, by go_num, by rw [List.length_append, List.length_singleton], by rw [List.length_append, List.length_singleton]; have := HRS.out; have := HLS.out; omega, ?_, ?_⟩
            · rw [List.map_append]; exact HF.out
            · have := H8.out; rw [HRT.out] at this; rw [List.length_append, List.length_singleton]; exact this
          case measure => have := HRS.out.2.2; simp [intOf]; omega
        · have hb3 : (err != 0) = true := by rw [bne_iff_ne]; exact hee
          have HF : Hid (F = ([], err)) := Lib.hid (by rw [HRD3.out, if_pos hee])
          have H6 := Lib.hid (h6.pick [] rfl : Sep w [] _).enNil
          unfold enC at h6
          obtain ⟨d0, d1, d2, d3, d4, d5, d6⟩ := cells7 h6
          unfold enV
          clear HP HRD2 HRD3 hp h5 h6 h7 hee
          go_wp2_with fail
          rw [HF.out]
          go_ret2
          exact ⟨[], _, rfl, rfl, by unfold enC at H6; exact H6.out⟩
      · have hb : (e2 != 0) = true := by rw [bne_iff_ne]; exact hee
        have HF : Hid (F = ([], e2)) := Lib.hid (by rw [HRD.out, if_pos hee])
        have hen : endErr r2 e2 = e2 := by unfold endErr; rw [if_neg (by simp [hee])]
        have hend := rend_sep H3.out.sw2
        rw [hen] at hend
        have HN := Lib.hid hend
        have H9 := Lib.hid (H3.out.pick [] rfl : Sep w [] _).enNil
        clear H3 HRD HLESS hee hen hend
        go_wp2_with fail
        refine HN.out.mono ?_
        rintro q0 w6 ⟨rfl, rfl⟩
        clear HN
        go_wp2_with fail
        rw [HF.out]
        go_ret2
        exact ⟨[], _, rfl, rfl, H9.out⟩
    · have hd : decide (j < n) = false := decide_eq_false hjn
      rw [show n - j = 0 by omega, rwsA] at hrd
      have HN := Lib.hid (rend_sep hs.sw2)
      have HS := Lib.hid (hs.pick [0] rfl : Sep w [EnT (.slice av ps.length cv) ps] wr)
      have HE := Lib.hid (hs.pick [] rfl : Sep w [] wr).enNil
      have HRD := Lib.hid hrd
      clear hs hrd hrs hj hjn
      generalize endErr rs es = e2 at *
      go_wp2_with fail
      refine HN.out.mono ?_
      rintro q0 w6 ⟨rfl, rfl⟩
      clear HN
      by_cases hee : e2 = 0
      · have hb : (e2 != 0) = false := by simp [hee]
        have HF : Hid (F = (ps.map (·.1), 0)) := Lib.hid (by rw [HRD.out, if_neg (by simp [hee])])
        clear hee HRD HE
        go_wp2_with fail
        rw [HF.out]
        go_ret2
        exact ⟨ps, _, rfl, rfl, HS.out⟩
      · have hb : (e2 != 0) = true := by rw [bne_iff_ne]; exact hee
        have HF : Hid (F = ([], e2)) := Lib.hid (by rw [HRD.out, if_pos hee])
        clear hee HRD HS
        go_wp2_with fail
        rw [HF.out]
        go_ret2
        exact ⟨[], _, rfl, rfl, HE.out⟩
theorem rows_any {w0 w : World} {L : List Thing} (v : Value) (l : List UInt8) (h : Sep w0 L w) (hv : Sl w v (bv l)) (hk : KindsAt w) (hl : l.length ≤ 1000000) :
    Calls Tryd.prog 24 #[v] w (RwsP w0 L (rwsOf l)) := by
  have HC := Lib.hid (decode_w v l hv hk hl)
  have H := Lib.hid h
  obtain ⟨a, c, rfl⟩ := hv.len
  clear h hv hk
  generalize rwsOf l = F at *
  go_enter Tryd.func24, Tryd.ntmps24
  go_wp2_with fail
  refine HC.out.mono ?_
  rintro r0 w1 ⟨ps, u, rfl, hps, h1⟩
  have HF := Lib.hid (H.out.onto1 h1)
  have HPS := Lib.hid hps
  clear h1 HC H hps
  go_wp2_with fail
  go_ret2
  exact ⟨ps, _, rfl, HPS.out, HF.out⟩
end Go.Proofs.YtcicclghgbdgnaaDoor
