/- Package item: readLines. -/
import Derived.Deep.RegionLaw
import Derived.Test.YtafkbodmiblbnaaDoorMZ12
import Derived.Test.YtafkbodmiblbnaaDoorMZ09
namespace Go.Proofs.YtafkbodmiblbnaaDoor
open Go.RowKit
set_option linter.unusedVariables false
set_option linter.unusedSimpArgs false
def mkS (l : List UInt8) : KS := if h : l.length ≤ maxLen then ⟨⟨l.toArray⟩, h⟩ else ⟨⟨#[]⟩, Nat.zero_le _⟩
theorem mkS_val {l : List UInt8} (h : l.length ≤ maxLen) : (mkS l).1 = ⟨l.toArray⟩ := by unfold mkS; rw [dif_pos h]
def i64w (u : Nat) : Int := IntKind.i64.wrap (u : Int)
/-- What readLines reads. -/
def rdLs : Nat → List UInt8 → Int → List Ln × List UInt8 × Int
  | 0, rest, e => ([], rest, e)
  | c + 1, rest, e =>
    let t := rdTe rest e
    let v := rdVe t.2.1 t.2.2
    let r := rdLs c v.2.1 v.2.2
    ((mkS t.1, i64w v.1) :: r.1, r.2)
def rdL (rest : List UInt8) (e : Int) : List Ln × List UInt8 × Int := rdLs (min (rdVe rest e).1 5) (rdVe rest e).2.1 (rdVe rest e).2.2
theorem rdTe_len (rest : List UInt8) (e : Int) : (rdTe rest e).1.length ≤ rest.length ∧ (rdTe rest e).2.1.length ≤ rest.length := by
  unfold rdTe
  split
  · unfold rdT
    have := rdV_len rest
    split
    · exact ⟨by simp, this⟩
    · split
      · exact ⟨by simp, by simp⟩
      · refine ⟨?_, ?_⟩
        · rw [List.length_take]; omega
        · rw [List.length_drop]; omega
  · exact ⟨by simp, Nat.le_refl _⟩
theorem rdVe_len (rest : List UInt8) (e : Int) : (rdVe rest e).2.1.length ≤ rest.length := by
  unfold rdVe
  split
  · exact rdV_len rest
  · exact Nat.le_refl _
theorem rdVe_u64 (rest : List UInt8) (e : Int) : U64 (rdVe rest e).1 := by
  unfold rdVe
  split
  · exact rdV_u64 rest
  · exact Nat.zero_lt_succ _
/-- 'append' of one line, that lies in a block made for it. -/
theorem app_line {w0 w : World} {v : Value} {ls : List Ln} {L : List Thing} {ty : TypeId} (s : KS) (n : Int) (h : Sep w0 (LnR v ls :: L) w) (hl : ls.length ≤ 1000) :
    ∃ a c w', (Builtin.append_ #[28, 28] ty #[v, .slice (some ⟨w.heap.size, 0, none⟩) 1 1]).run Tryd.prog (w.alloc (.cells #[.string s.1, .int .i64 n] 117)) = .ok (.slice a (ls.length + 1) c) w' ∧ Sep w0 (LnR (.slice a (ls.length + 1) c) (ls ++ [(s, n)]) :: L) w' := by
  have h1 := h.alloc (.cells #[.string s.1, .int .i64 n] 117)
  have hx : LnS (w.alloc (.cells #[.string s.1, .int .i64 n] 117)) (.slice (some ⟨w.heap.size, 0, none⟩) 1 1) [(s, n)] := by
    refine .inr ⟨w.heap.size, 0, 1, rfl, Nat.le_refl _, by unfold maxLen; omega, h1.blk_lt.2, fun i hi => ?_⟩
    obtain rfl : i = 0 := by simp at hi; exact hi
    exact ⟨h1.cell rfl, h1.cell rfl⟩
  obtain ⟨v', w', hr, h2, _⟩ := append_ln (ms := [(s, n)]) ty h1.sw2 hx (by simp; omega)
  obtain ⟨a, c, rfl, -⟩ := h2.rnForm
  rw [List.length_append, List.length_singleton] at hr
  have h3 := h2.sw2.drop
  refine ⟨a, c, w', hr, ?_⟩
  unfold LnR at h3 ⊢
  rw [List.length_append, List.length_singleton] at h3 ⊢
  exact h3
set_option maxRecDepth 100000 in
set_option maxHeartbeats 4000000 in
theorem readLines_any {w0 w : World} {L : List Thing} {g : Nat} {rest : List UInt8} {e : Int} (h : Sep w0 (RdrT g rest e :: L) w) (hlen : rest.length ≤ 1000000) :
    Calls Tryd.prog 89 #[.pointer (some ⟨g, 0, none⟩)] w fun r w' => ∃ u, r = .returned u ∧ Sep w0 (LnR u (rdL rest e).1 :: RdrT g (rdL rest e).2.1 (rdL rest e).2.2 :: L) w' := by
  have HV := Lib.hid (rvarint_sep h)
  have hl2 := rdVe_len rest e
  have hu := rdVe_u64 rest e
  unfold rdL
  generalize (rdVe rest e).1 = u at *
  generalize (rdVe rest e).2.1 = r1 at *
  generalize (rdVe rest e).2.2 = e1 at *
  have HL := Lib.hid (show r1.length ≤ 1000000 by omega)
  clear h hl2 hlen
  unfold U64 at hu
  have u0 : (0 : Int) ≤ (u : Int) := by omega
  have u1 : (u : Int) ≤ 18446744073709551615 := by omega
  obtain ⟨m, hm⟩ : ∃ m, m = min u 5 := ⟨_, rfl⟩
  rw [← hm]
  have HM := Lib.hid (show m ≤ 5 by omega)
  by_cases h5 : u ≤ 5
  · obtain rfl : m = u := by omega
    clear hm
    have g5 : (m : Int) ≤ 5 := by omega
    have g6 : ¬ (5 : Int) < (m : Int) := by omega
    go_enter Tryd.func89, Tryd.ntmps89
    go_wp2_with fail
    refine HV.out.mono ?_
    rintro r0 w1 ⟨rfl, h1⟩
    have H1 := Lib.hid (h1.rnNil 2 117)
    clear h1 HV
    go_wp2_with fail
    go_loopw [3, 7] (fun b' i wr => ∃ (j : Nat) (acc : List Ln) (rs : List UInt8) (es : Int) (av : Option Addr) (cv : Nat), j ≤ m ∧ i = .int .u64 j ∧ b' = .slice av acc.length cv ∧ rs.length ≤ 1000000 ∧ acc.length = j ∧ rdLs m r1 e1 = (acc ++ (rdLs (m - j) rs es).1, (rdLs (m - j) rs es).2) ∧ Sep w0 (LnR (.slice av acc.length cv) acc :: RdrT g rs es :: L) wr) (fun _ i _ => m - (intOf i).toNat)
    case atStart => exact ⟨0, [], r1, e1, none, 0, by omega, rfl, rfl, HL.out, rfl, by simp, H1.out⟩
    case round =>
      obtain ⟨j, acc, rs, es, av, cv, hj, rfl, rfl, hrs, hacc, hrd, hs⟩ := hrel
      clear H1
      have j0 : (0 : Int) ≤ (j : Int) := by omega
      have j9 : (j : Int) ≤ 5 := by have := HM.out; omega
      by_cases hjm : j < m
      · have hd : decide (j < m) = true := decide_eq_true hjm
        have hstep : rdLs (m - j) rs es = ((mkS (rdTe rs es).1, i64w (rdVe (rdTe rs es).2.1 (rdTe rs es).2.2).1) :: (rdLs (m - (j + 1)) (rdVe (rdTe rs es).2.1 (rdTe rs es).2.2).2.1 (rdVe (rdTe rs es).2.1 (rdTe rs es).2.2).2.2).1, (rdLs (m - (j + 1)) (rdVe (rdTe rs es).2.1 (rdTe rs es).2.2).2.1 (rdVe (rdTe rs es).2.1 (rdTe rs es).2.2).2.2).2) := by
          rw [show m - j = (m - (j + 1)) + 1 by omega]
          rfl
        rw [hstep] at hrd
        have hl1 := rdTe_len rs es
        have hl2 := rdVe_len (rdTe rs es).2.1 (rdTe rs es).2.2
        have HS := Lib.hid hs.drew
        have HT := Lib.hid (rtext_sep hs.drew.sw2 (by omega))
        have HRD := Lib.hid hrd
        have HRS := Lib.hid (show (rdVe (rdTe rs es).2.1 (rdTe rs es).2.2).2.1.length ≤ 1000000 ∧ (rdTe rs es).1.length ≤ maxLen ∧ acc.length ≤ 1000 ∧ acc.length = j from ⟨by omega, by unfold maxLen; omega, by omega, hacc⟩)
        clear hs hrd hstep hl1 hl2 hrs hacc
        go_wp2_with fail
        go_region_law (first
          | (go_simp; go_at_call 58; refine Calls.mono HT.out ?_; rintro r9 w9 ⟨v9, rfl, h9⟩; obtain ⟨a9, c9, rfl⟩ := h9.sl.len; rw [bv_length] at h9; rw [bv_length]; have hcv := conv_bytes (P := Tryd.prog) Tryd.underlying24 Tryd.underlying5 Tryd.underlying9 h9.sl; have HVV := Lib.hid (rvarint_sep h9.sw2); clear h9)
          | (go_simp; go_at_call 57; refine Calls.mono HVV.out ?_; rintro r9 w10 ⟨rfl, h10⟩; have H10 := Lib.hid h10; have hcv2 := conv_bytes (P := Tryd.prog) Tryd.underlying24 Tryd.underlying5 Tryd.underlying9 (Sep.sl h10.sw2); have HAP := Lib.hid (app_line (ty := 28) (mkS (rdTe rs es).1) (i64w (rdVe (rdTe rs es).2.1 (rdTe rs es).2.2).1) h10.sw3 HRS.out.2.2.1); obtain ⟨a11, c11, w11, hr11, h11⟩ := HAP.out; rw [mkS_val HRS.out.2.1] at hr11; unfold i64w at hr11; have Hr := Lib.hid hr11; have H11 := Lib.hid h11; clear h10 hr11 h11 HAP)
          | (refine step_append_run (by rfl) (.tmp 9) (.tmp 17) 28 28 (by rfl) _ _ (by rfl) (by rfl) Hr.out ?_))
        all_goals
          have HF := Lib.hid (show Sep w0 (LnR (.slice a11 (acc ++ [(mkS (rdTe rs es).1, i64w (rdVe (rdTe rs es).2.1 (rdTe rs es).2.2).1)]).length c11) (acc ++ [(mkS (rdTe rs es).1, i64w (rdVe (rdTe rs es).2.1 (rdTe rs es).2.2).1)]) :: RdrT g (rdVe (rdTe rs es).2.1 (rdTe rs es).2.2).2.1 (rdVe (rdTe rs es).2.1 (rdTe rs es).2.2).2.2 :: L) w11 from by
            have h := (H11.out.pickL (M := [LnR (.slice a11 (acc.length + 1) c11) (acc ++ [(mkS (rdTe rs es).1, i64w (rdVe (rdTe rs es).2.1 (rdTe rs es).2.2).1)]), RdrT g (rdVe (rdTe rs es).2.1 (rdTe rs es).2.2).2.1 (rdVe (rdTe rs es).2.1 (rdTe rs es).2.2).2.2, By (.slice a9 (rdTe rs es).1.length c9) (rdTe rs es).1]) [0, 1] rfl)
            rw [List.length_append, List.length_singleton]
            exact h)
          clear HT HVV H10 Hr H11 hcv hcv2 HS
          go_wp2_with fail
          go_roundw
          case rel => exact ⟨j + 1, _, _, _, a11, c11, hjm, by go_num, by rw [List.length_append, List.length_singleton], HRS.out.1, by rw [List.length_append, List.length_singleton, HRS.out.2.2.2], by rw [HRD.out]; simp, HF.out⟩
          case measure => simp [intOf]; omega
      · have hd : decide (j < m) = false := decide_eq_false hjm
        have hjn : m - j = 0 := by omega
        rw [hjn] at hrd
        rw [show rdLs 0 rs es = ([], rs, es) from rfl, List.append_nil] at hrd
        have HRD := Lib.hid hrd
        have HS := Lib.hid hs
        clear hs hrd hjn hacc
        go_wp2_with fail
        go_ret
        rw [HRD.out]
        exact ⟨_, rfl, HS.out⟩
  · have hm5 : m = 5 := by omega
    subst hm5
    clear hm
    have g5 : (5 : Int) < (u : Int) := by omega
    go_enter Tryd.func89, Tryd.ntmps89
    go_wp2_with fail
    refine HV.out.mono ?_
    rintro r0 w1 ⟨rfl, h1⟩
    have H1 := Lib.hid (h1.rnNil 2 117)
    clear h1 HV
    go_wp2_with fail
    go_loopw [3, 7] (fun b' i wr => ∃ (j : Nat) (acc : List Ln) (rs : List UInt8) (es : Int) (av : Option Addr) (cv : Nat), j ≤ 5 ∧ i = .int .u64 j ∧ b' = .slice av acc.length cv ∧ rs.length ≤ 1000000 ∧ acc.length = j ∧ rdLs 5 r1 e1 = (acc ++ (rdLs (5 - j) rs es).1, (rdLs (5 - j) rs es).2) ∧ Sep w0 (LnR (.slice av acc.length cv) acc :: RdrT g rs es :: L) wr) (fun _ i _ => 5 - (intOf i).toNat)
    case atStart => exact ⟨0, [], r1, e1, none, 0, by omega, rfl, rfl, HL.out, rfl, by simp, H1.out⟩
    case round =>
      obtain ⟨j, acc, rs, es, av, cv, hj, rfl, rfl, hrs, hacc, hrd, hs⟩ := hrel
      clear H1
      have j0 : (0 : Int) ≤ (j : Int) := by omega
      have j9 : (j : Int) ≤ 5 := by have := HM.out; omega
      by_cases hjm : j < 5
      · have hd : decide ((j : Int) < 5) = true := decide_eq_true (by omega)
        have hstep : rdLs (5 - j) rs es = ((mkS (rdTe rs es).1, i64w (rdVe (rdTe rs es).2.1 (rdTe rs es).2.2).1) :: (rdLs (5 - (j + 1)) (rdVe (rdTe rs es).2.1 (rdTe rs es).2.2).2.1 (rdVe (rdTe rs es).2.1 (rdTe rs es).2.2).2.2).1, (rdLs (5 - (j + 1)) (rdVe (rdTe rs es).2.1 (rdTe rs es).2.2).2.1 (rdVe (rdTe rs es).2.1 (rdTe rs es).2.2).2.2).2) := by
          rw [show 5 - j = (5 - (j + 1)) + 1 by omega]
          rfl
        rw [hstep] at hrd
        have hl1 := rdTe_len rs es
        have hl2 := rdVe_len (rdTe rs es).2.1 (rdTe rs es).2.2
        have HS := Lib.hid hs.drew
        have HT := Lib.hid (rtext_sep hs.drew.sw2 (by omega))
        have HRD := Lib.hid hrd
        have HRS := Lib.hid (show (rdVe (rdTe rs es).2.1 (rdTe rs es).2.2).2.1.length ≤ 1000000 ∧ (rdTe rs es).1.length ≤ maxLen ∧ acc.length ≤ 1000 ∧ acc.length = j from ⟨by omega, by unfold maxLen; omega, by omega, hacc⟩)
        clear hs hrd hstep hl1 hl2 hrs hacc
        go_wp2_with fail
        go_region_law (first
          | (go_simp; go_at_call 58; refine Calls.mono HT.out ?_; rintro r9 w9 ⟨v9, rfl, h9⟩; obtain ⟨a9, c9, rfl⟩ := h9.sl.len; rw [bv_length] at h9; rw [bv_length]; have hcv := conv_bytes (P := Tryd.prog) Tryd.underlying24 Tryd.underlying5 Tryd.underlying9 h9.sl; have HVV := Lib.hid (rvarint_sep h9.sw2); clear h9)
          | (go_simp; go_at_call 57; refine Calls.mono HVV.out ?_; rintro r9 w10 ⟨rfl, h10⟩; have H10 := Lib.hid h10; have hcv2 := conv_bytes (P := Tryd.prog) Tryd.underlying24 Tryd.underlying5 Tryd.underlying9 (Sep.sl h10.sw2); have HAP := Lib.hid (app_line (ty := 28) (mkS (rdTe rs es).1) (i64w (rdVe (rdTe rs es).2.1 (rdTe rs es).2.2).1) h10.sw3 HRS.out.2.2.1); obtain ⟨a11, c11, w11, hr11, h11⟩ := HAP.out; rw [mkS_val HRS.out.2.1] at hr11; unfold i64w at hr11; have Hr := Lib.hid hr11; have H11 := Lib.hid h11; clear h10 hr11 h11 HAP)
          | (refine step_append_run (by rfl) (.tmp 9) (.tmp 17) 28 28 (by rfl) _ _ (by rfl) (by rfl) Hr.out ?_))
        all_goals
          have HF := Lib.hid (show Sep w0 (LnR (.slice a11 (acc ++ [(mkS (rdTe rs es).1, i64w (rdVe (rdTe rs es).2.1 (rdTe rs es).2.2).1)]).length c11) (acc ++ [(mkS (rdTe rs es).1, i64w (rdVe (rdTe rs es).2.1 (rdTe rs es).2.2).1)]) :: RdrT g (rdVe (rdTe rs es).2.1 (rdTe rs es).2.2).2.1 (rdVe (rdTe rs es).2.1 (rdTe rs es).2.2).2.2 :: L) w11 from by
            have h := (H11.out.pickL (M := [LnR (.slice a11 (acc.length + 1) c11) (acc ++ [(mkS (rdTe rs es).1, i64w (rdVe (rdTe rs es).2.1 (rdTe rs es).2.2).1)]), RdrT g (rdVe (rdTe rs es).2.1 (rdTe rs es).2.2).2.1 (rdVe (rdTe rs es).2.1 (rdTe rs es).2.2).2.2, By (.slice a9 (rdTe rs es).1.length c9) (rdTe rs es).1]) [0, 1] rfl)
            rw [List.length_append, List.length_singleton]
            exact h)
          clear HT HVV H10 Hr H11 hcv hcv2 HS
          go_wp2_with fail
          go_roundw
          case rel => exact ⟨j + 1, _, _, _, a11, c11, hjm, by go_num, by rw [List.length_append, List.length_singleton], HRS.out.1, by rw [List.length_append, List.length_singleton, HRS.out.2.2.2], by rw [HRD.out]; simp, HF.out⟩
          case measure => simp [intOf]; omega
      · have hd : decide ((j : Int) < 5) = false := decide_eq_false (by omega)
        have hjn : 5 - j = 0 := by omega
        rw [hjn] at hrd
        rw [show rdLs 0 rs es = ([], rs, es) from rfl, List.append_nil] at hrd
        have HRD := Lib.hid hrd
        have HS := Lib.hid hs
        clear hs hrd hjn hacc
        go_wp2_with fail
        go_ret
        rw [HRD.out]
        exact ⟨_, rfl, HS.out⟩
end Go.Proofs.YtafkbodmiblbnaaDoor
