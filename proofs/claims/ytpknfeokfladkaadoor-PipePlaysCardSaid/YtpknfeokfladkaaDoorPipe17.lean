/- The statement's own (stage 12): same; entries that came in; an element stored whole. -/
import Derived.Test.YtpknfeokfladkaaDoorPipe13
import Derived.Test.YtpknfeokfladkaaDoorPipe10
import Derived.Test.YtpknfeokfladkaaDoorPipe16
import Derived.Test.YtpknfeokfladkaaDoorEn7
import Derived.Test.YtpknfeokfladkaaDoorEnOf
namespace Go.Proofs.YtpknfeokfladkaaDoor
open Go.RowKit
set_option linter.unusedVariables false
set_option linter.unusedSimpArgs false
theorem sameP_of2 {xs ys : List (EnM × Value)} (h : ys.map (·.1) = xs.map (·.1)) : SameP xs ys := by
  have hl : ys.length = xs.length := by simpa using congrArg List.length h
  refine ⟨hl.symm, fun j hj hj' => ?_⟩
  have h1 : (ys.map (·.1))[j]? = (xs.map (·.1))[j]? := by rw [h]
  have h2 : ys[j].1 = xs[j].1 := by simpa [hj, hj'] using h1
  rw [h2]; exact enSame_self _
theorem ens_of2 {w : World} {v : Value} (h : RdC Tryd.prog w 35 [v]) : ∃ xs : List (EnM × Value), EnS w v xs := by
  obtain ⟨a, len, cap, rfl, h1, h2, h3⟩ := h.rows Tryd.underlying35 (show Tryd.prog.cellsOf 34 = 7 by kernel_rfl) (by decide)
  by_cases h0 : len = 0
  · subst h0
    exact ⟨[], .inl ⟨a, cap, rfl, rfl⟩⟩
  · obtain ⟨b, off, rfl, hb, -⟩ := h3 0 (by omega)
    have hc : ∀ i, i < len → ∃ q : EnM × Value, En7 w b (off + i * 7) q.1 q.2 ∧ LnS w q.2 q.1.p.ls := fun i hi => by
      obtain ⟨b', off', hab, _, cs, hl, hc, hr⟩ := h3 i hi
      simp only [Option.some.injEq, Addr.mk.injEq, and_true] at hab
      obtain ⟨rfl, rfl⟩ := hab
      obtain ⟨c, m, k, s, o, n, u, ls, rfl, hv⟩ := en_of hr
      exact ⟨(⟨c, m, ⟨k, s, o, n, ls⟩⟩, u), ⟨hc 0 (by simp), hc 1 (by simp), hc 2 (by simp), hc 3 (by simp), hc 4 (by simp), hc 5 (by simp), hc 6 (by simp)⟩, hv⟩
    have hpick : ∀ i : Nat, ∃ q : EnM × Value, i < len → En7 w b (off + i * 7) q.1 q.2 ∧ LnS w q.2 q.1.p.ls := fun i => by
      by_cases hi : i < len
      · obtain ⟨q, h⟩ := hc i hi; exact ⟨q, fun _ => h⟩
      · exact ⟨(zE, .nilFunc), fun h => absurd h hi⟩
    obtain ⟨f, hf⟩ := Classical.axiomOfChoice hpick
    refine ⟨(List.range len).map f, .inr ⟨b, off, cap, by simp, by simpa using h1, h2, hb, fun i hi => ?_⟩⟩
    have hi' : i < len := by simpa using hi
    rw [List.getElem_map, List.getElem_range]
    exact hf i hi'
theorem set_ln (ps : List (EnM × Value)) (i : Nat) (hi : i < ps.length) (x : EnM) (hx : x.p.ls = ps[i].1.p.ls) : (ps.set i (x, ps[i].2)).map lnP = ps.map lnP := by
  apply List.ext_getElem
  · simp
  · intro j h1 h2
    rw [List.getElem_map, List.getElem_map, List.getElem_set]
    split
    · rename_i h; subst h; show LnR _ x.p.ls = _; rw [hx]
    · rfl
theorem Sep.enPut {w0 w : World} {v : Value} {ps : List (EnM × Value)} {L : List Thing} (h : Sep w0 (EnT v ps :: L) w) (i : Nat) (hi : i < ps.length) :
    ∃ b c, v = .slice (some ⟨b, 0, none⟩) ps.length c ∧ (∀ k, w.frozen? ⟨b, k, none⟩ = false) ∧ (∀ k (hk : k < (enCs ps).length), w.cell? ⟨b, k, none⟩ = some (enCs ps)[k]) ∧
      ∀ x : EnM, x.p.ls = ps[i].1.p.ls → Sep w0 (EnT v (ps.set i (x, ps[i].2)) :: L) (((((((w.setCell ⟨b, i * 7, none⟩ (.int .i64 x.c)).setCell ⟨b, i * 7 + 1, none⟩ (.int .i64 x.m)).setCell ⟨b, i * 7 + 2, none⟩ (.int .i64 x.p.k)).setCell ⟨b, i * 7 + 3, none⟩ (.string x.p.s.1)).setCell ⟨b, i * 7 + 4, none⟩ (.int .i64 x.p.o)).setCell ⟨b, i * 7 + 5, none⟩ (.int .i64 x.p.n)).setCell ⟨b, i * 7 + 6, none⟩ ps[i].2) := by
  have h0 := h.enOpen
  have hlen : (enCs ps).length = ps.length * 7 := enCs_len ps
  obtain ⟨b, c, rfl, h1, h2, h3, h4, h5, h6, h7⟩ := h0.rnSet (by omega)
  refine ⟨b, c, rfl, h6, h5, fun x hx => Sep.enClose ?_⟩
  have one : ∀ {wx : World} {xs : List Value} {M : List Thing} (j : Nat) (u : Value), xs.length = ps.length * 7 → j < ps.length * 7 → Sep w0 (Rn 7 34 (.slice (some ⟨b, 0, none⟩) ps.length c) ps.length xs :: M) wx → Sep w0 (Rn 7 34 (.slice (some ⟨b, 0, none⟩) ps.length c) ps.length (xs.set j u) :: M) (wx.setCell ⟨b, j, none⟩ u) := by
    intro wx xs M j u hx hj hs
    obtain ⟨b', c', hv, -, -, -, -, -, -, h8⟩ := hs.rnSet (by omega)
    simp only [Value.slice.injEq, Option.some.injEq, Addr.mk.injEq, and_true] at hv
    obtain ⟨rfl, -⟩ := hv
    exact h8 j u (by omega)
  have g0 := one (i * 7) (.int .i64 x.c) hlen (by omega) h0
  have g1 := one (i * 7 + 1) (.int .i64 x.m) (by simp only [List.length_set]; exact hlen) (by omega) g0
  have g2 := one (i * 7 + 2) (.int .i64 x.p.k) (by simp only [List.length_set]; exact hlen) (by omega) g1
  have g3 := one (i * 7 + 3) (.string x.p.s.1) (by simp only [List.length_set]; exact hlen) (by omega) g2
  have g4 := one (i * 7 + 4) (.int .i64 x.p.o) (by simp only [List.length_set]; exact hlen) (by omega) g3
  have g5 := one (i * 7 + 5) (.int .i64 x.p.n) (by simp only [List.length_set]; exact hlen) (by omega) g4
  have g6 := one (i * 7 + 6) ps[i].2 (by simp only [List.length_set]; exact hlen) (by omega) g5
  rw [← enCs_set7 ps i x ps[i].2 hi] at g6
  rw [set_ln ps i hi x hx]
  show Sep w0 (Rn 7 34 _ (ps.set i (x, ps[i].2)).length (enCs (ps.set i (x, ps[i].2))) :: _) _
  rw [List.length_set]
  exact g6
set_option maxRecDepth 100000 in
set_option maxHeartbeats 16000000 in
theorem same12 {w0 w : World} {g g' : Nat} {b : Int} {ps qs : List (EnM × Value)} {L : List Thing} (h : Sep w0 (PipeT g b ps :: DocT g' b qs :: L) w) (he : qs.map (·.1) = ps.map (·.1)) (h0 : 0 ≤ b) (h1 : b ≤ 4611686018427380000) (hl : ps.length ≤ 24) (hls : ∀ q ∈ ps, q.1.p.ls.length ≤ 1000) :
    Calls Tryd.prog 13 #[.pointer (some ⟨g, 0, none⟩), .pointer (some ⟨g', 0, none⟩)] w fun e w' => e = .returned (.bool true) ∧ Sep w0 (PipeT g b ps :: DocT g' b qs :: L) w' := by
  have hlq : qs.length = ps.length := by simpa using congrArg List.length he
  obtain ⟨mv, h2⟩ := h.sw2.docOpen
  obtain ⟨ma, mc, rfl, -, -⟩ := h2.sw2.enForm
  rw [hlq] at h2
  have h3 := h2.pickL (M := [_, _, _]) [2, 0, 1] rfl
  have HF := Lib.hid (from_ok b 0 (Nat.zero_le _) (by omega) hls h3 h0 h1 (by omega))
  obtain ⟨c0, c1⟩ := cells2 h2
  have HB := Lib.hid (And.intro h0 (And.intro h1 (And.intro hl (And.intro hlq he))))
  clear h h2 h3 h0 h1 hl hls hlq he
  go_enter Tryd.func13, Tryd.ntmps13
  go_wp2_with fail
  refine HF.out.mono ?_
  rintro r0 w1 ⟨u, rfl, rs, hrs, h4⟩
  rw [List.drop_zero] at hrs
  have hrl : rs.length = ps.length := by simpa using congrArg List.length hrs
  obtain ⟨ua, uc, rfl, -⟩ := h4.enForm
  rw [hrl] at h4 ⊢
  have HRS := Lib.hid (And.intro hrs hrl)
  have h5 := h4.drew.sw2
  have HBA := Lib.hid (base_any h5)
  clear HF hrs hrl c0 c1
  obtain ⟨c0, c1⟩ := cells2 h5.sw3
  clear h4 h5
  go_wp2_with fail
  refine wp_region_G (fun w' => w'.cell? ⟨g', 0, none⟩ = some (.int .i64 b) ∧ w'.cell? ⟨g', 1, none⟩ = some (.slice ma ps.length mc)) [] (by kernel_rfl) ⟨c0, c1⟩ (fun hS => ?_)
  try dsimp only at hS
  refine wpAnyG_take' (i := 0) (v := ?v0_1sm) rfl (by kernel_rfl) (by kernel_rfl) (by kernel_rfl) (by kernel_rfl) (fun _ _ _ h => h) (Or.inl ⟨by rfl, ?hy0_1sm⟩) hS ?rest0_1sm
  case hy0_1sm => intro w hSw; (try dsimp only at hSw); go_simp; (try with_reducible rfl)
  case rest0_1sm =>
  try simp only [List.getElem_toArray, List.getElem_cons_succ, List.getElem_cons_zero, Act.put, List.setIfInBounds_toArray, List.set_cons_zero, List.set_cons_succ]
  refine wpAnyG_take' (i := 2) (v := ?v2_2sm) rfl (by kernel_rfl) (by kernel_rfl) (by kernel_rfl) (by kernel_rfl) (fun _ _ _ h => h) (Or.inl ⟨by rfl, ?hy2_2sm⟩) hS ?rest2_2sm
  case hy2_2sm => intro w hSw; (try dsimp only at hSw); go_simp; (try with_reducible rfl)
  case rest2_2sm =>
  try simp only [List.getElem_toArray, List.getElem_cons_succ, List.getElem_cons_zero, Act.put, List.setIfInBounds_toArray, List.set_cons_zero, List.set_cons_succ]
  refine wpAnyG_take' (i := 3) (v := ?v3_3sm) rfl (by kernel_rfl) (by kernel_rfl) (by kernel_rfl) (by kernel_rfl) (fun _ _ _ h => h) (Or.inl ⟨by rfl, ?hy3_3sm⟩) hS ?rest3_3sm
  case hy3_3sm => intro w hSw; (try dsimp only at hSw); go_simp; (try with_reducible rfl)
  case rest3_3sm =>
  try simp only [List.getElem_toArray, List.getElem_cons_succ, List.getElem_cons_zero, Act.put, List.setIfInBounds_toArray, List.set_cons_zero, List.set_cons_succ]
  refine wpAnyG_take' (i := 4) (v := ?v4_4sm) rfl (by kernel_rfl) (by kernel_rfl) (by kernel_rfl) (by kernel_rfl) (fun _ _ _ h => h) (Or.inl ⟨by rfl, ?hy4_4sm⟩) hS ?rest4_4sm
  case hy4_4sm => intro w hSw; (try dsimp only at hSw); go_simp; (try with_reducible rfl)
  case rest4_4sm =>
  try simp only [List.getElem_toArray, List.getElem_cons_succ, List.getElem_cons_zero, Act.put, List.setIfInBounds_toArray, List.set_cons_zero, List.set_cons_succ]
  refine wpAnyG_take' (i := 5) (v := ?v5_5sm) rfl (by kernel_rfl) (by kernel_rfl) (by kernel_rfl) (by kernel_rfl) (fun _ _ _ h => h) (Or.inl ⟨by rfl, ?hy5_5sm⟩) hS ?rest5_5sm
  case hy5_5sm => intro w hSw; (try dsimp only at hSw); go_simp; (try with_reducible rfl)
  case rest5_5sm =>
  try simp only [List.getElem_toArray, List.getElem_cons_succ, List.getElem_cons_zero, Act.put, List.setIfInBounds_toArray, List.set_cons_zero, List.set_cons_succ]
  refine wpAnyG_one (i := 1) (by kernel_rfl) rfl (fun K hK => ?_)
  go_simp
  refine Calls.mono HBA.out ?_
  rintro r1 w2 ⟨rfl, h6⟩
  clear c0 c1 HBA
  obtain ⟨c0, c1⟩ := cells2 h6.sw3
  have HTA := Lib.hid (top_any h6 HB.out.1 HB.out.2.1 (by have := HB.out; omega))
  clear h6
  go_wp2_with fail
  refine hK.out _ _ (fun _ => ?hS6sm) ?rest6sm
  case hS6sm => exact ⟨c0, c1⟩
  clear K hK
  try simp only [List.getElem_toArray, List.getElem_cons_succ, List.getElem_cons_zero, Act.put, List.setIfInBounds_toArray, List.set_cons_zero, List.set_cons_succ]
  refine wpAnyG_take' (i := 6) (v := ?v6_7sm) rfl (by kernel_rfl) (by kernel_rfl) (by kernel_rfl) (by kernel_rfl) (fun _ _ _ h => h) (Or.inl ⟨by rfl, ?hy6_7sm⟩) ⟨c0, c1⟩ ?rest6_7sm
  case hy6_7sm => intro w hSw; (try dsimp only at hSw); go_simp; (try with_reducible rfl)
  case rest6_7sm =>
  try simp only [List.getElem_toArray, List.getElem_cons_succ, List.getElem_cons_zero, Act.put, List.setIfInBounds_toArray, List.set_cons_zero, List.set_cons_succ]
  refine wpAnyG_take' (i := 7) (v := ?v7_8sm) rfl (by kernel_rfl) (by kernel_rfl) (by kernel_rfl) (by kernel_rfl) (fun _ _ _ h => h) (Or.inl ⟨by rfl, ?hy7_8sm⟩) ⟨c0, c1⟩ ?rest7_8sm
  case hy7_8sm => intro w hSw; (try dsimp only at hSw); go_simp; (try with_reducible rfl)
  case rest7_8sm =>
  try simp only [List.getElem_toArray, List.getElem_cons_succ, List.getElem_cons_zero, Act.put, List.setIfInBounds_toArray, List.set_cons_zero, List.set_cons_succ]
  refine wpAnyG_take' (i := 8) (v := ?v8_9sm) rfl (by kernel_rfl) (by kernel_rfl) (by kernel_rfl) (by kernel_rfl) (fun _ _ _ h => h) (Or.inl ⟨by rfl, ?hy8_9sm⟩) ⟨c0, c1⟩ ?rest8_9sm
  case hy8_9sm => intro w hSw; (try dsimp only at hSw); go_simp; (try with_reducible rfl)
  case rest8_9sm =>
  try simp only [List.getElem_toArray, List.getElem_cons_succ, List.getElem_cons_zero, Act.put, List.setIfInBounds_toArray, List.set_cons_zero, List.set_cons_succ]
  refine wpAnyG_take' (i := 10) (v := ?v10_10sm) rfl (by kernel_rfl) (by kernel_rfl) (by kernel_rfl) (by kernel_rfl) (fun _ _ _ h => h) (Or.inl ⟨by rfl, ?hy10_10sm⟩) ⟨c0, c1⟩ ?rest10_10sm
  case hy10_10sm => intro w hSw; (try dsimp only at hSw); go_simp; (try with_reducible rfl)
  case rest10_10sm =>
  try simp only [List.getElem_toArray, List.getElem_cons_succ, List.getElem_cons_zero, Act.put, List.setIfInBounds_toArray, List.set_cons_zero, List.set_cons_succ]
  refine wpAnyG_one (i := 9) (by kernel_rfl) rfl (fun K hK => ?_)
  go_simp
  refine Calls.mono HTA.out ?_
  rintro r9 w3 ⟨rfl, h7⟩
  clear c0 c1 HTA
  obtain ⟨c0, c1⟩ := cells2 h7.sw3
  have HRT := Lib.hid (rtop_c c0 c1 HB.out.1 (by have := HB.out; omega) (by have := HB.out; omega))
  have H7 := Lib.hid h7
  clear h7
  go_wp2_with fail
  refine hK.out _ _ (fun _ => ?hS11sm) ?rest11sm
  case hS11sm => exact ⟨c0, c1⟩
  clear K hK
  try simp only [List.getElem_toArray, List.getElem_cons_succ, List.getElem_cons_zero, Act.put, List.setIfInBounds_toArray, List.set_cons_zero, List.set_cons_succ]
  refine wpAnyG_one (i := 11) (by kernel_rfl) rfl (fun K hK => ?_)
  go_simp
  refine Calls.mono HRT.out ?_
  rintro r11 w4 ⟨rfl, kk, rfl⟩
  clear c0 c1 HRT
  have h8 := H7.out.drewN kk
  obtain ⟨c0, c1⟩ := cells2 h8.sw3
  have hsr := resamerow_w ua ma uc mc rs qs (by rw [HRS.out.2]; exact h8.sw2.enS) (by rw [HB.out.2.2.2.1]; exact h8.sw4.enS) (by rw [HRS.out.2]; have := HB.out; omega) (by rw [HB.out.2.2.2.1]; have := HB.out; omega)
  rw [HRS.out.2, HB.out.2.2.2.1] at hsr
  have HSR := Lib.hid hsr
  have H8 := Lib.hid h8
  clear h8 hsr H7
  go_wp2_with fail
  refine hK.out _ _ (fun _ => ?hS12sm) ?rest12sm
  case hS12sm => exact ⟨c0, c1⟩
  clear K hK
  try simp only [List.getElem_toArray, List.getElem_cons_succ, List.getElem_cons_zero, Act.put, List.setIfInBounds_toArray, List.set_cons_zero, List.set_cons_succ]
  refine wpAnyG_take' (i := 12) (v := ?v12_13sm) rfl (by kernel_rfl) (by kernel_rfl) (by kernel_rfl) (by kernel_rfl) (fun _ _ _ h => h) (Or.inl ⟨by rfl, ?hy12_13sm⟩) ⟨c0, c1⟩ ?rest12_13sm
  case hy12_13sm => intro w hSw; (try dsimp only at hSw); go_simp; (try with_reducible rfl)
  case rest12_13sm =>
  try simp only [List.getElem_toArray, List.getElem_cons_succ, List.getElem_cons_zero, Act.put, List.setIfInBounds_toArray, List.set_cons_zero, List.set_cons_succ]
  refine wpAnyG_take' (i := 13) (v := ?v13_14sm) rfl (by kernel_rfl) (by kernel_rfl) (by kernel_rfl) (by kernel_rfl) (fun _ _ _ h => h) (Or.inl ⟨by rfl, ?hy13_14sm⟩) ⟨c0, c1⟩ ?rest13_14sm
  case hy13_14sm => intro w hSw; (try dsimp only at hSw); go_simp; (try with_reducible rfl)
  case rest13_14sm =>
  try simp only [List.getElem_toArray, List.getElem_cons_succ, List.getElem_cons_zero, Act.put, List.setIfInBounds_toArray, List.set_cons_zero, List.set_cons_succ]
  refine wpAnyG_take' (i := 14) (v := ?v14_15sm) rfl (by kernel_rfl) (by kernel_rfl) (by kernel_rfl) (by kernel_rfl) (fun _ _ _ h => h) (Or.inl ⟨by rfl, ?hy14_15sm⟩) ⟨c0, c1⟩ ?rest14_15sm
  case hy14_15sm => intro w hSw; (try dsimp only at hSw); go_simp; (try with_reducible rfl)
  case rest14_15sm =>
  try simp only [List.getElem_toArray, List.getElem_cons_succ, List.getElem_cons_zero, Act.put, List.setIfInBounds_toArray, List.set_cons_zero, List.set_cons_succ]
  refine wpAnyG_take' (i := 15) (v := ?v15_16sm) rfl (by kernel_rfl) (by kernel_rfl) (by kernel_rfl) (by kernel_rfl) (fun _ _ _ h => h) (Or.inl ⟨by rfl, ?hy15_16sm⟩) ⟨c0, c1⟩ ?rest15_16sm
  case hy15_16sm => intro w hSw; (try dsimp only at hSw); go_simp; (try with_reducible rfl)
  case rest15_16sm =>
  try simp only [List.getElem_toArray, List.getElem_cons_succ, List.getElem_cons_zero, Act.put, List.setIfInBounds_toArray, List.set_cons_zero, List.set_cons_succ]
  refine wpAnyG_take' (i := 16) (v := ?v16_17sm) rfl (by kernel_rfl) (by kernel_rfl) (by kernel_rfl) (by kernel_rfl) (fun _ _ _ h => h) (Or.inl ⟨by rfl, ?hy16_17sm⟩) ⟨c0, c1⟩ ?rest16_17sm
  case hy16_17sm => intro w hSw; (try dsimp only at hSw); go_simp; (try with_reducible rfl)
  case rest16_17sm =>
  try simp only [List.getElem_toArray, List.getElem_cons_succ, List.getElem_cons_zero, Act.put, List.setIfInBounds_toArray, List.set_cons_zero, List.set_cons_succ]
  refine wpAnyG_take' (i := 17) (v := ?v17_18sm) rfl (by kernel_rfl) (by kernel_rfl) (by kernel_rfl) (by kernel_rfl) (fun _ _ _ h => h) (Or.inl ⟨by rfl, ?hy17_18sm⟩) ⟨c0, c1⟩ ?rest17_18sm
  case hy17_18sm => intro w hSw; (try dsimp only at hSw); go_simp; (try with_reducible rfl)
  case rest17_18sm =>
  try simp only [List.getElem_toArray, List.getElem_cons_succ, List.getElem_cons_zero, Act.put, List.setIfInBounds_toArray, List.set_cons_zero, List.set_cons_succ]
  refine wpAnyG_take' (i := 18) (v := ?v18_19sm) rfl (by kernel_rfl) (by kernel_rfl) (by kernel_rfl) (by kernel_rfl) (fun _ _ _ h => h) (Or.inl ⟨by rfl, ?hy18_19sm⟩) ⟨c0, c1⟩ ?rest18_19sm
  case hy18_19sm => intro w hSw; (try dsimp only at hSw); go_simp; (try with_reducible rfl)
  case rest18_19sm =>
  try simp only [List.getElem_toArray, List.getElem_cons_succ, List.getElem_cons_zero, Act.put, List.setIfInBounds_toArray, List.set_cons_zero, List.set_cons_succ]
  refine wpAnyG_take' (i := 19) (v := ?v19_20sm) rfl (by kernel_rfl) (by kernel_rfl) (by kernel_rfl) (by kernel_rfl) (fun _ _ _ h => h) (Or.inl ⟨by rfl, ?hy19_20sm⟩) ⟨c0, c1⟩ ?rest19_20sm
  case hy19_20sm => intro w hSw; (try dsimp only at hSw); go_simp; (try with_reducible rfl)
  case rest19_20sm =>
  try simp only [List.getElem_toArray, List.getElem_cons_succ, List.getElem_cons_zero, Act.put, List.setIfInBounds_toArray, List.set_cons_zero, List.set_cons_succ]
  refine wpAnyG_take' (i := 20) (v := ?v20_21sm) rfl (by kernel_rfl) (by kernel_rfl) (by kernel_rfl) (by kernel_rfl) (fun _ _ _ h => h) (Or.inl ⟨by rfl, ?hy20_21sm⟩) ⟨c0, c1⟩ ?rest20_21sm
  case hy20_21sm => intro w hSw; (try dsimp only at hSw); go_simp; (try with_reducible rfl)
  case rest20_21sm =>
  try simp only [List.getElem_toArray, List.getElem_cons_succ, List.getElem_cons_zero, Act.put, List.setIfInBounds_toArray, List.set_cons_zero, List.set_cons_succ]
  refine wpAnyG_take' (i := 21) (v := ?v21_22sm) rfl (by kernel_rfl) (by kernel_rfl) (by kernel_rfl) (by kernel_rfl) (fun _ _ _ h => h) (Or.inl ⟨by rfl, ?hy21_22sm⟩) ⟨c0, c1⟩ ?rest21_22sm
  case hy21_22sm => intro w hSw; (try dsimp only at hSw); go_simp; (try with_reducible rfl)
  case rest21_22sm =>
  try simp only [List.getElem_toArray, List.getElem_cons_succ, List.getElem_cons_zero, Act.put, List.setIfInBounds_toArray, List.set_cons_zero, List.set_cons_succ]
  refine wpAnyG_take' (i := 22) (v := ?v22_23sm) rfl (by kernel_rfl) (by kernel_rfl) (by kernel_rfl) (by kernel_rfl) (fun _ _ _ h => h) (Or.inl ⟨by rfl, ?hy22_23sm⟩) ⟨c0, c1⟩ ?rest22_23sm
  case hy22_23sm => intro w hSw; (try dsimp only at hSw); go_simp; (try with_reducible rfl)
  case rest22_23sm =>
  try simp only [List.getElem_toArray, List.getElem_cons_succ, List.getElem_cons_zero, Act.put, List.setIfInBounds_toArray, List.set_cons_zero, List.set_cons_succ]
  refine wpAnyG_take' (i := 23) (v := ?v23_24sm) rfl (by kernel_rfl) (by kernel_rfl) (by kernel_rfl) (by kernel_rfl) (fun _ _ _ h => h) (Or.inl ⟨by rfl, ?hy23_24sm⟩) ⟨c0, c1⟩ ?rest23_24sm
  case hy23_24sm => intro w hSw; (try dsimp only at hSw); go_simp; (try with_reducible rfl)
  case rest23_24sm =>
  try simp only [List.getElem_toArray, List.getElem_cons_succ, List.getElem_cons_zero, Act.put, List.setIfInBounds_toArray, List.set_cons_zero, List.set_cons_succ]
  refine wpAnyG_one (i := 24) (by kernel_rfl) rfl (fun K hK => ?_)
  go_simp
  refine Calls.mono HSR.out ?_
  rintro r24 w5 ⟨r, rfl, hr, h9⟩
  obtain rfl : r = true := hr.2 (sameP_of2 (by rw [HRS.out.1]; exact HB.out.2.2.2.2))
  have h10 := H8.out.below h9.low
  clear c0 c1 HSR
  obtain ⟨c0, c1⟩ := cells2 h10.sw3
  have H10 := Lib.hid h10
  clear hr h9 h10 H8
  go_wp2_with fail
  refine hK.out _ _ (fun _ => ?hS25sm) ?rest25sm
  case hS25sm => exact ⟨c0, c1⟩
  clear K hK
  try simp only [List.getElem_toArray, List.getElem_cons_succ, List.getElem_cons_zero, Act.put, List.setIfInBounds_toArray, List.set_cons_zero, List.set_cons_succ]
  refine wpAnyG_take' (i := 25) (v := ?v25_26sm) rfl (by kernel_rfl) (by kernel_rfl) (by kernel_rfl) (by kernel_rfl) (fun _ _ _ h => h) (Or.inl ⟨by rfl, ?hy25_26sm⟩) ⟨c0, c1⟩ ?rest25_26sm
  case hy25_26sm => intro w hSw; (try dsimp only at hSw); go_simp; (try with_reducible rfl)
  case rest25_26sm =>
  try simp only [List.getElem_toArray, List.getElem_cons_succ, List.getElem_cons_zero, Act.put, List.setIfInBounds_toArray, List.set_cons_zero, List.set_cons_succ]
  refine wpAnyG_take' (i := 26) (v := ?v26_27sm) rfl (by kernel_rfl) (by kernel_rfl) (by kernel_rfl) (by kernel_rfl) (fun _ _ _ h => h) (Or.inl ⟨by rfl, ?hy26_27sm⟩) ⟨c0, c1⟩ ?rest26_27sm
  case hy26_27sm => intro w hSw; (try dsimp only at hSw); go_simp; (try with_reducible rfl)
  case rest26_27sm =>
  try simp only [List.getElem_toArray, List.getElem_cons_succ, List.getElem_cons_zero, Act.put, List.setIfInBounds_toArray, List.set_cons_zero, List.set_cons_succ]
  refine wpAnyG_done (by kernel_rfl) ?_ _
  try simp only [List.getElem_toArray, List.getElem_cons_succ, List.getElem_cons_zero, Act.put, List.setIfInBounds_toArray, List.set_cons_zero, List.set_cons_succ]
  have h11 := H10.out.pickL (M := [_, _, _, _]) [2, 3, 0] rfl
  rw [← HB.out.2.2.2.1] at h11
  have HE := Lib.hid (Sep.sw2 (Sep.docClose h11))
  clear H10 h11
  go_wp2_with fail
  go_ret
  exact ⟨rfl, HE.out⟩
end Go.Proofs.YtpknfeokfladkaaDoor
