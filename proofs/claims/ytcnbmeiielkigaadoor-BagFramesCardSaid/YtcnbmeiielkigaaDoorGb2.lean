/- Bags of any messages: Put, At. -/
import Derived.Test.YtcnbmeiielkigaaDoorGb1
namespace Go.Proofs.YtcnbmeiielkigaaDoor
open Go Go.RowKit
set_option linter.unusedVariables false
set_option linter.unusedSimpArgs false
set_option maxRecDepth 100000 in
set_option maxHeartbeats 16000000 in
theorem gput_ok {w0 w : World} {g : Nat} {ms : List (Array Value)} {L : List Thing} (m : MgM) (h : Sep w0 (BagG g ms :: L) w) (hg : ∀ wx, Sep w0 L wx → GmS wx m) (hK : KindsAt w0 ∧ MKindsAt w0) (hl : m.ck.length ≤ 1000000000) (hx : m.ps.length ≤ 900) (hls : (∀ x ∈ m.ps, x.1.p.ls.length ≤ 1000) ∧ m.en.p.ls.length ≤ 1000) (hnl : ms.length < 2000) (hchk : chkB m = true) :
    Calls Tryd.prog 10 #[.pointer (some ⟨g, 0, none⟩), .agg (mgC m)] w fun e w' => e = .returned (.int .i64 0) ∧ ∃ lu cu eu qs, qs.map (·.1) = m.ps.map (·.1) ∧ Sep w0 (BagG g (ms ++ [mgC { m with lv := lu, cv := cu, ev := eu, ps := qs }]) :: LnR lu m.en.p.ls :: By cu m.ck :: EnT eu qs :: L) w' := by
  obtain ⟨a, c, rows, hm, h1⟩ := h.gbagOpen
  have hsz : (mgC m).size = 22 := rfl
  have h2 := h1.alloc (.cells (mgC m) 43)
  have HN := Lib.hid (bnone_any (h2.sw2.cell (o := 0) rfl))
  have HL := Lib.hid (h2.loadW 43 Tryd.underlying43 rfl (by rw [hsz]; kernel_rfl))
  have hgp := hg _ (h2.drop.drop.drop)
  have hck := gcheck_w m hgp (hK.1.below h2.low) (hK.2.below h2.low) hl hx
  rw [hchk, if_pos rfl] at hck
  have HCK := Lib.hid (hck.mono fun e w' hh => And.intro hh.1 (h2.below hh.2.low))
  obtain ⟨b3, hb3⟩ : ∃ z, z = w.heap.size := ⟨_, rfl⟩
  obtain ⟨w1, hw1⟩ : ∃ z, z = w.alloc (.cells (mgC m) 43) := ⟨_, rfl⟩
  rw [← hw1] at HN HL HCK
  rw [← hb3] at HL HCK
  obtain ⟨n, hn⟩ : ∃ z, z = ms.length := ⟨_, rfl⟩
  have HM := Lib.hid (And.intro hm hn)
  rw [← hn] at HCK
  have n0 : (0 : Int) ≤ (n : Int) := by omega
  have n1 : ¬ (2000 : Int) ≤ (n : Int) := by omega
  have n2 : decide ((2000 : Int) ≤ (n : Int)) = false := decide_eq_false n1
  have n3 : decide (2000 ≤ n) = false := decide_eq_false (by omega)
  have HNL := Lib.hid (show n < 2000 by omega)
  have HG := Lib.hid (And.intro hg (And.intro hl (And.intro hx hls)))
  obtain ⟨mc, hmc⟩ : ∃ z, z = mgC m := ⟨_, rfl⟩
  rw [← hmc] at HL HCK hw1 hsz ⊢
  have HMC := Lib.hid (And.intro hmc hsz)
  clear h h1 h2 hgp hck hg hl hx hls hm hn hK hchk hmc hsz
  go_enter Tryd.func10, Tryd.ntmps10
  (try dsimp only); repeat' (first | go_values | go_skip | go_guarded | go_step | go_upon | go_back)
  rw [← hw1, ← hb3]
  clear hw1 hb3
  refine HN.out.mono ?_
  rintro r0 w2 ⟨rfl, rfl⟩
  clear HN
  (try dsimp only); repeat' (first | (with_reducible show wpList _ _ _ (Oper.mk _ (Op.load 43 _) _ _ _ _ :: _) _ _; refine stopP ?_) | go_values | go_skip | go_guarded | go_step | go_upon | go_back)
  unfold StopP
  have hq_ := HL.out
  refine wpList_load_run rfl 43 _ rfl _ _ rfl hq_ ?_
  clear hq_
  (try dsimp only); repeat' (first | go_values | go_skip | go_guarded | go_step | go_upon | go_back)
  refine HCK.out.mono ?_
  rintro r0 w2 ⟨rfl, h3⟩
  have c1 := h3.sw2.cell (o := 1) rfl
  have HCP := Lib.hid (gcopy_w (w := w2.drew) m (HG.out.1 _ h3.drew.drop.drop.drop) HG.out.2.1 (by have := HG.out.2.2.1; omega) HG.out.2.2.2.1 HG.out.2.2.2.2)
  have hld := h3.drew.loadW 43 Tryd.underlying43 rfl (by rw [HMC.out.2]; kernel_rfl)
  have H3 := Lib.hid h3.drew
  clear HCK h3
  (try dsimp only); repeat' (first | go_values | go_skip | go_guarded | go_step | go_upon | go_back)
  refine wp_region_G (fun w' => w'.cell? ⟨g, 1, none⟩ = some (.slice a n c)) [11] (by kernel_rfl) c1 (fun hS => ?_)
  try dsimp only at hS
  refine wpAnyG_take' (i := 0) (v := ?v0_1gp) rfl (by kernel_rfl) (by kernel_rfl) (by kernel_rfl) (by kernel_rfl) (fun _ _ _ h => h) (Or.inl ⟨by rfl, ?hy0_1gp⟩) hS ?rest0_1gp
  case hy0_1gp => intro w hSw; (try dsimp only at hSw); go_simp; (try with_reducible rfl)
  case rest0_1gp =>
  try simp only [List.getElem_toArray, List.getElem_cons_succ, List.getElem_cons_zero, Act.put, List.setIfInBounds_toArray, List.set_cons_zero, List.set_cons_succ]
  refine wpAnyG_take' (i := 1) (v := ?v1_2gp) rfl (by kernel_rfl) (by kernel_rfl) (by kernel_rfl) (by kernel_rfl) (fun _ _ _ h => h) (Or.inl ⟨by rfl, ?hy1_2gp⟩) hS ?rest1_2gp
  case hy1_2gp => intro w hSw; (try dsimp only at hSw); go_simp; (try with_reducible rfl)
  case rest1_2gp =>
  try simp only [List.getElem_toArray, List.getElem_cons_succ, List.getElem_cons_zero, Act.put, List.setIfInBounds_toArray, List.set_cons_zero, List.set_cons_succ]
  refine wpAnyG_take' (i := 2) (v := ?v2_3gp) rfl (by kernel_rfl) (by kernel_rfl) (by kernel_rfl) (by kernel_rfl) (fun _ _ _ h => h) (Or.inl ⟨by rfl, ?hy2_3gp⟩) hS ?rest2_3gp
  case hy2_3gp => intro w hSw; (try dsimp only at hSw); go_simp; (try with_reducible rfl)
  case rest2_3gp =>
  try simp only [List.getElem_toArray, List.getElem_cons_succ, List.getElem_cons_zero, Act.put, List.setIfInBounds_toArray, List.set_cons_zero, List.set_cons_succ]
  refine wpAnyG_take' (i := 3) (v := ?v3_4gp) rfl (by kernel_rfl) (by kernel_rfl) (by kernel_rfl) (by kernel_rfl) (fun _ _ _ h => h) (Or.inl ⟨by rfl, ?hy3_4gp⟩) hS ?rest3_4gp
  case hy3_4gp => intro w hSw; (try dsimp only at hSw); go_simp; (try with_reducible rfl)
  case rest3_4gp =>
  try simp only [List.getElem_toArray, List.getElem_cons_succ, List.getElem_cons_zero, Act.put, List.setIfInBounds_toArray, List.set_cons_zero, List.set_cons_succ]
  refine wpAnyG_take' (i := 4) (v := ?v4_5gp) rfl (by kernel_rfl) (by kernel_rfl) (by kernel_rfl) (by kernel_rfl) (fun _ _ _ h => h) (Or.inl ⟨by rfl, ?hy4_5gp⟩) hS ?rest4_5gp
  case hy4_5gp => intro w hSw; (try dsimp only at hSw); go_simp; (try with_reducible rfl)
  case rest4_5gp =>
  try simp only [List.getElem_toArray, List.getElem_cons_succ, List.getElem_cons_zero, Act.put, List.setIfInBounds_toArray, List.set_cons_zero, List.set_cons_succ]
  refine wpAnyG_one (i := 5) (by kernel_rfl) rfl (fun K hK => ?_)
  refine step_load_run (by rfl) 43 _ (by rfl) _ _ (by rfl) hld ?_
  clear hld
  refine hK.out _ _ (fun _ => ?hS6gp) ?rest6gp
  case hS6gp => exact c1
  clear K hK
  try simp only [List.getElem_toArray, List.getElem_cons_succ, List.getElem_cons_zero, Act.put, List.setIfInBounds_toArray, List.set_cons_zero, List.set_cons_succ]
  refine wpAnyG_one (i := 6) (by kernel_rfl) rfl (fun K hK => ?_)
  go_simp
  rw [HMC.out.1]
  refine Calls.mono HCP.out ?_
  rintro r6 w6 ⟨lu, cu, eu, qs, rfl, hqs, h6⟩
  have h6a := H3.out.ontoL h6
  obtain ⟨uc, huc⟩ : ∃ z, z = mgC { m with lv := lu, cv := cu, ev := eu, ps := qs } := ⟨_, rfl⟩
  have hus : uc.size = 22 := by rw [huc]; rfl
  have huo : ∀ u ∈ uc.toList, u.oneCell' = true := by
    rw [huc]
    have h61 := h6a.rnForm
    have h62 := bv_form h6a.sw2.sl
    have h63 := h6a.sw3.enForm
    obtain ⟨a61, c61, e61, -⟩ := h61
    obtain ⟨a62, c62, e62⟩ := h62
    obtain ⟨a63, c63, e63, -⟩ := h63
    have := mgC_one { m with lv := lu, cv := cu, ev := eu, ps := qs } (by rw [e61]; rfl) (by rw [e62]; rfl) (by rw [e63]; rfl)
    rw [Array.all_eq_true_iff_forall_mem] at this
    exact fun u hu => this u (by simpa using hu)
  rw [← huc]
  have h6b : Sep w0 (Cl b3 mc 43 :: Cl g #[.bool true, .slice a n c] 61 :: Ro 22 43 (.slice a n c) n (msCs rows) :: ([LnR lu m.en.p.ls, By cu m.ck, EnT eu qs] ++ L)) w6 := h6a.perm (List.perm_append_comm (l₁ := [LnR lu m.en.p.ls, By cu m.ck, EnT eu qs]) (l₂ := [Cl b3 mc 43, Cl g #[.bool true, .slice a n c] 61, Ro 22 43 (.slice a n c) n (msCs rows)]) |>.append_right L)
  have k1 := h6b.sw2.cell (o := 1) rfl
  have h7 := h6b.alloc (.cells uc 43)
  have k2 := h7.sw3.cell (o := 1) rfl
  obtain ⟨a8, c8, w8, hr, h8⟩ := append_mo (ty := 58) (h7.pickL (M := [_, _, _, _]) [0, 3, 2] rfl) hus huo (by have := HNL.out; omega)
  have k3 := h8.sw2.cell (o := 1) rfl
  have kf := h8.sw2.frozen 1
  have h9 : Sep w0 (Cl g #[.bool true, .slice a8 (n + 1) c8] 61 :: Ro 22 43 (.slice a8 (n + 1) c8) (n + 1) (msCs (rows ++ [uc])) :: ([LnR lu m.en.p.ls, By cu m.ck, EnT eu qs] ++ L)) (w8.setCell ⟨g, 1, none⟩ (.slice a8 (n + 1) c8)) := h8.sw2.setCell 1 (.slice a8 (n + 1) c8)
  have hms := HM.out.1.snoc (c := uc) (m := uc) ⟨rfl, hus, huo⟩
  have hnn : n + 1 = (ms ++ [uc]).length := by rw [List.length_append, ← HM.out.2]; rfl
  have h10 : Sep w0 (BagG g (ms ++ [uc]) :: ([LnR lu m.en.p.ls, By cu m.ck, EnT eu qs] ++ L)) (w8.setCell ⟨g, 1, none⟩ (.slice a8 (n + 1) c8)) := Sep.gbagClose hms (by rw [← hnn]; exact h9)
  have H9 : Hid (∃ lu cu eu qs, qs.map (·.1) = m.ps.map (·.1) ∧ Sep w0 (BagG g (ms ++ [mgC { m with lv := lu, cv := cu, ev := eu, ps := qs }]) :: LnR lu m.en.p.ls :: By cu m.ck :: EnT eu qs :: L) (w8.setCell ⟨g, 1, none⟩ (.slice a8 (n + 1) c8))) := Lib.hid ⟨lu, cu, eu, qs, hqs, by rw [← huc]; exact h10⟩
  have HR := Lib.hid hr
  have HUS := Lib.hid hus
  clear h6 h6a h6b h7 h8 h9 h10 hr hqs hus huo huc hms hnn HCP HM H3
  (try dsimp only); repeat' (first | go_values | go_skip | go_guarded | go_step | go_upon | go_back)
  refine hK.out _ _ (fun _ => ?hS7gp) ?rest7gp
  case hS7gp => exact k1
  clear K hK
  try simp only [List.getElem_toArray, List.getElem_cons_succ, List.getElem_cons_zero, Act.put, List.setIfInBounds_toArray, List.set_cons_zero, List.set_cons_succ]
  refine wpAnyG_one (i := 7) (by kernel_rfl) rfl (fun K hK => ?_)
  refine step_buildM (by rfl) _ (by rfl) HUS.out (by rfl) ?_
  refine hK.out _ _ (fun _ => ?hS8gp) ?rest8gp
  case hS8gp => exact k2
  clear K hK
  try simp only [List.getElem_toArray, List.getElem_cons_succ, List.getElem_cons_zero, Act.put, List.setIfInBounds_toArray, List.set_cons_zero, List.set_cons_succ]
  refine wpAnyG_one (i := 8) (by kernel_rfl) rfl (fun K hK => ?_)
  refine step_append_run (by rfl) (.tmp 23) (.tmp 26) 58 58 (by rfl) _ _ (by rfl) (by rfl) HR.out ?_
  refine hK.out _ _ (fun _ => ?hS9gp) ?rest9gp
  case hS9gp => exact k3
  clear K hK
  try simp only [List.getElem_toArray, List.getElem_cons_succ, List.getElem_cons_zero, Act.put, List.setIfInBounds_toArray, List.set_cons_zero, List.set_cons_succ]
  refine wpAnyG_take' (i := 9) (v := ?v9_10gp) rfl (by kernel_rfl) (by kernel_rfl) (by kernel_rfl) (by kernel_rfl) (fun _ _ _ h => h) (Or.inl ⟨by rfl, ?hy9_10gp⟩) k3 ?rest9_10gp
  case hy9_10gp => intro w hSw; (try dsimp only at hSw); go_simp; (try with_reducible rfl)
  case rest9_10gp =>
  try simp only [List.getElem_toArray, List.getElem_cons_succ, List.getElem_cons_zero, Act.put, List.setIfInBounds_toArray, List.set_cons_zero, List.set_cons_succ]
  refine wpAnyG_take' (i := 10) (v := ?v10_11gp) rfl (by kernel_rfl) (by kernel_rfl) (by kernel_rfl) (by kernel_rfl) (fun _ _ _ h => h) (Or.inl ⟨by rfl, ?hy10_11gp⟩) k3 ?rest10_11gp
  case hy10_11gp => intro w hSw; (try dsimp only at hSw); go_simp; (try with_reducible rfl)
  case rest10_11gp =>
  try simp only [List.getElem_toArray, List.getElem_cons_succ, List.getElem_cons_zero, Act.put, List.setIfInBounds_toArray, List.set_cons_zero, List.set_cons_succ]
  refine wpAnyG_one (i := 11) (by kernel_rfl) rfl (fun K hK => ?_)
  go_simp
  refine hK.out _ _ (fun hno => by cases hno) ?_
  clear K hK
  try simp only [List.getElem_toArray, List.getElem_cons_succ, List.getElem_cons_zero, Act.put, List.setIfInBounds_toArray, List.set_cons_zero, List.set_cons_succ]
  refine wpAnyG_done (by kernel_rfl) ?_ _
  try simp only [List.getElem_toArray, List.getElem_cons_succ, List.getElem_cons_zero, Act.put, List.setIfInBounds_toArray, List.set_cons_zero, List.set_cons_succ]
  clear hS
  (try dsimp only); repeat' (first | go_values | go_skip | go_guarded | go_step | go_upon | go_back)
  go_ret
  exact ⟨rfl, H9.out⟩
set_option maxRecDepth 100000 in
set_option maxHeartbeats 16000000 in
theorem gput_bad {w0 w : World} {g : Nat} {ms : List (Array Value)} {L : List Thing} (m : MgM) (h : Sep w0 (BagG g ms :: L) w) (hg : ∀ wx, Sep w0 L wx → GmS wx m) (hK : KindsAt w0 ∧ MKindsAt w0) (hl : m.ck.length ≤ 1000000000) (hx : m.ps.length ≤ 900) (hnl : ms.length < 2000) (hchk : chkB m = false) :
    Calls Tryd.prog 10 #[.pointer (some ⟨g, 0, none⟩), .agg (mgC m)] w fun e w' => e = .returned (.int .i64 2) ∧ Sep w0 (BagG g ms :: L) w' := by
  obtain ⟨a, c, rows, hm, h1⟩ := h.gbagOpen
  have hsz : (mgC m).size = 22 := rfl
  have h2 := h1.alloc (.cells (mgC m) 43)
  have HN := Lib.hid (bnone_any (h2.sw2.cell (o := 0) rfl))
  have HL := Lib.hid (h2.loadW 43 Tryd.underlying43 rfl (by rw [hsz]; kernel_rfl))
  have hgp := hg _ (h2.drop.drop.drop)
  have hck := gcheck_w m hgp (hK.1.below h2.low) (hK.2.below h2.low) hl hx
  rw [hchk, if_neg (by simp)] at hck
  have HCK := Lib.hid (hck.mono fun e w' hh => And.intro hh.1 (h2.below hh.2.low))
  obtain ⟨b3, hb3⟩ : ∃ z, z = w.heap.size := ⟨_, rfl⟩
  obtain ⟨w1, hw1⟩ : ∃ z, z = w.alloc (.cells (mgC m) 43) := ⟨_, rfl⟩
  rw [← hw1] at HN HL HCK
  rw [← hb3] at HL HCK
  obtain ⟨n, hn⟩ : ∃ z, z = ms.length := ⟨_, rfl⟩
  have HM := Lib.hid (And.intro hm hn)
  rw [← hn] at HCK
  have n0 : (0 : Int) ≤ (n : Int) := by omega
  have n1 : ¬ (2000 : Int) ≤ (n : Int) := by omega
  have n2 : decide ((2000 : Int) ≤ (n : Int)) = false := decide_eq_false n1
  have n3 : decide (2000 ≤ n) = false := decide_eq_false (by omega)
  have HNL := Lib.hid (show n < 2000 by omega)
  obtain ⟨mc, hmc⟩ : ∃ z, z = mgC m := ⟨_, rfl⟩
  rw [← hmc] at HL HCK hw1 hsz ⊢
  have HMC := Lib.hid (And.intro hmc hsz)
  clear h h1 h2 hgp hck hg hl hx hm hn hK hchk hmc hsz
  go_enter Tryd.func10, Tryd.ntmps10
  (try dsimp only); repeat' (first | go_values | go_skip | go_guarded | go_step | go_upon | go_back)
  rw [← hw1, ← hb3]
  clear hw1 hb3
  refine HN.out.mono ?_
  rintro r0 w2 ⟨rfl, rfl⟩
  clear HN
  (try dsimp only); repeat' (first | (with_reducible show wpList _ _ _ (Oper.mk _ (Op.load 43 _) _ _ _ _ :: _) _ _; refine stopP ?_) | go_values | go_skip | go_guarded | go_step | go_upon | go_back)
  unfold StopP
  have hq_ := HL.out
  refine wpList_load_run rfl 43 _ rfl _ _ rfl hq_ ?_
  clear hq_
  (try dsimp only); repeat' (first | go_values | go_skip | go_guarded | go_step | go_upon | go_back)
  refine HCK.out.mono ?_
  rintro r0 w2 ⟨rfl, h3⟩
  have HF := Lib.hid (Sep.gbagClose (ms := ms) HM.out.1 (by rw [← HM.out.2]; exact h3.drop))
  clear HCK h3
  (try dsimp only); repeat' (first | go_values | go_skip | go_guarded | go_step | go_upon | go_back)
  go_ret
  exact ⟨rfl, HF.out⟩
set_option maxRecDepth 100000 in
set_option maxHeartbeats 8000000 in
theorem gat_any {w0 w : World} {g : Nat} {ms : List (Array Value)} {L : List Thing} (i : Nat) (m : MgM) (h : Sep w0 (BagG g ms :: L) w) (hi : i < ms.length) (hmi : ms[i] = mgC m) (hg : ∀ wx, Sep w0 L wx → GmS wx m) (hl : m.ck.length ≤ 1000000000) (hx : m.ps.length ≤ 900) (hls : (∀ x ∈ m.ps, x.1.p.ls.length ≤ 1000) ∧ m.en.p.ls.length ≤ 1000) :
    Calls Tryd.prog 16 #[.pointer (some ⟨g, 0, none⟩), .int .i64 i] w fun e w' => ∃ lu cu eu qs, e = .returned (.tuple #[.agg (mgC { m with lv := lu, cv := cu, ev := eu, ps := qs }), .int .i64 0]) ∧ qs.map (·.1) = m.ps.map (·.1) ∧ Sep w0 (BagG g ms :: LnR lu m.en.p.ls :: By cu m.ck :: EnT eu qs :: L) w' := by
  have h0 := h.alloc (.cells #[.int .i64 0, .int .i64 0, .int .i64 0, .int .i64 0, .int .i64 0, .int .i64 0, .int .i64 0, .int .i64 0, .int .i64 0, .int .i64 0, .string ⟨#[]⟩, .int .i64 0, .int .i64 0, .slice none 0 0, .int .i64 0, .int .i64 0, .int .i64 0, .bool false, .int .i64 0, .slice none 0 0, .slice none 0 0, .int .i64 0] 43)
  have HC := Lib.hid (gbchk_ok i h0.sw2 hi)
  obtain ⟨a, c, rows, hm, h1⟩ := h0.sw2.gbagOpen
  obtain ⟨hi', hmi'⟩ := hm.at i hi
  obtain ⟨b, off, rfl, -, hld, -⟩ := h1.sw2.roMsgG hm i hi' hm.1
  have c1 := h1.cell (o := 1) rfl
  have hcp := gcopy_w m (hg _ h0.drop.drop) hl (by omega) hls.1 hls.2
  have HP := Lib.hid hcp
  rw [hmi'.1, hmi] at hld
  have HL := Lib.hid hld
  have i0 : (0 : Int) ≤ (i : Int) := by omega
  have i1 : (i : Int) < ((ms.length : Nat) : Int) := by omega
  obtain ⟨n, hn⟩ : ∃ z, z = ms.length := ⟨_, rfl⟩
  rw [← hn] at c1 i1
  obtain ⟨b4, hb4⟩ : ∃ z, z = w.heap.size := ⟨_, rfl⟩
  obtain ⟨w1, hw1⟩ : ∃ z, z = w.alloc (.cells #[.int .i64 0, .int .i64 0, .int .i64 0, .int .i64 0, .int .i64 0, .int .i64 0, .int .i64 0, .int .i64 0, .int .i64 0, .int .i64 0, .string ⟨#[]⟩, .int .i64 0, .int .i64 0, .slice none 0 0, .int .i64 0, .int .i64 0, .int .i64 0, .bool false, .int .i64 0, .slice none 0 0, .slice none 0 0, .int .i64 0] 43) := ⟨_, rfl⟩
  rw [← hw1, ← hb4] at h0
  rw [← hw1] at HC HL HP c1
  have H0 := Lib.hid h0
  obtain ⟨mc, hmc⟩ : ∃ z, z = mgC m := ⟨_, rfl⟩
  rw [← hmc] at HL
  have HMC := Lib.hid hmc
  clear h h0 h1 hm hmi hmi' hld hi hi' hn hcp hg hl hx hls hmc
  go_enter Tryd.func16, Tryd.ntmps16
  (try dsimp only); repeat' (first | go_values | go_skip | go_guarded | go_step | go_upon | go_back)
  rw [← hw1, ← hb4]
  clear hw1 hb4
  refine HC.out.mono ?_
  rintro r0 w2 ⟨rfl, rfl⟩
  clear HC
  (try dsimp only); repeat' (first | (with_reducible show wpList _ _ _ (Oper.mk _ (Op.load 43 _) _ _ _ _ :: _) _ _; refine stopP ?_) | go_values | go_skip | go_guarded | go_step | go_upon | go_back)
  unfold StopP
  have hq_ := HL.out
  refine wpList_load_run rfl 43 _ rfl _ _ rfl hq_ ?_
  clear hq_
  (try dsimp only); repeat' (first | go_values | go_skip | go_guarded | go_step | go_upon | go_back)
  rw [HMC.out]
  refine HP.out.mono ?_
  rintro r0 w2 ⟨lu, cu, eu, qs, rfl, hqs, h6⟩
  have h2 := H0.out.ontoL h6
  obtain ⟨a61, c61, e61, -⟩ := h2.rnForm
  obtain ⟨a62, c62, e62⟩ := bv_form h2.sw2.sl
  obtain ⟨a63, c63, e63, -⟩ := h2.sw3.enForm
  obtain ⟨u, hu⟩ : ∃ z, z = mgC { m with lv := lu, cv := cu, ev := eu, ps := qs } := ⟨_, rfl⟩
  have hus : u.size = 22 := by rw [hu]; rfl
  have huo : u.all (·.oneCell') = true := by rw [hu]; exact mgC_one { m with lv := lu, cv := cu, ev := eu, ps := qs } (by rw [e61]; rfl) (by rw [e62]; rfl) (by rw [e63]; rfl)
  rw [← hu]
  have h2' : Sep w0 (Cl b4 #[.int .i64 0, .int .i64 0, .int .i64 0, .int .i64 0, .int .i64 0, .int .i64 0, .int .i64 0, .int .i64 0, .int .i64 0, .int .i64 0, .string ⟨#[]⟩, .int .i64 0, .int .i64 0, .slice none 0 0, .int .i64 0, .int .i64 0, .int .i64 0, .bool false, .int .i64 0, .slice none 0 0, .slice none 0 0, .int .i64 0] 43 :: BagG g ms :: ([LnR lu m.en.p.ls, By cu m.ck, EnT eu qs] ++ L)) w2 := h2.perm (List.perm_append_comm (l₁ := [LnR lu m.en.p.ls, By cu m.ck, EnT eu qs]) (l₂ := [Cl b4 #[.int .i64 0, .int .i64 0, .int .i64 0, .int .i64 0, .int .i64 0, .int .i64 0, .int .i64 0, .int .i64 0, .int .i64 0, .int .i64 0, .string ⟨#[]⟩, .int .i64 0, .int .i64 0, .slice none 0 0, .int .i64 0, .int .i64 0, .int .i64 0, .bool false, .int .i64 0, .slice none 0 0, .slice none 0 0, .int .i64 0] 43, BagG g ms]) |>.append_right L)
  have HT := Lib.hid (h2'.thereAt 0 22 (by simp))
  have h3 := h2'.storeW u (by rw [hus]; rfl)
  have HV := Lib.hid (h3.loadV 43 Tryd.underlying43 rfl (by rw [hus]; kernel_rfl))
  have H3 := Lib.hid h3.drop
  have HU := Lib.hid (And.intro hu hqs)
  have HI : Hid ((Tryd.prog.info? 43).map (·.size) = some u.size) := Lib.hid (by rw [hus]; kernel_rfl)
  have HO : Hid (u.all (·.oneCell') = true) := Lib.hid huo
  have HTH : Hid (w2.there b4 0 u.size) := Lib.hid (by rw [hus]; exact HT.out)
  clear HP h2 h2' h3 hu hus huo HT h6 hqs e61 e62 e63 H0 HMC
  (try dsimp only); repeat' (first | (with_reducible show wpList _ _ _ (Oper.mk _ (Op.store 43 _ _) _ _ _ _ :: _) _ _; refine stopP ?_) | go_values | go_skip | go_guarded | go_step | go_upon | go_back)
  unfold StopP
  refine wpList_store_mid rfl 43 (.tmp 4) (.tmp 21) rfl b4 0 u rfl rfl HTH.out HI.out HO.out ?_
  (try dsimp only); repeat' (first | go_values | go_skip | go_guarded | go_step | go_upon | go_back)
  exact bodyPost_ret (results_cell2 rfl rfl HV.out rfl) rfl ⟨lu, cu, eu, qs, by rw [← HU.out.1]; rfl, HU.out.2, H3.out⟩
end Go.Proofs.YtcnbmeiielkigaaDoor
