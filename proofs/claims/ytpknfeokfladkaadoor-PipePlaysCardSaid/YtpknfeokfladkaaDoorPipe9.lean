/- PipeOwn. -/
import Derived.Test.YtpknfeokfladkaaDoorPipe8
import Derived.Test.YtpknfeokfladkaaDoorBkB
namespace Go.Proofs.YtpknfeokfladkaaDoor
open Go.RowKit
set_option linter.unusedVariables false
set_option linter.unusedSimpArgs false
theorem bounds_i64 {n : Int} (h : (Lit.int .i64 n).wf = true) : -9223372036854775808 ≤ n ∧ n ≤ 9223372036854775807 := by
  simp only [Lit.wf, Bool.and_eq_true, decide_eq_true_eq] at h
  exact h
theorem RdC.ints64 {P : Program} {w : World} {t e : TypeId} {v : Value} (ht : P.underlying t = some (.slice e)) (he : P.underlying e = some (.int .i64)) (hc : P.cellsOf e = 1) (h : RdC P w t [v]) :
    ∃ l : List Int, Sl w v (iv .i64 l) ∧ l.length ≤ maxLen := by
  obtain ⟨a, cap, vs, rfl, h1, h2, h3, h4⟩ := h.cells1 ht hc
  obtain ⟨l, rfl⟩ : ∃ l : List Int, vs = iv .i64 l := by
    clear h1 h3 h
    induction vs with
    | nil => exact ⟨[], rfl⟩
    | cons u vs ih =>
      obtain ⟨l, rfl⟩ := ih fun u hu => h4 u (List.mem_cons_of_mem _ hu)
      obtain ⟨n, hn, hw⟩ := (h4 u (List.mem_cons_self ..)).int he
      simp only [List.cons.injEq, and_true] at hn
      subst hn
      exact ⟨n :: l, rfl⟩
  exact ⟨l, h3, by rw [iv_length] at h1; omega⟩
def setM (ps : List (EnM × Value)) (i : Nat) (z : Int) : List (EnM × Value) := ps.modify i fun q => (⟨q.1.c, z, q.1.p⟩, q.2)
theorem enCs_setM : ∀ (ps : List (EnM × Value)) (i : Nat) (z : Int), i < ps.length → enCs (setM ps i z) = (enCs ps).set (i * 7 + 1) (.int .i64 z)
  | q :: ps, 0, z, _ => by simp [setM, enCs, enC]
  | q :: ps, i + 1, z, hi => by
    have ih := enCs_setM ps i z (by simpa using hi)
    unfold setM enCs at ih ⊢
    rw [List.modify_succ_cons, List.flatMap_cons, List.flatMap_cons, ih, List.set_append_right _ _ (by simp [enC]; omega)]
    rw [show (i + 1) * 7 + 1 - (enC q.1 q.2).toList.length = i * 7 + 1 by simp [enC]; omega]
theorem setM_ln : ∀ (ps : List (EnM × Value)) (i : Nat) (z : Int), (setM ps i z).map lnP = ps.map lnP
  | [], i, z => by simp [setM]
  | q :: ps, 0, z => by simp [setM]
  | q :: ps, i + 1, z => by
    have ih := setM_ln ps i z
    unfold setM at ih ⊢
    rw [List.modify_succ_cons, List.map_cons, List.map_cons, ih]
theorem setM_len (ps : List (EnM × Value)) (i : Nat) (z : Int) : (setM ps i z).length = ps.length := by unfold setM; rw [List.length_modify]
/-- One's Num is stored to. -/
theorem Sep.enNum {w0 w : World} {v : Value} {ps : List (EnM × Value)} {L : List Thing} (h : Sep w0 (EnT v ps :: L) w) (i : Nat) (hi : i < ps.length) :
    ∃ b c, v = .slice (some ⟨b, 0, none⟩) ps.length c ∧ ps.length ≤ c ∧ w.cell? ⟨b, i * 7 + 1, none⟩ = some (.int .i64 ps[i].1.m) ∧ w.frozen? ⟨b, i * 7 + 1, none⟩ = false ∧ ∀ z, Sep w0 (EnT v (setM ps i z) :: L) (w.setCell ⟨b, i * 7 + 1, none⟩ (.int .i64 z)) := by
  obtain ⟨b, c, rfl, h1, h2, h3, h4, h5, h6, h7⟩ := h.enOpen.rnSet (by omega)
  have hlt : i * 7 + 1 < (enCs ps).length := by rw [h4]; omega
  refine ⟨b, c, rfl, h1, ?_, h6 _, fun z => ?_⟩
  · rw [h5 _ hlt]
    have h8 := enCs_at ps i hi 1 (by omega)
    rw [List.getElem?_eq_getElem hlt] at h8
    exact h8
  · refine Sep.enClose ?_
    have h8 := h7 (i * 7 + 1) (.int .i64 z) hlt
    rw [← enCs_setM ps i z hi] at h8
    rw [setM_ln]
    show Sep w0 (Rn 7 34 _ (setM ps i z).length (enCs (setM ps i z)) :: _) _
    rw [setM_len]
    exact h8
set_option maxRecDepth 100000 in
set_option maxHeartbeats 64000000 in
theorem own12 (v : Value) (l : List Int) (w : World) (hv : Sl w v (iv .i64 l)) (hk : KindsAt w) :
    Calls Tryd.prog 7 #[v] w fun e w' => e = .returned (.bool true) ∧ Below w.heap.size w w' := by
  have HK := Lib.hid hk
  have HR := Lib.hid (row12_any v l 24 (Sep.start w) (fun wx hx => hv.below hx.low) (by omega))
  clear hv hk
  obtain ⟨ows, how⟩ : ∃ z, z = (l.take 24).map askP := ⟨_, rfl⟩
  rw [← how] at HR
  obtain ⟨n, hn⟩ : ∃ z, z = ows.length := ⟨_, rfl⟩
  have HN : Hid (ows.length = n ∧ n ≤ 24 ∧ (∀ q ∈ ows, q.1.ok = true ∧ q.1.p.ls = [])) := Lib.hid ⟨hn.symm, by rw [hn, how, List.length_map, List.length_take]; omega, by
    rw [how]; intro q hq
    obtain ⟨z, -, rfl⟩ := List.mem_map.1 hq
    exact ⟨askE_ok z, rfl⟩⟩
  clear hn how
  go_enter Tryd.func7, Tryd.ntmps7
  go_wp2_with fail
  refine HR.out.mono ?_
  rintro r0 w1 ⟨u0, rfl, h1⟩
  clear HR
  obtain ⟨ao, co, rfl, -⟩ := h1.enForm
  rw [HN.out.1] at h1 ⊢
  have HF := Lib.hid (filled_any 3 ao co n ows h1 (fun wx hx => hx.enS) HN.out.1 (by omega) (by omega) HN.out.2.1 (fun q hq => (HN.out.2.2 q hq).1) HK.out)
  clear h1
  go_wp2_with fail
  refine HF.out.mono ?_
  rintro r0 w2 ⟨g, rfl, qs, hqs, h2⟩
  have hql : qs.length = n := by have := congrArg List.length hqs; rw [List.length_map, List.length_map, HN.out.1] at this; exact this
  have HQ : Hid (qs.map (·.1) = ows.map (·.1) ∧ qs.length = n ∧ (∀ q ∈ qs, q.1.ok = true ∧ q.1.p.ls = [])) := Lib.hid ⟨hqs, hql, fun q hq => by
    have h9 : q.1 ∈ ows.map (·.1) := hqs ▸ List.mem_map_of_mem hq
    obtain ⟨z, hz, hz2⟩ := List.mem_map.1 h9
    rw [← hz2]; exact HN.out.2.2 z hz⟩
  have HFR := Lib.hid (from_ok 3 0 (by omega) (by omega) (fun q hq => by rw [(HQ.out.2.2 q hq).2]; simp) h2 (by omega) (by omega) (by have := HN.out; omega))
  clear HF h2 hqs hql
  go_wp2_with fail
  refine HFR.out.mono ?_
  rintro r0 w3 ⟨u1, rfl, rs, hrs, h3⟩
  rw [List.drop_zero, HQ.out.1] at hrs
  have hrl : rs.length = n := by have := congrArg List.length hrs; rw [List.length_map, List.length_map, HN.out.1] at this; exact this
  obtain ⟨a1, c1, rfl, -⟩ := h3.enForm
  rw [hrl] at h3 ⊢
  have HS := Lib.hid (samerow12 a1 ao c1 co n rs ows h3 (fun wx hx => hx.enS) (fun wx hx => hx.sw3.enS) hrl (by have := HN.out; omega) hrs.symm)
  have HRL := Lib.hid hrl
  clear HFR h3 hrs hrl
  go_wp2_with fail
  refine HS.out.mono ?_
  rintro r0 w4 ⟨rfl, h4⟩
  have HA := Lib.hid (asks_any 5 h4)
  unfold enV at HA
  clear HS h4
  go_wp2_with fail
  refine HA.out.mono ?_
  rintro r0 w5 ⟨rfl, h5⟩
  have h6 := (h5.rnNil 2 71).alloc (.cells (enC (askE 5) (.slice none 0 0)) 34)
  obtain ⟨a2, c2, w7, hr, h7⟩ := append_en (ty := 35) (h6.pick [0, 2, 1, 3, 4] rfl : Sep w [Cl w5.heap.size (enC (askE 5) (.slice none 0 0)) 34, EnT (.slice a1 n c1) rs, LnR (.slice none 0 0) (askE 5).p.ls, PipeT g 3 qs, EnT (.slice ao n co) ows] _) rfl (by rw [HRL.out]; have := HN.out; omega)
  rw [HRL.out] at hr h7
  unfold enC at hr
  have HAP := Lib.hid hr
  obtain ⟨m, hm⟩ : ∃ m, m = n + 1 := ⟨_, rfl⟩
  rw [← hm] at HAP h7
  have HM := Lib.hid hm
  have H7 : Hid (∃ rs', rs'.length = m ∧ Sep w [EnT (.slice a2 m c2) rs', PipeT g 3 qs, EnT (.slice ao n co) ows] w7) := Lib.hid ⟨_, by rw [List.length_append, HRL.out, hm]; rfl, h7⟩
  have n24 : (n : Int) ≤ 24 := by have := HN.out; omega
  have n0 : (0 : Int) ≤ (n : Int) := by omega
  have m25 : (m : Int) ≤ 25 := by omega
  clear HA h5 h6 hr h7 HRL hm
  go_wp2_with (at_builtin; refine wpList_append_run rfl _ _ _ _ rfl rfl rfl HAP.out ?_)
  clear HAP
  go_loopw [7] (fun i wr => ∃ (k : Nat) (rs' : List (EnM × Value)), k ≤ m ∧ i = .int .i64 k ∧ rs'.length = m ∧ Sep w [EnT (.slice a2 m c2) rs', PipeT g 3 qs, EnT (.slice ao n co) ows] wr) (fun i _ => m - (intOf i).toNat)
  case atStart => obtain ⟨rs', h8, h9⟩ := H7.out; exact ⟨0, rs', Nat.zero_le _, rfl, h8, h9⟩
  case round =>
    obtain ⟨k, rs', hk, rfl, hrl, hs⟩ := hrel
    clear H7
    have k0 : (0 : Int) ≤ (k : Int) := by omega
    have k25 : (k : Int) ≤ 25 := by omega
    by_cases hkn : k < m
    · have d0 : decide (k < m) = true := decide_eq_true hkn
      have k1 : (k : Int) < (m : Int) := by omega
      obtain ⟨b, c, hv, -, hcell, hfrz, hset⟩ := hs.enNum k (by omega)
      simp only [Value.slice.injEq] at hv
      obtain ⟨rfl, -, rfl⟩ := hv
      generalize rs'[k].1.m = mm at hcell
      have H8 := Lib.hid (hset 77777)
      have HKN := Lib.hid (And.intro hkn hrl)
      clear hs hset hkn hk hrl
      go_wp2_with fail
      go_roundw
      case rel => exact ⟨k + 1, setM rs' k 77777, HKN.out.1, by go_num, by rw [setM_len]; exact HKN.out.2, H8.out⟩
      case measure => have := HKN.out.1; simp [intOf]; omega
    · have d0 : decide (k < m) = false := decide_eq_false hkn
      have H8 := Lib.hid hs.drop
      clear hs hkn hk hrl
      go_wp2_with fail
      go_loopw [8] (fun i wr => ∃ (k : Nat), k ≤ n ∧ i = .int .i64 k ∧ Sep w [PipeT g 3 qs, EnT (.slice ao n co) ows] wr) (fun i _ => n - (intOf i).toNat)
      case atStart => exact ⟨0, Nat.zero_le _, rfl, H8.out⟩
      case round =>
        clear k0 k25 d0
        obtain ⟨k, hk, rfl, hs⟩ := hrel
        clear H8
        have k0 : (0 : Int) ≤ (k : Int) := by omega
        by_cases hkn : k < n
        · have d0 : decide (k < n) = true := decide_eq_true hkn
          have k1 : (k : Int) < (n : Int) := by omega
          have hkq : k < qs.length := by have := HQ.out; omega
          have hko : k < ows.length := by have := HN.out; omega
          have hxy : qs[k].1 = ows[k].1 := by
            have h9 : (qs.map (·.1))[k]? = (ows.map (·.1))[k]? := by rw [HQ.out.1]
            simpa [hkq, hko] using h9
          have hno := HQ.out.2.2 _ (List.getElem_mem hkq)
          have hg := get_ok (4 + (k : Int)) k hkq (by omega) (by rw [hno.2]; simp) hs (by omega) (by omega) (by have := HQ.out; have := HN.out; omega)
          rw [hxy] at hg hno
          have HOW : Hid (∀ wx M, Sep w (EnT (.slice ao n co) ows :: M) wx → ∃ bx off, ao = some ⟨bx, off, none⟩ ∧ En7 wx bx (off + k * 7) ows[k].1 ows[k].2 ∧ LnS wx ows[k].2 ows[k].1.p.ls) := Lib.hid (fun wx M hx => by
            obtain ⟨bx, off, h1, -, -, -, h6, h7⟩ := (hx.enS).at hko
            exact ⟨bx, off, h1, h6, h7⟩)
          obtain ⟨⟨x, vx⟩, hxv⟩ : ∃ z, z = ows[k] := ⟨_, rfl⟩
          rw [← hxv] at hg hno HOW
          dsimp only at hg hno HOW
          have HG := Lib.hid hg
          have HKN := Lib.hid (And.intro hkn hno)
          have wk : IntKind.i64.wrap (4 + (k : Int)) = 4 + (k : Int) := IntWalk.i64_in _ (by omega)
          unfold enV at HG
          clear hs hg hno hxy hxv hkn hk hkq hko
          go_wp2_with fail
          refine HG.out.mono ?_
          rintro r0 w8 ⟨u, rfl, h8⟩
          obtain ⟨au, ku, rfl, -⟩ := h8.rnForm
          obtain ⟨b9, hb9⟩ : ∃ z, z = w8.heap.size := ⟨_, rfl⟩
          obtain ⟨w9, hw9⟩ : ∃ z, z = w8.alloc (.cells #[.int .i64 x.c, .int .i64 x.m, .int .i64 x.p.k, .string x.p.s.1, .int .i64 x.p.o, .int .i64 x.p.n, .slice au x.p.ls.length ku] 34) := ⟨_, rfl⟩
          have h9 : Sep w [EnT (.slice ao n co) ows, Cl b9 (enC x (.slice au x.p.ls.length ku)) 34, LnR (.slice au x.p.ls.length ku) x.p.ls, PipeT g 3 qs] w9 := by
            have h3 := h8.alloc (.cells (enC x (.slice au x.p.ls.length ku)) 34)
            rw [← hb9] at h3
            rw [hw9]; exact h3.pick [3, 0, 1, 2] rfl
          obtain ⟨bx, off, rfl, ⟨e0, e1, e2, e3, e4, e5, e6⟩, hlx⟩ := HOW.out _ _ h9
          obtain ⟨vp, cp, rfl⟩ := hlx.len
          obtain ⟨d0_, d1, d2, d3, d4, d5, d6⟩ := cells7 h9.sw2
          have hsm := esame_any x x (.slice au x.p.ls.length ku) (.slice vp x.p.ls.length cp) h9.drew (Sep.lnS h9.drew.sw3) hlx (lns_maxl hlx)
          rw [enSame_self] at hsm
          have HSM := Lib.hid hsm
          unfold enV at HSM
          clear HG h8 h9 hlx hsm
          go_wp2_with fail
          rw [← hw9, ← hb9]
          clear hw9 hb9
          refine wp_region_G (fun w' => w'.cell? ⟨bx, off + k * 7, none⟩ = some (.int .i64 x.c) ∧ w'.cell? ⟨bx, off + k * 7 + 1, none⟩ = some (.int .i64 x.m) ∧ w'.cell? ⟨bx, off + k * 7 + 2, none⟩ = some (.int .i64 x.p.k) ∧ w'.cell? ⟨bx, off + k * 7 + 3, none⟩ = some (.string x.p.s.1) ∧ w'.cell? ⟨bx, off + k * 7 + 4, none⟩ = some (.int .i64 x.p.o) ∧ w'.cell? ⟨bx, off + k * 7 + 5, none⟩ = some (.int .i64 x.p.n) ∧ w'.cell? ⟨bx, off + k * 7 + 6, none⟩ = some (.slice vp x.p.ls.length cp) ∧ w'.cell? ⟨b9, 0, none⟩ = some (.int .i64 x.c) ∧ w'.cell? ⟨b9, 1, none⟩ = some (.int .i64 x.m) ∧ w'.cell? ⟨b9, 2, none⟩ = some (.int .i64 x.p.k) ∧ w'.cell? ⟨b9, 3, none⟩ = some (.string x.p.s.1) ∧ w'.cell? ⟨b9, 4, none⟩ = some (.int .i64 x.p.o) ∧ w'.cell? ⟨b9, 5, none⟩ = some (.int .i64 x.p.n) ∧ w'.cell? ⟨b9, 6, none⟩ = some (.slice au x.p.ls.length ku)) [8, 9, 10] (by kernel_rfl) ⟨e0, e1, e2, e3, e4, e5, e6, d0_, d1, d2, d3, d4, d5, d6⟩ (fun hS => ?_)
          try dsimp only at hS
          refine wpAnyG_take' (i := 0) (v := ?v0_1ow) rfl (by kernel_rfl) (by kernel_rfl) (by kernel_rfl) (by kernel_rfl) (fun _ _ _ h => h) (Or.inl ⟨by rfl, ?hy0_1ow⟩) hS ?rest0_1ow
          case hy0_1ow => intro w hSw; (try dsimp only at hSw); go_simp; (try with_reducible rfl)
          case rest0_1ow =>
          try simp only [List.getElem_toArray, List.getElem_cons_succ, List.getElem_cons_zero, Act.put, List.setIfInBounds_toArray, List.set_cons_zero, List.set_cons_succ]
          refine wpAnyG_take' (i := 1) (v := ?v1_2ow) rfl (by kernel_rfl) (by kernel_rfl) (by kernel_rfl) (by kernel_rfl) (fun _ _ _ h => h) (Or.inl ⟨by rfl, ?hy1_2ow⟩) hS ?rest1_2ow
          case hy1_2ow => intro w hSw; (try dsimp only at hSw); go_simp; (try with_reducible rfl)
          case rest1_2ow =>
          try simp only [List.getElem_toArray, List.getElem_cons_succ, List.getElem_cons_zero, Act.put, List.setIfInBounds_toArray, List.set_cons_zero, List.set_cons_succ]
          refine wpAnyG_take' (i := 2) (v := ?v2_3ow) rfl (by kernel_rfl) (by kernel_rfl) (by kernel_rfl) (by kernel_rfl) (fun _ _ _ h => h) (Or.inl ⟨by rfl, ?hy2_3ow⟩) hS ?rest2_3ow
          case hy2_3ow => intro w hSw; (try dsimp only at hSw); go_simp; (try with_reducible rfl)
          case rest2_3ow =>
          try simp only [List.getElem_toArray, List.getElem_cons_succ, List.getElem_cons_zero, Act.put, List.setIfInBounds_toArray, List.set_cons_zero, List.set_cons_succ]
          refine wpAnyG_take' (i := 3) (v := ?v3_4ow) rfl (by kernel_rfl) (by kernel_rfl) (by kernel_rfl) (by kernel_rfl) (fun _ _ _ h => h) (Or.inl ⟨by rfl, ?hy3_4ow⟩) hS ?rest3_4ow
          case hy3_4ow => intro w hSw; (try dsimp only at hSw); go_simp; (try with_reducible rfl)
          case rest3_4ow =>
          try simp only [List.getElem_toArray, List.getElem_cons_succ, List.getElem_cons_zero, Act.put, List.setIfInBounds_toArray, List.set_cons_zero, List.set_cons_succ]
          refine wpAnyG_take' (i := 4) (v := ?v4_5ow) rfl (by kernel_rfl) (by kernel_rfl) (by kernel_rfl) (by kernel_rfl) (fun _ _ _ h => h) (Or.inl ⟨by rfl, ?hy4_5ow⟩) hS ?rest4_5ow
          case hy4_5ow => intro w hSw; (try dsimp only at hSw); go_simp; (try with_reducible rfl)
          case rest4_5ow =>
          try simp only [List.getElem_toArray, List.getElem_cons_succ, List.getElem_cons_zero, Act.put, List.setIfInBounds_toArray, List.set_cons_zero, List.set_cons_succ]
          refine wpAnyG_take' (i := 5) (v := ?v5_6ow) rfl (by kernel_rfl) (by kernel_rfl) (by kernel_rfl) (by kernel_rfl) (fun _ _ _ h => h) (Or.inl ⟨by rfl, ?hy5_6ow⟩) hS ?rest5_6ow
          case hy5_6ow => intro w hSw; (try dsimp only at hSw); go_simp; (try with_reducible rfl)
          case rest5_6ow =>
          try simp only [List.getElem_toArray, List.getElem_cons_succ, List.getElem_cons_zero, Act.put, List.setIfInBounds_toArray, List.set_cons_zero, List.set_cons_succ]
          refine wpAnyG_take' (i := 6) (v := ?v6_7ow) rfl (by kernel_rfl) (by kernel_rfl) (by kernel_rfl) (by kernel_rfl) (fun _ _ _ h => h) (Or.inl ⟨by rfl, ?hy6_7ow⟩) hS ?rest6_7ow
          case hy6_7ow => intro w hSw; (try dsimp only at hSw); go_simp; (try with_reducible rfl)
          case rest6_7ow =>
          try simp only [List.getElem_toArray, List.getElem_cons_succ, List.getElem_cons_zero, Act.put, List.setIfInBounds_toArray, List.set_cons_zero, List.set_cons_succ]
          refine wpAnyG_take' (i := 7) (v := ?v7_8ow) rfl (by kernel_rfl) (by kernel_rfl) (by kernel_rfl) (by kernel_rfl) (fun _ _ _ h => h) (Or.inl ⟨by rfl, ?hy7_8ow⟩) hS ?rest7_8ow
          case hy7_8ow => intro w hSw; (try dsimp only at hSw); go_simp; (try with_reducible rfl)
          case rest7_8ow =>
          try simp only [List.getElem_toArray, List.getElem_cons_succ, List.getElem_cons_zero, Act.put, List.setIfInBounds_toArray, List.set_cons_zero, List.set_cons_succ]
          refine wpAnyG_one (i := 8) (by kernel_rfl) rfl (fun K hK => ?_)
          go_simp
          refine Calls.mono HSM.out ?_
          rintro r8 w10 ⟨rfl, h10⟩
          clear e0 e1 e2 e3 e4 e5 e6 d0_ d1 d2 d3 d4 d5 d6 HSM
          have H10 : Hid (Sep w [PipeT g 3 qs, EnT (.slice (some ⟨bx, off, none⟩) n co) ows] w10) := Lib.hid (h10.pick [3, 0] rfl)
          clear h10
          go_wp2_with fail
          refine hK.out _ _ (fun hno => by cases hno) ?_
          clear K hK
          try simp only [List.getElem_toArray, List.getElem_cons_succ, List.getElem_cons_zero, Act.put, List.setIfInBounds_toArray, List.set_cons_zero, List.set_cons_succ]
          refine wpAnyG_one (i := 9) (by kernel_rfl) rfl (fun K hK => ?_)
          go_simp
          refine hK.out _ _ (fun hno => by cases hno) ?_
          clear K hK
          try simp only [List.getElem_toArray, List.getElem_cons_succ, List.getElem_cons_zero, Act.put, List.setIfInBounds_toArray, List.set_cons_zero, List.set_cons_succ]
          refine wpAnyG_one (i := 10) (by kernel_rfl) rfl (fun K hK => ?_)
          go_simp
          refine hK.out _ _ (fun hno => by cases hno) ?_
          clear K hK
          try simp only [List.getElem_toArray, List.getElem_cons_succ, List.getElem_cons_zero, Act.put, List.setIfInBounds_toArray, List.set_cons_zero, List.set_cons_succ]
          refine wpAnyG_done (by kernel_rfl) ?_ _
          try simp only [List.getElem_toArray, List.getElem_cons_succ, List.getElem_cons_zero, Act.put, List.setIfInBounds_toArray, List.set_cons_zero, List.set_cons_succ]
          go_wp2_with fail
          go_roundw
          case rel => exact ⟨k + 1, HKN.out.1, by go_num, H10.out⟩
          case measure => have := HKN.out.1; simp [intOf]; omega
        · have d0 : decide (k < n) = false := decide_eq_false hkn
          have HFR := Lib.hid (from_ok 3 0 (by omega) (by omega) (fun q hq => by rw [(HQ.out.2.2 q hq).2]; simp) hs (by omega) (by omega) (by have := HQ.out; have := HN.out; omega))
          clear hs hkn hk
          go_wp2_with fail
          refine HFR.out.mono ?_
          rintro r0 w11 ⟨u1, rfl, rs2, hrs, h3⟩
          rw [List.drop_zero, HQ.out.1] at hrs
          have hrl : rs2.length = n := by have := congrArg List.length hrs; rw [List.length_map, List.length_map, HN.out.1] at this; exact this
          obtain ⟨a3, c3, rfl, -⟩ := h3.enForm
          rw [hrl] at h3 ⊢
          have HS := Lib.hid (samerow12 a3 ao c3 co n rs2 ows h3 (fun wx hx => hx.enS) (fun wx hx => hx.sw3.enS) hrl (by have := HN.out; omega) hrs.symm)
          clear HFR h3 hrs hrl
          go_wp2_with fail
          refine HS.out.mono ?_
          rintro r0 w12 ⟨rfl, h4⟩
          have HW := Lib.hid (works12_any h4 (HK.out.below h4.low))
          clear HS h4
          go_wp2_with fail
          refine HW.out.mono ?_
          rintro r0 w13 ⟨rfl, h5⟩
          have HE := Lib.hid h5.low
          clear HW h5
          go_wp2_with fail
          go_ret
          exact ⟨rfl, HE.out⟩
theorem own12_in (v : Value) (w : World) (h : RdC Tryd.prog w 51 [v]) (hk : KindsAt w) :
    Calls Tryd.prog 7 #[v] w fun e w' => e = .returned (.bool true) ∧ Below w.heap.size w w' := by
  obtain ⟨l, hv, -⟩ := h.ints64 Tryd.underlying51 Tryd.underlying3 (by kernel_rfl)
  exact own12 v l w hv hk
end Go.Proofs.YtpknfeokfladkaaDoor
