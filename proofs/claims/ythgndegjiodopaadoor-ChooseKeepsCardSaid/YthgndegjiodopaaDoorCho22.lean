/- Stage 18's laws: ChooseOne. -/
import Derived.Test.YthgndegjiodopaaDoorCho21
namespace Go.Proofs.YthgndegjiodopaaDoor
open Go Go.RowKit
set_option linter.unusedVariables false
set_option linter.unusedSimpArgs false
/-- A number of what was brought: 2 * (1 + f % 7) + 1. -/
theorem grpN (f : Int) : ∃ n q : Nat, f % 7 = (q : Int) ∧ q < 7 ∧ 2 * (1 + (q : Int)) + 1 = (n : Int) ∧ 3 ≤ n ∧ n ≤ 15 ∧ enough n = ((q : Int) + 2) ∧ n = 2 * q + 3 := by
  have h1 := Int.emod_nonneg f (show (7 : Int) ≠ 0 by decide)
  have h2 := Int.emod_lt_of_pos f (show (0 : Int) < 7 by decide)
  refine ⟨2 * (f % 7).toNat + 3, (f % 7).toNat, by omega, by omega, by omega, by omega, by omega, ?_, rfl⟩
  unfold enough
  rw [if_pos (by omega)]
  omega
/-- What offers asks of a part of a row of offers of one's own. -/
theorem Sep.ofHrd {w0 : World} {a : Option Addr} {n c k : Nat} {xs : List OvM} {L : List Thing} {w : World} (h : Sep w0 (OfT (.slice a n c) xs :: L) w) :
    ∀ i (hi : i < (xs.take k).length), ∃ g1 off, a = some ⟨g1, off, none⟩ ∧ ∀ wx, Sep w0 (OfT (.slice a n c) xs :: L) wx → (Instr.loadAt 33 (.pointer (some ⟨g1, off + i * 6, none⟩))).run Tryd.prog wx = .ok (.agg (ovC (xs.take k)[i])) wx := by
  intro i hi
  have hix : i < xs.length := by rw [List.length_take] at hi; omega
  obtain ⟨g, e, -⟩ := h.ofLoad i hix
  refine ⟨g, 0, e, fun wx hx => ?_⟩
  obtain ⟨g', e', -, -, h2⟩ := hx.ofLoad i hix
  rw [e] at e'
  obtain rfl : g = g' := by simpa using e'
  rw [Nat.zero_add, h2, List.getElem_take]
set_option maxRecDepth 100000 in
set_option maxHeartbeats 0 in
theorem chone_any (f : Int) (va : Option Addr) (ln vc : Nat) (mn : Int) (ls : List Lg) (w : World) (hK : KindsAt w) (hlen : ls.length = ln) (hls : LgS w va ls) :
    Calls Tryd.prog 5 #[.int .i64 f, .slice va ln vc, .int .i64 mn] w fun e w' => e = .returned (.bool true) ∧ Below w.heap.size w w' := by
  obtain ⟨n, q, hq, hq7, hn, hn3, hn15, hen, hnq⟩ := grpN f
  have HB0 := Lib.hid (fun wx => bring_any f 7 wx (by unfold Sm; omega))
  rw [hq] at HB0
  have HN := Lib.hid hn
  have HEN := Lib.hid hen
  have HNQ := Lib.hid (And.intro hnq (And.intro hn3 (And.intro hn15 hq7)))
  have n0 : (3 : Int) ≤ (n : Int) := by omega
  have n9 : (n : Int) ≤ 15 := by omega
  have q0 : (0 : Int) ≤ (q : Int) := by omega
  have q9 : (q : Int) < 7 := by omega
  obtain ⟨k, hk, hkn⟩ : ∃ k : Nat, mn % ((n : Int) + 1) = (k : Int) ∧ k ≤ n := by
    have h1 := Int.emod_nonneg mn (show ((n : Int) + 1) ≠ 0 by omega)
    have h2 := Int.emod_lt_of_pos mn (show (0 : Int) < (n : Int) + 1 by omega)
    exact ⟨(mn % ((n : Int) + 1)).toNat, by omega, by omega⟩
  have HB1 := Lib.hid (fun wx => bring_any mn ((n : Int) + 1) wx (by unfold Sm; omega))
  rw [hk] at HB1
  have k0 : (0 : Int) ≤ (k : Int) := by omega
  have kn : (k : Int) ≤ (n : Int) := by omega
  have HKN := Lib.hid hkn
  have HGR := Lib.hid (group_any n 4 50 va ln vc ls (Sep.start w) hn15 (by omega) hlen (fun wx hx => hls.below hx.low))
  have HK := Lib.hid hK
  clear hq hq7 hn hn3 hn15 hen hnq hk hkn hlen hls hK
  go_enter Tryd.func5, Tryd.ntmps5
  (try dsimp only); repeat' (first | go_values | go_skip | go_guarded | go_step | go_upon | go_back)
  refine (HB0.out _).mono ?_
  rintro r0 w1 ⟨rfl, rfl⟩
  clear HB0
  (try dsimp only); repeat' (first | go_values | go_skip | go_guarded | go_step | go_upon | go_back)
  simp only [HN.out]
  refine HGR.out.mono ?_
  rintro r0 w2 ⟨a1, c1, xs, rfl, hxl, hpr, h2⟩
  clear HGR
  have hcap : n ≤ c1 := by obtain ⟨a, c, e, h5, -⟩ := h2.ofForm; simp only [Value.slice.injEq] at e; obtain ⟨-, -, rfl⟩ := e; omega
  have kc : (k : Int) ≤ (c1 : Int) := by have := HKN.out; omega
  have kc' : k ≤ c1 := by have := HKN.out; omega
  have HX := Lib.hid (And.intro hxl hpr)
  have HP := Lib.hid (show (xs.take k).map OvM.pr = (grp 4 50 ls k).map OvM.pr by rw [pr_take hpr, grp_take _ _ _ _ _ HKN.out])
  have hAP := grp_addP 4 50 ls n k (by omega) HKN.out HNQ.out.2.2.1
  have HOF := Lib.hid (offers_any n 100 a1 k c1 (xs.take k) h2 HNQ.out.2.2.1 (by have := HEN.out; omega) (by omega) (by omega) (by rw [List.length_take, hxl]; have := HKN.out; omega) h2.ofHrd (by have := HKN.out; have := HNQ.out.2.2.1; omega)
    (fun wx hx x hxm => hx.ofEn (List.mem_of_mem_take hxm))
    (fun x hxm => by
      have h7 : x.pr ∈ (grp 4 50 ls k).map OvM.pr := by rw [← HP.out]; exact List.mem_map_of_mem hxm
      obtain ⟨y, hy, e⟩ := List.mem_map.1 h7
      exact addO_of (h2.ofVs (List.mem_of_mem_take hxm)) e.symm (hAP y hy))
    (by rw [pr_fr HP.out, grp_fr]; exact range_nodup k) HK.out)
  have HAP := Lib.hid hAP
  clear hxl hpr h2 hcap hAP
  (try dsimp only); repeat' (first | go_values | go_skip | go_guarded | go_step | go_upon | go_back)
  refine (HB1.out _).mono ?_
  rintro r0 w3 ⟨rfl, rfl⟩
  clear HB1
  (try dsimp only); repeat' (first | go_values | go_skip | go_guarded | go_step | go_upon | go_back)
  refine HOF.out.mono ?_
  rintro r0 w3 ⟨g, b, ys, rfl, hys, h3⟩
  have HY := Lib.hid (hys.trans HP.out)
  have H3 := Lib.hid h3
  clear HOF hys h3
  (try dsimp only); repeat' (first | go_values | go_skip | go_guarded | go_step | go_upon | go_back)
  have hcl : (grp 4 50 ls k).length = k := grp_len ..
  have hBL : BdL (grp 4 50 ls k) := bdL_of (n := n) (by have := HNQ.out.2.2.1; omega) HAP.out
  have hby : byFr (grp 4 50 ls k) n = grp 4 50 ls k := by rw [byFr_grp, Nat.min_eq_left HKN.out]
  by_cases hfew : enough n ≤ (k : Int)
  · as_aux_lemma =>
      have hk2 : 2 ≤ k := by have := HEN.out; omega
      have HCH := oChooseL (grp 4 50 ls k) H3.out HY.out HNQ.out.2.2.1 hBL (by rw [hby, hcl]; omega) (by rw [hcl]; exact hfew)
      rw [hby] at HCH
      have hmem : minO (grp 4 50 ls k) ∈ grp 4 50 ls k := by
        have := minO_mem (grp 4 50 ls k) k (by omega) (by omega)
        rwa [List.take_of_length_le (by omega)] at this
      have hbest := fun x (hx : x ∈ grp 4 50 ls k) => minO_best hx
      have HBS := fun (wx : World) (M : List Thing) (hx : Sep w (OffT g b n 100 ys :: M) wx) => oBestL (grp 4 50 ls k) hx HY.out HNQ.out.2.2.1 hBL (by rw [hby, hcl]; omega)
      rw [hby] at HBS
      obtain ⟨y, hy⟩ : ∃ y, y = minO (grp 4 50 ls k) := ⟨_, rfl⟩
      rw [← hy] at HCH hmem hbest HBS
      have hyA := HAP.out y hmem
      have hC : maxCo (grp 4 50 ls k) y.co = maxCo (grp 4 50 ls k) 0 := maxCo_from hmem (by have := hyA.1; have := hyA.2.2.2.2.2.2.2.2.1; omega)
      obtain ⟨j, hj, hyj⟩ := List.mem_map.1 hmem
      have hjk := List.mem_range.1 hj
      obtain ⟨C, hCd⟩ : ∃ C, C = maxCo (grp 4 50 ls k) 0 := ⟨_, rfl⟩
      rw [hC, ← hCd] at HCH
      have C0 : 0 ≤ C := by rw [hCd]; exact (maxCo_ge _ 0).1
      have hfr : y.fr = (j : Int) := by rw [← hyj]; rfl
      have hba : y.ba = 0 := by rw [← hyj]; rfl
      obtain ⟨m, hm⟩ : ∃ m, m = y.ps.length := ⟨_, rfl⟩
      have hyps : y.ps.map (·.1) = (gO 4 50 ls j).ps.map (·.1) := by rw [hyj]
      have m9 : m ≤ 24 := by rw [hm]; exact hyA.2.2.1
      obtain ⟨la, hla⟩ : ∃ la, la = y.la := ⟨_, rfl⟩
      obtain ⟨yco, hyco⟩ : ∃ yco, yco = y.co := ⟨_, rfl⟩
      have HBE := Lib.hid (show ∀ i, i < k → ¬ (la < (gO 4 50 ls i).la ∨ (la = (gO 4 50 ls i).la ∧ m < (gO 4 50 ls i).ps.length)) from fun i hi h => by
        have h1 := hbest (gO 4 50 ls i) (List.mem_map.2 ⟨i, List.mem_range.2 hi, rfl⟩)
        apply h1
        unfold OvM.top
        rw [hba, ← hm, ← hla, show (gO 4 50 ls i).ba = 0 from rfl]
        rcases h with h | ⟨h, h'⟩
        · exact .inl h
        · exact .inr ⟨h, .inl (by omega)⟩)
      rw [← hm] at HCH HBS
      rw [← hla, ← hyco, hfr, hba] at HBS
      have hans : ∀ (a : Option Addr) (c : Nat), ∃ (ia : Option Addr) (im ic : Nat) (co fr er : Int), choAns y C a c = .tuple #[.agg #[.int .i64 0, .slice none 0 0, .slice ia im ic, .int .i64 co], .int .i64 fr, .int .i64 er] ∧ (((m : Int) < C ∧ er = 9) ∨ (¬ (m : Int) < C ∧ er = 0 ∧ (j : Int) = fr ∧ a = ia ∧ m = im ∧ c = ic ∧ C = co)) := by
        intro a c
        unfold choAns OvM.top
        rw [hba, ← hm, hfr]
        by_cases h : (0 : Int) + (m : Int) < C
        · rw [if_pos h]; exact ⟨none, 0, 0, 0, 0, 9, rfl, .inl ⟨by omega, rfl⟩⟩
        · rw [if_neg h]; exact ⟨a, m, c, C, j, 0, rfl, .inr ⟨by omega, rfl, rfl, rfl, rfl, rfl, rfl⟩⟩
      have HANS := Lib.hid hans
      have HB := Lib.hid HBS
      have HC := Lib.hid HCH
      have HCD := Lib.hid hCd
      have HJ := Lib.hid (And.intro hjk (And.intro hyps (show m = (gO 4 50 ls j).ps.length by rw [hm]; have := congrArg List.length hyps; simpa using this)))
      have HFE := Lib.hid hfew
      clear HCH HBS hans hbest hmem hyA hC hj hyj hfr hba hla hyco hy hCd H3 hcl hBL hby hyps hm hfew
      have j0 : (0 : Int) ≤ (j : Int) := by omega
      have jk : (j : Int) < (k : Int) := by omega
      have m0 : (0 : Int) ≤ (m : Int) := by omega
      have m9' : (m : Int) ≤ 24 := by omega
      refine HC.out.mono ?_
      rintro r0 w4 ⟨a2, c2, qs, rfl, hqs, h4⟩
      obtain ⟨ia, im, ic, co, fr, er, hA, hcase⟩ := HANS.out a2 c2
      rw [hA]
      have h5 := h4.alloc (.cells #[.int .i64 0, .slice none 0 0, .slice none 0 0, .int .i64 0] 31)
      obtain ⟨b4, hb4⟩ : ∃ q, q = w4.heap.size := ⟨_, rfl⟩
      obtain ⟨v4, hv4⟩ : ∃ q, q = w4.alloc (.cells #[.int .i64 0, .slice none 0 0, .slice none 0 0, .int .i64 0] 31) := ⟨_, rfl⟩
      rw [← hb4, ← hv4] at h5
      have HT := Lib.hid (Sep.thereAt h5 0 4 (Nat.le_refl 4))
      have h6 := Sep.storeW h5 #[.int .i64 0, .slice none 0 0, .slice ia im ic, .int .i64 co] rfl
      have H6 := Lib.hid h6
      have HQS := Lib.hid hqs
      have HCS := Lib.hid hcase
      clear hA hcase hqs h4 h5 h6 HC HANS hjk
      (try dsimp only); repeat' (first | (with_reducible show wpList _ _ _ (Oper.mk _ (Op.store 31 _ _) _ _ _ _ :: _) _ _; refine stopP ?_) | go_values | go_skip | go_guarded | go_step | go_upon | go_back)
      unfold StopP
      rw [← hv4, ← hb4]
      clear hv4 hb4
      refine wpList_store_mid rfl 31 (.tmp 10) (.tmp 41) rfl b4 0 #[.int .i64 0, .slice none 0 0, .slice ia im ic, .int .i64 co] rfl rfl HT.out (by kernel_rfl) (by kernel_rfl) ?_
      clear HT
      have HF := Lib.hid (fun wx => enough_any n wx ⟨by have := HNQ.out.2.2.1; omega, by have := HNQ.out.2.2.1; omega⟩)
      have d1 : decide ((k : Int) < enough n) = false := decide_eq_false (by have := HFE.out; omega)
      (try dsimp only); repeat' (first | go_values | go_skip | go_guarded | go_step | go_upon | go_back)
      refine (HF.out _).mono ?_
      rintro r0 w5 ⟨rfl, rfl⟩
      clear HF HFE
      (try dsimp only); repeat' (first | go_values | go_skip | go_guarded | go_step | go_upon | go_back)
      go_loopw [13, 14] (fun mv iv wr => ∃ i : Nat, i ≤ k ∧ iv = .int .i64 i ∧ mv = .int .i64 (maxCo (grp 4 50 ls i) 0) ∧ Sep w [Cl b4 #[.int .i64 0, .slice none 0 0, .slice ia im ic, .int .i64 co] 31, EnT (.slice a2 m c2) qs, OffT g b n 100 ys, OfT (.slice a1 n c1) xs] wr) (fun _ iv _ => k - (intOf iv).toNat)
      case atStart => exact ⟨0, by omega, rfl, rfl, H6.out⟩
      case round =>
        obtain ⟨i, hi, rfl, rfl, hs⟩ := hrel
        clear H6
        have i0 : (0 : Int) ≤ (i : Int) := by omega
        by_cases hik : i < k
        · have e0 : decide (i < k) = true := decide_eq_true hik
          have e0' : decide ((i : Int) < (k : Int)) = true := decide_eq_true (by omega)
          have ik : (i : Int) < (k : Int) := by omega
          have hix : i < xs.length := by have := HX.out.1; have := HKN.out; omega
          obtain ⟨gx, rfl, -, hcell, -⟩ := (Sep.pick hs [3] rfl : Sep w [OfT (.slice a1 n c1) xs] wr).ofLoad i hix
          have hxp : xs[i].pr = (gO 4 50 ls i).pr := by
            have := pr_at HX.out.2 i hix (by rw [grp_len]; have := HX.out.1; omega)
            rwa [grp_get] at this
          have e5 : wr.cell? ⟨gx, i * 6 + 5, none⟩ = some (.int .i64 (gO 4 50 ls i).co) := by rw [← (pr_parts hxp).2.2.2.1]; exact hcell 5 _ rfl
          have hsucc : maxCo (grp 4 50 ls (i + 1)) 0 = maxI (maxCo (grp 4 50 ls i) 0) (gO 4 50 ls i).co := by rw [grp_succ]; unfold maxCo; rw [List.foldl_append]; rfl
          obtain ⟨M, hM⟩ : ∃ M, M = maxCo (grp 4 50 ls i) 0 := ⟨_, rfl⟩
          obtain ⟨M', hM'⟩ : ∃ M', M' = maxCo (grp 4 50 ls (i + 1)) 0 := ⟨_, rfl⟩
          obtain ⟨zc, hzc⟩ : ∃ zc, zc = (gO 4 50 ls i).co := ⟨_, rfl⟩
          rw [← hM, ← hM', ← hzc] at hsucc
          rw [← hM]
          rw [← hzc] at e5
          unfold maxI at hsucc
          have HM := Lib.hid hsucc
          have HS := Lib.hid hs
          have HIK := Lib.hid (And.intro hik hM')
          clear hs hcell hxp hsucc hM hM' hzc hix hi hik
          (try dsimp only); repeat' (first | go_values | go_skip | go_guarded | go_step | go_upon | go_back)
          rw [← HM.out]
          go_roundw
          case rel => exact ⟨i + 1, by have := HIK.out.1; omega, by go_num, by rw [HIK.out.2], HS.out⟩
          case measure => have := HIK.out.1; simp [intOf]; omega
        · have e0 : decide (i < k) = false := decide_eq_false hik
          have e0' : decide ((i : Int) < (k : Int)) = false := decide_eq_false (by omega)
          obtain rfl : i = k := by omega
          rw [← HCD.out]
          clear e0 e0' hi hik HCD i0
          have HB2 := Lib.hid (HB.out _ _ (Sep.pick hs [2, 0, 1, 3] rfl))
          clear HB hs
          have e1 : decide ((i : Int) < (i : Int)) = false := decide_eq_false (by omega)
          have e2 : decide (i < i) = false := decide_eq_false (by omega)
          (try dsimp only); repeat' (first | go_values | go_skip | go_guarded | go_step | go_upon | go_back)
          refine HB2.out.mono ?_
          rintro r0 w6 ⟨a3, c3, qs3, rfl, -, h7⟩
          clear HB2
          have h8 := h7.drop.alloc (.cells #[.int .i64 0, .int .i64 0, .int .i64 0, .slice none 0 0, .slice none 0 0, .int .i64 0] 33)
          obtain ⟨b5, hb5⟩ : ∃ q, q = w6.heap.size := ⟨_, rfl⟩
          obtain ⟨v5, hv5⟩ : ∃ q, q = w6.alloc (.cells #[.int .i64 0, .int .i64 0, .int .i64 0, .slice none 0 0, .slice none 0 0, .int .i64 0] 33) := ⟨_, rfl⟩
          rw [← hb5, ← hv5] at h8
          have HT := Lib.hid (Sep.thereAt h8 0 6 (Nat.le_refl 6))
          have h9 := Sep.storeW h8 #[.int .i64 j, .int .i64 la, .int .i64 0, .slice none 0 0, .slice a3 m c3, .int .i64 yco] rfl
          obtain ⟨v6, hv6⟩ : ∃ q, q = v5.setCells b5 0 (#[.int .i64 j, .int .i64 la, .int .i64 0, .slice none 0 0, .slice a3 m c3, .int .i64 yco] : Array Value).toList := ⟨_, rfl⟩
          rw [← hv6] at h9
          have g0 := h9.cell (o := 0) (x := .int .i64 j) rfl
          have H9 := Lib.hid h9
          clear h7 h8 h9
          (try dsimp only); repeat' (first | (with_reducible show wpList _ _ _ (Oper.mk _ (Op.store 33 _ _) _ _ _ _ :: _) _ _; refine stopP ?_) | go_values | go_skip | go_guarded | go_step | go_upon | go_back)
          unfold StopP
          rw [← hv5, ← hb5]
          clear hv5 hb5
          refine wpList_store_mid rfl 33 (.tmp 15) (.tmp 77) rfl b5 0 #[.int .i64 j, .int .i64 la, .int .i64 0, .slice none 0 0, .slice a3 m c3, .int .i64 yco] rfl rfl HT.out (by kernel_rfl) (by kernel_rfl) ?_
          clear HT
          rw [← hv6]
          clear hv6
          have f0 : decide ((j : Int) < 0) = false := decide_eq_false (by omega)
          have f1 : decide ((i : Int) ≤ (j : Int)) = false := decide_eq_false (by omega)
          have f2 : decide (i ≤ j) = false := decide_eq_false (by omega)
          (try dsimp only); repeat' (first | go_values | go_skip | go_guarded | go_step | go_upon | go_back)
          clear f0 f1 f2 g0
          go_loopw [17] (fun iv wr => ∃ t : Nat, t ≤ i ∧ iv = .int .i64 t ∧ Sep w [Cl b5 #[.int .i64 j, .int .i64 la, .int .i64 0, .slice none 0 0, .slice a3 m c3, .int .i64 yco] 33, OffT g b n 100 ys, Cl b4 #[.int .i64 0, .slice none 0 0, .slice ia im ic, .int .i64 co] 31, EnT (.slice a2 m c2) qs, OfT (.slice a1 n c1) xs] wr) (fun iv _ => i - (intOf iv).toNat)
          case atStart => exact ⟨0, by omega, rfl, H9.out⟩
          case round =>
            obtain ⟨t, ht, rfl, hs⟩ := hrel
            clear H9
            have t0 : (0 : Int) ≤ (t : Int) := by omega
            by_cases htk : t < i
            · have e0 : decide (t < i) = true := decide_eq_true htk
              have e0' : decide ((t : Int) < (i : Int)) = true := decide_eq_true (by omega)
              have tk : (t : Int) < (i : Int) := by omega
              have hix : t < xs.length := by have := HX.out.1; have := HKN.out; omega
              have hOF : Sep w [OfT (.slice a1 n c1) xs] wr := Sep.pick hs [4] rfl
              obtain ⟨gx, rfl, -, hcell, -⟩ := hOF.ofLoad t hix
              obtain ⟨za, zn, hzv⟩ := hOF.ofVs (List.getElem_mem hix)
              have hxp : xs[t].pr = (gO 4 50 ls t).pr := by
                have := pr_at HX.out.2 t hix (by rw [grp_len]; have := HX.out.1; omega)
                rwa [grp_get] at this
              have hnb := HBE.out t htk
              rw [← (pr_parts hxp).2.1, ← pr_len hxp] at hnb
              obtain ⟨zl, hzl⟩ : ∃ zl, zl = xs[t].la := ⟨_, rfl⟩
              obtain ⟨zm, hzm⟩ : ∃ zm, zm = xs[t].ps.length := ⟨_, rfl⟩
              have e1 : wr.cell? ⟨gx, t * 6 + 1, none⟩ = some (.int .i64 zl) := by rw [hzl]; exact hcell 1 _ rfl
              have e4 : wr.cell? ⟨gx, t * 6 + 4, none⟩ = some (.slice za zm zn) := by rw [hzm, ← hzv]; exact hcell 4 _ rfl
              rw [← hzl, ← hzm] at hnb
              have g1 := hs.cell (o := 1) (x := .int .i64 la) rfl
              have g4 := hs.cell (o := 4) (x := .slice a3 m c3) rfl
              have HS := Lib.hid hs
              have HTK := Lib.hid htk
              have f1 : decide (la < zl) = false := decide_eq_false (fun h => hnb (.inl h))
              have hex : decide (zl = la) = false ∨ (decide (zl = la) = true ∧ decide (m < zm) = false) := by
                by_cases h : zl = la
                · exact .inr ⟨decide_eq_true h, decide_eq_false (fun h' => hnb (.inr ⟨h.symm, h'⟩))⟩
                · exact .inl (decide_eq_false h)
              clear hs hOF hcell hzv hxp hnb hzl hzm hix ht htk
              rcases hex with f2 | ⟨f2, f3⟩
              · have f2' : (zl == la) = false := by simpa using f2
                (try dsimp only); repeat' (first | go_values | go_skip | go_guarded | go_step | go_upon | go_back)
                go_quiet (fail)
                (try dsimp only); repeat' (first | go_values | go_skip | go_guarded | go_step | go_upon | go_back)
                go_roundw
                case rel => exact ⟨t + 1, by have := HTK.out; omega, by go_num, HS.out.drewN _⟩
                case measure => have := HTK.out; simp [intOf]; omega
              · have f2' : (zl == la) = true := by simpa using f2
                have f3' : decide ((m : Int) < (zm : Int)) = false := decide_eq_false (by have := of_decide_eq_false f3; omega)
                (try dsimp only); repeat' (first | go_values | go_skip | go_guarded | go_step | go_upon | go_back)
                go_quiet (fail)
                (try dsimp only); repeat' (first | go_values | go_skip | go_guarded | go_step | go_upon | go_back)
                go_roundw
                case rel => exact ⟨t + 1, by have := HTK.out; omega, by go_num, HS.out.drewN _⟩
                case measure => have := HTK.out; simp [intOf]; omega
            · have e0 : decide (t < i) = false := decide_eq_false htk
              have e0' : decide ((t : Int) < (i : Int)) = false := decide_eq_false (by omega)
              obtain rfl : t = i := by omega
              have hjx : j < xs.length := by have := HX.out.1; have := HKN.out; have := HJ.out.1; omega
              have hOF : Sep w [OfT (.slice a1 n c1) xs] wr := Sep.pick hs [4] rfl
              obtain ⟨gx, rfl, -, hcell, -⟩ := hOF.ofLoad j hjx
              obtain ⟨za, zn, hzv⟩ := hOF.ofVs (List.getElem_mem hjx)
              have hxp : xs[j].pr = (gO 4 50 ls j).pr := by
                have := pr_at HX.out.2 j hjx (by rw [grp_len]; have := HX.out.1; omega)
                rwa [grp_get] at this
              have hxm : xs[j].ps.length = m := by rw [pr_len hxp, HJ.out.2.2]
              have HXS := Lib.hid (show qs.map (·.1) = xs[j].ps.map (·.1) by rw [HQS.out, HJ.out.2.1, (pr_parts hxp).2.2.2.2])
              have HEN2 := Lib.hid (fun wx (hx : Sep w [OfT (.slice (some ⟨gx, 0, none⟩) n c1) xs] wx) => hx.ofEn (List.getElem_mem hjx))
              obtain ⟨⟨zf, zl, zb, zc, zv, zp⟩, hz⟩ : ∃ z, z = xs[j] := ⟨_, rfl⟩
              rw [← hz] at hzv hxm HXS HEN2 hcell
              dsimp only at hzv hxm HXS HEN2
              subst hzv
              rw [hxm] at HEN2 hcell
              have c2' := hcell 2 (.int .i64 zb) rfl
              have c3' := hcell 3 (.slice none 0 0) rfl
              have c4' := hcell 4 (.slice za m zn) rfl
              have c5' := hcell 5 (.int .i64 zc) rfl
              have hld := run_loadAt_mid (P := Tryd.prog) wr gx (j * 6 + 2) 31 [.int .i64 zb, .slice none 0 0, .slice za m zn, .int .i64 zc] _ (fun jj v hv => by
                match jj, hv with
                | 0, hv => obtain rfl : _ = v := Option.some.inj hv; exact c2'
                | 1, hv => obtain rfl : _ = v := Option.some.inj hv; exact c3'
                | 2, hv => obtain rfl : _ = v := Option.some.inj hv; exact c4'
                | 3, hv => obtain rfl : _ = v := Option.some.inj hv; exact c5'
                | jj + 4, hv => simp at hv) Tryd.underlying31 rfl (by kernel_rfl)
              have HLD := Lib.hid hld
              have g0 := hs.cell (o := 0) (x := .int .i64 j) rfl
              have h10 := hs.alloc (.cells #[.int .i64 0, .slice none 0 0, .slice none 0 0, .int .i64 0] 31)
              obtain ⟨b6, hb6⟩ : ∃ q, q = wr.heap.size := ⟨_, rfl⟩
              obtain ⟨v7, hv7⟩ : ∃ q, q = wr.alloc (.cells #[.int .i64 0, .slice none 0 0, .slice none 0 0, .int .i64 0] 31) := ⟨_, rfl⟩
              rw [← hb6, ← hv7] at h10
              have HT := Lib.hid (Sep.thereAt h10 0 4 (Nat.le_refl 4))
              have h11 := Sep.storeW h10 #[.int .i64 zb, .slice none 0 0, .slice za m zn, .int .i64 zc] rfl
              obtain ⟨v8, hv8⟩ : ∃ q, q = v7.setCells b6 0 (#[.int .i64 zb, .slice none 0 0, .slice za m zn, .int .i64 zc] : Array Value).toList := ⟨_, rfl⟩
              rw [← hv8] at h11
              have H11 := Lib.hid h11
              have g62 := h11.cell (o := 2) (x := .slice za m zn) rfl
              have hXM := Lib.hid (And.intro hxm (show m = qs.length by have := congrArg List.length HXS.out; simp at this; omega))
              have HJK := Lib.hid HJ.out.1
              clear hs hOF hcell hxp hz hjx c2' c3' c4' c5' hld h10 h11 ht htk hxm HBE HJ
              (try dsimp only); repeat' (first | (with_reducible show wpList _ _ _ (Oper.mk _ (Op.load 31 _) _ _ _ _ :: _) _ _; refine stopP ?_) | go_values | go_skip | go_guarded | go_step | go_upon | go_back)
              unfold StopP
              have hq_ := HLD.out
              refine wpList_load_run rfl 31 _ rfl _ _ rfl hq_ ?_
              clear hq_ HLD g0
              (try dsimp only); repeat' (first | (with_reducible show wpList _ _ _ (Oper.mk _ (Op.store 31 _ _) _ _ _ _ :: _) _ _; refine stopP ?_) | go_values | go_skip | go_guarded | go_step | go_upon | go_back)
              unfold StopP
              rw [← hv7, ← hb6]
              clear hv7 hb6
              refine wpList_store_mid rfl 31 (.tmp 18) (.tmp 136) rfl b6 0 #[.int .i64 zb, .slice none 0 0, .slice za m zn, .int .i64 zc] rfl rfl HT.out (by kernel_rfl) (by kernel_rfl) ?_
              rw [← hv8]
              clear HT hv8
              rcases HCS.out with ⟨hlt, rfl⟩ | ⟨hlt, rfl, rfl, rfl, rfl, rfl, rfl⟩
              · as_aux_lemma =>
                  have d2 : decide ((m : Int) < C) = true := decide_eq_true hlt
                  have HW := Lib.hid (works18_any H11.out HK.out)
                  (try dsimp only); repeat' (first | go_values | go_skip | go_guarded | go_step | go_upon | go_back)
                  refine HW.out.mono ?_
                  rintro r0 w9 ⟨rfl, h12⟩
                  have HFN := Lib.hid h12.low
                  clear HW h12 H11
                  (try dsimp only); repeat' (first | go_values | go_skip | go_guarded | go_step | go_upon | go_back)
                  go_ret
                  exact ⟨rfl, HFN.out⟩
              · as_aux_lemma =>
                  have d2 : decide ((m : Int) < C) = false := decide_eq_false hlt
                  have g50 := H11.out.sw2.cell (o := 0) (x := .int .i64 j) rfl
                  have hb4' : Sep w [Cl b4 #[.int .i64 0, .slice none 0 0, .slice a2 m c2, .int .i64 C] 31] v8 := Sep.pick H11.out [3] rfl
                  have g42 := hb4'.cell (o := 2) (x := .slice a2 m c2) rfl
                  have g43 := hb4'.cell (o := 3) (x := .int .i64 C) rfl
                  have H12 := Lib.hid (Sep.pick H11.out [0, 3, 4, 5] rfl : Sep w [Cl b6 #[.int .i64 zb, .slice none 0 0, .slice za m zn, .int .i64 zc] 31, Cl b4 #[.int .i64 0, .slice none 0 0, .slice a2 m c2, .int .i64 C] 31, EnT (.slice a2 m c2) qs, OfT (.slice (some ⟨gx, 0, none⟩) n c1) xs] v8)
                  clear hb4' H11
                  (try dsimp only); repeat' (first | go_values | go_skip | go_guarded | go_step | go_upon | go_back)
                  clear g50 g42 g43 g62
                  go_loopw [19] (fun iv wr => ∃ k : Nat, k ≤ m ∧ iv = .int .i64 k ∧ Sep w [Cl b6 #[.int .i64 zb, .slice none 0 0, .slice za m zn, .int .i64 zc] 31, Cl b4 #[.int .i64 0, .slice none 0 0, .slice a2 m c2, .int .i64 C] 31, EnT (.slice a2 m c2) qs, OfT (.slice (some ⟨gx, 0, none⟩) n c1) xs] wr) (fun iv _ => m - (intOf iv).toNat)
                  case atStart => exact ⟨0, by omega, rfl, H12.out⟩
                  case round =>
                    obtain ⟨k, hkm, rfl, hs⟩ := hrel
                    clear H12
                    have k0 : (0 : Int) ≤ (k : Int) := by omega
                    have g62 := hs.cell (o := 2) (x := .slice za m zn) rfl
                    by_cases hk2 : k < m
                    · have e1 : decide (k < m) = true := decide_eq_true hk2
                      have e1' : decide ((k : Int) < (m : Int)) = true := decide_eq_true (by omega)
                      have k1 : (k : Int) < (m : Int) := by omega
                      have g42 := hs.sw2.cell (o := 2) (x := .slice a2 m c2) rfl
                      have hkx : k < qs.length := by have := hXM.out.2; omega
                      have hky : k < zp.length := by have := hXM.out.1; omega
                      have hxy : zp[k].1 = qs[k].1 := by
                        have h9 : (zp.map (·.1))[k]? = (qs.map (·.1))[k]? := by rw [HXS.out]
                        simpa [hkx, hky] using h9
                      obtain ⟨bx, off, rfl, -, -, -, ⟨e0, e1_, e2, e3, e4, e5, e6⟩, hlx⟩ := (Sep.enS (Sep.pick hs [2] rfl : Sep w [EnT (.slice a2 m c2) qs] wr)).at hkx
                      obtain ⟨by_, oy, rfl, -, -, -, ⟨d0_, d1_, d2_, d3, d4, d5, d6⟩, hly⟩ := (HEN2.out _ (Sep.pick hs [3] rfl)).at hky
                      rw [hxy] at d0_ d1_ d2_ d3 d4 d5 hly
                      generalize zp[k].2 = u at *
                      obtain ⟨⟨x, v⟩, hxv⟩ : ∃ z, z = qs[k] := ⟨_, rfl⟩
                      rw [← hxv] at e0 e1_ e2 e3 e4 e5 e6 hlx d0_ d1_ d2_ d3 d4 d5 hly
                      dsimp only at e0 e1_ e2 e3 e4 e5 e6 hlx d0_ d1_ d2_ d3 d4 d5 d6 hly
                      obtain ⟨vp, cp, rfl⟩ := hlx.len
                      obtain ⟨vq, cq, rfl⟩ := hly.len
                      have hsm := esame_any x x (.slice vp x.p.ls.length cp) (.slice vq x.p.ls.length cq) hs.drew hlx hly (lns_maxl hlx)
                      rw [show enSame x x = true by unfold enSame sameB; simp] at hsm
                      have HS := Lib.hid hsm
                      unfold enV at HS
                      have HKM := Lib.hid hk2
                      clear hs hlx hly hxv hxy hkx hky hkm hk2 hsm
                      (try dsimp only); repeat' (first | go_values | go_skip | go_guarded | go_step | go_upon | go_back)
                      refine wp_region_G (fun w' => w'.cell? ⟨b4, 2, none⟩ = some (.slice (some ⟨bx, off, none⟩) m c2) ∧ w'.cell? ⟨b6, 2, none⟩ = some (.slice (some ⟨by_, oy, none⟩) m zn) ∧ w'.cell? ⟨bx, off + k * 7, none⟩ = some (.int .i64 x.c) ∧ w'.cell? ⟨bx, off + k * 7 + 1, none⟩ = some (.int .i64 x.m) ∧ w'.cell? ⟨bx, off + k * 7 + 2, none⟩ = some (.int .i64 x.p.k) ∧ w'.cell? ⟨bx, off + k * 7 + 3, none⟩ = some (.string x.p.s.1) ∧ w'.cell? ⟨bx, off + k * 7 + 4, none⟩ = some (.int .i64 x.p.o) ∧ w'.cell? ⟨bx, off + k * 7 + 5, none⟩ = some (.int .i64 x.p.n) ∧ w'.cell? ⟨bx, off + k * 7 + 6, none⟩ = some (.slice vp x.p.ls.length cp) ∧ w'.cell? ⟨by_, oy + k * 7, none⟩ = some (.int .i64 x.c) ∧ w'.cell? ⟨by_, oy + k * 7 + 1, none⟩ = some (.int .i64 x.m) ∧ w'.cell? ⟨by_, oy + k * 7 + 2, none⟩ = some (.int .i64 x.p.k) ∧ w'.cell? ⟨by_, oy + k * 7 + 3, none⟩ = some (.string x.p.s.1) ∧ w'.cell? ⟨by_, oy + k * 7 + 4, none⟩ = some (.int .i64 x.p.o) ∧ w'.cell? ⟨by_, oy + k * 7 + 5, none⟩ = some (.int .i64 x.p.n) ∧ w'.cell? ⟨by_, oy + k * 7 + 6, none⟩ = some (.slice vq x.p.ls.length cq)) [10, 11] (by kernel_rfl) ⟨g42, g62, e0, e1_, e2, e3, e4, e5, e6, d0_, d1_, d2_, d3, d4, d5, d6⟩ (fun hS => ?_)
                      try dsimp only at hS
                      refine wpAnyG_take' (i := 0) (v := ?v0_1co) rfl (by kernel_rfl) (by kernel_rfl) (by kernel_rfl) (by kernel_rfl) (fun _ _ _ h => h) (Or.inl ⟨by rfl, ?hy0_1co⟩) hS ?rest0_1co
                      case hy0_1co => intro w hSw; (try dsimp only at hSw); go_simp; (try with_reducible rfl)
                      case rest0_1co =>
                      try simp only [List.getElem_toArray, List.getElem_cons_succ, List.getElem_cons_zero, Act.put, List.setIfInBounds_toArray, List.set_cons_zero, List.set_cons_succ]
                      refine wpAnyG_take' (i := 1) (v := ?v1_2co) rfl (by kernel_rfl) (by kernel_rfl) (by kernel_rfl) (by kernel_rfl) (fun _ _ _ h => h) (Or.inl ⟨by rfl, ?hy1_2co⟩) hS ?rest1_2co
                      case hy1_2co => intro w hSw; (try dsimp only at hSw); go_simp; (try with_reducible rfl)
                      case rest1_2co =>
                      try simp only [List.getElem_toArray, List.getElem_cons_succ, List.getElem_cons_zero, Act.put, List.setIfInBounds_toArray, List.set_cons_zero, List.set_cons_succ]
                      refine wpAnyG_take' (i := 2) (v := ?v2_3co) rfl (by kernel_rfl) (by kernel_rfl) (by kernel_rfl) (by kernel_rfl) (fun _ _ _ h => h) (Or.inl ⟨by rfl, ?hy2_3co⟩) hS ?rest2_3co
                      case hy2_3co => intro w hSw; (try dsimp only at hSw); go_simp; (try with_reducible rfl)
                      case rest2_3co =>
                      try simp only [List.getElem_toArray, List.getElem_cons_succ, List.getElem_cons_zero, Act.put, List.setIfInBounds_toArray, List.set_cons_zero, List.set_cons_succ]
                      refine wpAnyG_take' (i := 3) (v := ?v3_4co) rfl (by kernel_rfl) (by kernel_rfl) (by kernel_rfl) (by kernel_rfl) (fun _ _ _ h => h) (Or.inl ⟨by rfl, ?hy3_4co⟩) hS ?rest3_4co
                      case hy3_4co => intro w hSw; (try dsimp only at hSw); go_simp; (try with_reducible rfl)
                      case rest3_4co =>
                      try simp only [List.getElem_toArray, List.getElem_cons_succ, List.getElem_cons_zero, Act.put, List.setIfInBounds_toArray, List.set_cons_zero, List.set_cons_succ]
                      refine wpAnyG_take' (i := 4) (v := ?v4_5co) rfl (by kernel_rfl) (by kernel_rfl) (by kernel_rfl) (by kernel_rfl) (fun _ _ _ h => h) (Or.inl ⟨by rfl, ?hy4_5co⟩) hS ?rest4_5co
                      case hy4_5co => intro w hSw; (try dsimp only at hSw); go_simp; (try with_reducible rfl)
                      case rest4_5co =>
                      try simp only [List.getElem_toArray, List.getElem_cons_succ, List.getElem_cons_zero, Act.put, List.setIfInBounds_toArray, List.set_cons_zero, List.set_cons_succ]
                      refine wpAnyG_take' (i := 5) (v := ?v5_6co) rfl (by kernel_rfl) (by kernel_rfl) (by kernel_rfl) (by kernel_rfl) (fun _ _ _ h => h) (Or.inl ⟨by rfl, ?hy5_6co⟩) hS ?rest5_6co
                      case hy5_6co => intro w hSw; (try dsimp only at hSw); go_simp; (try with_reducible rfl)
                      case rest5_6co =>
                      try simp only [List.getElem_toArray, List.getElem_cons_succ, List.getElem_cons_zero, Act.put, List.setIfInBounds_toArray, List.set_cons_zero, List.set_cons_succ]
                      refine wpAnyG_take' (i := 6) (v := ?v6_7co) rfl (by kernel_rfl) (by kernel_rfl) (by kernel_rfl) (by kernel_rfl) (fun _ _ _ h => h) (Or.inl ⟨by rfl, ?hy6_7co⟩) hS ?rest6_7co
                      case hy6_7co => intro w hSw; (try dsimp only at hSw); go_simp; (try with_reducible rfl)
                      case rest6_7co =>
                      try simp only [List.getElem_toArray, List.getElem_cons_succ, List.getElem_cons_zero, Act.put, List.setIfInBounds_toArray, List.set_cons_zero, List.set_cons_succ]
                      refine wpAnyG_take' (i := 7) (v := ?v7_8co) rfl (by kernel_rfl) (by kernel_rfl) (by kernel_rfl) (by kernel_rfl) (fun _ _ _ h => h) (Or.inl ⟨by rfl, ?hy7_8co⟩) hS ?rest7_8co
                      case hy7_8co => intro w hSw; (try dsimp only at hSw); go_simp; (try with_reducible rfl)
                      case rest7_8co =>
                      try simp only [List.getElem_toArray, List.getElem_cons_succ, List.getElem_cons_zero, Act.put, List.setIfInBounds_toArray, List.set_cons_zero, List.set_cons_succ]
                      refine wpAnyG_take' (i := 8) (v := ?v8_9co) rfl (by kernel_rfl) (by kernel_rfl) (by kernel_rfl) (by kernel_rfl) (fun _ _ _ h => h) (Or.inl ⟨by rfl, ?hy8_9co⟩) hS ?rest8_9co
                      case hy8_9co => intro w hSw; (try dsimp only at hSw); go_simp; (try with_reducible rfl)
                      case rest8_9co =>
                      try simp only [List.getElem_toArray, List.getElem_cons_succ, List.getElem_cons_zero, Act.put, List.setIfInBounds_toArray, List.set_cons_zero, List.set_cons_succ]
                      refine wpAnyG_take' (i := 9) (v := ?v9_10co) rfl (by kernel_rfl) (by kernel_rfl) (by kernel_rfl) (by kernel_rfl) (fun _ _ _ h => h) (Or.inl ⟨by rfl, ?hy9_10co⟩) hS ?rest9_10co
                      case hy9_10co => intro w hSw; (try dsimp only at hSw); go_simp; (try with_reducible rfl)
                      case rest9_10co =>
                      try simp only [List.getElem_toArray, List.getElem_cons_succ, List.getElem_cons_zero, Act.put, List.setIfInBounds_toArray, List.set_cons_zero, List.set_cons_succ]
                      refine wpAnyG_one (i := 10) (by kernel_rfl) rfl (fun K hK => ?_)
                      go_simp
                      refine Calls.mono HS.out ?_
                      rintro r8 w8 ⟨rfl, h6⟩
                      clear e0 e1_ e2 e3 e4 e5 e6 d0_ d1_ d2_ d3 d4 d5 d6 HS
                      have H6 := Lib.hid h6
                      clear h6
                      (try dsimp only); repeat' (first | go_values | go_skip | go_guarded | go_step | go_upon | go_back)
                      refine hK.out _ _ (fun hno => by cases hno) ?_
                      clear K hK
                      try simp only [List.getElem_toArray, List.getElem_cons_succ, List.getElem_cons_zero, Act.put, List.setIfInBounds_toArray, List.set_cons_zero, List.set_cons_succ]
                      refine wpAnyG_one (i := 11) (by kernel_rfl) rfl (fun K hK => ?_)
                      go_simp
                      refine hK.out _ _ (fun hno => by cases hno) ?_
                      clear K hK
                      try simp only [List.getElem_toArray, List.getElem_cons_succ, List.getElem_cons_zero, Act.put, List.setIfInBounds_toArray, List.set_cons_zero, List.set_cons_succ]
                      refine wpAnyG_done (by kernel_rfl) ?_ _
                      try simp only [List.getElem_toArray, List.getElem_cons_succ, List.getElem_cons_zero, Act.put, List.setIfInBounds_toArray, List.set_cons_zero, List.set_cons_succ]
                      (try dsimp only); repeat' (first | go_values | go_skip | go_guarded | go_step | go_upon | go_back)
                      go_roundw
                      case rel => exact ⟨k + 1, HKM.out, by go_num, H6.out⟩
                      case measure => have := HKM.out; simp [intOf]; omega
                    · have e1 : decide (k < m) = false := decide_eq_false hk2
                      have e1' : decide ((k : Int) < (m : Int)) = false := decide_eq_false (by omega)
                      have HW := Lib.hid (works18_any hs HK.out)
                      clear hs hkm hk2
                      (try dsimp only); repeat' (first | go_values | go_skip | go_guarded | go_step | go_upon | go_back)
                      refine HW.out.mono ?_
                      rintro r0 w9 ⟨rfl, h12⟩
                      have HFN := Lib.hid h12.low
                      clear HW h12
                      (try dsimp only); repeat' (first | go_values | go_skip | go_guarded | go_step | go_upon | go_back)
                      go_ret
                      exact ⟨rfl, HFN.out⟩
  · as_aux_lemma =>
      have HCH := Lib.hid (oChooseFewL (grp 4 50 ls k) H3.out HY.out HNQ.out.2.2.1 (by rw [hcl]; exact hfew))
      clear H3
      refine HCH.out.mono ?_
      rintro r0 w4 ⟨rfl, h4⟩
      clear HCH
      have h5 := h4.alloc (.cells #[.int .i64 0, .slice none 0 0, .slice none 0 0, .int .i64 0] 31)
      obtain ⟨b4, hb4⟩ : ∃ q, q = w4.heap.size := ⟨_, rfl⟩
      obtain ⟨v4, hv4⟩ : ∃ q, q = w4.alloc (.cells #[.int .i64 0, .slice none 0 0, .slice none 0 0, .int .i64 0] 31) := ⟨_, rfl⟩
      rw [← hb4, ← hv4] at h5
      have HT := Lib.hid (Sep.thereAt h5 0 4 (Nat.le_refl 4))
      have h6 := Sep.storeW h5 #[.int .i64 0, .slice none 0 0, .slice none 0 0, .int .i64 0] rfl
      have c2 := h6.cell (o := 2) (x := .slice none 0 0) rfl
      have HF := Lib.hid (fun wx => enough_any n wx ⟨by have := HNQ.out.2.2.1; omega, by have := HNQ.out.2.2.1; omega⟩)
      have H6 := Lib.hid h6
      have d1 : decide ((k : Int) < enough n) = true := decide_eq_true (by omega)
      have HW := Lib.hid (works18_any h6 HK.out)
      clear h4 h5 h6 hcl hBL hby hfew
      (try dsimp only); repeat' (first | (with_reducible show wpList _ _ _ (Oper.mk _ (Op.store 31 _ _) _ _ _ _ :: _) _ _; refine stopP ?_) | go_values | go_skip | go_guarded | go_step | go_upon | go_back)
      unfold StopP
      rw [← hv4, ← hb4]
      clear hv4 hb4
      refine wpList_store_mid rfl 31 (.tmp 10) (.tmp 41) rfl b4 0 #[.int .i64 0, .slice none 0 0, .slice none 0 0, .int .i64 0] rfl rfl HT.out (by kernel_rfl) (by kernel_rfl) ?_
      (try dsimp only); repeat' (first | go_values | go_skip | go_guarded | go_step | go_upon | go_back)
      refine (HF.out _).mono ?_
      rintro r0 w5 ⟨rfl, rfl⟩
      (try dsimp only); repeat' (first | go_values | go_skip | go_guarded | go_step | go_upon | go_back)
      refine HW.out.mono ?_
      rintro r0 w6 ⟨rfl, h7⟩
      have HFN := Lib.hid h7.low
      clear HW h7 H6
      (try dsimp only); repeat' (first | go_values | go_skip | go_guarded | go_step | go_upon | go_back)
      go_ret
      exact ⟨rfl, HFN.out⟩
end Go.Proofs.YthgndegjiodopaaDoor
