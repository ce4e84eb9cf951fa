/- The document's pipe: Get, Agree. -/
import Derived.Test.YtpknfeokfladkaaDoorPipe15
namespace Go.Proofs.YtpknfeokfladkaaDoor
open Go.RowKit
set_option linter.unusedVariables false
set_option linter.unusedSimpArgs false
theorem ragree_far {w : World} {g n c : Nat} {b : Int} {a : Option Addr} {u : Value} (q : Int) (hq : 9007199254740991 < q) (c0 : w.cell? ⟨g, 0, none⟩ = some (.int .i64 b)) (c1 : w.cell? ⟨g, 1, none⟩ = some (.slice a n c)) (h0 : 0 ≤ b) (h1 : b ≤ 4611686018427380000) (hl : n ≤ 1000000) :
    Calls Tryd.prog 21 #[.pointer (some ⟨g, 0, none⟩), .int .i64 q, u] w fun e w' => e = .returned (.int .i64 (b + n)) ∧ ∃ k, w' = w.drewN k := by
  have HT := Lib.hid (rtop_c c0 c1 h0 (by omega) hl)
  have hd : decide (9007199254740991 < q) = true := decide_eq_true hq
  have hm : (if q < 0 then (0 : Int) else q) = q := if_neg (by omega)
  clear h0 h1 hl hq
  go_enter Tryd.func21, Tryd.ntmps21
  go_wp2_with fail
  refine HT.out.mono ?_
  rintro r0 w1 ⟨rfl, k, rfl⟩
  clear HT
  go_wp2_with fail
  go_ret
  exact ⟨rfl, k, rfl⟩
set_option maxRecDepth 100000 in
set_option maxHeartbeats 16000000 in
theorem ragree_near {w0 w : World} {g : Nat} {b : Int} {ps : List (EnM × Value)} {L : List Thing} (q : Int) (ca : Option Addr) (cc : Nat) (xs : List (EnM × Value)) (h : Sep w0 (DocT g b ps :: L) w) (hv : ∀ wx, Sep w0 L wx → EnS wx (.slice ca xs.length cc) xs)
    (h0 : 0 ≤ b) (h1 : b ≤ 4611686018427380000) (hl : ps.length ≤ 1000000) (hq : ¬ 9007199254740991 < q) :
    Calls Tryd.prog 21 #[.pointer (some ⟨g, 0, none⟩), .int .i64 q, .slice ca xs.length cc] w fun e w' => e = .returned (.int .i64 (agrV b (ps.map (·.1)) q (xs.map (·.1)))) ∧ Sep w0 (DocT g b ps :: L) w' := by
  obtain ⟨pv, h2⟩ := h.docOpen
  obtain ⟨pa, pc, rfl, hpc, -⟩ := h2.sw2.enForm
  unfold agrV
  rw [if_neg hq, List.length_map, List.length_map]
  dsimp only
  have hcc : xs.length ≤ cc := by
    rcases hv _ h.drop with ⟨a, c, he, rfl⟩ | ⟨bb, off, c, he, h3, -⟩
    · exact Nat.zero_le _
    · simp only [Value.slice.injEq] at he; rw [he.2.2]; exact h3
  obtain ⟨a, ha⟩ : ∃ z, z = (if q < 0 then (0 : Int) else q) := ⟨_, rfl⟩
  have ha2 : 0 ≤ a ∧ a ≤ 9007199254740991 := by rw [ha]; split <;> omega
  obtain ⟨m, hm1, hm2, hm, hm4⟩ := min_len xs.length 1000
  have hmm : min xs.length 1000 = m := by omega
  have hmt : ((xs.map (·.1)).take 1000).length = m := by rw [List.length_take, List.length_map]; omega
  rw [← ha, hmm]
  obtain ⟨f, hf⟩ : ∃ z, z = (if b < a then a else b) := ⟨_, rfl⟩
  have hf2 : b ≤ f ∧ a ≤ f ∧ (f = a ∨ f = b) := by rw [hf]; split <;> omega
  obtain ⟨s, hs⟩ : ∃ z, z = a + (m : Int) := ⟨_, rfl⟩
  rw [← hf, ← hs]
  obtain ⟨tp, htp⟩ : ∃ z, z = b + (ps.length : Int) := ⟨_, rfl⟩
  rw [← htp]
  obtain ⟨t, ht⟩ : ∃ z, z = (if s < tp then s else tp) := ⟨_, rfl⟩
  have ht2 : t ≤ s ∧ t ≤ tp ∧ (t = s ∨ t = tp) := by rw [ht]; split <;> omega
  rw [← ht]
  obtain ⟨R, hR⟩ : ∃ z, z = (if t ≤ f then t else f + ((sameN ((ps.map (·.1)).drop (f - b).toNat) (((xs.map (·.1)).take 1000).drop (f - a).toNat) : Nat) : Int)) := ⟨_, rfl⟩
  rw [← hR]
  have HR0 := Lib.hid hR
  clear hR
  have hT := fun k => rtop_c (cells2 (h2.drewN k)).1 (cells2 (h2.drewN k)).2 h0 (by omega) hl
  rw [← htp] at hT
  have HT := Lib.hid hT
  have HV := Lib.hid hv
  have H2 := Lib.hid h2
  have hd : decide (9007199254740991 < a) = false := decide_eq_false (by omega)
  have ws : IntKind.i64.wrap (a + (m : Int)) = s := by rw [← hs]; exact IntWalk.i64_in _ (by omega)
  rw [show ((1000 : Nat) : Int) = 1000 from rfl] at hm
  have m0 : (0 : Int) ≤ (m : Int) := by omega
  have m1 : (m : Int) ≤ (cc : Int) := by omega
  replace ha := ha.symm
  replace hf := hf.symm
  replace ht := ht.symm
  have HW := Lib.hid (And.intro ha2 (And.intro hf2 (And.intro ht2 (And.intro hmt (And.intro h1 (And.intro hl (And.intro h0 (And.intro hs (And.intro htp (And.intro hm1 hm2))))))))))
  have HPC := Lib.hid hpc
  obtain ⟨n, hn⟩ : ∃ n, n = xs.length := ⟨_, rfl⟩
  rw [← hn] at hm HV ⊢
  have HXN := Lib.hid hn
  clear h h2 hv h0 h1 hl hq hT hpc hcc ha2 hf2 ht2 hs htp hmt hmm hm1 hm2 hm4 hn
  go_enter Tryd.func21, Tryd.ntmps21
  obtain ⟨c1, c2⟩ := cells2 H2.out
  go_wp2_with fail
  refine wp_region_G (fun w' => w'.cell? ⟨g, 0, none⟩ = some (.int .i64 b)) [] (by kernel_rfl) c1 (fun hS => ?_)
  try dsimp only at hS
  refine wpAnyG_take' (i := 0) (v := ?v0_1r7) rfl (by kernel_rfl) (by kernel_rfl) (by kernel_rfl) (by kernel_rfl) (fun _ _ _ h => h) (Or.inl ⟨by rfl, ?hy0_1r7⟩) hS ?rest0_1r7
  case hy0_1r7 => intro w hSw; (try dsimp only at hSw); go_simp; (try with_reducible rfl)
  case rest0_1r7 =>
  try simp only [List.getElem_toArray, List.getElem_cons_succ, List.getElem_cons_zero, Act.put, List.setIfInBounds_toArray, List.set_cons_zero, List.set_cons_succ]
  refine wpAnyG_take' (i := 1) (v := ?v1_2r7) rfl (by kernel_rfl) (by kernel_rfl) (by kernel_rfl) (by kernel_rfl) (fun _ _ _ h => h) (Or.inl ⟨by rfl, ?hy1_2r7⟩) hS ?rest1_2r7
  case hy1_2r7 => intro w hSw; (try dsimp only at hSw); go_simp; (try with_reducible rfl)
  case rest1_2r7 =>
  try simp only [List.getElem_toArray, List.getElem_cons_succ, List.getElem_cons_zero, Act.put, List.setIfInBounds_toArray, List.set_cons_zero, List.set_cons_succ]
  refine wpAnyG_take' (i := 2) (v := ?v2_3r7) rfl (by kernel_rfl) (by kernel_rfl) (by kernel_rfl) (by kernel_rfl) (fun _ _ _ h => h) (Or.inl ⟨by rfl, ?hy2_3r7⟩) hS ?rest2_3r7
  case hy2_3r7 => intro w hSw; (try dsimp only at hSw); go_simp; (try with_reducible rfl)
  case rest2_3r7 =>
  try simp only [List.getElem_toArray, List.getElem_cons_succ, List.getElem_cons_zero, Act.put, List.setIfInBounds_toArray, List.set_cons_zero, List.set_cons_succ]
  refine wpAnyG_take' (i := 3) (v := ?v3_4r7) rfl (by kernel_rfl) (by kernel_rfl) (by kernel_rfl) (by kernel_rfl) (fun _ _ _ h => h) (Or.inl ⟨by rfl, ?hy3_4r7⟩) hS ?rest3_4r7
  case hy3_4r7 => intro w hSw; (try dsimp only at hSw); go_simp; (try with_reducible rfl)
  case rest3_4r7 =>
  try simp only [List.getElem_toArray, List.getElem_cons_succ, List.getElem_cons_zero, Act.put, List.setIfInBounds_toArray, List.set_cons_zero, List.set_cons_succ]
  refine wpAnyG_take' (i := 4) (v := ?v4_5r7) rfl (by kernel_rfl) (by kernel_rfl) (by kernel_rfl) (by kernel_rfl) (fun _ _ _ h => h) (Or.inl ⟨by rfl, ?hy4_5r7⟩) hS ?rest4_5r7
  case hy4_5r7 => intro w hSw; (try dsimp only at hSw); go_simp; (try with_reducible rfl)
  case rest4_5r7 =>
  try simp only [List.getElem_toArray, List.getElem_cons_succ, List.getElem_cons_zero, Act.put, List.setIfInBounds_toArray, List.set_cons_zero, List.set_cons_succ]
  refine wpAnyG_take' (i := 5) (v := ?v5_6r7) rfl (by kernel_rfl) (by kernel_rfl) (by kernel_rfl) (by kernel_rfl) (fun _ _ _ h => h) (Or.inl ⟨by rfl, ?hy5_6r7⟩) hS ?rest5_6r7
  case hy5_6r7 => intro w hSw; (try dsimp only at hSw); go_simp; (try with_reducible rfl)
  case rest5_6r7 =>
  try simp only [List.getElem_toArray, List.getElem_cons_succ, List.getElem_cons_zero, Act.put, List.setIfInBounds_toArray, List.set_cons_zero, List.set_cons_succ]
  refine wpAnyG_take' (i := 6) (v := ?v6_7r7) rfl (by kernel_rfl) (by kernel_rfl) (by kernel_rfl) (by kernel_rfl) (fun _ _ _ h => h) (Or.inl ⟨by rfl, ?hy6_7r7⟩) hS ?rest6_7r7
  case hy6_7r7 => intro w hSw; (try dsimp only at hSw); go_simp; (try with_reducible rfl)
  case rest6_7r7 =>
  try simp only [List.getElem_toArray, List.getElem_cons_succ, List.getElem_cons_zero, Act.put, List.setIfInBounds_toArray, List.set_cons_zero, List.set_cons_succ]
  refine wpAnyG_take' (i := 8) (v := ?v8_8r7) rfl (by kernel_rfl) (by kernel_rfl) (by kernel_rfl) (by kernel_rfl) (fun _ _ _ h => h) (Or.inl ⟨by rfl, ?hy8_8r7⟩) hS ?rest8_8r7
  case hy8_8r7 => intro w hSw; (try dsimp only at hSw); go_simp; (try with_reducible rfl)
  case rest8_8r7 =>
  try simp only [List.getElem_toArray, List.getElem_cons_succ, List.getElem_cons_zero, Act.put, List.setIfInBounds_toArray, List.set_cons_zero, List.set_cons_succ]
  refine wpAnyG_take' (i := 9) (v := ?v9_9r7) rfl (by kernel_rfl) (by kernel_rfl) (by kernel_rfl) (by kernel_rfl) (fun _ _ _ h => h) (Or.inl ⟨by rfl, ?hy9_9r7⟩) hS ?rest9_9r7
  case hy9_9r7 => intro w hSw; (try dsimp only at hSw); go_simp; (try with_reducible rfl)
  case rest9_9r7 =>
  try simp only [List.getElem_toArray, List.getElem_cons_succ, List.getElem_cons_zero, Act.put, List.setIfInBounds_toArray, List.set_cons_zero, List.set_cons_succ]
  refine wpAnyG_take' (i := 10) (v := ?v10_10r7) rfl (by kernel_rfl) (by kernel_rfl) (by kernel_rfl) (by kernel_rfl) (fun _ _ _ h => h) (Or.inl ⟨by rfl, ?hy10_10r7⟩) hS ?rest10_10r7
  case hy10_10r7 => intro w hSw; (try dsimp only at hSw); go_simp; (try with_reducible rfl)
  case rest10_10r7 =>
  try simp only [List.getElem_toArray, List.getElem_cons_succ, List.getElem_cons_zero, Act.put, List.setIfInBounds_toArray, List.set_cons_zero, List.set_cons_succ]
  refine wpAnyG_take' (i := 11) (v := ?v11_11r7) rfl (by kernel_rfl) (by kernel_rfl) (by kernel_rfl) (by kernel_rfl) (fun _ _ _ h => h) (Or.inl ⟨by rfl, ?hy11_11r7⟩) hS ?rest11_11r7
  case hy11_11r7 => intro w hSw; (try dsimp only at hSw); go_simp; (try with_reducible rfl)
  case rest11_11r7 =>
  try simp only [List.getElem_toArray, List.getElem_cons_succ, List.getElem_cons_zero, Act.put, List.setIfInBounds_toArray, List.set_cons_zero, List.set_cons_succ]
  refine wpAnyG_one (i := 7) (by kernel_rfl) rfl (fun K hK => ?_)
  go_simp
  refine Calls.mono (HT.out 1) ?_
  rintro r7 w7 ⟨rfl, k1, rfl⟩
  clear HT
  go_wp2_with fail
  refine hK.out _ _ (fun _ => ?hS12r7) ?rest12r7
  case hS12r7 => exact c1
  clear K hK
  try simp only [List.getElem_toArray, List.getElem_cons_succ, List.getElem_cons_zero, Act.put, List.setIfInBounds_toArray, List.set_cons_zero, List.set_cons_succ]
  refine wpAnyG_take' (i := 12) (v := ?v12_13r7) rfl (by kernel_rfl) (by kernel_rfl) (by kernel_rfl) (by kernel_rfl) (fun _ _ _ h => h) (Or.inl ⟨by rfl, ?hy12_13r7⟩) c1 ?rest12_13r7
  case hy12_13r7 => intro w hSw; (try dsimp only at hSw); go_simp; (try with_reducible rfl)
  case rest12_13r7 =>
  try simp only [List.getElem_toArray, List.getElem_cons_succ, List.getElem_cons_zero, Act.put, List.setIfInBounds_toArray, List.set_cons_zero, List.set_cons_succ]
  refine wpAnyG_one (i := 13) (by kernel_rfl) rfl (fun K hK => ?_)
  go_simp
  refine hK.out _ _ (fun _ => ?hS14r7) ?rest14r7
  case hS14r7 => exact c1
  clear K hK
  try simp only [List.getElem_toArray, List.getElem_cons_succ, List.getElem_cons_zero, Act.put, List.setIfInBounds_toArray, List.set_cons_zero, List.set_cons_succ]
  refine wpAnyG_one (i := 14) (by kernel_rfl) rfl (fun K hK => ?_)
  go_simp
  refine hK.out _ _ (fun _ => ?hS15r7) ?rest15r7
  case hS15r7 => exact c1
  clear K hK
  try simp only [List.getElem_toArray, List.getElem_cons_succ, List.getElem_cons_zero, Act.put, List.setIfInBounds_toArray, List.set_cons_zero, List.set_cons_succ]
  refine wpAnyG_done (by kernel_rfl) ?_ _
  try simp only [List.getElem_toArray, List.getElem_cons_succ, List.getElem_cons_zero, Act.put, List.setIfInBounds_toArray, List.set_cons_zero, List.set_cons_succ]
  have h3 := H2.out.drewN (1 + k1)
  have H3 := Lib.hid h3
  clear h3 H2 c1 c2 hS
  generalize w.drewN (1 + k1) = w2 at *
  by_cases htf : t ≤ f
  · have dt : decide (t ≤ f) = true := decide_eq_true htf
    have HR : Hid (R = t) := Lib.hid (by rw [HR0.out, if_pos htf])
    clear htf ha hf ht hm ws HR0
    go_wp2_with fail
    go_ret
    exact ⟨by rw [HR.out]; rfl, H3.out.docClose⟩
  · have dt : decide (t ≤ f) = false := decide_eq_false htf
    obtain ⟨i0, hi0⟩ : ∃ i0 : Nat, f = b + i0 := ⟨(f - b).toNat, by have := HW.out; omega⟩
    obtain ⟨j0, hj0⟩ : ∃ j0 : Nat, f = a + j0 := ⟨(f - a).toNat, by have := HW.out; omega⟩
    obtain ⟨d, hd2⟩ : ∃ d : Nat, t = f + d := ⟨(t - f).toNat, by omega⟩
    have hR := HR0.out
    rw [if_neg htf, show (f - b).toNat = i0 by omega, show (f - a).toNat = j0 by omega] at hR
    obtain ⟨G, hG, hGd, hGs⟩ := agr_loop (ps.map (·.1)) (xs.map (·.1)) i0 j0 d (by rw [List.length_map]; have := HW.out; omega) (by have := HW.out; omega) (by rw [List.length_map]; have := HW.out; omega)
    rw [← hG] at hR
    have HRG := Lib.hid hR
    clear hR HR0
    have wd : IntKind.i64.wrap (t - f) = (d : Int) := by rw [show t - f = (d : Int) by omega]; exact IntWalk.i64_in _ (by have := HW.out; omega)
    have HG := Lib.hid (And.intro hGd hGs)
    have HI := Lib.hid (And.intro hi0 (And.intro hj0 hd2))
    have wb : IntKind.i64.wrap (f - b) = (i0 : Int) := by rw [show f - b = (i0 : Int) by omega]; exact IntWalk.i64_in _ (by have := HW.out; omega)
    have wa : IntKind.i64.wrap (f - a) = (j0 : Int) := by rw [show f - a = (j0 : Int) by omega]; exact IntWalk.i64_in _ (by have := HW.out; omega)
    clear htf ha hf ht hm ws hi0 hj0 hd2 hG hGd hGs
    go_wp2_with fail
    go_loopw [9] (fun i wr => ∃ k : Nat, k ≤ d ∧ i = .int .i64 (f + (k : Int)) ∧ G 0 = k + G k ∧ Sep w0 (Cl g #[.int .i64 b, .slice pa ps.length pc] 69 :: EnT (.slice pa ps.length pc) ps :: L) wr) (fun i _ => (t - intOf i).toNat)
    case atStart => exact ⟨0, Nat.zero_le _, by rw [show f + ((0 : Nat) : Int) = f by omega], by omega, H3.out⟩
    case round =>
      obtain ⟨k, hk, rfl, hgk, hs⟩ := hrel
      clear H3
      have k0 : (0 : Int) ≤ (k : Int) := by omega
      by_cases hkd : k < d
      · have hdk : decide (f + (k : Int) < t) = true := decide_eq_true (by have := HI.out; omega)
        have k1 : (k : Int) < (d : Int) := by omega
        have k2 : (d : Int) ≤ 1000 := by have := HW.out; have := HI.out; omega
        obtain ⟨hi, hj, hg1, hg2⟩ := HG.out.2 k hkd
        rw [List.length_map] at hi hj
        simp only [List.getElem_map] at hg1 hg2
        have hvs := HV.out _ hs.drop.drop
        obtain ⟨bx, off, rfl, -, -, -, ⟨e0, e1, e2, e3, e4, e5, e6⟩, hlx⟩ := (hs.sw2.enS).at hi
        obtain ⟨by_, oy, rfl, -, -, -, ⟨d0, d1, d2, d3, d4, d5, d6⟩, hly⟩ := hvs.at hj
        obtain ⟨p, hp⟩ : ∃ p, p = i0 + k := ⟨_, rfl⟩
        obtain ⟨r, hr⟩ : ∃ r, r = j0 + k := ⟨_, rfl⟩
        have wp : IntKind.i64.wrap (f + (k : Int) - b) = (p : Int) := by rw [show f + (k : Int) - b = (p : Int) by have := HI.out; omega]; exact IntWalk.i64_in _ (by have := HW.out; omega)
        have wr_ : IntKind.i64.wrap (f + (k : Int) - a) = (r : Int) := by rw [show f + (k : Int) - a = (r : Int) by have := HI.out; omega]; exact IntWalk.i64_in _ (by have := HW.out; have := HXN.out; have := HI.out; omega)
        have p0 : (0 : Int) ≤ (p : Int) := by omega
        have p1 : (p : Int) < (ps.length : Int) := by omega
        have r0_ : (0 : Int) ≤ (r : Int) := by omega
        have r1 : (r : Int) < (m : Int) := by have := HW.out; have := HI.out; omega
        have wf : IntKind.i64.wrap (f + (k : Int) + 1) = f + (k : Int) + 1 := IntWalk.i64_in _ (by have := HW.out; have := HI.out; omega)
        obtain ⟨⟨x, v⟩, hxv⟩ : ∃ z, z = ps[i0 + k] := ⟨_, rfl⟩
        obtain ⟨⟨y, u⟩, hyu⟩ : ∃ z, z = xs[j0 + k] := ⟨_, rfl⟩
        rw [← hxv] at e0 e1 e2 e3 e4 e5 e6 hlx hg1 hg2
        rw [← hyu] at d0 d1 d2 d3 d4 d5 d6 hly hg1 hg2
        dsimp only at e0 e1 e2 e3 e4 e5 e6 hlx d0 d1 d2 d3 d4 d5 d6 hly hg1 hg2
        rw [← hp] at e0 e1 e2 e3 e4 e5 e6
        rw [← hr] at d0 d1 d2 d3 d4 d5 d6
        obtain ⟨vp, cp, rfl⟩ := hlx.len
        obtain ⟨vq, cq, rfl⟩ := hly.len
        have HS := Lib.hid (resame_any x y (.slice vp x.p.ls.length cp) (.slice vq y.p.ls.length cq) hs.drew hlx hly (lns_maxl hlx))
        unfold enV at HS
        obtain ⟨c1, c2⟩ := cells2 hs
        have HK := Lib.hid (And.intro hgk (And.intro hkd (And.intro hg1 hg2)))
        clear hs hvs hlx hly hxv hyu hp hr hgk hkd hk hg1 hg2 hi hj
        generalize enSame x y = z at *
        go_wp2_with fail
        refine wp_region_G (fun w' => w'.cell? ⟨g, 0, none⟩ = some (.int .i64 b) ∧ w'.cell? ⟨g, 1, none⟩ = some (.slice (some ⟨bx, off, none⟩) ps.length pc) ∧ w'.cell? ⟨bx, off + p * 7, none⟩ = some (.int .i64 x.c) ∧ w'.cell? ⟨bx, off + p * 7 + 1, none⟩ = some (.int .i64 x.m) ∧ w'.cell? ⟨bx, off + p * 7 + 2, none⟩ = some (.int .i64 x.p.k) ∧ w'.cell? ⟨bx, off + p * 7 + 3, none⟩ = some (.string x.p.s.1) ∧ w'.cell? ⟨bx, off + p * 7 + 4, none⟩ = some (.int .i64 x.p.o) ∧ w'.cell? ⟨bx, off + p * 7 + 5, none⟩ = some (.int .i64 x.p.n) ∧ w'.cell? ⟨bx, off + p * 7 + 6, none⟩ = some (.slice vp x.p.ls.length cp) ∧ w'.cell? ⟨by_, oy + r * 7, none⟩ = some (.int .i64 y.c) ∧ w'.cell? ⟨by_, oy + r * 7 + 1, none⟩ = some (.int .i64 y.m) ∧ w'.cell? ⟨by_, oy + r * 7 + 2, none⟩ = some (.int .i64 y.p.k) ∧ w'.cell? ⟨by_, oy + r * 7 + 3, none⟩ = some (.string y.p.s.1) ∧ w'.cell? ⟨by_, oy + r * 7 + 4, none⟩ = some (.int .i64 y.p.o) ∧ w'.cell? ⟨by_, oy + r * 7 + 5, none⟩ = some (.int .i64 y.p.n) ∧ w'.cell? ⟨by_, oy + r * 7 + 6, none⟩ = some (.slice vq y.p.ls.length cq)) [22, 23] (by kernel_rfl) ⟨c1, c2, e0, e1, e2, e3, e4, e5, e6, d0, d1, d2, d3, d4, d5, d6⟩ (fun hS => ?_)
        try dsimp only at hS
        refine wpAnyG_take' (i := 0) (v := ?v0_1rd) rfl (by kernel_rfl) (by kernel_rfl) (by kernel_rfl) (by kernel_rfl) (fun _ _ _ h => h) (Or.inl ⟨by rfl, ?hy0_1rd⟩) hS ?rest0_1rd
        case hy0_1rd => intro w hSw; (try dsimp only at hSw); go_simp; (try with_reducible rfl)
        case rest0_1rd =>
        try simp only [List.getElem_toArray, List.getElem_cons_succ, List.getElem_cons_zero, Act.put, List.setIfInBounds_toArray, List.set_cons_zero, List.set_cons_succ]
        refine wpAnyG_take' (i := 1) (v := ?v1_2rd) rfl (by kernel_rfl) (by kernel_rfl) (by kernel_rfl) (by kernel_rfl) (fun _ _ _ h => h) (Or.inl ⟨by rfl, ?hy1_2rd⟩) hS ?rest1_2rd
        case hy1_2rd => intro w hSw; (try dsimp only at hSw); go_simp; (try with_reducible rfl)
        case rest1_2rd =>
        try simp only [List.getElem_toArray, List.getElem_cons_succ, List.getElem_cons_zero, Act.put, List.setIfInBounds_toArray, List.set_cons_zero, List.set_cons_succ]
        refine wpAnyG_take' (i := 2) (v := ?v2_3rd) rfl (by kernel_rfl) (by kernel_rfl) (by kernel_rfl) (by kernel_rfl) (fun _ _ _ h => h) (Or.inl ⟨by rfl, ?hy2_3rd⟩) hS ?rest2_3rd
        case hy2_3rd => intro w hSw; (try dsimp only at hSw); go_simp; (try with_reducible rfl)
        case rest2_3rd =>
        try simp only [List.getElem_toArray, List.getElem_cons_succ, List.getElem_cons_zero, Act.put, List.setIfInBounds_toArray, List.set_cons_zero, List.set_cons_succ]
        refine wpAnyG_take' (i := 3) (v := ?v3_4rd) rfl (by kernel_rfl) (by kernel_rfl) (by kernel_rfl) (by kernel_rfl) (fun _ _ _ h => h) (Or.inl ⟨by rfl, ?hy3_4rd⟩) hS ?rest3_4rd
        case hy3_4rd => intro w hSw; (try dsimp only at hSw); go_simp; (try with_reducible rfl)
        case rest3_4rd =>
        try simp only [List.getElem_toArray, List.getElem_cons_succ, List.getElem_cons_zero, Act.put, List.setIfInBounds_toArray, List.set_cons_zero, List.set_cons_succ]
        refine wpAnyG_take' (i := 4) (v := ?v4_5rd) rfl (by kernel_rfl) (by kernel_rfl) (by kernel_rfl) (by kernel_rfl) (fun _ _ _ h => h) (Or.inl ⟨by rfl, ?hy4_5rd⟩) hS ?rest4_5rd
        case hy4_5rd => intro w hSw; (try dsimp only at hSw); go_simp; (try with_reducible rfl)
        case rest4_5rd =>
        try simp only [List.getElem_toArray, List.getElem_cons_succ, List.getElem_cons_zero, Act.put, List.setIfInBounds_toArray, List.set_cons_zero, List.set_cons_succ]
        refine wpAnyG_take' (i := 5) (v := ?v5_6rd) rfl (by kernel_rfl) (by kernel_rfl) (by kernel_rfl) (by kernel_rfl) (fun _ _ _ h => h) (Or.inl ⟨by rfl, ?hy5_6rd⟩) hS ?rest5_6rd
        case hy5_6rd => intro w hSw; (try dsimp only at hSw); go_simp; (try with_reducible rfl)
        case rest5_6rd =>
        try simp only [List.getElem_toArray, List.getElem_cons_succ, List.getElem_cons_zero, Act.put, List.setIfInBounds_toArray, List.set_cons_zero, List.set_cons_succ]
        refine wpAnyG_take' (i := 6) (v := ?v6_7rd) rfl (by kernel_rfl) (by kernel_rfl) (by kernel_rfl) (by kernel_rfl) (fun _ _ _ h => h) (Or.inl ⟨by rfl, ?hy6_7rd⟩) hS ?rest6_7rd
        case hy6_7rd => intro w hSw; (try dsimp only at hSw); go_simp; (try with_reducible rfl)
        case rest6_7rd =>
        try simp only [List.getElem_toArray, List.getElem_cons_succ, List.getElem_cons_zero, Act.put, List.setIfInBounds_toArray, List.set_cons_zero, List.set_cons_succ]
        refine wpAnyG_take' (i := 7) (v := ?v7_8rd) rfl (by kernel_rfl) (by kernel_rfl) (by kernel_rfl) (by kernel_rfl) (fun _ _ _ h => h) (Or.inl ⟨by rfl, ?hy7_8rd⟩) hS ?rest7_8rd
        case hy7_8rd => intro w hSw; (try dsimp only at hSw); go_simp; (try with_reducible rfl)
        case rest7_8rd =>
        try simp only [List.getElem_toArray, List.getElem_cons_succ, List.getElem_cons_zero, Act.put, List.setIfInBounds_toArray, List.set_cons_zero, List.set_cons_succ]
        refine wpAnyG_take' (i := 8) (v := ?v8_9rd) rfl (by kernel_rfl) (by kernel_rfl) (by kernel_rfl) (by kernel_rfl) (fun _ _ _ h => h) (Or.inl ⟨by rfl, ?hy8_9rd⟩) hS ?rest8_9rd
        case hy8_9rd => intro w hSw; (try dsimp only at hSw); go_simp; (try with_reducible rfl)
        case rest8_9rd =>
        try simp only [List.getElem_toArray, List.getElem_cons_succ, List.getElem_cons_zero, Act.put, List.setIfInBounds_toArray, List.set_cons_zero, List.set_cons_succ]
        refine wpAnyG_take' (i := 9) (v := ?v9_10rd) rfl (by kernel_rfl) (by kernel_rfl) (by kernel_rfl) (by kernel_rfl) (fun _ _ _ h => h) (Or.inl ⟨by rfl, ?hy9_10rd⟩) hS ?rest9_10rd
        case hy9_10rd => intro w hSw; (try dsimp only at hSw); go_simp; (try with_reducible rfl)
        case rest9_10rd =>
        try simp only [List.getElem_toArray, List.getElem_cons_succ, List.getElem_cons_zero, Act.put, List.setIfInBounds_toArray, List.set_cons_zero, List.set_cons_succ]
        refine wpAnyG_take' (i := 10) (v := ?v10_11rd) rfl (by kernel_rfl) (by kernel_rfl) (by kernel_rfl) (by kernel_rfl) (fun _ _ _ h => h) (Or.inl ⟨by rfl, ?hy10_11rd⟩) hS ?rest10_11rd
        case hy10_11rd => intro w hSw; (try dsimp only at hSw); go_simp; (try with_reducible rfl)
        case rest10_11rd =>
        try simp only [List.getElem_toArray, List.getElem_cons_succ, List.getElem_cons_zero, Act.put, List.setIfInBounds_toArray, List.set_cons_zero, List.set_cons_succ]
        refine wpAnyG_take' (i := 11) (v := ?v11_12rd) rfl (by kernel_rfl) (by kernel_rfl) (by kernel_rfl) (by kernel_rfl) (fun _ _ _ h => h) (Or.inl ⟨by rfl, ?hy11_12rd⟩) hS ?rest11_12rd
        case hy11_12rd => intro w hSw; (try dsimp only at hSw); go_simp; (try with_reducible rfl)
        case rest11_12rd =>
        try simp only [List.getElem_toArray, List.getElem_cons_succ, List.getElem_cons_zero, Act.put, List.setIfInBounds_toArray, List.set_cons_zero, List.set_cons_succ]
        refine wpAnyG_take' (i := 12) (v := ?v12_13rd) rfl (by kernel_rfl) (by kernel_rfl) (by kernel_rfl) (by kernel_rfl) (fun _ _ _ h => h) (Or.inl ⟨by rfl, ?hy12_13rd⟩) hS ?rest12_13rd
        case hy12_13rd => intro w hSw; (try dsimp only at hSw); go_simp; (try with_reducible rfl)
        case rest12_13rd =>
        try simp only [List.getElem_toArray, List.getElem_cons_succ, List.getElem_cons_zero, Act.put, List.setIfInBounds_toArray, List.set_cons_zero, List.set_cons_succ]
        refine wpAnyG_take' (i := 13) (v := ?v13_14rd) rfl (by kernel_rfl) (by kernel_rfl) (by kernel_rfl) (by kernel_rfl) (fun _ _ _ h => h) (Or.inl ⟨by rfl, ?hy13_14rd⟩) hS ?rest13_14rd
        case hy13_14rd => intro w hSw; (try dsimp only at hSw); go_simp; (try with_reducible rfl)
        case rest13_14rd =>
        try simp only [List.getElem_toArray, List.getElem_cons_succ, List.getElem_cons_zero, Act.put, List.setIfInBounds_toArray, List.set_cons_zero, List.set_cons_succ]
        refine wpAnyG_take' (i := 14) (v := ?v14_15rd) rfl (by kernel_rfl) (by kernel_rfl) (by kernel_rfl) (by kernel_rfl) (fun _ _ _ h => h) (Or.inl ⟨by rfl, ?hy14_15rd⟩) hS ?rest14_15rd
        case hy14_15rd => intro w hSw; (try dsimp only at hSw); go_simp; (try with_reducible rfl)
        case rest14_15rd =>
        try simp only [List.getElem_toArray, List.getElem_cons_succ, List.getElem_cons_zero, Act.put, List.setIfInBounds_toArray, List.set_cons_zero, List.set_cons_succ]
        refine wpAnyG_take' (i := 15) (v := ?v15_16rd) rfl (by kernel_rfl) (by kernel_rfl) (by kernel_rfl) (by kernel_rfl) (fun _ _ _ h => h) (Or.inl ⟨by rfl, ?hy15_16rd⟩) hS ?rest15_16rd
        case hy15_16rd => intro w hSw; (try dsimp only at hSw); go_simp; (try with_reducible rfl)
        case rest15_16rd =>
        try simp only [List.getElem_toArray, List.getElem_cons_succ, List.getElem_cons_zero, Act.put, List.setIfInBounds_toArray, List.set_cons_zero, List.set_cons_succ]
        refine wpAnyG_take' (i := 16) (v := ?v16_17rd) rfl (by kernel_rfl) (by kernel_rfl) (by kernel_rfl) (by kernel_rfl) (fun _ _ _ h => h) (Or.inl ⟨by rfl, ?hy16_17rd⟩) hS ?rest16_17rd
        case hy16_17rd => intro w hSw; (try dsimp only at hSw); go_simp; (try with_reducible rfl)
        case rest16_17rd =>
        try simp only [List.getElem_toArray, List.getElem_cons_succ, List.getElem_cons_zero, Act.put, List.setIfInBounds_toArray, List.set_cons_zero, List.set_cons_succ]
        refine wpAnyG_take' (i := 17) (v := ?v17_18rd) rfl (by kernel_rfl) (by kernel_rfl) (by kernel_rfl) (by kernel_rfl) (fun _ _ _ h => h) (Or.inl ⟨by rfl, ?hy17_18rd⟩) hS ?rest17_18rd
        case hy17_18rd => intro w hSw; (try dsimp only at hSw); go_simp; (try with_reducible rfl)
        case rest17_18rd =>
        try simp only [List.getElem_toArray, List.getElem_cons_succ, List.getElem_cons_zero, Act.put, List.setIfInBounds_toArray, List.set_cons_zero, List.set_cons_succ]
        refine wpAnyG_take' (i := 18) (v := ?v18_19rd) rfl (by kernel_rfl) (by kernel_rfl) (by kernel_rfl) (by kernel_rfl) (fun _ _ _ h => h) (Or.inl ⟨by rfl, ?hy18_19rd⟩) hS ?rest18_19rd
        case hy18_19rd => intro w hSw; (try dsimp only at hSw); go_simp; (try with_reducible rfl)
        case rest18_19rd =>
        try simp only [List.getElem_toArray, List.getElem_cons_succ, List.getElem_cons_zero, Act.put, List.setIfInBounds_toArray, List.set_cons_zero, List.set_cons_succ]
        refine wpAnyG_take' (i := 19) (v := ?v19_20rd) rfl (by kernel_rfl) (by kernel_rfl) (by kernel_rfl) (by kernel_rfl) (fun _ _ _ h => h) (Or.inl ⟨by rfl, ?hy19_20rd⟩) hS ?rest19_20rd
        case hy19_20rd => intro w hSw; (try dsimp only at hSw); go_simp; (try with_reducible rfl)
        case rest19_20rd =>
        try simp only [List.getElem_toArray, List.getElem_cons_succ, List.getElem_cons_zero, Act.put, List.setIfInBounds_toArray, List.set_cons_zero, List.set_cons_succ]
        refine wpAnyG_take' (i := 20) (v := ?v20_21rd) rfl (by kernel_rfl) (by kernel_rfl) (by kernel_rfl) (by kernel_rfl) (fun _ _ _ h => h) (Or.inl ⟨by rfl, ?hy20_21rd⟩) hS ?rest20_21rd
        case hy20_21rd => intro w hSw; (try dsimp only at hSw); go_simp; (try with_reducible rfl)
        case rest20_21rd =>
        try simp only [List.getElem_toArray, List.getElem_cons_succ, List.getElem_cons_zero, Act.put, List.setIfInBounds_toArray, List.set_cons_zero, List.set_cons_succ]
        refine wpAnyG_take' (i := 21) (v := ?v21_22rd) rfl (by kernel_rfl) (by kernel_rfl) (by kernel_rfl) (by kernel_rfl) (fun _ _ _ h => h) (Or.inl ⟨by rfl, ?hy21_22rd⟩) hS ?rest21_22rd
        case hy21_22rd => intro w hSw; (try dsimp only at hSw); go_simp; (try with_reducible rfl)
        case rest21_22rd =>
        try simp only [List.getElem_toArray, List.getElem_cons_succ, List.getElem_cons_zero, Act.put, List.setIfInBounds_toArray, List.set_cons_zero, List.set_cons_succ]
        refine wpAnyG_one (i := 22) (by kernel_rfl) rfl (fun K hK => ?_)
        go_simp
        refine Calls.mono HS.out ?_
        rintro r22 w22 ⟨rfl, h6⟩
        clear c1 c2 d0 d1 d2 d3 d4 d5 d6 e0 e1 e2 e3 e4 e5 e6 HS
        have H6 := Lib.hid h6
        clear h6
        go_wp2_with fail
        refine hK.out _ _ (fun hno => by cases hno) ?_
        clear K hK
        try simp only [List.getElem_toArray, List.getElem_cons_succ, List.getElem_cons_zero, Act.put, List.setIfInBounds_toArray, List.set_cons_zero, List.set_cons_succ]
        refine wpAnyG_one (i := 23) (by kernel_rfl) rfl (fun K hK => ?_)
        go_simp
        refine hK.out _ _ (fun hno => by cases hno) ?_
        clear K hK
        try simp only [List.getElem_toArray, List.getElem_cons_succ, List.getElem_cons_zero, Act.put, List.setIfInBounds_toArray, List.set_cons_zero, List.set_cons_succ]
        refine wpAnyG_done (by kernel_rfl) ?_ _
        try simp only [List.getElem_toArray, List.getElem_cons_succ, List.getElem_cons_zero, Act.put, List.setIfInBounds_toArray, List.set_cons_zero, List.set_cons_succ]
        cases z with
        | false =>
          have HR : Hid (R = f + (k : Int)) := Lib.hid (by have h1 := HK.out.1; have h2 := HK.out.2.2.2 rfl; have h3 := HRG.out; omega)
          go_wp2_with fail
          go_ret
          exact ⟨by rw [HR.out]; rfl, H6.out.docClose⟩
        | true =>
          go_wp2_with fail
          go_roundw
          case rel => exact ⟨k + 1, HK.out.2.1, by rw [show f + ((k + 1 : Nat) : Int) = f + (k : Int) + 1 by omega], by have h1 := HK.out.1; have h2 := HK.out.2.2.1 rfl; omega, H6.out⟩
          case measure => have := HK.out.2.1; have := HI.out; simp [intOf]; omega
      · have hdk : decide (f + (k : Int) < t) = false := decide_eq_false (by have := HI.out; omega)
        have hkd2 : k = d := by omega
        have HR : Hid (R = f + (k : Int)) := Lib.hid (by have h1 := HG.out.1; rw [← hkd2] at h1; have := HI.out; have := HRG.out; omega)
        clear hkd2
        have H6 := Lib.hid hs.drew
        clear hs hgk hk hkd
        go_wp2_with fail
        refine wp_region_G (fun _ => True) [] (by kernel_rfl) trivial (fun hS => ?_)
        try dsimp only at hS
        refine wpAnyG_take' (i := 0) (v := ?v0_1ro) rfl (by kernel_rfl) (by kernel_rfl) (by kernel_rfl) (by kernel_rfl) (fun _ _ _ h => h) (Or.inl ⟨by rfl, ?hy0_1ro⟩) trivial ?rest0_1ro
        case hy0_1ro => intro w hSw; (try dsimp only at hSw); go_simp; (try with_reducible rfl)
        case rest0_1ro =>
        try simp only [List.getElem_toArray, List.getElem_cons_succ, List.getElem_cons_zero, Act.put, List.setIfInBounds_toArray, List.set_cons_zero, List.set_cons_succ]
        refine wpAnyG_take' (i := 1) (v := ?v1_2ro) rfl (by kernel_rfl) (by kernel_rfl) (by kernel_rfl) (by kernel_rfl) (fun _ _ _ h => h) (Or.inl ⟨by rfl, ?hy1_2ro⟩) trivial ?rest1_2ro
        case hy1_2ro => intro w hSw; (try dsimp only at hSw); go_simp; (try with_reducible rfl)
        case rest1_2ro =>
        try simp only [List.getElem_toArray, List.getElem_cons_succ, List.getElem_cons_zero, Act.put, List.setIfInBounds_toArray, List.set_cons_zero, List.set_cons_succ]
        refine wpAnyG_take' (i := 2) (v := ?v2_3ro) rfl (by kernel_rfl) (by kernel_rfl) (by kernel_rfl) (by kernel_rfl) (fun _ _ _ h => h) (Or.inl ⟨by rfl, ?hy2_3ro⟩) trivial ?rest2_3ro
        case hy2_3ro => intro w hSw; (try dsimp only at hSw); go_simp; (try with_reducible rfl)
        case rest2_3ro =>
        try simp only [List.getElem_toArray, List.getElem_cons_succ, List.getElem_cons_zero, Act.put, List.setIfInBounds_toArray, List.set_cons_zero, List.set_cons_succ]
        refine wpAnyG_take' (i := 3) (v := ?v3_4ro) rfl (by kernel_rfl) (by kernel_rfl) (by kernel_rfl) (by kernel_rfl) (fun _ _ _ h => h) (Or.inl ⟨by rfl, ?hy3_4ro⟩) trivial ?rest3_4ro
        case hy3_4ro => intro w hSw; (try dsimp only at hSw); go_simp; (try with_reducible rfl)
        case rest3_4ro =>
        try simp only [List.getElem_toArray, List.getElem_cons_succ, List.getElem_cons_zero, Act.put, List.setIfInBounds_toArray, List.set_cons_zero, List.set_cons_succ]
        refine wpAnyG_take' (i := 4) (v := undef) rfl (by kernel_rfl) (by kernel_rfl) (by kernel_rfl) (by kernel_rfl) (fun _ _ _ h => h) (Or.inr ⟨by rfl, rfl⟩) trivial ?rest4_5ro
        case rest4_5ro =>
        try simp only [List.getElem_toArray, List.getElem_cons_succ, List.getElem_cons_zero, Act.put, List.setIfInBounds_toArray, List.set_cons_zero, List.set_cons_succ]
        refine wpAnyG_take' (i := 5) (v := undef) rfl (by kernel_rfl) (by kernel_rfl) (by kernel_rfl) (by kernel_rfl) (fun _ _ _ h => h) (Or.inr ⟨by rfl, rfl⟩) trivial ?rest5_6ro
        case rest5_6ro =>
        try simp only [List.getElem_toArray, List.getElem_cons_succ, List.getElem_cons_zero, Act.put, List.setIfInBounds_toArray, List.set_cons_zero, List.set_cons_succ]
        refine wpAnyG_take' (i := 6) (v := undef) rfl (by kernel_rfl) (by kernel_rfl) (by kernel_rfl) (by kernel_rfl) (fun _ _ _ h => h) (Or.inr ⟨by rfl, rfl⟩) trivial ?rest6_7ro
        case rest6_7ro =>
        try simp only [List.getElem_toArray, List.getElem_cons_succ, List.getElem_cons_zero, Act.put, List.setIfInBounds_toArray, List.set_cons_zero, List.set_cons_succ]
        refine wpAnyG_take' (i := 7) (v := undef) rfl (by kernel_rfl) (by kernel_rfl) (by kernel_rfl) (by kernel_rfl) (fun _ _ _ h => h) (Or.inr ⟨by rfl, rfl⟩) trivial ?rest7_8ro
        case rest7_8ro =>
        try simp only [List.getElem_toArray, List.getElem_cons_succ, List.getElem_cons_zero, Act.put, List.setIfInBounds_toArray, List.set_cons_zero, List.set_cons_succ]
        refine wpAnyG_take' (i := 8) (v := undef) rfl (by kernel_rfl) (by kernel_rfl) (by kernel_rfl) (by kernel_rfl) (fun _ _ _ h => h) (Or.inr ⟨by rfl, rfl⟩) trivial ?rest8_9ro
        case rest8_9ro =>
        try simp only [List.getElem_toArray, List.getElem_cons_succ, List.getElem_cons_zero, Act.put, List.setIfInBounds_toArray, List.set_cons_zero, List.set_cons_succ]
        refine wpAnyG_take' (i := 9) (v := undef) rfl (by kernel_rfl) (by kernel_rfl) (by kernel_rfl) (by kernel_rfl) (fun _ _ _ h => h) (Or.inr ⟨by rfl, rfl⟩) trivial ?rest9_10ro
        case rest9_10ro =>
        try simp only [List.getElem_toArray, List.getElem_cons_succ, List.getElem_cons_zero, Act.put, List.setIfInBounds_toArray, List.set_cons_zero, List.set_cons_succ]
        refine wpAnyG_take' (i := 10) (v := undef) rfl (by kernel_rfl) (by kernel_rfl) (by kernel_rfl) (by kernel_rfl) (fun _ _ _ h => h) (Or.inr ⟨by rfl, rfl⟩) trivial ?rest10_11ro
        case rest10_11ro =>
        try simp only [List.getElem_toArray, List.getElem_cons_succ, List.getElem_cons_zero, Act.put, List.setIfInBounds_toArray, List.set_cons_zero, List.set_cons_succ]
        refine wpAnyG_take' (i := 11) (v := undef) rfl (by kernel_rfl) (by kernel_rfl) (by kernel_rfl) (by kernel_rfl) (fun _ _ _ h => h) (Or.inr ⟨by rfl, rfl⟩) trivial ?rest11_12ro
        case rest11_12ro =>
        try simp only [List.getElem_toArray, List.getElem_cons_succ, List.getElem_cons_zero, Act.put, List.setIfInBounds_toArray, List.set_cons_zero, List.set_cons_succ]
        refine wpAnyG_take' (i := 12) (v := undef) rfl (by kernel_rfl) (by kernel_rfl) (by kernel_rfl) (by kernel_rfl) (fun _ _ _ h => h) (Or.inr ⟨by rfl, rfl⟩) trivial ?rest12_13ro
        case rest12_13ro =>
        try simp only [List.getElem_toArray, List.getElem_cons_succ, List.getElem_cons_zero, Act.put, List.setIfInBounds_toArray, List.set_cons_zero, List.set_cons_succ]
        refine wpAnyG_take' (i := 13) (v := undef) rfl (by kernel_rfl) (by kernel_rfl) (by kernel_rfl) (by kernel_rfl) (fun _ _ _ h => h) (Or.inr ⟨by rfl, rfl⟩) trivial ?rest13_14ro
        case rest13_14ro =>
        try simp only [List.getElem_toArray, List.getElem_cons_succ, List.getElem_cons_zero, Act.put, List.setIfInBounds_toArray, List.set_cons_zero, List.set_cons_succ]
        refine wpAnyG_take' (i := 14) (v := undef) rfl (by kernel_rfl) (by kernel_rfl) (by kernel_rfl) (by kernel_rfl) (fun _ _ _ h => h) (Or.inr ⟨by rfl, rfl⟩) trivial ?rest14_15ro
        case rest14_15ro =>
        try simp only [List.getElem_toArray, List.getElem_cons_succ, List.getElem_cons_zero, Act.put, List.setIfInBounds_toArray, List.set_cons_zero, List.set_cons_succ]
        refine wpAnyG_take' (i := 15) (v := undef) rfl (by kernel_rfl) (by kernel_rfl) (by kernel_rfl) (by kernel_rfl) (fun _ _ _ h => h) (Or.inr ⟨by rfl, rfl⟩) trivial ?rest15_16ro
        case rest15_16ro =>
        try simp only [List.getElem_toArray, List.getElem_cons_succ, List.getElem_cons_zero, Act.put, List.setIfInBounds_toArray, List.set_cons_zero, List.set_cons_succ]
        refine wpAnyG_take' (i := 16) (v := undef) rfl (by kernel_rfl) (by kernel_rfl) (by kernel_rfl) (by kernel_rfl) (fun _ _ _ h => h) (Or.inr ⟨by rfl, rfl⟩) trivial ?rest16_17ro
        case rest16_17ro =>
        try simp only [List.getElem_toArray, List.getElem_cons_succ, List.getElem_cons_zero, Act.put, List.setIfInBounds_toArray, List.set_cons_zero, List.set_cons_succ]
        refine wpAnyG_take' (i := 17) (v := undef) rfl (by kernel_rfl) (by kernel_rfl) (by kernel_rfl) (by kernel_rfl) (fun _ _ _ h => h) (Or.inr ⟨by rfl, rfl⟩) trivial ?rest17_18ro
        case rest17_18ro =>
        try simp only [List.getElem_toArray, List.getElem_cons_succ, List.getElem_cons_zero, Act.put, List.setIfInBounds_toArray, List.set_cons_zero, List.set_cons_succ]
        refine wpAnyG_take' (i := 18) (v := undef) rfl (by kernel_rfl) (by kernel_rfl) (by kernel_rfl) (by kernel_rfl) (fun _ _ _ h => h) (Or.inr ⟨by rfl, rfl⟩) trivial ?rest18_19ro
        case rest18_19ro =>
        try simp only [List.getElem_toArray, List.getElem_cons_succ, List.getElem_cons_zero, Act.put, List.setIfInBounds_toArray, List.set_cons_zero, List.set_cons_succ]
        refine wpAnyG_take' (i := 19) (v := undef) rfl (by kernel_rfl) (by kernel_rfl) (by kernel_rfl) (by kernel_rfl) (fun _ _ _ h => h) (Or.inr ⟨by rfl, rfl⟩) trivial ?rest19_20ro
        case rest19_20ro =>
        try simp only [List.getElem_toArray, List.getElem_cons_succ, List.getElem_cons_zero, Act.put, List.setIfInBounds_toArray, List.set_cons_zero, List.set_cons_succ]
        refine wpAnyG_take' (i := 20) (v := undef) rfl (by kernel_rfl) (by kernel_rfl) (by kernel_rfl) (by kernel_rfl) (fun _ _ _ h => h) (Or.inr ⟨by rfl, rfl⟩) trivial ?rest20_21ro
        case rest20_21ro =>
        try simp only [List.getElem_toArray, List.getElem_cons_succ, List.getElem_cons_zero, Act.put, List.setIfInBounds_toArray, List.set_cons_zero, List.set_cons_succ]
        refine wpAnyG_take' (i := 21) (v := undef) rfl (by kernel_rfl) (by kernel_rfl) (by kernel_rfl) (by kernel_rfl) (fun _ _ _ h => h) (Or.inr ⟨by rfl, rfl⟩) trivial ?rest21_22ro
        case rest21_22ro =>
        try simp only [List.getElem_toArray, List.getElem_cons_succ, List.getElem_cons_zero, Act.put, List.setIfInBounds_toArray, List.set_cons_zero, List.set_cons_succ]
        refine wpAnyG_take' (i := 22) (v := undef) rfl (by kernel_rfl) (by kernel_rfl) (by kernel_rfl) (by kernel_rfl) (fun _ _ _ h => h) (Or.inr ⟨by rfl, rfl⟩) trivial ?rest22_23ro
        case rest22_23ro =>
        try simp only [List.getElem_toArray, List.getElem_cons_succ, List.getElem_cons_zero, Act.put, List.setIfInBounds_toArray, List.set_cons_zero, List.set_cons_succ]
        refine wpAnyG_take' (i := 23) (v := ?v23_24ro) rfl (by kernel_rfl) (by kernel_rfl) (by kernel_rfl) (by kernel_rfl) (fun _ _ _ h => h) (Or.inl ⟨by rfl, ?hy23_24ro⟩) trivial ?rest23_24ro
        case hy23_24ro => intro w hSw; (try dsimp only at hSw); go_simp; (try with_reducible rfl)
        case rest23_24ro =>
        try simp only [List.getElem_toArray, List.getElem_cons_succ, List.getElem_cons_zero, Act.put, List.setIfInBounds_toArray, List.set_cons_zero, List.set_cons_succ]
        refine wpAnyG_done (by kernel_rfl) ?_ _
        try simp only [List.getElem_toArray, List.getElem_cons_succ, List.getElem_cons_zero, Act.put, List.setIfInBounds_toArray, List.set_cons_zero, List.set_cons_succ]
        go_wp2_with fail
        go_ret
        exact ⟨by rw [HR.out]; rfl, H6.out.docClose⟩
theorem ragree_any {w0 w : World} {g : Nat} {b : Int} {ps : List (EnM × Value)} {L : List Thing} (q : Int) (ca : Option Addr) (cc n : Nat) (xs : List (EnM × Value)) (h : Sep w0 (DocT g b ps :: L) w) (hv : ∀ wx, Sep w0 L wx → EnS wx (.slice ca n cc) xs) (hn : xs.length = n)
    (h0 : 0 ≤ b) (h1 : b ≤ 4611686018427380000) (hl : ps.length ≤ 1000000) :
    Calls Tryd.prog 21 #[.pointer (some ⟨g, 0, none⟩), .int .i64 q, .slice ca n cc] w fun e w' => e = .returned (.int .i64 (agrV b (ps.map (·.1)) q (xs.map (·.1)))) ∧ Sep w0 (DocT g b ps :: L) w' := by
  subst hn
  by_cases hq : 9007199254740991 < q
  · obtain ⟨pv, h2⟩ := h.docOpen
    obtain ⟨pa, pc, rfl, -, -⟩ := h2.sw2.enForm
    refine (ragree_far q hq (cells2 h2).1 (cells2 h2).2 h0 h1 hl).mono fun e w' hh => ?_
    obtain ⟨he, k, rfl⟩ := hh
    refine ⟨?_, h.drewN k⟩
    unfold agrV
    rw [if_pos hq, List.length_map]
    exact he
  · exact ragree_near q ca cc xs h hv h0 h1 hl hq
end Go.Proofs.YtpknfeokfladkaaDoor
