/- A pipe's Agree. -/
import Derived.Test.YtpknfeokfladkaaDoorPipe2
namespace Go.Proofs.YtpknfeokfladkaaDoor
open Go.RowKit
set_option linter.unusedVariables false
set_option linter.unusedSimpArgs false
/-- How many of the first ones are the same. -/
def sameN : List EnM → List EnM → Nat
  | x :: xs, y :: ys => if enSame x y = true then sameN xs ys + 1 else 0
  | _, _ => 0
def agrV (b : Int) (p : List EnM) (q : Int) (l : List EnM) : Int :=
  if 9007199254740991 < q then b + p.length else
    let a := if q < 0 then 0 else q
    let f := if b < a then a else b
    let s := a + (min l.length 1000 : Nat)
    let t := if s < b + p.length then s else b + p.length
    if t ≤ f then t else f + sameN (p.drop (f - b).toNat) ((l.take 1000).drop (f - a).toNat)
theorem sameN_step (A B : List EnM) (i : Nat) (hA : i < A.length) (hB : i < B.length) : sameN (A.drop i) (B.drop i) = if enSame A[i] B[i] = true then sameN (A.drop (i + 1)) (B.drop (i + 1)) + 1 else 0 := by
  rw [List.drop_eq_getElem_cons hA, List.drop_eq_getElem_cons hB, sameN]
theorem sameN_end (A B : List EnM) (i : Nat) (h : A.length ≤ i ∨ B.length ≤ i) : sameN (A.drop i) (B.drop i) = 0 := by
  rcases h with h | h
  · rw [List.drop_eq_nil_of_le h]; unfold sameN; rfl
  · rw [List.drop_eq_nil_of_le h]; cases A.drop i <;> rfl
theorem agr_loop (p l : List EnM) (i0 j0 d : Nat) (h1 : i0 + d ≤ p.length) (h2 : j0 + d ≤ (l.take 1000).length) (h3 : p.length ≤ i0 + d ∨ (l.take 1000).length ≤ j0 + d) :
    ∃ G : Nat → Nat, G 0 = sameN (p.drop i0) ((l.take 1000).drop j0) ∧ G d = 0 ∧ ∀ k, k < d → ∃ (hi : i0 + k < p.length) (hj : j0 + k < l.length), (enSame p[i0 + k] l[j0 + k] = true → G k = G (k + 1) + 1) ∧ (enSame p[i0 + k] l[j0 + k] = false → G k = 0) := by
  refine ⟨fun k => sameN ((p.drop i0).drop k) (((l.take 1000).drop j0).drop k), rfl, ?_, fun k hk => ?_⟩
  · refine sameN_end _ _ _ ?_
    rw [List.length_drop, List.length_drop]
    omega
  · have h4 : (l.take 1000).length ≤ l.length := by rw [List.length_take]; omega
    refine ⟨by omega, by omega, ?_⟩
    have h5 := sameN_step (p.drop i0) ((l.take 1000).drop j0) k (by rw [List.length_drop]; omega) (by rw [List.length_drop]; omega)
    rw [List.getElem_drop, List.getElem_drop, List.getElem_take] at h5
    dsimp only
    constructor
    · intro h6; rw [h5, if_pos h6]
    · intro h6; rw [h5, if_neg (by rw [h6]; simp)]
theorem agree_n {w : World} {v u : Value} (q : Int) (h : NP w v) : Calls Tryd.prog 20 #[v, .int .i64 q, u] w fun e w' => e = .returned (.int .i64 0) ∧ w = w' := by
  have HN := Lib.hid (pnone_n h)
  clear h
  go_enter Tryd.func20, Tryd.ntmps20
  go_wp2_with fail
  refine HN.out.mono ?_
  rintro r0 w1 ⟨rfl, rfl⟩
  clear HN
  go_wp2_with fail
  go_ret
  exact ⟨rfl, rfl⟩
theorem agree_far {w : World} {g n c : Nat} {b : Int} {a : Option Addr} {u : Value} (q : Int) (hq : 9007199254740991 < q) (h : PC w g b a n c) (h0 : 0 ≤ b) (h1 : b ≤ 4611686018427380000) (hl : n ≤ 1000000) :
    Calls Tryd.prog 20 #[.pointer (some ⟨g, 0, none⟩), .int .i64 q, u] w fun e w' => e = .returned (.int .i64 (b + n)) ∧ ∃ k, w' = w.drewN k := by
  have HN := Lib.hid (pnone_c h)
  have HT := Lib.hid (top_c h h0 (by omega) hl)
  have hd : decide (9007199254740991 < q) = true := decide_eq_true hq
  clear h h0 h1 hl hq
  go_enter Tryd.func20, Tryd.ntmps20
  go_wp2_with fail
  refine HN.out.mono ?_
  rintro r0 w1 ⟨rfl, rfl⟩
  clear HN
  go_wp2_with fail
  refine HT.out.mono ?_
  rintro r0 w1 ⟨rfl, k, rfl⟩
  clear HT
  go_wp2_with fail
  go_ret
  exact ⟨rfl, k, rfl⟩
set_option maxRecDepth 100000 in
set_option maxHeartbeats 16000000 in
theorem agree_near {w0 w : World} {g : Nat} {b : Int} {ps : List (EnM × Value)} {L : List Thing} (q : Int) (ca : Option Addr) (cc : Nat) (xs : List (EnM × Value)) (h : Sep w0 (PipeT g b ps :: L) w) (hv : ∀ wx, Sep w0 L wx → EnS wx (.slice ca xs.length cc) xs)
    (h0 : 0 ≤ b) (h1 : b ≤ 4611686018427380000) (hl : ps.length ≤ 1000000) (hq : ¬ 9007199254740991 < q) :
    Calls Tryd.prog 20 #[.pointer (some ⟨g, 0, none⟩), .int .i64 q, .slice ca xs.length cc] w fun e w' => e = .returned (.int .i64 (agrV b (ps.map (·.1)) q (xs.map (·.1)))) ∧ Sep w0 (PipeT g b ps :: L) w' := by
  obtain ⟨pv, h2⟩ := h.pipeOpen
  obtain ⟨pa, pc, rfl, hpc, -⟩ := h2.sw2.peForm
  unfold agrV
  rw [if_neg hq, List.length_map, List.length_map]
  dsimp only
  have hcc : xs.length ≤ cc := by
    rcases hv _ h.drop with ⟨a, c, he, rfl⟩ | ⟨bb, off, c, he, h3, -⟩
    · exact Nat.zero_le _
    · simp only [Value.slice.injEq] at he; rw [he.2.2]; exact h3
  obtain ⟨a, ha⟩ : ∃ z, z = (if q < 0 then (0 : Int) else q) := ⟨_, rfl⟩
  have ha2 : 0 ≤ a ∧ a ≤ 9007199254740991 := by rw [ha]; split <;> omega
  obtain ⟨m, hm1, hm2, hm, hm4⟩ := min_len xs.length 1000
  have hmm : min xs.length 1000 = m := by omega
  have hmt : ((xs.map (·.1)).take 1000).length = m := by rw [List.length_take, List.length_map]; omega
  rw [← ha, hmm]
  obtain ⟨f, hf⟩ : ∃ z, z = (if b < a then a else b) := ⟨_, rfl⟩
  have hf2 : b ≤ f ∧ a ≤ f ∧ (f = a ∨ f = b) := by rw [hf]; split <;> omega
  obtain ⟨s, hs⟩ : ∃ z, z = a + (m : Int) := ⟨_, rfl⟩
  rw [← hf, ← hs]
  obtain ⟨tp, htp⟩ : ∃ z, z = b + (ps.length : Int) := ⟨_, rfl⟩
  rw [← htp]
  obtain ⟨t, ht⟩ : ∃ z, z = (if s < tp then s else tp) := ⟨_, rfl⟩
  have ht2 : t ≤ s ∧ t ≤ tp ∧ (t = s ∨ t = tp) := by rw [ht]; split <;> omega
  rw [← ht]
  obtain ⟨R, hR⟩ : ∃ z, z = (if t ≤ f then t else f + ((sameN ((ps.map (·.1)).drop (f - b).toNat) (((xs.map (·.1)).take 1000).drop (f - a).toNat) : Nat) : Int)) := ⟨_, rfl⟩
  rw [← hR]
  have HR0 := Lib.hid hR
  clear hR
  have hT := fun k => top_c (h2.drewN k).pc h0 (by omega) hl
  rw [← htp] at hT
  have HT := Lib.hid hT
  have HN := Lib.hid (pnone_c h2.pc)
  have HV := Lib.hid hv
  have H2 := Lib.hid h2
  have hd : decide (9007199254740991 < q) = false := decide_eq_false hq
  have ws : IntKind.i64.wrap (a + (m : Int)) = s := by rw [← hs]; exact IntWalk.i64_in _ (by omega)
  rw [show ((1000 : Nat) : Int) = 1000 from rfl] at hm
  have m0 : (0 : Int) ≤ (m : Int) := by omega
  have m1 : (m : Int) ≤ (cc : Int) := by omega
  replace ha := ha.symm
  replace hf := hf.symm
  replace ht := ht.symm
  have HW := Lib.hid (And.intro ha2 (And.intro hf2 (And.intro ht2 (And.intro hmt (And.intro h1 (And.intro hl (And.intro h0 (And.intro hs (And.intro htp (And.intro hm1 hm2))))))))))
  have HPC := Lib.hid hpc
  obtain ⟨n, hn⟩ : ∃ n, n = xs.length := ⟨_, rfl⟩
  rw [← hn] at hm HV ⊢
  have HXN := Lib.hid hn
  clear h h2 hv h0 h1 hl hq hT hpc hcc ha2 hf2 ht2 hs htp hmt hmm hm1 hm2 hm4 hn
  go_enter Tryd.func20, Tryd.ntmps20
  go_wp2_with fail
  refine HN.out.mono ?_
  rintro r0 w1 ⟨rfl, rfl⟩
  clear HN
  obtain ⟨c0, c1, c2⟩ := cells3 H2.out
  go_wp2_with fail
  refine wp_region_G (fun w' => w'.cell? ⟨g, 1, none⟩ = some (.int .i64 b)) [] (by kernel_rfl) c1 (fun hS => ?_)
  try dsimp only at hS
  refine wpAnyG_take' (i := 0) (v := ?v0_1r7) rfl (by kernel_rfl) (by kernel_rfl) (by kernel_rfl) (by kernel_rfl) (fun _ _ _ h => h) (Or.inl ⟨by rfl, ?hy0_1r7⟩) hS ?rest0_1r7
  case hy0_1r7 => intro w hSw; (try dsimp only at hSw); go_simp; (try with_reducible rfl)
  case rest0_1r7 =>
  try simp only [List.getElem_toArray, List.getElem_cons_succ, List.getElem_cons_zero, Act.put, List.setIfInBounds_toArray, List.set_cons_zero, List.set_cons_succ]
  refine wpAnyG_take' (i := 1) (v := ?v1_2r7) rfl (by kernel_rfl) (by kernel_rfl) (by kernel_rfl) (by kernel_rfl) (fun _ _ _ h => h) (Or.inl ⟨by rfl, ?hy1_2r7⟩) hS ?rest1_2r7
  case hy1_2r7 => intro w hSw; (try dsimp only at hSw); go_simp; (try with_reducible rfl)
  case rest1_2r7 =>
  try simp only [List.getElem_toArray, List.getElem_cons_succ, List.getElem_cons_zero, Act.put, List.setIfInBounds_toArray, List.set_cons_zero, List.set_cons_succ]
  refine wpAnyG_take' (i := 2) (v := ?v2_3r7) rfl (by kernel_rfl) (by kernel_rfl) (by kernel_rfl) (by kernel_rfl) (fun _ _ _ h => h) (Or.inl ⟨by rfl, ?hy2_3r7⟩) hS ?rest2_3r7
  case hy2_3r7 => intro w hSw; (try dsimp only at hSw); go_simp; (try with_reducible rfl)
  case rest2_3r7 =>
  try simp only [List.getElem_toArray, List.getElem_cons_succ, List.getElem_cons_zero, Act.put, List.setIfInBounds_toArray, List.set_cons_zero, List.set_cons_succ]
  refine wpAnyG_take' (i := 3) (v := ?v3_4r7) rfl (by kernel_rfl) (by kernel_rfl) (by kernel_rfl) (by kernel_rfl) (fun _ _ _ h => h) (Or.inl ⟨by rfl, ?hy3_4r7⟩) hS ?rest3_4r7
  case hy3_4r7 => intro w hSw; (try dsimp only at hSw); go_simp; (try with_reducible rfl)
  case rest3_4r7 =>
  try simp only [List.getElem_toArray, List.getElem_cons_succ, List.getElem_cons_zero, Act.put, List.setIfInBounds_toArray, List.set_cons_zero, List.set_cons_succ]
  refine wpAnyG_take' (i := 4) (v := ?v4_5r7) rfl (by kernel_rfl) (by kernel_rfl) (by kernel_rfl) (by kernel_rfl) (fun _ _ _ h => h) (Or.inl ⟨by rfl, ?hy4_5r7⟩) hS ?rest4_5r7
  case hy4_5r7 => intro w hSw; (try dsimp only at hSw); go_simp; (try with_reducible rfl)
  case rest4_5r7 =>
  try simp only [List.getElem_toArray, List.getElem_cons_succ, List.getElem_cons_zero, Act.put, List.setIfInBounds_toArray, List.set_cons_zero, List.set_cons_succ]
  refine wpAnyG_take' (i := 5) (v := ?v5_6r7) rfl (by kernel_rfl) (by kernel_rfl) (by kernel_rfl) (by kernel_rfl) (fun _ _ _ h => h) (Or.inl ⟨by rfl, ?hy5_6r7⟩) hS ?rest5_6r7
  case hy5_6r7 => intro w hSw; (try dsimp only at hSw); go_simp; (try with_reducible rfl)
  case rest5_6r7 =>
  try simp only [List.getElem_toArray, List.getElem_cons_succ, List.getElem_cons_zero, Act.put, List.setIfInBounds_toArray, List.set_cons_zero, List.set_cons_succ]
  refine wpAnyG_take' (i := 6) (v := ?v6_7r7) rfl (by kernel_rfl) (by kernel_rfl) (by kernel_rfl) (by kernel_rfl) (fun _ _ _ h => h) (Or.inl ⟨by rfl, ?hy6_7r7⟩) hS ?rest6_7r7
  case hy6_7r7 => intro w hSw; (try dsimp only at hSw); go_simp; (try with_reducible rfl)
  case rest6_7r7 =>
  try simp only [List.getElem_toArray, List.getElem_cons_succ, List.getElem_cons_zero, Act.put, List.setIfInBounds_toArray, List.set_cons_zero, List.set_cons_succ]
  refine wpAnyG_take' (i := 8) (v := ?v8_8r7) rfl (by kernel_rfl) (by kernel_rfl) (by kernel_rfl) (by kernel_rfl) (fun _ _ _ h => h) (Or.inl ⟨by rfl, ?hy8_8r7⟩) hS ?rest8_8r7
  case hy8_8r7 => intro w hSw; (try dsimp only at hSw); go_simp; (try with_reducible rfl)
  case rest8_8r7 =>
  try simp only [List.getElem_toArray, List.getElem_cons_succ, List.getElem_cons_zero, Act.put, List.setIfInBounds_toArray, List.set_cons_zero, List.set_cons_succ]
  refine wpAnyG_take' (i := 9) (v := ?v9_9r7) rfl (by kernel_rfl) (by kernel_rfl) (by kernel_rfl) (by kernel_rfl) (fun _ _ _ h => h) (Or.inl ⟨by rfl, ?hy9_9r7⟩) hS ?rest9_9r7
  case hy9_9r7 => intro w hSw; (try dsimp only at hSw); go_simp; (try with_reducible rfl)
  case rest9_9r7 =>
  try simp only [List.getElem_toArray, List.getElem_cons_succ, List.getElem_cons_zero, Act.put, List.setIfInBounds_toArray, List.set_cons_zero, List.set_cons_succ]
  refine wpAnyG_take' (i := 10) (v := ?v10_10r7) rfl (by kernel_rfl) (by kernel_rfl) (by kernel_rfl) (by kernel_rfl) (fun _ _ _ h => h) (Or.inl ⟨by rfl, ?hy10_10r7⟩) hS ?rest10_10r7
  case hy10_10r7 => intro w hSw; (try dsimp only at hSw); go_simp; (try with_reducible rfl)
  case rest10_10r7 =>
  try simp only [List.getElem_toArray, List.getElem_cons_succ, List.getElem_cons_zero, Act.put, List.setIfInBounds_toArray, List.set_cons_zero, List.set_cons_succ]
  refine wpAnyG_take' (i := 11) (v := ?v11_11r7) rfl (by kernel_rfl) (by kernel_rfl) (by kernel_rfl) (by kernel_rfl) (fun _ _ _ h => h) (Or.inl ⟨by rfl, ?hy11_11r7⟩) hS ?rest11_11r7
  case hy11_11r7 => intro w hSw; (try dsimp only at hSw); go_simp; (try with_reducible rfl)
  case rest11_11r7 =>
  try simp only [List.getElem_toArray, List.getElem_cons_succ, List.getElem_cons_zero, Act.put, List.setIfInBounds_toArray, List.set_cons_zero, List.set_cons_succ]
  refine wpAnyG_one (i := 7) (by kernel_rfl) rfl (fun K hK => ?_)
  go_simp
  refine Calls.mono (HT.out 1) ?_
  rintro r7 w7 ⟨rfl, k1, rfl⟩
  clear HT
  go_wp2_with fail
  refine hK.out _ _ (fun _ => ?hS12r7) ?rest12r7
  case hS12r7 => exact c1
  clear K hK
  try simp only [List.getElem_toArray, List.getElem_cons_succ, List.getElem_cons_zero, Act.put, List.setIfInBounds_toArray, List.set_cons_zero, List.set_cons_succ]
  refine wpAnyG_take' (i := 12) (v := ?v12_13r7) rfl (by kernel_rfl) (by kernel_rfl) (by kernel_rfl) (by kernel_rfl) (fun _ _ _ h => h) (Or.inl ⟨by rfl, ?hy12_13r7⟩) c1 ?rest12_13r7
  case hy12_13r7 => intro w hSw; (try dsimp only at hSw); go_simp; (try with_reducible rfl)
  case rest12_13r7 =>
  try simp only [List.getElem_toArray, List.getElem_cons_succ, List.getElem_cons_zero, Act.put, List.setIfInBounds_toArray, List.set_cons_zero, List.set_cons_succ]
  refine wpAnyG_one (i := 13) (by kernel_rfl) rfl (fun K hK => ?_)
  go_simp
  refine hK.out _ _ (fun _ => ?hS14r7) ?rest14r7
  case hS14r7 => exact c1
  clear K hK
  try simp only [List.getElem_toArray, List.getElem_cons_succ, List.getElem_cons_zero, Act.put, List.setIfInBounds_toArray, List.set_cons_zero, List.set_cons_succ]
  refine wpAnyG_one (i := 14) (by kernel_rfl) rfl (fun K hK => ?_)
  go_simp
  refine hK.out _ _ (fun _ => ?hS15r7) ?rest15r7
  case hS15r7 => exact c1
  clear K hK
  try simp only [List.getElem_toArray, List.getElem_cons_succ, List.getElem_cons_zero, Act.put, List.setIfInBounds_toArray, List.set_cons_zero, List.set_cons_succ]
  refine wpAnyG_done (by kernel_rfl) ?_ _
  try simp only [List.getElem_toArray, List.getElem_cons_succ, List.getElem_cons_zero, Act.put, List.setIfInBounds_toArray, List.set_cons_zero, List.set_cons_succ]
  have h3 := H2.out.drewN (1 + k1)
  have H3 := Lib.hid h3
  clear h3 H2 c0 c1 c2 hS
  generalize w.drewN (1 + k1) = w2 at *
  by_cases htf : t ≤ f
  · have dt : decide (t ≤ f) = true := decide_eq_true htf
    have HR : Hid (R = t) := Lib.hid (by rw [HR0.out, if_pos htf])
    clear htf ha hf ht hm ws HR0
    go_wp2_with fail
    go_ret
    exact ⟨by rw [HR.out]; rfl, H3.out.pipeClose⟩
  · have dt : decide (t ≤ f) = false := decide_eq_false htf
    obtain ⟨i0, hi0⟩ : ∃ i0 : Nat, f = b + i0 := ⟨(f - b).toNat, by have := HW.out; omega⟩
    obtain ⟨j0, hj0⟩ : ∃ j0 : Nat, f = a + j0 := ⟨(f - a).toNat, by have := HW.out; omega⟩
    obtain ⟨d, hd2⟩ : ∃ d : Nat, t = f + d := ⟨(t - f).toNat, by omega⟩
    have hR := HR0.out
    rw [if_neg htf, show (f - b).toNat = i0 by omega, show (f - a).toNat = j0 by omega] at hR
    obtain ⟨G, hG, hGd, hGs⟩ := agr_loop (ps.map (·.1)) (xs.map (·.1)) i0 j0 d (by rw [List.length_map]; have := HW.out; omega) (by have := HW.out; omega) (by rw [List.length_map]; have := HW.out; omega)
    rw [← hG] at hR
    have HRG := Lib.hid hR
    clear hR HR0
    have wd : IntKind.i64.wrap (t - f) = (d : Int) := by rw [show t - f = (d : Int) by omega]; exact IntWalk.i64_in _ (by have := HW.out; omega)
    have HG := Lib.hid (And.intro hGd hGs)
    have HI := Lib.hid (And.intro hi0 (And.intro hj0 hd2))
    have wb : IntKind.i64.wrap (f - b) = (i0 : Int) := by rw [show f - b = (i0 : Int) by omega]; exact IntWalk.i64_in _ (by have := HW.out; omega)
    have wa : IntKind.i64.wrap (f - a) = (j0 : Int) := by rw [show f - a = (j0 : Int) by omega]; exact IntWalk.i64_in _ (by have := HW.out; omega)
    clear htf ha hf ht hm ws hi0 hj0 hd2 hG hGd hGs
    go_wp2_with fail
    go_loopw [43] (fun i wr => ∃ k : Nat, k ≤ d ∧ i = .int .i64 k ∧ G 0 = k + G k ∧ Sep w0 (Cl g #[.bool true, .int .i64 b, .slice pa ps.length pc] 67 :: PeT (.slice pa ps.length pc) ps :: L) wr) (fun i _ => d - (intOf i).toNat)
    case atStart => exact ⟨0, Nat.zero_le _, rfl, by omega, H3.out⟩
    case round =>
      obtain ⟨k, hk, rfl, hgk, hs⟩ := hrel
      clear H3
      have k0 : (0 : Int) ≤ (k : Int) := by omega
      by_cases hkd : k < d
      · have hdk : decide (k < d) = true := decide_eq_true hkd
        have k1 : (k : Int) < (d : Int) := by omega
        have k2 : (d : Int) ≤ 1000 := by have := HW.out; have := HI.out; omega
        obtain ⟨hi, hj, hg1, hg2⟩ := HG.out.2 k hkd
        rw [List.length_map] at hi hj
        simp only [List.getElem_map] at hg1 hg2
        have hvs := HV.out _ hs.drop.drop
        obtain ⟨bx, off, rfl, -, -, -, ⟨e0, e1, e2, e3, e4, e5, e6⟩, hlx⟩ := (hs.sw2.peS).at hi
        obtain ⟨by_, oy, rfl, -, -, -, ⟨d0, d1, d2, d3, d4, d5, d6⟩, hly⟩ := hvs.at hj
        obtain ⟨p, hp⟩ : ∃ p, p = i0 + k := ⟨_, rfl⟩
        obtain ⟨r, hr⟩ : ∃ r, r = j0 + k := ⟨_, rfl⟩
        have wp : IntKind.i64.wrap ((i0 : Int) + (k : Int)) = (p : Int) := by rw [show (i0 : Int) + (k : Int) = (p : Int) by omega]; exact IntWalk.i64_in _ (by have := HW.out; omega)
        have wr_ : IntKind.i64.wrap ((j0 : Int) + (k : Int)) = (r : Int) := by rw [show (j0 : Int) + (k : Int) = (r : Int) by omega]; exact IntWalk.i64_in _ (by have := HW.out; have := HXN.out; have := HI.out; omega)
        have p0 : (0 : Int) ≤ (p : Int) := by omega
        have p1 : (p : Int) < (ps.length : Int) := by omega
        have r0_ : (0 : Int) ≤ (r : Int) := by omega
        have r1 : (r : Int) < (m : Int) := by have := HW.out; have := HI.out; omega
        have wf : IntKind.i64.wrap (f + (k : Int)) = f + (k : Int) := IntWalk.i64_in _ (by have := HW.out; have := HI.out; omega)
        obtain ⟨⟨x, v⟩, hxv⟩ : ∃ z, z = ps[i0 + k] := ⟨_, rfl⟩
        obtain ⟨⟨y, u⟩, hyu⟩ : ∃ z, z = xs[j0 + k] := ⟨_, rfl⟩
        rw [← hxv] at e0 e1 e2 e3 e4 e5 e6 hlx hg1 hg2
        rw [← hyu] at d0 d1 d2 d3 d4 d5 d6 hly hg1 hg2
        dsimp only at e0 e1 e2 e3 e4 e5 e6 hlx d0 d1 d2 d3 d4 d5 d6 hly hg1 hg2
        rw [← hp] at e0 e1 e2 e3 e4 e5 e6
        rw [← hr] at d0 d1 d2 d3 d4 d5 d6
        obtain ⟨vp, cp, rfl⟩ := hlx.len
        obtain ⟨vq, cq, rfl⟩ := hly.len
        have HS := Lib.hid (esame_any x y (.slice vp x.p.ls.length cp) (.slice vq y.p.ls.length cq) hs.drew hlx hly (lns_maxl hlx))
        unfold enV at HS
        obtain ⟨c0, c1, c2⟩ := cells3 hs
        have HK := Lib.hid (And.intro hgk (And.intro hkd (And.intro hg1 hg2)))
        clear hs hvs hlx hly hxv hyu hp hr hgk hkd hk hg1 hg2 hi hj
        generalize enSame x y = z at *
        go_wp2_with fail
        refine wp_region_G (fun w' => w'.cell? ⟨g, 1, none⟩ = some (.int .i64 b) ∧ w'.cell? ⟨g, 2, none⟩ = some (.slice (some ⟨bx, off, none⟩) ps.length pc) ∧ w'.cell? ⟨bx, off + p * 7, none⟩ = some (.int .i64 x.c) ∧ w'.cell? ⟨bx, off + p * 7 + 1, none⟩ = some (.int .i64 x.m) ∧ w'.cell? ⟨bx, off + p * 7 + 2, none⟩ = some (.int .i64 x.p.k) ∧ w'.cell? ⟨bx, off + p * 7 + 3, none⟩ = some (.string x.p.s.1) ∧ w'.cell? ⟨bx, off + p * 7 + 4, none⟩ = some (.int .i64 x.p.o) ∧ w'.cell? ⟨bx, off + p * 7 + 5, none⟩ = some (.int .i64 x.p.n) ∧ w'.cell? ⟨bx, off + p * 7 + 6, none⟩ = some (.slice vp x.p.ls.length cp) ∧ w'.cell? ⟨by_, oy + r * 7, none⟩ = some (.int .i64 y.c) ∧ w'.cell? ⟨by_, oy + r * 7 + 1, none⟩ = some (.int .i64 y.m) ∧ w'.cell? ⟨by_, oy + r * 7 + 2, none⟩ = some (.int .i64 y.p.k) ∧ w'.cell? ⟨by_, oy + r * 7 + 3, none⟩ = some (.string y.p.s.1) ∧ w'.cell? ⟨by_, oy + r * 7 + 4, none⟩ = some (.int .i64 y.p.o) ∧ w'.cell? ⟨by_, oy + r * 7 + 5, none⟩ = some (.int .i64 y.p.n) ∧ w'.cell? ⟨by_, oy + r * 7 + 6, none⟩ = some (.slice vq y.p.ls.length cq)) [22, 23] (by kernel_rfl) ⟨c1, c2, e0, e1, e2, e3, e4, e5, e6, d0, d1, d2, d3, d4, d5, d6⟩ (fun hS => ?_)
        try dsimp only at hS
        refine wpAnyG_take' (i := 0) (v := ?v0_1rd) rfl (by kernel_rfl) (by kernel_rfl) (by kernel_rfl) (by kernel_rfl) (fun _ _ _ h => h) (Or.inl ⟨by rfl, ?hy0_1rd⟩) hS ?rest0_1rd
        case hy0_1rd => intro w hSw; (try dsimp only at hSw); go_simp; (try with_reducible rfl)
        case rest0_1rd =>
        try simp only [List.getElem_toArray, List.getElem_cons_succ, List.getElem_cons_zero, Act.put, List.setIfInBounds_toArray, List.set_cons_zero, List.set_cons_succ]
        refine wpAnyG_take' (i := 1) (v := ?v1_2rd) rfl (by kernel_rfl) (by kernel_rfl) (by kernel_rfl) (by kernel_rfl) (fun _ _ _ h => h) (Or.inl ⟨by rfl, ?hy1_2rd⟩) hS ?rest1_2rd
        case hy1_2rd => intro w hSw; (try dsimp only at hSw); go_simp; (try with_reducible rfl)
        case rest1_2rd =>
        try simp only [List.getElem_toArray, List.getElem_cons_succ, List.getElem_cons_zero, Act.put, List.setIfInBounds_toArray, List.set_cons_zero, List.set_cons_succ]
        refine wpAnyG_take' (i := 2) (v := ?v2_3rd) rfl (by kernel_rfl) (by kernel_rfl) (by kernel_rfl) (by kernel_rfl) (fun _ _ _ h => h) (Or.inl ⟨by rfl, ?hy2_3rd⟩) hS ?rest2_3rd
        case hy2_3rd => intro w hSw; (try dsimp only at hSw); go_simp; (try with_reducible rfl)
        case rest2_3rd =>
        try simp only [List.getElem_toArray, List.getElem_cons_succ, List.getElem_cons_zero, Act.put, List.setIfInBounds_toArray, List.set_cons_zero, List.set_cons_succ]
        refine wpAnyG_take' (i := 3) (v := ?v3_4rd) rfl (by kernel_rfl) (by kernel_rfl) (by kernel_rfl) (by kernel_rfl) (fun _ _ _ h => h) (Or.inl ⟨by rfl, ?hy3_4rd⟩) hS ?rest3_4rd
        case hy3_4rd => intro w hSw; (try dsimp only at hSw); go_simp; (try with_reducible rfl)
        case rest3_4rd =>
        try simp only [List.getElem_toArray, List.getElem_cons_succ, List.getElem_cons_zero, Act.put, List.setIfInBounds_toArray, List.set_cons_zero, List.set_cons_succ]
        refine wpAnyG_take' (i := 4) (v := ?v4_5rd) rfl (by kernel_rfl) (by kernel_rfl) (by kernel_rfl) (by kernel_rfl) (fun _ _ _ h => h) (Or.inl ⟨by rfl, ?hy4_5rd⟩) hS ?rest4_5rd
        case hy4_5rd => intro w hSw; (try dsimp only at hSw); go_simp; (try with_reducible rfl)
        case rest4_5rd =>
        try simp only [List.getElem_toArray, List.getElem_cons_succ, List.getElem_cons_zero, Act.put, List.setIfInBounds_toArray, List.set_cons_zero, List.set_cons_succ]
        refine wpAnyG_take' (i := 5) (v := ?v5_6rd) rfl (by kernel_rfl) (by kernel_rfl) (by kernel_rfl) (by kernel_rfl) (fun _ _ _ h => h) (Or.inl ⟨by rfl, ?hy5_6rd⟩) hS ?rest5_6rd
        case hy5_6rd => intro w hSw; (try dsimp only at hSw); go_simp; (try with_reducible rfl)
        case rest5_6rd =>
        try simp only [List.getElem_toArray, List.getElem_cons_succ, List.getElem_cons_zero, Act.put, List.setIfInBounds_toArray, List.set_cons_zero, List.set_cons_succ]
        refine wpAnyG_take' (i := 6) (v := ?v6_7rd) rfl (by kernel_rfl) (by kernel_rfl) (by kernel_rfl) (by kernel_rfl) (fun _ _ _ h => h) (Or.inl ⟨by rfl, ?hy6_7rd⟩) hS ?rest6_7rd
        case hy6_7rd => intro w hSw; (try dsimp only at hSw); go_simp; (try with_reducible rfl)
        case rest6_7rd =>
        try simp only [List.getElem_toArray, List.getElem_cons_succ, List.getElem_cons_zero, Act.put, List.setIfInBounds_toArray, List.set_cons_zero, List.set_cons_succ]
        refine wpAnyG_take' (i := 7) (v := ?v7_8rd) rfl (by kernel_rfl) (by kernel_rfl) (by kernel_rfl) (by kernel_rfl) (fun _ _ _ h => h) (Or.inl ⟨by rfl, ?hy7_8rd⟩) hS ?rest7_8rd
        case hy7_8rd => intro w hSw; (try dsimp only at hSw); go_simp; (try with_reducible rfl)
        case rest7_8rd =>
        try simp only [List.getElem_toArray, List.getElem_cons_succ, List.getElem_cons_zero, Act.put, List.setIfInBounds_toArray, List.set_cons_zero, List.set_cons_succ]
        refine wpAnyG_take' (i := 8) (v := ?v8_9rd) rfl (by kernel_rfl) (by kernel_rfl) (by kernel_rfl) (by kernel_rfl) (fun _ _ _ h => h) (Or.inl ⟨by rfl, ?hy8_9rd⟩) hS ?rest8_9rd
        case hy8_9rd => intro w hSw; (try dsimp only at hSw); go_simp; (try with_reducible rfl)
        case rest8_9rd =>
        try simp only [List.getElem_toArray, List.getElem_cons_succ, List.getElem_cons_zero, Act.put, List.setIfInBounds_toArray, List.set_cons_zero, List.set_cons_succ]
        refine wpAnyG_take' (i := 9) (v := ?v9_10rd) rfl (by kernel_rfl) (by kernel_rfl) (by kernel_rfl) (by kernel_rfl) (fun _ _ _ h => h) (Or.inl ⟨by rfl, ?hy9_10rd⟩) hS ?rest9_10rd
        case hy9_10rd => intro w hSw; (try dsimp only at hSw); go_simp; (try with_reducible rfl)
        case rest9_10rd =>
        try simp only [List.getElem_toArray, List.getElem_cons_succ, List.getElem_cons_zero, Act.put, List.setIfInBounds_toArray, List.set_cons_zero, List.set_cons_succ]
        refine wpAnyG_take' (i := 10) (v := ?v10_11rd) rfl (by kernel_rfl) (by kernel_rfl) (by kernel_rfl) (by kernel_rfl) (fun _ _ _ h => h) (Or.inl ⟨by rfl, ?hy10_11rd⟩) hS ?rest10_11rd
        case hy10_11rd => intro w hSw; (try dsimp only at hSw); go_simp; (try with_reducible rfl)
        case rest10_11rd =>
        try simp only [List.getElem_toArray, List.getElem_cons_succ, List.getElem_cons_zero, Act.put, List.setIfInBounds_toArray, List.set_cons_zero, List.set_cons_succ]
        refine wpAnyG_take' (i := 11) (v := ?v11_12rd) rfl (by kernel_rfl) (by kernel_rfl) (by kernel_rfl) (by kernel_rfl) (fun _ _ _ h => h) (Or.inl ⟨by rfl, ?hy11_12rd⟩) hS ?rest11_12rd
        case hy11_12rd => intro w hSw; (try dsimp only at hSw); go_simp; (try with_reducible rfl)
        case rest11_12rd =>
        try simp only [List.getElem_toArray, List.getElem_cons_succ, List.getElem_cons_zero, Act.put, List.setIfInBounds_toArray, List.set_cons_zero, List.set_cons_succ]
        refine wpAnyG_take' (i := 12) (v := ?v12_13rd) rfl (by kernel_rfl) (by kernel_rfl) (by kernel_rfl) (by kernel_rfl) (fun _ _ _ h => h) (Or.inl ⟨by rfl, ?hy12_13rd⟩) hS ?rest12_13rd
        case hy12_13rd => intro w hSw; (try dsimp only at hSw); go_simp; (try with_reducible rfl)
        case rest12_13rd =>
        try simp only [List.getElem_toArray, List.getElem_cons_succ, List.getElem_cons_zero, Act.put, List.setIfInBounds_toArray, List.set_cons_zero, List.set_cons_succ]
        refine wpAnyG_take' (i := 13) (v := ?v13_14rd) rfl (by kernel_rfl) (by kernel_rfl) (by kernel_rfl) (by kernel_rfl) (fun _ _ _ h => h) (Or.inl ⟨by rfl, ?hy13_14rd⟩) hS ?rest13_14rd
        case hy13_14rd => intro w hSw; (try dsimp only at hSw); go_simp; (try with_reducible rfl)
        case rest13_14rd =>
        try simp only [List.getElem_toArray, List.getElem_cons_succ, List.getElem_cons_zero, Act.put, List.setIfInBounds_toArray, List.set_cons_zero, List.set_cons_succ]
        refine wpAnyG_take' (i := 14) (v := ?v14_15rd) rfl (by kernel_rfl) (by kernel_rfl) (by kernel_rfl) (by kernel_rfl) (fun _ _ _ h => h) (Or.inl ⟨by rfl, ?hy14_15rd⟩) hS ?rest14_15rd
        case hy14_15rd => intro w hSw; (try dsimp only at hSw); go_simp; (try with_reducible rfl)
        case rest14_15rd =>
        try simp only [List.getElem_toArray, List.getElem_cons_succ, List.getElem_cons_zero, Act.put, List.setIfInBounds_toArray, List.set_cons_zero, List.set_cons_succ]
        refine wpAnyG_take' (i := 15) (v := ?v15_16rd) rfl (by kernel_rfl) (by kernel_rfl) (by kernel_rfl) (by kernel_rfl) (fun _ _ _ h => h) (Or.inl ⟨by rfl, ?hy15_16rd⟩) hS ?rest15_16rd
        case hy15_16rd => intro w hSw; (try dsimp only at hSw); go_simp; (try with_reducible rfl)
        case rest15_16rd =>
        try simp only [List.getElem_toArray, List.getElem_cons_succ, List.getElem_cons_zero, Act.put, List.setIfInBounds_toArray, List.set_cons_zero, List.set_cons_succ]
        refine wpAnyG_take' (i := 16) (v := ?v16_17rd) rfl (by kernel_rfl) (by kernel_rfl) (by kernel_rfl) (by kernel_rfl) (fun _ _ _ h => h) (Or.inl ⟨by rfl, ?hy16_17rd⟩) hS ?rest16_17rd
        case hy16_17rd => intro w hSw; (try dsimp only at hSw); go_simp; (try with_reducible rfl)
        case rest16_17rd =>
        try simp only [List.getElem_toArray, List.getElem_cons_succ, List.getElem_cons_zero, Act.put, List.setIfInBounds_toArray, List.set_cons_zero, List.set_cons_succ]
        refine wpAnyG_take' (i := 17) (v := ?v17_18rd) rfl (by kernel_rfl) (by kernel_rfl) (by kernel_rfl) (by kernel_rfl) (fun _ _ _ h => h) (Or.inl ⟨by rfl, ?hy17_18rd⟩) hS ?rest17_18rd
        case hy17_18rd => intro w hSw; (try dsimp only at hSw); go_simp; (try with_reducible rfl)
        case rest17_18rd =>
        try simp only [List.getElem_toArray, List.getElem_cons_succ, List.getElem_cons_zero, Act.put, List.setIfInBounds_toArray, List.set_cons_zero, List.set_cons_succ]
        refine wpAnyG_take' (i := 18) (v := ?v18_19rd) rfl (by kernel_rfl) (by kernel_rfl) (by kernel_rfl) (by kernel_rfl) (fun _ _ _ h => h) (Or.inl ⟨by rfl, ?hy18_19rd⟩) hS ?rest18_19rd
        case hy18_19rd => intro w hSw; (try dsimp only at hSw); go_simp; (try with_reducible rfl)
        case rest18_19rd =>
        try simp only [List.getElem_toArray, List.getElem_cons_succ, List.getElem_cons_zero, Act.put, List.setIfInBounds_toArray, List.set_cons_zero, List.set_cons_succ]
        refine wpAnyG_take' (i := 19) (v := ?v19_20rd) rfl (by kernel_rfl) (by kernel_rfl) (by kernel_rfl) (by kernel_rfl) (fun _ _ _ h => h) (Or.inl ⟨by rfl, ?hy19_20rd⟩) hS ?rest19_20rd
        case hy19_20rd => intro w hSw; (try dsimp only at hSw); go_simp; (try with_reducible rfl)
        case rest19_20rd =>
        try simp only [List.getElem_toArray, List.getElem_cons_succ, List.getElem_cons_zero, Act.put, List.setIfInBounds_toArray, List.set_cons_zero, List.set_cons_succ]
        refine wpAnyG_take' (i := 20) (v := ?v20_21rd) rfl (by kernel_rfl) (by kernel_rfl) (by kernel_rfl) (by kernel_rfl) (fun _ _ _ h => h) (Or.inl ⟨by rfl, ?hy20_21rd⟩) hS ?rest20_21rd
        case hy20_21rd => intro w hSw; (try dsimp only at hSw); go_simp; (try with_reducible rfl)
        case rest20_21rd =>
        try simp only [List.getElem_toArray, List.getElem_cons_succ, List.getElem_cons_zero, Act.put, List.setIfInBounds_toArray, List.set_cons_zero, List.set_cons_succ]
        refine wpAnyG_take' (i := 21) (v := ?v21_22rd) rfl (by kernel_rfl) (by kernel_rfl) (by kernel_rfl) (by kernel_rfl) (fun _ _ _ h => h) (Or.inl ⟨by rfl, ?hy21_22rd⟩) hS ?rest21_22rd
        case hy21_22rd => intro w hSw; (try dsimp only at hSw); go_simp; (try with_reducible rfl)
        case rest21_22rd =>
        try simp only [List.getElem_toArray, List.getElem_cons_succ, List.getElem_cons_zero, Act.put, List.setIfInBounds_toArray, List.set_cons_zero, List.set_cons_succ]
        refine wpAnyG_one (i := 22) (by kernel_rfl) rfl (fun K hK => ?_)
        go_simp
        refine Calls.mono HS.out ?_
        rintro r22 w22 ⟨rfl, h6⟩
        clear c0 c1 c2 d0 d1 d2 d3 d4 d5 d6 e0 e1 e2 e3 e4 e5 e6 HS
        have H6 := Lib.hid h6
        clear h6
        go_wp2_with fail
        refine hK.out _ _ (fun hno => by cases hno) ?_
        clear K hK
        try simp only [List.getElem_toArray, List.getElem_cons_succ, List.getElem_cons_zero, Act.put, List.setIfInBounds_toArray, List.set_cons_zero, List.set_cons_succ]
        refine wpAnyG_one (i := 23) (by kernel_rfl) rfl (fun K hK => ?_)
        go_simp
        refine hK.out _ _ (fun hno => by cases hno) ?_
        clear K hK
        try simp only [List.getElem_toArray, List.getElem_cons_succ, List.getElem_cons_zero, Act.put, List.setIfInBounds_toArray, List.set_cons_zero, List.set_cons_succ]
        refine wpAnyG_done (by kernel_rfl) ?_ _
        try simp only [List.getElem_toArray, List.getElem_cons_succ, List.getElem_cons_zero, Act.put, List.setIfInBounds_toArray, List.set_cons_zero, List.set_cons_succ]
        cases z with
        | false =>
          have HR : Hid (R = f + (k : Int)) := Lib.hid (by have h1 := HK.out.1; have h2 := HK.out.2.2.2 rfl; have h3 := HRG.out; omega)
          go_wp2_with fail
          go_ret
          exact ⟨by rw [HR.out]; rfl, H6.out.pipeClose⟩
        | true =>
          go_wp2_with fail
          go_roundw
          case rel => exact ⟨k + 1, HK.out.2.1, by go_num, by have h1 := HK.out.1; have h2 := HK.out.2.2.1 rfl; omega, H6.out⟩
          case measure => have := HK.out.2.1; simp [intOf]; omega
      · have hdk : decide (k < d) = false := decide_eq_false hkd
        obtain rfl : k = d := by omega
        have HR : Hid (R = t) := Lib.hid (by have := HG.out.1; have := HI.out; have := HRG.out; omega)
        have H6 := Lib.hid hs
        clear hs hgk hk hkd
        go_wp2_with fail
        go_ret
        exact ⟨by rw [HR.out]; rfl, H6.out.pipeClose⟩
theorem agree_any {w0 w : World} {g : Nat} {b : Int} {ps : List (EnM × Value)} {L : List Thing} (q : Int) (ca : Option Addr) (cc n : Nat) (xs : List (EnM × Value)) (h : Sep w0 (PipeT g b ps :: L) w) (hv : ∀ wx, Sep w0 L wx → EnS wx (.slice ca n cc) xs) (hn : xs.length = n)
    (h0 : 0 ≤ b) (h1 : b ≤ 4611686018427380000) (hl : ps.length ≤ 1000000) :
    Calls Tryd.prog 20 #[.pointer (some ⟨g, 0, none⟩), .int .i64 q, .slice ca n cc] w fun e w' => e = .returned (.int .i64 (agrV b (ps.map (·.1)) q (xs.map (·.1)))) ∧ Sep w0 (PipeT g b ps :: L) w' := by
  subst hn
  by_cases hq : 9007199254740991 < q
  · obtain ⟨pv, h2⟩ := h.pipeOpen
    obtain ⟨pa, pc, rfl, -, -⟩ := h2.sw2.peForm
    refine (agree_far q hq h2.pc h0 h1 hl).mono fun e w' hh => ?_
    obtain ⟨he, k, rfl⟩ := hh
    refine ⟨?_, h.drewN k⟩
    unfold agrV
    rw [if_pos hq, List.length_map]
    exact he
  · exact agree_near q ca cc xs h hv h0 h1 hl hq
end Go.Proofs.YtpknfeokfladkaaDoor
