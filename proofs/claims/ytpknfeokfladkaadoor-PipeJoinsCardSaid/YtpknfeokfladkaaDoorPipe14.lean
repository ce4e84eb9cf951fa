/- PipeJoins. -/
import Derived.Test.YtpknfeokfladkaaDoorPipe13
namespace Go.Proofs.YtpknfeokfladkaaDoor
open Go.RowKit
set_option linter.unusedVariables false
set_option linter.unusedSimpArgs false
theorem take_set {s t : List Int} {k : Nat} (h : t.take k = s.take k) (hs : k < s.length) (ht : k < t.length) : (t.set k s[k]).take (k + 1) = s.take (k + 1) := by
  rw [List.take_succ_eq_append_getElem (by rw [List.length_set]; exact ht), List.take_succ_eq_append_getElem hs, List.take_set_of_le (Nat.le_refl _), h]
  simp
theorem asks_map (t : List Int) : (t.map askP).map (·.1) = t.map askE := by rw [List.map_map]; rfl
theorem asks_ok (t : List Int) : ∀ q ∈ t.map askP, q.1.ok = true ∧ q.1.p.ls = [] := by
  intro q hq
  obtain ⟨z, -, rfl⟩ := List.mem_map.1 hq
  exact ⟨askE_ok z, rfl⟩
theorem lit8 {w0 w : World} {g : Nat} {L : List Thing} (h : Sep w0 (Cl g #[.int .i64 7, .int .i64 7, .int .i64 7, .int .i64 7, .int .i64 7, .int .i64 7, .int .i64 7, .int .i64 7] 3 :: L) w) : Sl w (.slice (some ⟨g, 0, none⟩) 8 8) (iv .i64 (List.replicate 8 7)) :=
  (h.asRow 8 rfl (by unfold maxLen; omega)).sl
set_option maxRecDepth 100000 in
set_option maxHeartbeats 64000000 in
theorem joins12 (x0 x1 x2 : Int) (va vb : Value) (a b : List Int) (w : World) (ha : Sl w va (iv .i64 a)) (hb : Sl w vb (iv .i64 b)) (hk : KindsAt w) :
    Calls Tryd.prog 6 #[.agg #[.int .i64 x0, .int .i64 x1, .int .i64 x2], va, vb] w fun e w' => e = .returned (.bool true) ∧ Below w.heap.size w w' := by
  have HK := Lib.hid hk
  have hA := (Sep.start w).alloc (.cells #[.int .i64 x0, .int .i64 x1, .int .i64 x2] 43)
  obtain ⟨b3, hb3⟩ : ∃ z, z = w.heap.size := ⟨_, rfl⟩
  obtain ⟨w3, hw3⟩ : ∃ z, z = w.alloc (.cells #[.int .i64 x0, .int .i64 x1, .int .i64 x2] 43) := ⟨_, rfl⟩
  rw [← hb3, ← hw3] at hA
  obtain ⟨c0, c1, c2⟩ := cells3 hA
  have HR1 := Lib.hid (row12_any va a 12 hA (fun wx hx => ha.below hx.low) (by omega))
  have HVB := Lib.hid hb
  have HX0 := Lib.hid (bring_any x0 1099511627776 w3 (by unfold Sm; omega))
  obtain ⟨q0, hq0, hq1⟩ : ∃ q : Int, x0 % 1099511627776 = q ∧ 0 ≤ q ∧ q < 1099511627776 := ⟨_, rfl, by omega, by omega⟩
  rw [hq0] at HX0
  have wB : IntKind.i64.wrap (20 + q0) = 20 + q0 := IntWalk.i64_in _ (by omega)
  have HQ := Lib.hid hq1
  obtain ⟨s, hs⟩ : ∃ z, z = a.take 12 := ⟨_, rfl⟩
  obtain ⟨t, ht⟩ : ∃ z, z = b.take 12 := ⟨_, rfl⟩
  have hsl : s.length ≤ 12 := by rw [hs, List.length_take]; omega
  have htl : t.length ≤ 12 := by rw [ht, List.length_take]; omega
  have HLB := Lib.hid (And.intro hsl htl)
  rw [← hs] at HR1
  have HTB := Lib.hid ht
  clear hk ha hb hA hq0 hq1 hs ht hsl htl
  go_enter Tryd.func6, Tryd.ntmps6
  go_wp2_with fail
  rw [← hw3, ← hb3]
  clear hw3 hb3
  refine HX0.out.mono ?_
  rintro r0 w4 ⟨rfl, rfl⟩
  clear HX0
  obtain ⟨B, hB⟩ : ∃ z, z = 20 + q0 := ⟨_, rfl⟩
  replace wB : IntKind.i64.wrap (20 + q0) = B := by rw [hB]; exact wB
  have HB : Hid (20 ≤ B ∧ B ≤ 2199023255552) := Lib.hid (by have := HQ.out; omega)
  clear HQ hB
  go_wp2_with fail
  refine HR1.out.mono ?_
  rintro r0 w4 ⟨u1, rfl, h1⟩
  have HR2 := Lib.hid (row12_any vb b 12 h1 (fun wx hx => HVB.out.below hx.low) (by omega))
  rw [← HTB.out] at HR2
  obtain ⟨a1, k1, rfl, -⟩ := h1.enForm
  rw [List.length_map]
  clear HR1 h1 HTB c0 c1 c2
  go_wp2_with fail
  refine HR2.out.mono ?_
  rintro r0 w5 ⟨u2, rfl, h2⟩
  obtain ⟨a2, k2, rfl, -⟩ := h2.enForm
  rw [List.length_map] at h2 ⊢
  obtain ⟨c0, c1, c2⟩ := cells3 h2.sw3
  obtain ⟨M, hM1, hM2, hM3, -⟩ := min_len s.length t.length
  have hM4 : (if t.length < s.length then (t.length : Int) else (s.length : Int)) = (M : Int) := by
    by_cases h : t.length < s.length
    · rw [if_pos h]; rw [if_pos (by omega)] at hM3; exact hM3
    · rw [if_neg h]; rw [if_neg (by omega)] at hM3; exact hM3
  have wM : IntKind.i64.wrap ((M : Int) + 1) = (M : Int) + 1 := IntWalk.i64_in _ (by have := HLB.out; omega)
  have HX1 := Lib.hid (bring_any x1 ((M : Int) + 1) w5 (by unfold Sm; have := HLB.out; omega))
  obtain ⟨n, hn, hnM⟩ : ∃ n : Nat, x1 % ((M : Int) + 1) = (n : Int) ∧ n ≤ M := ⟨(x1 % ((M : Int) + 1)).toNat, by have := Int.emod_nonneg x1 (show (M : Int) + 1 ≠ 0 by omega); omega, by have := Int.emod_lt_of_pos x1 (show (0 : Int) < (M : Int) + 1 by omega); have := Int.emod_nonneg x1 (show (M : Int) + 1 ≠ 0 by omega); omega⟩
  rw [hn] at HX1
  have HN := Lib.hid (And.intro hnM (And.intro hM1 hM2))
  have H2 := Lib.hid h2
  clear HR2 h2 hn hnM hM1 hM2
  go_wp2_with fail
  refine HX1.out.mono ?_
  rintro r0 w6 ⟨rfl, rfl⟩
  clear HX1
  go_wp2_with fail
  go_loopw [11] (fun i wr => ∃ (k : Nat) (t' : List Int), k ≤ n ∧ i = .int .i64 k ∧ t'.length = t.length ∧ t'.take k = s.take k ∧ Sep w [EnT (.slice a2 t.length k2) (t'.map askP), EnT (.slice a1 s.length k1) (s.map askP), Cl b3 #[.int .i64 x0, .int .i64 x1, .int .i64 x2] 43] wr) (fun i _ => n - (intOf i).toNat)
  case atStart => exact ⟨0, t, Nat.zero_le _, rfl, rfl, by simp, by have := H2.out; rw [List.length_map] at this; exact this⟩
  case round =>
    obtain ⟨k, t', hk, rfl, htl, htk, hs⟩ := hrel
    clear H2
    have k0 : (0 : Int) ≤ (k : Int) := by omega
    have kn : (k : Int) ≤ 12 := by have := HN.out; have := HLB.out; omega
    by_cases hkn : k < n
    · have d0 : decide (k < n) = true := decide_eq_true hkn
      have dI : (k : Int) < (n : Int) := by omega
      have hks : k < s.length := by have := HN.out; omega
      have hkt : k < t'.length := by have := HN.out; omega
      have i1 : (k : Int) < (s.length : Int) := by omega
      have i2 : (k : Int) < (t.length : Int) := by omega
      obtain ⟨bx, off, rfl, -, -, -, ⟨e0, e1, e2, e3, e4, e5, e6⟩, -⟩ := (hs.sw2.enS).at (i := k) (by rw [List.length_map]; exact hks)
      obtain ⟨b2, c', hv, hle, hfr, hce, hset⟩ := hs.enAsk k hkt
      simp only [Value.slice.injEq] at hv
      obtain ⟨rfl, -, rfl⟩ := hv
      have hlen : (enCs (t'.map askP)).length = t'.length * 7 := by rw [enCs_len, List.length_map]
      have y0 := hce (k * 7) (by omega)
      have y1 := hce (k * 7 + 1) (by omega)
      have y2 := hce (k * 7 + 2) (by omega)
      have y3 := hce (k * 7 + 3) (by omega)
      have y4 := hce (k * 7 + 4) (by omega)
      have y5 := hce (k * 7 + 5) (by omega)
      have y6 := hce (k * 7 + 6) (by omega)
      generalize (enCs (t'.map askP))[k * 7] = z0 at y0
      generalize (enCs (t'.map askP))[k * 7 + 1] = z1 at y1
      generalize (enCs (t'.map askP))[k * 7 + 2] = z2 at y2
      generalize (enCs (t'.map askP))[k * 7 + 3] = z3 at y3
      generalize (enCs (t'.map askP))[k * 7 + 4] = z4 at y4
      generalize (enCs (t'.map askP))[k * 7 + 5] = z5 at y5
      generalize (enCs (t'.map askP))[k * 7 + 6] = z6 at y6
      have f0 := hfr (k * 7)
      have f1 := hfr (k * 7 + 1)
      have f2 := hfr (k * 7 + 2)
      have f3 := hfr (k * 7 + 3)
      have f4 := hfr (k * 7 + 4)
      have f5 := hfr (k * 7 + 5)
      have f6 := hfr (k * 7 + 6)
      have H7 := Lib.hid (hset s[k])
      have HT := Lib.hid (take_set htk hks hkt)
      rw [List.getElem_map] at e0 e1 e2 e3 e4 e5 e6
      dsimp only at e0 e1 e2 e3 e4 e5 e6
      have HKN := Lib.hid (And.intro hkn (And.intro htl hks))
      have hbb : ∀ (sk : Int), sk = s[k] → True := fun _ _ => trivial
      generalize hsk : s[k] = sk at *
      clear hs hce hset hfr hlen hkn hk htl htk hks hkt hle hbb hsk
      generalize askE sk = x at *
      go_wp2_with fail
      go_roundw
      case rel => exact ⟨k + 1, t'.set k sk, HKN.out.1, by go_num, by rw [List.length_set]; exact HKN.out.2.1, HT.out, H7.out⟩
      case measure => have := HKN.out.1; simp [intOf]; omega
    · have d0 : decide (k < n) = false := decide_eq_false hkn
      obtain rfl : k = n := by omega
      have HTK := Lib.hid (And.intro htk htl)
      have HF := Lib.hid (filled_any B (a1) k1 s.length (s.map askP) hs (fun wx hx => hx.sw2.enS) (by rw [List.length_map]) (by have := HB.out; omega) (by have := HB.out; omega) (by have := HLB.out; omega) (fun q hq => (asks_ok s q hq).1) HK.out)
      clear hs htk htl hk hkn hM3 hM4 wM c0 c1 c2
      rw [asks_map] at HF
      go_wp2_with fail
      refine HF.out.mono ?_
      rintro r0 w7 ⟨g, rfl, qs, hqs, h7⟩
      obtain ⟨c0, c1, c2⟩ := cells3 (h7.pick [3] rfl : Sep w [Cl b3 #[.int .i64 x0, .int .i64 x1, .int .i64 x2] 43] _)
      obtain ⟨bk, hbk, hbk8⟩ : ∃ r : Nat, x2 % 9 = (r : Int) ∧ r ≤ 8 := ⟨(x2 % 9).toNat, by omega, by omega⟩
      have HX2 := Lib.hid (bring_any x2 9 w7 (by unfold Sm; omega))
      rw [hbk] at HX2
      have h8 := h7.alloc (.cells #[.int .i64 7, .int .i64 7, .int .i64 7, .int .i64 7, .int .i64 7, .int .i64 7, .int .i64 7, .int .i64 7] 3)
      have hrow := row12_any (.slice (some ⟨w7.heap.size, 0, none⟩) 8 8) (List.replicate 8 7) bk h8 (fun wx hx => lit8 hx) (by omega)
      have HR3 := Lib.hid hrow
      have HQS := Lib.hid hqs
      have HBK := Lib.hid (And.intro hbk hbk8)
      clear HF h7 hqs h8 hrow hbk hbk8
      go_wp2_with fail
      refine HX2.out.mono ?_
      rintro r0 w8 ⟨rfl, rfl⟩
      clear HX2
      go_wp2_with fail
      refine HR3.out.mono ?_
      rintro r0 w9 ⟨u3, rfl, h9⟩
      obtain ⟨pre, hpre⟩ : ∃ z, z = (List.replicate 8 (7 : Int)).take bk := ⟨_, rfl⟩
      rw [← hpre] at h9
      have hprel : pre.length = bk := by rw [hpre, List.length_take, List.length_replicate]; have := HBK.out; omega
      obtain ⟨a4, k4, w10, hr10, h10⟩ := append_asks (ty := 35) (h9.pick [0, 3, 2] rfl : Sep w [EnT u3 (pre.map askP), EnT (.slice a2 t.length k2) (t'.map askP), PipeT g B qs] _) (by rw [hprel, HTK.out.2]; have := HLB.out; have := HBK.out; omega)
      obtain ⟨a3, k3, rfl, -⟩ := h9.enForm
      rw [List.length_map, hprel] at hr10
      obtain ⟨mo, hmo⟩ : ∃ z, z = (pre ++ t').length := ⟨_, rfl⟩
      rw [← hmo] at hr10 h10
      have hmo2 : mo = bk + t.length := by rw [hmo, List.length_append, hprel, HTK.out.2]
      rw [List.length_map, hprel]
      have HAP := Lib.hid hr10
      have wat : IntKind.i64.wrap (B - (bk : Int)) = B - (bk : Int) := IntWalk.i64_in _ (by have := HB.out; have := HBK.out; omega)
      have hqsl : qs.length = s.length := by have := congrArg List.length HQS.out; simpa using this
      have hag := agree_any (B - (bk : Int)) a4 k4 mo ((pre ++ t').map askP) (h10.pick [2, 0, 1] rfl : Sep w [PipeT g B qs, EnT (.slice a4 mo k4) ((pre ++ t').map askP), EnT (.slice a2 t.length k2) (t'.map askP)] _) (fun wx hx => hx.enS) (by rw [List.length_map]; exact hmo.symm) (by have := HB.out; omega) (by have := HB.out; omega) (by rw [hqsl]; have := HLB.out; omega)
      rw [HQS.out, asks_map, List.map_append, agr_join B (s.map askE) (t'.map askE) (pre.map askE) bk HB.out.1 HB.out.2 (by rw [List.length_map]; exact hprel) HBK.out.2 (by rw [List.length_map]; exact HLB.out.1) (by rw [List.length_map, HTK.out.2]; exact HLB.out.2)] at hag
      obtain ⟨j, hj⟩ : ∃ z, z = sameN (s.map askE) (t'.map askE) := ⟨_, rfl⟩
      have hj1 := sameN_le (s.map askE) (t'.map askE)
      have hj2 := sameN_take (s.map askE) (t'.map askE)
      have hj3 := sameN_ge (s.map askE) (t'.map askE) k (by rw [List.length_map]; have := HN.out; omega) (by rw [List.length_map, HTK.out.2]; have := HN.out; omega) (by rw [← List.map_take, ← List.map_take, HTK.out.1])
      rw [← hj] at hag hj1 hj2 hj3
      rw [List.length_map, List.length_map, HTK.out.2] at hj1
      have HJ := Lib.hid (And.intro hj1 (And.intro hj2 hj3))
      have HAG := Lib.hid hag
      have HMO := Lib.hid (And.intro hmo2 (And.intro hqsl hprel))
      have mo0 : (mo : Int) ≤ 20 := by have := HBK.out; have := HLB.out; omega
      clear HR3 h9 hr10 h10 hag hj hj1 hj2 hj3 hpre hmo hmo2 hqsl hprel
      go_wp2_with (at_builtin; refine wpList_append_run rfl _ _ _ _ rfl rfl rfl HAP.out ?_)
      clear HAP
      refine HAG.out.mono ?_
      rintro r0 w11 ⟨rfl, h11⟩
      clear HAG
      have htp := top_any h11 (by have := HB.out; omega) (by have := HB.out; omega) (by rw [HMO.out.2.1]; have := HLB.out; omega)
      rw [HMO.out.2.1] at htp
      have HTP := Lib.hid htp
      have wbn : IntKind.i64.wrap (B + (k : Int)) = B + (k : Int) := IntWalk.i64_in _ (by have := HB.out; omega)
      have wal : IntKind.i64.wrap (B - (bk : Int) + (mo : Int)) = B - (bk : Int) + (mo : Int) := IntWalk.i64_in _ (by have := HB.out; have := HBK.out; omega)
      have e1 : decide (B + (j : Int) < B + (k : Int)) = false := decide_eq_false (by have := HJ.out; omega)
      have e2 : decide (B + (s.length : Int) < B + (j : Int)) = false := decide_eq_false (by have := HJ.out; omega)
      have e3 : decide (B - (bk : Int) + (mo : Int) < B + (j : Int)) = false := decide_eq_false (by have := HJ.out; have := HMO.out; omega)
      have f1 : decide (j < k) = false := decide_eq_false (by have := HJ.out; omega)
      have f2 : decide (s.length < j) = false := decide_eq_false (by have := HJ.out; omega)
      clear h11 htp
      go_wp2_with fail
      refine HTP.out.mono ?_
      rintro r0 w12 ⟨rfl, h12⟩
      have HC := Lib.hid (cut_ok (B + (j : Int)) j (by rw [HMO.out.2.1]; exact HJ.out.1.1) rfl h12 (by have := HB.out; omega) (by have := HB.out; omega) (by rw [HMO.out.2.1]; have := HLB.out; omega))
      clear HTP h12
      go_wp2_with fail
      refine HC.out.mono ?_
      rintro r0 w13 ⟨rfl, h13⟩
      have H13 : Hid (∃ qs2 : List (EnM × Value), qs2.map (·.1) = (t'.map askE).take j ∧ Sep w [PipeT g B qs2, EnT (.slice a4 mo k4) ((pre ++ t').map askP), EnT (.slice a2 t.length k2) (t'.map askP)] w13) := Lib.hid ⟨_, by rw [List.map_take, HQS.out]; exact HJ.out.2.1, h13⟩
      clear HC h13
      go_wp2_with fail
      go_loopw [17] (fun i wr => ∃ (m : Nat) (qs2 : List (EnM × Value)), m ≤ t.length ∧ i = .int .i64 (B + (m : Int)) ∧ qs2.map (·.1) = (t'.map askE).take m ∧ Sep w [PipeT g B qs2, EnT (.slice a4 mo k4) ((pre ++ t').map askP), EnT (.slice a2 t.length k2) (t'.map askP)] wr) (fun i _ => (B + 100 - intOf i).toNat)
      case atStart => obtain ⟨qs2, h1, h2⟩ := H13.out; exact ⟨j, qs2, HJ.out.1.2, rfl, h1, h2⟩
      case round =>
        clear e1 e2 e3 f1 f2
        obtain ⟨m, qs2, hm, rfl, hq2, hs⟩ := hrel
        clear H13
        have hql2 : qs2.length = m := by have := congrArg List.length hq2; rw [List.length_map, List.length_take, List.length_map, HTK.out.2] at this; omega
        by_cases hmt : m < t.length
        · have e1 : decide (B + (m : Int) < B - (bk : Int) + (mo : Int)) = true := decide_eq_true (by have := HMO.out; omega)
          obtain ⟨p, hp⟩ : ∃ z, z = bk + m := ⟨_, rfl⟩
          have wp : IntKind.i64.wrap (B + (m : Int) - (B - (bk : Int))) = (p : Int) := by rw [show B + (m : Int) - (B - (bk : Int)) = (p : Int) by omega]; exact IntWalk.i64_in _ (by have := HLB.out; have := HBK.out; omega)
          have p0 : (0 : Int) ≤ (p : Int) := by omega
          have p1 : (p : Int) < (mo : Int) := by have := HMO.out; omega
          have hpl : p < (pre ++ t').length := by rw [List.length_append, HMO.out.2.2, HTK.out.2]; omega
          obtain ⟨bx, off, rfl, -, -, -, ⟨y0, y1, y2, y3, y4, y5, y6⟩, -⟩ := (hs.sw2.enS).at (i := p) (by rw [List.length_map]; exact hpl)
          have hx : (pre ++ t')[p] = t'[m]'(by rw [HTK.out.2]; exact hmt) := by
            rw [List.getElem_append_right (by rw [HMO.out.2.2]; omega)]
            congr 1
            rw [HMO.out.2.2]; omega
          rw [List.getElem_map] at y0 y1 y2 y3 y4 y5 y6
          dsimp only at y0 y1 y2 y3 y4 y5 y6
          rw [hx] at y0 y1 y2 y3 y4 y5
          have hmx : (t'.map askE).take (m + 1) = (t'.map askE).take m ++ [askE (t'[m]'(by rw [HTK.out.2]; exact hmt))] := by
            rw [List.take_succ_eq_append_getElem (by rw [List.length_map, HTK.out.2]; exact hmt), List.getElem_map]
          have hok := askE_ok (t'[m]'(by rw [HTK.out.2]; exact hmt))
          have hln : (askE (t'[m]'(by rw [HTK.out.2]; exact hmt))).p.ls = [] := rfl
          generalize askE (t'[m]'(by rw [HTK.out.2]; exact hmt)) = x at *
          have HAPP := Lib.hid (append_ok x (.slice none 0 0) hs (fun wx hx => by rw [hln]; exact lnK wx) HK.out hok (by have := HB.out; omega) (by have := HB.out; omega) (by have := HLB.out; omega))
          unfold enV at HAPP
          have wi : IntKind.i64.wrap (B + (m : Int) + 1) = B + (m : Int) + 1 := IntWalk.i64_in _ (by have := HB.out; have := HLB.out; omega)
          have HMX := Lib.hid (And.intro hmx (And.intro hq2 (And.intro hmt (show (m : Int) ≤ 12 by have := HLB.out; omega))))
          clear hs hx hmx hok hln hm hmt hq2 hql2 hpl hp
          go_wp2_with fail
          refine HAPP.out.mono ?_
          rintro r0 w14 ⟨u, rfl, h14⟩
          have H14 := Lib.hid h14
          clear HAPP h14 y0 y1 y2 y3 y4 y5 y6
          go_wp2_with fail
          go_roundw
          case rel => exact ⟨m + 1, qs2 ++ [(x, u)], HMX.out.2.2.1, by rw [show B + ((m + 1 : Nat) : Int) = B + (m : Int) + 1 by omega], by rw [HMX.out.1, List.map_append, HMX.out.2.1]; rfl, H14.out⟩
          case measure => have := HMX.out.2.2.2; simp [intOf]; omega
        · have e1 : decide (B + (m : Int) < B - (bk : Int) + (mo : Int)) = false := decide_eq_false (by have := HMO.out; omega)
          have hqf : qs2.map (·.1) = (t'.map askP).map (·.1) := by rw [hq2, asks_map, List.take_of_length_le (by rw [List.length_map, HTK.out.2]; omega)]
          have hq2l : qs2.length = t.length := by omega
          have HFR := Lib.hid (from_ok B 0 (Nat.zero_le _) (by omega) (fun q hq => by
            have h9 : q.1 ∈ (t'.map askP).map (·.1) := hqf ▸ List.mem_map_of_mem hq
            obtain ⟨z, hz, hz2⟩ := List.mem_map.1 h9
            rw [← hz2, (asks_ok t' z hz).2]; simp) hs (by have := HB.out; omega) (by have := HB.out; omega) (by rw [hq2l]; have := HLB.out; omega))
          have HQF := Lib.hid hqf
          clear hs hm hmt hq2 hql2 hqf hq2l
          go_wp2_with fail
          refine HFR.out.mono ?_
          rintro r0 w15 ⟨u5, rfl, rs, hrs, h15⟩
          rw [List.drop_zero, HQF.out] at hrs
          have hrl : rs.length = t.length := by have := congrArg List.length hrs; rw [List.length_map, List.length_map, List.length_map, HTK.out.2] at this; exact this
          obtain ⟨a5, k5, rfl, -⟩ := h15.enForm
          rw [hrl] at h15 ⊢
          have HSR := Lib.hid (samerow12 a5 a2 k5 k2 t.length rs (t'.map askP) h15 (fun wx hx => hx.enS) (fun wx hx => hx.sw4.enS) hrl (by have := HLB.out; omega) hrs.symm)
          clear HFR h15 hrs hrl
          go_wp2_with fail
          refine HSR.out.mono ?_
          rintro r0 w16 ⟨rfl, h16⟩
          have HW := Lib.hid (works12_any h16 (HK.out.below h16.low))
          clear HSR h16
          go_wp2_with fail
          refine HW.out.mono ?_
          rintro r0 w17 ⟨rfl, h17⟩
          have HE := Lib.hid h17.low
          clear HW h17
          go_wp2_with fail
          go_ret
          exact ⟨rfl, HE.out⟩
theorem joins12_in (v0 va vb : Value) (w : World) (h0 : Av Tryd.prog w 43 v0) (ha : RdC Tryd.prog w 51 [va]) (hb : RdC Tryd.prog w 51 [vb]) (hk : KindsAt w) :
    Calls Tryd.prog 6 #[v0, va, vb] w fun e w' => e = .returned (.bool true) ∧ Below w.heap.size w w' := by
  obtain ⟨x, y, z, rfl⟩ := h0.ints3 Tryd.underlying43 Tryd.underlying3 (by kernel_rfl) (by kernel_rfl)
  obtain ⟨l, hl, -⟩ := ha.ints64 Tryd.underlying51 Tryd.underlying3 (by kernel_rfl)
  obtain ⟨m, hm, -⟩ := hb.ints64 Tryd.underlying51 Tryd.underlying3 (by kernel_rfl)
  exact joins12 x y z va vb l m w hl hm hk
end Go.Proofs.YtpknfeokfladkaaDoor
