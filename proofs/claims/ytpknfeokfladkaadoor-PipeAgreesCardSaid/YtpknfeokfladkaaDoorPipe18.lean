/- PipeAgrees. -/
import Derived.Test.YtpknfeokfladkaaDoorPipe18a
import Derived.Deep.MidRow
namespace Go.Proofs.YtpknfeokfladkaaDoor
open Go.RowKit
set_option linter.unusedVariables false
set_option linter.unusedSimpArgs false
set_option maxRecDepth 100000 in
set_option maxHeartbeats 64000000 in
theorem agrees12 (base x0 x1 x2 : Int) (v : Value) (xs : List (EnM × Value)) (w : World) (hv : EnS w v xs) (hk : KindsAt w) :
    Calls Tryd.prog 4 #[.int .i64 base, v, .agg #[.int .i64 x0, .int .i64 x1, .int .i64 x2]] w fun e w' => e = .returned (.bool true) ∧ Below w.heap.size w w' := by
  have HK := Lib.hid hk
  obtain ⟨va, vc, rfl⟩ := hv.len
  have hA := (Sep.start w).alloc (.cells #[.int .i64 x0, .int .i64 x1, .int .i64 x2] 43)
  obtain ⟨b5, hb5⟩ : ∃ z, z = w.heap.size := ⟨_, rfl⟩
  obtain ⟨w3, hw3⟩ : ∃ z, z = w.alloc (.cells #[.int .i64 x0, .int .i64 x1, .int .i64 x2] 43) := ⟨_, rfl⟩
  rw [← hb5, ← hw3] at hA
  have HV := Lib.hid hv
  have HBR := Lib.hid (bring_any base 1099511627776 w3 (by unfold Sm; omega))
  obtain ⟨B, hB, hB1⟩ : ∃ q : Int, base % 1099511627776 = q ∧ 0 ≤ q ∧ q < 1099511627776 := ⟨_, rfl, by omega, by omega⟩
  rw [hB] at HBR
  have HB := Lib.hid hB1
  have HP := Lib.hid (pnew_any B hA hB1.1 (by omega))
  have n0 : (0 : Int) ≤ (xs.length : Int) := by omega
  clear hk hv hA hB hB1
  go_enter Tryd.func4, Tryd.ntmps4
  (try dsimp only); repeat' (first | go_values | go_skip | go_guarded | go_step | go_upon | go_back)
  rw [← hw3, ← hb5]
  clear hw3 hb5
  refine HBR.out.mono ?_
  rintro r0 w4 ⟨rfl, rfl⟩
  clear HBR
  (try dsimp only); repeat' (first | go_values | go_skip | go_guarded | go_step | go_upon | go_back)
  refine HP.out.mono ?_
  rintro r0 w5 ⟨g, rfl, h1⟩
  have HD := Lib.hid (rnew_any B h1 HB.out.1 (by have := HB.out; omega))
  clear HP h1
  (try dsimp only); repeat' (first | go_values | go_skip | go_guarded | go_step | go_upon | go_back)
  refine HD.out.mono ?_
  rintro r0 w6 ⟨g', rfl, h2⟩
  have H2 := Lib.hid (Sep.enNil (h2.pick [1, 0, 2] rfl : Sep w [PipeT g B [], DocT g' B [], Cl b5 #[.int .i64 x0, .int .i64 x1, .int .i64 x2] 43] _))
  clear HD h2
  (try dsimp only); repeat' (first | go_values | go_skip | go_guarded | go_step | go_upon | go_back)
  go_loopw [11, 12] (fun ov i wr => ∃ (k m : Nat) (oa : Option Addr) (oc : Nat) (ows ps qs : List (EnM × Value)), k ≤ xs.length ∧ k ≤ 24 ∧ m ≤ k ∧ ov = .slice oa m oc ∧ i = .int .i64 k ∧ KA ows ps qs m ∧ Sep w [EnT (.slice oa m oc) ows, PipeT g B ps, DocT g' B qs, Cl b5 #[.int .i64 x0, .int .i64 x1, .int .i64 x2] 43] wr) (fun _ i _ => 24 - (intOf i).toNat)
  case atStart => exact ⟨0, 0, none, 0, [], [], [], Nat.zero_le _, by omega, by omega, rfl, rfl, ⟨rfl, rfl, rfl, by simp⟩, H2.out⟩
  case round =>
    obtain ⟨k, m, oa, oc, ows, ps, qs, hkl, hk24, hmk, rfl, rfl, hka, hs⟩ := hrel
    clear H2
    have k0 : (0 : Int) ≤ (k : Int) := by omega
    have k24 : (k : Int) ≤ 24 := by omega
    by_cases hgo : k < xs.length ∧ k < 24
    · have d0 : decide (k < xs.length) = true := decide_eq_true hgo.1
      have d1 : decide ((k : Int) < 24) = true := decide_eq_true (by omega)
      have k1 : (k : Int) < (xs.length : Int) := by omega
      obtain ⟨bx, off, rfl, -, -, -, -, hln0⟩ := (HV.out).at hgo.1
      have HE : Hid (∀ wx, Below w.heap.size w wx → En7 wx bx (off + k * 7) (xs[k]'hgo.1).1 (xs[k]'hgo.1).2) := Lib.hid (fun wx hb => by
        obtain ⟨bx', off', he, -, -, -, h6, -⟩ := (HV.out.below hb).at hgo.1
        simp only [Option.some.injEq, Addr.mk.injEq, and_true] at he
        obtain ⟨rfl, rfl⟩ := he
        exact h6)
      obtain ⟨⟨x, xv⟩, hxv⟩ : ∃ z, z = xs[k]'hgo.1 := ⟨_, rfl⟩
      rw [← hxv] at HE hln0
      dsimp only at HE hln0
      obtain ⟨la, lc, rfl⟩ := hln0.len
      have HLN := Lib.hid hln0
      have HG := Lib.hid (And.intro hgo (And.intro hmk hka))
      obtain ⟨e0, e1, e2, e3, e4, e5, e6⟩ := HE.out _ hs.low
      cases hok : x.ok with
      | false =>
        have hap := append_bad x (.slice la x.p.ls.length lc) (hs.pick [1, 0, 2, 3] rfl : Sep w [PipeT g B ps, EnT (.slice oa m oc) ows, DocT g' B qs, Cl b5 #[.int .i64 x0, .int .i64 x1, .int .i64 x2] 43] _) (fun wx hx => HLN.out.below hx.low) HK.out hok
        have HAP := Lib.hid hap
        unfold enV at HAP
        have HOK := Lib.hid hok
        clear hs hap hgo hkl hk24 hmk hka hxv hln0 hok
        (try dsimp only); repeat' (first | go_values | go_skip | go_guarded | go_step | go_upon | go_back)
        refine HAP.out.mono ?_
        rintro r0 w7 ⟨rfl, h7⟩
        clear HAP e0 e1 e2 e3 e4 e5 e6
        obtain ⟨e0, e1, e2, e3, e4, e5, e6⟩ := HE.out _ h7.low
        have hap := rappend_bad x (.slice la x.p.ls.length lc) (h7.pick [2, 0, 1, 3] rfl : Sep w [DocT g' B qs, PipeT g B ps, EnT (.slice oa m oc) ows, Cl b5 #[.int .i64 x0, .int .i64 x1, .int .i64 x2] 43] _) (fun wx hx => HLN.out.below hx.low) HOK.out
        have HAP := Lib.hid hap
        unfold enV at HAP
        clear hap h7
        (try dsimp only); repeat' (first | go_values | go_skip | go_guarded | go_step | go_upon | go_back)
        refine HAP.out.mono ?_
        rintro r0 w8 ⟨rfl, h8⟩
        have H8 : Hid (Sep w [EnT (.slice oa m oc) ows, PipeT g B ps, DocT g' B qs, Cl b5 #[.int .i64 x0, .int .i64 x1, .int .i64 x2] 43] w8) := Lib.hid (h8.pick [2, 1, 0, 3] rfl)
        clear HAP h8 e0 e1 e2 e3 e4 e5 e6
        (try dsimp only); repeat' (first | go_values | go_skip | go_guarded | go_step | go_upon | go_back)
        go_roundw
        case rel => exact ⟨k + 1, m, oa, oc, ows, ps, qs, HG.out.1.1, HG.out.1.2, by have := HG.out.2.1; omega, rfl, by go_num, HG.out.2.2, H8.out⟩
        case measure => have := HG.out.1.2; simp [intOf]; omega
      | true =>
        have hx4 : x.p.ls.length ≤ 1000 := by have := ok_len (EnM.parts hok).2; omega
        have hap := append_ok x (.slice la x.p.ls.length lc) (hs.pick [1, 0, 2, 3] rfl : Sep w [PipeT g B ps, EnT (.slice oa m oc) ows, DocT g' B qs, Cl b5 #[.int .i64 x0, .int .i64 x1, .int .i64 x2] 43] _) (fun wx hx => HLN.out.below hx.low) HK.out hok HB.out.1 (by have := HB.out; omega) (by rw [hka.lp]; omega)
        obtain ⟨m2, hm2⟩ : ∃ z, z = m + 1 := ⟨_, rfl⟩
        rw [hka.lp, ← hm2] at hap
        have HAP := Lib.hid hap
        unfold enV at HAP
        have HOK := Lib.hid (And.intro hok (And.intro hx4 hm2))
        clear hs hap hgo hkl hk24 hmk hka hxv hln0 hok hx4 hm2
        (try dsimp only); repeat' (first | go_values | go_skip | go_guarded | go_step | go_upon | go_back)
        refine HAP.out.mono ?_
        rintro r0 w7 ⟨u, rfl, h7⟩
        clear HAP e0 e1 e2 e3 e4 e5 e6
        obtain ⟨e0, e1, e2, e3, e4, e5, e6⟩ := HE.out _ h7.low
        have hap := rappend_ok x (.slice la x.p.ls.length lc) (h7.pick [2, 0, 1, 3] rfl : Sep w [DocT g' B qs, PipeT g B (ps ++ [(x, u)]), EnT (.slice oa m oc) ows, Cl b5 #[.int .i64 x0, .int .i64 x1, .int .i64 x2] 43] _) (fun wx hx => HLN.out.below hx.low) HOK.out.1 HB.out.1 (by have := HB.out; omega) (by rw [HG.out.2.2.lq]; have := HG.out; omega) HG.out.2.2.lq_
        rw [HG.out.2.2.lq, ← HOK.out.2.2] at hap
        have HAP := Lib.hid hap
        unfold enV at HAP
        clear hap h7
        (try dsimp only); repeat' (first | go_values | go_skip | go_guarded | go_step | go_upon | go_back)
        refine HAP.out.mono ?_
        rintro r0 w8 ⟨t, qs2, rfl, hq2, h8⟩
        clear HAP e0 e1 e2 e3 e4 e5 e6
        obtain ⟨e0, e1, e2, e3, e4, e5, e6⟩ := HE.out _ h8.low
        have HCP := Lib.hid (recopy_any x (.slice la x.p.ls.length lc) h8 (HLN.out.below h8.low) HOK.out.2.1)
        unfold enV at HCP
        have HQ2 := Lib.hid hq2
        clear h8 hq2
        (try dsimp only); repeat' (first | go_values | go_skip | go_guarded | go_step | go_upon | go_back)
        refine HCP.out.mono ?_
        rintro r0 w9 ⟨cu, rfl, h9⟩
        obtain ⟨ca, cc, rfl, -⟩ := h9.rnForm
        have h10 := h9.alloc (.cells (enC x (.slice ca x.p.ls.length cc)) 34)
        obtain ⟨oa2, oc2, w10, hr, h11⟩ := append_en (ty := 35) (h10.pick [0, 4, 1, 3, 2, 5] rfl : Sep w [Cl w9.heap.size (enC x (.slice ca x.p.ls.length cc)) 34, EnT (.slice oa m oc) ows, LnR (.slice ca x.p.ls.length cc) x.p.ls, PipeT g B (ps ++ [(x, u)]), DocT g' B (qs2 ++ [(x, t)]), Cl b5 #[.int .i64 x0, .int .i64 x1, .int .i64 x2] 43] _) rfl (by rw [HG.out.2.2.lo]; have := HG.out; omega)
        rw [HG.out.2.2.lo, ← HOK.out.2.2] at hr h11
        unfold enC at hr
        have HAPP := Lib.hid hr
        have H11 := Lib.hid h11
        have hka2 := HG.out.2.2.more HQ2.out x u (.slice ca x.p.ls.length cc) t HOK.out.2.1
        rw [← HOK.out.2.2] at hka2
        have HKA := Lib.hid hka2
        clear HCP h9 h10 hr h11 hka2 e0 e1 e2 e3 e4 e5 e6
        go_wp2_with (at_builtin; refine wpList_append_run rfl _ _ _ _ rfl rfl rfl HAPP.out ?_)
        go_roundw
        case rel => exact ⟨k + 1, m2, oa2, oc2, _, _, _, HG.out.1.1, HG.out.1.2, by have := HG.out.2.1; have := HOK.out.2.2; omega, rfl, by go_num, HKA.out, H11.out⟩
        case measure => have := HG.out.1.2; simp [intOf]; omega
    · have m0 : (0 : Int) ≤ (m : Int) := by omega
      have m24 : (m : Int) ≤ 24 := by omega
      have HKA := Lib.hid hka
      obtain ⟨c0, c1, c2⟩ := cells3 (hs.pick [3] rfl : Sep w [Cl b5 #[.int .i64 x0, .int .i64 x1, .int .i64 x2] 43] _)
      have wm : IntKind.i64.wrap ((m : Int) + 1) = (m : Int) + 1 := IntWalk.i64_in _ (by omega)
      have HX0 := Lib.hid (bring_any x0 ((m : Int) + 1) wr (by unfold Sm; omega))
      obtain ⟨f, hf, hfm⟩ : ∃ f : Nat, x0 % ((m : Int) + 1) = (f : Int) ∧ f ≤ m := ⟨(x0 % ((m : Int) + 1)).toNat, by have := Int.emod_nonneg x0 (show (m : Int) + 1 ≠ 0 by omega); omega, by have := Int.emod_lt_of_pos x0 (show (0 : Int) < (m : Int) + 1 by omega); have := Int.emod_nonneg x0 (show (m : Int) + 1 ≠ 0 by omega); omega⟩
      rw [hf] at HX0
      have f0 : (0 : Int) ≤ (f : Int) := by omega
      have f1 : (f : Int) ≤ (m : Int) := by omega
      obtain ⟨-, oc1, hoc, hmc, -⟩ : ∃ (u : Unit) (c : Nat), oc = c ∧ m ≤ c ∧ True := by
        obtain ⟨a, c, he, h1, -⟩ := hs.enForm
        simp only [Value.slice.injEq] at he
        exact ⟨(), oc, rfl, by rw [hka.lo] at h1; omega, trivial⟩
      obtain ⟨q, hq⟩ : ∃ q, (if oc = f then oa else Option.map (fun x => x.add (f * 7)) oa) = q := ⟨_, rfl⟩
      have hes := ens_sub f m oc hs.enS hka.lo hfm (Nat.le_refl _) (by omega) (Nat.le_refl _)
      rw [hq, show (ows.drop f).take (m - f) = ows.drop f from List.take_of_length_le (by rw [List.length_drop, hka.lo]; omega)] at hes
      obtain ⟨mo, hmo⟩ : ∃ z, z = m - f := ⟨_, rfl⟩
      have hcr := copyrow_any q (oc - f) (m - f) (ows.drop f) hs hes (by rw [List.length_drop, hka.lo]) (by omega) (fun y hy => hka.ln y (List.mem_of_mem_drop hy))
      have HCR := Lib.hid hcr
      have HMO := Lib.hid (And.intro hmo hfm)
      have HS := Lib.hid hs.low
      by_cases hkx : k < xs.length
      · have d0 : decide (k < xs.length) = true := decide_eq_true hkx
        have d1 : decide ((k : Int) < 24) = false := decide_eq_false (by omega)
        clear hs hcr hes hgo hkl hk24 hmk hka hkx hf hfm hmo hoc hmc
        (try dsimp only); repeat' (first | go_values | go_skip | go_guarded | go_step | go_upon | go_back)
        refine HX0.out.mono ?_
        rintro r0 w7 ⟨rfl, rfl⟩
        clear HX0
        (try dsimp only); repeat' (first | go_values | go_skip | go_guarded | go_step | go_upon | go_back)
        refine HCR.out.mono ?_
        rintro r0 w8 ⟨u, os, rfl, hos, h8⟩
        obtain ⟨ta, tc, rfl, -⟩ := h8.enForm
        have hol : os.length = m - f := by have := congrArg List.length hos; simpa [HKA.out.lo] using this
        rw [hol] at h8 ⊢
        rw [← HMO.out.1] at h8 ⊢
        have HLO : Hid (os.length = mo ∧ mo ≤ 24 ∧ (∀ q ∈ os, q.1.p.ls.length ≤ 1000)) := Lib.hid ⟨by rw [hol, HMO.out.1], by have := HMO.out; omega, lnq_of (ows := ows.drop f) hos (fun y hy => HKA.out.ln y (List.mem_of_mem_drop hy))⟩
        have mo0 : (0 : Int) ≤ (mo : Int) := by omega
        have mo24 : (mo : Int) ≤ 24 := by have := HLO.out; omega
        have h9 : Sep w [EnT (.slice ta mo tc) os, PipeT g B ps, DocT g' B qs, Cl b5 #[.int .i64 x0, .int .i64 x1, .int .i64 x2] 43] w8 := h8.pick [0, 2, 3, 4] rfl
        clear HCR hos hol h8 c0 c1 c2
        obtain ⟨c0, c1, c2⟩ := cells3 (h9.pick [3] rfl : Sep w [Cl b5 #[.int .i64 x0, .int .i64 x1, .int .i64 x2] 43] _)
        by_cases hmo0 : 0 < mo
        · have e0 : decide (0 < mo) = true := decide_eq_true hmo0
          by_cases hx3 : 0 < x1.tmod 3
          · as_aux_lemma =>
              have e1 : decide (0 < x1.tmod 3) = true := decide_eq_true hx3
              obtain ⟨kk, hkk, hkm⟩ : ∃ r : Nat, x1 % (mo : Int) = (r : Int) ∧ r < mo := ⟨(x1 % (mo : Int)).toNat, by have := Int.emod_nonneg x1 (show (mo : Int) ≠ 0 by omega); omega, by have := Int.emod_lt_of_pos x1 (show (0 : Int) < (mo : Int) by omega); have := Int.emod_nonneg x1 (show (mo : Int) ≠ 0 by omega); omega⟩
              have HX1 := Lib.hid (fun wx => bring_any x1 (mo : Int) wx (by unfold Sm; omega))
              rw [hkk] at HX1
              have hko : kk < os.length := by rw [HLO.out.1]; exact hkm
              obtain ⟨tb, tc', hv, hfr, hce, hset⟩ := h9.enPut kk hko
              simp only [Value.slice.injEq] at hv
              obtain ⟨rfl, -, rfl⟩ := hv
              obtain ⟨bx, off, he, -, -, -, ⟨y0, y1, y2, y3, y4, y5, y6⟩, hlx⟩ := (h9.enS).at hko
              simp only [Option.some.injEq, Addr.mk.injEq, and_true] at he
              obtain ⟨rfl, rfl⟩ := he
              simp only [Nat.zero_add] at y0 y1 y2 y3 y4 y5 y6
              have HKO := Lib.hid hko
              clear hset
              generalize hxv : os[kk] = xq at y0 y1 y2 y3 y4 y5 y6 hlx
              obtain ⟨x, xv⟩ := xq
              dsimp only at y0 y1 y2 y3 y4 y5 y6 hlx
              obtain ⟨xa, xc, rfl⟩ := hlx.len
              have i0 : (0 : Int) ≤ (kk : Int) := by omega
              have i1 : (kk : Int) < (mo : Int) := by omega
              have H9m := Lib.hid h9
              have HXV := Lib.hid hxv
              clear hmo0 hx3 hkk hkm hfr hce hlx hxv h9 hko
              (try dsimp only); repeat' (first | go_values | go_skip | go_guarded | go_step | go_upon | go_back)
              refine (HX1.out _).mono ?_
              rintro r0 w20 ⟨rfl, rfl⟩
              clear HX1
              have h10 := H9m.out.alloc (.cells #[.int .i64 x.c, .int .i64 (bits .xor .i64 x.m 1), .int .i64 x.p.k, .string x.p.s.1, .int .i64 x.p.o, .int .i64 x.p.n, .slice xa x.p.ls.length xc] 34)
              obtain ⟨z0, z1, z2, z3, z4, z5, z6⟩ := cells7 h10
              obtain ⟨tb2, tc2, hv, hfr, hce, hset⟩ := h10.sw2.enPut kk HKO.out
              simp only [Value.slice.injEq, Option.some.injEq, Addr.mk.injEq, and_true] at hv
              obtain ⟨rfl, -, rfl⟩ := hv
              have hlen : (enCs os).length = os.length * 7 := enCs_len os
              have hkl7 := HKO.out
              have HCE := Lib.hid hce
              have HFR := Lib.hid hfr
              clear hce hfr
              generalize hoq : os[kk] = oq at hset
              obtain rfl : oq = (x, .slice xa x.p.ls.length xc) := hoq.symm.trans HXV.out
              have hset2 := hset ⟨x.c, bits .xor .i64 x.m 1, x.p⟩ rfl
              have HLO3 := HLO
              obtain ⟨os2, hos2⟩ : ∃ z, z = os.set kk ((⟨x.c, bits .xor .i64 x.m 1, x.p⟩ : EnM), Value.slice xa x.p.ls.length xc) := ⟨_, rfl⟩
              dsimp only at hset2
              rw [← hos2] at hset2
              have HOS := Lib.hid (hset2.pick [0, 2, 3, 4] rfl : Sep w [EnT (.slice (some ⟨tb, 0, none⟩) mo tc) os2, PipeT g B ps, DocT g' B qs, Cl b5 #[.int .i64 x0, .int .i64 x1, .int .i64 x2] 43] _)
              replace HLO : Hid (os2.length = mo ∧ mo ≤ 24 ∧ (∀ q ∈ os2, q.1.p.ls.length ≤ 1000)) := Lib.hid ⟨by rw [hos2, List.length_set]; exact HLO3.out.1, HLO3.out.2.1, fun q hq => by
                rw [hos2] at hq
                rcases List.mem_or_eq_of_mem_set hq with hq | rfl
                · exact HLO3.out.2.2 q hq
                · exact Nat.le_trans (Nat.le_of_eq (congrArg (fun q : EnM × Value => q.1.p.ls.length) HXV.out).symm) (HLO3.out.2.2 _ (List.getElem_mem HKO.out))⟩
              have HTH : Hid (World.there (w8.alloc (.cells #[.int .i64 x.c, .int .i64 (bits .xor .i64 x.m 1), .int .i64 x.p.k, .string x.p.s.1, .int .i64 x.p.o, .int .i64 x.p.n, .slice xa x.p.ls.length xc] 34)) tb (kk * 7) 7) := Lib.hid (fun j hj => ⟨by rw [HCE.out (kk * 7 + j) (by omega)]; rfl, HFR.out _⟩)
              clear hoq h10 hset hset2 hlen hkl7 hos2 H9m HLO3 HXV HKO HCE HFR
              (try dsimp only); iterate 63 (first | go_values | go_skip | go_guarded | go_step | go_upon | go_back)
              refine wpList_store_mid rfl 34 (.tmp 122) (.tmp 121) rfl tb (kk * 7) #[.int .i64 x.c, .int .i64 (bits .xor .i64 x.m 1), .int .i64 x.p.k, .string x.p.s.1, .int .i64 x.p.o, .int .i64 x.p.n, .slice xa x.p.ls.length xc] rfl rfl HTH.out (by kernel_rfl) (by kernel_rfl) ?_
              repeat' (first | go_values | go_skip | go_guarded | go_step | go_upon | go_back)
              have h9 := HOS.out
              clear HTH HOS z0 z1 z2 z3 z4 z5 z6 y0 y1 y2 y3 y4 y5 y6
              refine tail18 B f mo m x0 x1 x2 w _ _ tc _ ows ps qs g g' b5 HB HKA HK HLO f0 f1 m24 mo0 mo24 (Lib.hid h9) ?_ _ _ _ _ _ _ _ _ _ _ _ _ _ _ _ _ _ _ _ _ _ _ _ _ _ _ _ _ _ _ _ _ _ _ _ _ _ _ _ _ _ _ _ _ _ _ _ _ _ _ _ _ _ _ _ _ _ _ _ _ _ _ _ _ _ _ _ _ _ _ _ _ _ _ _ _ _ _ _ _ _ _ _ _ _ _ _ _ _ _ _ _ _ _ _ _ _ _ _ _ _ _ _ _ _ _ _ _ _ _ _ _ _ _ _ _ _ _ _ _ _ _ _ _ _ _ _ _ _ _ _ _ _ _ _ _ _ _ _ _ _ _ _ _ _ _ _ _ _ _ _ _ _ _ _ _ _ _ _ _ _ _ _ _ _ _ _ _ _ _ _ _
              assumption
          · as_aux_lemma =>
              have e1 : decide (0 < x1.tmod 3) = false := decide_eq_false hx3
              clear hmo0 hx3
              (try dsimp only); repeat' (first | go_values | go_skip | go_guarded | go_step | go_upon | go_back)
              refine tail18 B f mo m x0 x1 x2 w _ _ tc _ ows ps qs g g' b5 HB HKA HK HLO f0 f1 m24 mo0 mo24 (Lib.hid h9) ?_ _ _ _ _ _ _ _ _ _ _ _ _ _ _ _ _ _ _ _ _ _ _ _ _ _ _ _ _ _ _ _ _ _ _ _ _ _ _ _ _ _ _ _ _ _ _ _ _ _ _ _ _ _ _ _ _ _ _ _ _ _ _ _ _ _ _ _ _ _ _ _ _ _ _ _ _ _ _ _ _ _ _ _ _ _ _ _ _ _ _ _ _ _ _ _ _ _ _ _ _ _ _ _ _ _ _ _ _ _ _ _ _ _ _ _ _ _ _ _ _ _ _ _ _ _ _ _ _ _ _ _ _ _ _ _ _ _ _ _ _ _ _ _ _ _ _ _ _ _ _ _ _ _ _ _ _ _ _ _ _ _ _ _ _ _ _ _ _ _ _ _ _
              assumption
        · as_aux_lemma =>
            have e0 : decide (0 < mo) = false := decide_eq_false hmo0
            clear hmo0
            (try dsimp only); repeat' (first | go_values | go_skip | go_guarded | go_step | go_upon | go_back)
            refine tail18 B f mo m x0 x1 x2 w _ _ tc _ ows ps qs g g' b5 HB HKA HK HLO f0 f1 m24 mo0 mo24 (Lib.hid h9) ?_ _ _ _ _ _ _ _ _ _ _ _ _ _ _ _ _ _ _ _ _ _ _ _ _ _ _ _ _ _ _ _ _ _ _ _ _ _ _ _ _ _ _ _ _ _ _ _ _ _ _ _ _ _ _ _ _ _ _ _ _ _ _ _ _ _ _ _ _ _ _ _ _ _ _ _ _ _ _ _ _ _ _ _ _ _ _ _ _ _ _ _ _ _ _ _ _ _ _ _ _ _ _ _ _ _ _ _ _ _ _ _ _ _ _ _ _ _ _ _ _ _ _ _ _ _ _ _ _ _ _ _ _ _ _ _ _ _ _ _ _ _ _ _ _ _ _ _ _ _ _ _ _ _ _ _ _ _ _ _ _ _ _ _ _ _ _ _ _ _ _ _ _
            assumption
      · have d0 : decide (k < xs.length) = false := decide_eq_false hkx
        clear hs hcr hes hgo hkl hk24 hmk hka hkx hf hfm hmo hoc hmc
        (try dsimp only); repeat' (first | go_values | go_skip | go_guarded | go_step | go_upon | go_back)
        refine HX0.out.mono ?_
        rintro r0 w7 ⟨rfl, rfl⟩
        clear HX0
        (try dsimp only); repeat' (first | go_values | go_skip | go_guarded | go_step | go_upon | go_back)
        refine HCR.out.mono ?_
        rintro r0 w8 ⟨u, os, rfl, hos, h8⟩
        obtain ⟨ta, tc, rfl, -⟩ := h8.enForm
        have hol : os.length = m - f := by have := congrArg List.length hos; simpa [HKA.out.lo] using this
        rw [hol] at h8 ⊢
        rw [← HMO.out.1] at h8 ⊢
        have HLO : Hid (os.length = mo ∧ mo ≤ 24 ∧ (∀ q ∈ os, q.1.p.ls.length ≤ 1000)) := Lib.hid ⟨by rw [hol, HMO.out.1], by have := HMO.out; omega, lnq_of (ows := ows.drop f) hos (fun y hy => HKA.out.ln y (List.mem_of_mem_drop hy))⟩
        have mo0 : (0 : Int) ≤ (mo : Int) := by omega
        have mo24 : (mo : Int) ≤ 24 := by have := HLO.out; omega
        have h9 : Sep w [EnT (.slice ta mo tc) os, PipeT g B ps, DocT g' B qs, Cl b5 #[.int .i64 x0, .int .i64 x1, .int .i64 x2] 43] w8 := h8.pick [0, 2, 3, 4] rfl
        clear HCR hos hol h8 c0 c1 c2
        obtain ⟨c0, c1, c2⟩ := cells3 (h9.pick [3] rfl : Sep w [Cl b5 #[.int .i64 x0, .int .i64 x1, .int .i64 x2] 43] _)
        by_cases hmo0 : 0 < mo
        · have e0 : decide (0 < mo) = true := decide_eq_true hmo0
          by_cases hx3 : 0 < x1.tmod 3
          · as_aux_lemma =>
              have e1 : decide (0 < x1.tmod 3) = true := decide_eq_true hx3
              obtain ⟨kk, hkk, hkm⟩ : ∃ r : Nat, x1 % (mo : Int) = (r : Int) ∧ r < mo := ⟨(x1 % (mo : Int)).toNat, by have := Int.emod_nonneg x1 (show (mo : Int) ≠ 0 by omega); omega, by have := Int.emod_lt_of_pos x1 (show (0 : Int) < (mo : Int) by omega); have := Int.emod_nonneg x1 (show (mo : Int) ≠ 0 by omega); omega⟩
              have HX1 := Lib.hid (fun wx => bring_any x1 (mo : Int) wx (by unfold Sm; omega))
              rw [hkk] at HX1
              have hko : kk < os.length := by rw [HLO.out.1]; exact hkm
              obtain ⟨tb, tc', hv, hfr, hce, hset⟩ := h9.enPut kk hko
              simp only [Value.slice.injEq] at hv
              obtain ⟨rfl, -, rfl⟩ := hv
              obtain ⟨bx, off, he, -, -, -, ⟨y0, y1, y2, y3, y4, y5, y6⟩, hlx⟩ := (h9.enS).at hko
              simp only [Option.some.injEq, Addr.mk.injEq, and_true] at he
              obtain ⟨rfl, rfl⟩ := he
              simp only [Nat.zero_add] at y0 y1 y2 y3 y4 y5 y6
              have HKO := Lib.hid hko
              clear hset
              generalize hxv : os[kk] = xq at y0 y1 y2 y3 y4 y5 y6 hlx
              obtain ⟨x, xv⟩ := xq
              dsimp only at y0 y1 y2 y3 y4 y5 y6 hlx
              obtain ⟨xa, xc, rfl⟩ := hlx.len
              have i0 : (0 : Int) ≤ (kk : Int) := by omega
              have i1 : (kk : Int) < (mo : Int) := by omega
              have H9m := Lib.hid h9
              have HXV := Lib.hid hxv
              clear hmo0 hx3 hkk hkm hfr hce hlx hxv h9 hko
              (try dsimp only); repeat' (first | go_values | go_skip | go_guarded | go_step | go_upon | go_back)
              refine (HX1.out _).mono ?_
              rintro r0 w20 ⟨rfl, rfl⟩
              clear HX1
              have h10 := H9m.out.alloc (.cells #[.int .i64 x.c, .int .i64 (bits .xor .i64 x.m 1), .int .i64 x.p.k, .string x.p.s.1, .int .i64 x.p.o, .int .i64 x.p.n, .slice xa x.p.ls.length xc] 34)
              obtain ⟨z0, z1, z2, z3, z4, z5, z6⟩ := cells7 h10
              obtain ⟨tb2, tc2, hv, hfr, hce, hset⟩ := h10.sw2.enPut kk HKO.out
              simp only [Value.slice.injEq, Option.some.injEq, Addr.mk.injEq, and_true] at hv
              obtain ⟨rfl, -, rfl⟩ := hv
              have hlen : (enCs os).length = os.length * 7 := enCs_len os
              have hkl7 := HKO.out
              have HCE := Lib.hid hce
              have HFR := Lib.hid hfr
              clear hce hfr
              generalize hoq : os[kk] = oq at hset
              obtain rfl : oq = (x, .slice xa x.p.ls.length xc) := hoq.symm.trans HXV.out
              have hset2 := hset ⟨x.c, bits .xor .i64 x.m 1, x.p⟩ rfl
              have HLO3 := HLO
              obtain ⟨os2, hos2⟩ : ∃ z, z = os.set kk ((⟨x.c, bits .xor .i64 x.m 1, x.p⟩ : EnM), Value.slice xa x.p.ls.length xc) := ⟨_, rfl⟩
              dsimp only at hset2
              rw [← hos2] at hset2
              have HOS := Lib.hid (hset2.pick [0, 2, 3, 4] rfl : Sep w [EnT (.slice (some ⟨tb, 0, none⟩) mo tc) os2, PipeT g B ps, DocT g' B qs, Cl b5 #[.int .i64 x0, .int .i64 x1, .int .i64 x2] 43] _)
              replace HLO : Hid (os2.length = mo ∧ mo ≤ 24 ∧ (∀ q ∈ os2, q.1.p.ls.length ≤ 1000)) := Lib.hid ⟨by rw [hos2, List.length_set]; exact HLO3.out.1, HLO3.out.2.1, fun q hq => by
                rw [hos2] at hq
                rcases List.mem_or_eq_of_mem_set hq with hq | rfl
                · exact HLO3.out.2.2 q hq
                · exact Nat.le_trans (Nat.le_of_eq (congrArg (fun q : EnM × Value => q.1.p.ls.length) HXV.out).symm) (HLO3.out.2.2 _ (List.getElem_mem HKO.out))⟩
              have HTH : Hid (World.there (w8.alloc (.cells #[.int .i64 x.c, .int .i64 (bits .xor .i64 x.m 1), .int .i64 x.p.k, .string x.p.s.1, .int .i64 x.p.o, .int .i64 x.p.n, .slice xa x.p.ls.length xc] 34)) tb (kk * 7) 7) := Lib.hid (fun j hj => ⟨by rw [HCE.out (kk * 7 + j) (by omega)]; rfl, HFR.out _⟩)
              clear hoq h10 hset hset2 hlen hkl7 hos2 H9m HLO3 HXV HKO HCE HFR
              (try dsimp only); iterate 63 (first | go_values | go_skip | go_guarded | go_step | go_upon | go_back)
              refine wpList_store_mid rfl 34 (.tmp 122) (.tmp 121) rfl tb (kk * 7) #[.int .i64 x.c, .int .i64 (bits .xor .i64 x.m 1), .int .i64 x.p.k, .string x.p.s.1, .int .i64 x.p.o, .int .i64 x.p.n, .slice xa x.p.ls.length xc] rfl rfl HTH.out (by kernel_rfl) (by kernel_rfl) ?_
              repeat' (first | go_values | go_skip | go_guarded | go_step | go_upon | go_back)
              have h9 := HOS.out
              clear HTH HOS z0 z1 z2 z3 z4 z5 z6 y0 y1 y2 y3 y4 y5 y6
              refine tail18 B f mo m x0 x1 x2 w _ _ tc _ ows ps qs g g' b5 HB HKA HK HLO f0 f1 m24 mo0 mo24 (Lib.hid h9) ?_ _ _ _ _ _ _ _ _ _ _ _ _ _ _ _ _ _ _ _ _ _ _ _ _ _ _ _ _ _ _ _ _ _ _ _ _ _ _ _ _ _ _ _ _ _ _ _ _ _ _ _ _ _ _ _ _ _ _ _ _ _ _ _ _ _ _ _ _ _ _ _ _ _ _ _ _ _ _ _ _ _ _ _ _ _ _ _ _ _ _ _ _ _ _ _ _ _ _ _ _ _ _ _ _ _ _ _ _ _ _ _ _ _ _ _ _ _ _ _ _ _ _ _ _ _ _ _ _ _ _ _ _ _ _ _ _ _ _ _ _ _ _ _ _ _ _ _ _ _ _ _ _ _ _ _ _ _ _ _ _ _ _ _ _ _ _ _ _ _ _ _ _
              assumption
          · as_aux_lemma =>
              have e1 : decide (0 < x1.tmod 3) = false := decide_eq_false hx3
              clear hmo0 hx3
              (try dsimp only); repeat' (first | go_values | go_skip | go_guarded | go_step | go_upon | go_back)
              refine tail18 B f mo m x0 x1 x2 w _ _ tc _ ows ps qs g g' b5 HB HKA HK HLO f0 f1 m24 mo0 mo24 (Lib.hid h9) ?_ _ _ _ _ _ _ _ _ _ _ _ _ _ _ _ _ _ _ _ _ _ _ _ _ _ _ _ _ _ _ _ _ _ _ _ _ _ _ _ _ _ _ _ _ _ _ _ _ _ _ _ _ _ _ _ _ _ _ _ _ _ _ _ _ _ _ _ _ _ _ _ _ _ _ _ _ _ _ _ _ _ _ _ _ _ _ _ _ _ _ _ _ _ _ _ _ _ _ _ _ _ _ _ _ _ _ _ _ _ _ _ _ _ _ _ _ _ _ _ _ _ _ _ _ _ _ _ _ _ _ _ _ _ _ _ _ _ _ _ _ _ _ _ _ _ _ _ _ _ _ _ _ _ _ _ _ _ _ _ _ _ _ _ _ _ _ _ _ _ _ _ _
              assumption
        · as_aux_lemma =>
            have e0 : decide (0 < mo) = false := decide_eq_false hmo0
            clear hmo0
            (try dsimp only); repeat' (first | go_values | go_skip | go_guarded | go_step | go_upon | go_back)
            refine tail18 B f mo m x0 x1 x2 w _ _ tc _ ows ps qs g g' b5 HB HKA HK HLO f0 f1 m24 mo0 mo24 (Lib.hid h9) ?_ _ _ _ _ _ _ _ _ _ _ _ _ _ _ _ _ _ _ _ _ _ _ _ _ _ _ _ _ _ _ _ _ _ _ _ _ _ _ _ _ _ _ _ _ _ _ _ _ _ _ _ _ _ _ _ _ _ _ _ _ _ _ _ _ _ _ _ _ _ _ _ _ _ _ _ _ _ _ _ _ _ _ _ _ _ _ _ _ _ _ _ _ _ _ _ _ _ _ _ _ _ _ _ _ _ _ _ _ _ _ _ _ _ _ _ _ _ _ _ _ _ _ _ _ _ _ _ _ _ _ _ _ _ _ _ _ _ _ _ _ _ _ _ _ _ _ _ _ _ _ _ _ _ _ _ _ _ _ _ _ _ _ _ _ _ _ _ _ _ _ _ _
            assumption
theorem agrees12_in (base : Int) (v a : Value) (w : World) (h : RdC Tryd.prog w 35 [v]) (ha : Av Tryd.prog w 43 a) (hk : KindsAt w) :
    Calls Tryd.prog 4 #[.int .i64 base, v, a] w fun e w' => e = .returned (.bool true) ∧ Below w.heap.size w w' := by
  obtain ⟨x, y, z, rfl⟩ := ha.ints3 Tryd.underlying43 Tryd.underlying3 (by kernel_rfl) (by kernel_rfl)
  obtain ⟨xs, hx⟩ := ens_of2 h
  exact agrees12 base x y z v xs w hx hk
end Go.Proofs.YtpknfeokfladkaaDoor
