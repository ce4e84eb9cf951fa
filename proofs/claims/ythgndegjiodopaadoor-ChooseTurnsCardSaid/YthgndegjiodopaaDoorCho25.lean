/- Stage 18's laws: the walk of ChooseTurns. -/
import Derived.Test.YthgndegjiodopaaDoorCho24
namespace Go.Proofs.YthgndegjiodopaaDoor
open Go Go.RowKit
set_option linter.unusedVariables false
set_option linter.unusedSimpArgs false
set_option maxRecDepth 100000 in
set_option maxHeartbeats 0 in
theorem chturns_any (f : Int) (va : Option Addr) (ln vc : Nat) (x0 x1 : Int) (ls : List Lg) (w : World) (hK : KindsAt w) (hlen : ls.length = ln) (hls : LgS w va ls) :
    Calls Tryd.prog 4 #[.int .i64 f, .slice va ln vc, .agg #[.int .i64 x0, .int .i64 x1]] w fun e w' => e = .returned (.bool true) ∧ Below w.heap.size w w' := by
  obtain ⟨n, q, hq, hq7, hn, hn3, hn15, hen, hnq⟩ := grpN f
  have HB0 := Lib.hid (fun wx => bring_any f 7 wx (by unfold Sm; omega))
  rw [hq] at HB0
  have HN := Lib.hid hn
  have HEN := Lib.hid hen
  have HNQ := Lib.hid (And.intro hnq (And.intro hn3 (And.intro hn15 hq7)))
  have n0 : (3 : Int) ≤ (n : Int) := by omega
  have n9 : (n : Int) ≤ 15 := by omega
  have q0 : (0 : Int) ≤ (q : Int) := by omega
  have q9 : (q : Int) < 7 := by omega
  obtain ⟨t, ht, htn⟩ : ∃ t : Nat, x0 % (n : Int) = (t : Int) ∧ t < n := by
    have h1 := Int.emod_nonneg x0 (show ((n : Int)) ≠ 0 by omega)
    have h2 := Int.emod_lt_of_pos x0 (show (0 : Int) < (n : Int) by omega)
    exact ⟨(x0 % (n : Int)).toNat, by omega, by omega⟩
  have HB1 := Lib.hid (fun wx => bring_any x0 (n : Int) wx (by unfold Sm; omega))
  rw [ht] at HB1
  have t0 : (0 : Int) ≤ (t : Int) := by omega
  have tn : (t : Int) < (n : Int) := by omega
  have HT := Lib.hid htn
  have hbx := (Sep.start w).alloc (.cells #[.int .i64 x0, .int .i64 x1] 50)
  obtain ⟨bz, hbx1⟩ : ∃ q, q = w.heap.size := ⟨_, rfl⟩
  obtain ⟨wb, hwb⟩ : ∃ q, q = w.alloc (.cells #[.int .i64 x0, .int .i64 x1] 50) := ⟨_, rfl⟩
  rw [← hbx1, ← hwb] at hbx
  have HGR := Lib.hid (group_any n 4 50 va ln vc ls hbx hn15 (by omega) hlen (fun wx hx => hls.below hx.low))
  have HK := Lib.hid hK
  clear hq hq7 hn hn3 hn15 hen hnq ht htn hlen hls hK hbx
  go_enter Tryd.func4, Tryd.ntmps4
  (try dsimp only); repeat' (first | go_values | go_skip | go_guarded | go_step | go_upon | go_back)
  refine (HB0.out _).mono ?_
  rintro r0 w1 ⟨rfl, rfl⟩
  clear HB0
  (try dsimp only); repeat' (first | go_values | go_skip | go_guarded | go_step | go_upon | go_back)
  simp only [HN.out]
  (try rw [← hbx1, ← hwb])
  clear hbx1 hwb
  refine HGR.out.mono ?_
  rintro r0 w2 ⟨a1, c1, xs, rfl, hxl, hpr, h2⟩
  clear HGR
  have HX := Lib.hid (And.intro hxl hpr)
  have H2 := Lib.hid (h2.ofrNil : Sep w [OfR (.slice none 0 0) [], OfT (.slice a1 n c1) xs, Cl bz #[.int .i64 x0, .int .i64 x1] 50] w2)
  have HCAP := Lib.hid (show n ≤ c1 by obtain ⟨a, c, e, h5, -⟩ := h2.ofForm; simp only [Value.slice.injEq] at e; obtain ⟨-, -, rfl⟩ := e; omega)
  clear hxl hpr h2
  have n0' : (0 : Int) ≤ (n : Int) := by omega
  obtain ⟨fl, hfl⟩ : ∃ fl : Bool, fl = decide (x1.tmod 2 = 0) := ⟨_, rfl⟩
  have HFL := Lib.hid hfl
  clear hfl
  (try dsimp only); repeat' (first | go_values | go_skip | go_guarded | go_step | go_upon | go_back)
  go_loopw [9, 10] (fun ov iv wr => ∃ (i : Nat) (av : Option Addr) (cv : Nat), i ≤ n ∧ iv = .int .i64 i ∧ ov = .slice av i cv ∧ Sep w [OfR (.slice av i cv) (othr xs n t fl i), OfT (.slice a1 n c1) xs, Cl bz #[.int .i64 x0, .int .i64 x1] 50] wr) (fun _ iv _ => n - (intOf iv).toNat)
  case atStart => exact ⟨0, none, 0, by omega, rfl, rfl, H2.out⟩
  case round =>
    obtain ⟨i, av, cv, hi, rfl, rfl, hs⟩ := hrel
    clear H2
    have i0 : (0 : Int) ≤ (i : Int) := by omega
    by_cases hin : i < n
    · have e0 : decide (i < n) = true := decide_eq_true hin
      have e0' : decide ((i : Int) < (n : Int)) = true := decide_eq_true (by omega)
      have i9 : (i : Int) < (n : Int) := by omega
      have hbx : Sep w [Cl bz #[.int .i64 x0, .int .i64 x1] 50] wr := Sep.pick hs [2] rfl
      have g0 := hbx.cell (o := 0) (x := .int .i64 x0) rfl
      have g1 := hbx.cell (o := 1) (x := .int .i64 x1) rfl
      obtain ⟨s, hs0⟩ : ∃ s, s = (i + t) % n := ⟨_, rfl⟩
      have hsn : s < n := by rw [hs0]; exact Nat.mod_lt _ (by omega)
      have m1 : ((i : Int) + (t : Int)).tmod (n : Int) = (s : Int) := by rw [Int.tmod_eq_emod_of_nonneg (by omega), hs0]; simp
      have m2 : ((i : Int) + (t : Int)) % (n : Int) = (s : Int) := by rw [hs0]; simp
      have M1 := Lib.hid m1
      have M2 := Lib.hid m2
      have s0 : (0 : Int) ≤ (s : Int) := by omega
      have sn : (s : Int) < (n : Int) := by omega
      obtain ⟨u, hu⟩ : ∃ u, u = sgm n t fl i := ⟨_, rfl⟩
      have hun : u < n := by rw [hu]; exact sgm_lt n t fl i (by omega)
      have hux : u < xs.length := by rw [HX.out.1]; exact hun
      have hOF : Sep w [OfT (.slice a1 n c1) xs] wr := Sep.pick hs [1] rfl
      obtain ⟨gx, rfl, -, hcell, hld⟩ := hOF.ofLoad u hux
      obtain ⟨za, zn, hzv⟩ := hOF.ofVs (List.getElem_mem hux)
      have hox : othr xs n t fl (i + 1) = othr xs n t fl i ++ [xs[u]] := by rw [othr_succ, ← hu, List.getD_eq_getElem?_getD, List.getElem?_eq_getElem hux]; rfl
      obtain ⟨⟨zf, zl, zb, zc, zv, zp⟩, hz⟩ : ∃ z, z = xs[u] := ⟨_, rfl⟩
      rw [← hz] at hzv hox hld
      dsimp only at hzv
      subst hzv
      have h9 := hs.alloc (.cells (ovC ⟨zf, zl, zb, zc, .slice za zp.length zn, zp⟩) 33)
      have hol : (othr xs n t fl i).length = i := othr_len ..
      obtain ⟨a9, c9, w9, hr, h10⟩ := append_ofr (ty := 26) (x := ⟨zf, zl, zb, zc, .slice za zp.length zn, zp⟩) h9 ⟨za, zn, rfl⟩ (by rw [hol]; omega)
      rw [hol] at hr h10
      rw [← hox] at h10
      unfold ovC at hr hld
      dsimp only at hr hld
      have HR := Lib.hid hr
      have H10 := Lib.hid h10
      have HLD := Lib.hid hld
      have u0 : (0 : Int) ≤ (u : Int) := by omega
      have un : (u : Int) < (n : Int) := by omega
      have HIN := Lib.hid hin
      have hSG : u = if fl then n - 1 - s else s := by rw [hu, hs0]; rfl
      have HB1w := Lib.hid (HB1.out wr)
      have hn0 : ¬ n = 0 := by omega
      clear hs hbx m1 hux hOF hcell hz h9 hol hr h10 hox hld hin hi hu
      cases fl with
      | false =>
        have hf2 : ¬ x1.tmod 2 = 0 := of_decide_eq_false HFL.out.symm
        have hus : u = s := hSG
        subst hus
        clear hSG hs0 hsn hun
        have d2 : decide (x1.tmod 2 = 0) = false := decide_eq_false hf2
        have d2' : (x1.tmod 2 == 0) = false := by simpa using hf2
        (try dsimp only); repeat' (first | go_values | go_skip | go_guarded | go_step | go_upon | go_back)
        refine HB1w.out.mono ?_
        rintro r0 w3 ⟨rfl, rfl⟩
        clear HB1w
        (try dsimp only); repeat' (first | (with_reducible show wpList _ _ _ (Oper.mk _ (Op.load 33 _) _ _ _ _ :: _) _ _; refine stopP ?_) | go_values | go_skip | go_guarded | go_step | go_upon | go_back)
        unfold StopP
        have hq_ := HLD.out
        refine wpList_load_run rfl 33 _ rfl _ _ rfl hq_ ?_
        clear hq_ HLD m2 g0 g1 d2 d2' hf2
        (try dsimp only); repeat' (first | (at_builtin; refine stopP ?_) | go_values | go_skip | go_guarded | go_step | go_upon | go_back)
        unfold StopP
        refine wpList_append_r rfl _ _ _ _ rfl rfl rfl HR.out ?_
        (try dsimp only); repeat' (first | go_values | go_skip | go_guarded | go_step | go_upon | go_back)
        go_roundw
        case rel => exact ⟨i + 1, a9, c9, by have := HIN.out; omega, by go_num, rfl, H10.out⟩
        case measure => have := HIN.out; simp [intOf]; omega
      | true =>
        have hf2 : x1.tmod 2 = 0 := of_decide_eq_true HFL.out.symm
        have m3 : (n : Int) - 1 - (s : Int) = (u : Int) := by
          have : u = n - 1 - s := hSG
          omega
        clear hSG hs0 hsn hun
        have d2 : decide (x1.tmod 2 = 0) = true := decide_eq_true hf2
        have d2' : (x1.tmod 2 == 0) = true := by simpa using hf2
        (try dsimp only); repeat' (first | go_values | go_skip | go_guarded | go_step | go_upon | go_back)
        refine HB1w.out.mono ?_
        rintro r0 w3 ⟨rfl, rfl⟩
        clear HB1w
        (try dsimp only); repeat' (first | (with_reducible show wpList _ _ _ (Oper.mk _ (Op.load 33 _) _ _ _ _ :: _) _ _; refine stopP ?_) | go_values | go_skip | go_guarded | go_step | go_upon | go_back)
        unfold StopP
        have hq_ := HLD.out
        refine wpList_load_run rfl 33 _ rfl _ _ rfl hq_ ?_
        clear hq_ HLD m2 m3 g0 g1 d2 d2' hf2
        (try dsimp only); repeat' (first | (at_builtin; refine stopP ?_) | go_values | go_skip | go_guarded | go_step | go_upon | go_back)
        unfold StopP
        refine wpList_append_r rfl _ _ _ _ rfl rfl rfl HR.out ?_
        (try dsimp only); repeat' (first | go_values | go_skip | go_guarded | go_step | go_upon | go_back)
        go_roundw
        case rel => exact ⟨i + 1, a9, c9, by have := HIN.out; omega, by go_num, rfl, H10.out⟩
        case measure => have := HIN.out; simp [intOf]; omega
    · have e0 : decide (i < n) = false := decide_eq_false hin
      have e0' : decide ((i : Int) < (n : Int)) = false := decide_eq_false (by omega)
      obtain rfl : i = n := by omega
      have hxsn : xs.take i = xs := List.take_of_length_le (by have := HX.out.1; omega)
      have hsw : Sep w [OfT (.slice a1 i c1) xs, OfR (.slice av i cv) (othr xs i t fl i), Cl bz #[.int .i64 x0, .int .i64 x1] 50] wr := Sep.pick hs [1, 0, 2] rfl
      have hAP := grp_addP 4 50 ls i i (by omega) (Nat.le_refl _) HNQ.out.2.2.1
      have hadd : ∀ x ∈ xs, AddO i 100 x := fun x hx => by
        have h7 : x.pr ∈ (grp 4 50 ls i).map OvM.pr := by rw [← HX.out.2]; exact List.mem_map_of_mem hx
        obtain ⟨y, hy, e⟩ := List.mem_map.1 h7
        exact addO_of (hsw.ofVs hx) e.symm (hAP y hy)
      have hnd : (xs.map (·.fr)).Nodup := by rw [pr_fr HX.out.2, grp_fr]; exact range_nodup i
      have hperm := othr_perm xs i t fl HT.out HX.out.1
      have hpg := othr_perm (grp 4 50 ls i) i t fl HT.out (grp_len ..)
      have hpr2 : (othr xs i t fl i).map OvM.pr = (othr (grp 4 50 ls i) i t fl i).map OvM.pr := by
        unfold othr
        rw [List.map_map, List.map_map]
        refine List.map_congr_left fun j hj => ?_
        have hsj := sgm_lt i t fl j (by have := HT.out; omega)
        show (xs.getD (sgm i t fl j) ovZ).pr = ((grp 4 50 ls i).getD (sgm i t fl j) ovZ).pr
        rw [List.getD_eq_getElem?_getD, List.getD_eq_getElem?_getD, List.getElem?_eq_getElem (by rw [HX.out.1]; exact hsj), List.getElem?_eq_getElem (by rw [grp_len]; exact hsj)]
        exact pr_at HX.out.2 _ _ _
      have hen1 : enough i ≠ 0 := by have := HEN.out; omega
      have HO1 := Lib.hid (offers_any i 100 a1 i c1 xs hsw HNQ.out.2.2.1 hen1 (by omega) (by omega) HX.out.1 (by have h5 := hsw.ofHrd (k := i); rw [hxsn] at h5; exact h5) (by have := HNQ.out.2.2.1; omega) (fun wx hx x hxm => hx.ofEn hxm) hadd hnd HK.out)
      have HO2 := Lib.hid (fun (wx : World) (g b : Nat) (ys : List OvM) (hw : Sep w (OffT g b i 100 ys :: [OfT (.slice a1 i c1) xs, OfR (.slice av i cv) (othr xs i t fl i), Cl bz #[.int .i64 x0, .int .i64 x1] 50]) wx) =>
        offers_any i 100 av i cv (othr xs i t fl i) hw HNQ.out.2.2.1 hen1 (by omega) (by omega) (othr_len ..)
          (fun k hk => by
            obtain ⟨g1, off, e, hh⟩ := (Sep.pick hw [2, 0, 1, 3] rfl : Sep w [OfR (.slice av i cv) (othr xs i t fl i), OffT g b i 100 ys, OfT (.slice a1 i c1) xs, Cl bz #[.int .i64 x0, .int .i64 x1] 50] wx).ofrHrd k hk
            exact ⟨g1, off, e, fun wy hy => hh wy (Sep.pick hy [2, 0, 1, 3] rfl)⟩)
          (by have := HNQ.out.2.2.1; omega)
          (fun wy hy x hxm => hy.sw2.ofEn (hperm.mem_iff.1 hxm)) (fun x hxm => hadd x (hperm.mem_iff.1 hxm)) ((hperm.map _).nodup_iff.2 hnd) HK.out)
      have hby : byFr (grp 4 50 ls i) i = grp 4 50 ls i := by rw [byFr_grp, Nat.min_self]
      have hby2 : byFr (othr (grp 4 50 ls i) i t fl i) i = grp 4 50 ls i := by
        rw [byFr_perm hpg ((hpg.map _).nodup_iff.2 (by rw [grp_fr]; exact range_nodup i)), hby]
      have HCA := fun (wx : World) (M : List Thing) (g b : Nat) (ys : List OvM) (hx : Sep w (OffT g b i 100 ys :: M) wx) (hy : ys.map OvM.pr = (grp 4 50 ls i).map OvM.pr) => oChooseL (grp 4 50 ls i) hx hy HNQ.out.2.2.1 (bdL_of (n := i) (by have := HNQ.out.2.2.1; omega) hAP) (by rw [hby, grp_len]; omega) (by rw [grp_len]; have := HEN.out; have := HNQ.out.1; omega)
      have HCB := fun (wx : World) (M : List Thing) (g b : Nat) (ys : List OvM) (hx : Sep w (OffT g b i 100 ys :: M) wx) (hy : ys.map OvM.pr = (othr (grp 4 50 ls i) i t fl i).map OvM.pr) => oChooseL (othr (grp 4 50 ls i) i t fl i) hx hy HNQ.out.2.2.1 (bdL_of (n := i) (by have := HNQ.out.2.2.1; omega) (fun y hy => hAP y (hpg.mem_iff.1 hy))) (by rw [hby2, grp_len]; omega) (by rw [othr_len]; have := HEN.out; have := HNQ.out.1; omega)
      rw [hby] at HCA
      rw [hby2] at HCB
      have hm24 : (minO (grp 4 50 ls i)).ps.length ≤ 24 := by
        have hmem := minO_mem (grp 4 50 ls i) i (by omega) (by rw [grp_len]; exact Nat.le_refl _)
        rw [List.take_of_length_le (by rw [grp_len]; exact Nat.le_refl _)] at hmem
        exact (hAP _ hmem).2.2.1
      generalize minO (grp 4 50 ls i) = y at *
      obtain ⟨C, hCd⟩ : ∃ C, C = maxCo (grp 4 50 ls i) y.co := ⟨_, rfl⟩
      rw [← hCd] at HCA HCB
      obtain ⟨m, hm⟩ : ∃ m, m = y.ps.length := ⟨_, rfl⟩
      rw [← hm] at HCA HCB hm24
      obtain ⟨im, ba, co, fr, er, A, B, Q, him, hA1, hA2, hA3, hA4⟩ : ∃ (im : Nat) (ba co fr er : Int) (A : Option Addr → Option Addr) (B : Nat → Nat) (Q : List (EnM × Value) → List (EnM × Value)), im ≤ 24 ∧ (∀ a c, choAns y C a c = .tuple #[.agg #[.int .i64 ba, .slice none 0 0, .slice (A a) im (B c), .int .i64 co], .int .i64 fr, .int .i64 er]) ∧ (∀ qs a c wx M, Sep w (EnT (.slice a m c) qs :: M) wx → EnS wx (.slice (A a) im (B c)) (Q qs)) ∧ (∀ qs qs' : List (EnM × Value), qs.map (·.1) = qs'.map (·.1) → (Q qs).map (·.1) = (Q qs').map (·.1)) ∧ ∀ qs : List (EnM × Value), qs.map (·.1) = y.ps.map (·.1) → (Q qs).length = im := by
        unfold choAns
        rw [← hm]
        by_cases h : y.top < C
        · exact ⟨0, 0, 0, 0, 9, fun _ => none, fun _ => 0, fun _ => [], by omega, fun a c => by rw [if_pos h], fun qs a c wx M _ => .inl ⟨none, 0, rfl, rfl⟩, fun _ _ _ => rfl, fun _ _ => rfl⟩
        · exact ⟨m, y.ba, C, y.fr, 0, id, id, id, hm24, fun a c => by rw [if_neg h]; rfl, fun qs a c wx M hx => hx.enS, fun _ _ h => h, fun qs h => by have := congrArg List.length h; rw [hm]; simpa using this⟩
      have H1 := Lib.hid hA1
      have H2 := Lib.hid hA2
      have H3 := Lib.hid hA3
      have H4 := Lib.hid hA4
      have HA := Lib.hid HCA
      have HB := Lib.hid HCB
      have HP2 := Lib.hid hpr2
      have im0 : (0 : Int) ≤ (im : Int) := by omega
      have im9 : (im : Int) ≤ 24 := by omega
      clear hs hsw hAP hadd hnd hperm hpg hpr2 hen1 hby hby2 HCA HCB hm24 hCd hm hA1 hA2 hA3 hA4 him hxsn hi hin
      (try dsimp only); repeat' (first | go_values | go_skip | go_guarded | go_step | go_upon | go_back)
      refine HO1.out.mono ?_
      rintro r0 w3 ⟨g, b, ys, rfl, hys, h3⟩
      have HO := Lib.hid (HO2.out _ _ _ _ h3)
      have HYA := Lib.hid (hys.trans HX.out.2)
      clear HO1 HO2 hys h3
      (try dsimp only); repeat' (first | go_values | go_skip | go_guarded | go_step | go_upon | go_back)
      refine HO.out.mono ?_
      rintro r0 w4 ⟨g', b', zs, rfl, hzs, h4⟩
      have HC1 := Lib.hid (HA.out _ _ _ _ _ (Sep.pick h4 [1, 0] rfl : Sep w [OffT g b i 100 ys, OffT g' b' i 100 zs] w4) HYA.out)
      have HYB := Lib.hid (hzs.trans HP2.out)
      clear HO HA hzs h4
      (try dsimp only); repeat' (first | go_values | go_skip | go_guarded | go_step | go_upon | go_back)
      refine HC1.out.mono ?_
      rintro r0 w5 ⟨a2, c2, qs, rfl, hqs, h5⟩
      rw [H1.out a2 c2]
      have h5 := h5.alloc (.cells #[.int .i64 0, .slice none 0 0, .slice none 0 0, .int .i64 0] 31)
      obtain ⟨b4, hb4⟩ : ∃ q, q = w5.heap.size := ⟨_, rfl⟩
      obtain ⟨v4, hv4⟩ : ∃ q, q = w5.alloc (.cells #[.int .i64 0, .slice none 0 0, .slice none 0 0, .int .i64 0] 31) := ⟨_, rfl⟩
      rw [← hb4, ← hv4] at h5
      have HTH := Lib.hid (Sep.thereAt h5 0 4 (Nat.le_refl 4))
      have h6 := Sep.storeW h5 #[.int .i64 ba, .slice none 0 0, .slice (A a2) im (B c2), .int .i64 co] rfl
      obtain ⟨v5, hv5⟩ : ∃ q, q = v4.setCells b4 0 (#[.int .i64 ba, .slice none 0 0, .slice (A a2) im (B c2), .int .i64 co] : Array Value).toList := ⟨_, rfl⟩
      rw [← hv5] at h6
      have HQ1 := Lib.hid hqs
      have HC2 := Lib.hid (HB.out _ _ _ _ _ (Sep.pick h6 [3, 0, 1] rfl : Sep w [OffT g' b' i 100 zs, Cl b4 #[.int .i64 ba, .slice none 0 0, .slice (A a2) im (B c2), .int .i64 co] 31, EnT (.slice a2 m c2) qs] v5) HYB.out)
      clear hqs h5 h6 HB HC1
      (try dsimp only); repeat' (first | (with_reducible show wpList _ _ _ (Oper.mk _ (Op.store 31 _ _) _ _ _ _ :: _) _ _; refine stopP ?_) | go_values | go_skip | go_guarded | go_step | go_upon | go_back)
      unfold StopP
      rw [← hv4, ← hb4]
      clear hv4 hb4
      refine wpList_store_mid rfl 31 (.tmp 14) (.tmp 72) rfl b4 0 #[.int .i64 ba, .slice none 0 0, .slice (A a2) im (B c2), .int .i64 co] rfl rfl HTH.out (by kernel_rfl) (by kernel_rfl) ?_
      rw [← hv5]
      clear hv5 HTH
      (try dsimp only); repeat' (first | go_values | go_skip | go_guarded | go_step | go_upon | go_back)
      refine HC2.out.mono ?_
      rintro r0 w6 ⟨a3, c3, rs, rfl, hrs, h7⟩
      rw [H1.out a3 c3]
      have h8 := h7.alloc (.cells #[.int .i64 0, .slice none 0 0, .slice none 0 0, .int .i64 0] 31)
      obtain ⟨b6, hb6⟩ : ∃ q, q = w6.heap.size := ⟨_, rfl⟩
      obtain ⟨v6, hv6⟩ : ∃ q, q = w6.alloc (.cells #[.int .i64 0, .slice none 0 0, .slice none 0 0, .int .i64 0] 31) := ⟨_, rfl⟩
      rw [← hb6, ← hv6] at h8
      have HTH := Lib.hid (Sep.thereAt h8 0 4 (Nat.le_refl 4))
      have h9 := Sep.storeW h8 #[.int .i64 ba, .slice none 0 0, .slice (A a3) im (B c3), .int .i64 co] rfl
      obtain ⟨v7, hv7⟩ : ∃ q, q = v6.setCells b6 0 (#[.int .i64 ba, .slice none 0 0, .slice (A a3) im (B c3), .int .i64 co] : Array Value).toList := ⟨_, rfl⟩
      rw [← hv7] at h9
      have HQ := Lib.hid (show (Q qs).map (·.1) = (Q rs).map (·.1) ∧ (Q qs).length = im ∧ (Q rs).length = im from ⟨H3.out _ _ (HQ1.out.trans hrs.symm), H4.out _ HQ1.out, H4.out _ hrs⟩)
      have H9 := Lib.hid (Sep.pick h9 [0, 3, 1, 4] rfl : Sep w [Cl b6 #[.int .i64 ba, .slice none 0 0, .slice (A a3) im (B c3), .int .i64 co] 31, Cl b4 #[.int .i64 ba, .slice none 0 0, .slice (A a2) im (B c2), .int .i64 co] 31, EnT (.slice a3 m c3) rs, EnT (.slice a2 m c2) qs] v7)
      obtain ⟨A2, hA2⟩ : ∃ q, q = A a2 := ⟨_, rfl⟩
      obtain ⟨A3, hA3⟩ : ∃ q, q = A a3 := ⟨_, rfl⟩
      obtain ⟨B2, hB2⟩ : ∃ q, q = B c2 := ⟨_, rfl⟩
      obtain ⟨B3, hB3⟩ : ∃ q, q = B c3 := ⟨_, rfl⟩
      have HE1 := Lib.hid (fun (wx : World) M hx => H2.out qs a2 c2 wx M hx)
      have HE2 := Lib.hid (fun (wx : World) M hx => H2.out rs a3 c3 wx M hx)
      rw [← hA2, ← hB2] at HE1 H9 ⊢
      rw [← hA3, ← hB3] at HE2 H9 hv7 ⊢
      have g60 := H9.out.cell (o := 0) (x := .int .i64 ba) rfl
      have g62 := H9.out.cell (o := 2) (x := .slice A3 im B3) rfl
      have g63 := H9.out.cell (o := 3) (x := .int .i64 co) rfl
      have g40 := H9.out.sw2.cell (o := 0) (x := .int .i64 ba) rfl
      have g42 := H9.out.sw2.cell (o := 2) (x := .slice A2 im B2) rfl
      have g43 := H9.out.sw2.cell (o := 3) (x := .int .i64 co) rfl
      clear hrs h7 h8 h9 HC2 H1 H2 H3 H4 HQ1 hA2 hA3 hB2 hB3
      (try dsimp only); repeat' (first | (with_reducible show wpList _ _ _ (Oper.mk _ (Op.store 31 _ _) _ _ _ _ :: _) _ _; refine stopP ?_) | go_values | go_skip | go_guarded | go_step | go_upon | go_back)
      unfold StopP
      rw [← hv6, ← hb6]
      clear hv6 hb6
      refine wpList_store_mid rfl 31 (.tmp 17) (.tmp 78) rfl b6 0 #[.int .i64 ba, .slice none 0 0, .slice A3 im B3, .int .i64 co] rfl rfl HTH.out (by kernel_rfl) (by kernel_rfl) ?_
      rw [← hv7]
      clear hv7 HTH
      (try dsimp only); repeat' (first | go_values | go_skip | go_guarded | go_step | go_upon | go_back)
      clear g60 g62 g63 g40 g42 g43
      go_loopw [20] (fun iv wr => ∃ k : Nat, k ≤ im ∧ iv = .int .i64 k ∧ Sep w [Cl b6 #[.int .i64 ba, .slice none 0 0, .slice A3 im B3, .int .i64 co] 31, Cl b4 #[.int .i64 ba, .slice none 0 0, .slice A2 im B2, .int .i64 co] 31, EnT (.slice a3 m c3) rs, EnT (.slice a2 m c2) qs] wr) (fun iv _ => im - (intOf iv).toNat)
      case atStart => exact ⟨0, by omega, rfl, H9.out⟩
      case round =>
        obtain ⟨k, hkm, rfl, hs⟩ := hrel
        clear H9
        have k0 : (0 : Int) ≤ (k : Int) := by omega
        have g42 := hs.sw2.cell (o := 2) (x := .slice A2 im B2) rfl
        by_cases hk2 : k < im
        · have e1 : decide (k < im) = true := decide_eq_true hk2
          have e1' : decide ((k : Int) < (im : Int)) = true := decide_eq_true (by omega)
          have k1 : (k : Int) < (im : Int) := by omega
          have g62 := hs.cell (o := 2) (x := .slice A3 im B3) rfl
          have hkx : k < (Q qs).length := by have := HQ.out.2.1; omega
          have hky : k < (Q rs).length := by have := HQ.out.2.2; omega
          have hxy : (Q rs)[k].1 = (Q qs)[k].1 := by
            have h9 : ((Q rs).map (·.1))[k]? = ((Q qs).map (·.1))[k]? := by rw [HQ.out.1]
            simpa [hkx, hky] using h9
          obtain ⟨bx, off, rfl, -, -, -, ⟨e0, e1_, e2, e3, e4, e5, e6⟩, hlx⟩ := (HE1.out _ _ (Sep.pick hs [3] rfl)).at hkx
          obtain ⟨by_, oy, rfl, -, -, -, ⟨d0_, d1_, d2_, d3, d4, d5, d6⟩, hly⟩ := (HE2.out _ _ (Sep.pick hs [2] rfl)).at hky
          rw [hxy] at d0_ d1_ d2_ d3 d4 d5 hly
          generalize (Q rs)[k].2 = u at *
          obtain ⟨⟨x, v⟩, hxv⟩ : ∃ z, z = (Q qs)[k] := ⟨_, rfl⟩
          rw [← hxv] at e0 e1_ e2 e3 e4 e5 e6 hlx d0_ d1_ d2_ d3 d4 d5 hly
          dsimp only at e0 e1_ e2 e3 e4 e5 e6 hlx d0_ d1_ d2_ d3 d4 d5 d6 hly
          obtain ⟨vp, cp, rfl⟩ := hlx.len
          obtain ⟨vq, cq, rfl⟩ := hly.len
          have hsm := esame_any x x (.slice vp x.p.ls.length cp) (.slice vq x.p.ls.length cq) hs.drew hlx hly (lns_maxl hlx)
          rw [show enSame x x = true by unfold enSame sameB; simp] at hsm
          have HS := Lib.hid hsm
          unfold enV at HS
          have HKM := Lib.hid hk2
          clear hs hlx hly hxv hxy hkx hky hkm hk2 hsm
          (try dsimp only); repeat' (first | go_values | go_skip | go_guarded | go_step | go_upon | go_back)
          refine wp_region_G (fun w' => w'.cell? ⟨b4, 2, none⟩ = some (.slice (some ⟨bx, off, none⟩) im B2) ∧ w'.cell? ⟨b6, 2, none⟩ = some (.slice (some ⟨by_, oy, none⟩) im B3) ∧ w'.cell? ⟨bx, off + k * 7, none⟩ = some (.int .i64 x.c) ∧ w'.cell? ⟨bx, off + k * 7 + 1, none⟩ = some (.int .i64 x.m) ∧ w'.cell? ⟨bx, off + k * 7 + 2, none⟩ = some (.int .i64 x.p.k) ∧ w'.cell? ⟨bx, off + k * 7 + 3, none⟩ = some (.string x.p.s.1) ∧ w'.cell? ⟨bx, off + k * 7 + 4, none⟩ = some (.int .i64 x.p.o) ∧ w'.cell? ⟨bx, off + k * 7 + 5, none⟩ = some (.int .i64 x.p.n) ∧ w'.cell? ⟨bx, off + k * 7 + 6, none⟩ = some (.slice vp x.p.ls.length cp) ∧ w'.cell? ⟨by_, oy + k * 7, none⟩ = some (.int .i64 x.c) ∧ w'.cell? ⟨by_, oy + k * 7 + 1, none⟩ = some (.int .i64 x.m) ∧ w'.cell? ⟨by_, oy + k * 7 + 2, none⟩ = some (.int .i64 x.p.k) ∧ w'.cell? ⟨by_, oy + k * 7 + 3, none⟩ = some (.string x.p.s.1) ∧ w'.cell? ⟨by_, oy + k * 7 + 4, none⟩ = some (.int .i64 x.p.o) ∧ w'.cell? ⟨by_, oy + k * 7 + 5, none⟩ = some (.int .i64 x.p.n) ∧ w'.cell? ⟨by_, oy + k * 7 + 6, none⟩ = some (.slice vq x.p.ls.length cq)) [10, 11] (by kernel_rfl) ⟨g42, g62, e0, e1_, e2, e3, e4, e5, e6, d0_, d1_, d2_, d3, d4, d5, d6⟩ (fun hS => ?_)
          try dsimp only at hS
          refine wpAnyG_take' (i := 0) (v := ?v0_1ct) rfl (by kernel_rfl) (by kernel_rfl) (by kernel_rfl) (by kernel_rfl) (fun _ _ _ h => h) (Or.inl ⟨by rfl, ?hy0_1ct⟩) hS ?rest0_1ct
          case hy0_1ct => intro w hSw; (try dsimp only at hSw); go_simp; (try with_reducible rfl)
          case rest0_1ct =>
          try simp only [List.getElem_toArray, List.getElem_cons_succ, List.getElem_cons_zero, Act.put, List.setIfInBounds_toArray, List.set_cons_zero, List.set_cons_succ]
          refine wpAnyG_take' (i := 1) (v := ?v1_2ct) rfl (by kernel_rfl) (by kernel_rfl) (by kernel_rfl) (by kernel_rfl) (fun _ _ _ h => h) (Or.inl ⟨by rfl, ?hy1_2ct⟩) hS ?rest1_2ct
          case hy1_2ct => intro w hSw; (try dsimp only at hSw); go_simp; (try with_reducible rfl)
          case rest1_2ct =>
          try simp only [List.getElem_toArray, List.getElem_cons_succ, List.getElem_cons_zero, Act.put, List.setIfInBounds_toArray, List.set_cons_zero, List.set_cons_succ]
          refine wpAnyG_take' (i := 2) (v := ?v2_3ct) rfl (by kernel_rfl) (by kernel_rfl) (by kernel_rfl) (by kernel_rfl) (fun _ _ _ h => h) (Or.inl ⟨by rfl, ?hy2_3ct⟩) hS ?rest2_3ct
          case hy2_3ct => intro w hSw; (try dsimp only at hSw); go_simp; (try with_reducible rfl)
          case rest2_3ct =>
          try simp only [List.getElem_toArray, List.getElem_cons_succ, List.getElem_cons_zero, Act.put, List.setIfInBounds_toArray, List.set_cons_zero, List.set_cons_succ]
          refine wpAnyG_take' (i := 3) (v := ?v3_4ct) rfl (by kernel_rfl) (by kernel_rfl) (by kernel_rfl) (by kernel_rfl) (fun _ _ _ h => h) (Or.inl ⟨by rfl, ?hy3_4ct⟩) hS ?rest3_4ct
          case hy3_4ct => intro w hSw; (try dsimp only at hSw); go_simp; (try with_reducible rfl)
          case rest3_4ct =>
          try simp only [List.getElem_toArray, List.getElem_cons_succ, List.getElem_cons_zero, Act.put, List.setIfInBounds_toArray, List.set_cons_zero, List.set_cons_succ]
          refine wpAnyG_take' (i := 4) (v := ?v4_5ct) rfl (by kernel_rfl) (by kernel_rfl) (by kernel_rfl) (by kernel_rfl) (fun _ _ _ h => h) (Or.inl ⟨by rfl, ?hy4_5ct⟩) hS ?rest4_5ct
          case hy4_5ct => intro w hSw; (try dsimp only at hSw); go_simp; (try with_reducible rfl)
          case rest4_5ct =>
          try simp only [List.getElem_toArray, List.getElem_cons_succ, List.getElem_cons_zero, Act.put, List.setIfInBounds_toArray, List.set_cons_zero, List.set_cons_succ]
          refine wpAnyG_take' (i := 5) (v := ?v5_6ct) rfl (by kernel_rfl) (by kernel_rfl) (by kernel_rfl) (by kernel_rfl) (fun _ _ _ h => h) (Or.inl ⟨by rfl, ?hy5_6ct⟩) hS ?rest5_6ct
          case hy5_6ct => intro w hSw; (try dsimp only at hSw); go_simp; (try with_reducible rfl)
          case rest5_6ct =>
          try simp only [List.getElem_toArray, List.getElem_cons_succ, List.getElem_cons_zero, Act.put, List.setIfInBounds_toArray, List.set_cons_zero, List.set_cons_succ]
          refine wpAnyG_take' (i := 6) (v := ?v6_7ct) rfl (by kernel_rfl) (by kernel_rfl) (by kernel_rfl) (by kernel_rfl) (fun _ _ _ h => h) (Or.inl ⟨by rfl, ?hy6_7ct⟩) hS ?rest6_7ct
          case hy6_7ct => intro w hSw; (try dsimp only at hSw); go_simp; (try with_reducible rfl)
          case rest6_7ct =>
          try simp only [List.getElem_toArray, List.getElem_cons_succ, List.getElem_cons_zero, Act.put, List.setIfInBounds_toArray, List.set_cons_zero, List.set_cons_succ]
          refine wpAnyG_take' (i := 7) (v := ?v7_8ct) rfl (by kernel_rfl) (by kernel_rfl) (by kernel_rfl) (by kernel_rfl) (fun _ _ _ h => h) (Or.inl ⟨by rfl, ?hy7_8ct⟩) hS ?rest7_8ct
          case hy7_8ct => intro w hSw; (try dsimp only at hSw); go_simp; (try with_reducible rfl)
          case rest7_8ct =>
          try simp only [List.getElem_toArray, List.getElem_cons_succ, List.getElem_cons_zero, Act.put, List.setIfInBounds_toArray, List.set_cons_zero, List.set_cons_succ]
          refine wpAnyG_take' (i := 8) (v := ?v8_9ct) rfl (by kernel_rfl) (by kernel_rfl) (by kernel_rfl) (by kernel_rfl) (fun _ _ _ h => h) (Or.inl ⟨by rfl, ?hy8_9ct⟩) hS ?rest8_9ct
          case hy8_9ct => intro w hSw; (try dsimp only at hSw); go_simp; (try with_reducible rfl)
          case rest8_9ct =>
          try simp only [List.getElem_toArray, List.getElem_cons_succ, List.getElem_cons_zero, Act.put, List.setIfInBounds_toArray, List.set_cons_zero, List.set_cons_succ]
          refine wpAnyG_take' (i := 9) (v := ?v9_10ct) rfl (by kernel_rfl) (by kernel_rfl) (by kernel_rfl) (by kernel_rfl) (fun _ _ _ h => h) (Or.inl ⟨by rfl, ?hy9_10ct⟩) hS ?rest9_10ct
          case hy9_10ct => intro w hSw; (try dsimp only at hSw); go_simp; (try with_reducible rfl)
          case rest9_10ct =>
          try simp only [List.getElem_toArray, List.getElem_cons_succ, List.getElem_cons_zero, Act.put, List.setIfInBounds_toArray, List.set_cons_zero, List.set_cons_succ]
          refine wpAnyG_one (i := 10) (by kernel_rfl) rfl (fun K hK => ?_)
          go_simp
          refine Calls.mono HS.out ?_
          rintro r8 w8 ⟨rfl, h6⟩
          clear e0 e1_ e2 e3 e4 e5 e6 d0_ d1_ d2_ d3 d4 d5 d6 HS
          have H6 := Lib.hid h6
          clear h6
          (try dsimp only); repeat' (first | go_values | go_skip | go_guarded | go_step | go_upon | go_back)
          refine hK.out _ _ (fun hno => by cases hno) ?_
          clear K hK
          try simp only [List.getElem_toArray, List.getElem_cons_succ, List.getElem_cons_zero, Act.put, List.setIfInBounds_toArray, List.set_cons_zero, List.set_cons_succ]
          refine wpAnyG_one (i := 11) (by kernel_rfl) rfl (fun K hK => ?_)
          go_simp
          refine hK.out _ _ (fun hno => by cases hno) ?_
          clear K hK
          try simp only [List.getElem_toArray, List.getElem_cons_succ, List.getElem_cons_zero, Act.put, List.setIfInBounds_toArray, List.set_cons_zero, List.set_cons_succ]
          refine wpAnyG_done (by kernel_rfl) ?_ _
          try simp only [List.getElem_toArray, List.getElem_cons_succ, List.getElem_cons_zero, Act.put, List.setIfInBounds_toArray, List.set_cons_zero, List.set_cons_succ]
          (try dsimp only); repeat' (first | go_values | go_skip | go_guarded | go_step | go_upon | go_back)
          go_roundw
          case rel => exact ⟨k + 1, HKM.out, by go_num, H6.out⟩
          case measure => have := HKM.out; simp [intOf]; omega
        · have e1 : decide (k < im) = false := decide_eq_false hk2
          have e1' : decide ((k : Int) < (im : Int)) = false := decide_eq_false (by omega)
          have HW := Lib.hid (works18_any hs HK.out)
          clear hs hkm hk2
          (try dsimp only); repeat' (first | go_values | go_skip | go_guarded | go_step | go_upon | go_back)
          refine HW.out.mono ?_
          rintro r0 w9 ⟨rfl, h12⟩
          have HFN := Lib.hid h12.low
          clear HW h12
          (try dsimp only); repeat' (first | go_values | go_skip | go_guarded | go_step | go_upon | go_back)
          go_ret
          exact ⟨rfl, HFN.out⟩
end Go.Proofs.YthgndegjiodopaaDoor
