/- BagTo. -/
import Derived.Test.YtcnbmeiielkigaaDoorBag8
namespace Go.Proofs.YtcnbmeiielkigaaDoor
open Go Go.RowKit
set_option linter.unusedVariables false
set_option linter.unusedSimpArgs false
/-- How many have q or more. -/
def remC (ws : List Int) (q : Int) : Nat := (ws.filter (fun x => decide (q ≤ x % 5))).length
def cntC (ws : List Int) (q : Int) : Nat := (ws.filter (fun x => x % 5 == q)).length
theorem rem_step : ∀ (ws : List Int) (q : Int), remC ws q = cntC ws q + remC ws (q + 1)
  | [], _ => rfl
  | x :: ws, q => by
    have ih := rem_step ws q
    unfold remC cntC at *
    rw [List.filter_cons, List.filter_cons, List.filter_cons]
    by_cases h1 : q ≤ x % 5
    · rw [if_pos (by simpa using h1)]
      by_cases h2 : x % 5 = q
      · rw [if_pos (by simpa using h2), if_neg (by simp; omega), List.length_cons, List.length_cons, ih]; omega
      · rw [if_neg (by simpa using h2), if_pos (by simp; omega), List.length_cons, List.length_cons, ih]; omega
    · rw [if_neg (by simpa using h1), if_neg (by simp; omega), if_neg (by simp; omega), ih]
theorem rem_all (ws : List Int) : remC ws (-1) = ws.length := by
  unfold remC
  rw [List.filter_eq_self.2]
  intro x hx
  have := Int.emod_nonneg x (show (5 : Int) ≠ 0 by decide)
  simp; omega
theorem rem_none (ws : List Int) (q : Int) (h : 5 ≤ q) : remC ws q = 0 := by
  unfold remC
  rw [List.filter_eq_nil_iff.2]
  · rfl
  · intro x hx
    have := Int.emod_lt_of_pos x (show (0 : Int) < 5 by decide)
    simp; omega
theorem toP_s (ws : List Int) (who : Int) (k : Nat) (hk : k < ws.length) : toP (ws.map sM) who k = (ws[k] % 5 == who) := by
  unfold toP
  rw [List.getElem?_eq_getElem (by rw [List.length_map]; exact hk), List.getElem_map]
  rfl
theorem pos_cnt (ws : List Int) (who : Int) : ∀ k, k ≤ ws.length → (posF (toP (ws.map sM) who) k).length = cntC (ws.take k) who
  | 0, _ => rfl
  | k + 1, h => by
    have ih := pos_cnt ws who k (by omega)
    have ht := toP_s ws who k (by omega)
    unfold cntC at *
    rw [List.take_succ_eq_append_getElem (by omega), List.filter_append, List.length_append, ← ih]
    cases hp : (ws[k] % 5 == who) with
    | true => rw [posF_hit _ k (by rw [ht, hp]), List.length_append]; simp [List.filter_cons, hp]
    | false => rw [posF_miss _ k (by rw [ht, hp])]; simp [List.filter_cons, hp]
theorem pos_mem (p : Nat → Bool) (n k : Nat) (h : k ∈ posF p n) : k < n ∧ p k = true := by
  unfold posF at h
  rw [List.mem_filter, List.mem_range] at h
  exact h
theorem pos_inc (p : Nat → Bool) (n i j : Nat) (hij : i < j) (hj : j < (posF p n).length) : (posF p n)[i]'(by omega) < (posF p n)[j] := by
  have h : (posF p n).Pairwise (· < ·) := List.Pairwise.filter _ List.pairwise_lt_range
  exact List.pairwise_iff_getElem.1 h i j (by omega) hj hij
set_option maxRecDepth 100000 in
set_option maxHeartbeats 0 in
theorem bagto_any (va : Option Addr) (vn vc : Nat) (vs : List Value) (w : World) (hK : KindsAt w ∧ MKindsAt w) (hl : vs.length = vn) (hs : Sl w (.slice va vn vc) vs) (hi : ∀ u ∈ vs, ∃ x, u = .int .i64 x) :
    Calls Tryd.prog 5 #[.slice va vn vc] w fun e w' => e = .returned (.bool true) ∧ Below w.heap.size w w' := by
  have HN := Lib.hid (bnew_any (Sep.start w))
  have HV := Lib.hid (And.intro hl (And.intro hs hi))
  have HM := Lib.hid hK.2
  have n0 : (0 : Int) ≤ (vn : Int) := by omega
  clear hl hs hi hK
  go_enter Tryd.func5, Tryd.ntmps5
  (try dsimp only); repeat' (first | go_values | go_skip | go_guarded | go_step | go_upon | go_back)
  refine HN.out.mono ?_
  rintro r0 w1 ⟨g, rfl, h1⟩
  have H1 := Lib.hid h1
  clear HN h1
  (try dsimp only); repeat' (first | go_values | go_skip | go_guarded | go_step | go_upon | go_back)
  go_loopw [4, 5] (fun m i wr => ∃ (k : Nat) (ws : List Int), k ≤ vn ∧ k ≤ 100 ∧ m = .int .i64 k ∧ i = .int .i64 k ∧ ws.length = k ∧ (∀ x ∈ ws, 0 ≤ x) ∧ Sep w [BagT g (ws.map sM)] wr) (fun m i _ => 100 - (intOf i).toNat)
  case atStart => exact ⟨0, [], Nat.zero_le _, by omega, rfl, rfl, rfl, (fun x hx => by cases hx), H1.out⟩
  case round =>
    obtain ⟨k, ws, hk, hk2, rfl, rfl, hwl, hw0, hs⟩ := hrel
    clear H1
    have k0 : (0 : Int) ≤ (k : Int) := by omega
    have k9 : (k : Int) ≤ 100 := by omega
    by_cases hgo : k < vn ∧ k < 100
    · have d0 : decide (k < vn) = true := decide_eq_true hgo.1
      have d1 : decide ((k : Int) < 100) = true := decide_eq_true (by omega)
      have k1 : (k : Int) < (vn : Int) := by omega
      obtain ⟨b0, o0, rfl, -, hc0⟩ := (HV.out.2.1.below hs.low).at (by have := HV.out.1; omega)
      have hkv : k < vs.length := by rw [HV.out.1]; exact hgo.1
      obtain ⟨x, hx⟩ := HV.out.2.2 vs[k] (List.getElem_mem hkv)
      have e0 : wr.cell? ⟨b0, o0 + k, none⟩ = some (.int .i64 x) := hc0 k _ (by rw [List.getElem?_eq_getElem hkv, hx])
      have HBR := Lib.hid (fun wx => bring_any x 1099511627776 wx ⟨by decide, by decide⟩)
      obtain ⟨y, hy⟩ : ∃ y, y = x % 1099511627776 := ⟨_, rfl⟩
      have y0 : 0 ≤ y := by omega
      have y1 : y ≤ 2199023255552 := by omega
      rw [← hy] at HBR
      have HSM := Lib.hid (small_any y y0 y1 hs)
      have HW := Lib.hid (And.intro hwl (And.intro hw0 hgo))
      clear hk hk2 hwl hw0 hs hgo hc0 hkv hx hy
      (try dsimp only); repeat' (first | go_values | go_skip | go_guarded | go_step | go_upon | go_back)
      refine (HBR.out _).mono ?_
      rintro r0 w2 ⟨rfl, rfl⟩
      clear HBR
      (try dsimp only); repeat' (first | go_values | go_skip | go_guarded | go_step | go_upon | go_back)
      refine HSM.out.mono ?_
      rintro r0 w3 ⟨c, hc, rfl, h3⟩
      have HPT := Lib.hid (bput_any (sM y) h3 hc (chk_small HM.out y0 (by omega)) (by rw [List.length_map, HW.out.1]; omega))
      clear HSM h3 hc
      (try dsimp only); repeat' (first | go_values | go_skip | go_guarded | go_step | go_upon | go_back)
      refine HPT.out.mono ?_
      rintro r0 w4 ⟨rfl, h4⟩
      have h5 : Sep w [BagT g ((ws ++ [y]).map sM)] w4 := by rw [List.map_append]; exact h4
      have H5 := Lib.hid h5
      have HY := Lib.hid y0
      clear HPT h4 h5 e0
      (try dsimp only); repeat' (first | go_values | go_skip | go_guarded | go_step | go_upon | go_back)
      go_roundw
      case rel => exact ⟨k + 1, ws ++ [y], by have := HW.out.2.2.1; omega, by have := HW.out.2.2.2; omega, by go_num, by go_num, by rw [List.length_append, HW.out.1]; rfl, (fun z hz => by rcases List.mem_append.1 hz with h | h; exact HW.out.2.1 z h; rw [List.mem_singleton.1 h]; exact HY.out), H5.out⟩
      case measure => have := HW.out.2.2.2; simp [intOf]; omega
    · have HW := Lib.hid (And.intro hwl hw0)
      have HS := Lib.hid hs
      clear hs hwl hw0
      have hex : (decide (k < vn) = false) ∨ (decide (k < vn) = true ∧ decide ((k : Int) < 100) = false) := by
        by_cases h1 : k < vn
        · exact .inr ⟨decide_eq_true h1, decide_eq_false (by omega)⟩
        · exact .inl (decide_eq_false h1)
      clear hgo hk hk2
      rcases hex with d0 | ⟨d0, d1⟩
      · as_aux_lemma =>
          (try dsimp only); repeat' (first | go_values | go_skip | go_guarded | go_step | go_upon | go_back)
          go_loopw [4, 6] (fun m i wr => ∃ q : Int, -1 ≤ q ∧ q ≤ 25 ∧ m = .int .i64 (remC ws q : Nat) ∧ i = .int .i64 q ∧ Sep w [BagT g (ws.map sM)] wr) (fun m i _ => (25 - intOf i).toNat)
          case atStart => exact ⟨-1, by omega, by omega, by rw [rem_all, HW.out.1], rfl, HS.out⟩
          case round =>
            obtain ⟨q, hq0, hq1, rfl, rfl, hs⟩ := hrel
            clear HS
            obtain ⟨M, hM⟩ : ∃ M, M = remC ws q := ⟨_, rfl⟩
            rw [← hM]
            have hM9 : M ≤ 100 := by
              rw [hM]
              unfold remC
              exact Nat.le_trans (List.length_filter_le _ _) (by rw [HW.out.1]; omega)
            have m0 : (0 : Int) ≤ (M : Int) := by omega
            have m9 : (M : Int) ≤ 100 := by omega
            by_cases hq : q < 25
            · have dq : decide (q < 25) = true := decide_eq_true hq
              have hml : (ws.map sM).length = ws.length := List.length_map ..
              have HTO := Lib.hid (bto_any (who := q) hs (by rw [hml, HW.out.1]; omega))
              rw [hml] at HTO
              obtain ⟨P, hP⟩ : ∃ P, P = posF (toP (ws.map sM) q) ws.length := ⟨_, rfl⟩
              rw [← hP] at HTO
              have hPl : P.length = cntC ws q := by rw [hP, pos_cnt ws q _ (Nat.le_refl _), List.take_of_length_le (Nat.le_refl _)]
              have hstep := rem_step ws q
              rw [← hM, ← hPl] at hstep
              obtain ⟨M', hM'⟩ : ∃ M', M' = remC ws (q + 1) := ⟨_, rfl⟩
              rw [← hM'] at hstep
              have HPP := Lib.hid (And.intro hP (And.intro hM' hstep))
              clear hs hml hP hPl hM hM' hstep hM9
              (try dsimp only); repeat' (first | go_values | go_skip | go_guarded | go_step | go_upon | go_back)
              refine HTO.out.mono ?_
              rintro r0 w5 ⟨a3, n3, c3, hn3, rfl, h5⟩
              have hsub : (M : Int) - (n3 : Int) = (M' : Int) := by have := HPP.out.2.2; omega
              have n30 : (0 : Int) ≤ (n3 : Int) := by omega
              have n39 : (n3 : Int) ≤ 100 := by have := HPP.out.2.2; omega
              have HN3 := Lib.hid hn3
              have H5 := Lib.hid h5
              clear HTO h5 hn3
              (try dsimp only); repeat' (first | go_values | go_skip | go_guarded | go_step | go_upon | go_back)
              go_loopw [8] (fun i wr => ∃ j : Nat, j ≤ n3 ∧ i = .int .i64 j ∧ Sep w [Is (.slice a3 n3 c3) (ivN P), BagT g (ws.map sM)] wr) (fun i _ => n3 - (intOf i).toNat)
              case atStart => exact ⟨0, Nat.zero_le _, rfl, H5.out⟩
              case round =>
                obtain ⟨j, hj, rfl, hs2⟩ := hrel
                clear H5
                have j0 : (0 : Int) ≤ (j : Int) := by omega
                have j9 : (j : Int) ≤ 100 := by omega
                by_cases hjn : j < n3
                · have dj : decide (j < n3) = true := decide_eq_true hjn
                  have j1 : (j : Int) < (n3 : Int) := by omega
                  have hjP : j < P.length := by rw [← HN3.out]; exact hjn
                  obtain ⟨p, hp⟩ : ∃ p, p = P[j] := ⟨_, rfl⟩
                  have hpm : p ∈ posF (toP (ws.map sM) q) ws.length := by rw [hp, ← HPP.out.1]; exact List.getElem_mem hjP
                  obtain ⟨hpl, hpt⟩ := pos_mem _ _ _ hpm
                  rw [toP_s ws q p hpl] at hpt
                  obtain ⟨ba, oa, hae, -, hac⟩ := hs2.sl.at (by omega)
                  have e0 : wr.cell? ⟨ba, oa + j, none⟩ = some (.int .i64 (p : Int)) := hac j _ (by unfold iv ivN; rw [List.getElem?_map, List.getElem?_map, List.getElem?_eq_getElem hjP, hp]; rfl)
                  have hprev : ∀ i, i + 1 = j → ∃ p' : Nat, p' < p ∧ ∀ wx : World, (∀ (t : Nat) (v : Value), (iv .i64 (ivN P))[t]? = some v → wx.cell? ⟨ba, oa + t, none⟩ = some v) → wx.cell? ⟨ba, oa + i, none⟩ = some (.int .i64 (p' : Int)) := fun i hi => by
                    have hiP : i < P.length := by omega
                    refine ⟨P[i], ?_, fun wx hx => hx i _ (by unfold iv ivN; rw [List.getElem?_map, List.getElem?_map, List.getElem?_eq_getElem hiP]; rfl)⟩
                    rw [hp]
                    have h9 := pos_inc (toP (ws.map sM) q) ws.length i j (by omega) (by rw [← HPP.out.1]; exact hjP)
                    have e9 := HPP.out.1
                    subst e9
                    exact h9
                  subst hae
                  have HAT := Lib.hid (bat_any p hs2.sw2 (by rw [List.length_map]; exact hpl))
                  rw [List.getElem_map] at HAT
                  have hpq : ws[p] % 5 = q := by simpa using hpt
                  have hpj : (iv .i64 (ivN P))[j]? = some (.int .i64 (p : Int)) := by unfold iv ivN; rw [List.getElem?_map, List.getElem?_map, List.getElem?_eq_getElem hjP, hp]; rfl
                  have HPJ := Lib.hid hpj
                  have HX := Lib.hid (And.intro hjn hprev)
                  have p9 : (p : Int) ≤ 100 := by have := HW.out.1; omega
                  have p0 : (0 : Int) ≤ (p : Int) := by omega
                  generalize ws[p] = x at *
                  have HXQ := Lib.hid hpq
                  clear hs2 hj hjn hjP hpj hp hpm hpl hpt hac hprev hpq
                  (try dsimp only); repeat' (first | go_values | go_skip | go_guarded | go_step | go_upon | go_back)
                  refine HAT.out.mono ?_
                  rintro r0 w6 ⟨u, hu, rfl, h6⟩
                  have h7 := h6.alloc (.cells #[.int .i64 0, .int .i64 0, .int .i64 0, .int .i64 0, .int .i64 0, .int .i64 0, .int .i64 0, .int .i64 0, .int .i64 0, .int .i64 0, .string ⟨#[]⟩, .int .i64 0, .int .i64 0, .slice none 0 0, .int .i64 0, .int .i64 0, .int .i64 0, .bool false, .int .i64 0, .slice none 0 0, .slice none 0 0, .int .i64 0] 43)
                  have HT7 := Lib.hid (h7.thereAt 0 22 (by simp))
                  have h8 := h7.storeW u (by rw [hu.size]; rfl)
                  have HI : Hid ((Tryd.prog.info? 43).map (·.size) = some u.size) := Lib.hid (by rw [hu.size]; kernel_rfl)
                  have HO : Hid (u.all (·.oneCell') = true) := Lib.hid (by have := all_oneCell_toArray hu.one; simpa using this)
                  have HTH : Hid ((w6.alloc (.cells #[.int .i64 0, .int .i64 0, .int .i64 0, .int .i64 0, .int .i64 0, .int .i64 0, .int .i64 0, .int .i64 0, .int .i64 0, .int .i64 0, .string ⟨#[]⟩, .int .i64 0, .int .i64 0, .slice none 0 0, .int .i64 0, .int .i64 0, .int .i64 0, .bool false, .int .i64 0, .slice none 0 0, .slice none 0 0, .int .i64 0] 43)).there w6.heap.size 0 u.size) := Lib.hid (by rw [hu.size]; exact HT7.out)
                  obtain ⟨b9, hb9⟩ : ∃ z, z = w6.heap.size := ⟨_, rfl⟩
                  obtain ⟨w8, hw8⟩ : ∃ z, z = (w6.alloc (.cells #[.int .i64 0, .int .i64 0, .int .i64 0, .int .i64 0, .int .i64 0, .int .i64 0, .int .i64 0, .int .i64 0, .int .i64 0, .int .i64 0, .string ⟨#[]⟩, .int .i64 0, .int .i64 0, .slice none 0 0, .int .i64 0, .int .i64 0, .int .i64 0, .bool false, .int .i64 0, .slice none 0 0, .slice none 0 0, .int .i64 0] 43)).setCells w6.heap.size 0 u.toList := ⟨_, rfl⟩
                  rw [← hw8, ← hb9] at h8
                  have u2 : w8.cell? ⟨b9, 2, none⟩ = some (.int .i64 q) := h8.cell (by obtain ⟨_, _, _, _, _, _, he⟩ := hu; rw [he]; show some (Value.int IntKind.i64 (x % 5)) = _; rw [HXQ.out])
                  have h8s : Sep w (Is (.slice (some ⟨ba, oa, none⟩) n3 c3) (ivN P) :: _) w8 := h8.sw3
                  have hrd : ∀ (t : Nat) v, (iv .i64 (ivN P))[t]? = some v → w8.cell? ⟨ba, oa + t, none⟩ = some v := fun t v ht => by
                    obtain ⟨b', o', hbe, -, hcc⟩ := h8s.sl.at (by have := (List.getElem?_eq_some_iff.1 ht).1; omega)
                    simp only [Option.some.injEq, Addr.mk.injEq, and_true] at hbe
                    obtain ⟨rfl, rfl⟩ := hbe
                    exact hcc t v ht
                  have H8 : Hid (Sep w [Is (.slice (some ⟨ba, oa, none⟩) n3 c3) (ivN P), BagT g (ws.map sM)] w8) := Lib.hid (h8.pick [2, 1] rfl)
                  have HRD := Lib.hid hrd
                  clear HAT h6 h7 h8 h8s hrd HT7 hu e0
                  (try dsimp only); repeat' (first | (with_reducible show wpList _ _ _ (Oper.mk _ (Op.store 43 _ _) _ _ _ _ :: _) _ _; refine stopP ?_) | go_values | go_skip | go_guarded | go_step | go_upon | go_back)
                  unfold StopP
                  refine wpList_store_mid rfl 43 (.tmp 9) (.tmp 53) rfl w6.heap.size 0 u rfl rfl HTH.out HI.out HO.out ?_
                  rw [← hw8, ← hb9]
                  clear hw8 hb9 HTH HI HO
                  have qe : (q != q) = false := by simp
                  by_cases hj0 : j = 0
                  · have dj0 : decide ((0 : Int) < (j : Int)) = false := decide_eq_false (by omega)
                    (try dsimp only); repeat' (first | go_values | go_skip | go_guarded | go_step | go_upon | go_back)
                    refine wp_region_G (fun w' => w'.cell? ⟨b9, 2, none⟩ = some (.int .i64 q)) [] (by kernel_rfl) u2 (fun hS => ?_)
                    try dsimp only at hS
                    refine wpAnyG_take' (i := 0) (v := ?v0_1zu) rfl (by kernel_rfl) (by kernel_rfl) (by kernel_rfl) (by kernel_rfl) (fun _ _ _ h => h) (Or.inl ⟨by rfl, ?hy0_1zu⟩) hS ?rest0_1zu
                    case hy0_1zu => intro w hSw; (try dsimp only at hSw); go_simp; (try with_reducible rfl)
                    case rest0_1zu =>
                    try simp only [List.getElem_toArray, List.getElem_cons_succ, List.getElem_cons_zero, Act.put, List.setIfInBounds_toArray, List.set_cons_zero, List.set_cons_succ]
                    refine wpAnyG_take' (i := 1) (v := ?v1_2zu) rfl (by kernel_rfl) (by kernel_rfl) (by kernel_rfl) (by kernel_rfl) (fun _ _ _ h => h) (Or.inl ⟨by rfl, ?hy1_2zu⟩) hS ?rest1_2zu
                    case hy1_2zu => intro w hSw; (try dsimp only at hSw); go_simp; (try with_reducible rfl)
                    case rest1_2zu =>
                    try simp only [List.getElem_toArray, List.getElem_cons_succ, List.getElem_cons_zero, Act.put, List.setIfInBounds_toArray, List.set_cons_zero, List.set_cons_succ]
                    refine wpAnyG_take' (i := 2) (v := ?v2_3zu) rfl (by kernel_rfl) (by kernel_rfl) (by kernel_rfl) (by kernel_rfl) (fun _ _ _ h => h) (Or.inl ⟨by rfl, ?hy2_3zu⟩) hS ?rest2_3zu
                    case hy2_3zu => intro w hSw; (try dsimp only at hSw); go_simp; (try with_reducible rfl)
                    case rest2_3zu =>
                    try simp only [List.getElem_toArray, List.getElem_cons_succ, List.getElem_cons_zero, Act.put, List.setIfInBounds_toArray, List.set_cons_zero, List.set_cons_succ]
                    refine wpAnyG_take' (i := 3) (v := ?v3_4zu) rfl (by kernel_rfl) (by kernel_rfl) (by kernel_rfl) (by kernel_rfl) (fun _ _ _ h => h) (Or.inl ⟨by rfl, ?hy3_4zu⟩) hS ?rest3_4zu
                    case hy3_4zu => intro w hSw; (try dsimp only at hSw); go_simp; (try with_reducible rfl)
                    case rest3_4zu =>
                    try simp only [List.getElem_toArray, List.getElem_cons_succ, List.getElem_cons_zero, Act.put, List.setIfInBounds_toArray, List.set_cons_zero, List.set_cons_succ]
                    refine wpAnyG_take' (i := 4) (v := ?v4_5zu) rfl (by kernel_rfl) (by kernel_rfl) (by kernel_rfl) (by kernel_rfl) (fun _ _ _ h => h) (Or.inl ⟨by rfl, ?hy4_5zu⟩) hS ?rest4_5zu
                    case hy4_5zu => intro w hSw; (try dsimp only at hSw); go_simp; (try with_reducible rfl)
                    case rest4_5zu =>
                    try simp only [List.getElem_toArray, List.getElem_cons_succ, List.getElem_cons_zero, Act.put, List.setIfInBounds_toArray, List.set_cons_zero, List.set_cons_succ]
                    refine wpAnyG_take' (i := 5) (v := ?v5_6zu) rfl (by kernel_rfl) (by kernel_rfl) (by kernel_rfl) (by kernel_rfl) (fun _ _ _ h => h) (Or.inl ⟨by rfl, ?hy5_6zu⟩) hS ?rest5_6zu
                    case hy5_6zu => intro w hSw; (try dsimp only at hSw); go_simp; (try with_reducible rfl)
                    case rest5_6zu =>
                    try simp only [List.getElem_toArray, List.getElem_cons_succ, List.getElem_cons_zero, Act.put, List.setIfInBounds_toArray, List.set_cons_zero, List.set_cons_succ]
                    refine wpAnyG_take' (i := 6) (v := ?v6_7zu) rfl (by kernel_rfl) (by kernel_rfl) (by kernel_rfl) (by kernel_rfl) (fun _ _ _ h => h) (Or.inl ⟨by rfl, ?hy6_7zu⟩) hS ?rest6_7zu
                    case hy6_7zu => intro w hSw; (try dsimp only at hSw); go_simp; (try with_reducible rfl)
                    case rest6_7zu =>
                    try simp only [List.getElem_toArray, List.getElem_cons_succ, List.getElem_cons_zero, Act.put, List.setIfInBounds_toArray, List.set_cons_zero, List.set_cons_succ]
                    refine wpAnyG_take' (i := 7) (v := ?v7_8zu) rfl (by kernel_rfl) (by kernel_rfl) (by kernel_rfl) (by kernel_rfl) (fun _ _ _ h => h) (Or.inl ⟨by rfl, ?hy7_8zu⟩) hS ?rest7_8zu
                    case hy7_8zu => intro w hSw; (try dsimp only at hSw); go_simp; (try with_reducible rfl)
                    case rest7_8zu =>
                    try simp only [List.getElem_toArray, List.getElem_cons_succ, List.getElem_cons_zero, Act.put, List.setIfInBounds_toArray, List.set_cons_zero, List.set_cons_succ]
                    refine wpAnyG_take' (i := 8) (v := ?v8_9zu) rfl (by kernel_rfl) (by kernel_rfl) (by kernel_rfl) (by kernel_rfl) (fun _ _ _ h => h) (Or.inl ⟨by rfl, ?hy8_9zu⟩) hS ?rest8_9zu
                    case hy8_9zu => intro w hSw; (try dsimp only at hSw); go_simp; (try with_reducible rfl)
                    case rest8_9zu =>
                    try simp only [List.getElem_toArray, List.getElem_cons_succ, List.getElem_cons_zero, Act.put, List.setIfInBounds_toArray, List.set_cons_zero, List.set_cons_succ]
                    refine wpAnyG_take' (i := 9) (v := ?v9_10zu) rfl (by kernel_rfl) (by kernel_rfl) (by kernel_rfl) (by kernel_rfl) (fun _ _ _ h => h) (Or.inl ⟨by rfl, ?hy9_10zu⟩) hS ?rest9_10zu
                    case hy9_10zu => intro w hSw; (try dsimp only at hSw); go_simp; (try with_reducible rfl)
                    case rest9_10zu =>
                    try simp only [List.getElem_toArray, List.getElem_cons_succ, List.getElem_cons_zero, Act.put, List.setIfInBounds_toArray, List.set_cons_zero, List.set_cons_succ]
                    refine wpAnyG_take' (i := 10) (v := ?v10_11zu) rfl (by kernel_rfl) (by kernel_rfl) (by kernel_rfl) (by kernel_rfl) (fun _ _ _ h => h) (Or.inl ⟨by rfl, ?hy10_11zu⟩) hS ?rest10_11zu
                    case hy10_11zu => intro w hSw; (try dsimp only at hSw); go_simp; (try with_reducible rfl)
                    case rest10_11zu =>
                    try simp only [List.getElem_toArray, List.getElem_cons_succ, List.getElem_cons_zero, Act.put, List.setIfInBounds_toArray, List.set_cons_zero, List.set_cons_succ]
                    refine wpAnyG_take' (i := 11) (v := ?v11_12zu) rfl (by kernel_rfl) (by kernel_rfl) (by kernel_rfl) (by kernel_rfl) (fun _ _ _ h => h) (Or.inl ⟨by rfl, ?hy11_12zu⟩) hS ?rest11_12zu
                    case hy11_12zu => intro w hSw; (try dsimp only at hSw); go_simp; (try with_reducible rfl)
                    case rest11_12zu =>
                    try simp only [List.getElem_toArray, List.getElem_cons_succ, List.getElem_cons_zero, Act.put, List.setIfInBounds_toArray, List.set_cons_zero, List.set_cons_succ]
                    refine wpAnyG_take' (i := 12) (v := undef) rfl (by kernel_rfl) (by kernel_rfl) (by kernel_rfl) (by kernel_rfl) (fun _ _ _ h => h) (Or.inr ⟨by rfl, rfl⟩) hS ?rest12_13zu
                    case rest12_13zu =>
                    try simp only [List.getElem_toArray, List.getElem_cons_succ, List.getElem_cons_zero, Act.put, List.setIfInBounds_toArray, List.set_cons_zero, List.set_cons_succ]
                    refine wpAnyG_take' (i := 13) (v := undef) rfl (by kernel_rfl) (by kernel_rfl) (by kernel_rfl) (by kernel_rfl) (fun _ _ _ h => h) (Or.inr ⟨by rfl, rfl⟩) hS ?rest13_14zu
                    case rest13_14zu =>
                    try simp only [List.getElem_toArray, List.getElem_cons_succ, List.getElem_cons_zero, Act.put, List.setIfInBounds_toArray, List.set_cons_zero, List.set_cons_succ]
                    refine wpAnyG_take' (i := 14) (v := undef) rfl (by kernel_rfl) (by kernel_rfl) (by kernel_rfl) (by kernel_rfl) (fun _ _ _ h => h) (Or.inr ⟨by rfl, rfl⟩) hS ?rest14_15zu
                    case rest14_15zu =>
                    try simp only [List.getElem_toArray, List.getElem_cons_succ, List.getElem_cons_zero, Act.put, List.setIfInBounds_toArray, List.set_cons_zero, List.set_cons_succ]
                    refine wpAnyG_take' (i := 15) (v := undef) rfl (by kernel_rfl) (by kernel_rfl) (by kernel_rfl) (by kernel_rfl) (fun _ _ _ h => h) (Or.inr ⟨by rfl, rfl⟩) hS ?rest15_16zu
                    case rest15_16zu =>
                    try simp only [List.getElem_toArray, List.getElem_cons_succ, List.getElem_cons_zero, Act.put, List.setIfInBounds_toArray, List.set_cons_zero, List.set_cons_succ]
                    refine wpAnyG_take' (i := 16) (v := undef) rfl (by kernel_rfl) (by kernel_rfl) (by kernel_rfl) (by kernel_rfl) (fun _ _ _ h => h) (Or.inr ⟨by rfl, rfl⟩) hS ?rest16_17zu
                    case rest16_17zu =>
                    try simp only [List.getElem_toArray, List.getElem_cons_succ, List.getElem_cons_zero, Act.put, List.setIfInBounds_toArray, List.set_cons_zero, List.set_cons_succ]
                    refine wpAnyG_take' (i := 17) (v := undef) rfl (by kernel_rfl) (by kernel_rfl) (by kernel_rfl) (by kernel_rfl) (fun _ _ _ h => h) (Or.inr ⟨by rfl, rfl⟩) hS ?rest17_18zu
                    case rest17_18zu =>
                    try simp only [List.getElem_toArray, List.getElem_cons_succ, List.getElem_cons_zero, Act.put, List.setIfInBounds_toArray, List.set_cons_zero, List.set_cons_succ]
                    refine wpAnyG_take' (i := 18) (v := undef) rfl (by kernel_rfl) (by kernel_rfl) (by kernel_rfl) (by kernel_rfl) (fun _ _ _ h => h) (Or.inr ⟨by rfl, rfl⟩) hS ?rest18_19zu
                    case rest18_19zu =>
                    try simp only [List.getElem_toArray, List.getElem_cons_succ, List.getElem_cons_zero, Act.put, List.setIfInBounds_toArray, List.set_cons_zero, List.set_cons_succ]
                    refine wpAnyG_take' (i := 19) (v := undef) rfl (by kernel_rfl) (by kernel_rfl) (by kernel_rfl) (by kernel_rfl) (fun _ _ _ h => h) (Or.inr ⟨by rfl, rfl⟩) hS ?rest19_20zu
                    case rest19_20zu =>
                    try simp only [List.getElem_toArray, List.getElem_cons_succ, List.getElem_cons_zero, Act.put, List.setIfInBounds_toArray, List.set_cons_zero, List.set_cons_succ]
                    refine wpAnyG_take' (i := 20) (v := undef) rfl (by kernel_rfl) (by kernel_rfl) (by kernel_rfl) (by kernel_rfl) (fun _ _ _ h => h) (Or.inr ⟨by rfl, rfl⟩) hS ?rest20_21zu
                    case rest20_21zu =>
                    try simp only [List.getElem_toArray, List.getElem_cons_succ, List.getElem_cons_zero, Act.put, List.setIfInBounds_toArray, List.set_cons_zero, List.set_cons_succ]
                    refine wpAnyG_take' (i := 21) (v := undef) rfl (by kernel_rfl) (by kernel_rfl) (by kernel_rfl) (by kernel_rfl) (fun _ _ _ h => h) (Or.inr ⟨by rfl, rfl⟩) hS ?rest21_22zu
                    case rest21_22zu =>
                    try simp only [List.getElem_toArray, List.getElem_cons_succ, List.getElem_cons_zero, Act.put, List.setIfInBounds_toArray, List.set_cons_zero, List.set_cons_succ]
                    refine wpAnyG_take' (i := 22) (v := ?v22_23zu) rfl (by kernel_rfl) (by kernel_rfl) (by kernel_rfl) (by kernel_rfl) (fun _ _ _ h => h) (Or.inl ⟨by rfl, ?hy22_23zu⟩) hS ?rest22_23zu
                    case hy22_23zu => intro w hSw; (try dsimp only at hSw); go_simp; (try with_reducible rfl)
                    case rest22_23zu =>
                    try simp only [List.getElem_toArray, List.getElem_cons_succ, List.getElem_cons_zero, Act.put, List.setIfInBounds_toArray, List.set_cons_zero, List.set_cons_succ]
                    refine wpAnyG_take' (i := 23) (v := ?v23_24zu) rfl (by kernel_rfl) (by kernel_rfl) (by kernel_rfl) (by kernel_rfl) (fun _ _ _ h => h) (Or.inl ⟨by rfl, ?hy23_24zu⟩) hS ?rest23_24zu
                    case hy23_24zu => intro w hSw; (try dsimp only at hSw); go_simp; (try with_reducible rfl)
                    case rest23_24zu =>
                    try simp only [List.getElem_toArray, List.getElem_cons_succ, List.getElem_cons_zero, Act.put, List.setIfInBounds_toArray, List.set_cons_zero, List.set_cons_succ]
                    refine wpAnyG_done (by kernel_rfl) ?_ _
                    try simp only [List.getElem_toArray, List.getElem_cons_succ, List.getElem_cons_zero, Act.put, List.setIfInBounds_toArray, List.set_cons_zero, List.set_cons_succ]
                    have H9 := Lib.hid H8.out.drew
                    clear H8 hS
                    (try dsimp only); repeat' (first | go_values | go_skip | go_guarded | go_step | go_upon | go_back)
                    go_roundw
                    case rel => exact ⟨j + 1, by have := HX.out.1; omega, by go_num, H9.out⟩
                    case measure => have := HX.out.1; simp [intOf]; omega
                  · have dj0 : decide ((0 : Int) < (j : Int)) = true := decide_eq_true (by omega)
                    have dj00 : decide (0 < j) = true := decide_eq_true (by omega)
                    obtain ⟨i, hi⟩ : ∃ i, i + 1 = j := ⟨j - 1, by omega⟩
                    obtain ⟨p', hp', hpr⟩ := HX.out.2 i hi
                    have e1 := hpr w8 HRD.out
                    have e2 := HRD.out j (.int .i64 (p : Int)) HPJ.out
                    have ji : (j : Int) - 1 = (i : Int) := by omega
                    have wi : IntKind.i64.wrap (i : Int) = (i : Int) := IntWalk.i64_in _ (by omega)
                    have i0 : (0 : Int) ≤ (i : Int) := by omega
                    have in3 : (i : Int) < (n3 : Int) := by omega
                    have dpp : decide ((p : Int) ≤ (p' : Int)) = false := decide_eq_false (by omega)
                    have dpp2 : decide (p ≤ p') = false := decide_eq_false (by omega)
                    clear hi hp' hpr hj0
                    (try dsimp only); repeat' (first | go_values | go_skip | go_guarded | go_step | go_upon | go_back)
                    refine wp_region_G (fun w' => w'.cell? ⟨b9, 2, none⟩ = some (.int .i64 q) ∧ w'.cell? ⟨ba, oa + i, none⟩ = some (.int .i64 (p' : Int)) ∧ w'.cell? ⟨ba, oa + j, none⟩ = some (.int .i64 (p : Int))) [] (by kernel_rfl) ⟨u2, e1, e2⟩ (fun hS => ?_)
                    try dsimp only at hS
                    refine wpAnyG_take' (i := 0) (v := ?v0_1pu) rfl (by kernel_rfl) (by kernel_rfl) (by kernel_rfl) (by kernel_rfl) (fun _ _ _ h => h) (Or.inl ⟨by rfl, ?hy0_1pu⟩) hS ?rest0_1pu
                    case hy0_1pu => intro w hSw; (try dsimp only at hSw); go_simp; (try with_reducible rfl)
                    case rest0_1pu =>
                    try simp only [List.getElem_toArray, List.getElem_cons_succ, List.getElem_cons_zero, Act.put, List.setIfInBounds_toArray, List.set_cons_zero, List.set_cons_succ]
                    refine wpAnyG_take' (i := 1) (v := ?v1_2pu) rfl (by kernel_rfl) (by kernel_rfl) (by kernel_rfl) (by kernel_rfl) (fun _ _ _ h => h) (Or.inl ⟨by rfl, ?hy1_2pu⟩) hS ?rest1_2pu
                    case hy1_2pu => intro w hSw; (try dsimp only at hSw); go_simp; (try with_reducible rfl)
                    case rest1_2pu =>
                    try simp only [List.getElem_toArray, List.getElem_cons_succ, List.getElem_cons_zero, Act.put, List.setIfInBounds_toArray, List.set_cons_zero, List.set_cons_succ]
                    refine wpAnyG_take' (i := 2) (v := ?v2_3pu) rfl (by kernel_rfl) (by kernel_rfl) (by kernel_rfl) (by kernel_rfl) (fun _ _ _ h => h) (Or.inl ⟨by rfl, ?hy2_3pu⟩) hS ?rest2_3pu
                    case hy2_3pu => intro w hSw; (try dsimp only at hSw); go_simp; (try with_reducible rfl)
                    case rest2_3pu =>
                    try simp only [List.getElem_toArray, List.getElem_cons_succ, List.getElem_cons_zero, Act.put, List.setIfInBounds_toArray, List.set_cons_zero, List.set_cons_succ]
                    refine wpAnyG_take' (i := 3) (v := ?v3_4pu) rfl (by kernel_rfl) (by kernel_rfl) (by kernel_rfl) (by kernel_rfl) (fun _ _ _ h => h) (Or.inl ⟨by rfl, ?hy3_4pu⟩) hS ?rest3_4pu
                    case hy3_4pu => intro w hSw; (try dsimp only at hSw); go_simp; (try with_reducible rfl)
                    case rest3_4pu =>
                    try simp only [List.getElem_toArray, List.getElem_cons_succ, List.getElem_cons_zero, Act.put, List.setIfInBounds_toArray, List.set_cons_zero, List.set_cons_succ]
                    refine wpAnyG_take' (i := 4) (v := ?v4_5pu) rfl (by kernel_rfl) (by kernel_rfl) (by kernel_rfl) (by kernel_rfl) (fun _ _ _ h => h) (Or.inl ⟨by rfl, ?hy4_5pu⟩) hS ?rest4_5pu
                    case hy4_5pu => intro w hSw; (try dsimp only at hSw); go_simp; (try with_reducible rfl)
                    case rest4_5pu =>
                    try simp only [List.getElem_toArray, List.getElem_cons_succ, List.getElem_cons_zero, Act.put, List.setIfInBounds_toArray, List.set_cons_zero, List.set_cons_succ]
                    refine wpAnyG_take' (i := 5) (v := ?v5_6pu) rfl (by kernel_rfl) (by kernel_rfl) (by kernel_rfl) (by kernel_rfl) (fun _ _ _ h => h) (Or.inl ⟨by rfl, ?hy5_6pu⟩) hS ?rest5_6pu
                    case hy5_6pu => intro w hSw; (try dsimp only at hSw); go_simp; (try with_reducible rfl)
                    case rest5_6pu =>
                    try simp only [List.getElem_toArray, List.getElem_cons_succ, List.getElem_cons_zero, Act.put, List.setIfInBounds_toArray, List.set_cons_zero, List.set_cons_succ]
                    refine wpAnyG_take' (i := 6) (v := ?v6_7pu) rfl (by kernel_rfl) (by kernel_rfl) (by kernel_rfl) (by kernel_rfl) (fun _ _ _ h => h) (Or.inl ⟨by rfl, ?hy6_7pu⟩) hS ?rest6_7pu
                    case hy6_7pu => intro w hSw; (try dsimp only at hSw); go_simp; (try with_reducible rfl)
                    case rest6_7pu =>
                    try simp only [List.getElem_toArray, List.getElem_cons_succ, List.getElem_cons_zero, Act.put, List.setIfInBounds_toArray, List.set_cons_zero, List.set_cons_succ]
                    refine wpAnyG_take' (i := 7) (v := ?v7_8pu) rfl (by kernel_rfl) (by kernel_rfl) (by kernel_rfl) (by kernel_rfl) (fun _ _ _ h => h) (Or.inl ⟨by rfl, ?hy7_8pu⟩) hS ?rest7_8pu
                    case hy7_8pu => intro w hSw; (try dsimp only at hSw); go_simp; (try with_reducible rfl)
                    case rest7_8pu =>
                    try simp only [List.getElem_toArray, List.getElem_cons_succ, List.getElem_cons_zero, Act.put, List.setIfInBounds_toArray, List.set_cons_zero, List.set_cons_succ]
                    refine wpAnyG_take' (i := 8) (v := ?v8_9pu) rfl (by kernel_rfl) (by kernel_rfl) (by kernel_rfl) (by kernel_rfl) (fun _ _ _ h => h) (Or.inl ⟨by rfl, ?hy8_9pu⟩) hS ?rest8_9pu
                    case hy8_9pu => intro w hSw; (try dsimp only at hSw); go_simp; (try with_reducible rfl)
                    case rest8_9pu =>
                    try simp only [List.getElem_toArray, List.getElem_cons_succ, List.getElem_cons_zero, Act.put, List.setIfInBounds_toArray, List.set_cons_zero, List.set_cons_succ]
                    refine wpAnyG_take' (i := 9) (v := ?v9_10pu) rfl (by kernel_rfl) (by kernel_rfl) (by kernel_rfl) (by kernel_rfl) (fun _ _ _ h => h) (Or.inl ⟨by rfl, ?hy9_10pu⟩) hS ?rest9_10pu
                    case hy9_10pu => intro w hSw; (try dsimp only at hSw); go_simp; (try with_reducible rfl)
                    case rest9_10pu =>
                    try simp only [List.getElem_toArray, List.getElem_cons_succ, List.getElem_cons_zero, Act.put, List.setIfInBounds_toArray, List.set_cons_zero, List.set_cons_succ]
                    refine wpAnyG_take' (i := 10) (v := ?v10_11pu) rfl (by kernel_rfl) (by kernel_rfl) (by kernel_rfl) (by kernel_rfl) (fun _ _ _ h => h) (Or.inl ⟨by rfl, ?hy10_11pu⟩) hS ?rest10_11pu
                    case hy10_11pu => intro w hSw; (try dsimp only at hSw); go_simp; (try with_reducible rfl)
                    case rest10_11pu =>
                    try simp only [List.getElem_toArray, List.getElem_cons_succ, List.getElem_cons_zero, Act.put, List.setIfInBounds_toArray, List.set_cons_zero, List.set_cons_succ]
                    refine wpAnyG_take' (i := 11) (v := ?v11_12pu) rfl (by kernel_rfl) (by kernel_rfl) (by kernel_rfl) (by kernel_rfl) (fun _ _ _ h => h) (Or.inl ⟨by rfl, ?hy11_12pu⟩) hS ?rest11_12pu
                    case hy11_12pu => intro w hSw; (try dsimp only at hSw); go_simp; (try with_reducible rfl)
                    case rest11_12pu =>
                    try simp only [List.getElem_toArray, List.getElem_cons_succ, List.getElem_cons_zero, Act.put, List.setIfInBounds_toArray, List.set_cons_zero, List.set_cons_succ]
                    refine wpAnyG_take' (i := 12) (v := ?v12_13pu) rfl (by kernel_rfl) (by kernel_rfl) (by kernel_rfl) (by kernel_rfl) (fun _ _ _ h => h) (Or.inl ⟨by rfl, ?hy12_13pu⟩) hS ?rest12_13pu
                    case hy12_13pu => intro w hSw; (try dsimp only at hSw); go_simp; (try with_reducible rfl)
                    case rest12_13pu =>
                    try simp only [List.getElem_toArray, List.getElem_cons_succ, List.getElem_cons_zero, Act.put, List.setIfInBounds_toArray, List.set_cons_zero, List.set_cons_succ]
                    refine wpAnyG_take' (i := 13) (v := ?v13_14pu) rfl (by kernel_rfl) (by kernel_rfl) (by kernel_rfl) (by kernel_rfl) (fun _ _ _ h => h) (Or.inl ⟨by rfl, ?hy13_14pu⟩) hS ?rest13_14pu
                    case hy13_14pu => intro w hSw; (try dsimp only at hSw); go_simp; (try with_reducible rfl)
                    case rest13_14pu =>
                    try simp only [List.getElem_toArray, List.getElem_cons_succ, List.getElem_cons_zero, Act.put, List.setIfInBounds_toArray, List.set_cons_zero, List.set_cons_succ]
                    refine wpAnyG_take' (i := 14) (v := ?v14_15pu) rfl (by kernel_rfl) (by kernel_rfl) (by kernel_rfl) (by kernel_rfl) (fun _ _ _ h => h) (Or.inl ⟨by rfl, ?hy14_15pu⟩) hS ?rest14_15pu
                    case hy14_15pu => intro w hSw; (try dsimp only at hSw); go_simp; (try with_reducible rfl)
                    case rest14_15pu =>
                    try simp only [List.getElem_toArray, List.getElem_cons_succ, List.getElem_cons_zero, Act.put, List.setIfInBounds_toArray, List.set_cons_zero, List.set_cons_succ]
                    refine wpAnyG_take' (i := 15) (v := ?v15_16pu) rfl (by kernel_rfl) (by kernel_rfl) (by kernel_rfl) (by kernel_rfl) (fun _ _ _ h => h) (Or.inl ⟨by rfl, ?hy15_16pu⟩) hS ?rest15_16pu
                    case hy15_16pu => intro w hSw; (try dsimp only at hSw); go_simp; (try with_reducible rfl)
                    case rest15_16pu =>
                    try simp only [List.getElem_toArray, List.getElem_cons_succ, List.getElem_cons_zero, Act.put, List.setIfInBounds_toArray, List.set_cons_zero, List.set_cons_succ]
                    refine wpAnyG_take' (i := 16) (v := ?v16_17pu) rfl (by kernel_rfl) (by kernel_rfl) (by kernel_rfl) (by kernel_rfl) (fun _ _ _ h => h) (Or.inl ⟨by rfl, ?hy16_17pu⟩) hS ?rest16_17pu
                    case hy16_17pu => intro w hSw; (try dsimp only at hSw); go_simp; (try with_reducible rfl)
                    case rest16_17pu =>
                    try simp only [List.getElem_toArray, List.getElem_cons_succ, List.getElem_cons_zero, Act.put, List.setIfInBounds_toArray, List.set_cons_zero, List.set_cons_succ]
                    refine wpAnyG_take' (i := 17) (v := ?v17_18pu) rfl (by kernel_rfl) (by kernel_rfl) (by kernel_rfl) (by kernel_rfl) (fun _ _ _ h => h) (Or.inl ⟨by rfl, ?hy17_18pu⟩) hS ?rest17_18pu
                    case hy17_18pu => intro w hSw; (try dsimp only at hSw); go_simp; (try with_reducible rfl)
                    case rest17_18pu =>
                    try simp only [List.getElem_toArray, List.getElem_cons_succ, List.getElem_cons_zero, Act.put, List.setIfInBounds_toArray, List.set_cons_zero, List.set_cons_succ]
                    refine wpAnyG_take' (i := 18) (v := ?v18_19pu) rfl (by kernel_rfl) (by kernel_rfl) (by kernel_rfl) (by kernel_rfl) (fun _ _ _ h => h) (Or.inl ⟨by rfl, ?hy18_19pu⟩) hS ?rest18_19pu
                    case hy18_19pu => intro w hSw; (try dsimp only at hSw); go_simp; (try with_reducible rfl)
                    case rest18_19pu =>
                    try simp only [List.getElem_toArray, List.getElem_cons_succ, List.getElem_cons_zero, Act.put, List.setIfInBounds_toArray, List.set_cons_zero, List.set_cons_succ]
                    refine wpAnyG_take' (i := 19) (v := ?v19_20pu) rfl (by kernel_rfl) (by kernel_rfl) (by kernel_rfl) (by kernel_rfl) (fun _ _ _ h => h) (Or.inl ⟨by rfl, ?hy19_20pu⟩) hS ?rest19_20pu
                    case hy19_20pu => intro w hSw; (try dsimp only at hSw); go_simp; (try with_reducible rfl)
                    case rest19_20pu =>
                    try simp only [List.getElem_toArray, List.getElem_cons_succ, List.getElem_cons_zero, Act.put, List.setIfInBounds_toArray, List.set_cons_zero, List.set_cons_succ]
                    refine wpAnyG_take' (i := 20) (v := ?v20_21pu) rfl (by kernel_rfl) (by kernel_rfl) (by kernel_rfl) (by kernel_rfl) (fun _ _ _ h => h) (Or.inl ⟨by rfl, ?hy20_21pu⟩) hS ?rest20_21pu
                    case hy20_21pu => intro w hSw; (try dsimp only at hSw); go_simp; (try with_reducible rfl)
                    case rest20_21pu =>
                    try simp only [List.getElem_toArray, List.getElem_cons_succ, List.getElem_cons_zero, Act.put, List.setIfInBounds_toArray, List.set_cons_zero, List.set_cons_succ]
                    refine wpAnyG_take' (i := 21) (v := ?v21_22pu) rfl (by kernel_rfl) (by kernel_rfl) (by kernel_rfl) (by kernel_rfl) (fun _ _ _ h => h) (Or.inl ⟨by rfl, ?hy21_22pu⟩) hS ?rest21_22pu
                    case hy21_22pu => intro w hSw; (try dsimp only at hSw); go_simp; (try with_reducible rfl)
                    case rest21_22pu =>
                    try simp only [List.getElem_toArray, List.getElem_cons_succ, List.getElem_cons_zero, Act.put, List.setIfInBounds_toArray, List.set_cons_zero, List.set_cons_succ]
                    refine wpAnyG_take' (i := 22) (v := ?v22_23pu) rfl (by kernel_rfl) (by kernel_rfl) (by kernel_rfl) (by kernel_rfl) (fun _ _ _ h => h) (Or.inl ⟨by rfl, ?hy22_23pu⟩) hS ?rest22_23pu
                    case hy22_23pu => intro w hSw; (try dsimp only at hSw); go_simp; (try with_reducible rfl)
                    case rest22_23pu =>
                    try simp only [List.getElem_toArray, List.getElem_cons_succ, List.getElem_cons_zero, Act.put, List.setIfInBounds_toArray, List.set_cons_zero, List.set_cons_succ]
                    refine wpAnyG_take' (i := 23) (v := ?v23_24pu) rfl (by kernel_rfl) (by kernel_rfl) (by kernel_rfl) (by kernel_rfl) (fun _ _ _ h => h) (Or.inl ⟨by rfl, ?hy23_24pu⟩) hS ?rest23_24pu
                    case hy23_24pu => intro w hSw; (try dsimp only at hSw); go_simp; (try with_reducible rfl)
                    case rest23_24pu =>
                    try simp only [List.getElem_toArray, List.getElem_cons_succ, List.getElem_cons_zero, Act.put, List.setIfInBounds_toArray, List.set_cons_zero, List.set_cons_succ]
                    refine wpAnyG_done (by kernel_rfl) ?_ _
                    try simp only [List.getElem_toArray, List.getElem_cons_succ, List.getElem_cons_zero, Act.put, List.setIfInBounds_toArray, List.set_cons_zero, List.set_cons_succ]
                    have H9 := Lib.hid H8.out.drew
                    clear H8 hS
                    (try dsimp only); repeat' (first | go_values | go_skip | go_guarded | go_step | go_upon | go_back)
                    go_roundw
                    case rel => exact ⟨j + 1, by have := HX.out.1; omega, by go_num, H9.out⟩
                    case measure => have := HX.out.1; simp [intOf]; omega
                · have dj : decide (j < n3) = false := decide_eq_false hjn
                  have H6 : Hid (Sep w [BagT g (ws.map sM)] wr) := Lib.hid hs2.drop
                  clear hs2 hj hjn
                  (try dsimp only); repeat' (first | go_values | go_skip | go_guarded | go_step | go_upon | go_back)
                  go_roundw
                  case rel => exact ⟨q + 1, by omega, by omega, by rw [HPP.out.2.1.symm], by go_num, H6.out⟩
                  case measure => simp [intOf]; omega
            · have dq : decide (q < 25) = false := decide_eq_false hq
              obtain rfl : M = 0 := by rw [hM, rem_none ws q (by omega)]
              have HWK := Lib.hid (works22_any hs HM.out)
              clear hs hM hM9 hq hq0 hq1
              (try dsimp only); repeat' (first | go_values | go_skip | go_guarded | go_step | go_upon | go_back)
              refine HWK.out.mono ?_
              rintro r0 w9 ⟨rfl, h9⟩
              have H9 := Lib.hid h9.low
              clear HWK h9
              (try dsimp only); repeat' (first | go_values | go_skip | go_guarded | go_step | go_upon | go_back)
              go_ret
              exact ⟨rfl, H9.out⟩
      · as_aux_lemma =>
          (try dsimp only); repeat' (first | go_values | go_skip | go_guarded | go_step | go_upon | go_back)
          go_loopw [4, 6] (fun m i wr => ∃ q : Int, -1 ≤ q ∧ q ≤ 25 ∧ m = .int .i64 (remC ws q : Nat) ∧ i = .int .i64 q ∧ Sep w [BagT g (ws.map sM)] wr) (fun m i _ => (25 - intOf i).toNat)
          case atStart => exact ⟨-1, by omega, by omega, by rw [rem_all, HW.out.1], rfl, HS.out⟩
          case round =>
            obtain ⟨q, hq0, hq1, rfl, rfl, hs⟩ := hrel
            clear HS
            obtain ⟨M, hM⟩ : ∃ M, M = remC ws q := ⟨_, rfl⟩
            rw [← hM]
            have hM9 : M ≤ 100 := by
              rw [hM]
              unfold remC
              exact Nat.le_trans (List.length_filter_le _ _) (by rw [HW.out.1]; omega)
            have m0 : (0 : Int) ≤ (M : Int) := by omega
            have m9 : (M : Int) ≤ 100 := by omega
            by_cases hq : q < 25
            · have dq : decide (q < 25) = true := decide_eq_true hq
              have hml : (ws.map sM).length = ws.length := List.length_map ..
              have HTO := Lib.hid (bto_any (who := q) hs (by rw [hml, HW.out.1]; omega))
              rw [hml] at HTO
              obtain ⟨P, hP⟩ : ∃ P, P = posF (toP (ws.map sM) q) ws.length := ⟨_, rfl⟩
              rw [← hP] at HTO
              have hPl : P.length = cntC ws q := by rw [hP, pos_cnt ws q _ (Nat.le_refl _), List.take_of_length_le (Nat.le_refl _)]
              have hstep := rem_step ws q
              rw [← hM, ← hPl] at hstep
              obtain ⟨M', hM'⟩ : ∃ M', M' = remC ws (q + 1) := ⟨_, rfl⟩
              rw [← hM'] at hstep
              have HPP := Lib.hid (And.intro hP (And.intro hM' hstep))
              clear hs hml hP hPl hM hM' hstep hM9
              (try dsimp only); repeat' (first | go_values | go_skip | go_guarded | go_step | go_upon | go_back)
              refine HTO.out.mono ?_
              rintro r0 w5 ⟨a3, n3, c3, hn3, rfl, h5⟩
              have hsub : (M : Int) - (n3 : Int) = (M' : Int) := by have := HPP.out.2.2; omega
              have n30 : (0 : Int) ≤ (n3 : Int) := by omega
              have n39 : (n3 : Int) ≤ 100 := by have := HPP.out.2.2; omega
              have HN3 := Lib.hid hn3
              have H5 := Lib.hid h5
              clear HTO h5 hn3
              (try dsimp only); repeat' (first | go_values | go_skip | go_guarded | go_step | go_upon | go_back)
              go_loopw [8] (fun i wr => ∃ j : Nat, j ≤ n3 ∧ i = .int .i64 j ∧ Sep w [Is (.slice a3 n3 c3) (ivN P), BagT g (ws.map sM)] wr) (fun i _ => n3 - (intOf i).toNat)
              case atStart => exact ⟨0, Nat.zero_le _, rfl, H5.out⟩
              case round =>
                obtain ⟨j, hj, rfl, hs2⟩ := hrel
                clear H5
                have j0 : (0 : Int) ≤ (j : Int) := by omega
                have j9 : (j : Int) ≤ 100 := by omega
                by_cases hjn : j < n3
                · have dj : decide (j < n3) = true := decide_eq_true hjn
                  have j1 : (j : Int) < (n3 : Int) := by omega
                  have hjP : j < P.length := by rw [← HN3.out]; exact hjn
                  obtain ⟨p, hp⟩ : ∃ p, p = P[j] := ⟨_, rfl⟩
                  have hpm : p ∈ posF (toP (ws.map sM) q) ws.length := by rw [hp, ← HPP.out.1]; exact List.getElem_mem hjP
                  obtain ⟨hpl, hpt⟩ := pos_mem _ _ _ hpm
                  rw [toP_s ws q p hpl] at hpt
                  obtain ⟨ba, oa, hae, -, hac⟩ := hs2.sl.at (by omega)
                  have e0 : wr.cell? ⟨ba, oa + j, none⟩ = some (.int .i64 (p : Int)) := hac j _ (by unfold iv ivN; rw [List.getElem?_map, List.getElem?_map, List.getElem?_eq_getElem hjP, hp]; rfl)
                  have hprev : ∀ i, i + 1 = j → ∃ p' : Nat, p' < p ∧ ∀ wx : World, (∀ (t : Nat) (v : Value), (iv .i64 (ivN P))[t]? = some v → wx.cell? ⟨ba, oa + t, none⟩ = some v) → wx.cell? ⟨ba, oa + i, none⟩ = some (.int .i64 (p' : Int)) := fun i hi => by
                    have hiP : i < P.length := by omega
                    refine ⟨P[i], ?_, fun wx hx => hx i _ (by unfold iv ivN; rw [List.getElem?_map, List.getElem?_map, List.getElem?_eq_getElem hiP]; rfl)⟩
                    rw [hp]
                    have h9 := pos_inc (toP (ws.map sM) q) ws.length i j (by omega) (by rw [← HPP.out.1]; exact hjP)
                    have e9 := HPP.out.1
                    subst e9
                    exact h9
                  subst hae
                  have HAT := Lib.hid (bat_any p hs2.sw2 (by rw [List.length_map]; exact hpl))
                  rw [List.getElem_map] at HAT
                  have hpq : ws[p] % 5 = q := by simpa using hpt
                  have hpj : (iv .i64 (ivN P))[j]? = some (.int .i64 (p : Int)) := by unfold iv ivN; rw [List.getElem?_map, List.getElem?_map, List.getElem?_eq_getElem hjP, hp]; rfl
                  have HPJ := Lib.hid hpj
                  have HX := Lib.hid (And.intro hjn hprev)
                  have p9 : (p : Int) ≤ 100 := by have := HW.out.1; omega
                  have p0 : (0 : Int) ≤ (p : Int) := by omega
                  generalize ws[p] = x at *
                  have HXQ := Lib.hid hpq
                  clear hs2 hj hjn hjP hpj hp hpm hpl hpt hac hprev hpq
                  (try dsimp only); repeat' (first | go_values | go_skip | go_guarded | go_step | go_upon | go_back)
                  refine HAT.out.mono ?_
                  rintro r0 w6 ⟨u, hu, rfl, h6⟩
                  have h7 := h6.alloc (.cells #[.int .i64 0, .int .i64 0, .int .i64 0, .int .i64 0, .int .i64 0, .int .i64 0, .int .i64 0, .int .i64 0, .int .i64 0, .int .i64 0, .string ⟨#[]⟩, .int .i64 0, .int .i64 0, .slice none 0 0, .int .i64 0, .int .i64 0, .int .i64 0, .bool false, .int .i64 0, .slice none 0 0, .slice none 0 0, .int .i64 0] 43)
                  have HT7 := Lib.hid (h7.thereAt 0 22 (by simp))
                  have h8 := h7.storeW u (by rw [hu.size]; rfl)
                  have HI : Hid ((Tryd.prog.info? 43).map (·.size) = some u.size) := Lib.hid (by rw [hu.size]; kernel_rfl)
                  have HO : Hid (u.all (·.oneCell') = true) := Lib.hid (by have := all_oneCell_toArray hu.one; simpa using this)
                  have HTH : Hid ((w6.alloc (.cells #[.int .i64 0, .int .i64 0, .int .i64 0, .int .i64 0, .int .i64 0, .int .i64 0, .int .i64 0, .int .i64 0, .int .i64 0, .int .i64 0, .string ⟨#[]⟩, .int .i64 0, .int .i64 0, .slice none 0 0, .int .i64 0, .int .i64 0, .int .i64 0, .bool false, .int .i64 0, .slice none 0 0, .slice none 0 0, .int .i64 0] 43)).there w6.heap.size 0 u.size) := Lib.hid (by rw [hu.size]; exact HT7.out)
                  obtain ⟨b9, hb9⟩ : ∃ z, z = w6.heap.size := ⟨_, rfl⟩
                  obtain ⟨w8, hw8⟩ : ∃ z, z = (w6.alloc (.cells #[.int .i64 0, .int .i64 0, .int .i64 0, .int .i64 0, .int .i64 0, .int .i64 0, .int .i64 0, .int .i64 0, .int .i64 0, .int .i64 0, .string ⟨#[]⟩, .int .i64 0, .int .i64 0, .slice none 0 0, .int .i64 0, .int .i64 0, .int .i64 0, .bool false, .int .i64 0, .slice none 0 0, .slice none 0 0, .int .i64 0] 43)).setCells w6.heap.size 0 u.toList := ⟨_, rfl⟩
                  rw [← hw8, ← hb9] at h8
                  have u2 : w8.cell? ⟨b9, 2, none⟩ = some (.int .i64 q) := h8.cell (by obtain ⟨_, _, _, _, _, _, he⟩ := hu; rw [he]; show some (Value.int IntKind.i64 (x % 5)) = _; rw [HXQ.out])
                  have h8s : Sep w (Is (.slice (some ⟨ba, oa, none⟩) n3 c3) (ivN P) :: _) w8 := h8.sw3
                  have hrd : ∀ (t : Nat) v, (iv .i64 (ivN P))[t]? = some v → w8.cell? ⟨ba, oa + t, none⟩ = some v := fun t v ht => by
                    obtain ⟨b', o', hbe, -, hcc⟩ := h8s.sl.at (by have := (List.getElem?_eq_some_iff.1 ht).1; omega)
                    simp only [Option.some.injEq, Addr.mk.injEq, and_true] at hbe
                    obtain ⟨rfl, rfl⟩ := hbe
                    exact hcc t v ht
                  have H8 : Hid (Sep w [Is (.slice (some ⟨ba, oa, none⟩) n3 c3) (ivN P), BagT g (ws.map sM)] w8) := Lib.hid (h8.pick [2, 1] rfl)
                  have HRD := Lib.hid hrd
                  clear HAT h6 h7 h8 h8s hrd HT7 hu e0
                  (try dsimp only); repeat' (first | (with_reducible show wpList _ _ _ (Oper.mk _ (Op.store 43 _ _) _ _ _ _ :: _) _ _; refine stopP ?_) | go_values | go_skip | go_guarded | go_step | go_upon | go_back)
                  unfold StopP
                  refine wpList_store_mid rfl 43 (.tmp 9) (.tmp 53) rfl w6.heap.size 0 u rfl rfl HTH.out HI.out HO.out ?_
                  rw [← hw8, ← hb9]
                  clear hw8 hb9 HTH HI HO
                  have qe : (q != q) = false := by simp
                  by_cases hj0 : j = 0
                  · have dj0 : decide ((0 : Int) < (j : Int)) = false := decide_eq_false (by omega)
                    (try dsimp only); repeat' (first | go_values | go_skip | go_guarded | go_step | go_upon | go_back)
                    refine wp_region_G (fun w' => w'.cell? ⟨b9, 2, none⟩ = some (.int .i64 q)) [] (by kernel_rfl) u2 (fun hS => ?_)
                    try dsimp only at hS
                    refine wpAnyG_take' (i := 0) (v := ?v0_1zv) rfl (by kernel_rfl) (by kernel_rfl) (by kernel_rfl) (by kernel_rfl) (fun _ _ _ h => h) (Or.inl ⟨by rfl, ?hy0_1zv⟩) hS ?rest0_1zv
                    case hy0_1zv => intro w hSw; (try dsimp only at hSw); go_simp; (try with_reducible rfl)
                    case rest0_1zv =>
                    try simp only [List.getElem_toArray, List.getElem_cons_succ, List.getElem_cons_zero, Act.put, List.setIfInBounds_toArray, List.set_cons_zero, List.set_cons_succ]
                    refine wpAnyG_take' (i := 1) (v := ?v1_2zv) rfl (by kernel_rfl) (by kernel_rfl) (by kernel_rfl) (by kernel_rfl) (fun _ _ _ h => h) (Or.inl ⟨by rfl, ?hy1_2zv⟩) hS ?rest1_2zv
                    case hy1_2zv => intro w hSw; (try dsimp only at hSw); go_simp; (try with_reducible rfl)
                    case rest1_2zv =>
                    try simp only [List.getElem_toArray, List.getElem_cons_succ, List.getElem_cons_zero, Act.put, List.setIfInBounds_toArray, List.set_cons_zero, List.set_cons_succ]
                    refine wpAnyG_take' (i := 2) (v := ?v2_3zv) rfl (by kernel_rfl) (by kernel_rfl) (by kernel_rfl) (by kernel_rfl) (fun _ _ _ h => h) (Or.inl ⟨by rfl, ?hy2_3zv⟩) hS ?rest2_3zv
                    case hy2_3zv => intro w hSw; (try dsimp only at hSw); go_simp; (try with_reducible rfl)
                    case rest2_3zv =>
                    try simp only [List.getElem_toArray, List.getElem_cons_succ, List.getElem_cons_zero, Act.put, List.setIfInBounds_toArray, List.set_cons_zero, List.set_cons_succ]
                    refine wpAnyG_take' (i := 3) (v := ?v3_4zv) rfl (by kernel_rfl) (by kernel_rfl) (by kernel_rfl) (by kernel_rfl) (fun _ _ _ h => h) (Or.inl ⟨by rfl, ?hy3_4zv⟩) hS ?rest3_4zv
                    case hy3_4zv => intro w hSw; (try dsimp only at hSw); go_simp; (try with_reducible rfl)
                    case rest3_4zv =>
                    try simp only [List.getElem_toArray, List.getElem_cons_succ, List.getElem_cons_zero, Act.put, List.setIfInBounds_toArray, List.set_cons_zero, List.set_cons_succ]
                    refine wpAnyG_take' (i := 4) (v := ?v4_5zv) rfl (by kernel_rfl) (by kernel_rfl) (by kernel_rfl) (by kernel_rfl) (fun _ _ _ h => h) (Or.inl ⟨by rfl, ?hy4_5zv⟩) hS ?rest4_5zv
                    case hy4_5zv => intro w hSw; (try dsimp only at hSw); go_simp; (try with_reducible rfl)
                    case rest4_5zv =>
                    try simp only [List.getElem_toArray, List.getElem_cons_succ, List.getElem_cons_zero, Act.put, List.setIfInBounds_toArray, List.set_cons_zero, List.set_cons_succ]
                    refine wpAnyG_take' (i := 5) (v := ?v5_6zv) rfl (by kernel_rfl) (by kernel_rfl) (by kernel_rfl) (by kernel_rfl) (fun _ _ _ h => h) (Or.inl ⟨by rfl, ?hy5_6zv⟩) hS ?rest5_6zv
                    case hy5_6zv => intro w hSw; (try dsimp only at hSw); go_simp; (try with_reducible rfl)
                    case rest5_6zv =>
                    try simp only [List.getElem_toArray, List.getElem_cons_succ, List.getElem_cons_zero, Act.put, List.setIfInBounds_toArray, List.set_cons_zero, List.set_cons_succ]
                    refine wpAnyG_take' (i := 6) (v := ?v6_7zv) rfl (by kernel_rfl) (by kernel_rfl) (by kernel_rfl) (by kernel_rfl) (fun _ _ _ h => h) (Or.inl ⟨by rfl, ?hy6_7zv⟩) hS ?rest6_7zv
                    case hy6_7zv => intro w hSw; (try dsimp only at hSw); go_simp; (try with_reducible rfl)
                    case rest6_7zv =>
                    try simp only [List.getElem_toArray, List.getElem_cons_succ, List.getElem_cons_zero, Act.put, List.setIfInBounds_toArray, List.set_cons_zero, List.set_cons_succ]
                    refine wpAnyG_take' (i := 7) (v := ?v7_8zv) rfl (by kernel_rfl) (by kernel_rfl) (by kernel_rfl) (by kernel_rfl) (fun _ _ _ h => h) (Or.inl ⟨by rfl, ?hy7_8zv⟩) hS ?rest7_8zv
                    case hy7_8zv => intro w hSw; (try dsimp only at hSw); go_simp; (try with_reducible rfl)
                    case rest7_8zv =>
                    try simp only [List.getElem_toArray, List.getElem_cons_succ, List.getElem_cons_zero, Act.put, List.setIfInBounds_toArray, List.set_cons_zero, List.set_cons_succ]
                    refine wpAnyG_take' (i := 8) (v := ?v8_9zv) rfl (by kernel_rfl) (by kernel_rfl) (by kernel_rfl) (by kernel_rfl) (fun _ _ _ h => h) (Or.inl ⟨by rfl, ?hy8_9zv⟩) hS ?rest8_9zv
                    case hy8_9zv => intro w hSw; (try dsimp only at hSw); go_simp; (try with_reducible rfl)
                    case rest8_9zv =>
                    try simp only [List.getElem_toArray, List.getElem_cons_succ, List.getElem_cons_zero, Act.put, List.setIfInBounds_toArray, List.set_cons_zero, List.set_cons_succ]
                    refine wpAnyG_take' (i := 9) (v := ?v9_10zv) rfl (by kernel_rfl) (by kernel_rfl) (by kernel_rfl) (by kernel_rfl) (fun _ _ _ h => h) (Or.inl ⟨by rfl, ?hy9_10zv⟩) hS ?rest9_10zv
                    case hy9_10zv => intro w hSw; (try dsimp only at hSw); go_simp; (try with_reducible rfl)
                    case rest9_10zv =>
                    try simp only [List.getElem_toArray, List.getElem_cons_succ, List.getElem_cons_zero, Act.put, List.setIfInBounds_toArray, List.set_cons_zero, List.set_cons_succ]
                    refine wpAnyG_take' (i := 10) (v := ?v10_11zv) rfl (by kernel_rfl) (by kernel_rfl) (by kernel_rfl) (by kernel_rfl) (fun _ _ _ h => h) (Or.inl ⟨by rfl, ?hy10_11zv⟩) hS ?rest10_11zv
                    case hy10_11zv => intro w hSw; (try dsimp only at hSw); go_simp; (try with_reducible rfl)
                    case rest10_11zv =>
                    try simp only [List.getElem_toArray, List.getElem_cons_succ, List.getElem_cons_zero, Act.put, List.setIfInBounds_toArray, List.set_cons_zero, List.set_cons_succ]
                    refine wpAnyG_take' (i := 11) (v := ?v11_12zv) rfl (by kernel_rfl) (by kernel_rfl) (by kernel_rfl) (by kernel_rfl) (fun _ _ _ h => h) (Or.inl ⟨by rfl, ?hy11_12zv⟩) hS ?rest11_12zv
                    case hy11_12zv => intro w hSw; (try dsimp only at hSw); go_simp; (try with_reducible rfl)
                    case rest11_12zv =>
                    try simp only [List.getElem_toArray, List.getElem_cons_succ, List.getElem_cons_zero, Act.put, List.setIfInBounds_toArray, List.set_cons_zero, List.set_cons_succ]
                    refine wpAnyG_take' (i := 12) (v := undef) rfl (by kernel_rfl) (by kernel_rfl) (by kernel_rfl) (by kernel_rfl) (fun _ _ _ h => h) (Or.inr ⟨by rfl, rfl⟩) hS ?rest12_13zv
                    case rest12_13zv =>
                    try simp only [List.getElem_toArray, List.getElem_cons_succ, List.getElem_cons_zero, Act.put, List.setIfInBounds_toArray, List.set_cons_zero, List.set_cons_succ]
                    refine wpAnyG_take' (i := 13) (v := undef) rfl (by kernel_rfl) (by kernel_rfl) (by kernel_rfl) (by kernel_rfl) (fun _ _ _ h => h) (Or.inr ⟨by rfl, rfl⟩) hS ?rest13_14zv
                    case rest13_14zv =>
                    try simp only [List.getElem_toArray, List.getElem_cons_succ, List.getElem_cons_zero, Act.put, List.setIfInBounds_toArray, List.set_cons_zero, List.set_cons_succ]
                    refine wpAnyG_take' (i := 14) (v := undef) rfl (by kernel_rfl) (by kernel_rfl) (by kernel_rfl) (by kernel_rfl) (fun _ _ _ h => h) (Or.inr ⟨by rfl, rfl⟩) hS ?rest14_15zv
                    case rest14_15zv =>
                    try simp only [List.getElem_toArray, List.getElem_cons_succ, List.getElem_cons_zero, Act.put, List.setIfInBounds_toArray, List.set_cons_zero, List.set_cons_succ]
                    refine wpAnyG_take' (i := 15) (v := undef) rfl (by kernel_rfl) (by kernel_rfl) (by kernel_rfl) (by kernel_rfl) (fun _ _ _ h => h) (Or.inr ⟨by rfl, rfl⟩) hS ?rest15_16zv
                    case rest15_16zv =>
                    try simp only [List.getElem_toArray, List.getElem_cons_succ, List.getElem_cons_zero, Act.put, List.setIfInBounds_toArray, List.set_cons_zero, List.set_cons_succ]
                    refine wpAnyG_take' (i := 16) (v := undef) rfl (by kernel_rfl) (by kernel_rfl) (by kernel_rfl) (by kernel_rfl) (fun _ _ _ h => h) (Or.inr ⟨by rfl, rfl⟩) hS ?rest16_17zv
                    case rest16_17zv =>
                    try simp only [List.getElem_toArray, List.getElem_cons_succ, List.getElem_cons_zero, Act.put, List.setIfInBounds_toArray, List.set_cons_zero, List.set_cons_succ]
                    refine wpAnyG_take' (i := 17) (v := undef) rfl (by kernel_rfl) (by kernel_rfl) (by kernel_rfl) (by kernel_rfl) (fun _ _ _ h => h) (Or.inr ⟨by rfl, rfl⟩) hS ?rest17_18zv
                    case rest17_18zv =>
                    try simp only [List.getElem_toArray, List.getElem_cons_succ, List.getElem_cons_zero, Act.put, List.setIfInBounds_toArray, List.set_cons_zero, List.set_cons_succ]
                    refine wpAnyG_take' (i := 18) (v := undef) rfl (by kernel_rfl) (by kernel_rfl) (by kernel_rfl) (by kernel_rfl) (fun _ _ _ h => h) (Or.inr ⟨by rfl, rfl⟩) hS ?rest18_19zv
                    case rest18_19zv =>
                    try simp only [List.getElem_toArray, List.getElem_cons_succ, List.getElem_cons_zero, Act.put, List.setIfInBounds_toArray, List.set_cons_zero, List.set_cons_succ]
                    refine wpAnyG_take' (i := 19) (v := undef) rfl (by kernel_rfl) (by kernel_rfl) (by kernel_rfl) (by kernel_rfl) (fun _ _ _ h => h) (Or.inr ⟨by rfl, rfl⟩) hS ?rest19_20zv
                    case rest19_20zv =>
                    try simp only [List.getElem_toArray, List.getElem_cons_succ, List.getElem_cons_zero, Act.put, List.setIfInBounds_toArray, List.set_cons_zero, List.set_cons_succ]
                    refine wpAnyG_take' (i := 20) (v := undef) rfl (by kernel_rfl) (by kernel_rfl) (by kernel_rfl) (by kernel_rfl) (fun _ _ _ h => h) (Or.inr ⟨by rfl, rfl⟩) hS ?rest20_21zv
                    case rest20_21zv =>
                    try simp only [List.getElem_toArray, List.getElem_cons_succ, List.getElem_cons_zero, Act.put, List.setIfInBounds_toArray, List.set_cons_zero, List.set_cons_succ]
                    refine wpAnyG_take' (i := 21) (v := undef) rfl (by kernel_rfl) (by kernel_rfl) (by kernel_rfl) (by kernel_rfl) (fun _ _ _ h => h) (Or.inr ⟨by rfl, rfl⟩) hS ?rest21_22zv
                    case rest21_22zv =>
                    try simp only [List.getElem_toArray, List.getElem_cons_succ, List.getElem_cons_zero, Act.put, List.setIfInBounds_toArray, List.set_cons_zero, List.set_cons_succ]
                    refine wpAnyG_take' (i := 22) (v := ?v22_23zv) rfl (by kernel_rfl) (by kernel_rfl) (by kernel_rfl) (by kernel_rfl) (fun _ _ _ h => h) (Or.inl ⟨by rfl, ?hy22_23zv⟩) hS ?rest22_23zv
                    case hy22_23zv => intro w hSw; (try dsimp only at hSw); go_simp; (try with_reducible rfl)
                    case rest22_23zv =>
                    try simp only [List.getElem_toArray, List.getElem_cons_succ, List.getElem_cons_zero, Act.put, List.setIfInBounds_toArray, List.set_cons_zero, List.set_cons_succ]
                    refine wpAnyG_take' (i := 23) (v := ?v23_24zv) rfl (by kernel_rfl) (by kernel_rfl) (by kernel_rfl) (by kernel_rfl) (fun _ _ _ h => h) (Or.inl ⟨by rfl, ?hy23_24zv⟩) hS ?rest23_24zv
                    case hy23_24zv => intro w hSw; (try dsimp only at hSw); go_simp; (try with_reducible rfl)
                    case rest23_24zv =>
                    try simp only [List.getElem_toArray, List.getElem_cons_succ, List.getElem_cons_zero, Act.put, List.setIfInBounds_toArray, List.set_cons_zero, List.set_cons_succ]
                    refine wpAnyG_done (by kernel_rfl) ?_ _
                    try simp only [List.getElem_toArray, List.getElem_cons_succ, List.getElem_cons_zero, Act.put, List.setIfInBounds_toArray, List.set_cons_zero, List.set_cons_succ]
                    have H9 := Lib.hid H8.out.drew
                    clear H8 hS
                    (try dsimp only); repeat' (first | go_values | go_skip | go_guarded | go_step | go_upon | go_back)
                    go_roundw
                    case rel => exact ⟨j + 1, by have := HX.out.1; omega, by go_num, H9.out⟩
                    case measure => have := HX.out.1; simp [intOf]; omega
                  · have dj0 : decide ((0 : Int) < (j : Int)) = true := decide_eq_true (by omega)
                    have dj00 : decide (0 < j) = true := decide_eq_true (by omega)
                    obtain ⟨i, hi⟩ : ∃ i, i + 1 = j := ⟨j - 1, by omega⟩
                    obtain ⟨p', hp', hpr⟩ := HX.out.2 i hi
                    have e1 := hpr w8 HRD.out
                    have e2 := HRD.out j (.int .i64 (p : Int)) HPJ.out
                    have ji : (j : Int) - 1 = (i : Int) := by omega
                    have wi : IntKind.i64.wrap (i : Int) = (i : Int) := IntWalk.i64_in _ (by omega)
                    have i0 : (0 : Int) ≤ (i : Int) := by omega
                    have in3 : (i : Int) < (n3 : Int) := by omega
                    have dpp : decide ((p : Int) ≤ (p' : Int)) = false := decide_eq_false (by omega)
                    have dpp2 : decide (p ≤ p') = false := decide_eq_false (by omega)
                    clear hi hp' hpr hj0
                    (try dsimp only); repeat' (first | go_values | go_skip | go_guarded | go_step | go_upon | go_back)
                    refine wp_region_G (fun w' => w'.cell? ⟨b9, 2, none⟩ = some (.int .i64 q) ∧ w'.cell? ⟨ba, oa + i, none⟩ = some (.int .i64 (p' : Int)) ∧ w'.cell? ⟨ba, oa + j, none⟩ = some (.int .i64 (p : Int))) [] (by kernel_rfl) ⟨u2, e1, e2⟩ (fun hS => ?_)
                    try dsimp only at hS
                    refine wpAnyG_take' (i := 0) (v := ?v0_1pv) rfl (by kernel_rfl) (by kernel_rfl) (by kernel_rfl) (by kernel_rfl) (fun _ _ _ h => h) (Or.inl ⟨by rfl, ?hy0_1pv⟩) hS ?rest0_1pv
                    case hy0_1pv => intro w hSw; (try dsimp only at hSw); go_simp; (try with_reducible rfl)
                    case rest0_1pv =>
                    try simp only [List.getElem_toArray, List.getElem_cons_succ, List.getElem_cons_zero, Act.put, List.setIfInBounds_toArray, List.set_cons_zero, List.set_cons_succ]
                    refine wpAnyG_take' (i := 1) (v := ?v1_2pv) rfl (by kernel_rfl) (by kernel_rfl) (by kernel_rfl) (by kernel_rfl) (fun _ _ _ h => h) (Or.inl ⟨by rfl, ?hy1_2pv⟩) hS ?rest1_2pv
                    case hy1_2pv => intro w hSw; (try dsimp only at hSw); go_simp; (try with_reducible rfl)
                    case rest1_2pv =>
                    try simp only [List.getElem_toArray, List.getElem_cons_succ, List.getElem_cons_zero, Act.put, List.setIfInBounds_toArray, List.set_cons_zero, List.set_cons_succ]
                    refine wpAnyG_take' (i := 2) (v := ?v2_3pv) rfl (by kernel_rfl) (by kernel_rfl) (by kernel_rfl) (by kernel_rfl) (fun _ _ _ h => h) (Or.inl ⟨by rfl, ?hy2_3pv⟩) hS ?rest2_3pv
                    case hy2_3pv => intro w hSw; (try dsimp only at hSw); go_simp; (try with_reducible rfl)
                    case rest2_3pv =>
                    try simp only [List.getElem_toArray, List.getElem_cons_succ, List.getElem_cons_zero, Act.put, List.setIfInBounds_toArray, List.set_cons_zero, List.set_cons_succ]
                    refine wpAnyG_take' (i := 3) (v := ?v3_4pv) rfl (by kernel_rfl) (by kernel_rfl) (by kernel_rfl) (by kernel_rfl) (fun _ _ _ h => h) (Or.inl ⟨by rfl, ?hy3_4pv⟩) hS ?rest3_4pv
                    case hy3_4pv => intro w hSw; (try dsimp only at hSw); go_simp; (try with_reducible rfl)
                    case rest3_4pv =>
                    try simp only [List.getElem_toArray, List.getElem_cons_succ, List.getElem_cons_zero, Act.put, List.setIfInBounds_toArray, List.set_cons_zero, List.set_cons_succ]
                    refine wpAnyG_take' (i := 4) (v := ?v4_5pv) rfl (by kernel_rfl) (by kernel_rfl) (by kernel_rfl) (by kernel_rfl) (fun _ _ _ h => h) (Or.inl ⟨by rfl, ?hy4_5pv⟩) hS ?rest4_5pv
                    case hy4_5pv => intro w hSw; (try dsimp only at hSw); go_simp; (try with_reducible rfl)
                    case rest4_5pv =>
                    try simp only [List.getElem_toArray, List.getElem_cons_succ, List.getElem_cons_zero, Act.put, List.setIfInBounds_toArray, List.set_cons_zero, List.set_cons_succ]
                    refine wpAnyG_take' (i := 5) (v := ?v5_6pv) rfl (by kernel_rfl) (by kernel_rfl) (by kernel_rfl) (by kernel_rfl) (fun _ _ _ h => h) (Or.inl ⟨by rfl, ?hy5_6pv⟩) hS ?rest5_6pv
                    case hy5_6pv => intro w hSw; (try dsimp only at hSw); go_simp; (try with_reducible rfl)
                    case rest5_6pv =>
                    try simp only [List.getElem_toArray, List.getElem_cons_succ, List.getElem_cons_zero, Act.put, List.setIfInBounds_toArray, List.set_cons_zero, List.set_cons_succ]
                    refine wpAnyG_take' (i := 6) (v := ?v6_7pv) rfl (by kernel_rfl) (by kernel_rfl) (by kernel_rfl) (by kernel_rfl) (fun _ _ _ h => h) (Or.inl ⟨by rfl, ?hy6_7pv⟩) hS ?rest6_7pv
                    case hy6_7pv => intro w hSw; (try dsimp only at hSw); go_simp; (try with_reducible rfl)
                    case rest6_7pv =>
                    try simp only [List.getElem_toArray, List.getElem_cons_succ, List.getElem_cons_zero, Act.put, List.setIfInBounds_toArray, List.set_cons_zero, List.set_cons_succ]
                    refine wpAnyG_take' (i := 7) (v := ?v7_8pv) rfl (by kernel_rfl) (by kernel_rfl) (by kernel_rfl) (by kernel_rfl) (fun _ _ _ h => h) (Or.inl ⟨by rfl, ?hy7_8pv⟩) hS ?rest7_8pv
                    case hy7_8pv => intro w hSw; (try dsimp only at hSw); go_simp; (try with_reducible rfl)
                    case rest7_8pv =>
                    try simp only [List.getElem_toArray, List.getElem_cons_succ, List.getElem_cons_zero, Act.put, List.setIfInBounds_toArray, List.set_cons_zero, List.set_cons_succ]
                    refine wpAnyG_take' (i := 8) (v := ?v8_9pv) rfl (by kernel_rfl) (by kernel_rfl) (by kernel_rfl) (by kernel_rfl) (fun _ _ _ h => h) (Or.inl ⟨by rfl, ?hy8_9pv⟩) hS ?rest8_9pv
                    case hy8_9pv => intro w hSw; (try dsimp only at hSw); go_simp; (try with_reducible rfl)
                    case rest8_9pv =>
                    try simp only [List.getElem_toArray, List.getElem_cons_succ, List.getElem_cons_zero, Act.put, List.setIfInBounds_toArray, List.set_cons_zero, List.set_cons_succ]
                    refine wpAnyG_take' (i := 9) (v := ?v9_10pv) rfl (by kernel_rfl) (by kernel_rfl) (by kernel_rfl) (by kernel_rfl) (fun _ _ _ h => h) (Or.inl ⟨by rfl, ?hy9_10pv⟩) hS ?rest9_10pv
                    case hy9_10pv => intro w hSw; (try dsimp only at hSw); go_simp; (try with_reducible rfl)
                    case rest9_10pv =>
                    try simp only [List.getElem_toArray, List.getElem_cons_succ, List.getElem_cons_zero, Act.put, List.setIfInBounds_toArray, List.set_cons_zero, List.set_cons_succ]
                    refine wpAnyG_take' (i := 10) (v := ?v10_11pv) rfl (by kernel_rfl) (by kernel_rfl) (by kernel_rfl) (by kernel_rfl) (fun _ _ _ h => h) (Or.inl ⟨by rfl, ?hy10_11pv⟩) hS ?rest10_11pv
                    case hy10_11pv => intro w hSw; (try dsimp only at hSw); go_simp; (try with_reducible rfl)
                    case rest10_11pv =>
                    try simp only [List.getElem_toArray, List.getElem_cons_succ, List.getElem_cons_zero, Act.put, List.setIfInBounds_toArray, List.set_cons_zero, List.set_cons_succ]
                    refine wpAnyG_take' (i := 11) (v := ?v11_12pv) rfl (by kernel_rfl) (by kernel_rfl) (by kernel_rfl) (by kernel_rfl) (fun _ _ _ h => h) (Or.inl ⟨by rfl, ?hy11_12pv⟩) hS ?rest11_12pv
                    case hy11_12pv => intro w hSw; (try dsimp only at hSw); go_simp; (try with_reducible rfl)
                    case rest11_12pv =>
                    try simp only [List.getElem_toArray, List.getElem_cons_succ, List.getElem_cons_zero, Act.put, List.setIfInBounds_toArray, List.set_cons_zero, List.set_cons_succ]
                    refine wpAnyG_take' (i := 12) (v := ?v12_13pv) rfl (by kernel_rfl) (by kernel_rfl) (by kernel_rfl) (by kernel_rfl) (fun _ _ _ h => h) (Or.inl ⟨by rfl, ?hy12_13pv⟩) hS ?rest12_13pv
                    case hy12_13pv => intro w hSw; (try dsimp only at hSw); go_simp; (try with_reducible rfl)
                    case rest12_13pv =>
                    try simp only [List.getElem_toArray, List.getElem_cons_succ, List.getElem_cons_zero, Act.put, List.setIfInBounds_toArray, List.set_cons_zero, List.set_cons_succ]
                    refine wpAnyG_take' (i := 13) (v := ?v13_14pv) rfl (by kernel_rfl) (by kernel_rfl) (by kernel_rfl) (by kernel_rfl) (fun _ _ _ h => h) (Or.inl ⟨by rfl, ?hy13_14pv⟩) hS ?rest13_14pv
                    case hy13_14pv => intro w hSw; (try dsimp only at hSw); go_simp; (try with_reducible rfl)
                    case rest13_14pv =>
                    try simp only [List.getElem_toArray, List.getElem_cons_succ, List.getElem_cons_zero, Act.put, List.setIfInBounds_toArray, List.set_cons_zero, List.set_cons_succ]
                    refine wpAnyG_take' (i := 14) (v := ?v14_15pv) rfl (by kernel_rfl) (by kernel_rfl) (by kernel_rfl) (by kernel_rfl) (fun _ _ _ h => h) (Or.inl ⟨by rfl, ?hy14_15pv⟩) hS ?rest14_15pv
                    case hy14_15pv => intro w hSw; (try dsimp only at hSw); go_simp; (try with_reducible rfl)
                    case rest14_15pv =>
                    try simp only [List.getElem_toArray, List.getElem_cons_succ, List.getElem_cons_zero, Act.put, List.setIfInBounds_toArray, List.set_cons_zero, List.set_cons_succ]
                    refine wpAnyG_take' (i := 15) (v := ?v15_16pv) rfl (by kernel_rfl) (by kernel_rfl) (by kernel_rfl) (by kernel_rfl) (fun _ _ _ h => h) (Or.inl ⟨by rfl, ?hy15_16pv⟩) hS ?rest15_16pv
                    case hy15_16pv => intro w hSw; (try dsimp only at hSw); go_simp; (try with_reducible rfl)
                    case rest15_16pv =>
                    try simp only [List.getElem_toArray, List.getElem_cons_succ, List.getElem_cons_zero, Act.put, List.setIfInBounds_toArray, List.set_cons_zero, List.set_cons_succ]
                    refine wpAnyG_take' (i := 16) (v := ?v16_17pv) rfl (by kernel_rfl) (by kernel_rfl) (by kernel_rfl) (by kernel_rfl) (fun _ _ _ h => h) (Or.inl ⟨by rfl, ?hy16_17pv⟩) hS ?rest16_17pv
                    case hy16_17pv => intro w hSw; (try dsimp only at hSw); go_simp; (try with_reducible rfl)
                    case rest16_17pv =>
                    try simp only [List.getElem_toArray, List.getElem_cons_succ, List.getElem_cons_zero, Act.put, List.setIfInBounds_toArray, List.set_cons_zero, List.set_cons_succ]
                    refine wpAnyG_take' (i := 17) (v := ?v17_18pv) rfl (by kernel_rfl) (by kernel_rfl) (by kernel_rfl) (by kernel_rfl) (fun _ _ _ h => h) (Or.inl ⟨by rfl, ?hy17_18pv⟩) hS ?rest17_18pv
                    case hy17_18pv => intro w hSw; (try dsimp only at hSw); go_simp; (try with_reducible rfl)
                    case rest17_18pv =>
                    try simp only [List.getElem_toArray, List.getElem_cons_succ, List.getElem_cons_zero, Act.put, List.setIfInBounds_toArray, List.set_cons_zero, List.set_cons_succ]
                    refine wpAnyG_take' (i := 18) (v := ?v18_19pv) rfl (by kernel_rfl) (by kernel_rfl) (by kernel_rfl) (by kernel_rfl) (fun _ _ _ h => h) (Or.inl ⟨by rfl, ?hy18_19pv⟩) hS ?rest18_19pv
                    case hy18_19pv => intro w hSw; (try dsimp only at hSw); go_simp; (try with_reducible rfl)
                    case rest18_19pv =>
                    try simp only [List.getElem_toArray, List.getElem_cons_succ, List.getElem_cons_zero, Act.put, List.setIfInBounds_toArray, List.set_cons_zero, List.set_cons_succ]
                    refine wpAnyG_take' (i := 19) (v := ?v19_20pv) rfl (by kernel_rfl) (by kernel_rfl) (by kernel_rfl) (by kernel_rfl) (fun _ _ _ h => h) (Or.inl ⟨by rfl, ?hy19_20pv⟩) hS ?rest19_20pv
                    case hy19_20pv => intro w hSw; (try dsimp only at hSw); go_simp; (try with_reducible rfl)
                    case rest19_20pv =>
                    try simp only [List.getElem_toArray, List.getElem_cons_succ, List.getElem_cons_zero, Act.put, List.setIfInBounds_toArray, List.set_cons_zero, List.set_cons_succ]
                    refine wpAnyG_take' (i := 20) (v := ?v20_21pv) rfl (by kernel_rfl) (by kernel_rfl) (by kernel_rfl) (by kernel_rfl) (fun _ _ _ h => h) (Or.inl ⟨by rfl, ?hy20_21pv⟩) hS ?rest20_21pv
                    case hy20_21pv => intro w hSw; (try dsimp only at hSw); go_simp; (try with_reducible rfl)
                    case rest20_21pv =>
                    try simp only [List.getElem_toArray, List.getElem_cons_succ, List.getElem_cons_zero, Act.put, List.setIfInBounds_toArray, List.set_cons_zero, List.set_cons_succ]
                    refine wpAnyG_take' (i := 21) (v := ?v21_22pv) rfl (by kernel_rfl) (by kernel_rfl) (by kernel_rfl) (by kernel_rfl) (fun _ _ _ h => h) (Or.inl ⟨by rfl, ?hy21_22pv⟩) hS ?rest21_22pv
                    case hy21_22pv => intro w hSw; (try dsimp only at hSw); go_simp; (try with_reducible rfl)
                    case rest21_22pv =>
                    try simp only [List.getElem_toArray, List.getElem_cons_succ, List.getElem_cons_zero, Act.put, List.setIfInBounds_toArray, List.set_cons_zero, List.set_cons_succ]
                    refine wpAnyG_take' (i := 22) (v := ?v22_23pv) rfl (by kernel_rfl) (by kernel_rfl) (by kernel_rfl) (by kernel_rfl) (fun _ _ _ h => h) (Or.inl ⟨by rfl, ?hy22_23pv⟩) hS ?rest22_23pv
                    case hy22_23pv => intro w hSw; (try dsimp only at hSw); go_simp; (try with_reducible rfl)
                    case rest22_23pv =>
                    try simp only [List.getElem_toArray, List.getElem_cons_succ, List.getElem_cons_zero, Act.put, List.setIfInBounds_toArray, List.set_cons_zero, List.set_cons_succ]
                    refine wpAnyG_take' (i := 23) (v := ?v23_24pv) rfl (by kernel_rfl) (by kernel_rfl) (by kernel_rfl) (by kernel_rfl) (fun _ _ _ h => h) (Or.inl ⟨by rfl, ?hy23_24pv⟩) hS ?rest23_24pv
                    case hy23_24pv => intro w hSw; (try dsimp only at hSw); go_simp; (try with_reducible rfl)
                    case rest23_24pv =>
                    try simp only [List.getElem_toArray, List.getElem_cons_succ, List.getElem_cons_zero, Act.put, List.setIfInBounds_toArray, List.set_cons_zero, List.set_cons_succ]
                    refine wpAnyG_done (by kernel_rfl) ?_ _
                    try simp only [List.getElem_toArray, List.getElem_cons_succ, List.getElem_cons_zero, Act.put, List.setIfInBounds_toArray, List.set_cons_zero, List.set_cons_succ]
                    have H9 := Lib.hid H8.out.drew
                    clear H8 hS
                    (try dsimp only); repeat' (first | go_values | go_skip | go_guarded | go_step | go_upon | go_back)
                    go_roundw
                    case rel => exact ⟨j + 1, by have := HX.out.1; omega, by go_num, H9.out⟩
                    case measure => have := HX.out.1; simp [intOf]; omega
                · have dj : decide (j < n3) = false := decide_eq_false hjn
                  have H6 : Hid (Sep w [BagT g (ws.map sM)] wr) := Lib.hid hs2.drop
                  clear hs2 hj hjn
                  (try dsimp only); repeat' (first | go_values | go_skip | go_guarded | go_step | go_upon | go_back)
                  go_roundw
                  case rel => exact ⟨q + 1, by omega, by omega, by rw [HPP.out.2.1.symm], by go_num, H6.out⟩
                  case measure => simp [intOf]; omega
            · have dq : decide (q < 25) = false := decide_eq_false hq
              obtain rfl : M = 0 := by rw [hM, rem_none ws q (by omega)]
              have HWK := Lib.hid (works22_any hs HM.out)
              clear hs hM hM9 hq hq0 hq1
              (try dsimp only); repeat' (first | go_values | go_skip | go_guarded | go_step | go_upon | go_back)
              refine HWK.out.mono ?_
              rintro r0 w9 ⟨rfl, h9⟩
              have H9 := Lib.hid h9.low
              clear HWK h9
              (try dsimp only); repeat' (first | go_values | go_skip | go_guarded | go_step | go_upon | go_back)
              go_ret
              exact ⟨rfl, H9.out⟩
end Go.Proofs.YtcnbmeiielkigaaDoor
