/- BagKeeps. -/
import Derived.Test.YtcnbmeiielkigaaDoorBag10
import Derived.Test.YtcnbmeiielkigaaDoorOpenRows
namespace Go.Proofs.YtcnbmeiielkigaaDoor
open Go Go.RowKit
set_option linter.unusedVariables false
set_option linter.unusedSimpArgs false
theorem slI_part {w : World} {b c : Nat} {l : List Int} {m : Nat} (hb : b < w.heap.size) (hl : l.length = m) (hmc : m ≤ c) (hcm : c ≤ maxLen) (hc : ∀ j (hj : j < l.length), w.cell? ⟨b, j, none⟩ = some (.int .i64 l[j])) (i : Nat) (hi : i ≤ m) :
    Sl w (.slice (if c = i then some ⟨b, 0, none⟩ else some ⟨b, i, none⟩) (m - i) (c - i)) (iv .i64 (l.drop i)) := by
  subst hl
  by_cases hc' : c = i
  · rw [if_pos hc']
    have e : l.drop i = [] := List.drop_eq_nil_of_le (by omega)
    rw [e]
    exact .inr ⟨_, _, by rw [show l.length - i = 0 by omega], rfl⟩
  · rw [if_neg hc']
    refine .inl (.inr ⟨b, i, c - i, by simp [iv_length], by rw [iv_length, List.length_drop]; omega, by omega, hb, fun k u hk => ?_⟩)
    have hk2 : k < l.length - i := by
      rcases Nat.lt_or_ge k (l.length - i) with h | h
      · exact h
      · rw [List.getElem?_eq_none (by rw [iv_length, List.length_drop]; exact h)] at hk; cases hk
    have h2 := hc (i + k) (by omega)
    rw [h2, ← hk]
    simp [iv, List.getElem?_drop]
    rw [List.getElem?_eq_getElem (by omega)]
    rfl
theorem slI_take {w : World} {b c : Nat} {l : List Int} {m : Nat} (hb : b < w.heap.size) (hl : l.length = m) (hmc : m ≤ c) (hcm : c ≤ maxLen) (hc : ∀ j (hj : j < l.length), w.cell? ⟨b, j, none⟩ = some (.int .i64 l[j])) (i : Nat) (hi : i ≤ m) :
    Sl w (.slice (some ⟨b, 0, none⟩) i c) (iv .i64 (l.take i)) := by
  subst hl
  refine .inl (.inr ⟨b, 0, c, by simp [iv_length, Nat.min_eq_left hi], by rw [iv_length, List.length_take]; omega, hcm, hb, fun k u hk => ?_⟩)
  have hk2 : k < i := by
    rcases Nat.lt_or_ge k i with h | h
    · exact h
    · rw [List.getElem?_eq_none (by rw [iv_length, List.length_take]; omega)] at hk; cases hk
  rw [Nat.zero_add, hc k (by omega), ← hk]
  simp [iv, List.getElem?_take, hk2]
  rw [List.getElem?_eq_getElem (by omega)]
  rfl
/-- What a slice of ints of one's own is. -/
theorem Sep.isForm {w0 w : World} {a : Option Addr} {n c : Nat} {ws : List Int} {L : List Thing} (h : Sep w0 (Is (.slice a n c) ws :: L) w) (hn : ws.length = n) (h0 : 0 < n) :
    ∃ b, a = some ⟨b, 0, none⟩ ∧ b < w.heap.size ∧ n ≤ c ∧ c ≤ maxLen ∧ ∀ j (hj : j < ws.length), w.cell? ⟨b, j, none⟩ = some (.int .i64 ws[j]) := by
  obtain ⟨a', c', hv, h1, h2, h3, h4⟩ := Sep.rnForm (h : Sep w0 (Rn 1 3 (.slice a n c) (iv .i64 ws).length (iv .i64 ws) :: L) w)
  rw [iv_length] at hv h1
  simp only [Value.slice.injEq] at hv
  obtain ⟨rfl, -, rfl⟩ := hv
  obtain ⟨b, rfl, hb, hc⟩ := h4 (by rw [iv_length]; omega)
  refine ⟨b, rfl, hb, by omega, h2, fun j hj => ?_⟩
  rw [hc j (by rw [iv_length]; exact hj)]
  simp [iv]
/-- One taken out: the two parts, one behind the other, in a new row. -/
theorem cut_ints {w0 w : World} {b n c : Nat} {ws : List Int} {L : List Thing} {ty1 ty2 : TypeId} (h : Sep w0 (Is (.slice (some ⟨b, 0, none⟩) n c) ws :: L) w) (hn : ws.length = n) (h0 : 0 < n) (hl : n ≤ 100000) (j jp : Nat) (hj : j < n) (hjp : j + 1 = jp) :
    ∃ v1 w1 a2 c2 w2, (Builtin.append_ #[26, 26] ty1 #[.slice (some ⟨w.heap.size, 0, none⟩) 0 0, .slice (some ⟨b, 0, none⟩) j c]).run Tryd.prog (w.alloc (.cells #[] 3)) = .ok v1 w1 ∧
      (Builtin.append_ #[26, 26] ty2 #[v1, .slice (if c = jp then some ⟨b, 0, none⟩ else some ⟨b, jp, none⟩) (n - jp) (c - jp)]).run Tryd.prog w1 = .ok (.slice a2 (n - 1) c2) w2 ∧
      Sep w0 (Is (.slice a2 (n - 1) c2) (ws.eraseIdx j) :: L) w2 := by
  have h1 := (h.alloc (.cells #[] 3)).asRow 0 rfl (by decide)
  obtain ⟨b', hb', hlt, hnc, hcm, hcell⟩ := h1.sw2.isForm hn h0
  simp only [Option.some.injEq, Addr.mk.injEq, and_true] at hb'
  subst hb'
  obtain ⟨v1, w1, hr1, h2, -⟩ := appI (ty := ty1) (xs := []) h1 (slI_take hlt hn hnc hcm hcell j (by omega)) (by simp; omega)
  obtain ⟨b', hb', hlt2, -, -, hcell2⟩ := h2.sw2.isForm hn h0
  simp only [Option.some.injEq, Addr.mk.injEq, and_true] at hb'
  subst hb'
  obtain ⟨v2, w2, hr2, h3, -⟩ := appI (ty := ty2) h2 (slI_part hlt2 hn hnc hcm hcell2 jp (by omega)) (by simp; omega)
  obtain ⟨a2, c2, rfl⟩ := h3.sl.len
  have hln : (iv .i64 ([] ++ ws.take j ++ ws.drop jp)).length = n - 1 := by rw [iv_length]; simp; omega
  rw [hln] at h3 hr2
  refine ⟨v1, w1, a2, c2, w2, hr1, hr2, ?_⟩
  have h4 := h3.sw2.drop
  rw [List.nil_append, ← hjp, ← List.eraseIdx_eq_take_drop_succ] at h4
  exact h4
theorem map_erase (ws : List Int) (j : Nat) : (ws.map sM).eraseIdx j = (ws.eraseIdx j).map sM := by
  rw [List.eraseIdx_eq_take_drop_succ, List.eraseIdx_eq_take_drop_succ, List.map_append, List.map_take, List.map_drop]
theorem pair_of {w : World} {cs : List Value} (h : RdC Tryd.prog w 28 cs) : ∃ a b : Int, cs = [.int .i64 a, .int .i64 b] := by
  obtain ⟨hl, ha⟩ := h.array Tryd.underlying28
  rw [show Tryd.prog.cellsOf 28 = 2 by kernel_rfl] at hl
  rw [show Tryd.prog.cellsOf 3 = 1 by kernel_rfl] at ha
  match cs, hl with
  | [u0, u1], _ =>
    obtain ⟨a, h0, _⟩ := (ha 0 (by omega)).int Tryd.underlying3
    obtain ⟨b, h1, _⟩ := (ha 1 (by omega)).int Tryd.underlying3
    simp at h0 h1
    subst h0 h1
    exact ⟨a, b, rfl⟩
theorem pairs_of {w : World} {v : Value} (h : RdC Tryd.prog w 22 [v]) : ∃ (a : Option Addr) (len cap : Nat), v = .slice a len cap ∧ len ≤ cap ∧ cap ≤ maxLen ∧ ∀ i, i < len → ∃ b off, a = some ⟨b, off, none⟩ ∧ b < w.heap.size ∧
    ∃ x y : Int, ∀ j q, [.int .i64 x, .int .i64 y][j]? = some q → w.cell? ⟨b, off + i * 2 + j, none⟩ = some q := by
  obtain ⟨a, len, cap, rfl, h1, h2, h3⟩ := h.rows Tryd.underlying22 (show Tryd.prog.cellsOf 28 = 2 by kernel_rfl) (by decide)
  refine ⟨a, len, cap, rfl, h1, h2, fun i hi => ?_⟩
  obtain ⟨b, off, hab, hb, cs, hl, hc, hr⟩ := h3 i hi
  obtain ⟨x, y, rfl⟩ := pair_of hr
  exact ⟨b, off, hab, hb, x, y, fun j q hj => by
    obtain ⟨h9, rfl⟩ := List.getElem?_eq_some_iff.1 hj
    exact hc j h9⟩
set_option maxRecDepth 100000 in
set_option maxHeartbeats 0 in
theorem bagkeeps_any (v : Value) (w : World) (hv : RdC Tryd.prog w 22 [v]) (hK : KindsAt w ∧ MKindsAt w) :
    Calls Tryd.prog 3 #[v] w fun e w' => e = .returned (.bool true) ∧ Below w.heap.size w w' := by
  obtain ⟨la, vn, vc, rfl, hlc, hcm, hrow⟩ := pairs_of hv
  have HWK := Lib.hid (works22_any (Sep.start w) hK.2)
  have HV := Lib.hid hrow
  have HM := Lib.hid hK.2
  have n0 : (0 : Int) ≤ (vn : Int) := by omega
  clear hv hrow hK hlc hcm
  go_enter Tryd.func3, Tryd.ntmps3
  (try dsimp only); repeat' (first | go_values | go_skip | go_guarded | go_step | go_upon | go_back)
  refine HWK.out.mono ?_
  rintro r0 w1 ⟨rfl, h1⟩
  have HN := Lib.hid (bnew_any (h1.rnil 3))
  clear HWK h1
  (try dsimp only); repeat' (first | go_values | go_skip | go_guarded | go_step | go_upon | go_back)
  refine HN.out.mono ?_
  rintro r0 w2 ⟨g, rfl, h2⟩
  have h2 : Sep w [BagT g [], Is (.slice none 0 0) []] w2 := h2
  have H1 := Lib.hid h2
  clear HN h2
  (try dsimp only); repeat' (first | go_values | go_skip | go_guarded | go_step | go_upon | go_back)
  go_loopw [4, 5] (fun wv i wr => ∃ (k n : Nat) (ws : List Int) (wa : Option Addr) (wc : Nat), k ≤ vn ∧ k ≤ 150 ∧ n ≤ k ∧ wv = .slice wa n wc ∧ i = .int .i64 k ∧ ws.length = n ∧ (∀ x ∈ ws, 0 ≤ x ∧ x ≤ 150) ∧ Sep w [BagT g (ws.map sM), Is (.slice wa n wc) ws] wr) (fun _ i _ => 150 - (intOf i).toNat)
  case atStart => exact ⟨0, 0, [], none, 0, Nat.zero_le _, by omega, Nat.le_refl _, rfl, rfl, rfl, (fun x hx => by cases hx), H1.out⟩
  case round =>
    obtain ⟨k, n, ws, wa, wc, hk, hk2, hnk, rfl, rfl, hwl, hw0, hs⟩ := hrel
    clear H1
    have k0 : (0 : Int) ≤ (k : Int) := by omega
    have k9 : (k : Int) ≤ 150 := by omega
    have m0 : (0 : Int) ≤ (n : Int) := by omega
    have m9 : (n : Int) ≤ 150 := by omega
    have HS := Lib.hid hs
    by_cases hgo : k < vn ∧ k < 150
    · have d0 : decide (k < vn) = true := decide_eq_true hgo.1
      have d1 : decide ((k : Int) < 150) = true := decide_eq_true (by omega)
      have k1 : (k : Int) < (vn : Int) := by omega
      obtain ⟨b0, o0, rfl, hb0, x, y, hat⟩ := HV.out k hgo.1
      have q : ∀ j z, [.int .i64 x, .int .i64 y][j]? = some z → ∀ wx, Below w.heap.size w wx → wx.cell? ⟨b0, o0 + k * 2 + j, none⟩ = some z := fun j z hj wx hb => (hb.cell (p := ⟨b0, o0 + k * 2 + j, none⟩) hb0).trans (hat j z hj)
      have e0 : wr.cell? ⟨b0, o0 + k * 2, none⟩ = some (.int .i64 x) := q 0 _ rfl _ hs.low
      have e1 : wr.cell? ⟨b0, o0 + k * 2 + 1, none⟩ = some (.int .i64 y) := q 1 _ rfl _ hs.low
      have HB6 := Lib.hid (fun wx => bring_any x 6 wx ⟨by decide, by decide⟩)
      obtain ⟨z, hz⟩ : ∃ z, z = x % 6 := ⟨_, rfl⟩
      have z0 : 0 ≤ z := by omega
      have z5 : z < 6 := by omega
      rw [← hz] at HB6
      have HW := Lib.hid (And.intro hwl (And.intro hw0 (And.intro hgo hnk)))
      have hml : (ws.map sM).length = n := by rw [List.length_map, hwl]
      have HML := Lib.hid hml
      clear hs hat q hb0 hk hk2 hwl hw0 hgo hnk hz hml
      by_cases hn0 : n = 0
      · have dn : decide ((0 : Int) < (n : Int)) = false := decide_eq_false (by omega)
        have dn1 : decide (0 < n) = false := decide_eq_false (by omega)
        have de : ((n : Int) == 0) = true := beq_iff_eq.2 (by omega)
        have de1 : (n == 0) = true := beq_iff_eq.2 hn0
        by_cases hz3 : z < 3
        · have dz : decide (z < 3) = true := decide_eq_true hz3
          clear hn0 hz3
          as_aux_lemma =>
            have HSM := Lib.hid (small_any (k : Int) k0 (by omega) HS.out)
            (try dsimp only); repeat' (first | go_values | go_skip | go_guarded | go_step | go_upon | go_back)
            refine (HB6.out _).mono ?_
            rintro r0 wq ⟨rfl, rfl⟩
            clear HB6
            (try dsimp only); repeat' (first | go_values | go_skip | go_guarded | go_step | go_upon | go_back)
            refine HSM.out.mono ?_
            rintro r0 w3 ⟨c, hc, rfl, h3⟩
            have HPT := Lib.hid (bput_any (sM (k : Int)) h3 hc (chk_small HM.out k0 (by omega)) (by rw [HML.out]; omega))
            clear HSM h3 hc HS e0 e1
            (try dsimp only); repeat' (first | go_values | go_skip | go_guarded | go_step | go_upon | go_back)
            refine HPT.out.mono ?_
            rintro r0 w4 ⟨rfl, h4⟩
            have h4 : Sep w [BagT g (ws.map sM ++ [sM (k : Int)]), Is (.slice wa n wc) ws] w4 := h4
            have h6 := (h4.alloc (.cells #[.int .i64 (k : Int)] 3)).asRow 1 rfl (by decide)
            obtain ⟨v9, w9, hr9, h7, -⟩ := appI (ty := 26) (ys := [(k : Int)]) h6.sw3 h6.sl (by rw [HW.out.1]; simp; omega)
            obtain ⟨va9, vc9, rfl⟩ := h7.sl.len
            rw [iv_length, List.length_append, HW.out.1] at h7 hr9
            have h8 : Sep w [BagT g ((ws ++ [(k : Int)]).map sM), Is (.slice va9 (n + 1) vc9) (ws ++ [(k : Int)])] w9 := by rw [List.map_append]; exact h7.pick [2, 0] rfl
            have HQ := Lib.hid h8
            have HR := Lib.hid hr9
            clear HPT h4 h6 h7 h8 hr9
            (try dsimp only); repeat' (first | (at_builtin; refine stopP ?_) | go_values | go_skip | go_guarded | go_step | go_upon | go_back)
            unfold StopP
            refine wpList_append_r rfl _ _ _ _ rfl rfl rfl HR.out ?_
            clear HR
            have HBN : Hid (∀ x ∈ ws ++ [(k : Int)], 0 ≤ x ∧ x ≤ 150) := Lib.hid (fun z hz => by rcases List.mem_append.1 hz with h | h; exact HW.out.2.1 z h; rw [List.mem_singleton.1 h]; exact ⟨k0, by omega⟩)
            have HLE : Hid ((ws ++ [(k : Int)]).length = n + 1) := Lib.hid (by rw [List.length_append, HW.out.1]; rfl)
            have HTE := Lib.hid (tells_any HQ.out (by rw [HLE.out]; have := HW.out.2.2.2; omega) (fun x hx => (HBN.out x hx).1))
            clear HQ
            (try dsimp only); repeat' (first | go_values | go_skip | go_guarded | go_step | go_upon | go_back)
            refine HTE.out.mono ?_
            rintro r0 wt ⟨rfl, ht⟩
            have HT := Lib.hid ht
            clear HTE ht
            (try dsimp only); repeat' (first | go_values | go_skip | go_guarded | go_step | go_upon | go_back)
            go_roundw
            case rel => exact ⟨k + 1, n + 1, ws ++ [(k : Int)], va9, vc9, by have := HW.out.2.2.1.1; omega, by have := HW.out.2.2.1.2; omega, by have := HW.out.2.2.2; omega, rfl, by go_num, HLE.out, HBN.out, HT.out⟩
            case measure => have := HW.out.2.2.1.2; simp [intOf]; omega
        · have dz : decide (z < 3) = false := decide_eq_false hz3
          clear hn0 hz3
          as_aux_lemma =>
            have HSM := Lib.hid (small_any (k : Int) k0 (by omega) HS.out)
            (try dsimp only); repeat' (first | go_values | go_skip | go_guarded | go_step | go_upon | go_back)
            refine (HB6.out _).mono ?_
            rintro r0 wq ⟨rfl, rfl⟩
            clear HB6
            (try dsimp only); repeat' (first | go_values | go_skip | go_guarded | go_step | go_upon | go_back)
            refine HSM.out.mono ?_
            rintro r0 w3 ⟨c, hc, rfl, h3⟩
            have HPT := Lib.hid (bput_any (sM (k : Int)) h3 hc (chk_small HM.out k0 (by omega)) (by rw [HML.out]; omega))
            clear HSM h3 hc HS e0 e1
            (try dsimp only); repeat' (first | go_values | go_skip | go_guarded | go_step | go_upon | go_back)
            refine HPT.out.mono ?_
            rintro r0 w4 ⟨rfl, h4⟩
            have h4 : Sep w [BagT g (ws.map sM ++ [sM (k : Int)]), Is (.slice wa n wc) ws] w4 := h4
            have h6 := (h4.alloc (.cells #[.int .i64 (k : Int)] 3)).asRow 1 rfl (by decide)
            obtain ⟨v9, w9, hr9, h7, -⟩ := appI (ty := 26) (ys := [(k : Int)]) h6.sw3 h6.sl (by rw [HW.out.1]; simp; omega)
            obtain ⟨va9, vc9, rfl⟩ := h7.sl.len
            rw [iv_length, List.length_append, HW.out.1] at h7 hr9
            have h8 : Sep w [BagT g ((ws ++ [(k : Int)]).map sM), Is (.slice va9 (n + 1) vc9) (ws ++ [(k : Int)])] w9 := by rw [List.map_append]; exact h7.pick [2, 0] rfl
            have HQ := Lib.hid h8
            have HR := Lib.hid hr9
            clear HPT h4 h6 h7 h8 hr9
            (try dsimp only); repeat' (first | (at_builtin; refine stopP ?_) | go_values | go_skip | go_guarded | go_step | go_upon | go_back)
            unfold StopP
            refine wpList_append_r rfl _ _ _ _ rfl rfl rfl HR.out ?_
            clear HR
            have HBN : Hid (∀ x ∈ ws ++ [(k : Int)], 0 ≤ x ∧ x ≤ 150) := Lib.hid (fun z hz => by rcases List.mem_append.1 hz with h | h; exact HW.out.2.1 z h; rw [List.mem_singleton.1 h]; exact ⟨k0, by omega⟩)
            have HLE : Hid ((ws ++ [(k : Int)]).length = n + 1) := Lib.hid (by rw [List.length_append, HW.out.1]; rfl)
            have HTE := Lib.hid (tells_any HQ.out (by rw [HLE.out]; have := HW.out.2.2.2; omega) (fun x hx => (HBN.out x hx).1))
            clear HQ
            (try dsimp only); repeat' (first | go_values | go_skip | go_guarded | go_step | go_upon | go_back)
            refine HTE.out.mono ?_
            rintro r0 wt ⟨rfl, ht⟩
            have HT := Lib.hid ht
            clear HTE ht
            (try dsimp only); repeat' (first | go_values | go_skip | go_guarded | go_step | go_upon | go_back)
            go_roundw
            case rel => exact ⟨k + 1, n + 1, ws ++ [(k : Int)], va9, vc9, by have := HW.out.2.2.1.1; omega, by have := HW.out.2.2.1.2; omega, by have := HW.out.2.2.2; omega, rfl, by go_num, HLE.out, HBN.out, HT.out⟩
            case measure => have := HW.out.2.2.1.2; simp [intOf]; omega
      · have dn : decide ((0 : Int) < (n : Int)) = true := decide_eq_true (by omega)
        have dn1 : decide (0 < n) = true := decide_eq_true (by omega)
        have de : ((n : Int) == 0) = false := beq_eq_false_iff_ne.2 (by omega)
        have de1 : (n == 0) = false := beq_eq_false_iff_ne.2 hn0
        have HB2 := Lib.hid (fun wx => bring_any y (n : Int) wx ⟨by omega, by omega⟩)
        obtain ⟨j, hj, hjk⟩ : ∃ j : Nat, y % (n : Int) = (j : Int) ∧ j < n := ⟨(y % (n : Int)).toNat, by have := Int.emod_nonneg y (show (n : Int) ≠ 0 by omega); omega, by have := Int.emod_lt_of_pos y (show (0 : Int) < (n : Int) by omega); have := Int.emod_nonneg y (show (n : Int) ≠ 0 by omega); omega⟩
        rw [hj] at HB2
        have jk : (j : Int) < (n : Int) := by omega
        have j0 : (0 : Int) ≤ (j : Int) := by omega
        have hjw : j < ws.length := by rw [HW.out.1]; exact hjk
        obtain ⟨xx, hxx⟩ : ∃ xx, xx = ws[j] := ⟨_, rfl⟩
        have hx0 := HW.out.2.1 ws[j] (List.getElem_mem hjw)
        rw [← hxx] at hx0
        have em : ∀ h : j < (ws.map sM).length, (ws.map sM)[j]'h = sM xx := fun h => by rw [List.getElem_map, hxx]
        obtain ⟨bw, rfl, -, hnwc, -, -⟩ := HS.out.sw2.isForm HW.out.1 (by omega)
        have nwc : (n : Int) ≤ (wc : Int) := by omega
        have jwc : j ≤ wc := by omega
        have jwcI : (j : Int) ≤ (wc : Int) := by omega
        have HNWC := Lib.hid hnwc
        have HCELL : Hid (∀ (wx : World) (M : List Thing), Sep w (Is (.slice (some ⟨bw, 0, none⟩) n wc) ws :: M) wx → wx.cell? ⟨bw, j, none⟩ = some (.int .i64 xx)) := Lib.hid fun wx M hx => by
          obtain ⟨b', hb', -, -, -, hc⟩ := hx.isForm HW.out.1 (by omega)
          simp only [Option.some.injEq, Addr.mk.injEq, and_true] at hb'
          subst hb'
          rw [hxx]
          exact hc j hjw
        have HX := Lib.hid (And.intro hjk (And.intro hx0 em))
        have f0 := HCELL.out _ _ HS.out.sw2
        clear hj hjk hjw hx0 em hn0 hxx hnwc
        by_cases hz3 : z < 3
        · have dz : decide (z < 3) = true := decide_eq_true hz3
          clear hz3
          as_aux_lemma =>
            have HSM := Lib.hid (small_any (k : Int) k0 (by omega) HS.out)
            (try dsimp only); repeat' (first | go_values | go_skip | go_guarded | go_step | go_upon | go_back)
            refine (HB2.out _).mono ?_
            rintro r0 wq ⟨rfl, rfl⟩
            clear HB2
            (try dsimp only); repeat' (first | go_values | go_skip | go_guarded | go_step | go_upon | go_back)
            refine (HB6.out _).mono ?_
            rintro r0 wq ⟨rfl, rfl⟩
            clear HB6
            (try dsimp only); repeat' (first | go_values | go_skip | go_guarded | go_step | go_upon | go_back)
            refine HSM.out.mono ?_
            rintro r0 w3 ⟨c, hc, rfl, h3⟩
            have HPT := Lib.hid (bput_any (sM (k : Int)) h3 hc (chk_small HM.out k0 (by omega)) (by rw [HML.out]; omega))
            clear HSM h3 hc HS e0 e1 f0
            (try dsimp only); repeat' (first | go_values | go_skip | go_guarded | go_step | go_upon | go_back)
            refine HPT.out.mono ?_
            rintro r0 w4 ⟨rfl, h4⟩
            have h4 : Sep w [BagT g (ws.map sM ++ [sM (k : Int)]), Is (.slice (some ⟨bw, 0, none⟩) n wc) ws] w4 := h4
            have h6 := (h4.alloc (.cells #[.int .i64 (k : Int)] 3)).asRow 1 rfl (by decide)
            obtain ⟨v9, w9, hr9, h7, -⟩ := appI (ty := 26) (ys := [(k : Int)]) h6.sw3 h6.sl (by rw [HW.out.1]; simp; omega)
            obtain ⟨va9, vc9, rfl⟩ := h7.sl.len
            rw [iv_length, List.length_append, HW.out.1] at h7 hr9
            have h8 : Sep w [BagT g ((ws ++ [(k : Int)]).map sM), Is (.slice va9 (n + 1) vc9) (ws ++ [(k : Int)])] w9 := by rw [List.map_append]; exact h7.pick [2, 0] rfl
            have HQ := Lib.hid h8
            have HR := Lib.hid hr9
            clear HPT h4 h6 h7 h8 hr9
            (try dsimp only); repeat' (first | (at_builtin; refine stopP ?_) | go_values | go_skip | go_guarded | go_step | go_upon | go_back)
            unfold StopP
            refine wpList_append_r rfl _ _ _ _ rfl rfl rfl HR.out ?_
            clear HR
            have HBN : Hid (∀ x ∈ ws ++ [(k : Int)], 0 ≤ x ∧ x ≤ 150) := Lib.hid (fun z hz => by rcases List.mem_append.1 hz with h | h; exact HW.out.2.1 z h; rw [List.mem_singleton.1 h]; exact ⟨k0, by omega⟩)
            have HLE : Hid ((ws ++ [(k : Int)]).length = n + 1) := Lib.hid (by rw [List.length_append, HW.out.1]; rfl)
            have HTE := Lib.hid (tells_any HQ.out (by rw [HLE.out]; have := HW.out.2.2.2; omega) (fun x hx => (HBN.out x hx).1))
            clear HQ
            (try dsimp only); repeat' (first | go_values | go_skip | go_guarded | go_step | go_upon | go_back)
            refine HTE.out.mono ?_
            rintro r0 wt ⟨rfl, ht⟩
            have HT := Lib.hid ht
            clear HTE ht
            (try dsimp only); repeat' (first | go_values | go_skip | go_guarded | go_step | go_upon | go_back)
            go_roundw
            case rel => exact ⟨k + 1, n + 1, ws ++ [(k : Int)], va9, vc9, by have := HW.out.2.2.1.1; omega, by have := HW.out.2.2.1.2; omega, by have := HW.out.2.2.2; omega, rfl, by go_num, HLE.out, HBN.out, HT.out⟩
            case measure => have := HW.out.2.2.1.2; simp [intOf]; omega
        · have dz : decide (z < 3) = false := decide_eq_false hz3
          by_cases hz4 : z = 3
          · subst hz4
            clear hz3 z0 z5 dz
            as_aux_lemma =>
              have HCP : Hid (Calls Tryd.prog 12 #[.pointer (some ⟨g, 0, none⟩), .int .i64 (j : Nat)] wr fun e w' => e = .returned (.int .i64 0) ∧ Sep w [BagT g (ws.map sM ++ [sM xx]), Is (.slice (some ⟨bw, 0, none⟩) n wc) ws] w') := Lib.hid (by
                have h9 := bcopy_any j HS.out (by rw [HML.out]; exact HX.out.1) (by rw [HX.out.2.2]; exact chk_small HM.out HX.out.2.1.1 (by have := HX.out.2.1.2; omega)) (by rw [HML.out]; omega)
                rw [HX.out.2.2] at h9
                exact h9)
              (try dsimp only); repeat' (first | go_values | go_skip | go_guarded | go_step | go_upon | go_back)
              refine (HB2.out _).mono ?_
              rintro r0 wq ⟨rfl, rfl⟩
              clear HB2
              (try dsimp only); repeat' (first | go_values | go_skip | go_guarded | go_step | go_upon | go_back)
              refine (HB6.out _).mono ?_
              rintro r0 wq ⟨rfl, rfl⟩
              clear HB6
              clear HS e0 e1 f0
              (try dsimp only); repeat' (first | go_values | go_skip | go_guarded | go_step | go_upon | go_back)
              refine HCP.out.mono ?_
              rintro r0 w4 ⟨rfl, h4⟩
              have f0 := HCELL.out _ _ h4.sw2
              have h6 := (h4.alloc (.cells #[.int .i64 xx] 3)).asRow 1 rfl (by decide)
              obtain ⟨v9, w9, hr9, h7, -⟩ := appI (ty := 26) (ys := [xx]) h6.sw3 h6.sl (by rw [HW.out.1]; simp; omega)
              obtain ⟨va9, vc9, rfl⟩ := h7.sl.len
              rw [iv_length, List.length_append, HW.out.1] at h7 hr9
              have h8 : Sep w [BagT g ((ws ++ [xx]).map sM), Is (.slice va9 (n + 1) vc9) (ws ++ [xx])] w9 := by rw [List.map_append]; exact h7.pick [2, 0] rfl
              have HQ := Lib.hid h8
              have HR := Lib.hid hr9
              clear HCP h4 h6 h7 h8 hr9
              (try dsimp only); repeat' (first | (at_builtin; refine stopP ?_) | go_values | go_skip | go_guarded | go_step | go_upon | go_back)
              unfold StopP
              refine wpList_append_r rfl _ _ _ _ rfl rfl rfl HR.out ?_
              clear HR
              have HBN : Hid (∀ x ∈ ws ++ [xx], 0 ≤ x ∧ x ≤ 150) := Lib.hid (fun z hz => by rcases List.mem_append.1 hz with h | h; exact HW.out.2.1 z h; rw [List.mem_singleton.1 h]; exact HX.out.2.1)
              have HLE : Hid ((ws ++ [xx]).length = n + 1) := Lib.hid (by rw [List.length_append, HW.out.1]; rfl)
              have HTE := Lib.hid (tells_any HQ.out (by rw [HLE.out]; have := HW.out.2.2.2; omega) (fun x hx => (HBN.out x hx).1))
              clear HQ
              (try dsimp only); repeat' (first | go_values | go_skip | go_guarded | go_step | go_upon | go_back)
              refine HTE.out.mono ?_
              rintro r0 wt ⟨rfl, ht⟩
              have HT := Lib.hid ht
              clear HTE ht
              (try dsimp only); repeat' (first | go_values | go_skip | go_guarded | go_step | go_upon | go_back)
              go_roundw
              case rel => exact ⟨k + 1, n + 1, ws ++ [xx], va9, vc9, by have := HW.out.2.2.1.1; omega, by have := HW.out.2.2.1.2; omega, by have := HW.out.2.2.2; omega, rfl, by go_num, HLE.out, HBN.out, HT.out⟩
              case measure => have := HW.out.2.2.1.2; simp [intOf]; omega
          · have dz3 : (z == 3) = false := beq_eq_false_iff_ne.2 hz4
            by_cases hz5 : z = 4
            · subst hz5
              clear hz3 z0 z5 dz dz3 hz4
              obtain ⟨jp, hjp⟩ : ∃ jp, j + 1 = jp := ⟨_, rfl⟩
              have hjp2 : (j : Int) + 1 = (jp : Int) := by omega
              have jp9 : (jp : Int) ≤ (n : Int) := by omega
              have jp0 : (0 : Int) ≤ (jp : Int) := by omega
              have wjp : IntKind.i64.wrap (jp : Int) = (jp : Int) := IntWalk.i64_in _ (by omega)
              have jpwc : (jp : Int) ≤ (wc : Int) := by omega
              by_cases hcj : wc = jp
              · as_aux_lemma =>
                  have HTK : Hid (Calls Tryd.prog 13 #[.pointer (some ⟨g, 0, none⟩), .int .i64 (j : Nat)] wr fun e w' => ∃ u, MsgC u (sM xx) ∧ e = .returned (.tuple #[.agg u, .int .i64 0]) ∧ Sep w [BagT g ((ws.map sM).eraseIdx j), Is (.slice (some ⟨bw, 0, none⟩) n wc) ws] w') := Lib.hid (by
                    have h9 := btake_any j HS.out (by rw [HML.out]; exact HX.out.1) (by rw [HML.out]; omega)
                    rw [HX.out.2.2] at h9
                    exact h9)
                  (try dsimp only); repeat' (first | go_values | go_skip | go_guarded | go_step | go_upon | go_back)
                  refine (HB2.out _).mono ?_
                  rintro r0 wq ⟨rfl, rfl⟩
                  clear HB2
                  (try dsimp only); repeat' (first | go_values | go_skip | go_guarded | go_step | go_upon | go_back)
                  refine (HB6.out _).mono ?_
                  rintro r0 wq ⟨rfl, rfl⟩
                  clear HB6
                  clear HS e0 e1 f0
                  (try dsimp only); repeat' (first | go_values | go_skip | go_guarded | go_step | go_upon | go_back)
                  refine HTK.out.mono ?_
                  rintro r0 w5 ⟨u, hu, rfl, h5⟩
                  obtain ⟨HI, HO, HTH, h6⟩ := store_msg hu h5
                  obtain ⟨b8, hb8⟩ : ∃ z, z = w5.heap.size := ⟨_, rfl⟩
                  obtain ⟨w6, hw6⟩ : ∃ z, z = (w5.alloc (.cells #[.int .i64 0, .int .i64 0, .int .i64 0, .int .i64 0, .int .i64 0, .int .i64 0, .int .i64 0, .int .i64 0, .int .i64 0, .int .i64 0, .string ⟨#[]⟩, .int .i64 0, .int .i64 0, .slice none 0 0, .int .i64 0, .int .i64 0, .int .i64 0, .bool false, .int .i64 0, .slice none 0 0, .slice none 0 0, .int .i64 0] 43)).setCells w5.heap.size 0 u.toList := ⟨_, rfl⟩
                  rw [← hw6, ← hb8] at h6
                  have u3 : w6.cell? ⟨b8, 3, none⟩ = some (.int .i64 xx) := h6.cell hu.view
                  have f0 := HCELL.out _ _ h6.sw3
                  have H6 : Hid (Sep w [BagT g ((ws.map sM).eraseIdx j), Is (.slice (some ⟨bw, 0, none⟩) n wc) ws] w6.drew) := Lib.hid h6.drop.drew
                  clear HTK h5 h6 hu
                  (try dsimp only); repeat' (first | (with_reducible show wpList _ _ _ (Oper.mk _ (Op.store 43 _ _) _ _ _ _ :: _) _ _; refine stopP ?_) | go_values | go_skip | go_guarded | go_step | go_upon | go_back)
                  unfold StopP
                  refine wpList_store_mid rfl 43 (.tmp 8) (.tmp 92) rfl w5.heap.size 0 u rfl rfl HTH.out HI.out HO.out ?_
                  rw [← hw6, ← hb8]
                  clear hw6 hb8 HTH HI HO
                  have xe : (xx != xx) = false := by simp
                  (try dsimp only); repeat' (first | go_values | go_skip | go_guarded | go_step | go_upon | go_back)
                  refine wp_region_G (fun w' => w'.cell? ⟨b8, 3, none⟩ = some (.int .i64 xx) ∧ w'.cell? ⟨bw, j, none⟩ = some (.int .i64 xx)) [] (by kernel_rfl) ⟨u3, f0⟩ (fun hS => ?_)
                  try dsimp only at hS
                  refine wpAnyG_take' (i := 0) (v := ?v0_1t1) rfl (by kernel_rfl) (by kernel_rfl) (by kernel_rfl) (by kernel_rfl) (fun _ _ _ h => h) (Or.inl ⟨by rfl, ?hy0_1t1⟩) hS ?rest0_1t1
                  case hy0_1t1 => intro w hSw; (try dsimp only at hSw); go_simp; (try with_reducible rfl)
                  case rest0_1t1 =>
                  try simp only [List.getElem_toArray, List.getElem_cons_succ, List.getElem_cons_zero, Act.put, List.setIfInBounds_toArray, List.set_cons_zero, List.set_cons_succ]
                  refine wpAnyG_take' (i := 1) (v := ?v1_2t1) rfl (by kernel_rfl) (by kernel_rfl) (by kernel_rfl) (by kernel_rfl) (fun _ _ _ h => h) (Or.inl ⟨by rfl, ?hy1_2t1⟩) hS ?rest1_2t1
                  case hy1_2t1 => intro w hSw; (try dsimp only at hSw); go_simp; (try with_reducible rfl)
                  case rest1_2t1 =>
                  try simp only [List.getElem_toArray, List.getElem_cons_succ, List.getElem_cons_zero, Act.put, List.setIfInBounds_toArray, List.set_cons_zero, List.set_cons_succ]
                  refine wpAnyG_take' (i := 2) (v := ?v2_3t1) rfl (by kernel_rfl) (by kernel_rfl) (by kernel_rfl) (by kernel_rfl) (fun _ _ _ h => h) (Or.inl ⟨by rfl, ?hy2_3t1⟩) hS ?rest2_3t1
                  case hy2_3t1 => intro w hSw; (try dsimp only at hSw); go_simp; (try with_reducible rfl)
                  case rest2_3t1 =>
                  try simp only [List.getElem_toArray, List.getElem_cons_succ, List.getElem_cons_zero, Act.put, List.setIfInBounds_toArray, List.set_cons_zero, List.set_cons_succ]
                  refine wpAnyG_take' (i := 3) (v := ?v3_4t1) rfl (by kernel_rfl) (by kernel_rfl) (by kernel_rfl) (by kernel_rfl) (fun _ _ _ h => h) (Or.inl ⟨by rfl, ?hy3_4t1⟩) hS ?rest3_4t1
                  case hy3_4t1 => intro w hSw; (try dsimp only at hSw); go_simp; (try with_reducible rfl)
                  case rest3_4t1 =>
                  try simp only [List.getElem_toArray, List.getElem_cons_succ, List.getElem_cons_zero, Act.put, List.setIfInBounds_toArray, List.set_cons_zero, List.set_cons_succ]
                  refine wpAnyG_take' (i := 4) (v := ?v4_5t1) rfl (by kernel_rfl) (by kernel_rfl) (by kernel_rfl) (by kernel_rfl) (fun _ _ _ h => h) (Or.inl ⟨by rfl, ?hy4_5t1⟩) hS ?rest4_5t1
                  case hy4_5t1 => intro w hSw; (try dsimp only at hSw); go_simp; (try with_reducible rfl)
                  case rest4_5t1 =>
                  try simp only [List.getElem_toArray, List.getElem_cons_succ, List.getElem_cons_zero, Act.put, List.setIfInBounds_toArray, List.set_cons_zero, List.set_cons_succ]
                  refine wpAnyG_take' (i := 5) (v := ?v5_6t1) rfl (by kernel_rfl) (by kernel_rfl) (by kernel_rfl) (by kernel_rfl) (fun _ _ _ h => h) (Or.inl ⟨by rfl, ?hy5_6t1⟩) hS ?rest5_6t1
                  case hy5_6t1 => intro w hSw; (try dsimp only at hSw); go_simp; (try with_reducible rfl)
                  case rest5_6t1 =>
                  try simp only [List.getElem_toArray, List.getElem_cons_succ, List.getElem_cons_zero, Act.put, List.setIfInBounds_toArray, List.set_cons_zero, List.set_cons_succ]
                  refine wpAnyG_take' (i := 6) (v := ?v6_7t1) rfl (by kernel_rfl) (by kernel_rfl) (by kernel_rfl) (by kernel_rfl) (fun _ _ _ h => h) (Or.inl ⟨by rfl, ?hy6_7t1⟩) hS ?rest6_7t1
                  case hy6_7t1 => intro w hSw; (try dsimp only at hSw); go_simp; (try with_reducible rfl)
                  case rest6_7t1 =>
                  try simp only [List.getElem_toArray, List.getElem_cons_succ, List.getElem_cons_zero, Act.put, List.setIfInBounds_toArray, List.set_cons_zero, List.set_cons_succ]
                  refine wpAnyG_take' (i := 7) (v := ?v7_8t1) rfl (by kernel_rfl) (by kernel_rfl) (by kernel_rfl) (by kernel_rfl) (fun _ _ _ h => h) (Or.inl ⟨by rfl, ?hy7_8t1⟩) hS ?rest7_8t1
                  case hy7_8t1 => intro w hSw; (try dsimp only at hSw); go_simp; (try with_reducible rfl)
                  case rest7_8t1 =>
                  try simp only [List.getElem_toArray, List.getElem_cons_succ, List.getElem_cons_zero, Act.put, List.setIfInBounds_toArray, List.set_cons_zero, List.set_cons_succ]
                  refine wpAnyG_take' (i := 8) (v := ?v8_9t1) rfl (by kernel_rfl) (by kernel_rfl) (by kernel_rfl) (by kernel_rfl) (fun _ _ _ h => h) (Or.inl ⟨by rfl, ?hy8_9t1⟩) hS ?rest8_9t1
                  case hy8_9t1 => intro w hSw; (try dsimp only at hSw); go_simp; (try with_reducible rfl)
                  case rest8_9t1 =>
                  try simp only [List.getElem_toArray, List.getElem_cons_succ, List.getElem_cons_zero, Act.put, List.setIfInBounds_toArray, List.set_cons_zero, List.set_cons_succ]
                  refine wpAnyG_take' (i := 9) (v := ?v9_10t1) rfl (by kernel_rfl) (by kernel_rfl) (by kernel_rfl) (by kernel_rfl) (fun _ _ _ h => h) (Or.inl ⟨by rfl, ?hy9_10t1⟩) hS ?rest9_10t1
                  case hy9_10t1 => intro w hSw; (try dsimp only at hSw); go_simp; (try with_reducible rfl)
                  case rest9_10t1 =>
                  try simp only [List.getElem_toArray, List.getElem_cons_succ, List.getElem_cons_zero, Act.put, List.setIfInBounds_toArray, List.set_cons_zero, List.set_cons_succ]
                  refine wpAnyG_take' (i := 10) (v := ?v10_11t1) rfl (by kernel_rfl) (by kernel_rfl) (by kernel_rfl) (by kernel_rfl) (fun _ _ _ h => h) (Or.inl ⟨by rfl, ?hy10_11t1⟩) hS ?rest10_11t1
                  case hy10_11t1 => intro w hSw; (try dsimp only at hSw); go_simp; (try with_reducible rfl)
                  case rest10_11t1 =>
                  try simp only [List.getElem_toArray, List.getElem_cons_succ, List.getElem_cons_zero, Act.put, List.setIfInBounds_toArray, List.set_cons_zero, List.set_cons_succ]
                  refine wpAnyG_done (by kernel_rfl) ?_ _
                  try simp only [List.getElem_toArray, List.getElem_cons_succ, List.getElem_cons_zero, Act.put, List.setIfInBounds_toArray, List.set_cons_zero, List.set_cons_succ]
                  clear hS u3 f0
                  obtain ⟨v1, wc1, a2, c2, wc2, hr1, hr2, h8⟩ := cut_ints (ty1 := 26) (ty2 := 26) (H6.out.drew.sw2) HW.out.1 (by have := HX.out.1; omega) (by omega) j jp HX.out.1 hjp
                  rw [if_pos hcj, show wc - jp = 0 by omega] at hr2
                  have hme := map_erase ws j
                  have h8b : Sep w [BagT g ((ws.eraseIdx j).map sM), Is (.slice a2 (n - 1) c2) (ws.eraseIdx j)] wc2 := by rw [← hme]; exact h8.pick [1, 0] rfl
                  have HQ := Lib.hid h8b
                  have HR1 := Lib.hid hr1
                  have HR2 := Lib.hid hr2
                  clear h8 h8b hr1 hr2 hme hjp H6
                  subst hcj
                  (try dsimp only); repeat' (first | go_values | go_skip | go_guarded | go_step | go_upon | go_back)
                  refine wp_region_G (fun w' => True) [] (by kernel_rfl) trivial (fun hS => ?_)
                  try dsimp only at hS
                  refine wpAnyG_take' (i := 1) (v := ?v1_1ck1) rfl (by kernel_rfl) (by kernel_rfl) (by kernel_rfl) (by kernel_rfl) (fun _ _ _ h => h) (Or.inl ⟨by rfl, ?hy1_1ck1⟩) hS ?rest1_1ck1
                  case hy1_1ck1 => intro w hSw; (try dsimp only at hSw); go_simp; (try with_reducible rfl)
                  case rest1_1ck1 =>
                  try simp only [List.getElem_toArray, List.getElem_cons_succ, List.getElem_cons_zero, Act.put, List.setIfInBounds_toArray, List.set_cons_zero, List.set_cons_succ]
                  refine wpAnyG_take' (i := 2) (v := ?v2_2ck1) rfl (by kernel_rfl) (by kernel_rfl) (by kernel_rfl) (by kernel_rfl) (fun _ _ _ h => h) (Or.inl ⟨by rfl, ?hy2_2ck1⟩) hS ?rest2_2ck1
                  case hy2_2ck1 => intro w hSw; (try dsimp only at hSw); go_simp; (try with_reducible rfl)
                  case rest2_2ck1 =>
                  try simp only [List.getElem_toArray, List.getElem_cons_succ, List.getElem_cons_zero, Act.put, List.setIfInBounds_toArray, List.set_cons_zero, List.set_cons_succ]
                  refine wpAnyG_take' (i := 3) (v := ?v3_3ck1) rfl (by kernel_rfl) (by kernel_rfl) (by kernel_rfl) (by kernel_rfl) (fun _ _ _ h => h) (Or.inl ⟨by rfl, ?hy3_3ck1⟩) hS ?rest3_3ck1
                  case hy3_3ck1 => intro w hSw; (try dsimp only at hSw); go_simp; (try with_reducible rfl)
                  case rest3_3ck1 =>
                  try simp only [List.getElem_toArray, List.getElem_cons_succ, List.getElem_cons_zero, Act.put, List.setIfInBounds_toArray, List.set_cons_zero, List.set_cons_succ]
                  refine wpAnyG_take' (i := 5) (v := ?v5_4ck1) rfl (by kernel_rfl) (by kernel_rfl) (by kernel_rfl) (by kernel_rfl) (fun _ _ _ h => h) (Or.inl ⟨by rfl, ?hy5_4ck1⟩) hS ?rest5_4ck1
                  case hy5_4ck1 => intro w hSw; (try dsimp only at hSw); go_simp; (try with_reducible rfl)
                  case rest5_4ck1 =>
                  try simp only [List.getElem_toArray, List.getElem_cons_succ, List.getElem_cons_zero, Act.put, List.setIfInBounds_toArray, List.set_cons_zero, List.set_cons_succ]
                  refine wpAnyG_take' (i := 6) (v := ?v6_5ck1) rfl (by kernel_rfl) (by kernel_rfl) (by kernel_rfl) (by kernel_rfl) (fun _ _ _ h => h) (Or.inl ⟨by rfl, ?hy6_5ck1⟩) hS ?rest6_5ck1
                  case hy6_5ck1 => intro w hSw; (try dsimp only at hSw); go_simp; (try with_reducible rfl)
                  case rest6_5ck1 =>
                  try simp only [List.getElem_toArray, List.getElem_cons_succ, List.getElem_cons_zero, Act.put, List.setIfInBounds_toArray, List.set_cons_zero, List.set_cons_succ]
                  refine wpAnyG_take' (i := 7) (v := ?v7_6ck1) rfl (by kernel_rfl) (by kernel_rfl) (by kernel_rfl) (by kernel_rfl) (fun _ _ _ h => h) (Or.inl ⟨by rfl, ?hy7_6ck1⟩) hS ?rest7_6ck1
                  case hy7_6ck1 => intro w hSw; (try dsimp only at hSw); go_simp; (try with_reducible rfl)
                  case rest7_6ck1 =>
                  try simp only [List.getElem_toArray, List.getElem_cons_succ, List.getElem_cons_zero, Act.put, List.setIfInBounds_toArray, List.set_cons_zero, List.set_cons_succ]
                  refine wpAnyG_take' (i := 8) (v := ?v8_7ck1) rfl (by kernel_rfl) (by kernel_rfl) (by kernel_rfl) (by kernel_rfl) (fun _ _ _ h => h) (Or.inl ⟨by rfl, ?hy8_7ck1⟩) hS ?rest8_7ck1
                  case hy8_7ck1 => intro w hSw; (try dsimp only at hSw); go_simp; (try with_reducible rfl)
                  case rest8_7ck1 =>
                  try simp only [List.getElem_toArray, List.getElem_cons_succ, List.getElem_cons_zero, Act.put, List.setIfInBounds_toArray, List.set_cons_zero, List.set_cons_succ]
                  refine wpAnyG_one (i := 0) (by kernel_rfl) rfl (fun K hK => ?_)
                  go_simp
                  refine hK.out _ _ (fun _ => ?hS8ck1) ?rest8ck1
                  case hS8ck1 => exact trivial
                  clear K hK
                  try simp only [List.getElem_toArray, List.getElem_cons_succ, List.getElem_cons_zero, Act.put, List.setIfInBounds_toArray, List.set_cons_zero, List.set_cons_succ]
                  refine wpAnyG_one (i := 4) (by kernel_rfl) rfl (fun K hK => ?_)
                  refine step_append_run (by rfl) (.tmp 105) (.tmp 108) 26 26 (by rfl) _ _ (by rfl) (by rfl) HR1.out ?_
                  refine hK.out _ _ (fun _ => ?hS9ck1) ?rest9ck1
                  case hS9ck1 => exact trivial
                  clear K hK
                  try simp only [List.getElem_toArray, List.getElem_cons_succ, List.getElem_cons_zero, Act.put, List.setIfInBounds_toArray, List.set_cons_zero, List.set_cons_succ]
                  refine wpAnyG_one (i := 9) (by kernel_rfl) rfl (fun K hK => ?_)
                  refine step_append_run (by rfl) (.tmp 109) (.tmp 113) 26 26 (by rfl) _ _ (by rfl) (by rfl) HR2.out ?_
                  refine hK.out _ _ (fun _ => ?hS10ck1) ?rest10ck1
                  case hS10ck1 => exact trivial
                  clear K hK
                  try simp only [List.getElem_toArray, List.getElem_cons_succ, List.getElem_cons_zero, Act.put, List.setIfInBounds_toArray, List.set_cons_zero, List.set_cons_succ]
                  refine wpAnyG_take' (i := 10) (v := ?v10_11ck1) rfl (by kernel_rfl) (by kernel_rfl) (by kernel_rfl) (by kernel_rfl) (fun _ _ _ h => h) (Or.inl ⟨by rfl, ?hy10_11ck1⟩) trivial ?rest10_11ck1
                  case hy10_11ck1 => intro w hSw; (try dsimp only at hSw); go_simp; (try with_reducible rfl)
                  case rest10_11ck1 =>
                  try simp only [List.getElem_toArray, List.getElem_cons_succ, List.getElem_cons_zero, Act.put, List.setIfInBounds_toArray, List.set_cons_zero, List.set_cons_succ]
                  refine wpAnyG_done (by kernel_rfl) ?_ _
                  try simp only [List.getElem_toArray, List.getElem_cons_succ, List.getElem_cons_zero, Act.put, List.setIfInBounds_toArray, List.set_cons_zero, List.set_cons_succ]
                  clear hS HR1 HR2
                  have HBN : Hid (∀ x ∈ ws.eraseIdx j, 0 ≤ x ∧ x ≤ 150) := Lib.hid (fun z hz => HW.out.2.1 z (List.mem_of_mem_eraseIdx hz))
                  have HLE : Hid ((ws.eraseIdx j).length = n - 1) := Lib.hid (by rw [List.length_eraseIdx, HW.out.1, if_pos HX.out.1])
                  have HTE := Lib.hid (tells_any HQ.out (by rw [HLE.out]; have := HW.out.2.2.2; omega) (fun x hx => (HBN.out x hx).1))
                  clear HQ
                  (try dsimp only); repeat' (first | go_values | go_skip | go_guarded | go_step | go_upon | go_back)
                  refine HTE.out.mono ?_
                  rintro r0 wt ⟨rfl, ht⟩
                  have HT := Lib.hid ht
                  clear HTE ht
                  (try dsimp only); repeat' (first | go_values | go_skip | go_guarded | go_step | go_upon | go_back)
                  go_roundw
                  case rel => exact ⟨k + 1, n - 1, ws.eraseIdx j, a2, c2, by have := HW.out.2.2.1.1; omega, by have := HW.out.2.2.1.2; omega, by have := HW.out.2.2.2; omega, rfl, by go_num, HLE.out, HBN.out, HT.out⟩
                  case measure => have := HW.out.2.2.1.2; simp [intOf]; omega
              · as_aux_lemma =>
                  have HTK : Hid (Calls Tryd.prog 13 #[.pointer (some ⟨g, 0, none⟩), .int .i64 (j : Nat)] wr fun e w' => ∃ u, MsgC u (sM xx) ∧ e = .returned (.tuple #[.agg u, .int .i64 0]) ∧ Sep w [BagT g ((ws.map sM).eraseIdx j), Is (.slice (some ⟨bw, 0, none⟩) n wc) ws] w') := Lib.hid (by
                    have h9 := btake_any j HS.out (by rw [HML.out]; exact HX.out.1) (by rw [HML.out]; omega)
                    rw [HX.out.2.2] at h9
                    exact h9)
                  (try dsimp only); repeat' (first | go_values | go_skip | go_guarded | go_step | go_upon | go_back)
                  refine (HB2.out _).mono ?_
                  rintro r0 wq ⟨rfl, rfl⟩
                  clear HB2
                  (try dsimp only); repeat' (first | go_values | go_skip | go_guarded | go_step | go_upon | go_back)
                  refine (HB6.out _).mono ?_
                  rintro r0 wq ⟨rfl, rfl⟩
                  clear HB6
                  clear HS e0 e1 f0
                  (try dsimp only); repeat' (first | go_values | go_skip | go_guarded | go_step | go_upon | go_back)
                  refine HTK.out.mono ?_
                  rintro r0 w5 ⟨u, hu, rfl, h5⟩
                  obtain ⟨HI, HO, HTH, h6⟩ := store_msg hu h5
                  obtain ⟨b8, hb8⟩ : ∃ z, z = w5.heap.size := ⟨_, rfl⟩
                  obtain ⟨w6, hw6⟩ : ∃ z, z = (w5.alloc (.cells #[.int .i64 0, .int .i64 0, .int .i64 0, .int .i64 0, .int .i64 0, .int .i64 0, .int .i64 0, .int .i64 0, .int .i64 0, .int .i64 0, .string ⟨#[]⟩, .int .i64 0, .int .i64 0, .slice none 0 0, .int .i64 0, .int .i64 0, .int .i64 0, .bool false, .int .i64 0, .slice none 0 0, .slice none 0 0, .int .i64 0] 43)).setCells w5.heap.size 0 u.toList := ⟨_, rfl⟩
                  rw [← hw6, ← hb8] at h6
                  have u3 : w6.cell? ⟨b8, 3, none⟩ = some (.int .i64 xx) := h6.cell hu.view
                  have f0 := HCELL.out _ _ h6.sw3
                  have H6 : Hid (Sep w [BagT g ((ws.map sM).eraseIdx j), Is (.slice (some ⟨bw, 0, none⟩) n wc) ws] w6.drew) := Lib.hid h6.drop.drew
                  clear HTK h5 h6 hu
                  (try dsimp only); repeat' (first | (with_reducible show wpList _ _ _ (Oper.mk _ (Op.store 43 _ _) _ _ _ _ :: _) _ _; refine stopP ?_) | go_values | go_skip | go_guarded | go_step | go_upon | go_back)
                  unfold StopP
                  refine wpList_store_mid rfl 43 (.tmp 8) (.tmp 92) rfl w5.heap.size 0 u rfl rfl HTH.out HI.out HO.out ?_
                  rw [← hw6, ← hb8]
                  clear hw6 hb8 HTH HI HO
                  have xe : (xx != xx) = false := by simp
                  (try dsimp only); repeat' (first | go_values | go_skip | go_guarded | go_step | go_upon | go_back)
                  refine wp_region_G (fun w' => w'.cell? ⟨b8, 3, none⟩ = some (.int .i64 xx) ∧ w'.cell? ⟨bw, j, none⟩ = some (.int .i64 xx)) [] (by kernel_rfl) ⟨u3, f0⟩ (fun hS => ?_)
                  try dsimp only at hS
                  refine wpAnyG_take' (i := 0) (v := ?v0_1t2) rfl (by kernel_rfl) (by kernel_rfl) (by kernel_rfl) (by kernel_rfl) (fun _ _ _ h => h) (Or.inl ⟨by rfl, ?hy0_1t2⟩) hS ?rest0_1t2
                  case hy0_1t2 => intro w hSw; (try dsimp only at hSw); go_simp; (try with_reducible rfl)
                  case rest0_1t2 =>
                  try simp only [List.getElem_toArray, List.getElem_cons_succ, List.getElem_cons_zero, Act.put, List.setIfInBounds_toArray, List.set_cons_zero, List.set_cons_succ]
                  refine wpAnyG_take' (i := 1) (v := ?v1_2t2) rfl (by kernel_rfl) (by kernel_rfl) (by kernel_rfl) (by kernel_rfl) (fun _ _ _ h => h) (Or.inl ⟨by rfl, ?hy1_2t2⟩) hS ?rest1_2t2
                  case hy1_2t2 => intro w hSw; (try dsimp only at hSw); go_simp; (try with_reducible rfl)
                  case rest1_2t2 =>
                  try simp only [List.getElem_toArray, List.getElem_cons_succ, List.getElem_cons_zero, Act.put, List.setIfInBounds_toArray, List.set_cons_zero, List.set_cons_succ]
                  refine wpAnyG_take' (i := 2) (v := ?v2_3t2) rfl (by kernel_rfl) (by kernel_rfl) (by kernel_rfl) (by kernel_rfl) (fun _ _ _ h => h) (Or.inl ⟨by rfl, ?hy2_3t2⟩) hS ?rest2_3t2
                  case hy2_3t2 => intro w hSw; (try dsimp only at hSw); go_simp; (try with_reducible rfl)
                  case rest2_3t2 =>
                  try simp only [List.getElem_toArray, List.getElem_cons_succ, List.getElem_cons_zero, Act.put, List.setIfInBounds_toArray, List.set_cons_zero, List.set_cons_succ]
                  refine wpAnyG_take' (i := 3) (v := ?v3_4t2) rfl (by kernel_rfl) (by kernel_rfl) (by kernel_rfl) (by kernel_rfl) (fun _ _ _ h => h) (Or.inl ⟨by rfl, ?hy3_4t2⟩) hS ?rest3_4t2
                  case hy3_4t2 => intro w hSw; (try dsimp only at hSw); go_simp; (try with_reducible rfl)
                  case rest3_4t2 =>
                  try simp only [List.getElem_toArray, List.getElem_cons_succ, List.getElem_cons_zero, Act.put, List.setIfInBounds_toArray, List.set_cons_zero, List.set_cons_succ]
                  refine wpAnyG_take' (i := 4) (v := ?v4_5t2) rfl (by kernel_rfl) (by kernel_rfl) (by kernel_rfl) (by kernel_rfl) (fun _ _ _ h => h) (Or.inl ⟨by rfl, ?hy4_5t2⟩) hS ?rest4_5t2
                  case hy4_5t2 => intro w hSw; (try dsimp only at hSw); go_simp; (try with_reducible rfl)
                  case rest4_5t2 =>
                  try simp only [List.getElem_toArray, List.getElem_cons_succ, List.getElem_cons_zero, Act.put, List.setIfInBounds_toArray, List.set_cons_zero, List.set_cons_succ]
                  refine wpAnyG_take' (i := 5) (v := ?v5_6t2) rfl (by kernel_rfl) (by kernel_rfl) (by kernel_rfl) (by kernel_rfl) (fun _ _ _ h => h) (Or.inl ⟨by rfl, ?hy5_6t2⟩) hS ?rest5_6t2
                  case hy5_6t2 => intro w hSw; (try dsimp only at hSw); go_simp; (try with_reducible rfl)
                  case rest5_6t2 =>
                  try simp only [List.getElem_toArray, List.getElem_cons_succ, List.getElem_cons_zero, Act.put, List.setIfInBounds_toArray, List.set_cons_zero, List.set_cons_succ]
                  refine wpAnyG_take' (i := 6) (v := ?v6_7t2) rfl (by kernel_rfl) (by kernel_rfl) (by kernel_rfl) (by kernel_rfl) (fun _ _ _ h => h) (Or.inl ⟨by rfl, ?hy6_7t2⟩) hS ?rest6_7t2
                  case hy6_7t2 => intro w hSw; (try dsimp only at hSw); go_simp; (try with_reducible rfl)
                  case rest6_7t2 =>
                  try simp only [List.getElem_toArray, List.getElem_cons_succ, List.getElem_cons_zero, Act.put, List.setIfInBounds_toArray, List.set_cons_zero, List.set_cons_succ]
                  refine wpAnyG_take' (i := 7) (v := ?v7_8t2) rfl (by kernel_rfl) (by kernel_rfl) (by kernel_rfl) (by kernel_rfl) (fun _ _ _ h => h) (Or.inl ⟨by rfl, ?hy7_8t2⟩) hS ?rest7_8t2
                  case hy7_8t2 => intro w hSw; (try dsimp only at hSw); go_simp; (try with_reducible rfl)
                  case rest7_8t2 =>
                  try simp only [List.getElem_toArray, List.getElem_cons_succ, List.getElem_cons_zero, Act.put, List.setIfInBounds_toArray, List.set_cons_zero, List.set_cons_succ]
                  refine wpAnyG_take' (i := 8) (v := ?v8_9t2) rfl (by kernel_rfl) (by kernel_rfl) (by kernel_rfl) (by kernel_rfl) (fun _ _ _ h => h) (Or.inl ⟨by rfl, ?hy8_9t2⟩) hS ?rest8_9t2
                  case hy8_9t2 => intro w hSw; (try dsimp only at hSw); go_simp; (try with_reducible rfl)
                  case rest8_9t2 =>
                  try simp only [List.getElem_toArray, List.getElem_cons_succ, List.getElem_cons_zero, Act.put, List.setIfInBounds_toArray, List.set_cons_zero, List.set_cons_succ]
                  refine wpAnyG_take' (i := 9) (v := ?v9_10t2) rfl (by kernel_rfl) (by kernel_rfl) (by kernel_rfl) (by kernel_rfl) (fun _ _ _ h => h) (Or.inl ⟨by rfl, ?hy9_10t2⟩) hS ?rest9_10t2
                  case hy9_10t2 => intro w hSw; (try dsimp only at hSw); go_simp; (try with_reducible rfl)
                  case rest9_10t2 =>
                  try simp only [List.getElem_toArray, List.getElem_cons_succ, List.getElem_cons_zero, Act.put, List.setIfInBounds_toArray, List.set_cons_zero, List.set_cons_succ]
                  refine wpAnyG_take' (i := 10) (v := ?v10_11t2) rfl (by kernel_rfl) (by kernel_rfl) (by kernel_rfl) (by kernel_rfl) (fun _ _ _ h => h) (Or.inl ⟨by rfl, ?hy10_11t2⟩) hS ?rest10_11t2
                  case hy10_11t2 => intro w hSw; (try dsimp only at hSw); go_simp; (try with_reducible rfl)
                  case rest10_11t2 =>
                  try simp only [List.getElem_toArray, List.getElem_cons_succ, List.getElem_cons_zero, Act.put, List.setIfInBounds_toArray, List.set_cons_zero, List.set_cons_succ]
                  refine wpAnyG_done (by kernel_rfl) ?_ _
                  try simp only [List.getElem_toArray, List.getElem_cons_succ, List.getElem_cons_zero, Act.put, List.setIfInBounds_toArray, List.set_cons_zero, List.set_cons_succ]
                  clear hS u3 f0
                  obtain ⟨v1, wc1, a2, c2, wc2, hr1, hr2, h8⟩ := cut_ints (ty1 := 26) (ty2 := 26) (H6.out.drew.sw2) HW.out.1 (by have := HX.out.1; omega) (by omega) j jp HX.out.1 hjp
                  rw [if_neg hcj] at hr2
                  have hme := map_erase ws j
                  have h8b : Sep w [BagT g ((ws.eraseIdx j).map sM), Is (.slice a2 (n - 1) c2) (ws.eraseIdx j)] wc2 := by rw [← hme]; exact h8.pick [1, 0] rfl
                  have HQ := Lib.hid h8b
                  have HR1 := Lib.hid hr1
                  have HR2 := Lib.hid hr2
                  clear h8 h8b hr1 hr2 hme hjp H6
                  (try dsimp only); repeat' (first | go_values | go_skip | go_guarded | go_step | go_upon | go_back)
                  refine wp_region_G (fun w' => True) [] (by kernel_rfl) trivial (fun hS => ?_)
                  try dsimp only at hS
                  refine wpAnyG_take' (i := 1) (v := ?v1_1ck2) rfl (by kernel_rfl) (by kernel_rfl) (by kernel_rfl) (by kernel_rfl) (fun _ _ _ h => h) (Or.inl ⟨by rfl, ?hy1_1ck2⟩) hS ?rest1_1ck2
                  case hy1_1ck2 => intro w hSw; (try dsimp only at hSw); go_simp; (try with_reducible rfl)
                  case rest1_1ck2 =>
                  try simp only [List.getElem_toArray, List.getElem_cons_succ, List.getElem_cons_zero, Act.put, List.setIfInBounds_toArray, List.set_cons_zero, List.set_cons_succ]
                  refine wpAnyG_take' (i := 2) (v := ?v2_2ck2) rfl (by kernel_rfl) (by kernel_rfl) (by kernel_rfl) (by kernel_rfl) (fun _ _ _ h => h) (Or.inl ⟨by rfl, ?hy2_2ck2⟩) hS ?rest2_2ck2
                  case hy2_2ck2 => intro w hSw; (try dsimp only at hSw); go_simp; (try with_reducible rfl)
                  case rest2_2ck2 =>
                  try simp only [List.getElem_toArray, List.getElem_cons_succ, List.getElem_cons_zero, Act.put, List.setIfInBounds_toArray, List.set_cons_zero, List.set_cons_succ]
                  refine wpAnyG_take' (i := 3) (v := ?v3_3ck2) rfl (by kernel_rfl) (by kernel_rfl) (by kernel_rfl) (by kernel_rfl) (fun _ _ _ h => h) (Or.inl ⟨by rfl, ?hy3_3ck2⟩) hS ?rest3_3ck2
                  case hy3_3ck2 => intro w hSw; (try dsimp only at hSw); go_simp; (try with_reducible rfl)
                  case rest3_3ck2 =>
                  try simp only [List.getElem_toArray, List.getElem_cons_succ, List.getElem_cons_zero, Act.put, List.setIfInBounds_toArray, List.set_cons_zero, List.set_cons_succ]
                  refine wpAnyG_take' (i := 5) (v := ?v5_4ck2) rfl (by kernel_rfl) (by kernel_rfl) (by kernel_rfl) (by kernel_rfl) (fun _ _ _ h => h) (Or.inl ⟨by rfl, ?hy5_4ck2⟩) hS ?rest5_4ck2
                  case hy5_4ck2 => intro w hSw; (try dsimp only at hSw); go_simp; (try with_reducible rfl)
                  case rest5_4ck2 =>
                  try simp only [List.getElem_toArray, List.getElem_cons_succ, List.getElem_cons_zero, Act.put, List.setIfInBounds_toArray, List.set_cons_zero, List.set_cons_succ]
                  refine wpAnyG_take' (i := 6) (v := ?v6_5ck2) rfl (by kernel_rfl) (by kernel_rfl) (by kernel_rfl) (by kernel_rfl) (fun _ _ _ h => h) (Or.inl ⟨by rfl, ?hy6_5ck2⟩) hS ?rest6_5ck2
                  case hy6_5ck2 => intro w hSw; (try dsimp only at hSw); go_simp; (try with_reducible rfl)
                  case rest6_5ck2 =>
                  try simp only [List.getElem_toArray, List.getElem_cons_succ, List.getElem_cons_zero, Act.put, List.setIfInBounds_toArray, List.set_cons_zero, List.set_cons_succ]
                  refine wpAnyG_take' (i := 7) (v := ?v7_6ck2) rfl (by kernel_rfl) (by kernel_rfl) (by kernel_rfl) (by kernel_rfl) (fun _ _ _ h => h) (Or.inl ⟨by rfl, ?hy7_6ck2⟩) hS ?rest7_6ck2
                  case hy7_6ck2 => intro w hSw; (try dsimp only at hSw); go_simp; (try with_reducible rfl)
                  case rest7_6ck2 =>
                  try simp only [List.getElem_toArray, List.getElem_cons_succ, List.getElem_cons_zero, Act.put, List.setIfInBounds_toArray, List.set_cons_zero, List.set_cons_succ]
                  refine wpAnyG_take' (i := 8) (v := ?v8_7ck2) rfl (by kernel_rfl) (by kernel_rfl) (by kernel_rfl) (by kernel_rfl) (fun _ _ _ h => h) (Or.inl ⟨by rfl, ?hy8_7ck2⟩) hS ?rest8_7ck2
                  case hy8_7ck2 => intro w hSw; (try dsimp only at hSw); go_simp; (try with_reducible rfl)
                  case rest8_7ck2 =>
                  try simp only [List.getElem_toArray, List.getElem_cons_succ, List.getElem_cons_zero, Act.put, List.setIfInBounds_toArray, List.set_cons_zero, List.set_cons_succ]
                  refine wpAnyG_one (i := 0) (by kernel_rfl) rfl (fun K hK => ?_)
                  go_simp
                  refine hK.out _ _ (fun _ => ?hS8ck2) ?rest8ck2
                  case hS8ck2 => exact trivial
                  clear K hK
                  try simp only [List.getElem_toArray, List.getElem_cons_succ, List.getElem_cons_zero, Act.put, List.setIfInBounds_toArray, List.set_cons_zero, List.set_cons_succ]
                  refine wpAnyG_one (i := 4) (by kernel_rfl) rfl (fun K hK => ?_)
                  refine step_append_run (by rfl) (.tmp 105) (.tmp 108) 26 26 (by rfl) _ _ (by rfl) (by rfl) HR1.out ?_
                  refine hK.out _ _ (fun _ => ?hS9ck2) ?rest9ck2
                  case hS9ck2 => exact trivial
                  clear K hK
                  try simp only [List.getElem_toArray, List.getElem_cons_succ, List.getElem_cons_zero, Act.put, List.setIfInBounds_toArray, List.set_cons_zero, List.set_cons_succ]
                  refine wpAnyG_one (i := 9) (by kernel_rfl) rfl (fun K hK => ?_)
                  refine step_append_run (by rfl) (.tmp 109) (.tmp 113) 26 26 (by rfl) _ _ (by rfl) (by rfl) HR2.out ?_
                  refine hK.out _ _ (fun _ => ?hS10ck2) ?rest10ck2
                  case hS10ck2 => exact trivial
                  clear K hK
                  try simp only [List.getElem_toArray, List.getElem_cons_succ, List.getElem_cons_zero, Act.put, List.setIfInBounds_toArray, List.set_cons_zero, List.set_cons_succ]
                  refine wpAnyG_take' (i := 10) (v := ?v10_11ck2) rfl (by kernel_rfl) (by kernel_rfl) (by kernel_rfl) (by kernel_rfl) (fun _ _ _ h => h) (Or.inl ⟨by rfl, ?hy10_11ck2⟩) trivial ?rest10_11ck2
                  case hy10_11ck2 => intro w hSw; (try dsimp only at hSw); go_simp; (try with_reducible rfl)
                  case rest10_11ck2 =>
                  try simp only [List.getElem_toArray, List.getElem_cons_succ, List.getElem_cons_zero, Act.put, List.setIfInBounds_toArray, List.set_cons_zero, List.set_cons_succ]
                  refine wpAnyG_done (by kernel_rfl) ?_ _
                  try simp only [List.getElem_toArray, List.getElem_cons_succ, List.getElem_cons_zero, Act.put, List.setIfInBounds_toArray, List.set_cons_zero, List.set_cons_succ]
                  clear hS HR1 HR2
                  have HBN : Hid (∀ x ∈ ws.eraseIdx j, 0 ≤ x ∧ x ≤ 150) := Lib.hid (fun z hz => HW.out.2.1 z (List.mem_of_mem_eraseIdx hz))
                  have HLE : Hid ((ws.eraseIdx j).length = n - 1) := Lib.hid (by rw [List.length_eraseIdx, HW.out.1, if_pos HX.out.1])
                  have HTE := Lib.hid (tells_any HQ.out (by rw [HLE.out]; have := HW.out.2.2.2; omega) (fun x hx => (HBN.out x hx).1))
                  clear HQ
                  (try dsimp only); repeat' (first | go_values | go_skip | go_guarded | go_step | go_upon | go_back)
                  refine HTE.out.mono ?_
                  rintro r0 wt ⟨rfl, ht⟩
                  have HT := Lib.hid ht
                  clear HTE ht
                  (try dsimp only); repeat' (first | go_values | go_skip | go_guarded | go_step | go_upon | go_back)
                  go_roundw
                  case rel => exact ⟨k + 1, n - 1, ws.eraseIdx j, a2, c2, by have := HW.out.2.2.1.1; omega, by have := HW.out.2.2.1.2; omega, by have := HW.out.2.2.2; omega, rfl, by go_num, HLE.out, HBN.out, HT.out⟩
                  case measure => have := HW.out.2.2.1.2; simp [intOf]; omega
            · have dz4 : (z == 4) = false := beq_eq_false_iff_ne.2 hz5
              clear hz3 hz4 hz5
              obtain ⟨jp, hjp⟩ : ∃ jp, j + 1 = jp := ⟨_, rfl⟩
              have hjp2 : (j : Int) + 1 = (jp : Int) := by omega
              have jp9 : (jp : Int) ≤ (n : Int) := by omega
              have jp0 : (0 : Int) ≤ (jp : Int) := by omega
              have wjp : IntKind.i64.wrap (jp : Int) = (jp : Int) := IntWalk.i64_in _ (by omega)
              have jpwc : (jp : Int) ≤ (wc : Int) := by omega
              by_cases hcj : wc = jp
              · as_aux_lemma =>
                  have HDP : Hid (Calls Tryd.prog 14 #[.pointer (some ⟨g, 0, none⟩), .int .i64 (j : Nat)] wr fun e w' => e = .returned (.int .i64 0) ∧ Sep w [BagT g ((ws.map sM).eraseIdx j), Is (.slice (some ⟨bw, 0, none⟩) n wc) ws] w') := Lib.hid (bdrop_any j HS.out (by rw [HML.out]; exact HX.out.1) (by rw [HML.out]; omega))
                  (try dsimp only); repeat' (first | go_values | go_skip | go_guarded | go_step | go_upon | go_back)
                  refine (HB2.out _).mono ?_
                  rintro r0 wq ⟨rfl, rfl⟩
                  clear HB2
                  (try dsimp only); repeat' (first | go_values | go_skip | go_guarded | go_step | go_upon | go_back)
                  refine (HB6.out _).mono ?_
                  rintro r0 wq ⟨rfl, rfl⟩
                  clear HB6
                  clear HS e0 e1 f0
                  (try dsimp only); repeat' (first | go_values | go_skip | go_guarded | go_step | go_upon | go_back)
                  refine HDP.out.mono ?_
                  rintro r0 w5 ⟨rfl, h5⟩
                  have H5 := Lib.hid h5
                  clear HDP h5
                  obtain ⟨v1, wc1, a2, c2, wc2, hr1, hr2, h8⟩ := cut_ints (ty1 := 26) (ty2 := 26) (H5.out.drew.sw2) HW.out.1 (by have := HX.out.1; omega) (by omega) j jp HX.out.1 hjp
                  rw [if_pos hcj, show wc - jp = 0 by omega] at hr2
                  have hme := map_erase ws j
                  have h8b : Sep w [BagT g ((ws.eraseIdx j).map sM), Is (.slice a2 (n - 1) c2) (ws.eraseIdx j)] wc2 := by rw [← hme]; exact h8.pick [1, 0] rfl
                  have HQ := Lib.hid h8b
                  have HR1 := Lib.hid hr1
                  have HR2 := Lib.hid hr2
                  clear h8 h8b hr1 hr2 hme hjp H5
                  subst hcj
                  (try dsimp only); repeat' (first | go_values | go_skip | go_guarded | go_step | go_upon | go_back)
                  refine wp_region_G (fun w' => True) [] (by kernel_rfl) trivial (fun hS => ?_)
                  try dsimp only at hS
                  refine wpAnyG_take' (i := 1) (v := ?v1_1cd3) rfl (by kernel_rfl) (by kernel_rfl) (by kernel_rfl) (by kernel_rfl) (fun _ _ _ h => h) (Or.inl ⟨by rfl, ?hy1_1cd3⟩) hS ?rest1_1cd3
                  case hy1_1cd3 => intro w hSw; (try dsimp only at hSw); go_simp; (try with_reducible rfl)
                  case rest1_1cd3 =>
                  try simp only [List.getElem_toArray, List.getElem_cons_succ, List.getElem_cons_zero, Act.put, List.setIfInBounds_toArray, List.set_cons_zero, List.set_cons_succ]
                  refine wpAnyG_take' (i := 2) (v := ?v2_2cd3) rfl (by kernel_rfl) (by kernel_rfl) (by kernel_rfl) (by kernel_rfl) (fun _ _ _ h => h) (Or.inl ⟨by rfl, ?hy2_2cd3⟩) hS ?rest2_2cd3
                  case hy2_2cd3 => intro w hSw; (try dsimp only at hSw); go_simp; (try with_reducible rfl)
                  case rest2_2cd3 =>
                  try simp only [List.getElem_toArray, List.getElem_cons_succ, List.getElem_cons_zero, Act.put, List.setIfInBounds_toArray, List.set_cons_zero, List.set_cons_succ]
                  refine wpAnyG_take' (i := 3) (v := ?v3_3cd3) rfl (by kernel_rfl) (by kernel_rfl) (by kernel_rfl) (by kernel_rfl) (fun _ _ _ h => h) (Or.inl ⟨by rfl, ?hy3_3cd3⟩) hS ?rest3_3cd3
                  case hy3_3cd3 => intro w hSw; (try dsimp only at hSw); go_simp; (try with_reducible rfl)
                  case rest3_3cd3 =>
                  try simp only [List.getElem_toArray, List.getElem_cons_succ, List.getElem_cons_zero, Act.put, List.setIfInBounds_toArray, List.set_cons_zero, List.set_cons_succ]
                  refine wpAnyG_take' (i := 5) (v := ?v5_4cd3) rfl (by kernel_rfl) (by kernel_rfl) (by kernel_rfl) (by kernel_rfl) (fun _ _ _ h => h) (Or.inl ⟨by rfl, ?hy5_4cd3⟩) hS ?rest5_4cd3
                  case hy5_4cd3 => intro w hSw; (try dsimp only at hSw); go_simp; (try with_reducible rfl)
                  case rest5_4cd3 =>
                  try simp only [List.getElem_toArray, List.getElem_cons_succ, List.getElem_cons_zero, Act.put, List.setIfInBounds_toArray, List.set_cons_zero, List.set_cons_succ]
                  refine wpAnyG_take' (i := 6) (v := ?v6_5cd3) rfl (by kernel_rfl) (by kernel_rfl) (by kernel_rfl) (by kernel_rfl) (fun _ _ _ h => h) (Or.inl ⟨by rfl, ?hy6_5cd3⟩) hS ?rest6_5cd3
                  case hy6_5cd3 => intro w hSw; (try dsimp only at hSw); go_simp; (try with_reducible rfl)
                  case rest6_5cd3 =>
                  try simp only [List.getElem_toArray, List.getElem_cons_succ, List.getElem_cons_zero, Act.put, List.setIfInBounds_toArray, List.set_cons_zero, List.set_cons_succ]
                  refine wpAnyG_take' (i := 7) (v := ?v7_6cd3) rfl (by kernel_rfl) (by kernel_rfl) (by kernel_rfl) (by kernel_rfl) (fun _ _ _ h => h) (Or.inl ⟨by rfl, ?hy7_6cd3⟩) hS ?rest7_6cd3
                  case hy7_6cd3 => intro w hSw; (try dsimp only at hSw); go_simp; (try with_reducible rfl)
                  case rest7_6cd3 =>
                  try simp only [List.getElem_toArray, List.getElem_cons_succ, List.getElem_cons_zero, Act.put, List.setIfInBounds_toArray, List.set_cons_zero, List.set_cons_succ]
                  refine wpAnyG_take' (i := 8) (v := ?v8_7cd3) rfl (by kernel_rfl) (by kernel_rfl) (by kernel_rfl) (by kernel_rfl) (fun _ _ _ h => h) (Or.inl ⟨by rfl, ?hy8_7cd3⟩) hS ?rest8_7cd3
                  case hy8_7cd3 => intro w hSw; (try dsimp only at hSw); go_simp; (try with_reducible rfl)
                  case rest8_7cd3 =>
                  try simp only [List.getElem_toArray, List.getElem_cons_succ, List.getElem_cons_zero, Act.put, List.setIfInBounds_toArray, List.set_cons_zero, List.set_cons_succ]
                  refine wpAnyG_one (i := 0) (by kernel_rfl) rfl (fun K hK => ?_)
                  go_simp
                  refine hK.out _ _ (fun _ => ?hS8cd3) ?rest8cd3
                  case hS8cd3 => exact trivial
                  clear K hK
                  try simp only [List.getElem_toArray, List.getElem_cons_succ, List.getElem_cons_zero, Act.put, List.setIfInBounds_toArray, List.set_cons_zero, List.set_cons_succ]
                  refine wpAnyG_one (i := 4) (by kernel_rfl) rfl (fun K hK => ?_)
                  refine step_append_run (by rfl) (.tmp 44) (.tmp 47) 26 26 (by rfl) _ _ (by rfl) (by rfl) HR1.out ?_
                  refine hK.out _ _ (fun _ => ?hS9cd3) ?rest9cd3
                  case hS9cd3 => exact trivial
                  clear K hK
                  try simp only [List.getElem_toArray, List.getElem_cons_succ, List.getElem_cons_zero, Act.put, List.setIfInBounds_toArray, List.set_cons_zero, List.set_cons_succ]
                  refine wpAnyG_one (i := 9) (by kernel_rfl) rfl (fun K hK => ?_)
                  refine step_append_run (by rfl) (.tmp 48) (.tmp 52) 26 26 (by rfl) _ _ (by rfl) (by rfl) HR2.out ?_
                  refine hK.out _ _ (fun _ => ?hS10cd3) ?rest10cd3
                  case hS10cd3 => exact trivial
                  clear K hK
                  try simp only [List.getElem_toArray, List.getElem_cons_succ, List.getElem_cons_zero, Act.put, List.setIfInBounds_toArray, List.set_cons_zero, List.set_cons_succ]
                  refine wpAnyG_take' (i := 10) (v := ?v10_11cd3) rfl (by kernel_rfl) (by kernel_rfl) (by kernel_rfl) (by kernel_rfl) (fun _ _ _ h => h) (Or.inl ⟨by rfl, ?hy10_11cd3⟩) trivial ?rest10_11cd3
                  case hy10_11cd3 => intro w hSw; (try dsimp only at hSw); go_simp; (try with_reducible rfl)
                  case rest10_11cd3 =>
                  try simp only [List.getElem_toArray, List.getElem_cons_succ, List.getElem_cons_zero, Act.put, List.setIfInBounds_toArray, List.set_cons_zero, List.set_cons_succ]
                  refine wpAnyG_done (by kernel_rfl) ?_ _
                  try simp only [List.getElem_toArray, List.getElem_cons_succ, List.getElem_cons_zero, Act.put, List.setIfInBounds_toArray, List.set_cons_zero, List.set_cons_succ]
                  clear hS HR1 HR2
                  have HBN : Hid (∀ x ∈ ws.eraseIdx j, 0 ≤ x ∧ x ≤ 150) := Lib.hid (fun z hz => HW.out.2.1 z (List.mem_of_mem_eraseIdx hz))
                  have HLE : Hid ((ws.eraseIdx j).length = n - 1) := Lib.hid (by rw [List.length_eraseIdx, HW.out.1, if_pos HX.out.1])
                  have HTE := Lib.hid (tells_any HQ.out (by rw [HLE.out]; have := HW.out.2.2.2; omega) (fun x hx => (HBN.out x hx).1))
                  clear HQ
                  (try dsimp only); repeat' (first | go_values | go_skip | go_guarded | go_step | go_upon | go_back)
                  refine HTE.out.mono ?_
                  rintro r0 wt ⟨rfl, ht⟩
                  have HT := Lib.hid ht
                  clear HTE ht
                  (try dsimp only); repeat' (first | go_values | go_skip | go_guarded | go_step | go_upon | go_back)
                  go_roundw
                  case rel => exact ⟨k + 1, n - 1, ws.eraseIdx j, a2, c2, by have := HW.out.2.2.1.1; omega, by have := HW.out.2.2.1.2; omega, by have := HW.out.2.2.2; omega, rfl, by go_num, HLE.out, HBN.out, HT.out⟩
                  case measure => have := HW.out.2.2.1.2; simp [intOf]; omega
              · as_aux_lemma =>
                  have HDP : Hid (Calls Tryd.prog 14 #[.pointer (some ⟨g, 0, none⟩), .int .i64 (j : Nat)] wr fun e w' => e = .returned (.int .i64 0) ∧ Sep w [BagT g ((ws.map sM).eraseIdx j), Is (.slice (some ⟨bw, 0, none⟩) n wc) ws] w') := Lib.hid (bdrop_any j HS.out (by rw [HML.out]; exact HX.out.1) (by rw [HML.out]; omega))
                  (try dsimp only); repeat' (first | go_values | go_skip | go_guarded | go_step | go_upon | go_back)
                  refine (HB2.out _).mono ?_
                  rintro r0 wq ⟨rfl, rfl⟩
                  clear HB2
                  (try dsimp only); repeat' (first | go_values | go_skip | go_guarded | go_step | go_upon | go_back)
                  refine (HB6.out _).mono ?_
                  rintro r0 wq ⟨rfl, rfl⟩
                  clear HB6
                  clear HS e0 e1 f0
                  (try dsimp only); repeat' (first | go_values | go_skip | go_guarded | go_step | go_upon | go_back)
                  refine HDP.out.mono ?_
                  rintro r0 w5 ⟨rfl, h5⟩
                  have H5 := Lib.hid h5
                  clear HDP h5
                  obtain ⟨v1, wc1, a2, c2, wc2, hr1, hr2, h8⟩ := cut_ints (ty1 := 26) (ty2 := 26) (H5.out.drew.sw2) HW.out.1 (by have := HX.out.1; omega) (by omega) j jp HX.out.1 hjp
                  rw [if_neg hcj] at hr2
                  have hme := map_erase ws j
                  have h8b : Sep w [BagT g ((ws.eraseIdx j).map sM), Is (.slice a2 (n - 1) c2) (ws.eraseIdx j)] wc2 := by rw [← hme]; exact h8.pick [1, 0] rfl
                  have HQ := Lib.hid h8b
                  have HR1 := Lib.hid hr1
                  have HR2 := Lib.hid hr2
                  clear h8 h8b hr1 hr2 hme hjp H5
                  (try dsimp only); repeat' (first | go_values | go_skip | go_guarded | go_step | go_upon | go_back)
                  refine wp_region_G (fun w' => True) [] (by kernel_rfl) trivial (fun hS => ?_)
                  try dsimp only at hS
                  refine wpAnyG_take' (i := 1) (v := ?v1_1cd4) rfl (by kernel_rfl) (by kernel_rfl) (by kernel_rfl) (by kernel_rfl) (fun _ _ _ h => h) (Or.inl ⟨by rfl, ?hy1_1cd4⟩) hS ?rest1_1cd4
                  case hy1_1cd4 => intro w hSw; (try dsimp only at hSw); go_simp; (try with_reducible rfl)
                  case rest1_1cd4 =>
                  try simp only [List.getElem_toArray, List.getElem_cons_succ, List.getElem_cons_zero, Act.put, List.setIfInBounds_toArray, List.set_cons_zero, List.set_cons_succ]
                  refine wpAnyG_take' (i := 2) (v := ?v2_2cd4) rfl (by kernel_rfl) (by kernel_rfl) (by kernel_rfl) (by kernel_rfl) (fun _ _ _ h => h) (Or.inl ⟨by rfl, ?hy2_2cd4⟩) hS ?rest2_2cd4
                  case hy2_2cd4 => intro w hSw; (try dsimp only at hSw); go_simp; (try with_reducible rfl)
                  case rest2_2cd4 =>
                  try simp only [List.getElem_toArray, List.getElem_cons_succ, List.getElem_cons_zero, Act.put, List.setIfInBounds_toArray, List.set_cons_zero, List.set_cons_succ]
                  refine wpAnyG_take' (i := 3) (v := ?v3_3cd4) rfl (by kernel_rfl) (by kernel_rfl) (by kernel_rfl) (by kernel_rfl) (fun _ _ _ h => h) (Or.inl ⟨by rfl, ?hy3_3cd4⟩) hS ?rest3_3cd4
                  case hy3_3cd4 => intro w hSw; (try dsimp only at hSw); go_simp; (try with_reducible rfl)
                  case rest3_3cd4 =>
                  try simp only [List.getElem_toArray, List.getElem_cons_succ, List.getElem_cons_zero, Act.put, List.setIfInBounds_toArray, List.set_cons_zero, List.set_cons_succ]
                  refine wpAnyG_take' (i := 5) (v := ?v5_4cd4) rfl (by kernel_rfl) (by kernel_rfl) (by kernel_rfl) (by kernel_rfl) (fun _ _ _ h => h) (Or.inl ⟨by rfl, ?hy5_4cd4⟩) hS ?rest5_4cd4
                  case hy5_4cd4 => intro w hSw; (try dsimp only at hSw); go_simp; (try with_reducible rfl)
                  case rest5_4cd4 =>
                  try simp only [List.getElem_toArray, List.getElem_cons_succ, List.getElem_cons_zero, Act.put, List.setIfInBounds_toArray, List.set_cons_zero, List.set_cons_succ]
                  refine wpAnyG_take' (i := 6) (v := ?v6_5cd4) rfl (by kernel_rfl) (by kernel_rfl) (by kernel_rfl) (by kernel_rfl) (fun _ _ _ h => h) (Or.inl ⟨by rfl, ?hy6_5cd4⟩) hS ?rest6_5cd4
                  case hy6_5cd4 => intro w hSw; (try dsimp only at hSw); go_simp; (try with_reducible rfl)
                  case rest6_5cd4 =>
                  try simp only [List.getElem_toArray, List.getElem_cons_succ, List.getElem_cons_zero, Act.put, List.setIfInBounds_toArray, List.set_cons_zero, List.set_cons_succ]
                  refine wpAnyG_take' (i := 7) (v := ?v7_6cd4) rfl (by kernel_rfl) (by kernel_rfl) (by kernel_rfl) (by kernel_rfl) (fun _ _ _ h => h) (Or.inl ⟨by rfl, ?hy7_6cd4⟩) hS ?rest7_6cd4
                  case hy7_6cd4 => intro w hSw; (try dsimp only at hSw); go_simp; (try with_reducible rfl)
                  case rest7_6cd4 =>
                  try simp only [List.getElem_toArray, List.getElem_cons_succ, List.getElem_cons_zero, Act.put, List.setIfInBounds_toArray, List.set_cons_zero, List.set_cons_succ]
                  refine wpAnyG_take' (i := 8) (v := ?v8_7cd4) rfl (by kernel_rfl) (by kernel_rfl) (by kernel_rfl) (by kernel_rfl) (fun _ _ _ h => h) (Or.inl ⟨by rfl, ?hy8_7cd4⟩) hS ?rest8_7cd4
                  case hy8_7cd4 => intro w hSw; (try dsimp only at hSw); go_simp; (try with_reducible rfl)
                  case rest8_7cd4 =>
                  try simp only [List.getElem_toArray, List.getElem_cons_succ, List.getElem_cons_zero, Act.put, List.setIfInBounds_toArray, List.set_cons_zero, List.set_cons_succ]
                  refine wpAnyG_one (i := 0) (by kernel_rfl) rfl (fun K hK => ?_)
                  go_simp
                  refine hK.out _ _ (fun _ => ?hS8cd4) ?rest8cd4
                  case hS8cd4 => exact trivial
                  clear K hK
                  try simp only [List.getElem_toArray, List.getElem_cons_succ, List.getElem_cons_zero, Act.put, List.setIfInBounds_toArray, List.set_cons_zero, List.set_cons_succ]
                  refine wpAnyG_one (i := 4) (by kernel_rfl) rfl (fun K hK => ?_)
                  refine step_append_run (by rfl) (.tmp 44) (.tmp 47) 26 26 (by rfl) _ _ (by rfl) (by rfl) HR1.out ?_
                  refine hK.out _ _ (fun _ => ?hS9cd4) ?rest9cd4
                  case hS9cd4 => exact trivial
                  clear K hK
                  try simp only [List.getElem_toArray, List.getElem_cons_succ, List.getElem_cons_zero, Act.put, List.setIfInBounds_toArray, List.set_cons_zero, List.set_cons_succ]
                  refine wpAnyG_one (i := 9) (by kernel_rfl) rfl (fun K hK => ?_)
                  refine step_append_run (by rfl) (.tmp 48) (.tmp 52) 26 26 (by rfl) _ _ (by rfl) (by rfl) HR2.out ?_
                  refine hK.out _ _ (fun _ => ?hS10cd4) ?rest10cd4
                  case hS10cd4 => exact trivial
                  clear K hK
                  try simp only [List.getElem_toArray, List.getElem_cons_succ, List.getElem_cons_zero, Act.put, List.setIfInBounds_toArray, List.set_cons_zero, List.set_cons_succ]
                  refine wpAnyG_take' (i := 10) (v := ?v10_11cd4) rfl (by kernel_rfl) (by kernel_rfl) (by kernel_rfl) (by kernel_rfl) (fun _ _ _ h => h) (Or.inl ⟨by rfl, ?hy10_11cd4⟩) trivial ?rest10_11cd4
                  case hy10_11cd4 => intro w hSw; (try dsimp only at hSw); go_simp; (try with_reducible rfl)
                  case rest10_11cd4 =>
                  try simp only [List.getElem_toArray, List.getElem_cons_succ, List.getElem_cons_zero, Act.put, List.setIfInBounds_toArray, List.set_cons_zero, List.set_cons_succ]
                  refine wpAnyG_done (by kernel_rfl) ?_ _
                  try simp only [List.getElem_toArray, List.getElem_cons_succ, List.getElem_cons_zero, Act.put, List.setIfInBounds_toArray, List.set_cons_zero, List.set_cons_succ]
                  clear hS HR1 HR2
                  have HBN : Hid (∀ x ∈ ws.eraseIdx j, 0 ≤ x ∧ x ≤ 150) := Lib.hid (fun z hz => HW.out.2.1 z (List.mem_of_mem_eraseIdx hz))
                  have HLE : Hid ((ws.eraseIdx j).length = n - 1) := Lib.hid (by rw [List.length_eraseIdx, HW.out.1, if_pos HX.out.1])
                  have HTE := Lib.hid (tells_any HQ.out (by rw [HLE.out]; have := HW.out.2.2.2; omega) (fun x hx => (HBN.out x hx).1))
                  clear HQ
                  (try dsimp only); repeat' (first | go_values | go_skip | go_guarded | go_step | go_upon | go_back)
                  refine HTE.out.mono ?_
                  rintro r0 wt ⟨rfl, ht⟩
                  have HT := Lib.hid ht
                  clear HTE ht
                  (try dsimp only); repeat' (first | go_values | go_skip | go_guarded | go_step | go_upon | go_back)
                  go_roundw
                  case rel => exact ⟨k + 1, n - 1, ws.eraseIdx j, a2, c2, by have := HW.out.2.2.1.1; omega, by have := HW.out.2.2.1.2; omega, by have := HW.out.2.2.2; omega, rfl, by go_num, HLE.out, HBN.out, HT.out⟩
                  case measure => have := HW.out.2.2.1.2; simp [intOf]; omega
    · have hex : (decide (k < vn) = false) ∨ (decide (k < vn) = true ∧ decide ((k : Int) < 150) = false) := by
        by_cases h1 : k < vn
        · exact .inr ⟨decide_eq_true h1, decide_eq_false (by omega)⟩
        · exact .inl (decide_eq_false h1)
      have HL := Lib.hid hs.low
      clear hgo hk hk2 hs HS hwl hw0
      rcases hex with d0 | ⟨d0, d1⟩
      · (try dsimp only); repeat' (first | go_values | go_skip | go_guarded | go_step | go_upon | go_back)
        go_ret
        exact ⟨rfl, HL.out⟩
      · (try dsimp only); repeat' (first | go_values | go_skip | go_guarded | go_step | go_upon | go_back)
        go_ret
        exact ⟨rfl, HL.out⟩
end Go.Proofs.YtcnbmeiielkigaaDoor
