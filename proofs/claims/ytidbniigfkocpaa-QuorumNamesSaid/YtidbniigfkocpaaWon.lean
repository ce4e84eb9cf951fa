/- A tally: which ballot comes ahead, Won. -/
import Derived.Test.YtidbniigfkocpaaTally
import Derived.Test.YtidbniigfkocpaaIntsSep
namespace Go.Proofs.Ytidbniigfkocpaa
open Go.RowKit
set_option linter.unusedVariables false
set_option linter.unusedSimpArgs false
def cmpI (a b : Int) : Int := if a < b then -1 else if b < a then 1 else 0
theorem nan_any (a : Int) (w : World) : Calls Try.prog 45 #[.int .i64 a] w fun e w' => e = .returned (.bool false) ∧ w = w' := by
  have h : (a != a) = false := by simp
  go_enter Try.func45, Try.ntmps45
  go_wp2
  go_ret
  exact ⟨rfl, rfl⟩
set_option maxRecDepth 100000 in
theorem cmp_any (a b : Int) (w : World) : Calls Try.prog 41 #[.int .i64 a, .int .i64 b] w fun e w' => e = .returned (.int .i64 (cmpI a b)) ∧ w' = w := by
  rcases Int.lt_trichotomy a b with h | h | h
  · have hc : cmpI a b = -1 := if_pos h
    rw [hc]
    clear hc
    go_enter Try.func41, Try.ntmps41
    go_wp2_with (go_at_call 45; refine (nan_any _ _).mono ?_; rintro e w' ⟨rfl, rfl⟩)
    go_ret
    exact ⟨rfl, rfl⟩
  · subst h
    have hc : cmpI a a = 0 := by unfold cmpI; rw [if_neg (by omega), if_neg (by omega)]
    rw [hc]
    clear hc
    go_enter Try.func41, Try.ntmps41
    go_wp2_with (go_at_call 45; refine (nan_any _ _).mono ?_; rintro e w' ⟨rfl, rfl⟩)
    go_ret
    exact ⟨rfl, rfl⟩
  · have hc : cmpI a b = 1 := by unfold cmpI; rw [if_neg (by omega), if_pos h]
    rw [hc]
    clear hc
    have h' : ¬ a < b := by omega
    go_enter Try.func41, Try.ntmps41
    go_wp2_with (go_at_call 45; refine (nan_any _ _).mono ?_; rintro e w' ⟨rfl, rfl⟩)
    go_ret
    exact ⟨rfl, rfl⟩
/-- The first that is not 0. -/
def orI : List Int → Int
  | [] => 0
  | a :: l => if a = 0 then orI l else a
theorem or_any (b c n : Nat) (l : List Int) (w : World) (h : ∀ j (hj : j < l.length), w.cell? ⟨b, j, none⟩ = some (.int .i64 l[j])) (hn : l.length = n) (hl : n ≤ 1000) :
    Calls Try.prog 40 #[.slice (some ⟨b, 0, none⟩) n c] w fun e w' => e = .returned (.int .i64 (orI l)) ∧ w = w' := by
  have H := Lib.hid h
  have HL := Lib.hid hn
  clear h hn
  go_enter Try.func40, Try.ntmps40
  go_wp2
  go_loop [8] (fun i => ∃ k : Nat, k ≤ n ∧ i = .int .i64 k ∧ orI l = orI (l.drop k)) (fun i => n - (intOf i).toNat)
  case atStart => exact ⟨0, by omega, rfl, rfl⟩
  case round =>
    obtain ⟨k, hk, rfl, hr⟩ := hrel
    have k0 : (0 : Int) ≤ (k : Int) := by omega
    have k1 : (k : Int) ≤ 1000 := by omega
    by_cases hkn : k < n
    · have hd : decide (k < n) = true := decide_eq_true hkn
      have hlt : k < l.length := by rw [HL.out]; exact hkn
      have c0 := H.out k hlt
      rw [List.drop_eq_getElem_cons hlt] at hr
      generalize l[k] = v at c0 hr
      have k2 : (k : Int) < (n : Int) := by omega
      by_cases hv : v = 0
      · rw [orI, if_pos hv] at hr
        have HR := Lib.hid hr
        have hv' : (v != 0) = false := by rw [hv]; rfl
        clear hr hv hlt hkn
        go_wp2
        go_round
        case rel => exact ⟨k + 1, of_decide_eq_true hd, by go_num, HR.out⟩
        case measure => have hkn := of_decide_eq_true hd; simp [intOf]; omega
      · rw [orI, if_neg hv] at hr
        have HR := Lib.hid hr
        have hv' : (v != 0) = true := by rw [bne_iff_ne]; exact hv
        clear hr hlt hkn hv
        go_wp2
        go_ret
        exact ⟨congrArg (fun z => Ending.returned (.int .i64 z)) HR.out.symm, rfl⟩
    · have hd : decide (k < n) = false := decide_eq_false hkn
      have hkl : k = l.length := by rw [HL.out]; omega
      rw [hkl, List.drop_length] at hr
      have HR := Lib.hid hr
      clear hr hkl hkn
      go_wp2
      go_ret
      exact ⟨congrArg (fun z => Ending.returned (.int .i64 z)) HR.out.symm, rfl⟩
def cmpB (x y : Bal) : Int := orI [cmpI x.1.1 y.1.1, cmpI x.1.2.1 y.1.2.1, cmpI x.1.2.2.1 y.1.2.2.1, cmpI x.1.2.2.2.1 y.1.2.2.2.1, cmpI x.1.2.2.2.2 y.1.2.2.2.2]
set_option maxRecDepth 100000 in
set_option maxHeartbeats 4000000 in
theorem compare_any (x y : Bal) (w : World) : Calls Try.prog 33 #[balV x, balV y] w fun e w' => e = .returned (.int .i64 (cmpB x y)) ∧ Below w.heap.size w w' := by
  obtain ⟨bx, hbx⟩ : ∃ k, k = w.heap.size := ⟨_, rfl⟩
  obtain ⟨wa, hwa⟩ : ∃ k, k = (w.alloc (.cells #[.int .i64 x.1.1, .int .i64 x.1.2.1, .int .i64 x.1.2.2.1, .int .i64 x.1.2.2.2.1, .int .i64 x.1.2.2.2.2] 34)).alloc (.cells #[.int .i64 y.1.1, .int .i64 y.1.2.1, .int .i64 y.1.2.2.1, .int .i64 y.1.2.2.2.1, .int .i64 y.1.2.2.2.2] 34) := ⟨_, rfl⟩
  have h1 := ((Sep.start w).alloc (.cells #[.int .i64 x.1.1, .int .i64 x.1.2.1, .int .i64 x.1.2.2.1, .int .i64 x.1.2.2.2.1, .int .i64 x.1.2.2.2.2] 34)).alloc (.cells #[.int .i64 y.1.1, .int .i64 y.1.2.1, .int .i64 y.1.2.2.1, .int .i64 y.1.2.2.2.1, .int .i64 y.1.2.2.2.2] 34)
  rw [show (w.alloc (.cells #[.int .i64 x.1.1, .int .i64 x.1.2.1, .int .i64 x.1.2.2.1, .int .i64 x.1.2.2.2.1, .int .i64 x.1.2.2.2.2] 34)).heap.size = w.heap.size + 1 by simp, ← hbx, ← hwa] at h1
  have y0 := h1.cell (o := 0) (x := .int .i64 y.1.1) rfl
  have y1 := h1.cell (o := 1) (x := .int .i64 y.1.2.1) rfl
  have y2 := h1.cell (o := 2) (x := .int .i64 y.1.2.2.1) rfl
  have y3 := h1.cell (o := 3) (x := .int .i64 y.1.2.2.2.1) rfl
  have y4 := h1.cell (o := 4) (x := .int .i64 y.1.2.2.2.2) rfl
  have x0 := h1.sw2.cell (o := 0) (x := .int .i64 x.1.1) rfl
  have x1 := h1.sw2.cell (o := 1) (x := .int .i64 x.1.2.1) rfl
  have x2 := h1.sw2.cell (o := 2) (x := .int .i64 x.1.2.2.1) rfl
  have x3 := h1.sw2.cell (o := 3) (x := .int .i64 x.1.2.2.2.1) rfl
  have x4 := h1.sw2.cell (o := 4) (x := .int .i64 x.1.2.2.2.2) rfl
  unfold balV cmpB
  obtain ⟨⟨a, b, c, d, e⟩, hx⟩ := x
  obtain ⟨⟨a', b', c', d', e'⟩, hy⟩ := y
  dsimp only at *
  have h2 := (h1.alloc (.cells #[.int .i64 (cmpI a a'), .int .i64 (cmpI b b'), .int .i64 (cmpI c c'), .int .i64 (cmpI d d'), .int .i64 (cmpI e e')] 3)).drew
  have HO := Lib.hid (or_any wa.heap.size 5 5 [cmpI a a', cmpI b b', cmpI c c', cmpI d d', cmpI e e'] _ (fun j hj => by
    refine h2.cell ?_
    match j, hj with
    | 0, _ => rfl
    | 1, _ => rfl
    | 2, _ => rfl
    | 3, _ => rfl
    | 4, _ => rfl) rfl (by omega))
  have HB := Lib.hid h2.low
  clear h1 h2
  go_enter Try.func33, Try.ntmps33
  go_wp2_with fail
  rw [← hbx, ← hwa]
  clear hwa hbx
  go_region_held3 (fun w' => w'.cell? ⟨bx, 0, none⟩ = some (.int .i64 a) ∧ w'.cell? ⟨bx, 1, none⟩ = some (.int .i64 b) ∧ w'.cell? ⟨bx, 2, none⟩ = some (.int .i64 c) ∧ w'.cell? ⟨bx, 3, none⟩ = some (.int .i64 d) ∧ w'.cell? ⟨bx, 4, none⟩ = some (.int .i64 e) ∧ w'.cell? ⟨bx + 1, 0, none⟩ = some (.int .i64 a') ∧ w'.cell? ⟨bx + 1, 1, none⟩ = some (.int .i64 b') ∧ w'.cell? ⟨bx + 1, 2, none⟩ = some (.int .i64 c') ∧ w'.cell? ⟨bx + 1, 3, none⟩ = some (.int .i64 d') ∧ w'.cell? ⟨bx + 1, 4, none⟩ = some (.int .i64 e')) (go_keep) (first | (go_at_call 41; refine Calls.mono (cmp_any _ _ _) ?_; rintro r9 w9 ⟨rfl, rfl⟩) | (go_at_call 40; refine Calls.mono HO.out ?_; rintro r9 w9 ⟨rfl, rfl⟩))
  go_wp2_with fail
  go_ret
  exact ⟨rfl, HB.out⟩
theorem orI_lt (a b : Int) (l : List Int) : orI (cmpI a b :: l) < 0 ↔ a < b ∨ (a = b ∧ orI l < 0) := by
  unfold cmpI
  by_cases h1 : a < b
  · rw [if_pos h1]; simp [orI, h1]
  · rw [if_neg h1]
    by_cases h2 : b < a
    · rw [if_pos h2]; simp [orI]; omega
    · rw [if_neg h2]
      have : a = b := by omega
      simp [orI, this]
theorem orI_eq (a b : Int) (l : List Int) : orI (cmpI a b :: l) = 0 ↔ a = b ∧ orI l = 0 := by
  unfold cmpI
  by_cases h1 : a < b
  · rw [if_pos h1]; simp [orI]; omega
  · rw [if_neg h1]
    by_cases h2 : b < a
    · rw [if_pos h2]; simp [orI]; omega
    · rw [if_neg h2]
      have : a = b := by omega
      simp [orI, this]
theorem cmpB_lt (x y : Bal) : cmpB x y < 0 ↔ x.1.1 < y.1.1 ∨ (x.1.1 = y.1.1 ∧ (x.1.2.1 < y.1.2.1 ∨ (x.1.2.1 = y.1.2.1 ∧ (x.1.2.2.1 < y.1.2.2.1 ∨ (x.1.2.2.1 = y.1.2.2.1 ∧ (x.1.2.2.2.1 < y.1.2.2.2.1 ∨ (x.1.2.2.2.1 = y.1.2.2.2.1 ∧ x.1.2.2.2.2 < y.1.2.2.2.2))))))) := by
  unfold cmpB
  rw [orI_lt, orI_lt, orI_lt, orI_lt, orI_lt]
  simp [orI]
theorem cmpB_eq {x y : Bal} (h : cmpB x y = 0) : x = y := by
  unfold cmpB at h
  rw [orI_eq, orI_eq, orI_eq, orI_eq, orI_eq] at h
  obtain ⟨h1, h2, h3, h4, h5, _⟩ := h
  apply Subtype.ext
  obtain ⟨⟨a, b, c, d, e⟩, hx⟩ := x
  obtain ⟨⟨a', b', c', d', e'⟩, hy⟩ := y
  simp only at h1 h2 h3 h4 h5
  subst h1 h2 h3 h4 h5
  rfl
theorem cmpB_trans {x y z : Bal} (h1 : cmpB x y < 0) (h2 : cmpB y z < 0) : cmpB x z < 0 := by
  rw [cmpB_lt] at *
  omega
theorem cmpB_total {x y : Bal} (h1 : ¬ cmpB x y < 0) (h2 : ¬ cmpB y x < 0) : x = y := by
  apply cmpB_eq
  unfold cmpB
  rw [orI_eq, orI_eq, orI_eq, orI_eq, orI_eq]
  rw [cmpB_lt] at h1 h2
  simp only [orI, and_true]
  omega
end Go.Proofs.Ytidbniigfkocpaa
