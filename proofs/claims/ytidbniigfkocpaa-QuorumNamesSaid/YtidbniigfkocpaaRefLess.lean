/- The document's less: which ballot comes ahead. -/
import Derived.Test.YtidbniigfkocpaaWon2
import Derived.BigQuiet
namespace Go.Proofs.Ytidbniigfkocpaa
open Go.RowKit
set_option linter.unusedVariables false
set_option linter.unusedSimpArgs false
def rowI (x : Bal) : List Int := [x.1.1, x.1.2.1, x.1.2.2.1, x.1.2.2.2.1, x.1.2.2.2.2]
theorem cellsB_row (x : Bal) : cellsB x = ((rowI x).map (Value.int .i64)).toArray := rfl
def lexI : List Int → List Int → Bool
  | a :: l, b :: m => if a = b then lexI l m else decide (a < b)
  | _, _ => false
theorem lexI_row (x y : Bal) : lexI (rowI x) (rowI y) = decide (cmpB x y < 0) := by
  obtain ⟨⟨a, b, c, d, e⟩, hx⟩ := x
  obtain ⟨⟨a', b', c', d', e'⟩, hy⟩ := y
  rw [Bool.eq_iff_iff, decide_eq_true_eq, cmpB_lt]
  simp only [rowI, lexI]
  by_cases h1 : a = a'
  · rw [if_pos h1]
    by_cases h2 : b = b'
    · rw [if_pos h2]
      by_cases h3 : c = c'
      · rw [if_pos h3]
        by_cases h4 : d = d'
        · rw [if_pos h4]
          by_cases h5 : e = e'
          · rw [if_pos h5]; simp; omega
          · rw [if_neg h5, decide_eq_true_eq]; omega
        · rw [if_neg h4, decide_eq_true_eq]; omega
      · rw [if_neg h3, decide_eq_true_eq]; omega
    · rw [if_neg h2, decide_eq_true_eq]; omega
  · rw [if_neg h1, decide_eq_true_eq]; omega
set_option maxRecDepth 100000 in
theorem row_any {w0 w : World} {L : List Thing} (x : Bal) (h : Sep w0 L w) :
    Calls Try.prog 42 #[balV x] w fun e w' => ∃ g, e = .returned (.slice (some ⟨g, 0, none⟩) 5 5) ∧ Sep w0 (Cl g (cellsB x) 3 :: L) w' := by
  have h1 := h.alloc (.cells (cellsB x) 34)
  obtain ⟨b, hb⟩ : ∃ k, k = w.heap.size := ⟨_, rfl⟩
  obtain ⟨wa, hwa⟩ : ∃ k, k = w.alloc (.cells (cellsB x) 34) := ⟨_, rfl⟩
  rw [← hb, ← hwa] at h1
  obtain ⟨c0, c1, c2, c3, c4⟩ := bal_cells h1
  have h2 := h1.drop.alloc (.cells (cellsB x) 3)
  rw [show wa.heap.size = b + 1 by rw [hwa, hb]; simp] at h2
  have H2 := Lib.hid h2
  clear h h1 h2
  unfold balV
  unfold cellsB at H2 hwa
  go_enter Try.func42, Try.ntmps42
  go_wp2_with fail
  rw [← hwa, ← hb]
  clear hwa hb
  go_wp2_with fail
  go_ret
  exact ⟨_, rfl, H2.out⟩
theorem less_cells {w0 w : World} {L : List Thing} {b b' : Nat} {x y : Bal} (h : Sep w0 (Cl b' (cellsB y) 34 :: Cl b (cellsB x) 34 :: L) w) :
    w.cell? ⟨b, 0, none⟩ = some (.int .i64 x.1.1) ∧ w.cell? ⟨b, 1, none⟩ = some (.int .i64 x.1.2.1) ∧ w.cell? ⟨b, 2, none⟩ = some (.int .i64 x.1.2.2.1) ∧ w.cell? ⟨b, 3, none⟩ = some (.int .i64 x.1.2.2.2.1) ∧ w.cell? ⟨b, 4, none⟩ = some (.int .i64 x.1.2.2.2.2) ∧ w.cell? ⟨b', 0, none⟩ = some (.int .i64 y.1.1) ∧ w.cell? ⟨b', 1, none⟩ = some (.int .i64 y.1.2.1) ∧ w.cell? ⟨b', 2, none⟩ = some (.int .i64 y.1.2.2.1) ∧ w.cell? ⟨b', 3, none⟩ = some (.int .i64 y.1.2.2.2.1) ∧ w.cell? ⟨b', 4, none⟩ = some (.int .i64 y.1.2.2.2.2) := by
  obtain ⟨c0, c1, c2, c3, c4⟩ := bal_cells h.sw2
  obtain ⟨d0, d1, d2, d3, d4⟩ := bal_cells h
  exact ⟨c0, c1, c2, c3, c4, d0, d1, d2, d3, d4⟩
theorem rowI_len (x : Bal) : (rowI x).length = 5 := rfl
theorem Sep.rowAt {w0 w : World} {L : List Thing} {g : Nat} {x : Bal} {t : TypeId} (h : Sep w0 (Cl g (cellsB x) t :: L) w) (j : Nat) (hj : j < (rowI x).length) : w.cell? ⟨g, j, none⟩ = some (.int .i64 (rowI x)[j]) := by
  rw [cellsB_row] at h
  exact h.cell (by simp [hj])
set_option maxRecDepth 100000 in
set_option maxHeartbeats 400000 in
theorem less_any {w0 w : World} {L : List Thing} (x y : Bal) (h : Sep w0 L w) :
    Calls Try.prog 34 #[balV x, balV y] w fun e w' => e = .returned (.bool (decide (cmpB x y < 0))) ∧ Sep w0 L w' := by
  rw [← lexI_row]
  obtain ⟨r, hr⟩ : ∃ r, r = lexI (rowI x) (rowI y) := ⟨_, rfl⟩
  rw [← hr]
  have HR := Lib.hid hr
  clear hr
  have h1 := (h.alloc (.cells (cellsB x) 34)).alloc (.cells (cellsB y) 34)
  rw [show (w.alloc (.cells (cellsB x) 34)).heap.size = w.heap.size + 1 by simp] at h1
  obtain ⟨b, hb⟩ : ∃ k, k = w.heap.size := ⟨_, rfl⟩
  obtain ⟨wa, hwa⟩ : ∃ k, k = (w.alloc (.cells (cellsB x) 34)).alloc (.cells (cellsB y) 34) := ⟨_, rfl⟩
  rw [← hb, ← hwa] at h1
  have S1 : wa.cell? ⟨b, 0, none⟩ = _ ∧ _ := bal_cells h1.sw2
  have S2 : wa.cell? ⟨b + 1, 0, none⟩ = _ ∧ _ := bal_cells h1
  obtain ⟨c0, c1, c2, c3, c4⟩ := S1
  obtain ⟨d0, d1, d2, d3, d4⟩ := S2
  have H1 := Lib.hid h1
  clear h h1
  have hbx : balV x = .agg #[.int .i64 x.1.1, .int .i64 x.1.2.1, .int .i64 x.1.2.2.1, .int .i64 x.1.2.2.2.1, .int .i64 x.1.2.2.2.2] := rfl
  have hby : balV y = .agg #[.int .i64 y.1.1, .int .i64 y.1.2.1, .int .i64 y.1.2.2.1, .int .i64 y.1.2.2.2.1, .int .i64 y.1.2.2.2.2] := rfl
  have e0 := row_any x H1.out.drew
  have e1 : ∀ (M : List Thing) (wx : World), Sep w0 M wx → _ := fun M wx hx => row_any y hx
  rw [hbx] at e0 ⊢
  rw [hby] at e1 ⊢
  have HE0 := Lib.hid e0
  have HE1 := Lib.hid e1
  clear e0 e1 hbx hby
  unfold cellsB at hwa
  go_enter Try.func34, Try.ntmps34
  go_wp2_with fail
  rw [← hwa, ← hb]
  clear hwa hb
  go_region_held3 (fun w' => w'.cell? ⟨b, 0, none⟩ = some (.int .i64 x.1.1) ∧ w'.cell? ⟨b, 1, none⟩ = some (.int .i64 x.1.2.1) ∧ w'.cell? ⟨b, 2, none⟩ = some (.int .i64 x.1.2.2.1) ∧ w'.cell? ⟨b, 3, none⟩ = some (.int .i64 x.1.2.2.2.1) ∧ w'.cell? ⟨b, 4, none⟩ = some (.int .i64 x.1.2.2.2.2) ∧ w'.cell? ⟨b + 1, 0, none⟩ = some (.int .i64 y.1.1) ∧ w'.cell? ⟨b + 1, 1, none⟩ = some (.int .i64 y.1.2.1) ∧ w'.cell? ⟨b + 1, 2, none⟩ = some (.int .i64 y.1.2.2.1) ∧ w'.cell? ⟨b + 1, 3, none⟩ = some (.int .i64 y.1.2.2.2.1) ∧ w'.cell? ⟨b + 1, 4, none⟩ = some (.int .i64 y.1.2.2.2.2)) (first | go_keep | exact less_cells H2.out | exact less_cells H3.out) (first
    | (go_at_call 42; refine Calls.mono HE0.out ?_; rintro r2 w2 ⟨g1, rfl, h2⟩; have S2 := less_cells h2.drop; obtain ⟨c0, c1, c2, c3, c4, d0, d1, d2, d3, d4⟩ := S2; have H2 := Lib.hid h2.to3; clear h2 HE0)
    | (go_at_call 42; refine Calls.mono (HE1.out _ _ H2.out) ?_; rintro r3 w3 ⟨g2, rfl, h3⟩; have S3 := less_cells h3.drop; obtain ⟨c0, c1, c2, c3, c4, d0, d1, d2, d3, d4⟩ := S3; have H3 := Lib.hid h3.to3; clear h3 HE1))
  have HS := Lib.hid H3.out.drop.drop.drop.drop
  have A1 : Hid (∀ j (hj : j < (rowI x).length), _) := Lib.hid (fun j hj => Sep.rowAt H3.out.sw4 j hj)
  have A2 : Hid (∀ j (hj : j < (rowI y).length), _) := Lib.hid (fun j hj => Sep.rowAt H3.out.sw3 j hj)
  clear c0 c1 c2 c3 c4 d0 d1 d2 d3 d4 H1 H2 H3
  have HLX : Hid ((rowI x).length = 5 ∧ (rowI y).length = 5) := Lib.hid ⟨rfl, rfl⟩
  generalize rowI x = lx at *
  generalize rowI y = ly at *
  go_wp2_with fail
  go_loopw [7] (fun i wr => ∃ k m : Nat, k ≤ 5 ∧ i = .int .i64 k ∧ lexI lx ly = lexI (lx.drop k) (ly.drop k) ∧ wr = w3.drewN m) (fun i _ => 5 - (intOf i).toNat)
  case atStart => exact ⟨0, 0, by omega, rfl, rfl, rfl⟩
  case round =>
    obtain ⟨k, m, hk, rfl, ht, rfl⟩ := hrel
    have k0 : (0 : Int) ≤ (k : Int) := by omega
    have k1 : (k : Int) ≤ 5 := by omega
    by_cases hkn : k < 5
    · have hd : decide ((k : Int) < 5) = true := decide_eq_true (by omega)
      have k2 : (k : Int) < 5 := by omega
      have hkx : k < lx.length := by have := HLX.out; omega
      have hky : k < ly.length := by have := HLX.out; omega
      have c1 := A1.out k hkx
      have c2 := A2.out k hky
      rw [List.drop_eq_getElem_cons hkx, List.drop_eq_getElem_cons hky, lexI] at ht
      generalize lx[k] = z at c1 ht
      generalize ly[k] = z' at c2 ht
      by_cases he : z = z'
      · rw [if_pos he] at ht
        subst he
        have HT := Lib.hid ht
        have heq : (z != z) = false := by simp
        clear ht hkn hkx hky
        go_wp2_with fail
        go_quiet (fail)
        go_wp2_with fail
        go_roundw
        case rel => exact ⟨k + 1, m + nq, by have := of_decide_eq_true hd; omega, by go_num, HT.out, by simp [World.drewN, Nat.add_assoc]⟩
        case measure => have hkn := of_decide_eq_true hd; simp [intOf]; omega
      · rw [if_neg he] at ht
        have HT := Lib.hid ht
        have heq : (z != z') = true := by rw [bne_iff_ne]; exact he
        clear ht hkn hkx hky he
        go_wp2_with fail
        go_quiet (fail)
        go_wp2_with fail
        go_big_quiet (fail)
        go_wp2_with fail
        go_ret
        exact ⟨congrArg (fun z => Ending.returned (.bool z)) (HT.out.symm.trans HR.out.symm), ((HS.out.drewN m).drewN _).drewN _⟩
    · have hd : decide ((k : Int) < 5) = false := decide_eq_false (by omega)
      rw [List.drop_eq_nil_of_le (by have := HLX.out; omega)] at ht
      have HT := Lib.hid ht
      clear ht
      go_wp2_with fail
      go_ret
      exact ⟨congrArg (fun z => Ending.returned (.bool z)) (HT.out.symm.trans HR.out.symm), HS.out.drewN m⟩
end Go.Proofs.Ytidbniigfkocpaa
