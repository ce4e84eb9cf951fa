/- The walk of ClockKnown. -/
import Derived.Test.YtbiohldgcdfafaaClockPlays
import Derived.Test.YtbiohldgcdfafaaClockLate
namespace Go.Proofs.Ytbiohldgcdfafaa
open Go.RowKit
set_option linter.unusedVariables false
/-- A clock that is none. -/
def Nn (w : World) (v : Value) : Prop := v = .pointer none ∨ ∃ g, v = .pointer (some ⟨g, 0, none⟩) ∧ Ck w g 0 0
theorem nn_is (v : Value) (w : World) (h : Nn w v) : Calls Try.prog 20 #[v] w fun e w' => e = .returned (.bool true) ∧ w = w' := by
  rcases h with rfl | ⟨g, rfl, h⟩
  · go_enter Try.func20, Try.ntmps20
    go_wp2
    go_ret
    exact ⟨rfl, rfl⟩
  · obtain ⟨c0, c1, _⟩ := h.cells
    clear h
    go_enter Try.func20, Try.ntmps20
    go_wp2
    go_ret
    exact ⟨rfl, rfl⟩
theorem nn_reset (v : Value) (w : World) (h : Nn w v) : Calls Try.prog 12 #[v] w fun e w' => (∃ x, e = .returned x) ∧ w = w' := by
  have H := Lib.hid h
  clear h
  go_enter Try.func12, Try.ntmps12
  go_wp2_with (go_at_call 20; refine (nn_is _ _ H.out).mono ?_; rintro r0 w1 ⟨rfl, rfl⟩)
  go_end0
  exact ⟨⟨_, rfl⟩, rfl⟩
theorem nn_tick (v : Value) (w : World) (h : Nn w v) : Calls Try.prog 10 #[v] w fun e w' => e = .returned (.bool false) ∧ w = w' := by
  have H := Lib.hid h
  clear h
  go_enter Try.func10, Try.ntmps10
  go_wp2_with (go_at_call 20; refine (nn_is _ _ H.out).mono ?_; rintro r0 w1 ⟨rfl, rfl⟩)
  go_ret
  exact ⟨rfl, rfl⟩
theorem nn_left (v : Value) (w : World) (h : Nn w v) : Calls Try.prog 14 #[v] w fun e w' => e = .returned (.int .i64 0) ∧ w = w' := by
  have H := Lib.hid h
  clear h
  go_enter Try.func14, Try.ntmps14
  go_wp2_with (go_at_call 20; refine (nn_is _ _ H.out).mono ?_; rintro r0 w1 ⟨rfl, rfl⟩)
  go_ret
  exact ⟨rfl, rfl⟩
theorem nn_limit (v : Value) (w : World) (h : Nn w v) : Calls Try.prog 16 #[v] w fun e w' => e = .returned (.int .i64 0) ∧ w = w' := by
  have H := Lib.hid h
  clear h
  go_enter Try.func16, Try.ntmps16
  go_wp2_with (go_at_call 20; refine (nn_is _ _ H.out).mono ?_; rintro r0 w1 ⟨rfl, rfl⟩)
  go_ret
  exact ⟨rfl, rfl⟩
/-- A slice literal in new memory. -/
theorem sl_lit (w : World) (e : TypeId) (xs : Array Value) (h : xs.size ≤ maxLen) : Sl (w.alloc (.cells xs e)) (.slice (some ⟨w.heap.size, 0, none⟩) xs.size xs.size) xs.toList := by
  refine .inl (.inr ⟨w.heap.size, 0, xs.size, by simp, by simp, h, by simp, fun j u hj => ?_⟩)
  unfold World.cell?
  rw [show (w.alloc (.cells xs e)).heap[w.heap.size]? = some (.cells xs e (0, 0)) from heap_alloc_new w _]
  simpa using hj
set_option maxRecDepth 8000 in
set_option maxHeartbeats 1000000 in
theorem known_walk (w : World) : Calls Try.prog 7 #[] w fun e w' => e = .returned (.bool true) ∧ Below w.heap.size w w' := by
  go_enter Try.func7, Try.ntmps7
  go_wp2_with fail
  have hE : Sl (w.alloc (.cells #[.int .i64 (-9223372036854775808), .int .i64 (-1), .int .i64 0, .int .i64 1, .int .i64 2, .int .i64 3, .int .i64 1000, .int .i64 1001, .int .i64 9223372036854775807] 3)) (.slice (some ⟨w.heap.size, 0, none⟩) 9 9) (iv .i64 [-9223372036854775808, -1, 0, 1, 2, 3, 1000, 1001, 9223372036854775807]) := sl_lit w _ _ (by decide)
  have hb1 := (Below.refl w.heap.size w).alloc (Nat.le_refl _) (.cells #[.int .i64 (-9223372036854775808), .int .i64 (-1), .int .i64 0, .int .i64 1, .int .i64 2, .int .i64 3, .int .i64 1000, .int .i64 1001, .int .i64 9223372036854775807] 3)
  have hz1 : (w.alloc (.cells #[.int .i64 (-9223372036854775808), .int .i64 (-1), .int .i64 0, .int .i64 1, .int .i64 2, .int .i64 3, .int .i64 1000, .int .i64 1001, .int .i64 9223372036854775807] 3)).heap.size = w.heap.size + 1 := by simp
  obtain ⟨E, hEe⟩ : ∃ E : List Int, E = [-9223372036854775808, -1, 0, 1, 2, 3, 1000, 1001, 9223372036854775807] := ⟨_, rfl⟩
  have hEl : E.length = 9 := by rw [hEe]; rfl
  rw [← hEe] at hE
  clear hEe
  generalize w.alloc (.cells #[.int .i64 (-9223372036854775808), .int .i64 (-1), .int .i64 0, .int .i64 1, .int .i64 2, .int .i64 3, .int .i64 1000, .int .i64 1001, .int .i64 9223372036854775807] 3) = W1 at *
  rw [← hz1]
  have hL : Sl (W1.alloc (.cells #[.bool true, .bool true, .bool false, .bool true, .bool true, .bool true, .bool true, .bool false, .bool false, .bool true] 4)) (.slice (some ⟨W1.heap.size, 0, none⟩) 10 10) (lv [true, true, false, true, true, true, true, false, false, true]) := sl_lit W1 _ _ (by decide)
  have hb2 := (Below.refl W1.heap.size W1).alloc (Nat.le_refl _) (.cells #[.bool true, .bool true, .bool false, .bool true, .bool true, .bool true, .bool true, .bool false, .bool false, .bool true] 4)
  obtain ⟨L, hLe⟩ : ∃ L : List Bool, L = [true, true, false, true, true, true, true, false, false, true] := ⟨_, rfl⟩
  have hLl : L.length = 10 := by rw [hLe]; rfl
  rw [← hLe] at hL
  clear hLe
  generalize W1.alloc (.cells #[.bool true, .bool true, .bool false, .bool true, .bool true, .bool true, .bool true, .bool false, .bool false, .bool true] 4) = W2 at *
  have hE2 := hE.below hb2
  have hb := below_step hb1 hb2
  obtain ⟨x1, hx1⟩ : ∃ x, x = w.heap.size := ⟨_, rfl⟩
  obtain ⟨x2, hx2⟩ : ∃ x, x = W1.heap.size := ⟨_, rfl⟩
  have hbW : ∀ wz, Below W2.heap.size W2 wz → Below w.heap.size w wz := fun wz h => below_step hb h
  have Hn := Lib.hid hbW
  rw [← hx1] at hE hE2 ⊢
  rw [← hx2] at hL ⊢
  clear hx1 hx2 hE hb1 hb2 hz1 hbW
  have HP : Hid (∀ (wz : World), Below W2.heap.size W2 wz → ∀ n : Int, Calls Try.prog 3 #[.int .i64 n, .slice (some ⟨x2, 0, none⟩) 10 10] wz fun e w' => e = .returned (.bool true) ∧ Below wz.heap.size wz w') := Lib.hid fun wz hz n => by
    have := plays_any n (some ⟨x2, 0, none⟩) 10 L wz (by rw [hLl]; exact hL.below hz)
    rw [hLl] at this
    exact this
  have HC : Hid (∀ (wz : World) (j : Nat) (hj : j < E.length), Below W2.heap.size W2 wz → wz.cell? ⟨x1, 0 + j, none⟩ = some (.int .i64 E[j])) := Lib.hid fun wz j hj hz => hE2.cellAt (by omega) (iv_get .i64 E j hj) hz
  have HN : Hid (∀ (wz : World) (n : Int), Calls Try.prog 3 #[.int .i64 n, .slice none 0 0] wz fun e w' => e = .returned (.bool true) ∧ Below wz.heap.size wz w') := Lib.hid fun wz n => plays_any n none 0 [] wz (.inl (.inl ⟨rfl, rfl⟩))
  clear hL hE2 hLl
  have HB := Lib.hid hb
  clear hb
  go_loopw [3] (fun i wr => ∃ k : Nat, k ≤ 9 ∧ i = .int .i64 k ∧ Below W2.heap.size W2 wr) (fun i _ => 9 - (intOf i).toNat)
  case atStart => exact ⟨0, by omega, rfl, Below.refl _ _⟩
  case round =>
    obtain ⟨k, hk, rfl, hz⟩ := hrel
    by_cases hk9 : k < 9
    · have hcj := HC.out wr k (by omega) hz
      rw [Nat.zero_add] at hcj
      generalize E[k] = ek at *
      go_wp2_with fail
      refine (HP.out _ hz _).mono ?_
      rintro r0 w3 ⟨rfl, hb3⟩
      have hz3 := below_step hz hb3
      have hcj3 := (World.cell?_of_block (a := ⟨x1, k, none⟩) (hb3.block x1 (World.block_lt_of_cell? _ _ hcj))).trans hcj
      clear hb3 hcj hz
      go_wp2_with fail
      refine (HN.out _ _).mono ?_
      rintro r0 w4 ⟨rfl, hb4⟩
      have hz4 := below_step hz3 hb4
      clear hb4 hcj3 hz3
      go_wp2_with fail
      go_roundw
      case rel => exact ⟨k + 1, by omega, by go_num, hz4⟩
      case measure => simp [intOf]; omega
    · go_wp2_with fail
      clear HP HC HN
      go_loopw [4, 5] (fun v i wz => ∃ k : Nat, k ≤ 2 ∧ i = .int .i64 k ∧ Nn wz v ∧ Below W2.heap.size W2 wz) (fun _ i _ => 2 - (intOf i).toNat)
      case atStart => exact ⟨0, by omega, rfl, .inl rfl, hz⟩
      case round =>
        obtain ⟨j, hj, rfl, hnn, hy⟩ := hrel
        have HNn := Lib.hid hnn
        clear hnn hz
        by_cases hj2 : j < 2
        · go_wp2_with (first | (go_at_call 12; refine (nn_reset _ _ HNn.out).mono ?_; rintro r0 w1 ⟨⟨x5, rfl⟩, rfl⟩) | (go_at_call 10; refine (nn_tick _ _ HNn.out).mono ?_; rintro r0 w1 ⟨rfl, rfl⟩) | (go_at_call 14; refine (nn_left _ _ HNn.out).mono ?_; rintro r0 w1 ⟨rfl, rfl⟩) | (go_at_call 16; refine (nn_limit _ _ HNn.out).mono ?_; rintro r0 w1 ⟨rfl, rfl⟩))
          go_roundw
          case rel => exact ⟨j + 1, by omega, by go_num, .inr ⟨_, rfl, heap_alloc_new _ _⟩, below_alloc hy _⟩
          case measure => simp [intOf]; omega
        · go_wp2_with fail
          refine (works_any _).mono ?_
          rintro r0 w4 ⟨rfl, hb4⟩
          have hy4 := below_step hy hb4
          clear hb4 hy
          go_wp2_with fail
          refine (late_walk 0 (some ⟨w4.heap.size, 0, none⟩) 3 [10, 0, 10] _ (sl_lit w4 _ _ (by decide))).mono ?_
          rintro r0 w5 ⟨rfl, hb5⟩
          have hy5 := below_step (below_alloc hy4 _) hb5
          clear hb5 hy4
          go_wp2_with fail
          refine (late_walk 999 (some ⟨w5.heap.size, 0, none⟩) 3 [1999, 999, 1000] _ (sl_lit w5 _ _ (by decide))).mono ?_
          rintro r0 w6 ⟨rfl, hb6⟩
          have hy6 := below_step (below_alloc hy5 _) hb6
          clear hb6 hy5
          go_wp2_with fail
          go_ret
          exact ⟨rfl, Hn.out _ hy6⟩
end Go.Proofs.Ytbiohldgcdfafaa
