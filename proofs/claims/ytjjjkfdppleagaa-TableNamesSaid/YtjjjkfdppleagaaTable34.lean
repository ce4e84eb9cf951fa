/- Both ends; tables that are none. -/
import Derived.Test.YtjjjkfdppleagaaTable33
import Derived.Test.YtjjjkfdppleagaaTable17
namespace Go.Proofs.Ytjjjkfdppleagaa
open Go Go.RowKit
set_option linter.unusedVariables false
set_option linter.unusedSimpArgs false
theorem Sep.badAt {w0 w : World} {b : Nat} {t : TypeId} {L : List Thing} (h : Sep w0 (Cl b (sixes BAD).toArray t :: L) w) (k : Nat) (hk : k < BAD.length) :
    w.cell? ⟨b, k * 6, none⟩ = some (.int .i64 BAD[k].c) ∧ w.cell? ⟨b, k * 6 + 1, none⟩ = some (.int .i64 BAD[k].n) ∧ w.cell? ⟨b, k * 6 + 2, none⟩ = some (.int .i64 BAD[k].o) ∧ w.cell? ⟨b, k * 6 + 3, none⟩ = some (.int .i64 BAD[k].k) ∧ w.cell? ⟨b, k * 6 + 4, none⟩ = some (.int .i64 BAD[k].a) ∧ w.cell? ⟨b, k * 6 + 5, none⟩ = some (.int .i64 BAD[k].b) := by
  have q : ∀ j v, j < 6 → (BAD[k]).six[j]? = some v → w.cell? ⟨b, k * 6 + j, none⟩ = some v := fun j v hj hv => h.cell (by rw [List.getElem?_toArray, sixes_get BAD k hk j hj, hv])
  exact ⟨q 0 _ (by omega) rfl, q 1 _ (by omega) rfl, q 2 _ (by omega) rfl, q 3 _ (by omega) rfl, q 4 _ (by omega) rfl, q 5 _ (by omega) rfl⟩
theorem Sep.oddAt {w0 w : World} {b : Nat} {t : TypeId} {L : List Thing} (h : Sep w0 (Cl b (seatCells ODD).toArray t :: L) w) (k : Nat) (hk : k < ODD.length) :
    w.cell? ⟨b, k * 7, none⟩ = some (.bool ODD[k].had) ∧ w.cell? ⟨b, k * 7 + 1, none⟩ = some (.int .i64 ODD[k].c) ∧ w.cell? ⟨b, k * 7 + 2, none⟩ = some (.int .i64 ODD[k].n) ∧ w.cell? ⟨b, k * 7 + 3, none⟩ = some (.int .i64 ODD[k].o) ∧ w.cell? ⟨b, k * 7 + 4, none⟩ = some (.int .i64 ODD[k].k) ∧ w.cell? ⟨b, k * 7 + 5, none⟩ = some (.int .i64 ODD[k].a) ∧ w.cell? ⟨b, k * 7 + 6, none⟩ = some (.int .i64 ODD[k].b) := by
  have q : ∀ j v, j < 7 → (ODD[k]).cells[j]? = some v → w.cell? ⟨b, k * 7 + j, none⟩ = some v := fun j v hj hv => h.cell (by rw [List.getElem?_toArray, seatCells_get ODD k j hk hj, hv])
  exact ⟨q 0 _ (by omega) rfl, q 1 _ (by omega) rfl, q 2 _ (by omega) rfl, q 3 _ (by omega) rfl, q 4 _ (by omega) rfl, q 5 _ (by omega) rfl, q 6 _ (by omega) rfl⟩
theorem builtZ : Try.prog.built 73 [] = some Z57 := by kernel_rfl
theorem Sep.slLit {w0 w : World} {b : Nat} {t : TypeId} {L : List Thing} (l : List UInt8) (hl0 : l.length ≤ 1000000) (h : Sep w0 (Cl b (bv l).toArray t :: L) w) : Sl w (.slice (some ⟨b, 0, none⟩) l.length l.length) (bv l) :=
  .inl (.inr ⟨b, 0, l.length, by rw [bv_length], by rw [bv_length]; exact Nat.le_refl _, by unfold maxLen; omega, h.blk_lt.2, fun j u hj => by rw [Nat.zero_add]; exact h.cell (by rw [List.getElem?_toArray]; exact hj)⟩)

set_option maxRecDepth 100000 in
set_option maxHeartbeats 0 in
theorem names_any (w : World) : Calls Try.prog 8 #[] w fun e w' => e = .returned (.bool true) ∧ Below w.heap.size w w' := by
  have HN := Lib.hid (tnew_any (Sep.start w))
  go_enter Try.func8, Try.ntmps8
  (try dsimp only); repeat' (first | go_values | go_skip | go_guarded | go_step | go_upon | go_back)
  refine HN.out.mono ?_
  rintro r0 w1 ⟨g, rfl, h1⟩
  clear HN
  (try dsimp only); repeat' (first | (with_reducible show wpList _ _ _ (Oper.mk _ (Op.buildSlice _ _ _) _ _ _ _ :: _) _ _; refine stop ?_) | go_values | go_skip | go_guarded | go_step | go_upon | go_back)
  unfold Stop
  rw [← tabAt_0] at h1
  have h2 : Sep w [Cl w1.heap.size (sixes BAD).toArray 31, TabT g (tabAt 0)] (w1.alloc (.cells (sixes BAD).toArray 31)) := Sep.alloc h1 (.cells (sixes BAD).toArray 31)
  obtain ⟨b1, hb1⟩ : ∃ z, z = w1.heap.size := ⟨_, rfl⟩
  obtain ⟨w2, hw2⟩ : ∃ z, z = w1.alloc (.cells (sixes BAD).toArray 31) := ⟨_, rfl⟩
  rw [← hb1, ← hw2] at h2
  have H2 := Lib.hid h2
  clear h1 h2
  refine wpList_buildBad rfl _ _ _ _ _ _ _ _ rfl rfl rfl rfl rfl rfl rfl rfl rfl (l := (sixes BAD).toArray) (by kernel_rfl) ?_
  rw [← hw2, ← hb1]
  clear hb1 hw2
  (try dsimp only); repeat' (first | go_values | go_skip | go_guarded | go_step | go_upon | go_back)

  go_loopw [3] (fun i wr => ∃ k : Nat, k ≤ 8 ∧ i = .int .i64 k ∧ Sep w [Cl b1 (sixes BAD).toArray 31, TabT g (tabAt 0)] wr) (fun i _ => 8 - (intOf i).toNat)
  case atStart => exact ⟨0, by omega, rfl, H2.out⟩
  case round =>
    obtain ⟨k, hk, rfl, hs⟩ := hrel
    clear H2
    have k0 : (0 : Int) ≤ (k : Int) := by omega
    by_cases hk8 : k < 8
    · as_aux_lemma =>
        have d0 : decide ((k : Int) < 8) = true := decide_eq_true (by omega)
        have d1 : decide (k < 8) = true := decide_eq_true (by omega)
        have k9 : (k : Int) < 8 := by omega
        have hkB : k < BAD.length := hk8
        obtain ⟨c0, c1, c2, c3, c4, c5⟩ := hs.badAt k hkB
        have hok := bad_all k hkB
        generalize BAD[k]'hkB = s at c0 c1 c2 c3 c4 c5 hok
        have HP := Lib.hid (put_bad s.c s.n s.o s.k s.a s.b hs.sw2 (tabAt_len 0) hok)
        have HK := Lib.hid hk8
        clear hk hok hs hkB
        (try dsimp only); repeat' (first | go_values | go_skip | go_guarded | go_step | go_upon | go_back)
        refine HP.out.mono ?_
        rintro r1 w3 ⟨rfl, h3⟩
        clear HP c0 c1 c2 c3 c4 c5
        have H4 := Lib.hid (Sep.alloc h3.sw2 (.cells #[.bool false, .int .i64 0, .int .i64 0, .int .i64 0, .int .i64 0, .int .i64 0, .int .i64 0] 33)).drop
        clear h3
        (try dsimp only); repeat' (first | go_values | go_skip | go_guarded | go_step | go_upon | go_back)
        go_roundw
        case rel => exact ⟨k + 1, HK.out, by go_num, H4.out⟩
        case measure => have := HK.out; simp [intOf]; omega
    · obtain rfl : k = 8 := by omega
      rw [show ((8 : Nat) : Int) = 8 from rfl]
      have d0 : decide ((8 : Int) < 8) = false := rfl
      have H5 := Lib.hid hs.drop
      clear hs hk hk8
      (try dsimp only); repeat' (first | go_values | go_skip | go_guarded | go_step | go_upon | go_back)

      clear d0 k0
      go_loopw [6] (fun i wr => ∃ k : Nat, k ≤ 8 ∧ i = .int .i64 k ∧ Sep w [TabT g (tabAt k)] wr) (fun i _ => 8 - (intOf i).toNat)
      case atStart => exact ⟨0, by omega, rfl, H5.out⟩
      case round =>
        obtain ⟨k, hk, rfl, hs⟩ := hrel
        clear H5
        have k0 : (0 : Int) ≤ (k : Int) := by omega
        by_cases hk8 : k < 8
        · have d0 : decide ((k : Int) < 8) = true := decide_eq_true (by omega)
          have k9 : (k : Int) < 8 := by omega
          by_cases hk6 : k < 6
          · as_aux_lemma =>
              have d6 : decide ((k : Int) < 6) = true := decide_eq_true (by omega)
              obtain ⟨p1, p2, p3⟩ := tabAt_put k hk6
              have hp := put_new k 2147483647 9007199254740991 6 2147483647 2147483647 hs (tabAt_len k) SW.zero p1 (full_ok k hk8) p2
              rw [p3] at hp
              dsimp only [SW.zero] at hp
              have HP := Lib.hid hp
              have HK := Lib.hid hk8
              clear hk hk6 hs p1 p2 p3 hp
              (try dsimp only); repeat' (first | (with_reducible show wpList _ _ _ (Oper.mk _ (Op.build _ _) _ _ _ _ :: _) _ _; refine stop ?_) | go_values | go_skip | go_guarded | go_step | go_upon | go_back)
              unfold Stop
              refine wpList_build_run rfl 29 #[(0, .const (.int .i64 6)), (1, .const (.int .i64 2147483647)), (2, .const (.int .i64 2147483647))] rfl _ (by rw [Array.toList_map]; exact built3 _ _ _) ?_
              (try dsimp only); repeat' (first | (with_reducible show wpList _ _ _ (Oper.mk _ (Op.build _ _) _ _ _ _ :: _) _ _; refine stop ?_) | go_values | go_skip | go_guarded | go_step | go_upon | go_back)
              unfold Stop
              refine wpList_build_run rfl 31 #[(0, .tmp 60), (1, .const (.int .i64 2147483647)), (2, .const (.int .i64 9007199254740991)), (3, .tmp 61)] rfl _ (by rw [Array.toList_map]; exact built6 _ _ _ _ _ _) ?_
              (try dsimp only); repeat' (first | go_values | go_skip | go_guarded | go_step | go_upon | go_back)
              refine HP.out.mono ?_
              rintro r1 w3 ⟨rfl, h3⟩
              clear HP
              have H4 := Lib.hid (Sep.alloc h3 (.cells #[.bool false, .int .i64 0, .int .i64 0, .int .i64 0, .int .i64 0, .int .i64 0, .int .i64 0] 33)).drop
              clear h3
              (try dsimp only); repeat' (first | go_values | go_skip | go_guarded | go_step | go_upon | go_back)
              go_roundw
              case rel => exact ⟨k + 1, HK.out, by go_num, H4.out⟩
              case measure => have := HK.out; simp [intOf]; omega
          · as_aux_lemma =>
              have d6 : decide ((k : Int) < 6) = false := decide_eq_false (by omega)
              obtain ⟨p1, p2⟩ := tabAt_full k hk8 (by omega)
              have hp := put_full k 2147483647 9007199254740991 6 2147483647 2147483647 hs (tabAt_len k) (full_ok k hk8) p1
              rw [p2] at hp
              have HP := Lib.hid hp
              have HK := Lib.hid hk8
              clear hk hk6 hs p1 p2 hp
              (try dsimp only); repeat' (first | (with_reducible show wpList _ _ _ (Oper.mk _ (Op.build _ _) _ _ _ _ :: _) _ _; refine stop ?_) | go_values | go_skip | go_guarded | go_step | go_upon | go_back)
              unfold Stop
              refine wpList_build_run rfl 29 #[(0, .const (.int .i64 6)), (1, .const (.int .i64 2147483647)), (2, .const (.int .i64 2147483647))] rfl _ (by rw [Array.toList_map]; exact built3 _ _ _) ?_
              (try dsimp only); repeat' (first | (with_reducible show wpList _ _ _ (Oper.mk _ (Op.build _ _) _ _ _ _ :: _) _ _; refine stop ?_) | go_values | go_skip | go_guarded | go_step | go_upon | go_back)
              unfold Stop
              refine wpList_build_run rfl 31 #[(0, .tmp 60), (1, .const (.int .i64 2147483647)), (2, .const (.int .i64 9007199254740991)), (3, .tmp 61)] rfl _ (by rw [Array.toList_map]; exact built6 _ _ _ _ _ _) ?_
              (try dsimp only); repeat' (first | go_values | go_skip | go_guarded | go_step | go_upon | go_back)
              refine HP.out.mono ?_
              rintro r1 w3 ⟨rfl, h3⟩
              clear HP
              have H4 := Lib.hid (Sep.alloc h3 (.cells #[.bool false, .int .i64 0, .int .i64 0, .int .i64 0, .int .i64 0, .int .i64 0, .int .i64 0] 33)).drop
              clear h3
              (try dsimp only); repeat' (first | go_values | go_skip | go_guarded | go_step | go_upon | go_back)
              go_roundw
              case rel => exact ⟨k + 1, HK.out, by go_num, H4.out⟩
              case measure => have := HK.out; simp [intOf]; omega
        · obtain rfl : k = 8 := by omega
          rw [show ((8 : Nat) : Int) = 8 from rfl]
          have d0 : decide ((8 : Int) < 8) = false := rfl
          have H5 := Lib.hid hs
          clear hs hk hk8
          (try dsimp only); repeat' (first | (with_reducible show wpList _ _ _ (Oper.mk _ (Op.buildSlice _ _ _) _ _ _ _ :: _) _ _; refine stop ?_) | go_values | go_skip | go_guarded | go_step | go_upon | go_back)
          unfold Stop
          have h2 : Sep w [Cl wr.heap.size (seatCells ODD).toArray 33, TabT g T8] (wr.alloc (.cells (seatCells ODD).toArray 33)) := Sep.alloc H5.out (.cells (seatCells ODD).toArray 33)
          obtain ⟨b2, hb2⟩ : ∃ z, z = wr.heap.size := ⟨_, rfl⟩
          obtain ⟨w2, hw2⟩ : ∃ z, z = wr.alloc (.cells (seatCells ODD).toArray 33) := ⟨_, rfl⟩
          rw [← hb2, ← hw2] at h2
          have H2 := Lib.hid h2
          clear h2 H5
          refine wpList_buildOdd rfl _ _ _ _ rfl rfl rfl rfl rfl (l := (seatCells ODD).toArray) (by kernel_rfl) ?_
          rw [← hw2, ← hb2]
          clear hb2 hw2 d0 k0
          (try dsimp only); repeat' (first | go_values | go_skip | go_guarded | go_step | go_upon | go_back)
          go_loopw [10] (fun i wr => ∃ k : Nat, k ≤ 4 ∧ i = .int .i64 k ∧ Sep w [Cl b2 (seatCells ODD).toArray 33, TabT g T8] wr) (fun i _ => 4 - (intOf i).toNat)
          case atStart => exact ⟨0, by omega, rfl, H2.out⟩
          case round =>
            obtain ⟨k, hk, rfl, hs⟩ := hrel
            clear H2
            have k0 : (0 : Int) ≤ (k : Int) := by omega
            by_cases hk8 : k < 4
            · as_aux_lemma =>
                have d0 : decide ((k : Int) < 4) = true := decide_eq_true (by omega)
                have d1 : decide (k < 4) = true := decide_eq_true (by omega)
                have k9 : (k : Int) < 4 := by omega
                have hkB : k < ODD.length := hk8
                obtain ⟨c0, c1, c2, c3, c4, c5, c6⟩ := hs.oddAt k hkB
                have hok := odd_all k hkB
                generalize ODD[k]'hkB = s at c0 c1 c2 c3 c4 c5 c6 hok
                have HP := Lib.hid (back_bad 0 had8 s hs.sw2 (tabAt_len 8) hok)
                have HK := Lib.hid hk8
                clear hk hok hs hkB
                (try dsimp only); repeat' (first | go_values | go_skip | go_guarded | go_step | go_upon | go_back)
                refine HP.out.mono ?_
                rintro r1 w3 ⟨rfl, h3⟩
                clear HP c0 c1 c2 c3 c4 c5 c6
                have H4 := Lib.hid h3.sw2
                clear h3
                (try dsimp only); repeat' (first | go_values | go_skip | go_guarded | go_step | go_upon | go_back)
                go_roundw
                case rel => exact ⟨k + 1, HK.out, by go_num, H4.out⟩
                case measure => have := HK.out; simp [intOf]; omega
            · obtain rfl : k = 4 := by omega
              rw [show ((4 : Nat) : Int) = 4 from rfl]
              have d0 : decide ((4 : Int) < 4) = false := rfl
              have HB1 := Lib.hid (back_none 6 had8_6 SW.zero hs.drop (tabAt_len 8))
              dsimp only [SW.zero] at HB1
              clear hs hk hk8
              (try dsimp only); repeat' (first | go_values | go_skip | go_guarded | go_step | go_upon | go_back)
              refine HB1.out.mono ?_
              rintro r1 w3 ⟨rfl, h3⟩
              have HB2 := Lib.hid (back_none (-1) had8_m SW.zero h3 (tabAt_len 8))
              dsimp only [SW.zero] at HB2
              clear HB1 h3 d0 k0
              (try dsimp only); repeat' (first | go_values | go_skip | go_guarded | go_step | go_upon | go_back)
              refine HB2.out.mono ?_
              rintro r2 w4 ⟨rfl, h4⟩
              have hb3 := back_ok 5 (fullS 5) prec9.1 prec9.2.1 SW.zero h4 (tabAt_len 8) prec9.2.2
              rw [show ((5 : Nat) : Int) = 5 from rfl] at hb3
              dsimp only [SW.zero] at hb3
              have HB3 := Lib.hid hb3
              clear HB2 h4 hb3
              (try dsimp only); repeat' (first | go_values | go_skip | go_guarded | go_step | go_upon | go_back)
              refine HB3.out.mono ?_
              rintro r3 w5 ⟨rfl, h5⟩
              have h5 : Sep w [TabT g T9] w5 := h5
              have hl := len_any h5 (by rfl)
              rw [len9] at hl
              rw [show ((5 : Nat) : Int) = 5 from rfl] at hl
              have HL := Lib.hid hl
              clear HB3 h5 hl
              (try dsimp only); repeat' (first | go_values | go_skip | go_guarded | go_step | go_upon | go_back)
              refine HL.out.mono ?_
              rintro r4 w6 ⟨rfl, h6⟩
              have hj := judge_any 7 1 h6 (by rfl)
              rw [judge9] at hj
              have HJ := Lib.hid hj
              clear HL h6 hj
              (try dsimp only); repeat' (first | go_values | go_skip | go_guarded | go_step | go_upon | go_back)
              refine HJ.out.mono ?_
              rintro r5 w7 ⟨rfl, h7⟩
              have HB := Lib.hid h7.low
              clear HJ h7
              (try dsimp only); repeat' (first | (with_reducible show wpList _ _ _ (Oper.mk _ (Op.buildSlice _ _ _) _ _ _ _ :: _) _ _; refine stop ?_) | go_values | go_skip | go_guarded | go_step | go_upon | go_back)
              unfold Stop
              have g0 := Sep.start w7
              have g1 := Sep.alloc g0 (.cells (bv [7]).toArray 5)
              obtain ⟨c1, hc⟩ : ∃ z, z = w7.heap.size := ⟨_, rfl⟩
              obtain ⟨v1, hv⟩ : ∃ z, z = w7.alloc (.cells (bv [7]).toArray 5) := ⟨_, rfl⟩
              rw [← hc, ← hv] at g1
              refine wpList_buildB1 rfl _ rfl rfl (l := (bv [7]).toArray) (by kernel_rfl) ?_
              rw [← hv, ← hc]
              have G1 := Lib.hid g1
              clear hv hc g0
              clear G1
              (try dsimp only); repeat' (first | (with_reducible show wpList _ _ _ (Oper.mk _ (Op.buildSlice _ _ _) _ _ _ _ :: _) _ _; refine stop ?_) | go_values | go_skip | go_guarded | go_step | go_upon | go_back)
              unfold Stop
              have g2 := Sep.alloc g1 (.cells (bv [1]).toArray 5)
              obtain ⟨c2, hc⟩ : ∃ z, z = v1.heap.size := ⟨_, rfl⟩
              obtain ⟨v2, hv⟩ : ∃ z, z = v1.alloc (.cells (bv [1]).toArray 5) := ⟨_, rfl⟩
              rw [← hc, ← hv] at g2
              refine wpList_buildB1 rfl _ rfl rfl (l := (bv [1]).toArray) (by kernel_rfl) ?_
              rw [← hv, ← hc]
              have G2 := Lib.hid g2
              clear hv hc g1
              clear G2
              (try dsimp only); repeat' (first | (with_reducible show wpList _ _ _ (Oper.mk _ (Op.buildSlice _ _ _) _ _ _ _ :: _) _ _; refine stop ?_) | go_values | go_skip | go_guarded | go_step | go_upon | go_back)
              unfold Stop
              have g3 := Sep.alloc g2 (.cells (bv [1, 3, 5, 9, 3, 0, 1]).toArray 5)
              obtain ⟨c3, hc⟩ : ∃ z, z = v2.heap.size := ⟨_, rfl⟩
              obtain ⟨v3, hv⟩ : ∃ z, z = v2.alloc (.cells (bv [1, 3, 5, 9, 3, 0, 1]).toArray 5) := ⟨_, rfl⟩
              rw [← hc, ← hv] at g3
              refine wpList_buildB7 rfl _ _ _ _ _ _ _ rfl rfl rfl rfl rfl rfl rfl rfl (l := (bv [1, 3, 5, 9, 3, 0, 1]).toArray) (by kernel_rfl) ?_
              rw [← hv, ← hc]
              have G3 := Lib.hid g3
              clear hv hc g2
              clear G3
              (try dsimp only); repeat' (first | (with_reducible show wpList _ _ _ (Oper.mk _ (Op.buildSlice _ _ _) _ _ _ _ :: _) _ _; refine stop ?_) | go_values | go_skip | go_guarded | go_step | go_upon | go_back)
              unfold Stop
              have g4 := Sep.alloc g3 (.cells (bv [1, 3, 5, 9, 4, 0, 1, 2, 0]).toArray 5)
              obtain ⟨c4, hc⟩ : ∃ z, z = v3.heap.size := ⟨_, rfl⟩
              obtain ⟨v4, hv⟩ : ∃ z, z = v3.alloc (.cells (bv [1, 3, 5, 9, 4, 0, 1, 2, 0]).toArray 5) := ⟨_, rfl⟩
              rw [← hc, ← hv] at g4
              refine wpList_buildB9 rfl _ _ _ _ _ _ _ _ _ rfl rfl rfl rfl rfl rfl rfl rfl rfl rfl (l := (bv [1, 3, 5, 9, 4, 0, 1, 2, 0]).toArray) (by kernel_rfl) ?_
              rw [← hv, ← hc]
              have G4 := Lib.hid g4
              clear hv hc g3
              clear G4
              (try dsimp only); repeat' (first | (with_reducible show wpList _ _ _ (Oper.mk _ (Op.buildSlice _ _ _) _ _ _ _ :: _) _ _; refine stop ?_) | go_values | go_skip | go_guarded | go_step | go_upon | go_back)
              unfold Stop
              have g5 := Sep.alloc g4 (.cells (bv [1, 8, 5, 9, 3, 0, 1, 2]).toArray 5)
              obtain ⟨c5, hc⟩ : ∃ z, z = v4.heap.size := ⟨_, rfl⟩
              obtain ⟨v5, hv⟩ : ∃ z, z = v4.alloc (.cells (bv [1, 8, 5, 9, 3, 0, 1, 2]).toArray 5) := ⟨_, rfl⟩
              rw [← hc, ← hv] at g5
              refine wpList_build8 rfl _ _ _ _ _ _ _ _ rfl rfl rfl rfl rfl rfl rfl rfl rfl (l := (bv [1, 8, 5, 9, 3, 0, 1, 2]).toArray) (by kernel_rfl) ?_
              rw [← hv, ← hc]
              have G5 := Lib.hid g5
              clear hv hc g4
              clear G5
              (try dsimp only); repeat' (first | (with_reducible show wpList _ _ _ (Oper.mk _ (Op.buildSlice _ _ _) _ _ _ _ :: _) _ _; refine stop ?_) | go_values | go_skip | go_guarded | go_step | go_upon | go_back)
              unfold Stop
              have g6 := Sep.alloc g5 (.cells (bv [0, 0]).toArray 5)
              obtain ⟨c6, hc⟩ : ∃ z, z = v5.heap.size := ⟨_, rfl⟩
              obtain ⟨v6, hv⟩ : ∃ z, z = v5.alloc (.cells (bv [0, 0]).toArray 5) := ⟨_, rfl⟩
              rw [← hc, ← hv] at g6
              refine wpList_buildB2 rfl _ _ rfl rfl rfl (l := (bv [0, 0]).toArray) (by kernel_rfl) ?_
              rw [← hv, ← hc]
              have G6 := Lib.hid g6
              clear hv hc g5
              clear G6
              (try dsimp only); repeat' (first | (with_reducible show wpList _ _ _ (Oper.mk _ (Op.buildSlice _ _ _) _ _ _ _ :: _) _ _; refine stop ?_) | go_values | go_skip | go_guarded | go_step | go_upon | go_back)
              unfold Stop
              have g7 := Sep.alloc g6 (.cells (bv [2, 3, 5, 9, 3, 0, 1, 2, 3, 6, 9, 3, 0, 1, 2]).toArray 5)
              obtain ⟨c7, hc⟩ : ∃ z, z = v6.heap.size := ⟨_, rfl⟩
              obtain ⟨v7, hv⟩ : ∃ z, z = v6.alloc (.cells (bv [2, 3, 5, 9, 3, 0, 1, 2, 3, 6, 9, 3, 0, 1, 2]).toArray 5) := ⟨_, rfl⟩
              rw [← hc, ← hv] at g7
              refine wpList_buildB15 rfl _ _ _ _ _ _ _ _ _ _ _ _ _ _ _ rfl rfl rfl rfl rfl rfl rfl rfl rfl rfl rfl rfl rfl rfl rfl rfl (l := (bv [2, 3, 5, 9, 3, 0, 1, 2, 3, 6, 9, 3, 0, 1, 2]).toArray) (by kernel_rfl) ?_
              rw [← hv, ← hc]
              have G7 := Lib.hid g7
              clear hv hc g6
              clear G7
              (try dsimp only); repeat' (first | (with_reducible show wpList _ _ _ (Oper.mk _ (Op.buildSlice _ _ _) _ _ _ _ :: _) _ _; refine stop ?_) | go_values | go_skip | go_guarded | go_step | go_upon | go_back)
              unfold Stop
              have g8 := Sep.alloc g7 (.cells (bv [1, 3, 5, 9, 3, 9, 1, 2]).toArray 5)
              obtain ⟨c8, hc⟩ : ∃ z, z = v7.heap.size := ⟨_, rfl⟩
              obtain ⟨v8, hv⟩ : ∃ z, z = v7.alloc (.cells (bv [1, 3, 5, 9, 3, 9, 1, 2]).toArray 5) := ⟨_, rfl⟩
              rw [← hc, ← hv] at g8
              refine wpList_build8 rfl _ _ _ _ _ _ _ _ rfl rfl rfl rfl rfl rfl rfl rfl rfl (l := (bv [1, 3, 5, 9, 3, 9, 1, 2]).toArray) (by kernel_rfl) ?_
              rw [← hv, ← hc]
              have G8 := Lib.hid g8
              clear hv hc g7
              clear G8
              (try dsimp only); repeat' (first | (with_reducible show wpList _ _ _ (Oper.mk _ (Op.buildSlice _ _ _) _ _ _ _ :: _) _ _; refine stop ?_) | go_values | go_skip | go_guarded | go_step | go_upon | go_back)
              unfold Stop
              have g9 := Sep.alloc g8 (.cells (bv [0]).toArray 5)
              obtain ⟨c9, hc⟩ : ∃ z, z = v8.heap.size := ⟨_, rfl⟩
              obtain ⟨v9, hv⟩ : ∃ z, z = v8.alloc (.cells (bv [0]).toArray 5) := ⟨_, rfl⟩
              rw [← hc, ← hv] at g9
              refine wpList_buildB1 rfl _ rfl rfl (l := (bv [0]).toArray) (by kernel_rfl) ?_
              rw [← hv, ← hc]
              have G9 := Lib.hid g9
              clear hv hc g8
              clear G9
              (try dsimp only); repeat' (first | (with_reducible show wpList _ _ _ (Oper.mk _ (Op.buildSlice _ _ _) _ _ _ _ :: _) _ _; refine stop ?_) | go_values | go_skip | go_guarded | go_step | go_upon | go_back)
              unfold Stop
              have g10 := Sep.alloc g9 (.cells #[.slice none 0 0, .slice (some ⟨c1, 0, none⟩) 1 1, .slice (some ⟨c2, 0, none⟩) 1 1, .slice (some ⟨c3, 0, none⟩) 7 7, .slice (some ⟨c4, 0, none⟩) 9 9, .slice (some ⟨c5, 0, none⟩) 8 8, .slice (some ⟨c6, 0, none⟩) 2 2, .slice (some ⟨c7, 0, none⟩) 15 15, .slice (some ⟨c8, 0, none⟩) 8 8, .slice (some ⟨c9, 0, none⟩) 1 1] 52)
              obtain ⟨bR, hc⟩ : ∃ z, z = v9.heap.size := ⟨_, rfl⟩
              obtain ⟨v10, hv⟩ : ∃ z, z = v9.alloc (.cells #[.slice none 0 0, .slice (some ⟨c1, 0, none⟩) 1 1, .slice (some ⟨c2, 0, none⟩) 1 1, .slice (some ⟨c3, 0, none⟩) 7 7, .slice (some ⟨c4, 0, none⟩) 9 9, .slice (some ⟨c5, 0, none⟩) 8 8, .slice (some ⟨c6, 0, none⟩) 2 2, .slice (some ⟨c7, 0, none⟩) 15 15, .slice (some ⟨c8, 0, none⟩) 8 8, .slice (some ⟨c9, 0, none⟩) 1 1] 52) := ⟨_, rfl⟩
              rw [← hc, ← hv] at g10
              refine wpList_buildRows rfl _ _ _ _ _ _ _ _ _ _ rfl (by kernel_rfl) (by kernel_rfl) (by kernel_rfl) (by kernel_rfl) (by kernel_rfl) (by kernel_rfl) (by kernel_rfl) (by kernel_rfl) (by kernel_rfl) (by kernel_rfl) (a0 := none) (l0 := 0) (a1 := (some ⟨c1, 0, none⟩)) (l1 := 1) (a2 := (some ⟨c2, 0, none⟩)) (l2 := 1) (a3 := (some ⟨c3, 0, none⟩)) (l3 := 7) (a4 := (some ⟨c4, 0, none⟩)) (l4 := 9) (a5 := (some ⟨c5, 0, none⟩)) (l5 := 8) (a6 := (some ⟨c6, 0, none⟩)) (l6 := 2) (a7 := (some ⟨c7, 0, none⟩)) (l7 := 15) (a8 := (some ⟨c8, 0, none⟩)) (l8 := 8) (a9 := (some ⟨c9, 0, none⟩)) (l9 := 1) (l := #[.slice none 0 0, .slice (some ⟨c1, 0, none⟩) 1 1, .slice (some ⟨c2, 0, none⟩) 1 1, .slice (some ⟨c3, 0, none⟩) 7 7, .slice (some ⟨c4, 0, none⟩) 9 9, .slice (some ⟨c5, 0, none⟩) 8 8, .slice (some ⟨c6, 0, none⟩) 2 2, .slice (some ⟨c7, 0, none⟩) 15 15, .slice (some ⟨c8, 0, none⟩) 8 8, .slice (some ⟨c9, 0, none⟩) 1 1]) rfl ?_
              rw [← hv, ← hc]
              clear hv hc g9
              (try dsimp only); repeat' (first | (with_reducible show wpList _ _ _ (Oper.mk _ (Op.buildSlice _ _ _) _ _ _ _ :: _) _ _; refine stop ?_) | go_values | go_skip | go_guarded | go_step | go_upon | go_back)
              unfold Stop
              have g11 := Sep.alloc g10 (.cells #[.int .i64 3, .int .i64 4, .int .i64 3, .int .i64 3, .int .i64 4, .int .i64 4, .int .i64 4, .int .i64 4, .int .i64 4, .int .i64 0] 37)
              obtain ⟨bW, hc⟩ : ∃ z, z = v10.heap.size := ⟨_, rfl⟩
              obtain ⟨v11, hv⟩ : ∃ z, z = v10.alloc (.cells #[.int .i64 3, .int .i64 4, .int .i64 3, .int .i64 3, .int .i64 4, .int .i64 4, .int .i64 4, .int .i64 4, .int .i64 4, .int .i64 0] 37) := ⟨_, rfl⟩
              rw [← hc, ← hv] at g11
              refine wpList_buildWant rfl _ _ _ _ _ _ _ _ _ _ rfl rfl rfl rfl rfl rfl rfl rfl rfl rfl rfl (l := #[.int .i64 3, .int .i64 4, .int .i64 3, .int .i64 3, .int .i64 4, .int .i64 4, .int .i64 4, .int .i64 4, .int .i64 4, .int .i64 0]) rfl ?_
              rw [← hv, ← hc]
              clear hv hc g10
              have g12 : Sep w7 [Cl bW #[.int .i64 3, .int .i64 4, .int .i64 3, .int .i64 3, .int .i64 4, .int .i64 4, .int .i64 4, .int .i64 4, .int .i64 4, .int .i64 0] 37, Cl bR #[.slice none 0 0, .slice (some ⟨c1, 0, none⟩) 1 1, .slice (some ⟨c2, 0, none⟩) 1 1, .slice (some ⟨c3, 0, none⟩) 7 7, .slice (some ⟨c4, 0, none⟩) 9 9, .slice (some ⟨c5, 0, none⟩) 8 8, .slice (some ⟨c6, 0, none⟩) 2 2, .slice (some ⟨c7, 0, none⟩) 15 15, .slice (some ⟨c8, 0, none⟩) 8 8, .slice (some ⟨c9, 0, none⟩) 1 1] 52, Cl c9 (bv [0]).toArray 5, Cl c8 (bv [1, 3, 5, 9, 3, 9, 1, 2]).toArray 5, Cl c7 (bv [2, 3, 5, 9, 3, 0, 1, 2, 3, 6, 9, 3, 0, 1, 2]).toArray 5, Cl c6 (bv [0, 0]).toArray 5, Cl c5 (bv [1, 8, 5, 9, 3, 0, 1, 2]).toArray 5, Cl c4 (bv [1, 3, 5, 9, 4, 0, 1, 2, 0]).toArray 5, Cl c3 (bv [1, 3, 5, 9, 3, 0, 1]).toArray 5, Cl c2 (bv [1]).toArray 5, Cl c1 (bv [7]).toArray 5] v11 := g11
              have HW : Hid (∀ k, k < 10 → v11.cell? ⟨bW, k, none⟩ = some (.int .i64 (WANT.getD k 0))) := Lib.hid fun k hk => by
                match k, hk with
                | 0, _ => exact g12.cell (o := 0) rfl
                | 1, _ => exact g12.cell (o := 1) rfl
                | 2, _ => exact g12.cell (o := 2) rfl
                | 3, _ => exact g12.cell (o := 3) rfl
                | 4, _ => exact g12.cell (o := 4) rfl
                | 5, _ => exact g12.cell (o := 5) rfl
                | 6, _ => exact g12.cell (o := 6) rfl
                | 7, _ => exact g12.cell (o := 7) rfl
                | 8, _ => exact g12.cell (o := 8) rfl
                | 9, _ => exact g12.cell (o := 9) rfl
              have HR : Hid (∀ k, k < 10 → ∃ a n, v11.cell? ⟨bR, k, none⟩ = some (.slice a n n) ∧ Sl v11 (.slice a n n) (bv (ROWS.getD k []))) := Lib.hid fun k hk => by
                match k, hk with
                | 0, _ => exact ⟨none, 0, g12.drop.cell (o := 0) rfl, .inl (.inl ⟨rfl, rfl⟩)⟩
                | 1, _ => exact ⟨_, _, g12.drop.cell (o := 1) rfl, by
                    have h9 : Sep w7 [Cl c1 (bv [7]).toArray 5] v11 := g12.pick [10] rfl
                    exact Sep.slLit [7] (by decide) h9⟩
                | 2, _ => exact ⟨_, _, g12.drop.cell (o := 2) rfl, by
                    have h9 : Sep w7 [Cl c2 (bv [1]).toArray 5] v11 := g12.pick [9] rfl
                    exact Sep.slLit [1] (by decide) h9⟩
                | 3, _ => exact ⟨_, _, g12.drop.cell (o := 3) rfl, by
                    have h9 : Sep w7 [Cl c3 (bv [1, 3, 5, 9, 3, 0, 1]).toArray 5] v11 := g12.pick [8] rfl
                    exact Sep.slLit [1, 3, 5, 9, 3, 0, 1] (by decide) h9⟩
                | 4, _ => exact ⟨_, _, g12.drop.cell (o := 4) rfl, by
                    have h9 : Sep w7 [Cl c4 (bv [1, 3, 5, 9, 4, 0, 1, 2, 0]).toArray 5] v11 := g12.pick [7] rfl
                    exact Sep.slLit [1, 3, 5, 9, 4, 0, 1, 2, 0] (by decide) h9⟩
                | 5, _ => exact ⟨_, _, g12.drop.cell (o := 5) rfl, by
                    have h9 : Sep w7 [Cl c5 (bv [1, 8, 5, 9, 3, 0, 1, 2]).toArray 5] v11 := g12.pick [6] rfl
                    exact Sep.slLit [1, 8, 5, 9, 3, 0, 1, 2] (by decide) h9⟩
                | 6, _ => exact ⟨_, _, g12.drop.cell (o := 6) rfl, by
                    have h9 : Sep w7 [Cl c6 (bv [0, 0]).toArray 5] v11 := g12.pick [5] rfl
                    exact Sep.slLit [0, 0] (by decide) h9⟩
                | 7, _ => exact ⟨_, _, g12.drop.cell (o := 7) rfl, by
                    have h9 : Sep w7 [Cl c7 (bv [2, 3, 5, 9, 3, 0, 1, 2, 3, 6, 9, 3, 0, 1, 2]).toArray 5] v11 := g12.pick [4] rfl
                    exact Sep.slLit [2, 3, 5, 9, 3, 0, 1, 2, 3, 6, 9, 3, 0, 1, 2] (by decide) h9⟩
                | 8, _ => exact ⟨_, _, g12.drop.cell (o := 8) rfl, by
                    have h9 : Sep w7 [Cl c8 (bv [1, 3, 5, 9, 3, 9, 1, 2]).toArray 5] v11 := g12.pick [3] rfl
                    exact Sep.slLit [1, 3, 5, 9, 3, 9, 1, 2] (by decide) h9⟩
                | 9, _ => exact ⟨_, _, g12.drop.cell (o := 9) rfl, by
                    have h9 : Sep w7 [Cl c9 (bv [0]).toArray 5] v11 := g12.pick [2] rfl
                    exact Sep.slLit [0] (by decide) h9⟩
              have bRl := g12.drop.blk_lt.2
              have bWl := g12.blk_lt.2
              have HB11 : Hid (Below w.heap.size w v11) := Lib.hid (HB.out.trans (g12.low.mono HB.out.size))
              clear g11 g12 HB
              (try dsimp only); repeat' (first | go_values | go_skip | go_guarded | go_step | go_upon | go_back)
              go_loopw [14] (fun i wr => ∃ k : Nat, k ≤ 10 ∧ i = .int .i64 k ∧ Below v11.heap.size v11 wr) (fun i _ => 10 - (intOf i).toNat)
              case atStart => exact ⟨0, by omega, rfl, Below.refl _ _⟩
              case round =>
                obtain ⟨k, hk, rfl, hs⟩ := hrel
                have k0 : (0 : Int) ≤ (k : Int) := by omega
                by_cases hk8 : k < 10
                · as_aux_lemma =>
                    have d0 : decide ((k : Int) < 10) = true := decide_eq_true (by omega)
                    have d1 : decide (k < 10) = true := decide_eq_true (by omega)
                    have k9 : (k : Int) < 10 := by omega
                    obtain ⟨a, n, hc, hsl⟩ := HR.out k hk8
                    have c0 := (hs.cell (p := ⟨bR, k, none⟩) bRl).trans hc
                    have ho := topen_e (.slice a n n) (ROWS.getD k []) (hsl.below hs) (rows_len k hk8)
                    rw [rows_want k hk8] at ho
                    have hwk := HW.out k hk8
                    generalize WANT.getD k 0 = er at ho hwk
                    have ee : (er == er) = true := beq_self_eq_true er
                    have HO := Lib.hid ho
                    have HK := Lib.hid hk8
                    have HS := Lib.hid hs
                    clear hk hk8 hs hc hsl ho
                    (try dsimp only); repeat' (first | go_values | go_skip | go_guarded | go_step | go_upon | go_back)
                    refine HO.out.mono ?_
                    rintro r1 w8 ⟨p, rfl, h8⟩
                    have hs9 := HS.out.trans (h8.mono HS.out.size)
                    have c1 := (hs9.cell (p := ⟨bW, k, none⟩) bWl).trans hwk
                    have HS9 := Lib.hid hs9
                    clear HO c0 hs9 h8 hwk
                    (try dsimp only); repeat' (first | go_values | go_skip | go_guarded | go_step | go_upon | go_back)
                    go_roundw
                    case rel => exact ⟨k + 1, HK.out, by go_num, HS9.out⟩
                    case measure => have := HK.out; simp [intOf]; omega
                · obtain rfl : k = 10 := by omega
                  rw [show ((10 : Nat) : Int) = 10 from rfl]
                  have d0 : decide ((10 : Int) < 10) = false := rfl
                  have HB12 : Hid (Below w.heap.size w wr) := Lib.hid (HB11.out.trans (hs.mono HB11.out.size))
                  clear hs hk hk8 HR HW HB11 bRl bWl k0
                  (try dsimp only); repeat' (first | go_values | go_skip | go_guarded | go_step | go_upon | go_back)
                  clear d0
                  have HZ := Lib.hid (Sep.start wr)
                  obtain ⟨wb, hwb⟩ : ∃ z, z = wr := ⟨_, rfl⟩
                  rw [← hwb] at HB12 HZ
                  go_loopw [17, 18] (fun q i wx => ∃ (k : Nat) (p : Option Addr) (L : List Thing), k ≤ 2 ∧ q = .pointer p ∧ i = .int .i64 k ∧ NoneP wb p L ∧ Sep wb L wx) (fun _ i _ => 2 - (intOf i).toNat)
                  case atStart => exact ⟨0, none, [], by omega, rfl, rfl, NoneP.nil _ _, by rw [← hwb]; exact HZ.out⟩
                  case round =>
                    obtain ⟨k, p, L, hk, rfl, rfl, hn, hs⟩ := hrel
                    clear HZ hwb
                    have k0 : (0 : Int) ≤ (k : Int) := by omega
                    by_cases hk8 : k < 2
                    · as_aux_lemma =>
                        have d0 : decide ((k : Int) < 2) = true := decide_eq_true (by omega)
                        have k9 : (k : Int) < 2 := by omega
                        have HK := Lib.hid hk8
                        have HN := Lib.hid hn
                        have HF := Lib.hid (find_none 0 hn hs)
                        clear hk hk8 hn hs
                        (try dsimp only); repeat' (first | go_values | go_skip | go_guarded | go_step | go_upon | go_back)
                        refine HF.out.mono ?_
                        rintro r1 x1 ⟨rfl, h1⟩
                        have h2 := (Sep.alloc h1 (.cells #[.int .i64 0, .int .i64 0, .int .i64 0, .int .i64 0, .int .i64 0, .int .i64 0] 31)).drop
                        obtain ⟨b19, hb19⟩ : ∃ z, z = x1.heap.size := ⟨_, rfl⟩
                        obtain ⟨x2, hx2⟩ : ∃ z, z = x1.alloc (.cells #[.int .i64 0, .int .i64 0, .int .i64 0, .int .i64 0, .int .i64 0, .int .i64 0] 31) := ⟨_, rfl⟩
                        rw [← hx2] at h2
                        have HP := Lib.hid (put_none 0 1 1 0 0 0 HN.out h2)
                        clear HF h1 h2
                        (try dsimp only); repeat' (first | go_values | go_skip | go_guarded | go_step | go_upon | go_back)
                        rw [← hx2, ← hb19]
                        clear hx2 hb19
                        refine HP.out.mono ?_
                        rintro r2 x3 ⟨rfl, h3⟩
                        have h4 := (Sep.alloc h3 (.cells #[.bool false, .int .i64 0, .int .i64 0, .int .i64 0, .int .i64 0, .int .i64 0, .int .i64 0] 33)).drop
                        obtain ⟨b21, hb21⟩ : ∃ z, z = x3.heap.size := ⟨_, rfl⟩
                        obtain ⟨x4, hx4⟩ : ∃ z, z = x3.alloc (.cells #[.bool false, .int .i64 0, .int .i64 0, .int .i64 0, .int .i64 0, .int .i64 0, .int .i64 0] 33) := ⟨_, rfl⟩
                        rw [← hx4] at h4
                        have HJ := Lib.hid (judge_none 0 1 HN.out h4)
                        clear HP h3 h4
                        (try dsimp only); repeat' (first | go_values | go_skip | go_guarded | go_step | go_upon | go_back)
                        rw [← hx4, ← hb21]
                        clear hx4 hb21
                        refine HJ.out.mono ?_
                        rintro r3 x5 ⟨rfl, h5⟩
                        have hbk := back_nil 0 SW.zero HN.out h5
                        dsimp only [SW.zero] at hbk
                        have HBK := Lib.hid hbk
                        clear HJ h5 hbk
                        (try dsimp only); repeat' (first | go_values | go_skip | go_guarded | go_step | go_upon | go_back)
                        refine HBK.out.mono ?_
                        rintro r4 x6 ⟨rfl, h6⟩
                        have HLI := Lib.hid (list_none HN.out h6)
                        clear HBK h6
                        (try dsimp only); repeat' (first | go_values | go_skip | go_guarded | go_step | go_upon | go_back)
                        refine HLI.out.mono ?_
                        rintro r5 x7 ⟨rfl, h7⟩
                        have HLE := Lib.hid (len_none HN.out h7)
                        clear HLI h7
                        (try dsimp only); repeat' (first | go_values | go_skip | go_guarded | go_step | go_upon | go_back)
                        refine HLE.out.mono ?_
                        rintro r6 x8 ⟨rfl, h8⟩
                        have HBY := Lib.hid (bytes_none HN.out h8)
                        clear HLE h8
                        (try dsimp only); repeat' (first | go_values | go_skip | go_guarded | go_step | go_upon | go_back)
                        refine HBY.out.mono ?_
                        rintro r7 x9 ⟨rfl, h9⟩
                        have HCO := Lib.hid (copy_none HN.out h9)
                        clear HBY h9
                        (try dsimp only); repeat' (first | go_values | go_skip | go_guarded | go_step | go_upon | go_back)
                        refine HCO.out.mono ?_
                        rintro r8 x10 ⟨rfl, h10⟩
                        have H11 : Hid (Sep wb (Cl x10.heap.size Z57 73 :: L) (x10.alloc (.cells Z57 73))) := Lib.hid (Sep.alloc h10 (.cells Z57 73))
                        have HNN := Lib.hid (NoneP.not wb x10.heap.size L)
                        clear HCO h10
                        (try dsimp only); repeat' (first | (with_reducible show wpList _ _ _ (Oper.mk _ (Op.build _ _) _ _ _ _ :: _) _ _; refine stop ?_) | go_values | go_skip | go_guarded | go_step | go_upon | go_back)
                        unfold Stop
                        obtain ⟨cs, hcs⟩ : ∃ z, z = Z57 := ⟨_, rfl⟩
                        have HBZ := Lib.hid builtZ
                        rw [← hcs] at H11 HBZ HNN
                        clear hcs
                        refine wpList_build_run rfl 73 #[] rfl cs (by rw [Array.toList_map]; exact HBZ.out) ?_
                        (try dsimp only); repeat' (first | go_values | go_skip | go_guarded | go_step | go_upon | go_back)
                        go_roundw
                        case rel => exact ⟨k + 1, _, _, HK.out, rfl, by go_num, HNN.out, H11.out⟩
                        case measure => have := HK.out; simp [intOf]; omega
                    · obtain rfl : k = 2 := by omega
                      rw [show ((2 : Nat) : Int) = 2 from rfl]
                      have d0 : decide ((2 : Int) < 2) = false := rfl
                      have HWK := Lib.hid (works10_any hs)
                      clear hs hk hk8 hn
                      (try dsimp only); repeat' (first | go_values | go_skip | go_guarded | go_step | go_upon | go_back)
                      refine HWK.out.mono ?_
                      rintro r9 x11 ⟨rfl, h11⟩
                      have HE := Lib.hid (HB12.out.trans (h11.low.mono HB12.out.size))
                      clear HWK h11
                      (try dsimp only); repeat' (first | go_values | go_skip | go_guarded | go_step | go_upon | go_back)
                      go_ret
                      exact ⟨rfl, HE.out⟩
end Go.Proofs.Ytjjjkfdppleagaa