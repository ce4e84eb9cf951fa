/- The walk of QuorumNames. -/
import Derived.Test.YtidbniigfkocpaaQNone
import Derived.Test.YtidbniigfkocpaaQTal
namespace Go.Proofs.Ytidbniigfkocpaa
open Go.RowKit
set_option linter.unusedVariables false
set_option linter.unusedSimpArgs false
def hiB : Bal := ⟨(1, 1, 0, 0, 0), by decide⟩
def loB : Bal := ⟨(1, 1, -1, 0, 0), by decide⟩
def hiS : Nat → List (Bal × Nat)
  | 0 => [(balZ, 16384)]
  | k + 1 => addS (hiS k) hiB k
def loS : Nat → List (Bal × Nat)
  | 0 => hiS 8
  | k + 1 => addS (loS k) loB (k + 7)
theorem hiS8 : hiS 8 = [(balZ, 16384), (hiB, 255)] := by kernel_rfl
theorem loS8 : loS 8 = [(balZ, 16384), (hiB, 255), (loB, 32640)] := by kernel_rfl
theorem hiS_small : ∀ k, k ≤ 8 → Small (hiS k)
  | 0, _ => fun y => by
    show (mget [(balZ, 16384)] y).getD 0 < 32768
    unfold mget
    by_cases h : balZ = y <;> simp [List.find?, h]
  | k + 1, h => small_add (hiS_small k (by omega)) hiB k (by omega)
theorem loS_small : ∀ k, k ≤ 8 → Small (loS k)
  | 0, _ => hiS_small 8 (by omega)
  | k + 1, h => small_add (loS_small k (by omega)) loB (k + 7) (by omega)
theorem hi_won : WonOk 8 (hiS 8) (some hiB) := by
  rw [hiS8]
  refine ⟨(fun h => by cases h), fun x hx => ?_⟩
  cases hx
  refine ⟨⟨(hiB, 255), by simp, rfl, by decide⟩, fun p hp hE => ?_⟩
  simp only [List.mem_cons, List.not_mem_nil, or_false] at hp
  rcases hp with rfl | rfl
  · exact absurd hE (by decide)
  · exact cmpB_refl _
theorem lo_won : WonOk 8 (loS 8) (some loB) := by
  rw [loS8]
  refine ⟨(fun h => by cases h), fun x hx => ?_⟩
  cases hx
  refine ⟨⟨(loB, 32640), by simp, rfl, by decide⟩, fun p hp hE => ?_⟩
  simp only [List.mem_cons, List.not_mem_nil, or_false] at hp
  rcases hp with rfl | rfl | rfl
  · exact absurd hE (by decide)
  · show ¬ cmpB hiB loB < 0
    rw [cmpB_lt]; decide
  · exact cmpB_refl _
/-- Add, whose count nobody asks for. -/
theorem add_k {w0 w : World} {g b k : Nat} {S : List (Bal × Nat)} {L : List Thing} (x : Bal) (u : Value) (hu : balV x = u) (who : Int) (hwho : who = k) (h : Sep w0 (TalC g b 15 :: BalM b S :: L) w) (hw : k < 15) (hS : Small S) :
    Calls Try.prog 12 #[.pointer (some ⟨g, 0, none⟩), u, .int .i64 who] w fun e w' => ∃ m : Int, e = .returned (.tuple #[.int .i64 m, .int .i64 0]) ∧ Sep w0 (TalC g b 15 :: BalM b (addS S x k) :: L) w' := by
  subst hu hwho
  exact (add_ok (n := 15) x k h hw (Nat.le_refl _) hS).mono fun e w' ⟨h1, h2⟩ => ⟨_, h1, h2⟩
theorem won_is {w0 w : World} {g b : Nat} {S : List (Bal × Nat)} {L : List Thing} (x : Bal) (u : Value) (hu : balV x = u) (h : Sep w0 (TalC g b 15 :: BalM b S :: L) w) (hS : Small S) (hok : WonOk 8 S (some x)) :
    Calls Try.prog 14 #[.pointer (some ⟨g, 0, none⟩)] w fun e w' => e = .returned (.tuple #[u, .bool true]) ∧ Sep w0 (TalC g b 15 :: BalM b S :: L) w' := by
  subst hu
  refine (won_any (n := 15) h (Nat.le_refl _) hS).mono ?_
  rintro e w' ⟨o, rfl, ho, h1⟩
  rw [show enough ((15 : Nat) : Int) = 8 by decide] at ho
  rw [wonOk_one ho hok]
  exact ⟨rfl, h1⟩
theorem range_is {w0 w : World} {g b : Nat} {L : List Thing} (x : Bal) (u : Value) (hu : balV x = u) (who : Int) (h : Sep w0 (TalC g b 15 :: L) w) (hw : who < 0 ∨ 15 ≤ who) :
    Calls Try.prog 12 #[.pointer (some ⟨g, 0, none⟩), u, .int .i64 who] w fun e w' => e = .returned (.tuple #[.int .i64 0, .int .i64 9]) ∧ Sep w0 (TalC g b 15 :: L) w' := by
  subst hu
  exact add_range (n := 15) x who h hw
def balU (a b c d e : Int) : Value := .agg #[.int .i64 a, .int .i64 b, .int .i64 c, .int .i64 d, .int .i64 e]
abbrev numC (a b c d e : Int) : Array Value := #[.int .i64 a, .int .i64 b, .int .i64 c, .int .i64 d, .int .i64 e]
theorem note_is {w0 w : World} {ga : Nat} {A : List Int} {L : List Thing} (who op s z : Int) (hz : z = ((15 : Nat) : Int)) (h : Sep w0 (AckT ga z A :: L) w) (hA : A.length = 15) (hs : noteE 15 who op = s) (hA' : noteA 15 A who op = A) :
    Calls Try.prog 23 #[.pointer (some ⟨ga, 0, none⟩), .int .i64 who, .int .i64 op] w fun e w' => e = .returned (.int .i64 s) ∧ Sep w0 (AckT ga z A :: L) w' := by
  subst hz hs
  have h1 := note_all (n := 15) who op h (by omega) (by omega) hA
  rwa [hA'] at h1
theorem of_is {w0 w : World} {ga : Nat} {A : List Int} {L : List Thing} (who s z : Int) (hz : z = ((15 : Nat) : Int)) (h : Sep w0 (AckT ga z A :: L) w) (hA : A.length = 15) (hs : ofV 15 A who = s) :
    Calls Try.prog 27 #[.pointer (some ⟨ga, 0, none⟩), .int .i64 who] w fun e w' => e = .returned (.int .i64 s) ∧ Sep w0 (AckT ga z A :: L) w' := by
  subst hz hs
  exact of_all (n := 15) who h (by omega) (by omega) hA
theorem num_cells {w0 w : World} {bq : Nat} {a b c d e : Int} {L : List Thing} (h : Sep w0 (Cl bq (numC a b c d e) 34 :: L) w) :
    w.cell? ⟨bq, 0, none⟩ = some (.int .i64 a) ∧ w.cell? ⟨bq, 1, none⟩ = some (.int .i64 b) ∧ w.cell? ⟨bq, 2, none⟩ = some (.int .i64 c) ∧ w.cell? ⟨bq, 3, none⟩ = some (.int .i64 d) ∧ w.cell? ⟨bq, 4, none⟩ = some (.int .i64 e) :=
  ⟨h.cell rfl, h.cell rfl, h.cell rfl, h.cell rfl, h.cell rfl⟩
set_option maxRecDepth 100000 in
set_option maxHeartbeats 8000000 in
theorem qnames_any (w : World) : Calls Try.prog 7 #[] w fun e w' => e = .returned (.bool true) ∧ Below w.heap.size w w' := by
  go_enter Try.func7, Try.ntmps7
  go_wp2_with fail
  go_loopw [1] (fun i wr => ∃ n : Int, -3 ≤ n ∧ n ≤ 20 ∧ i = .int .i64 n ∧ Sep w [] wr) (fun i _ => (20 - intOf i).toNat)
  case atStart => exact ⟨-3, by omega, by omega, rfl, Sep.start w⟩
  case round =>
    obtain ⟨n, hn1, hn2, rfl, hs⟩ := hrel
    have HS := Lib.hid hs
    clear hs
    by_cases hn : n < 20
    · have hE : ∀ wx : World, Calls Try.prog 10 #[.int .i64 n] wx fun e w' => e = .returned (.int .i64 (enough n)) ∧ wx = w' := fun wx => enough_any n wx (by unfold I64; omega)
      by_cases he : enough n = 0
      · have hb := newAcks_bad n wr (by unfold I64; omega) he
        rw [he] at hE
        have hno : ¬ (3 ≤ n ∧ n ≤ 15 ∧ n % 2 = 1) := by
          intro h
          unfold enough at he
          rw [if_pos h] at he
          omega
        have q3 : (n == 3) = false := beq_eq_false_iff_ne.2 (by omega)
        have q5 : (n == 5) = false := beq_eq_false_iff_ne.2 (by omega)
        have q7 : (n == 7) = false := beq_eq_false_iff_ne.2 (by omega)
        have q9 : (n == 9) = false := beq_eq_false_iff_ne.2 (by omega)
        have q11 : (n == 11) = false := beq_eq_false_iff_ne.2 (by omega)
        have q13 : (n == 13) = false := beq_eq_false_iff_ne.2 (by omega)
        have q15 : (n == 15) = false := beq_eq_false_iff_ne.2 (by omega)
        have HE := Lib.hid hE
        have HB := Lib.hid hb
        clear hE hb he hno
        go_wp2_with fail
        refine HB.out.mono ?_
        rintro r0 w1 ⟨rfl, rfl⟩
        go_wp2_with fail
        refine (HE.out _).mono ?_
        rintro r0 w1 ⟨rfl, rfl⟩
        go_wp2_with fail
        go_roundw
        case rel => exact ⟨n + 1, by omega, by omega, rfl, HS.out⟩
        case measure => simp [intOf]; omega
      · have hyes : n = 3 ∨ n = 5 ∨ n = 7 ∨ n = 9 ∨ n = 11 ∨ n = 13 ∨ n = 15 := by
          unfold enough at he
          split at he
          · omega
          · exact absurd rfl he
        have hb := newAcks_ok n wr HS.out (by unfold I64; omega) he
        clear he hn1 hn2 hn
        rcases hyes with rfl | rfl | rfl | rfl | rfl | rfl | rfl
        all_goals
          have HE := Lib.hid hE
          have HB := Lib.hid hb
          clear hE hb
          go_wp2_with fail
          refine HB.out.mono ?_
          rintro r0 w1 ⟨g, rfl, h1⟩
          have H1 := Lib.hid h1.drop
          clear h1
          go_wp2_with fail
          refine (HE.out _).mono ?_
          rintro r0 w2 ⟨rfl, rfl⟩
          rw [show enough _ = _ from rfl]
          unfold enough
          go_wp2_with fail
          refine (HE.out _).mono ?_
          rintro r0 w2 ⟨rfl, rfl⟩
          unfold enough
          go_wp2_with fail
          go_roundw
          case rel => exact ⟨_, by omega, by omega, rfl, H1.out⟩
          case measure => simp [intOf]
    · have hd : ¬ n < 20 := hn
      go_wp2_with fail
      refine (newTally_ok 15 wr HS.out (by decide) (by decide)).mono ?_
      rintro r0 w1 ⟨g, b, rfl, h1⟩
      have H1 := Lib.hid h1
      clear h1 hn hn1 hn2 HS
      go_wp2_with fail
      refine (newAcks_ok 15 w1 H1.out (by decide) (by decide)).mono ?_
      rintro r0 w2 ⟨ga, rfl, h2⟩
      have H2 : Hid (Sep w (TalC g b 15 :: BalM b [] :: [AckT ga 15 (List.replicate 15 0)]) w2) := Lib.hid (h2.pick [1, 2, 0] rfl)
      clear h2 H1
      go_wp2_with fail
      refine (range_is balZ (.agg #[.int .i64 0, .int .i64 0, .int .i64 0, .int .i64 0, .int .i64 0]) rfl 15 H2.out (by omega)).mono ?_
      rintro r0 w3 ⟨rfl, h3⟩
      have H3 := Lib.hid h3
      clear h3 H2
      go_wp2_with fail
      refine (range_is balZ (.agg #[.int .i64 0, .int .i64 0, .int .i64 0, .int .i64 0, .int .i64 0]) rfl (-1) H3.out (by omega)).mono ?_
      rintro r0 w4 ⟨rfl, h4⟩
      have H4 := Lib.hid h4
      clear h4 H3
      go_wp2_with fail
      refine (add_lit (n := 15) balZ 14 1 15 14 1 rfl rfl rfl H4.out (by omega) (by omega) small_nil rfl (S' := hiS 0) rfl).mono ?_
      rintro r0 w5 ⟨rfl, h5⟩
      have h6 := (h5.alloc (.cells (numC 1 1 (-1) 0 0) 34)).alloc (.cells (numC 1 1 0 0 0) 34)
      obtain ⟨bl, hbl⟩ : ∃ k, k = w5.heap.size := ⟨_, rfl⟩
      obtain ⟨wa, hwa⟩ : ∃ k, k = (w5.alloc (.cells #[.int .i64 1, .int .i64 1, .int .i64 (-1), .int .i64 0, .int .i64 0] 34)).alloc (.cells #[.int .i64 1, .int .i64 1, .int .i64 0, .int .i64 0, .int .i64 0] 34) := ⟨_, rfl⟩
      rw [show (w5.alloc (.cells (numC 1 1 (-1) 0 0) 34)).heap.size = w5.heap.size + 1 by simp, show (w5.alloc (.cells (numC 1 1 (-1) 0 0) 34)).alloc (.cells (numC 1 1 0 0 0) 34) = wa from hwa.symm, ← hbl] at h6
      have H6 : Hid (Sep w (TalC g b 15 :: BalM b (hiS 0) :: [Cl (bl + 1) (numC 1 1 0 0 0) 34, Cl bl (numC 1 1 (-1) 0 0) 34, AckT ga 15 (List.replicate 15 0)]) wa) := Lib.hid (h6.pick [2, 3, 0, 1, 4] rfl)
      clear h5 h6 H4
      go_wp2_with fail
      rw [← hwa, ← hbl]
      clear hwa hbl
      generalize bl + 1 = bh at *
      go_loopw [17] (fun i wr => ∃ k : Nat, k ≤ 8 ∧ i = .int .i64 k ∧ Sep w (TalC g b 15 :: BalM b (hiS k) :: [Cl bh (numC 1 1 0 0 0) 34, Cl bl (numC 1 1 (-1) 0 0) 34, AckT ga 15 (List.replicate 15 0)]) wr) (fun i _ => 8 - (intOf i).toNat)
      case atStart => exact ⟨0, by omega, rfl, H6.out⟩
      case round =>
        obtain ⟨k, hk, rfl, hs⟩ := hrel
        clear H6
        have k0 : (0 : Int) ≤ (k : Int) := by omega
        obtain ⟨c0, c1, c2, c3, c4⟩ := num_cells hs.sw3
        have H := Lib.hid hs
        clear hs
        by_cases hk8 : k < 8
        · have d1 : (k : Int) < 8 := by omega
          have HSm := Lib.hid (hiS_small k (by omega))
          go_wp2_with fail
          refine (add_k hiB (.agg #[.int .i64 1, .int .i64 1, .int .i64 0, .int .i64 0, .int .i64 0]) rfl k rfl H.out (by omega) HSm.out).mono ?_
          rintro r0 w6 ⟨mm, rfl, h7⟩
          have H7 := Lib.hid h7
          clear h7 H HSm c0 c1 c2 c3 c4
          go_wp2_with fail
          go_roundw
          case rel => exact ⟨k + 1, by omega, by go_num, H7.out⟩
          case measure => simp [intOf]; omega
        · have d1 : ¬ (k : Int) < 8 := by omega
          have HW := Lib.hid (show WonOk 8 (hiS k) (some hiB) ∧ Small (hiS k) ∧ hiS k = loS 0 from by
            obtain rfl : k = 8 := by omega
            exact ⟨hi_won, hiS_small 8 (by omega), rfl⟩)
          go_wp2_with fail
          refine (won_is hiB (.agg #[.int .i64 1, .int .i64 1, .int .i64 0, .int .i64 0, .int .i64 0]) rfl H.out HW.out.2.1 HW.out.1).mono ?_
          rintro r0 w6 ⟨rfl, h7⟩
          rw [HW.out.2.2] at h7
          have h8 := h7.alloc (.cells (numC 1 1 0 0 0) 34)
          obtain ⟨bf, hbf⟩ : ∃ k, k = w6.heap.size := ⟨_, rfl⟩
          obtain ⟨wb, hwb⟩ : ∃ k, k = w6.alloc (.cells #[.int .i64 1, .int .i64 1, .int .i64 0, .int .i64 0, .int .i64 0] 34) := ⟨_, rfl⟩
          rw [show w6.alloc (.cells (numC 1 1 0 0 0) 34) = wb from hwb.symm, ← hbf] at h8
          have H8 : Hid (Sep w (TalC g b 15 :: BalM b (loS 0) :: [Cl bl (numC 1 1 (-1) 0 0) 34, Cl bh (numC 1 1 0 0 0) 34, Cl bf (numC 1 1 0 0 0) 34, AckT ga 15 (List.replicate 15 0)]) wb) := Lib.hid (h8.pick [1, 2, 4, 3, 0, 5] rfl)
          clear h7 h8 H HW c0 c1 c2 c3 c4 d1 hk8 hk k0
          go_wp2_with fail
          rw [← hwb, ← hbf]
          clear hwb hbf
          go_loopw [20] (fun i wr => ∃ k : Nat, k ≤ 8 ∧ i = .int .i64 ((k + 7 : Nat) : Int) ∧ Sep w (TalC g b 15 :: BalM b (loS k) :: [Cl bl (numC 1 1 (-1) 0 0) 34, Cl bh (numC 1 1 0 0 0) 34, Cl bf (numC 1 1 0 0 0) 34, AckT ga 15 (List.replicate 15 0)]) wr) (fun i _ => 15 - (intOf i).toNat)
          case atStart => exact ⟨0, by omega, rfl, H8.out⟩
          case round =>
            obtain ⟨j, hj, rfl, hs⟩ := hrel
            clear H8
            obtain ⟨u, hu⟩ : ∃ u : Nat, u = j + 7 := ⟨_, rfl⟩
            rw [← hu]
            have HU := Lib.hid hu
            have u0 : (0 : Int) ≤ (u : Int) := by omega
            obtain ⟨c0, c1, c2, c3, c4⟩ := num_cells hs.sw3
            have H := Lib.hid hs
            by_cases hj8 : j < 8
            · have d1 : (u : Int) < 15 := by omega
              have HSm := Lib.hid (loS_small j (by omega))
              clear hs hu
              go_wp2_with fail
              refine (add_k (k := u) loB (.agg #[.int .i64 1, .int .i64 1, .int .i64 (-1), .int .i64 0, .int .i64 0]) rfl u rfl H.out (by omega) HSm.out).mono ?_
              rintro r0 w7 ⟨mm, rfl, h7⟩
              rw [HU.out] at h7
              have H7 := Lib.hid h7
              clear h7 H HSm c0 c1 c2 c3 c4
              go_wp2_with fail
              go_roundw
              case rel => exact ⟨j + 1, by omega, by rw [HU.out]; go_num, H7.out⟩
              case measure => simp [intOf]; omega
            · have d1 : ¬ (u : Int) < 15 := by omega
              have HW := Lib.hid (show WonOk 8 (loS j) (some loB) ∧ Small (loS j) ∧ (loS j).length = 3 from by
                obtain rfl : j = 8 := by omega
                exact ⟨lo_won, loS_small 8 (by omega), by rw [loS8]; rfl⟩)
              clear hs hu
              go_wp2_with fail
              refine (won_is loB (.agg #[.int .i64 1, .int .i64 1, .int .i64 (-1), .int .i64 0, .int .i64 0]) rfl H.out HW.out.2.1 HW.out.1).mono ?_
              rintro r0 w7 ⟨rfl, h7⟩
              have h8 := h7.alloc (.cells (numC 1 1 (-1) 0 0) 34)
              obtain ⟨bs, hbs⟩ : ∃ k, k = w7.heap.size := ⟨_, rfl⟩
              obtain ⟨wc, hwc⟩ : ∃ k, k = w7.alloc (.cells #[.int .i64 1, .int .i64 1, .int .i64 (-1), .int .i64 0, .int .i64 0] 34) := ⟨_, rfl⟩
              rw [show w7.alloc (.cells (numC 1 1 (-1) 0 0) 34) = wc from hwc.symm, ← hbs] at h8
              have HL3 := Lib.hid HW.out.2.2
              generalize loS j = SL at *
              have H8 : Hid (Sep w (NTal (.pointer none) :: NAck (.pointer none) :: TalC g b 15 :: BalM b SL :: [Cl bl (numC 1 1 (-1) 0 0) 34, Cl bh (numC 1 1 0 0 0) 34, Cl bf (numC 1 1 0 0 0) 34, Cl bs (numC 1 1 (-1) 0 0) 34, AckT ga 15 (List.replicate 15 0)]) wc) := Lib.hid ((h8.nackNil.ntalNil).pick [0, 1, 3, 4, 5, 6, 7, 2, 8] rfl)
              clear h7 h8 H HW HU c0 c1 c2 c3 c4 d1 hj8 hj u0
              go_wp2_with fail
              rw [← hwc, ← hbs]
              clear hwc hbs
              go_loopw [23, 24, 25] (fun p' q' i wr => ∃ (k : Nat) (p q : Value), k ≤ 2 ∧ i = .int .i64 k ∧ p = p' ∧ q = q' ∧ Sep w (NTal p :: NAck q :: TalC g b 15 :: BalM b SL :: [Cl bl (numC 1 1 (-1) 0 0) 34, Cl bh (numC 1 1 0 0 0) 34, Cl bf (numC 1 1 0 0 0) 34, Cl bs (numC 1 1 (-1) 0 0) 34, AckT ga 15 (List.replicate 15 0)]) wr) (fun _ _ i _ => 2 - (intOf i).toNat)
              case atStart => exact ⟨0, _, _, by omega, rfl, rfl, rfl, H8.out⟩
              case round =>
                obtain ⟨i, p, q, hi, rfl, rfl, rfl, hs⟩ := hrel
                clear H8
                have i0 : (0 : Int) ≤ (i : Int) := by omega
                have H := Lib.hid hs
                clear hs
                by_cases hi2 : i < 2
                · have d1 : (i : Int) < 2 := by omega
                  have HA : Hid (Calls Try.prog 12 #[p, .agg #[.int .i64 0, .int .i64 0, .int .i64 0, .int .i64 0, .int .i64 0], .int .i64 0] wr fun e w' => e = .returned (.tuple #[.int .i64 0, .int .i64 1]) ∧ Sep w (NTal p :: NAck q :: TalC g b 15 :: BalM b SL :: [Cl bl (numC 1 1 (-1) 0 0) 34, Cl bh (numC 1 1 0 0 0) 34, Cl bf (numC 1 1 0 0 0) 34, Cl bs (numC 1 1 (-1) 0 0) 34, AckT ga 15 (List.replicate 15 0)]) w') := Lib.hid (nt_add balZ 0 H.out)
                  clear H
                  go_wp2_with fail
                  refine HA.out.mono ?_
                  rintro r0 w8 ⟨rfl, h1⟩
                  have H1 := Lib.hid h1
                  clear h1 HA
                  go_wp2_with fail
                  refine (nt_won H1.out).mono ?_
                  rintro r0 w9 ⟨rfl, h2⟩
                  have h3 := h2.alloc0 (.cells #[.int .i64 0, .int .i64 0, .int .i64 0, .int .i64 0, .int .i64 0] 34)
                  have HWh : Hid (Calls Try.prog 16 #[p, .agg #[.int .i64 0, .int .i64 0, .int .i64 0, .int .i64 0, .int .i64 0]] (w9.alloc (.cells #[.int .i64 0, .int .i64 0, .int .i64 0, .int .i64 0, .int .i64 0] 34)) fun e w' => e = .returned (.slice none 0 0) ∧ Sep w (NTal p :: NAck q :: TalC g b 15 :: BalM b SL :: [Cl bl (numC 1 1 (-1) 0 0) 34, Cl bh (numC 1 1 0 0 0) 34, Cl bf (numC 1 1 0 0 0) 34, Cl bs (numC 1 1 (-1) 0 0) 34, AckT ga 15 (List.replicate 15 0)]) w') := Lib.hid (nt_who balZ h3)
                  clear h2 h3 H1
                  go_wp2_with fail
                  refine HWh.out.mono ?_
                  rintro r0 w10 ⟨rfl, h4⟩
                  have H4 := Lib.hid h4
                  clear h4 HWh
                  go_wp2_with fail
                  refine (nt_len H4.out).mono ?_
                  rintro r0 w11 ⟨rfl, rfl⟩
                  go_wp2_with fail
                  refine (na_note 0 1 H4.out.sw2).mono ?_
                  rintro r0 w11 ⟨rfl, rfl⟩
                  go_wp2_with fail
                  refine (na_of 0 H4.out.sw2).mono ?_
                  rintro r0 w11 ⟨rfl, rfl⟩
                  go_wp2_with fail
                  refine (na_sure H4.out.sw2).mono ?_
                  rintro r0 w11 ⟨rfl, rfl⟩
                  have h5 := (H4.out.drop.drop.alloc (.cells #[.int .i64 0, .map none] 63)).alloc (.cells (ackCells 0 (List.replicate 15 0)) 65)
                  have h6 := h5.nackZero.sw2.ntalZero
                  rw [show (w10.alloc (.cells #[.int .i64 0, .map none] 63)).heap.size = w10.heap.size + 1 by simp] at h6
                  have H6 := Lib.hid h6
                  clear h5 h6 H4
                  go_wp2_with fail
                  go_roundw
                  case rel => exact ⟨i + 1, _, _, by omega, by go_num, rfl, rfl, H6.out⟩
                  case measure => simp [intOf]; omega
                · have d1 : ¬ (i : Int) < 2 := by omega
                  go_wp2_with fail
                  refine (qworks_any wr).mono ?_
                  rintro r0 w8 ⟨rfl, hb⟩
                  have h1 : Sep w (TalC g b 15 :: BalM b SL :: [Cl bl (numC 1 1 (-1) 0 0) 34, Cl bh (numC 1 1 0 0 0) 34, Cl bf (numC 1 1 0 0 0) 34, Cl bs (numC 1 1 (-1) 0 0) 34, AckT ga 15 (List.replicate 15 0)]) w8 := ((H.out.below hb).drop.drop)
                  obtain ⟨x0, x1, x2, x3, x4⟩ := num_cells h1.sw3
                  obtain ⟨y0, y1, y2, y3, y4⟩ := num_cells h1.sw4
                  obtain ⟨z0, z1, z2, z3, z4⟩ := num_cells h1.sw5
                  obtain ⟨v0, v1, v2, v3, v4⟩ := num_cells h1.sw6
                  have hl := len_any h1
                  rw [HL3.out, show ((3 : Nat) : Int) = 3 from rfl] at hl
                  have HL := Lib.hid hl
                  have H1 : Hid (Sep w [AckT ga 15 (List.replicate 15 0)] w8) := Lib.hid (h1.pick [6] rfl)
                  clear hl h1 hb H HL3
                  go_wp2_with fail
                  refine HL.out.mono ?_
                  rintro r0 w9 ⟨rfl, rfl⟩
                  clear x0 x1 x2 x3 x4 y0 y1 y2 y3 y4 z0 z1 z2 z3 z4 v0 v1 v2 v3 v4 HL
                  go_wp2_with fail
                  refine (note_is 15 1 9 15 rfl H1.out rfl (by decide) (by decide)).mono ?_
                  rintro r0 w9 ⟨rfl, h2⟩
                  have H2 := Lib.hid h2
                  clear h2 H1
                  go_wp2_with fail
                  refine (note_is 0 (-1) 2 15 rfl H2.out rfl (by decide) (by decide)).mono ?_
                  rintro r0 w10 ⟨rfl, h3⟩
                  have H3 := Lib.hid h3
                  clear h3 H2
                  go_wp2_with fail
                  refine (of_is 15 0 15 rfl H3.out rfl (by decide)).mono ?_
                  rintro r0 w11 ⟨rfl, h4⟩
                  have H4 := Lib.hid h4
                  clear h4 H3
                  go_wp2_with fail
                  refine (of_is (-1) 0 15 rfl H4.out rfl (by decide)).mono ?_
                  rintro r0 w12 ⟨rfl, h5⟩
                  have H5 := Lib.hid h5
                  clear h5 H4
                  go_wp2_with fail
                  refine (sure_lit (n := 15) 15 0 rfl H5.out (by decide) rfl (sure_is rfl (by omega) rfl (by decide) (by decide))).mono ?_
                  rintro r0 w13 ⟨rfl, h6⟩
                  have H6 := Lib.hid h6.low
                  clear h6 H5
                  go_wp2_with fail
                  go_ret
                  exact ⟨rfl, H6.out⟩
end Go.Proofs.Ytidbniigfkocpaa
