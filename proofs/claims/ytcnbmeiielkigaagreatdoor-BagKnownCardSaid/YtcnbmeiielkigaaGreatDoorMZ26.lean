/- Package sum: crcStep, crcOf. -/
import Derived.Test.YtcnbmeiielkigaaGreatDoorMZ15
import Derived.Test.YtcnbmeiielkigaaGreatDoorMZ24
namespace Go.Proofs.YtcnbmeiielkigaaGreatDoor
open Go Go.RowKit
set_option linter.unusedVariables false
set_option linter.unusedSimpArgs false
theorem sl_at {w : World} {a : Option Addr} {n c : Nat} {xs : List Value} (h : Sl w (.slice a n c) xs) (hn : 0 < n) : ∃ b off, a = some ⟨b, off, none⟩ ∧ n = xs.length ∧ ∀ j u, xs[j]? = some u → w.cell? ⟨b, off + j, none⟩ = some u := by
 rcases h with (⟨h1, h2⟩ | ⟨b, off, cap, h1, h2, h3, h4, h5⟩) | ⟨x, c', h1, h2⟩
 ·simp only [Value.slice.injEq] at h1; omega
 ·simp only [Value.slice.injEq] at h1
  exact ⟨b, off, h1.1, h1.2.1, h5⟩
 ·simp only [Value.slice.injEq] at h1; omega
end Go.Proofs.YtcnbmeiielkigaaGreatDoor
/- The document's message: what a kind has. -/
namespace Go.Proofs.YtcnbmeiielkigaaGreatDoor
open Go Go.RowKit
set_option linter.unusedVariables false
set_option linter.unusedSimpArgs false
def ints (l : List Int) : List Value := l.map (Value.int .i64)
theorem ints_at (l : List Int) (i : Nat) (h : i < l.length) : (ints l)[i]? = some (.int .i64 l[i]) := by unfold ints; rw [List.getElem?_map, List.getElem?_eq_getElem h]; rfl
set_option maxRecDepth 100000 in
theorem rin_any {w0 w : World} {L : List Thing} (k : Int) (l : List Int) (a : Option Addr) (n c : Nat) (h : Sep w0 L w) (hv : Sl w (.slice a n c) (ints l)) (hn : l.length = n) (hl : n ≤ 20) :
  Calls Tryz.prog 88 #[.int .i64 k, .slice a n c] w fun e w' => e = .returned (.bool (l.contains k)) ∧ w = w' := by
 have HV := Lib.hid hv
 have HN := Lib.hid (And.intro hn hl)
 have n0 : (0 : Int) ≤ (n : Int) := by omega
 obtain ⟨B, hB⟩ : ∃ B, B = l.contains k := ⟨_, rfl⟩
 have HB := Lib.hid hB
 rw [← hB]
 clear h hv hn hl hB
 go_enter Tryz.func88, Tryz.ntmps88
 (try dsimp only); repeat' (first | go_values | go_skip | go_guarded | go_step | go_upon | go_back)
 go_loopw [5] (fun iv wr => ∃ i : Nat, i ≤ n ∧ iv = .int .i64 i ∧ (∀ j (h : j < l.length), j < i → l[j] ≠ k) ∧ wr = w) (fun iv _ => n - (intOf iv).toNat)
 case atStart => exact ⟨0, by omega, rfl, fun j _ h => by omega, rfl⟩
 case round =>
  obtain ⟨i, hi, rfl, hne, rfl⟩ := hrel
  have i0 : (0 : Int) ≤ (i : Int) := by omega
  by_cases hin : i < n
  ·have d0 : decide (i < n) = true := decide_eq_true hin
   have d1 : decide ((i : Int) < (n : Int)) = true := decide_eq_true (by omega)
   have g1 : (i : Int) < (n : Int) := by omega
   have hil : i < l.length := by rw [HN.out.1]; exact hin
   obtain ⟨b, off, rfl, -, hc⟩ := sl_at HV.out (by omega)
   have c0 := hc i _ (ints_at l i hil)
   obtain ⟨z, hz⟩ : ∃ z, z = l[i] := ⟨_, rfl⟩
   rw [← hz] at c0
   have HI := Lib.hid hin
   have g2 : (i : Int) ≤ 20 := by have := HN.out.2; omega
   by_cases hk : z = k
   ·have q1 : (z == k) = true := beq_iff_eq.2 hk
    have q2 : (k == z) = true := beq_iff_eq.2 hk.symm
    have HT : Hid (B = true) := Lib.hid (by rw [HB.out]; simp only [List.contains_iff_mem]; rw [← hk, hz]; exact List.getElem_mem hil)
    clear hc hne hin hil hz hk
    (try dsimp only); repeat' (first | go_values | go_skip | go_guarded | go_step | go_upon | go_back)
    go_ret
    exact ⟨by rw [HT.out]; rfl, rfl⟩
   ·have q1 : (z == k) = false := beq_eq_false_iff_ne.2 hk
    have q2 : (k == z) = false := beq_eq_false_iff_ne.2 fun h => hk h.symm
    have HNE : Hid (∀ j (h : j < l.length), j < i + 1 → l[j] ≠ k) := Lib.hid fun j hj h2 => by
     rcases Nat.lt_or_ge j i with h3 | h3
     ·exact hne j hj h3
     ·have : j = i := by omega
      subst this
      rw [← hz]; exact hk
    clear hc hne hin hil hz hk
    (try dsimp only); repeat' (first | go_values | go_skip | go_guarded | go_step | go_upon | go_back)
    go_roundw
    case rel => exact ⟨i + 1, by have := HI.out; omega, by go_num, HNE.out, by first | rfl | trivial⟩
    case measure => have := HI.out; simp [intOf]; omega
  ·have d0 : decide (i < n) = false := decide_eq_false hin
   have d1 : decide ((i : Int) < (n : Int)) = false := decide_eq_false (by omega)
   have g1 : ¬ (i : Int) < (n : Int) := by omega
   have HF : Hid (B = false) := Lib.hid (by
    rw [HB.out]
    cases hc : l.contains k with
    | false => rfl
    | true =>
     have hm : k ∈ l := by simpa using hc
     obtain ⟨j, hj, e⟩ := List.getElem_of_mem hm
     exact absurd e (hne j hj (by have := HN.out.1; omega)))
   clear hne hin
   (try dsimp only); repeat' (first | go_values | go_skip | go_guarded | go_step | go_upon | go_back)
   go_ret
   exact ⟨by rw [HF.out]; rfl, rfl⟩
theorem has_out {k : Int} (h : ¬ (0 ≤ k ∧ k ≤ 10)) : mfieldsOf k = 0 := by unfold mfieldsOf; rw [if_neg h]
theorem k_cases {k : Int} (h : 0 ≤ k ∧ k ≤ 10) : k = 0 ∨ k = 1 ∨ k = 2 ∨ k = 3 ∨ k = 4 ∨ k = 5 ∨ k = 6 ∨ k = 7 ∨ k = 8 ∨ k = 9 ∨ k = 10 := by omega
theorem bit0 (i : Int) (h : i = 1 ∨ i = 2 ∨ i = 4 ∨ i = 8 ∨ i = 16 ∨ i = 32 ∨ i = 64 ∨ i = 128) : bit 0 i = false := by rcases h with rfl | rfl | rfl | rfl | rfl | rfl | rfl | rfl <;> decide
theorem rhop_bit (k : Int) : ([2, 3, 4, 5, 8] : List Int).contains k = bit (mfieldsOf k) 2 := by
 by_cases h : 0 ≤ k ∧ k ≤ 10
 ·rcases k_cases h with rfl | rfl | rfl | rfl | rfl | rfl | rfl | rfl | rfl | rfl | rfl <;> decide
 ·rw [has_out h, bit0 2 (by decide)]
  simp
  omega
set_option maxRecDepth 100000 in
theorem rhop_any {w0 w : World} {L : List Thing} (k : Int) (h : Sep w0 L w) : Calls Tryz.prog 70 #[.int .i64 k] w fun e w' => e = .returned (.bool (bit (mfieldsOf k) 2)) ∧ Sep w0 L w' := by
 have h1 := h.alloc (.cells #[.int .i64 2, .int .i64 3, .int .i64 4, .int .i64 5, .int .i64 8] 3)
 have h2 := h1.asRow 5 rfl (by unfold maxLen; omega)
 have HI := Lib.hid (rin_any k [2, 3, 4, 5, 8] (some ⟨w.heap.size, 0, none⟩) 5 5 h1 h2.sl rfl (by omega))
 have H1 := Lib.hid h1.drop
 rw [rhop_bit k] at HI
 clear h h1 h2
 go_enter Tryz.func70, Tryz.ntmps70
 (try dsimp only); repeat' (first | go_values | go_skip | go_guarded | go_step | go_upon | go_back)
 refine HI.out.mono ?_
 rintro r0 w1 ⟨rfl, rfl⟩
 clear HI
 (try dsimp only); repeat' (first | go_values | go_skip | go_guarded | go_step | go_upon | go_back)
 go_ret
 exact ⟨rfl, H1.out⟩
theorem rhcm_bit (k : Int) : ([3, 5] : List Int).contains k = bit (mfieldsOf k) 4 := by
 by_cases h : 0 ≤ k ∧ k ≤ 10
 ·rcases k_cases h with rfl | rfl | rfl | rfl | rfl | rfl | rfl | rfl | rfl | rfl | rfl <;> decide
 ·rw [has_out h, bit0 4 (by decide)]
  simp
  omega
set_option maxRecDepth 100000 in
theorem rhcm_any {w0 w : World} {L : List Thing} (k : Int) (h : Sep w0 L w) : Calls Tryz.prog 71 #[.int .i64 k] w fun e w' => e = .returned (.bool (bit (mfieldsOf k) 4)) ∧ Sep w0 L w' := by
 have h1 := h.alloc (.cells #[.int .i64 3, .int .i64 5] 3)
 have h2 := h1.asRow 2 rfl (by unfold maxLen; omega)
 have HI := Lib.hid (rin_any k [3, 5] (some ⟨w.heap.size, 0, none⟩) 2 2 h1 h2.sl rfl (by omega))
 have H1 := Lib.hid h1.drop
 rw [rhcm_bit k] at HI
 clear h h1 h2
 go_enter Tryz.func71, Tryz.ntmps71
 (try dsimp only); repeat' (first | go_values | go_skip | go_guarded | go_step | go_upon | go_back)
 refine HI.out.mono ?_
 rintro r0 w1 ⟨rfl, rfl⟩
 clear HI
 (try dsimp only); repeat' (first | go_values | go_skip | go_guarded | go_step | go_upon | go_back)
 go_ret
 exact ⟨rfl, H1.out⟩
theorem rhen_bit (k : Int) : ([1, 3] : List Int).contains k = bit (mfieldsOf k) 16 := by
 by_cases h : 0 ≤ k ∧ k ≤ 10
 ·rcases k_cases h with rfl | rfl | rfl | rfl | rfl | rfl | rfl | rfl | rfl | rfl | rfl <;> decide
 ·rw [has_out h, bit0 16 (by decide)]
  simp
  omega
set_option maxRecDepth 100000 in
theorem rhen_any {w0 w : World} {L : List Thing} (k : Int) (h : Sep w0 L w) : Calls Tryz.prog 89 #[.int .i64 k] w fun e w' => e = .returned (.bool (bit (mfieldsOf k) 16)) ∧ Sep w0 L w' := by
 have h1 := h.alloc (.cells #[.int .i64 1, .int .i64 3] 3)
 have h2 := h1.asRow 2 rfl (by unfold maxLen; omega)
 have HI := Lib.hid (rin_any k [1, 3] (some ⟨w.heap.size, 0, none⟩) 2 2 h1 h2.sl rfl (by omega))
 have H1 := Lib.hid h1.drop
 rw [rhen_bit k] at HI
 clear h h1 h2
 go_enter Tryz.func89, Tryz.ntmps89
 (try dsimp only); repeat' (first | go_values | go_skip | go_guarded | go_step | go_upon | go_back)
 refine HI.out.mono ?_
 rintro r0 w1 ⟨rfl, rfl⟩
 clear HI
 (try dsimp only); repeat' (first | go_values | go_skip | go_guarded | go_step | go_upon | go_back)
 go_ret
 exact ⟨rfl, H1.out⟩
theorem rhid_bit (k : Int) : ([2, 10] : List Int).contains k = bit (mfieldsOf k) 32 := by
 by_cases h : 0 ≤ k ∧ k ≤ 10
 ·rcases k_cases h with rfl | rfl | rfl | rfl | rfl | rfl | rfl | rfl | rfl | rfl | rfl <;> decide
 ·rw [has_out h, bit0 32 (by decide)]
  simp
  omega
set_option maxRecDepth 100000 in
theorem rhid_any {w0 w : World} {L : List Thing} (k : Int) (h : Sep w0 L w) : Calls Tryz.prog 91 #[.int .i64 k] w fun e w' => e = .returned (.bool (bit (mfieldsOf k) 32)) ∧ Sep w0 L w' := by
 have h1 := h.alloc (.cells #[.int .i64 2, .int .i64 10] 3)
 have h2 := h1.asRow 2 rfl (by unfold maxLen; omega)
 have HI := Lib.hid (rin_any k [2, 10] (some ⟨w.heap.size, 0, none⟩) 2 2 h1 h2.sl rfl (by omega))
 have H1 := Lib.hid h1.drop
 rw [rhid_bit k] at HI
 clear h h1 h2
 go_enter Tryz.func91, Tryz.ntmps91
 (try dsimp only); repeat' (first | go_values | go_skip | go_guarded | go_step | go_upon | go_back)
 refine HI.out.mono ?_
 rintro r0 w1 ⟨rfl, rfl⟩
 clear HI
 (try dsimp only); repeat' (first | go_values | go_skip | go_guarded | go_step | go_upon | go_back)
 go_ret
 exact ⟨rfl, H1.out⟩
theorem rhim_bit (k : Int) : ([7, 9] : List Int).contains k = bit (mfieldsOf k) 128 := by
 by_cases h : 0 ≤ k ∧ k ≤ 10
 ·rcases k_cases h with rfl | rfl | rfl | rfl | rfl | rfl | rfl | rfl | rfl | rfl | rfl <;> decide
 ·rw [has_out h, bit0 128 (by decide)]
  simp
  omega
set_option maxRecDepth 100000 in
theorem rhim_any {w0 w : World} {L : List Thing} (k : Int) (h : Sep w0 L w) : Calls Tryz.prog 76 #[.int .i64 k] w fun e w' => e = .returned (.bool (bit (mfieldsOf k) 128)) ∧ Sep w0 L w' := by
 have h1 := h.alloc (.cells #[.int .i64 7, .int .i64 9] 3)
 have h2 := h1.asRow 2 rfl (by unfold maxLen; omega)
 have HI := Lib.hid (rin_any k [7, 9] (some ⟨w.heap.size, 0, none⟩) 2 2 h1 h2.sl rfl (by omega))
 have H1 := Lib.hid h1.drop
 rw [rhim_bit k] at HI
 clear h h1 h2
 go_enter Tryz.func76, Tryz.ntmps76
 (try dsimp only); repeat' (first | go_values | go_skip | go_guarded | go_step | go_upon | go_back)
 refine HI.out.mono ?_
 rintro r0 w1 ⟨rfl, rfl⟩
 clear HI
 (try dsimp only); repeat' (first | go_values | go_skip | go_guarded | go_step | go_upon | go_back)
 go_ret
 exact ⟨rfl, H1.out⟩
theorem rhla_any (k : Int) (w : World) : Calls Tryz.prog 72 #[.int .i64 k] w fun e w' => e = .returned (.bool (bit (mfieldsOf k) 8)) ∧ w = w' := by
 have hb : (k == 7) = bit (mfieldsOf k) 8 := by
  by_cases h : 0 ≤ k ∧ k ≤ 10
  ·rcases k_cases h with rfl | rfl | rfl | rfl | rfl | rfl | rfl | rfl | rfl | rfl | rfl <;> decide
  ·rw [has_out h, bit0 8 (by decide)]
   exact beq_eq_false_iff_ne.2 (by omega)
 rw [← hb]
 clear hb
 go_enter Tryz.func72, Tryz.ntmps72
 (try dsimp only); repeat' (first | go_values | go_skip | go_guarded | go_step | go_upon | go_back)
 go_ret
 exact ⟨rfl, rfl⟩
theorem rhrs_any (k : Int) (w : World) : Calls Tryz.prog 74 #[.int .i64 k] w fun e w' => e = .returned (.bool (bit (mfieldsOf k) 64)) ∧ w = w' := by
 have hb : (k == 2) = bit (mfieldsOf k) 64 := by
  by_cases h : 0 ≤ k ∧ k ≤ 10
  ·rcases k_cases h with rfl | rfl | rfl | rfl | rfl | rfl | rfl | rfl | rfl | rfl | rfl <;> decide
  ·rw [has_out h, bit0 64 (by decide)]
   exact beq_eq_false_iff_ne.2 (by omega)
 rw [← hb]
 clear hb
 go_enter Tryz.func74, Tryz.ntmps74
 (try dsimp only); repeat' (first | go_values | go_skip | go_guarded | go_step | go_upon | go_back)
 go_ret
 exact ⟨rfl, rfl⟩
theorem rhvw_any (k : Int) (w : World) : Calls Tryz.prog 69 #[.int .i64 k] w fun e w' => e = .returned (.bool (bit (mfieldsOf k) 1)) ∧ w = w' := by
 have hb : decide (2 ≤ k ∧ k ≤ 10) = bit (mfieldsOf k) 1 := by
  by_cases h : 0 ≤ k ∧ k ≤ 10
  ·rcases k_cases h with rfl | rfl | rfl | rfl | rfl | rfl | rfl | rfl | rfl | rfl | rfl <;> decide
  ·rw [has_out h, bit0 1 (by decide)]
   exact decide_eq_false (by omega)
 rw [← hb]
 clear hb
 by_cases h1 : 2 ≤ k
 ·have d1 : decide (2 ≤ k) = true := decide_eq_true h1
  have e : decide (2 ≤ k ∧ k ≤ 10) = decide (k ≤ 10) := by simp [h1]
  rw [e]
  go_enter Tryz.func69, Tryz.ntmps69
  (try dsimp only); repeat' (first | go_values | go_skip | go_guarded | go_step | go_upon | go_back)
  go_ret
  exact ⟨rfl, rfl⟩
 ·have d1 : decide (2 ≤ k) = false := decide_eq_false h1
  have e : decide (2 ≤ k ∧ k ≤ 10) = false := decide_eq_false (fun h => h1 h.1)
  rw [e]
  go_enter Tryz.func69, Tryz.ntmps69
  (try dsimp only); repeat' (first | go_values | go_skip | go_guarded | go_step | go_upon | go_back)
  go_ret
  exact ⟨rfl, rfl⟩
theorem rnum_any' (n : Int) (w : World) : Calls Tryz.prog 87 #[.int .i64 n] w fun e w' => e = .returned (.bool (numB n)) ∧ w = w' := by
 unfold numB
 by_cases h1 : 0 ≤ n
 ·have d1 : decide (0 ≤ n) = true := decide_eq_true h1
  rw [show decide (0 ≤ n ∧ n ≤ 9007199254740991) = decide (n ≤ 9007199254740991) by simp [h1]]
  go_enter Tryz.func87, Tryz.ntmps87
  (try dsimp only); repeat' (first | go_values | go_skip | go_guarded | go_step | go_upon | go_back)
  go_ret
  exact ⟨rfl, rfl⟩
 ·have d1 : decide (0 ≤ n) = false := decide_eq_false h1
  rw [show decide (0 ≤ n ∧ n ≤ 9007199254740991) = false from decide_eq_false (fun h => h1 h.1)]
  go_enter Tryz.func87, Tryz.ntmps87
  (try dsimp only); repeat' (first | go_values | go_skip | go_guarded | go_step | go_upon | go_back)
  go_ret
  exact ⟨rfl, rfl⟩
theorem rsome_any (n : Int) (w : World) : Calls Tryz.prog 67 #[.int .i64 n] w fun e w' => e = .returned (.bool (partB n)) ∧ w = w' := by
 unfold partB
 by_cases h1 : 0 ≤ n
 ·have d1 : decide (0 ≤ n) = true := decide_eq_true h1
  rw [show decide (0 ≤ n ∧ n < 23) = decide (n < 23) by simp [h1]]
  go_enter Tryz.func67, Tryz.ntmps67
  (try dsimp only); repeat' (first | go_values | go_skip | go_guarded | go_step | go_upon | go_back)
  go_ret
  exact ⟨rfl, rfl⟩
 ·have d1 : decide (0 ≤ n) = false := decide_eq_false h1
  rw [show decide (0 ≤ n ∧ n < 23) = false from decide_eq_false (fun h => h1 h.1)]
  go_enter Tryz.func67, Tryz.ntmps67
  (try dsimp only); repeat' (first | go_values | go_skip | go_guarded | go_step | go_upon | go_back)
  go_ret
  exact ⟨rfl, rfl⟩
theorem rone_any (t : Bool) (n : Int) (w : World) : Calls Tryz.prog 68 #[.bool t, .int .i64 n] w fun e w' => e = .returned (.bool (holdsB t n)) ∧ w = w' := by
 have HN := Lib.hid (rnum_any' n w)
 have hb : holdsB t n = (t && numB n || (n == 0)) := by
  unfold holdsB
  by_cases h : n = 0
  ·subst h; simp
  ·rw [if_neg h, show (n == 0) = false from beq_eq_false_iff_ne.2 h, Bool.or_false]
 rw [hb]
 clear hb
 cases t with
 | true =>
  rw [Bool.true_and]
  generalize numB n = b at *
  go_enter Tryz.func68, Tryz.ntmps68
  (try dsimp only); repeat' (first | go_values | go_skip | go_guarded | go_step | go_upon | go_back)
  refine HN.out.mono ?_
  rintro r0 w1 ⟨rfl, rfl⟩
  cases b with
  | true =>
   (try dsimp only); repeat' (first | go_values | go_skip | go_guarded | go_step | go_upon | go_back)
   go_ret
   exact ⟨rfl, rfl⟩
  | false =>
   (try dsimp only); repeat' (first | go_values | go_skip | go_guarded | go_step | go_upon | go_back)
   go_ret
   exact ⟨rfl, rfl⟩
 | false =>
  rw [Bool.false_and, Bool.false_or]
  clear HN
  go_enter Tryz.func68, Tryz.ntmps68
  (try dsimp only); repeat' (first | go_values | go_skip | go_guarded | go_step | go_upon | go_back)
  go_ret
  exact ⟨rfl, rfl⟩
end Go.Proofs.YtcnbmeiielkigaaGreatDoor
