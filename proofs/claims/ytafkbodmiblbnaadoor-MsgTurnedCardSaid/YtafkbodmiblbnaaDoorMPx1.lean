/- Package msg: messages without lists (Entry's Op and Image are none): Check. -/
import Derived.Test.YtafkbodmiblbnaaDoorMZ05
import Derived.Test.YtafkbodmiblbnaaDoorMZ12
import Derived.Test.YtafkbodmiblbnaaDoorMZ15
namespace Go.Proofs.YtafkbodmiblbnaaDoor
open Go.RowKit
set_option linter.unusedVariables false
set_option linter.unusedSimpArgs false
def mkindsL : List Int := [0, 16, 99, 23, 3, 7, 1, 137, 3, 129, 33]
/-- The table of kinds of messages lies where start-up laid it. -/
def MKindsAt (w : World) : Prop := 0 < w.heap.size ∧ ∀ k (hk : k < mkindsL.length), w.cell? ⟨0, k, none⟩ = some (.int .i64 mkindsL[k])
theorem MKindsAt.below {w w' : World} (h : MKindsAt w) (hb : Below w.heap.size w w') : MKindsAt w' :=
  ⟨by have := hb.size; have := h.1; omega, fun k hk => by rw [hb.cell (p := ⟨0, k, none⟩) h.1]; exact h.2 k hk⟩
def mfieldsOf (k : Int) : Int := if 0 ≤ k ∧ k ≤ 10 then mkindsL.getD k.toNat 0 else 0
theorem mfields_any (k : Int) (w : World) (h : MKindsAt w) : Calls Tryd.prog 23 #[.int .i64 k] w fun e w' => e = .returned (.int .i64 (mfieldsOf k)) ∧ w = w' := by
  by_cases h0 : 0 ≤ k
  · by_cases h9 : k ≤ 10
    · obtain ⟨j, rfl⟩ : ∃ j : Nat, k = j := ⟨k.toNat, by omega⟩
      have hj : j < mkindsL.length := by simp [mkindsL]; omega
      have hf : mfieldsOf j = mkindsL[j] := by
        unfold mfieldsOf
        rw [if_pos ⟨h0, h9⟩, Int.toNat_natCast, List.getD_eq_getElem?_getD, List.getElem?_eq_getElem hj]
        rfl
      rw [hf]
      have c0 := h.2 j hj
      have d1 : ¬ (j : Int) < 0 := by omega
      have d2 : ¬ (10 : Int) < (j : Int) := by omega
      have d3 : (j : Int) < 11 := by omega
      generalize mkindsL[j] = z at *
      clear h hj hf
      go_enter Tryd.func23, Tryd.ntmps23
      go_wp2
      go_ret
      exact ⟨rfl, rfl⟩
    · have hf : mfieldsOf k = 0 := by unfold mfieldsOf; rw [if_neg (by omega)]
      rw [hf]
      clear h
      go_enter Tryd.func23, Tryd.ntmps23
      go_wp2
      go_ret
      exact ⟨rfl, rfl⟩
  · have hf : mfieldsOf k = 0 := by unfold mfieldsOf; rw [if_neg (by omega)]
    rw [hf]
    clear h
    go_enter Tryd.func23, Tryd.ntmps23
    go_wp2
    go_ret
    exact ⟨rfl, rfl⟩
def partB (n : Int) : Bool := decide (0 ≤ n ∧ n < 23)
theorem part_any (n : Int) (w : World) : Calls Tryd.prog 36 #[.int .i64 n] w fun e w' => e = .returned (.bool (partB n)) ∧ w = w' := by
  by_cases h0 : n < 0
  · have hb : partB n = false := decide_eq_false (by omega)
    rw [hb]
    go_enter Tryd.func36, Tryd.ntmps36
    go_wp2
    go_ret
    exact ⟨rfl, rfl⟩
  · by_cases h1 : n < 23
    · have hb : partB n = true := decide_eq_true (by omega)
      rw [hb]
      have h2 : 0 ≤ n := by omega
      go_enter Tryd.func36, Tryd.ntmps36
      go_wp2
      go_ret
      exact ⟨rfl, rfl⟩
    · have hb : partB n = false := decide_eq_false (by omega)
      rw [hb]
      have h2 : 0 ≤ n := by omega
      go_enter Tryd.func36, Tryd.ntmps36
      go_wp2
      go_ret
      exact ⟨rfl, rfl⟩
def numB (n : Int) : Bool := decide (0 ≤ n ∧ n ≤ 9007199254740991)
theorem isnum_any (n : Int) (w : World) : Calls Tryd.prog 49 #[.int .i64 n] w fun e w' => e = .returned (.bool (numB n)) ∧ w = w' := by
  by_cases h0 : n < 0
  · have hb : numB n = false := decide_eq_false (by omega)
    rw [hb]
    go_enter Tryd.func49, Tryd.ntmps49
    go_wp2
    go_ret
    exact ⟨rfl, rfl⟩
  · by_cases h1 : n ≤ 9007199254740991
    · have hb : numB n = true := decide_eq_true (by omega)
      rw [hb]
      have h2 : 0 ≤ n := by omega
      go_enter Tryd.func49, Tryd.ntmps49
      go_wp2
      go_ret
      exact ⟨rfl, rfl⟩
    · have hb : numB n = false := decide_eq_false (by omega)
      rw [hb]
      have h2 : 0 ≤ n := by omega
      go_enter Tryd.func49, Tryd.ntmps49
      go_wp2
      go_ret
      exact ⟨rfl, rfl⟩
def holdsB (t : Bool) (n : Int) : Bool := if n = 0 then true else t && numB n
theorem holds_any (t : Bool) (n : Int) (w : World) : Calls Tryd.prog 37 #[.bool t, .int .i64 n] w fun e w' => e = .returned (.bool (holdsB t n)) ∧ w = w' := by
  have HN := Lib.hid (isnum_any n w)
  unfold holdsB
  by_cases h0 : n = 0
  · rw [if_pos h0]
    subst h0
    go_enter Tryd.func37, Tryd.ntmps37
    (try dsimp only); repeat' (first | go_values | go_skip | go_guarded | go_step | go_upon | go_back)
    go_ret
    exact ⟨rfl, rfl⟩
  · rw [if_neg h0]
    have d0 : (n == 0) = false := beq_eq_false_iff_ne.2 h0
    generalize numB n = z at *
    clear h0
    cases t with
    | false =>
      rw [Bool.false_and]
      go_enter Tryd.func37, Tryd.ntmps37
      (try dsimp only); repeat' (first | go_values | go_skip | go_guarded | go_step | go_upon | go_back)
      go_ret
      exact ⟨rfl, rfl⟩
    | true =>
      rw [Bool.true_and]
      go_enter Tryd.func37, Tryd.ntmps37
      (try dsimp only); repeat' (first | go_values | go_skip | go_guarded | go_step | go_upon | go_back)
      refine HN.out.mono ?_
      rintro r0 w1 ⟨rfl, rfl⟩
      (try dsimp only); repeat' (first | go_values | go_skip | go_guarded | go_step | go_upon | go_back)
      go_ret
      exact ⟨rfl, rfl⟩
def zS : KS := ⟨⟨#[]⟩, Nat.zero_le _⟩
/-- A list that is none. -/
def NilL (v : Value) : Prop := ∃ a c, v = .slice a 0 c ∧ (a = none → c = 0)
theorem NilL.ln {v : Value} (h : NilL v) (w : World) : LnS w v [] := by obtain ⟨a, c, rfl, h⟩ := h; exact .inl ⟨a, c, rfl, h, rfl⟩
theorem nil0 : NilL (.slice none 0 0) := ⟨none, 0, rfl, fun _ => rfl⟩
def opZV (v : Value) : Value := .agg #[.int .i64 0, .string ⟨#[]⟩, .int .i64 0, .int .i64 0, v]
theorem samez_any {w0 w : World} {L : List Thing} {v u : Value} (h : Sep w0 L w) (hv : NilL v) (hu : NilL u) : Calls Tryd.prog 63 #[opZV v, opZV u] w fun e w' => e = .returned (.bool true) ∧ Sep w0 L w' :=
  (same_any 0 zS 0 0 v [] 0 zS 0 0 u [] h (hv.ln w) (hu.ln w) (by simp)).mono fun e w' ⟨h1, h2⟩ => ⟨h1.trans (by simp [sameB]), h2⟩
def enZC (c m : Int) (v : Value) : Array Value := #[.int .i64 c, .int .i64 m, .int .i64 0, .string ⟨#[]⟩, .int .i64 0, .int .i64 0, v]
def hdB (c m : Int) : Bool := decide (0 ≤ c ∧ c < 8 ∧ 1 ≤ m ∧ m ≤ 2147483647)
theorem hdB_cases (c m : Int) : (hdB c m = false ∧ (c < 0 ∨ (0 ≤ c ∧ 8 ≤ c) ∨ (0 ≤ c ∧ c < 8 ∧ m < 1) ∨ (0 ≤ c ∧ c < 8 ∧ 1 ≤ m ∧ 2147483647 < m))) ∨ (hdB c m = true ∧ 0 ≤ c ∧ c < 8 ∧ 1 ≤ m ∧ m ≤ 2147483647) := by
  unfold hdB
  by_cases h : 0 ≤ c ∧ c < 8 ∧ 1 ≤ m ∧ m ≤ 2147483647
  · exact .inr ⟨decide_eq_true h, h⟩
  · exact .inl ⟨decide_eq_false h, by omega⟩
set_option maxRecDepth 100000 in
set_option maxHeartbeats 4000000 in
theorem esamez_any {w0 w : World} {L : List Thing} {v u : Value} (h : Sep w0 L w) (hv : NilL v) (hu : NilL u) : Calls Tryd.prog 41 #[.agg (enZC 0 0 v), .agg (enZC 0 0 u)] w fun e w' => e = .returned (.bool true) ∧ Sep w0 L w' := by
  obtain ⟨a, c, rfl, hac⟩ := id hv
  obtain ⟨a', c', rfl, hac'⟩ := id hu
  have h1 := (h.alloc (.cells (enZC 0 0 (.slice a 0 c)) 32)).alloc (.cells (enZC 0 0 (.slice a' 0 c')) 32)
  rw [show (w.alloc (.cells (enZC 0 0 (.slice a 0 c)) 32)).heap.size = w.heap.size + 1 by simp] at h1
  have HC := Lib.hid (samez_any h1 hv hu)
  have H1 := Lib.hid h1.drop.drop
  unfold opZV at HC
  unfold enZC at *
  have d2 := h1.cell (o := 2) rfl
  have d3 := h1.cell (o := 3) rfl
  have d4 := h1.cell (o := 4) rfl
  have d5 := h1.cell (o := 5) rfl
  have d6 := h1.cell (o := 6) rfl
  have d0 := h1.cell (o := 0) rfl
  have d1 := h1.cell (o := 1) rfl
  have c2 := h1.sw2.cell (o := 2) rfl
  have c3 := h1.sw2.cell (o := 3) rfl
  have c4 := h1.sw2.cell (o := 4) rfl
  have c5 := h1.sw2.cell (o := 5) rfl
  have c6 := h1.sw2.cell (o := 6) rfl
  have c0 := h1.sw2.cell (o := 0) rfl
  have c1 := h1.sw2.cell (o := 1) rfl
  clear h h1 hv hu hac hac'
  go_enter Tryd.func41, Tryd.ntmps41
  (try dsimp only); repeat' (first | go_values | go_skip | go_guarded | go_step | go_upon | go_back)
  refine HC.out.mono ?_
  rintro r0 w1 ⟨rfl, h2⟩
  (try dsimp only); repeat' (first | go_values | go_skip | go_guarded | go_step | go_upon | go_back)
  go_ret
  exact ⟨rfl, h2.drop.drop⟩
set_option maxRecDepth 100000 in
set_option maxHeartbeats 4000000 in
theorem fitsEntry_99 {w0 w : World} {L : List Thing} {v : Value} (c m : Int) (h : Sep w0 L w) (hv : NilL v) : Calls Tryd.prog 38 #[.int .i64 99, .agg (enZC c m v)] w fun e w' => e = .returned (.bool (hdB c m)) ∧ Sep w0 L w' := by
  obtain ⟨a, k, rfl, hak⟩ := id hv
  have h1 := h.alloc (.cells (enZC c m (.slice a 0 k)) 32)
  have HC := Lib.hid (samez_any h1 hv nil0)
  unfold opZV at HC
  have H1 := Lib.hid h1.drop
  unfold enZC at *
  have d0 := h1.cell (o := 0) rfl
  have d1 := h1.cell (o := 1) rfl
  have d2 := h1.cell (o := 2) rfl
  have d3 := h1.cell (o := 3) rfl
  have d4 := h1.cell (o := 4) rfl
  have d5 := h1.cell (o := 5) rfl
  have d6 := h1.cell (o := 6) rfl
  clear h h1 hv hak
  rcases hdB_cases c m with ⟨e, hx⟩ | ⟨e, x0, x1, x2, x3⟩
  · rw [e]
    clear e
    rcases hx with x0 | ⟨x0, x1⟩ | ⟨x0, x1, x2⟩ | ⟨x0, x1, x2, x3⟩
    all_goals
      go_enter Tryd.func38, Tryd.ntmps38
      go_wp2_with fail
      go_ret
      exact ⟨rfl, H1.out⟩
  · rw [e]
    have e0 : decide (0 ≤ c) = true := decide_eq_true x0
    have e1 : decide (c < 8) = true := decide_eq_true x1
    have e2 : decide (1 ≤ m) = true := decide_eq_true x2
    have e3 : decide (m ≤ 2147483647) = true := decide_eq_true x3
    clear e
    go_enter Tryd.func38, Tryd.ntmps38
    (try dsimp only); repeat' (first | go_values | go_skip | go_guarded | go_step | go_upon | go_back)
    refine HC.out.mono ?_
    rintro r0 w1 ⟨rfl, h2⟩
    (try dsimp only); repeat' (first | go_values | go_skip | go_guarded | go_step | go_upon | go_back)
    go_ret
    exact ⟨rfl, h2.drop⟩
set_option maxRecDepth 100000 in
set_option maxHeartbeats 4000000 in
theorem fitsEntry_33 {w0 w : World} {L : List Thing} {v : Value} (c m : Int) (h : Sep w0 L w) (hv : NilL v) : Calls Tryd.prog 38 #[.int .i64 33, .agg (enZC c m v)] w fun e w' => e = .returned (.bool (hdB c m)) ∧ Sep w0 L w' := by
  obtain ⟨a, k, rfl, hak⟩ := id hv
  have h1 := h.alloc (.cells (enZC c m (.slice a 0 k)) 32)
  have HC := Lib.hid (samez_any h1 hv nil0)
  unfold opZV at HC
  have H1 := Lib.hid h1.drop
  unfold enZC at *
  have d0 := h1.cell (o := 0) rfl
  have d1 := h1.cell (o := 1) rfl
  have d2 := h1.cell (o := 2) rfl
  have d3 := h1.cell (o := 3) rfl
  have d4 := h1.cell (o := 4) rfl
  have d5 := h1.cell (o := 5) rfl
  have d6 := h1.cell (o := 6) rfl
  clear h h1 hv hak
  rcases hdB_cases c m with ⟨e, hx⟩ | ⟨e, x0, x1, x2, x3⟩
  · rw [e]
    clear e
    rcases hx with x0 | ⟨x0, x1⟩ | ⟨x0, x1, x2⟩ | ⟨x0, x1, x2, x3⟩
    all_goals
      go_enter Tryd.func38, Tryd.ntmps38
      go_wp2_with fail
      go_ret
      exact ⟨rfl, H1.out⟩
  · rw [e]
    have e0 : decide (0 ≤ c) = true := decide_eq_true x0
    have e1 : decide (c < 8) = true := decide_eq_true x1
    have e2 : decide (1 ≤ m) = true := decide_eq_true x2
    have e3 : decide (m ≤ 2147483647) = true := decide_eq_true x3
    clear e
    go_enter Tryd.func38, Tryd.ntmps38
    (try dsimp only); repeat' (first | go_values | go_skip | go_guarded | go_step | go_upon | go_back)
    refine HC.out.mono ?_
    rintro r0 w1 ⟨rfl, h2⟩
    (try dsimp only); repeat' (first | go_values | go_skip | go_guarded | go_step | go_upon | go_back)
    go_ret
    exact ⟨rfl, h2.drop⟩
set_option maxRecDepth 100000 in
set_option maxHeartbeats 4000000 in
theorem fitsEntry_3 {w0 w : World} {L : List Thing} {v : Value} (c m : Int) (h : Sep w0 L w) (hv : NilL v) (hc : c = 0) (hm : m = 0) : Calls Tryd.prog 38 #[.int .i64 3, .agg (enZC c m v)] w fun e w' => e = .returned (.bool true) ∧ Sep w0 L w' := by
  obtain ⟨a, k, rfl, hak⟩ := id hv
  have h1 := h.alloc (.cells (enZC c m (.slice a 0 k)) 32)
  subst hc; subst hm
  have HC := Lib.hid (esamez_any h1 hv nil0)
  unfold enZC at HC
  have H1 := Lib.hid h1.drop
  unfold enZC at *
  have d0 := h1.cell (o := 0) rfl
  have d1 := h1.cell (o := 1) rfl
  have d2 := h1.cell (o := 2) rfl
  have d3 := h1.cell (o := 3) rfl
  have d4 := h1.cell (o := 4) rfl
  have d5 := h1.cell (o := 5) rfl
  have d6 := h1.cell (o := 6) rfl
  clear h h1 hv hak
  go_enter Tryd.func38, Tryd.ntmps38
  (try dsimp only); repeat' (first | go_values | go_skip | go_guarded | go_step | go_upon | go_back)
  refine HC.out.mono ?_
  rintro r0 w1 ⟨rfl, h2⟩
  (try dsimp only); repeat' (first | go_values | go_skip | go_guarded | go_step | go_upon | go_back)
  go_ret
  exact ⟨rfl, h2.drop⟩
set_option maxRecDepth 100000 in
set_option maxHeartbeats 4000000 in
theorem fitsEntry_1 {w0 w : World} {L : List Thing} {v : Value} (c m : Int) (h : Sep w0 L w) (hv : NilL v) (hc : c = 0) (hm : m = 0) : Calls Tryd.prog 38 #[.int .i64 1, .agg (enZC c m v)] w fun e w' => e = .returned (.bool true) ∧ Sep w0 L w' := by
  obtain ⟨a, k, rfl, hak⟩ := id hv
  have h1 := h.alloc (.cells (enZC c m (.slice a 0 k)) 32)
  subst hc; subst hm
  have HC := Lib.hid (esamez_any h1 hv nil0)
  unfold enZC at HC
  have H1 := Lib.hid h1.drop
  unfold enZC at *
  have d0 := h1.cell (o := 0) rfl
  have d1 := h1.cell (o := 1) rfl
  have d2 := h1.cell (o := 2) rfl
  have d3 := h1.cell (o := 3) rfl
  have d4 := h1.cell (o := 4) rfl
  have d5 := h1.cell (o := 5) rfl
  have d6 := h1.cell (o := 6) rfl
  clear h h1 hv hak
  go_enter Tryd.func38, Tryd.ntmps38
  (try dsimp only); repeat' (first | go_values | go_skip | go_guarded | go_step | go_upon | go_back)
  refine HC.out.mono ?_
  rintro r0 w1 ⟨rfl, h2⟩
  (try dsimp only); repeat' (first | go_values | go_skip | go_guarded | go_step | go_upon | go_back)
  go_ret
  exact ⟨rfl, h2.drop⟩
set_option maxRecDepth 100000 in
set_option maxHeartbeats 4000000 in
theorem fitsRes_99 {w0 w : World} {L : List Thing} (k a b : Int) (s : Bool) (h : Sep w0 L w) : Calls Tryd.prog 39 #[.int .i64 99, .agg #[.int .i64 k, .int .i64 a, .int .i64 b], .bool s] w fun e w' => e = .returned (.bool (resB k a b)) ∧ Sep w0 L w' := by
  have h1 := h.alloc (.cells #[.int .i64 k, .int .i64 a, .int .i64 b] 34)
  have HR := Lib.hid (fun wx => res_any k a b wx)
  have d0 := h1.cell (o := 0) rfl
  have d1 := h1.cell (o := 1) rfl
  have d2 := h1.cell (o := 2) rfl
  have H1 := Lib.hid h1.drop
  unfold okE at HR
  clear h h1
  cases hz : resB k a b with
  | true =>
    rw [hz] at HR
    simp only [if_true] at HR
    go_enter Tryd.func39, Tryd.ntmps39
    (try dsimp only); repeat' (first | go_values | go_skip | go_guarded | go_step | go_upon | go_back)
    refine (HR.out _).mono ?_
    rintro r0 w1 ⟨rfl, rfl⟩
    (try dsimp only); repeat' (first | go_values | go_skip | go_guarded | go_step | go_upon | go_back)
    go_ret
    exact ⟨rfl, H1.out.alloc0 _⟩
  | false =>
    rw [hz] at HR
    simp only [Bool.false_eq_true, if_false] at HR
    go_enter Tryd.func39, Tryd.ntmps39
    (try dsimp only); repeat' (first | go_values | go_skip | go_guarded | go_step | go_upon | go_back)
    refine (HR.out _).mono ?_
    rintro r0 w1 ⟨rfl, rfl⟩
    (try dsimp only); repeat' (first | go_values | go_skip | go_guarded | go_step | go_upon | go_back)
    go_ret
    exact ⟨rfl, H1.out.alloc0 _⟩
set_option maxRecDepth 100000 in
set_option maxHeartbeats 4000000 in
theorem fitsRes_33 {w0 w : World} {L : List Thing} (h : Sep w0 L w) : Calls Tryd.prog 39 #[.int .i64 33, .agg #[.int .i64 0, .int .i64 0, .int .i64 0], .bool false] w fun e w' => e = .returned (.bool true) ∧ Sep w0 L w' := by
  have h1 := h.alloc (.cells #[.int .i64 0, .int .i64 0, .int .i64 0] 34)
  have d0 := h1.cell (o := 0) rfl
  have d1 := h1.cell (o := 1) rfl
  have d2 := h1.cell (o := 2) rfl
  have H1 := Lib.hid h1.drop
  clear h h1
  go_enter Tryd.func39, Tryd.ntmps39
  (try dsimp only); repeat' (first | go_values | go_skip | go_guarded | go_step | go_upon | go_back)
  go_ret
  exact ⟨rfl, H1.out⟩
set_option maxRecDepth 100000 in
set_option maxHeartbeats 4000000 in
theorem fitsRes_3 {w0 w : World} {L : List Thing} (h : Sep w0 L w) : Calls Tryd.prog 39 #[.int .i64 3, .agg #[.int .i64 0, .int .i64 0, .int .i64 0], .bool false] w fun e w' => e = .returned (.bool true) ∧ Sep w0 L w' := by
  have h1 := h.alloc (.cells #[.int .i64 0, .int .i64 0, .int .i64 0] 34)
  have d0 := h1.cell (o := 0) rfl
  have d1 := h1.cell (o := 1) rfl
  have d2 := h1.cell (o := 2) rfl
  have H1 := Lib.hid h1.drop
  clear h h1
  go_enter Tryd.func39, Tryd.ntmps39
  (try dsimp only); repeat' (first | go_values | go_skip | go_guarded | go_step | go_upon | go_back)
  go_ret
  exact ⟨rfl, H1.out⟩
set_option maxRecDepth 100000 in
set_option maxHeartbeats 4000000 in
theorem fitsRes_1 {w0 w : World} {L : List Thing} (h : Sep w0 L w) : Calls Tryd.prog 39 #[.int .i64 1, .agg #[.int .i64 0, .int .i64 0, .int .i64 0], .bool false] w fun e w' => e = .returned (.bool true) ∧ Sep w0 L w' := by
  have h1 := h.alloc (.cells #[.int .i64 0, .int .i64 0, .int .i64 0] 34)
  have d0 := h1.cell (o := 0) rfl
  have d1 := h1.cell (o := 1) rfl
  have d2 := h1.cell (o := 2) rfl
  have H1 := Lib.hid h1.drop
  clear h h1
  go_enter Tryd.func39, Tryd.ntmps39
  (try dsimp only); repeat' (first | go_values | go_skip | go_guarded | go_step | go_upon | go_back)
  go_ret
  exact ⟨rfl, H1.out⟩
end Go.Proofs.YtafkbodmiblbnaaDoor
