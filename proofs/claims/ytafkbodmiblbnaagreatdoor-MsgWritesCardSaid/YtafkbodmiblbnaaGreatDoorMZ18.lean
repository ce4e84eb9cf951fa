/- Rows of entries, compared (SameRow), picked out of XEn7: without their bytes. -/
import Derived.Deep.QuietTactic
import Derived.BigQuiet
import Derived.Test.YtafkbodmiblbnaaGreatDoorMZ17
import Derived.Test.YtafkbodmiblbnaaGreatDoorMZ03
import Derived.Test.YtafkbodmiblbnaaGreatDoorMZ04
import Derived.Test.YtafkbodmiblbnaaGreatDoorMZ09
import Derived.Test.YtafkbodmiblbnaaGreatDoorMZ12
namespace Go.Proofs.YtafkbodmiblbnaaGreatDoor
open Go.RowKit
set_option linter.unusedVariables false
set_option linter.unusedSimpArgs false
/-- Two rows are the same. -/
def SameP (xs ys : List (EnM × Value)) : Prop := xs.length = ys.length ∧ ∀ j (h : j < xs.length) (h' : j < ys.length), enSame xs[j].1 ys[j].1 = true
set_option maxRecDepth 100000 in
set_option maxHeartbeats 16000000 in
theorem eqfunc_w {w : World} (a a' : Option Addr) (c c' : Nat) (xs ys : List (EnM × Value)) (hx : EnS w (.slice a xs.length c) xs) (hy : EnS w (.slice a' ys.length c') ys) (hl : xs.length ≤ 1000000) (hl' : ys.length ≤ 1000000) :
    Calls Tryz.prog 94 #[.slice a xs.length c, .slice a' ys.length c', .func (.func 66) #[] #[]] w fun e w' => ∃ r : Bool, e = .returned (.bool r) ∧ (r = true ↔ SameP xs ys) ∧ Sep w [] w' := by
  have HX := Lib.hid hx
  have HY := Lib.hid hy
  have n0 : (xs.length : Int) ≤ 1000000 := by omega
  have n1 : (ys.length : Int) ≤ 1000000 := by omega
  clear hx hy hl hl'
  obtain ⟨n, hn⟩ : ∃ n, n = xs.length := ⟨_, rfl⟩
  obtain ⟨n', hn'⟩ : ∃ n, n = ys.length := ⟨_, rfl⟩
  rw [← hn] at HX n0 ⊢
  rw [← hn'] at HY n1 ⊢
  have HN := Lib.hid (And.intro hn hn')
  clear hn hn'
  by_cases hll : n = n'
  · subst hll
    go_enter Tryz.func94, Tryz.ntmps94
    go_wp2_with fail
    go_loopw [17] (fun i wr => ∃ k : Nat, k ≤ n ∧ i = .int .i64 k ∧ (∀ j (h : j < xs.length) (h' : j < ys.length), j < k → enSame xs[j].1 ys[j].1 = true) ∧ Sep w [] wr) (fun i _ => n - (intOf i).toNat)
    case atStart => exact ⟨0, Nat.zero_le _, rfl, (fun j _ _ h => absurd h (by omega)), Sep.start w⟩
    case round =>
      obtain ⟨k, hk, rfl, hall, hs⟩ := hrel
      have k0 : (0 : Int) ≤ (k : Int) := by omega
      by_cases hkn : k < n
      · have hkx : k < xs.length := by have := HN.out.1; omega
        have hky : k < ys.length := by have := HN.out.2; omega
        have hd : decide (k < n) = true := decide_eq_true hkn
        have k1 : (k : Int) < (n : Int) := by omega
        obtain ⟨bx, off, rfl, -, hnc, -, ⟨e0, e1, e2, e3, e4, e5, e6⟩, hln⟩ := (HX.out.below hs.low).at hkx
        obtain ⟨by', off', rfl, -, hnc', -, -, -⟩ := HY.out.at hky
        obtain ⟨⟨x, v⟩, hxv⟩ : ∃ z, z = xs[k] := ⟨_, rfl⟩
        obtain ⟨⟨y, u⟩, hyu⟩ : ∃ z, z = ys[k] := ⟨_, rfl⟩
        rw [← hxv] at e0 e1 e2 e3 e4 e5 e6 hln
        dsimp only at e0 e1 e2 e3 e4 e5 e6 hln
        obtain ⟨av, kv, rfl⟩ := hln.len
        have h4 := hs.alloc (.cells (enC x (.slice av x.p.ls.length kv)) 26)
        have hlow : Below wr.heap.size wr (wr.alloc (.cells (enC x (.slice av x.p.ls.length kv)) 26)) := (Below.refl _ wr).alloc (Nat.le_refl _) _
        obtain ⟨b2, o2, hab, -, -, -, ⟨d0, d1, d2, d3, d4, d5, d6⟩, hlu⟩ := (HY.out.below h4.low).at hky
        simp only [Option.some.injEq, Addr.mk.injEq, and_true] at hab
        obtain ⟨rfl, rfl⟩ := hab
        rw [← hyu] at d0 d1 d2 d3 d4 d5 d6 hlu
        dsimp only at d0 d1 d2 d3 d4 d5 d6 hlu
        obtain ⟨au, ku, rfl⟩ := hlu.len
        have h5 := h4.alloc (.cells (enC y (.slice au y.p.ls.length ku)) 26)
        have hlow2 : Below (wr.alloc (.cells (enC x (.slice av x.p.ls.length kv)) 26)).heap.size _ ((wr.alloc (.cells (enC x (.slice av x.p.ls.length kv)) 26)).alloc (.cells (enC y (.slice au y.p.ls.length ku)) 26)) := (Below.refl _ _).alloc (Nat.le_refl _) _
        rw [show (wr.alloc (.cells (enC x (.slice av x.p.ls.length kv)) 26)).heap.size = wr.heap.size + 1 by simp] at h5
        have HS := Lib.hid (esame_any x y _ _ h5 ((hln.below hlow).below hlow2) (hlu.below hlow2) (lns_maxl hln))
        unfold enV enC at HS
        unfold enC at h4 h5 d0 d1 d2 d3 d4 d5 d6
        obtain ⟨g0, g1, g2, g3, g4, g5, g6⟩ := cells7 h5.sw2
        obtain ⟨j0, j1, j2, j3, j4, j5, j6⟩ := cells7 h5
        have HXV := Lib.hid (And.intro hxv (And.intro hyu hkn))
        have HAL := Lib.hid hall
        clear hs hln hlu hxv hyu hall hk hkn h4 h5 hlow hlow2
        cases hsm : enSame x y with
        | true =>
          rw [hsm] at HS
          have HT := Lib.hid hsm
          clear hsm
          go_wp2_with fail
          refine HS.out.mono ?_
          rintro r0 w5 ⟨rfl, h6⟩
          have HF := Lib.hid h6.drop.drop
          clear h6 HS e0 e1 e2 e3 e4 e5 e6 d0 d1 d2 d3 d4 d5 d6 g0 g1 g2 g3 g4 g5 g6 j0 j1 j2 j3 j4 j5 j6
          go_wp2_with fail
          go_roundw
          case rel =>
            refine ⟨k + 1, HXV.out.2.2, by go_num, fun j h h' hj => ?_, HF.out⟩
            by_cases hjk : j = k
            · subst hjk; rw [← HXV.out.1, ← HXV.out.2.1]; exact HT.out
            · exact HAL.out j h h' (by omega)
          case measure => have := HXV.out.2.2; simp [intOf]; omega
        | false =>
          rw [hsm] at HS
          have HT : Hid (¬ SameP xs ys) := Lib.hid fun hh => by
            have := hh.2 k hkx hky
            rw [← HXV.out.1, ← HXV.out.2.1] at this
            rw [show enSame x y = true from this] at hsm; cases hsm
          clear hsm
          go_wp2_with fail
          refine HS.out.mono ?_
          rintro r0 w5 ⟨rfl, h6⟩
          have HF := Lib.hid h6.drop.drop
          clear h6 HS e0 e1 e2 e3 e4 e5 e6 d0 d1 d2 d3 d4 d5 d6 g0 g1 g2 g3 g4 g5 g6 j0 j1 j2 j3 j4 j5 j6
          go_wp2_with fail
          go_ret
          exact ⟨false, rfl, ⟨(fun h => by cases h), fun h => absurd h HT.out⟩, HF.out⟩
      · have hd : decide (k < n) = false := decide_eq_false hkn
        have HF := Lib.hid hs
        have HT : Hid (SameP xs ys) := Lib.hid ⟨by have := HN.out; omega, fun j h h' => hall j h h' (by have := HN.out.1; omega)⟩
        clear hs hall hk hkn
        go_wp2_with fail
        go_ret
        exact ⟨true, rfl, ⟨fun _ => HT.out, fun _ => rfl⟩, HF.out⟩
  · have hne : ((n : Int) != (n' : Int)) = true := by rw [bne_iff_ne]; omega
    have HT : Hid (¬ SameP xs ys) := Lib.hid fun hh => by have := HN.out; have := hh.1; omega
    clear hll
    go_enter Tryz.func94, Tryz.ntmps94
    go_wp2_with fail
    go_ret
    exact ⟨false, rfl, ⟨(fun h => by cases h), fun h => absurd h HT.out⟩, Sep.start w⟩
-- the document's SameRow
theorem samerow_w {w : World} (a a' : Option Addr) (c c' : Nat) (xs ys : List (EnM × Value)) (hx : EnS w (.slice a xs.length c) xs) (hy : EnS w (.slice a' ys.length c') ys) (hl : xs.length ≤ 1000000) (hl' : ys.length ≤ 1000000) :
    Calls Tryz.prog 69 #[.slice a xs.length c, .slice a' ys.length c'] w fun e w' => ∃ r : Bool, e = .returned (.bool r) ∧ (r = true ↔ SameP xs ys) ∧ Sep w [] w' := by
  have HC := Lib.hid (eqfunc_w a a' c c' xs ys hx hy hl hl')
  clear hx hy hl hl'
  go_enter Tryz.func69, Tryz.ntmps69
  go_wp2_with fail
  refine HC.out.mono ?_
  rintro r0 w1 ⟨r, rfl, hr, h1⟩
  have HF := Lib.hid (And.intro hr h1)
  clear hr h1 HC
  go_wp2_with fail
  go_ret
  exact ⟨r, rfl, HF.out.1, HF.out.2⟩
end Go.Proofs.YtafkbodmiblbnaaGreatDoor
/- Package msg: messages without lists (Entry's Op and Image are none): Check. -/
namespace Go.Proofs.YtafkbodmiblbnaaGreatDoor
open Go.RowKit
set_option linter.unusedVariables false
set_option linter.unusedSimpArgs false
def mkindsL : List Int := [0, 16, 99, 23, 3, 7, 1, 137, 3, 129, 33]
/-- The table of kinds of messages lies where start-up laid it. -/
def MKindsAt (w : World) : Prop := 0 < w.heap.size ∧ ∀ k (hk : k < mkindsL.length), w.cell? ⟨0, k, none⟩ = some (.int .i64 mkindsL[k])
theorem MKindsAt.below {w w' : World} (h : MKindsAt w) (hb : Below w.heap.size w w') : MKindsAt w' :=
  ⟨by have := hb.size; have := h.1; omega, fun k hk => by rw [hb.cell (p := ⟨0, k, none⟩) h.1]; exact h.2 k hk⟩
def mfieldsOf (k : Int) : Int := if 0 ≤ k ∧ k ≤ 10 then mkindsL.getD k.toNat 0 else 0
theorem mfields_any (k : Int) (w : World) (h : MKindsAt w) : Calls Tryz.prog 28 #[.int .i64 k] w fun e w' => e = .returned (.int .i64 (mfieldsOf k)) ∧ w = w' := by
  by_cases h0 : 0 ≤ k
  · by_cases h9 : k ≤ 10
    · obtain ⟨j, rfl⟩ : ∃ j : Nat, k = j := ⟨k.toNat, by omega⟩
      have hj : j < mkindsL.length := by simp [mkindsL]; omega
      have hf : mfieldsOf j = mkindsL[j] := by
        unfold mfieldsOf
        rw [if_pos ⟨h0, h9⟩, Int.toNat_natCast, List.getD_eq_getElem?_getD, List.getElem?_eq_getElem hj]
        rfl
      rw [hf]
      have c0 := h.2 j hj
      have d1 : ¬ (j : Int) < 0 := by omega
      have d2 : ¬ (10 : Int) < (j : Int) := by omega
      have d3 : (j : Int) < 11 := by omega
      generalize mkindsL[j] = z at *
      clear h hj hf
      go_enter Tryz.func28, Tryz.ntmps28
      go_wp2
      go_ret
      exact ⟨rfl, rfl⟩
    · have hf : mfieldsOf k = 0 := by unfold mfieldsOf; rw [if_neg (by omega)]
      rw [hf]
      clear h
      go_enter Tryz.func28, Tryz.ntmps28
      go_wp2
      go_ret
      exact ⟨rfl, rfl⟩
  · have hf : mfieldsOf k = 0 := by unfold mfieldsOf; rw [if_neg (by omega)]
    rw [hf]
    clear h
    go_enter Tryz.func28, Tryz.ntmps28
    go_wp2
    go_ret
    exact ⟨rfl, rfl⟩
def partB (n : Int) : Bool := decide (0 ≤ n ∧ n < 23)
theorem part_any (n : Int) (w : World) : Calls Tryz.prog 50 #[.int .i64 n] w fun e w' => e = .returned (.bool (partB n)) ∧ w = w' := by
  by_cases h0 : n < 0
  · have hb : partB n = false := decide_eq_false (by omega)
    rw [hb]
    go_enter Tryz.func50, Tryz.ntmps50
    go_wp2
    go_ret
    exact ⟨rfl, rfl⟩
  · by_cases h1 : n < 23
    · have hb : partB n = true := decide_eq_true (by omega)
      rw [hb]
      have h2 : 0 ≤ n := by omega
      go_enter Tryz.func50, Tryz.ntmps50
      go_wp2
      go_ret
      exact ⟨rfl, rfl⟩
    · have hb : partB n = false := decide_eq_false (by omega)
      rw [hb]
      have h2 : 0 ≤ n := by omega
      go_enter Tryz.func50, Tryz.ntmps50
      go_wp2
      go_ret
      exact ⟨rfl, rfl⟩
def numB (n : Int) : Bool := decide (0 ≤ n ∧ n ≤ 9007199254740991)
theorem isnum_any (n : Int) (w : World) : Calls Tryz.prog 59 #[.int .i64 n] w fun e w' => e = .returned (.bool (numB n)) ∧ w = w' := by
  by_cases h0 : n < 0
  · have hb : numB n = false := decide_eq_false (by omega)
    rw [hb]
    go_enter Tryz.func59, Tryz.ntmps59
    go_wp2
    go_ret
    exact ⟨rfl, rfl⟩
  · by_cases h1 : n ≤ 9007199254740991
    · have hb : numB n = true := decide_eq_true (by omega)
      rw [hb]
      have h2 : 0 ≤ n := by omega
      go_enter Tryz.func59, Tryz.ntmps59
      go_wp2
      go_ret
      exact ⟨rfl, rfl⟩
    · have hb : numB n = false := decide_eq_false (by omega)
      rw [hb]
      have h2 : 0 ≤ n := by omega
      go_enter Tryz.func59, Tryz.ntmps59
      go_wp2
      go_ret
      exact ⟨rfl, rfl⟩
def holdsB (t : Bool) (n : Int) : Bool := if n = 0 then true else t && numB n
theorem holds_any (t : Bool) (n : Int) (w : World) : Calls Tryz.prog 51 #[.bool t, .int .i64 n] w fun e w' => e = .returned (.bool (holdsB t n)) ∧ w = w' := by
  have HN := Lib.hid (isnum_any n w)
  unfold holdsB
  by_cases h0 : n = 0
  · rw [if_pos h0]
    subst h0
    go_enter Tryz.func51, Tryz.ntmps51
    (try dsimp only); repeat' (first | go_values | go_skip | go_guarded | go_step | go_upon | go_back)
    go_ret
    exact ⟨rfl, rfl⟩
  · rw [if_neg h0]
    have d0 : (n == 0) = false := beq_eq_false_iff_ne.2 h0
    generalize numB n = z at *
    clear h0
    cases t with
    | false =>
      rw [Bool.false_and]
      go_enter Tryz.func51, Tryz.ntmps51
      (try dsimp only); repeat' (first | go_values | go_skip | go_guarded | go_step | go_upon | go_back)
      go_ret
      exact ⟨rfl, rfl⟩
    | true =>
      rw [Bool.true_and]
      go_enter Tryz.func51, Tryz.ntmps51
      (try dsimp only); repeat' (first | go_values | go_skip | go_guarded | go_step | go_upon | go_back)
      refine HN.out.mono ?_
      rintro r0 w1 ⟨rfl, rfl⟩
      (try dsimp only); repeat' (first | go_values | go_skip | go_guarded | go_step | go_upon | go_back)
      go_ret
      exact ⟨rfl, rfl⟩
def zS : KS := ⟨⟨#[]⟩, Nat.zero_le _⟩
/-- A list that is none. -/
def NilL (v : Value) : Prop := ∃ a c, v = .slice a 0 c ∧ (a = none → c = 0)
theorem NilL.ln {v : Value} (h : NilL v) (w : World) : LnS w v [] := by obtain ⟨a, c, rfl, h⟩ := h; exact .inl ⟨a, c, rfl, h, rfl⟩
theorem nil0 : NilL (.slice none 0 0) := ⟨none, 0, rfl, fun _ => rfl⟩
def hdB (c m : Int) : Bool := decide (0 ≤ c ∧ c < 8 ∧ 1 ≤ m ∧ m ≤ 2147483647)
theorem hdB_cases (c m : Int) : (hdB c m = false ∧ (c < 0 ∨ (0 ≤ c ∧ 8 ≤ c) ∨ (0 ≤ c ∧ c < 8 ∧ m < 1) ∨ (0 ≤ c ∧ c < 8 ∧ 1 ≤ m ∧ 2147483647 < m))) ∨ (hdB c m = true ∧ 0 ≤ c ∧ c < 8 ∧ 1 ≤ m ∧ m ≤ 2147483647) := by
  unfold hdB
  by_cases h : 0 ≤ c ∧ c < 8 ∧ 1 ≤ m ∧ m ≤ 2147483647
  · exact .inr ⟨decide_eq_true h, h⟩
  · exact .inl ⟨decide_eq_false h, by omega⟩
end Go.Proofs.YtafkbodmiblbnaaGreatDoor
