/- A pipe's calls that only look: isNone, Base, Top, check, part. -/
import Derived.Test.YtpknfeokfladkaaDoorBkB
import Derived.IntWalk
import Derived.Deep.QuietTactic
namespace Go.Proofs.YtpknfeokfladkaaDoor
open Go.RowKit
set_option linter.unusedVariables false
set_option linter.unusedSimpArgs false
/-- A pipe's cells. -/
structure PC (w : World) (g : Nat) (b : Int) (a : Option Addr) (n c : Nat) : Prop where
  c0 : w.cell? ⟨g, 0, none⟩ = some (.bool true)
  c1 : w.cell? ⟨g, 1, none⟩ = some (.int .i64 b)
  c2 : w.cell? ⟨g, 2, none⟩ = some (.slice a n c)
theorem PC.drewN {w : World} {g n c : Nat} {b : Int} {a : Option Addr} (h : PC w g b a n c) (k : Nat) : PC (w.drewN k) g b a n c := ⟨h.c0, h.c1, h.c2⟩
theorem pnone_c {w : World} {g n c : Nat} {b : Int} {a : Option Addr} (h : PC w g b a n c) : Calls Tryd.prog 40 #[.pointer (some ⟨g, 0, none⟩)] w fun e w' => e = .returned (.bool false) ∧ w = w' := by
  obtain ⟨c0, -, -⟩ := h
  go_enter Tryd.func40, Tryd.ntmps40
  go_wp2
  go_ret
  exact ⟨rfl, rfl⟩
/-- None: nil, or not made by New. -/
def NP (w : World) (v : Value) : Prop := v = .pointer none ∨ ∃ g, v = .pointer (some ⟨g, 0, none⟩) ∧ w.cell? ⟨g, 0, none⟩ = some (.bool false)
theorem pnone_n {w : World} {v : Value} (h : NP w v) : Calls Tryd.prog 40 #[v] w fun e w' => e = .returned (.bool true) ∧ w = w' := by
  rcases h with rfl | ⟨g, rfl, c0⟩
  · go_enter Tryd.func40, Tryd.ntmps40
    go_wp2
    go_ret
    exact ⟨rfl, rfl⟩
  · go_enter Tryd.func40, Tryd.ntmps40
    go_wp2
    go_ret
    exact ⟨rfl, rfl⟩
theorem base_c {w : World} {g n c : Nat} {b : Int} {a : Option Addr} (h : PC w g b a n c) : Calls Tryd.prog 28 #[.pointer (some ⟨g, 0, none⟩)] w fun e w' => e = .returned (.int .i64 b) ∧ w = w' := by
  have HN := Lib.hid (pnone_c h)
  have c1 := h.c1
  clear h
  go_enter Tryd.func28, Tryd.ntmps28
  go_wp2_with fail
  refine HN.out.mono ?_
  rintro r0 w1 ⟨rfl, rfl⟩
  clear HN
  go_wp2_with fail
  go_ret
  exact ⟨rfl, rfl⟩
set_option maxHeartbeats 4000000 in
theorem top_c {w : World} {g n c : Nat} {b : Int} {a : Option Addr} (h : PC w g b a n c) (h0 : 0 ≤ b) (h1 : b ≤ 4611686018427387904) (h2 : n ≤ 1000000) :
    Calls Tryd.prog 29 #[.pointer (some ⟨g, 0, none⟩)] w fun e w' => e = .returned (.int .i64 (b + n)) ∧ ∃ k, w' = w.drewN k := by
  have HN := Lib.hid (pnone_c h)
  have c1 := h.c1
  have c2 := h.c2
  have hw : IntKind.i64.wrap (b + (n : Int)) = b + n := IntWalk.i64_in _ (by omega)
  clear h h0 h1 h2
  go_enter Tryd.func29, Tryd.ntmps29
  go_wp2_with fail
  refine HN.out.mono ?_
  rintro r0 w1 ⟨rfl, rfl⟩
  clear HN
  go_wp2_with fail
  go_quiet (fail)
  go_wp2
  go_ret
  exact ⟨rfl, nq, rfl⟩
theorem top_n {w : World} {v : Value} (h : NP w v) : Calls Tryd.prog 29 #[v] w fun e w' => e = .returned (.int .i64 0) ∧ w = w' := by
  have HN := Lib.hid (pnone_n h)
  clear h
  go_enter Tryd.func29, Tryd.ntmps29
  go_wp2_with fail
  refine HN.out.mono ?_
  rintro r0 w1 ⟨rfl, rfl⟩
  clear HN
  go_wp2_with fail
  go_ret
  exact ⟨rfl, rfl⟩
theorem base_n {w : World} {v : Value} (h : NP w v) : Calls Tryd.prog 28 #[v] w fun e w' => e = .returned (.int .i64 0) ∧ w = w' := by
  have HN := Lib.hid (pnone_n h)
  clear h
  go_enter Tryd.func28, Tryd.ntmps28
  go_wp2_with fail
  refine HN.out.mono ?_
  rintro r0 w1 ⟨rfl, rfl⟩
  clear HN
  go_wp2_with fail
  go_ret
  exact ⟨rfl, rfl⟩
theorem check_n {w : World} {v : Value} (h : NP w v) (op : Int) : Calls Tryd.prog 45 #[v, .int .i64 op] w fun e w' => e = .returned (.int .i64 1) ∧ w = w' := by
  have HN := Lib.hid (pnone_n h)
  clear h
  go_enter Tryd.func45, Tryd.ntmps45
  go_wp2_with fail
  refine HN.out.mono ?_
  rintro r0 w1 ⟨rfl, rfl⟩
  clear HN
  go_wp2_with fail
  go_ret
  exact ⟨rfl, rfl⟩
def ckB (b op : Int) (n : Nat) : Int := if b ≤ op ∧ op ≤ b + n then 0 else 9
set_option maxHeartbeats 4000000 in
theorem check_c {w : World} {g n c : Nat} {b : Int} {a : Option Addr} (op : Int) (h : PC w g b a n c) (h0 : 0 ≤ b) (h1 : b ≤ 4611686018427387904) (h2 : n ≤ 1000000) :
    Calls Tryd.prog 45 #[.pointer (some ⟨g, 0, none⟩), .int .i64 op] w fun e w' => e = .returned (.int .i64 (ckB b op n)) ∧ ∃ k, w' = w.drewN k := by
  have HN := Lib.hid (pnone_c h)
  have HT := Lib.hid (top_c h h0 h1 h2)
  have c1 := h.c1
  obtain ⟨t, ht⟩ : ∃ t, t = b + (n : Int) := ⟨_, rfl⟩
  unfold ckB
  rw [← ht] at HT ⊢
  clear h h0 h1 h2 ht
  by_cases l0 : op < b
  · rw [if_neg (by omega)]
    go_enter Tryd.func45, Tryd.ntmps45
    go_wp2_with fail
    refine HN.out.mono ?_
    rintro r0 w1 ⟨rfl, rfl⟩
    clear HN
    go_wp2_with fail
    go_ret
    exact ⟨rfl, 0, rfl⟩
  · have d0 : decide (op < b) = false := decide_eq_false l0
    by_cases l1 : t < op
    · rw [if_neg (by omega)]
      have d1 : decide (t < op) = true := decide_eq_true l1
      go_enter Tryd.func45, Tryd.ntmps45
      go_wp2_with fail
      refine HN.out.mono ?_
      rintro r0 w1 ⟨rfl, rfl⟩
      clear HN
      go_wp2_with fail
      refine HT.out.mono ?_
      rintro r0 w1 ⟨rfl, k, rfl⟩
      clear HT
      go_wp2_with fail
      go_ret
      exact ⟨rfl, k, rfl⟩
    · rw [if_pos (by omega)]
      have d1 : decide (t < op) = false := decide_eq_false l1
      go_enter Tryd.func45, Tryd.ntmps45
      go_wp2_with fail
      refine HN.out.mono ?_
      rintro r0 w1 ⟨rfl, rfl⟩
      clear HN
      go_wp2_with fail
      refine HT.out.mono ?_
      rintro r0 w1 ⟨rfl, k, rfl⟩
      clear HT
      go_wp2_with fail
      go_ret
      exact ⟨rfl, k, rfl⟩
/-- 'l[i:j:j]'. -/
abbrev partV (a : Option Addr) (i j : Nat) : Value := .slice (if j = i then a else a.map (·.add (i * 7))) (j - i) (j - i)
set_option maxHeartbeats 4000000 in
theorem part_c {w : World} {g n c : Nat} {b : Int} {a : Option Addr} (i j : Nat) (f t : Int) (h : PC w g b a n c) (h0 : 0 ≤ b) (h1 : b ≤ 4611686018427387904) (h2 : n ≤ 1000000) (hij : i ≤ j) (hj : j ≤ n) (hn : n ≤ c) (hf : f = b + i) (ht : t = b + j) :
    Calls Tryd.prog 46 #[.pointer (some ⟨g, 0, none⟩), .int .i64 f, .int .i64 t] w fun e w' => e = .returned (partV a i j) ∧ ∃ k, w' = w.drewN k := by
  have c1 := h.c1
  have c2 := h.c2
  have w0 : IntKind.i64.wrap (f - b) = (i : Int) := by rw [show f - b = (i : Int) by omega]; exact IntWalk.i64_in _ (by omega)
  have w1 : IntKind.i64.wrap (t - b) = (j : Int) := by rw [show t - b = (j : Int) by omega]; exact IntWalk.i64_in _ (by omega)
  have k0 : (0 : Int) ≤ (i : Int) := by omega
  have k1 : (i : Int) ≤ (j : Int) := by omega
  have k2 : (j : Int) ≤ (j : Int) := by omega
  have k3 : (j : Int) ≤ (c : Int) := by omega
  clear h h0 h1 h2 hf ht hij hj hn
  go_enter Tryd.func46, Tryd.ntmps46
  go_wp2_with fail
  go_quiet (fail)
  go_wp2
  all_goals
    go_ret
    exact ⟨by simp [partV, *], nq, rfl⟩
end Go.Proofs.YtpknfeokfladkaaDoor
