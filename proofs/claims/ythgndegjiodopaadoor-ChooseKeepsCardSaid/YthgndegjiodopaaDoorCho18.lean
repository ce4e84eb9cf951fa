/- Package choose: the order in which offers came does not matter; what the best one is. -/
import Derived.Test.YthgndegjiodopaaDoorCho17
namespace Go.Proofs.YthgndegjiodopaaDoor
open Go Go.RowKit
set_option linter.unusedVariables false
set_option linter.unusedSimpArgs false
theorem getO_iff {i : Int} {x : OvM} : ∀ {l : List OvM}, (l.map (·.fr)).Nodup → (getO l i = some x ↔ x ∈ l ∧ x.fr = i)
  | [], _ => by simp [getO]
  | y :: l, h => by
    rw [List.map_cons, List.nodup_cons] at h
    have ih := getO_iff (i := i) (x := x) h.2
    unfold getO at *
    rw [List.find?_cons]
    by_cases e : y.fr = i
    · rw [show decide (y.fr = i) = true from decide_eq_true e]
      constructor
      · intro h1
        obtain rfl : y = x := by simpa using h1
        exact ⟨List.mem_cons_self .., e⟩
      · rintro ⟨h1, h2⟩
        rcases List.mem_cons.1 h1 with rfl | h3
        · rfl
        · exact absurd (List.mem_map.2 ⟨x, h3, by rw [h2, e]⟩) h.1
    · rw [show decide (y.fr = i) = false from decide_eq_false e]
      show List.find? _ l = some x ↔ _
      rw [ih, List.mem_cons]
      constructor
      · exact fun ⟨h1, h2⟩ => ⟨.inr h1, h2⟩
      · rintro ⟨rfl | h1, h2⟩
        · exact absurd h2 e
        · exact ⟨h1, h2⟩
theorem getO_perm {l l' : List OvM} (h : l.Perm l') (hn : (l.map (·.fr)).Nodup) (i : Int) : getO l i = getO l' i := by
  have hn' : (l'.map (·.fr)).Nodup := (h.map _).nodup_iff.1 hn
  cases h1 : getO l' i with
  | some x => exact (getO_iff hn).2 ⟨h.mem_iff.2 ((getO_iff hn').1 h1).1, ((getO_iff hn').1 h1).2⟩
  | none =>
    cases h2 : getO l i with
    | none => rfl
    | some x =>
      have := (getO_iff hn').2 ⟨h.mem_iff.1 ((getO_iff hn).1 h2).1, ((getO_iff hn).1 h2).2⟩
      rw [h1] at this; cases this
theorem byFr_perm {l l' : List OvM} (h : l.Perm l') (hn : (l.map (·.fr)).Nodup) (k : Nat) : byFr l k = byFr l' k := by
  unfold byFr
  rw [show (fun (i : Nat) => getO l (i : Int)) = fun (i : Nat) => getO l' (i : Int) from funext fun i => getO_perm h hn i]
/-- Every offer of those below k lies there. -/
theorem mem_byFr {l : List OvM} (hn : (l.map (·.fr)).Nodup) {k : Nat} {x : OvM} : x ∈ byFr l k ↔ x ∈ l ∧ 0 ≤ x.fr ∧ x.fr < k := by
  unfold byFr
  rw [List.mem_filterMap]
  constructor
  · rintro ⟨i, hi, h1⟩
    have h2 := (getO_iff hn).1 h1
    have := List.mem_range.1 hi
    exact ⟨h2.1, by omega, by omega⟩
  · rintro ⟨h1, h2, h3⟩
    exact ⟨x.fr.toNat, List.mem_range.2 (by omega), (getO_iff hn).2 ⟨h1, by omega⟩⟩
theorem cmpO_lt (x y : OvM) : cmpO x y < 0 ↔ (y.la < x.la ∨ (y.la = x.la ∧ (y.top < x.top ∨ (y.top = x.top ∧ x.fr < y.fr)))) := by
  unfold cmpO against cmpI
  generalize y.top = a
  generalize x.top = b
  repeat' split <;> omega
theorem fold_best : ∀ (ys : List OvM) (m : OvM), ¬ cmpO m (ys.foldl (fun m x => if cmpO x m < 0 then x else m) m) < 0 ∧ ∀ y ∈ ys, ¬ cmpO y (ys.foldl (fun m x => if cmpO x m < 0 then x else m) m) < 0
  | [], m => ⟨by rw [List.foldl_nil, cmpO_lt]; omega, fun y hy => by cases hy⟩
  | x :: ys, m => by
    rw [List.foldl_cons]
    have ih := fold_best ys (if cmpO x m < 0 then x else m)
    generalize ys.foldl (fun m x => if cmpO x m < 0 then x else m) (if cmpO x m < 0 then x else m) = r at *
    have hx : ¬ cmpO m r < 0 ∧ ¬ cmpO x r < 0 := by
      have h1 := ih.1
      by_cases e : cmpO x m < 0
      · rw [if_pos e] at h1
        rw [cmpO_lt] at *
        rw [cmpO_lt]
        constructor <;> omega
      · rw [if_neg e] at h1
        rw [cmpO_lt] at *
        rw [cmpO_lt]
        constructor <;> omega
    refine ⟨hx.1, fun y hy => ?_⟩
    rcases List.mem_cons.1 hy with rfl | h2
    · exact hx.2
    · exact ih.2 y h2
/-- None is better than the best one. -/
theorem minO_best {ys : List OvM} {y : OvM} (hy : y ∈ ys) : ¬ ((minO ys).la < y.la ∨ ((minO ys).la = y.la ∧ ((minO ys).top < y.top ∨ ((minO ys).top = y.top ∧ y.fr < (minO ys).fr)))) := by
  rw [← cmpO_lt]
  match ys, hy with
  | x :: ys, hy =>
    rcases List.mem_cons.1 hy with rfl | h2
    · exact (fold_best ys y).1
    · exact (fold_best ys x).2 y h2
end Go.Proofs.YthgndegjiodopaaDoor
