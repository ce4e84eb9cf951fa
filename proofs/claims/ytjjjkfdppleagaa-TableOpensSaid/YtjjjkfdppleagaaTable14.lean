/- What TableOnce stands on: how a table's judgement and number of seats turn with a seat. -/
import Derived.Test.YtjjjkfdppleagaaTable13
namespace Go.Proofs.Ytjjjkfdppleagaa
open Go Go.RowKit
set_option linter.unusedVariables false
theorem seatAt_get {T : List SW} {i : Nat} (hT : T.length = 8) (hi : i < 8) {s : SW} (hs : T[i]? = some s) : seatAt T i = s := by
  unfold seatAt
  rw [if_pos (show clientB (i : Int) = true from decide_eq_true ⟨by omega, by omega⟩)]
  simp [hs]
theorem judge_had {T : List SW} {i : Nat} (hT : T.length = 8) (hi : i < 8) {s : SW} (hs : T[i]? = some s) (hh : s.had = true) (n : Int) : judgeV T i n = if s.n < n then 1 else if s.n = n then 2 else 3 := by
  unfold judgeV
  rw [seatAt_get hT hi hs, if_pos hh]
theorem judge_free {T : List SW} {i : Nat} (hT : T.length = 8) (hi : i < 8) {s : SW} (hs : T[i]? = some s) (hh : s.had = false) (n : Int) : judgeV T i n = if 6 ≤ (seatsOf T).length then 4 else 1 := by
  unfold judgeV
  rw [seatAt_get hT hi hs, if_neg (by rw [hh]; simp)]
theorem seats_set_new (T : List SW) (i : Nat) (hi : i < T.length) (s : SW) (h0 : (T[i]).had = false) (h1 : s.had = true) : (seatsOf (T.set i s)).length = (seatsOf T).length + 1 := by
  unfold seatsOf
  rw [List.set_eq_take_append_cons_drop, if_pos hi]
  conv => rhs; rw [← List.take_append_drop i T, ← List.getElem_cons_drop hi]
  rw [List.filter_append, List.filter_append, List.filter_cons_of_pos (p := fun x : SW => x.had) h1, List.filter_cons_of_neg (p := fun x : SW => x.had) (by rw [h0]; simp)]
  simp only [List.length_append, List.length_cons]
  omega
theorem seats_set_had (T : List SW) (i : Nat) (hi : i < T.length) (s : SW) (h0 : (T[i]).had = true) (h1 : s.had = true) : (seatsOf (T.set i s)).length = (seatsOf T).length := by
  unfold seatsOf
  rw [List.set_eq_take_append_cons_drop, if_pos hi]
  conv => rhs; rw [← List.take_append_drop i T, ← List.getElem_cons_drop hi]
  rw [List.filter_append, List.filter_append, List.filter_cons_of_pos (p := fun x : SW => x.had) h1, List.filter_cons_of_pos (p := fun x : SW => x.had) h0]
  simp only [List.length_append, List.length_cons]
/-- What stands in a table that TableOnce fills. -/
structure OnceT (T : List SW) : Prop where
  len : T.length = 8
  many : (seatsOf T).length ≤ 6
  had : ∀ i (hi : i < T.length), (T[i]).had = true → 1 ≤ (T[i]).n ∧ (T[i]).n ≤ 2147483647
  free : ∀ i (hi : i < T.length), (T[i]).had = false → (T[i]).n = 0
theorem OnceT.zero : OnceT T0 := by
  refine ⟨rfl, by have h : (seatsOf T0).length = 0 := by kernel_rfl
                  omega, fun i hi h => ?_, fun i hi h => ?_⟩
  · rw [show T0[i] = SW.zero from List.eq_of_mem_replicate (List.getElem_mem hi)] at h; cases h
  · rw [show T0[i] = SW.zero from List.eq_of_mem_replicate (List.getElem_mem hi)]; rfl
theorem OnceT.put {T : List SW} (h : OnceT T) (i : Nat) (hi : i < T.length) (s : SW) (hs : s.had = true) (h1 : 1 ≤ s.n) (h2 : s.n ≤ 2147483647) (hm : (T[i]).had = true ∨ (seatsOf T).length < 6) : OnceT (T.set i s) := by
  refine ⟨by rw [List.length_set]; exact h.len, ?_, fun j hj hh => ?_, fun j hj hh => ?_⟩
  · cases h0 : (T[i]).had with
    | true => rw [seats_set_had T i hi s h0 hs]; exact h.many
    | false => rw [seats_set_new T i hi s h0 hs]; rcases hm with hm | hm; rw [h0] at hm; cases hm; omega
  · by_cases e : i = j
    · subst e; rw [List.getElem_set_self]; exact ⟨h1, h2⟩
    · rw [List.getElem_set_ne e] at hh ⊢; exact h.had j _ hh
  · by_cases e : i = j
    · subst e; rw [List.getElem_set_self] at hh; rw [hs] at hh; cases hh
    · rw [List.getElem_set_ne e] at hh ⊢; exact h.free j _ hh
/-- The numbers that were had, as TableOnce keeps them. -/
def hadCs (T : List SW) : Array Value := (T.map fun s => Value.int .i64 s.n).toArray
theorem hadCs_set (T : List SW) (i : Nat) (s : SW) : (hadCs T).setIfInBounds i (.int .i64 s.n) = hadCs (T.set i s) := by
  unfold hadCs
  rw [List.setIfInBounds_toArray, List.map_set]
theorem hadCs_get (T : List SW) (i : Nat) (s : SW) (hs : T[i]? = some s) : (hadCs T)[i]? = some (.int .i64 s.n) := by
  unfold hadCs
  rw [List.getElem?_toArray, List.getElem?_map, hs]
  rfl
end Go.Proofs.Ytjjjkfdppleagaa
