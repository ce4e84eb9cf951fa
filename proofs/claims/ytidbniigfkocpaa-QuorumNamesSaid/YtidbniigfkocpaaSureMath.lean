/- What Sure is: as many as are enough have at least that, fewer have more. -/
import Derived.Test.YtidbniigfkocpaaSure
namespace Go.Proofs.Ytidbniigfkocpaa
open Go.RowKit
set_option linter.unusedVariables false
def geC (l : List Int) (s : Int) : Nat := (l.filter fun x => decide (s ≤ x)).length
def gtC (l : List Int) (s : Int) : Nat := (l.filter fun x => decide (s < x)).length
theorem sorted_perm (l : List Int) : (sorted l).Perm l := List.mergeSort_perm l _
theorem sorted_pw (l : List Int) : (sorted l).Pairwise (fun a b => a ≤ b) := by
  have h := List.pairwise_mergeSort (le := fun x y : Int => decide (x ≤ y)) (fun a b c h1 h2 => by simp at *; omega) (fun a b => by simp; omega) l
  exact h.imp fun h => by simpa using h
theorem geC_perm {l m : List Int} (h : l.Perm m) (s : Int) : geC l s = geC m s := (h.filter _).length_eq
theorem gtC_perm {l m : List Int} (h : l.Perm m) (s : Int) : gtC l s = gtC m s := (h.filter _).length_eq
theorem geC_at {m : List Int} (hp : m.Pairwise (fun a b => a ≤ b)) {h : Nat} (hh : h < m.length) : m.length - h ≤ geC m m[h] := by
  unfold geC
  obtain ⟨s, hs⟩ : ∃ s, m[h] = s := ⟨_, rfl⟩
  rw [hs]
  have h0 : (m.filter fun x => decide (s ≤ x)).length = ((m.take h).filter fun x => decide (s ≤ x)).length + ((m.drop h).filter fun x => decide (s ≤ x)).length := by
    rw [← List.length_append, ← List.filter_append, List.take_append_drop]
  rw [h0]
  have h1 : (m.drop h).filter (fun x => decide (s ≤ x)) = m.drop h := by
    rw [List.filter_eq_self]
    intro x hx
    obtain ⟨j, hj⟩ := List.mem_iff_getElem?.1 hx
    rw [List.getElem?_drop] at hj
    obtain ⟨hj1, hj2⟩ := List.getElem?_eq_some_iff.1 hj
    rw [decide_eq_true_eq, ← hj2, ← hs]
    by_cases hj0 : j = 0
    · subst hj0; exact Int.le_refl _
    · exact List.pairwise_iff_getElem.1 hp h (h + j) hh hj1 (by omega)
  have h2 : m.length - h = (m.drop h).length := by rw [List.length_drop]
  have h3 := congrArg List.length h1
  omega
theorem gtC_at {m : List Int} (hp : m.Pairwise (fun a b => a ≤ b)) {h : Nat} (hh : h < m.length) : gtC m m[h] ≤ m.length - h - 1 := by
  unfold gtC
  obtain ⟨s, hs⟩ : ∃ s, m[h] = s := ⟨_, rfl⟩
  rw [hs]
  have h0 : (m.filter fun x => decide (s < x)).length = ((m.take (h + 1)).filter fun x => decide (s < x)).length + ((m.drop (h + 1)).filter fun x => decide (s < x)).length := by
    rw [← List.length_append, ← List.filter_append, List.take_append_drop]
  rw [h0]
  have h1 : (m.take (h + 1)).filter (fun x => decide (s < x)) = [] := by
    rw [List.filter_eq_nil_iff]
    intro x hx
    obtain ⟨j, hj⟩ := List.mem_iff_getElem?.1 hx
    rw [List.getElem?_take] at hj
    split at hj
    · rename_i hjh
      obtain ⟨hj1, hj2⟩ := List.getElem?_eq_some_iff.1 hj
      rw [decide_eq_true_eq, ← hj2, ← hs]
      by_cases hj0 : j = h
      · subst hj0; omega
      · have := List.pairwise_iff_getElem.1 hp j h hj1 hh (by omega)
        omega
    · cases hj
  have h2 := List.length_filter_le (fun x => decide (s < x)) (m.drop (h + 1))
  have h3 := congrArg List.length h1
  rw [List.length_drop] at h2
  simp only [List.length_nil] at h3
  omega
theorem gt_ge {l : List Int} {s t : Int} (h : t < s) : geC l s ≤ gtC l t := by
  unfold geC gtC
  induction l with
  | nil => simp
  | cons a l ih =>
    rw [List.filter_cons, List.filter_cons]
    by_cases h1 : s ≤ a
    · have h2 : t < a := by omega
      simp [h1, h2]; omega
    · by_cases h2 : t < a
      · simp [h1, h2]; omega
      · simp [h1, h2]; omega
/-- As many as are enough have at least that, fewer have more. -/
theorem sure_spec {n : Nat} {A : List Int} (hA : A.length = 15) (hn : n ≤ 15) (hodd : n % 2 = 1) : n / 2 + 1 ≤ geC (A.take n) (sureOf n A) ∧ gtC (A.take n) (sureOf n A) ≤ n / 2 ∧ sureOf n A ∈ A.take n := by
  have hl : (A.take n).length = n := by rw [List.length_take]; omega
  have hlt : n / 2 < (sorted (A.take n)).length := by rw [sorted_len, hl]; omega
  have hs : sureOf n A = (sorted (A.take n))[n / 2] := by
    unfold sureOf; rw [List.getD_eq_getElem?_getD, List.getElem?_eq_getElem hlt]; rfl
  rw [hs]
  have h1 := geC_at (sorted_pw (A.take n)) hlt
  have h2 := gtC_at (sorted_pw (A.take n)) hlt
  rw [geC_perm (sorted_perm _)] at h1
  rw [gtC_perm (sorted_perm _)] at h2
  have hsl : (sorted (A.take n)).length = n := by rw [sorted_len, hl]
  rw [hsl] at h1 h2
  refine ⟨by omega, by omega, (sorted_perm _).mem_iff.1 (List.getElem_mem hlt)⟩
theorem sure_is {n : Nat} {A : List Int} {t : Int} (hA : A.length = 15) (hn : n ≤ 15) (hodd : n % 2 = 1) (h1 : n / 2 + 1 ≤ geC (A.take n) t) (h2 : gtC (A.take n) t ≤ n / 2) : sureOf n A = t := by
  obtain ⟨h3, h4, _⟩ := sure_spec hA hn hodd
  rcases Int.lt_trichotomy (sureOf n A) t with h | h | h
  · have := gt_ge (l := A.take n) h; omega
  · exact h
  · have := gt_ge (l := A.take n) h; omega
end Go.Proofs.Ytidbniigfkocpaa
