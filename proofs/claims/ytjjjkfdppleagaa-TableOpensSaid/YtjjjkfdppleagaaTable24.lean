/- A table's seats as the document has them: where a client's is, without it, with another one. -/
import Derived.Test.YtjjjkfdppleagaaTable23
namespace Go.Proofs.Ytjjjkfdppleagaa
open Go Go.RowKit
set_option linter.unusedVariables false
set_option linter.unusedSimpArgs false
theorem seats_app (A B : List SW) : seatsOf (A ++ B) = seatsOf A ++ seatsOf B := by unfold seatsOf; rw [List.filter_append]
theorem seats_split (T : List SW) (i : Nat) (hi : i < T.length) : seatsOf T = seatsOf (T.take i) ++ (seatsOf [T[i]] ++ seatsOf (T.drop (i + 1))) := by
  conv => lhs; rw [← List.take_append_drop i T, seats_app, ← List.getElem_cons_drop hi, show T[i] :: T.drop (i + 1) = [T[i]] ++ T.drop (i + 1) from rfl, seats_app]
theorem seats_one {s : SW} (h : s.had = true) : seatsOf [s] = [s] := by unfold seatsOf; rw [List.filter_cons_of_pos h]; rfl
theorem seats_no {s : SW} (h : s.had = false) : seatsOf [s] = [] := by unfold seatsOf; rw [List.filter_cons_of_neg (by simp [h])]; rfl
theorem seats_set (T : List SW) (i : Nat) (hi : i < T.length) (s : SW) : seatsOf (T.set i s) = seatsOf (T.take i) ++ (seatsOf [s] ++ seatsOf (T.drop (i + 1))) := by
  rw [List.set_eq_take_append_cons_drop, if_pos hi, seats_app, show s :: T.drop (i + 1) = [s] ++ T.drop (i + 1) from rfl, seats_app]
theorem low_c {T : List SW} (h : TabI T) (i : Nat) : ∀ s ∈ seatsOf (T.take i), s.c < i := fun s hs => by
  obtain ⟨h1, h2⟩ := List.mem_filter.1 hs
  obtain ⟨j, hj, rfl⟩ := List.getElem_of_mem h1
  rw [List.getElem_take] at h2 ⊢
  rw [List.length_take] at hj
  rw [(h.ok j (by omega) h2).1]
  omega
theorem high_c {T : List SW} (h : TabI T) (i : Nat) : ∀ s ∈ seatsOf (T.drop (i + 1)), (i : Int) < s.c := fun s hs => by
  obtain ⟨h1, h2⟩ := List.mem_filter.1 hs
  obtain ⟨j, hj, rfl⟩ := List.getElem_of_mem h1
  rw [List.getElem_drop] at h2 ⊢
  rw [List.length_drop] at hj
  rw [(h.ok (i + 1 + j) (by omega) h2).1]
  omega
theorem seats_c {T : List SW} (h : TabI T) : ∀ s ∈ seatsOf T, 0 ≤ s.c ∧ s.c < 8 := fun s hs => by
  obtain ⟨h1, h2⟩ := List.mem_filter.1 hs
  obtain ⟨j, hj, rfl⟩ := List.getElem_of_mem h1
  have := (h.ok j hj h2).1
  have := h.len
  omega
theorem seats_had (T : List SW) : ∀ s ∈ seatsOf T, s.had = true := fun s hs => (List.mem_filter.1 hs).2
theorem idx_had {T : List SW} (h : TabI T) (i : Nat) (hi : i < T.length) (hh : (T[i]).had = true) : idx (seatsOf T) i = some (seatsOf (T.take i)).length ∧ ∃ hk : (seatsOf (T.take i)).length < (seatsOf T).length, (seatsOf T)[(seatsOf (T.take i)).length] = T[i] := by
  have e : seatsOf T = seatsOf (T.take i) ++ (T[i] :: seatsOf (T.drop (i + 1))) := by rw [seats_split T i hi, seats_one hh]; rfl
  have hk : (seatsOf (T.take i)).length < (seatsOf T).length := by rw [e, List.length_append, List.length_cons]; omega
  have hg : (seatsOf T)[(seatsOf (T.take i)).length] = T[i] := by
    have h9 : (seatsOf T)[(seatsOf (T.take i)).length]? = some T[i] := by rw [e, List.getElem?_append_right (Nat.le_refl _)]; simp
    obtain ⟨h8, h7⟩ := List.getElem?_eq_some_iff.1 h9
    exact h7
  refine ⟨idx_some hk (fun j hj => ?_) (by rw [hg, (h.ok i hi hh).1]), hk, hg⟩
  have h9 : (seatsOf T)[j]? = (seatsOf (T.take i))[j]? := by rw [e, List.getElem?_append_left hj]
  rw [List.getElem?_eq_getElem (by omega), List.getElem?_eq_getElem hj] at h9
  simp only [Option.some.injEq] at h9
  rw [h9]
  have := low_c h i _ (List.getElem_mem hj)
  omega
theorem idx_free {T : List SW} (h : TabI T) (c : Int) (hc : ∀ i (hi : i < T.length), c = i → (T[i]).had = false) : idx (seatsOf T) c = none := by
  refine idx_none fun k hk he => ?_
  obtain ⟨h1, h2⟩ := List.mem_filter.1 (List.getElem_mem hk)
  obtain ⟨j, hj, hjk⟩ := List.getElem_of_mem h1
  have h3 : (T[j]).had = true := by rw [hjk]; exact h2
  have h4 := (h.ok j hj h3).1
  rw [hjk, he] at h4
  have := hc j hj h4
  rw [h3] at this
  cases this
theorem seatAt_free {T : List SW} (h : TabI T) (c : Int) (hh : (seatAt T c).had = false) : idx (seatsOf T) c = none ∧ seatAt T c = SW.zero := by
  unfold seatAt at hh ⊢
  by_cases hc : clientB c = true
  · obtain ⟨i, rfl, hi⟩ := clientB_nat hc
    rw [if_pos hc] at hh ⊢
    have hi2 : i < T.length := by rw [h.len]; exact hi
    have e : T.getD (i : Int).toNat SW.zero = T[i] := by simp [hi2]
    rw [e] at hh ⊢
    exact ⟨idx_free h _ fun j hj he => by obtain rfl : j = i := by omega
                                          exact hh, h.free i hi2 hh⟩
  · rw [if_neg hc]
    refine ⟨idx_free h _ fun j hj he => ?_, rfl⟩
    exfalso
    apply hc
    rw [he]
    have := h.len
    exact decide_eq_true ⟨by omega, by omega⟩
theorem seatAt_had {T : List SW} (h : TabI T) (c : Int) (hh : (seatAt T c).had = true) : ∃ i : Nat, c = i ∧ i < 8 ∧ ∃ hi : i < T.length, seatAt T c = T[i] := by
  unfold seatAt at hh ⊢
  by_cases hc : clientB c = true
  · obtain ⟨i, rfl, hi⟩ := clientB_nat hc
    have hi2 : i < T.length := by rw [h.len]; exact hi
    rw [if_pos hc]
    exact ⟨i, rfl, hi, hi2, by simp [hi2]⟩
  · rw [if_neg hc] at hh; cases hh
/-- Without a client's seat. -/
def sans (F : List SW) (c : Int) : List SW := F.filter fun s => s.c != c
theorem sans_app (F G : List SW) (c : Int) : sans (F ++ G) c = sans F c ++ sans G c := by unfold sans; rw [List.filter_append]
theorem sans_all {F : List SW} {c : Int} (h : ∀ s ∈ F, s.c ≠ c) : sans F c = F := List.filter_eq_self.2 fun s hs => by rw [bne_iff_ne]; exact h s hs
theorem sans_seats {T : List SW} (h : TabI T) (i : Nat) (hi : i < T.length) : sans (seatsOf T) i = seatsOf (T.take i) ++ seatsOf (T.drop (i + 1)) := by
  rw [seats_split T i hi, sans_app, sans_app, sans_all (fun s hs => by have := low_c h i s hs; omega), sans_all (F := seatsOf (T.drop (i + 1))) (fun s hs => by have := high_c h i s hs; omega)]
  cases hh : (T[i]).had with
  | true => rw [seats_one hh, show sans [T[i]] i = [] from by unfold sans; rw [List.filter_cons_of_neg (by rw [(h.ok i hi hh).1]; simp)]; rfl]; rfl
  | false => rw [seats_no hh]; rfl
theorem sans_take (F : List SW) (c : Int) (k : Nat) (hk : k < F.length) : sans (F.take (k + 1)) c = if F[k].c = c then sans (F.take k) c else sans (F.take k) c ++ [F[k]] := by
  rw [List.take_succ_eq_append_getElem hk, sans_app]
  split
  · rename_i h; rw [show sans [F[k]] c = [] from by unfold sans; rw [List.filter_cons_of_neg (by rw [h]; simp)]; rfl, List.append_nil]
  · rename_i h; rw [sans_all (F := [F[k]]) (fun s hs => by rw [List.mem_singleton.1 hs]; exact h)]
theorem seats_len8 {T : List SW} (h : T.length = 8) : (seatsOf T).length ≤ 8 := by have := List.length_filter_le (·.had) T; unfold seatsOf; omega
end Go.Proofs.Ytjjjkfdppleagaa
