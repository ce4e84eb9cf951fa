/- Who is in a set: as a rising list, and how many they are. -/
import Derived.Test.YtidbniigfkocpaaRefPut
namespace Go.Proofs.Ytidbniigfkocpaa
open Go.RowKit
set_option linter.unusedVariables false
set_option linter.unusedSimpArgs false
theorem rise_eq : ∀ {l m : List Int}, l.Pairwise (· < ·) → m.Pairwise (· < ·) → (∀ x, x ∈ l ↔ x ∈ m) → l = m
  | [], [], _, _, _ => rfl
  | [], b :: m, _, _, h => by have := (h b).2 (List.mem_cons_self ..); cases this
  | a :: l, [], _, _, h => by have := (h a).1 (List.mem_cons_self ..); cases this
  | a :: l, b :: m, hl, hm, h => by
    rw [List.pairwise_cons] at hl hm
    have hab : a = b := by
      rcases List.mem_cons.1 ((h a).1 (List.mem_cons_self ..)) with h1 | h1
      · exact h1
      · rcases List.mem_cons.1 ((h b).2 (List.mem_cons_self ..)) with h2 | h2
        · exact h2.symm
        · have := hm.1 a h1; have := hl.1 b h2; omega
    subst hab
    rw [rise_eq hl.2 hm.2 fun x => ⟨fun hx => by
      rcases List.mem_cons.1 ((h x).1 (List.mem_cons_of_mem _ hx)) with h1 | h1
      · have := hl.1 x hx; omega
      · exact h1, fun hx => by
      rcases List.mem_cons.1 ((h x).2 (List.mem_cons_of_mem _ hx)) with h1 | h1
      · have := hm.1 x hx; omega
      · exact h1⟩]
theorem whoOf_mem (s n : Nat) (x : Int) : x ∈ whoOf s n ↔ ∃ k : Nat, k < n ∧ x = k ∧ bitAt s k = 1 := by
  unfold whoOf
  simp only [List.mem_map, List.mem_filter, List.mem_range, beq_iff_eq]
  exact ⟨fun ⟨k, ⟨h1, h2⟩, h3⟩ => ⟨k, h1, h3.symm, h2⟩, fun ⟨k, h1, h3, h2⟩ => ⟨k, ⟨h1, h2⟩, h3.symm⟩⟩
theorem whoOf_rise (s n : Nat) : (whoOf s n).Pairwise (· < ·) := by
  unfold whoOf
  rw [List.pairwise_map]
  exact (List.pairwise_lt_range.filter _).imp fun h => by simpa using h
theorem putOk_who {s n who : Nat} (hw : who < n) {r : List Int} (h : PutOk (whoOf s n) who r) : r = whoOf (s ||| 2 ^ who) n := by
  obtain ⟨k, k', hk, rfl, hlt, hc⟩ := h
  have hrise := whoOf_rise s n
  have hmem := whoOf_mem s n
  generalize whoOf s n = l at *
  have hgt : ∀ x ∈ l.drop k', (who : Int) < x := by
    intro x hx
    obtain ⟨j, hj, rfl⟩ := List.getElem_of_mem hx
    rw [List.getElem_drop]
    rw [List.length_drop] at hj
    rcases hc with ⟨rfl, h1⟩ | ⟨rfl, hkl, h1⟩
    · have h2 := h1 (by omega)
      rcases Nat.eq_zero_or_pos j with rfl | hj0
      · simpa using h2
      · have := (List.pairwise_iff_getElem.1 hrise) k' (k' + j) (by omega) (by omega) (by omega)
        omega
    · have := (List.pairwise_iff_getElem.1 hrise) k (k + 1 + j) (by omega) (by omega) (by omega)
      omega
  have hin : ∀ x, x ∈ l ↔ x ∈ l.take k ∨ (k' = k + 1 ∧ x = who) ∨ x ∈ l.drop k' := by
    intro x
    rcases hc with ⟨rfl, h1⟩ | ⟨rfl, hkl, h1⟩
    · conv => lhs; rw [← List.take_append_drop k' l]
      rw [List.mem_append]
      constructor
      · rintro (h | h); exact .inl h; exact .inr (.inr h)
      · rintro (h | ⟨h, _⟩ | h); exact .inl h; omega; exact .inr h
    · conv => lhs; rw [← List.take_append_drop k l, List.drop_eq_getElem_cons hkl]
      rw [List.mem_append, List.mem_cons, h1]
      constructor
      · rintro (h | h | h); exact .inl h; exact .inr (.inl ⟨rfl, h⟩); exact .inr (.inr h)
      · rintro (h | ⟨_, h⟩ | h); exact .inl h; exact .inr (.inl h); exact .inr (.inr h)
  refine rise_eq ?_ (whoOf_rise _ _) fun x => ?_
  · rw [List.pairwise_append, List.pairwise_cons]
    refine ⟨hrise.sublist (List.take_sublist ..), ⟨hgt, hrise.sublist (List.drop_sublist ..)⟩, fun a ha b hb => ?_⟩
    have h1 := hlt a ha
    rcases List.mem_cons.1 hb with rfl | hb
    · exact h1
    · have := hgt b hb; omega
  · rw [whoOf_mem, List.mem_append, List.mem_cons]
    constructor
    · intro h
      have h2 : x = who ∨ x ∈ l := by
        rcases h with h | h | h
        · exact .inr ((hin x).2 (.inl h))
        · exact .inl h
        · exact .inr ((hin x).2 (.inr (.inr h)))
      rcases h2 with rfl | h2
      · exact ⟨who, hw, rfl, by rw [bit_or, if_pos rfl]⟩
      · obtain ⟨j, h1, h2, h3⟩ := (hmem x).1 h2
        refine ⟨j, h1, h2, ?_⟩
        rw [bit_or]
        split
        · rfl
        · exact h3
    · rintro ⟨j, h1, rfl, h3⟩
      rw [bit_or] at h3
      by_cases hj : who = j
      · subst hj; exact .inr (.inl rfl)
      · rw [if_neg hj] at h3
        rcases (hin j).1 ((hmem j).2 ⟨j, h1, rfl, h3⟩) with h | ⟨_, h⟩ | h
        · exact .inl h
        · exact .inr (.inl h)
        · exact .inr (.inr h)
/-- Sets of replicas below n. -/
def Fit (n s : Nat) : Prop := ∀ j, n ≤ j → bitAt s j = 0
theorem fit_zero (n : Nat) : Fit n 0 := fun j _ => by simp [bitAt]
theorem fit_or {n s who : Nat} (h : Fit n s) (hw : who < n) : Fit n (s ||| 2 ^ who) := fun j hj => by rw [bit_or, if_neg (by omega)]; exact h j hj
theorem whoOf_lenS (s k : Nat) : (whoOf s (k + 1)).length = (whoOf s k).length + bitAt s k := by
  rw [whoOf_succ, List.length_append]
  have : bitAt s k = 0 ∨ bitAt s k = 1 := by unfold bitAt; omega
  rcases this with h | h <;> rw [h] <;> simp
theorem whoOf_pop {n s : Nat} (h : Fit n s) (hn : n ≤ 15) : (whoOf s n).length = popc s := by
  have h1 : popc s = (whoOf s 15).length := by
    rw [popc_bits]
    simp only [whoOf_lenS, whoOf_zero, List.length_nil, Nat.zero_add]
  have h2 : ∀ d, (whoOf s (n + d)).length = (whoOf s n).length := by
    intro d
    induction d with
    | zero => rfl
    | succ d ih => rw [← Nat.add_assoc, whoOf_lenS, h (n + d) (by omega), ih]; rfl
  have h3 := h2 (15 - n)
  rw [show n + (15 - n) = 15 by omega] at h3
  omega
theorem addS_old {S : List (Bal × Nat)} (hn : (S.map (·.1)).Nodup) {x : Bal} {i who : Nat} (hi : i < S.length) (hx : S[i].1 = x) : addS S x who = S.set i (x, S[i].2 ||| 2 ^ who) := by
  have hg := mget_mem hn (List.getElem_mem hi)
  rw [hx] at hg
  unfold addS mens
  rw [hg, Option.isSome_some, if_pos rfl]
  unfold mset
  apply List.ext_getElem
  · simp
  · intro j h1 h2
    simp only [List.length_map] at h1
    rw [List.getElem_map, List.getElem_set]
    by_cases hij : i = j
    · subst hij; rw [if_pos hx, if_pos rfl]; rfl
    · rw [if_neg hij, if_neg]
      intro h
      apply hij
      have e1 : (S.map (·.1))[i]? = some x := by simp [List.getElem?_map, hi, hx]
      have e2 : (S.map (·.1))[j]? = some x := by simp [List.getElem?_map, h1, h]
      exact nodup_at hn e1 e2
theorem addS_new {S : List (Bal × Nat)} {x : Bal} {who : Nat} (h : ∀ p ∈ S, p.1 ≠ x) : addS S x who = S ++ [(x, 0 ||| 2 ^ who)] := by
  unfold addS mens
  rw [mget_none h]
  simp only [Option.isSome_none, Bool.false_eq_true, if_false, Option.getD_none]
  unfold mset
  rw [List.map_append]
  congr 1
  · conv => rhs; rw [← List.map_id S]
    exact List.map_congr_left fun p hp => if_neg (h p hp)
  · simp
end Go.Proofs.Ytidbniigfkocpaa
