/- The walk of QuorumMeets. -/
import Derived.Test.YtidbniigfkocpaaQSure
namespace Go.Proofs.Ytidbniigfkocpaa
open Go.RowKit
set_option linter.unusedVariables false
set_option linter.unusedSimpArgs false
theorem and7 (x : Int) : 0 ≤ bits BinOp.and IntKind.i64 x 7 ∧ bits BinOp.and IntKind.i64 x 7 < 8 := by
  have h : bits BinOp.and IntKind.i64 x 7 = IntKind.i64.wrap ((BitVec.ofInt 64 x &&& BitVec.ofInt 64 7).toNat : Int) := rfl
  have h1 : (BitVec.ofInt 64 x &&& BitVec.ofInt 64 7).toNat ≤ 7 := by
    rw [BitVec.toNat_and]
    exact Nat.and_le_right
  rw [h, show IntKind.i64.wrap ((BitVec.ofInt 64 x &&& BitVec.ofInt 64 7).toNat : Int) = ((BitVec.ofInt 64 x &&& BitVec.ofInt 64 7).toNat : Int) from IntWalk.i64_in _ (by omega)]
  omega
/-- For which ballot a replica is. -/
def kOf (bt : Int) (j : Nat) : Nat := (bits BinOp.and IntKind.i64 (bt / 2 ^ (3 * j)) 7).toNat
theorem kOf_is (bt : Int) (j : Nat) : bits BinOp.and IntKind.i64 (bt / 2 ^ (3 * j)) 7 = (kOf bt j : Int) ∧ kOf bt j < 8 := by
  have := and7 (bt / 2 ^ (3 * j))
  unfold kOf
  omega
def balk (k : Nat) (h : k < 8) : Bal := ⟨(4, 9, 0, (k : Int), 0), by unfold I64; dsimp only; omega⟩
theorem balk_inj {k k' : Nat} {h : k < 8} {h' : k' < 8} (e : balk k h = balk k' h') : k = k' := by
  have := congrArg (fun x : Bal => x.1.2.2.2.1) e
  simp only [balk] at this
  omega
/-- The set of the k-th ballot. -/
def getS (S : List (Bal × Nat)) (k : Nat) : Nat := if h : k < 8 then (mget S (balk k h)).getD 0 else 0
/-- Who has said it so far: each for its own ballot alone. -/
structure Meets (bt : Int) (n t i : Nat) (many : List Int) (S : List (Bal × Nat)) : Prop where
  len : many.length = 8
  cnt : ∀ k (h : k < many.length), many[k] = (popc (getS S k) : Nat)
  keys : ∀ p ∈ S, ∃ k, ∃ h : k < 8, p.1 = balk k h
  who : ∀ k j, k < 8 → (bitAt (getS S k) j = 1 ↔ (∃ i', i' < i ∧ j = (i' + t) % n) ∧ kOf bt j = k)
  small : Small S
theorem bitAt_01 (s j : Nat) : bitAt s j = 0 ∨ bitAt s j = 1 := by unfold bitAt; omega
theorem meets_zero (bt : Int) (n t : Nat) : Meets bt n t 0 (List.replicate 8 0) [] where
  len := rfl
  cnt := fun k h => by
    have h8 : k < 8 := by simpa using h
    have h0 : mget ([] : List (Bal × Nat)) (balk k h8) = none := rfl
    rw [List.getElem_replicate]
    unfold getS
    rw [dif_pos h8, h0]
    rfl
  keys := fun p hp => by cases hp
  who := fun k j hk => by
    have : getS [] k = 0 := by unfold getS; rw [dif_pos hk]; rfl
    rw [this]
    unfold bitAt
    rw [Nat.zero_div]
    constructor
    · intro h; cases h
    · rintro ⟨⟨i', h, _⟩, _⟩; omega
  small := small_nil
theorem getS_add (S : List (Bal × Nat)) (k k' wh : Nat) (h : k < 8) (hk' : k' < 8) : getS (addS S (balk k h) wh) k' = if k' = k then getS S k ||| 2 ^ wh else getS S k' := by
  unfold getS
  rw [dif_pos hk', dif_pos h, addS_get]
  by_cases he : k' = k
  · subst he
    rw [if_pos rfl, if_pos rfl]; rfl
  · rw [if_neg he, dif_pos hk', if_neg]
    intro e
    exact he (balk_inj e)
theorem mens_mem {α β : Type} [DecidableEq α] {S : List (α × β)} {a : α} {z y : β} {p : α × β} (h : p ∈ mset (mens S a z) a y) : p.1 = a ∨ p ∈ S := by
  unfold mset at h
  obtain ⟨q, hq, rfl⟩ := List.mem_map.1 h
  by_cases he : q.1 = a
  · rw [if_pos he]; exact .inl rfl
  · rw [if_neg he]
    unfold mens at hq
    split at hq
    · exact .inr hq
    · rw [List.mem_append, List.mem_singleton] at hq
      rcases hq with hq | rfl
      · exact .inr hq
      · exact absurd rfl he
theorem turn_inj {n t i i' : Nat} (hn : 0 < n) (hi : i < n) (hi' : i' < n) (h : (i' + t) % n = (i + t) % n) : i' = i := by
  have h1 := Nat.mod_add_div (i' + t) n
  have h2 := Nat.mod_add_div (i + t) n
  rw [h] at h1
  rcases Nat.lt_trichotomy ((i' + t) / n) ((i + t) / n) with hd | hd | hd
  · have : n * ((i' + t) / n) + n ≤ n * ((i + t) / n) := by rw [← Nat.mul_succ]; exact Nat.mul_le_mul_left n hd
    omega
  · rw [hd] at h1; omega
  · have : n * ((i + t) / n) + n ≤ n * ((i' + t) / n) := by rw [← Nat.mul_succ]; exact Nat.mul_le_mul_left n hd
    omega
theorem meets_add {bt : Int} {n t i : Nat} {many : List Int} {S : List (Bal × Nat)} (h : Meets bt n t i many S) (hi : i < n) (hn : n ≤ 15) {wh : Nat} (hw : wh = (i + t) % n) (hwn : wh < n) (hk : kOf bt wh < 8) (hkl : kOf bt wh < many.length) :
    popc (getS S (kOf bt wh) ||| 2 ^ wh) = popc (getS S (kOf bt wh)) + 1 ∧ Meets bt n t (i + 1) (many.set (kOf bt wh) (many[kOf bt wh] + 1)) (addS S (balk (kOf bt wh) hk) wh) := by
  have h0 : bitAt (getS S (kOf bt wh)) wh = 0 := by
    rcases bitAt_01 (getS S (kOf bt wh)) wh with h1 | h1
    · exact h1
    · obtain ⟨⟨i', hi', he⟩, _⟩ := (h.who _ _ hk).1 h1
      rw [hw] at he
      have := turn_inj (by omega) hi (by omega) he.symm
      omega
  have hp : popc (getS S (kOf bt wh) ||| 2 ^ wh) = popc (getS S (kOf bt wh)) + 1 := by
    have := popc_or (getS S (kOf bt wh)) wh (by omega)
    omega
  refine ⟨hp, by simpa using h.len, fun k hkk => ?_, fun p hp => ?_, fun k j hk8 => ?_, small_add h.small _ _ (by omega)⟩
  · have hkk' : k < many.length := by simpa using hkk
    have h8 : k < 8 := by rw [← h.len]; exact hkk'
    rw [List.getElem_set, getS_add _ _ _ _ _ h8]
    by_cases he : kOf bt wh = k
    · subst he
      rw [if_pos rfl, if_pos rfl, hp, h.cnt _ hkl]
      omega
    · rw [if_neg he, if_neg (Ne.symm he)]
      exact h.cnt k hkk'
  · rcases mens_mem hp with he | hp
    · exact ⟨_, hk, he⟩
    · exact h.keys p hp
  · rw [getS_add _ _ _ _ _ hk8]
    by_cases he : k = kOf bt wh
    · subst he
      rw [if_pos rfl, bit_or]
      by_cases hj : wh = j
      · subst hj
        rw [if_pos rfl]
        exact ⟨fun _ => ⟨⟨i, Nat.lt_succ_self _, hw⟩, rfl⟩, fun _ => rfl⟩
      · rw [if_neg hj, h.who _ _ hk]
        constructor
        · rintro ⟨⟨i', hi', hji⟩, hkj⟩
          exact ⟨⟨i', by omega, hji⟩, hkj⟩
        · rintro ⟨⟨i', hi', hji⟩, hkj⟩
          refine ⟨⟨i', ?_, hji⟩, hkj⟩
          have : i' ≠ i := by
            rintro rfl
            exact hj (hw.trans hji.symm)
          omega
    · rw [if_neg he, h.who _ _ hk8]
      constructor
      · rintro ⟨⟨i', hi', hji⟩, hkj⟩
        exact ⟨⟨i', by omega, hji⟩, hkj⟩
      · rintro ⟨⟨i', hi', hji⟩, hkj⟩
        refine ⟨⟨i', ?_, hji⟩, hkj⟩
        have : i' ≠ i := by
          rintro rfl
          rw [hji, ← hw] at hkj
          exact he hkj.symm
        omega
theorem sum15 (n : Nat) (a b : Nat → Nat) (hn : n ≤ 15) (h : ∀ j, j < 15 → a j + b j ≤ if j < n then 1 else 0) :
    (a 0 + a 1 + a 2 + a 3 + a 4 + a 5 + a 6 + a 7 + a 8 + a 9 + a 10 + a 11 + a 12 + a 13 + a 14) + (b 0 + b 1 + b 2 + b 3 + b 4 + b 5 + b 6 + b 7 + b 8 + b 9 + b 10 + b 11 + b 12 + b 13 + b 14) ≤ n := by
  have hs : ∀ m, m ≤ 15 → (if 0 < m then 1 else 0) + (if 1 < m then 1 else 0) + (if 2 < m then 1 else 0) + (if 3 < m then 1 else 0) + (if 4 < m then 1 else 0) + (if 5 < m then 1 else 0) + (if 6 < m then 1 else 0) + (if 7 < m then 1 else 0) + (if 8 < m then 1 else 0) + (if 9 < m then 1 else 0) + (if 10 < m then 1 else 0) + (if 11 < m then 1 else 0) + (if 12 < m then 1 else 0) + (if 13 < m then 1 else 0) + (if 14 < m then 1 else 0) = m := by decide
  have h1 := hs n hn
  have h2 := h 0 (by omega); have h3 := h 1 (by omega); have h4 := h 2 (by omega); have h5 := h 3 (by omega); have h6 := h 4 (by omega)
  have h7 := h 5 (by omega); have h8 := h 6 (by omega); have h9 := h 7 (by omega); have h10 := h 8 (by omega); have h11 := h 9 (by omega)
  have h12 := h 10 (by omega); have h13 := h 11 (by omega); have h14 := h 12 (by omega); have h15 := h 13 (by omega); have h16 := h 14 (by omega)
  clear hs h
  omega
theorem meets_two {bt : Int} {n t : Nat} {many : List Int} {S : List (Bal × Nat)} (h : Meets bt n t n many S) (hn : n ≤ 15) (hn0 : 0 < n) {k k' : Nat} (hk : k < 8) (hk' : k' < 8) (hne : k ≠ k') : popc (getS S k) + popc (getS S k') ≤ n := by
  rw [popc_bits, popc_bits]
  refine sum15 n (bitAt (getS S k)) (bitAt (getS S k')) hn fun j hj => ?_
  have h1 := h.who k j hk
  have h2 := h.who k' j hk'
  rcases bitAt_01 (getS S k) j with a | a <;> rcases bitAt_01 (getS S k') j with b | b
  · rw [a, b]; exact Nat.zero_le _
  · obtain ⟨⟨i', _, hji⟩, _⟩ := h2.1 b
    have := Nat.mod_lt (i' + t) hn0
    rw [a, b, if_pos (by omega)]
    exact Nat.le_refl _
  · obtain ⟨⟨i', _, hji⟩, _⟩ := h1.1 a
    have := Nat.mod_lt (i' + t) hn0
    rw [a, b, if_pos (by omega)]
    exact Nat.le_refl _
  · exact absurd ((h1.1 a).2.symm.trans (h2.1 b).2) hne
end Go.Proofs.Ytidbniigfkocpaa
