/- Both tallies' calls, whatever who is. -/
import Derived.Test.YtidbniigfkocpaaRefWon
import Derived.Test.YtidbniigfkocpaaRefRange
import Derived.Test.YtidbniigfkocpaaAddRange
import Derived.Test.YtidbniigfkocpaaQMeets2
namespace Go.Proofs.Ytidbniigfkocpaa
open Go.RowKit
set_option linter.unusedVariables false
set_option linter.unusedSimpArgs false
def addE (n : Nat) (who : Int) : Int := if who < 0 ∨ (n : Int) ≤ who then 9 else 0
def addM (n : Nat) (S : List (Bal × Nat)) (x : Bal) (who : Int) : Int := if who < 0 ∨ (n : Int) ≤ who then 0 else (popc ((mget S x).getD 0 ||| 2 ^ who.toNat) : Nat)
def addT (n : Nat) (S : List (Bal × Nat)) (x : Bal) (who : Int) : List (Bal × Nat) := if who < 0 ∨ (n : Int) ≤ who then S else addS S x who.toNat
theorem add_all {w0 w : World} {g b n : Nat} {S : List (Bal × Nat)} {L : List Thing} (x : Bal) (who : Int) (h : Sep w0 (TalC g b n :: BalM b S :: L) w) (hn : n ≤ 15) (hS : Small S) :
    Calls Try.prog 12 #[.pointer (some ⟨g, 0, none⟩), balV x, .int .i64 who] w fun e w' => e = .returned (.tuple #[.int .i64 (addM n S x who), .int .i64 (addE n who)]) ∧ Sep w0 (TalC g b n :: BalM b (addT n S x who) :: L) w' := by
  unfold addM addE addT
  by_cases hw : who < 0 ∨ (n : Int) ≤ who
  · simp only [if_pos hw]
    exact add_range x who h hw
  · simp only [if_neg hw]
    obtain ⟨u, rfl⟩ : ∃ u : Nat, who = u := ⟨who.toNat, by omega⟩
    simp only [Int.toNat_natCast]
    exact add_ok x u h (by omega) hn hS
theorem radd_all {w0 w : World} {g n : Nat} {v : Value} {S : List (Bal × Nat)} {R : List Value} {L : List Thing} (x : Bal) (who : Int) (h : Sep w0 (RTalC g n v :: RRows v S R :: WhosT (setsS n S) R :: L) w) (hn : n ≤ 15) (hS : (S.map (·.1)).Nodup) (hl : S.length ≤ 1000) (hF : ∀ p ∈ S, Fit n p.2) :
    Calls Try.prog 13 #[.pointer (some ⟨g, 0, none⟩), balV x, .int .i64 who] w fun e w' => ∃ v' R', e = .returned (.tuple #[.int .i64 (addM n S x who), .int .i64 (addE n who)]) ∧ Sep w0 (RTalC g n v' :: RRows v' (addT n S x who) R' :: WhosT (setsS n (addT n S x who)) R' :: L) w' := by
  unfold addM addE addT
  by_cases hw : who < 0 ∨ (n : Int) ≤ who
  · simp only [if_pos hw]
    exact (radd_range x who h hw).mono fun e w' ⟨h1, h2⟩ => ⟨v, R, h1, h2⟩
  · simp only [if_neg hw]
    obtain ⟨u, rfl⟩ : ∃ u : Nat, who = u := ⟨who.toNat, by omega⟩
    simp only [Int.toNat_natCast]
    exact radd_any x u h (by omega) hn hS hl hF
theorem mens_len {α β : Type} [DecidableEq α] (S : List (α × β)) (a : α) (z y : β) : (mset (mens S a z) a y).length ≤ S.length + 1 := by
  unfold mset mens
  rw [List.length_map]
  split <;> simp
theorem addT_len (n : Nat) (S : List (Bal × Nat)) (x : Bal) (who : Int) : (addT n S x who).length ≤ S.length + 1 := by
  unfold addT
  split
  · omega
  · exact mens_len _ _ _ _
theorem addT_small {n : Nat} {S : List (Bal × Nat)} (h : Small S) (hn : n ≤ 15) (x : Bal) (who : Int) : Small (addT n S x who) := by
  unfold addT
  split
  · exact h
  · exact small_add h x _ (by omega)
theorem addT_fit {n : Nat} {S : List (Bal × Nat)} (hk : (S.map (·.1)).Nodup) (h : ∀ p ∈ S, Fit n p.2) (x : Bal) (who : Int) : ∀ p ∈ addT n S x who, Fit n p.2 := by
  unfold addT
  split
  · exact h
  · intro p hp
    have hs : Fit n ((mget S x).getD 0) := by
      cases hm : mget S x with
      | none => exact fit_zero n
      | some s => exact h _ (mget_some hm)
    unfold addS mset at hp
    obtain ⟨q, hq, rfl⟩ := List.mem_map.1 hp
    split
    · exact fit_or hs (by omega)
    · rename_i hne
      unfold mens at hq
      split at hq
      · exact h q hq
      · rcases List.mem_append.1 hq with h1 | h1
        · exact h q h1
        · rw [List.mem_singleton.1 h1]; exact fit_zero n
theorem wonOk_one {E : Int} {S : List (Bal × Nat)} {o o' : Option Bal} (h : WonOk E S o) (h' : WonOk E S o') : o = o' := by
  cases o with
  | none =>
    cases o' with
    | none => rfl
    | some y =>
      obtain ⟨⟨p, hp, _, hE⟩, _⟩ := h'.2 y rfl
      exact absurd hE (h.1 rfl p hp)
  | some x =>
    obtain ⟨⟨p, hp, hpx, hE⟩, h1⟩ := h.2 x rfl
    cases o' with
    | none => exact absurd hE (h'.1 rfl p hp)
    | some y =>
      obtain ⟨⟨q, hq, hqy, hE2⟩, h2⟩ := h'.2 y rfl
      have e1 := h1 q hq hE2
      have e2 := h2 p hp hE
      rw [hqy] at e1
      rw [hpx] at e2
      rw [cmpB_total e2 e1]
end Go.Proofs.Ytidbniigfkocpaa
