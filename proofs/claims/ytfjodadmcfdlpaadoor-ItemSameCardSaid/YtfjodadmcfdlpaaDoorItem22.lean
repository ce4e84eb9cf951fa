/- Ops that differ in one field. -/
import Derived.Test.YtfjodadmcfdlpaaDoorItem20
import Derived.Test.YtfjodadmcfdlpaaDoorItem14
import Derived.Test.YtfjodadmcfdlpaaDoorRnSet
import Derived.Test.YtfjodadmcfdlpaaDoorOpOpen
import Derived.Test.YtfjodadmcfdlpaaDoorHeldTwo
namespace Go.Proofs.YtfjodadmcfdlpaaDoor
open Go.RowKit
set_option linter.unusedVariables false
set_option linter.unusedSimpArgs false
theorem lnCells_set : ∀ (ls : List Ln) (i : Nat) (x : Int) (hi : i < ls.length), (lnCells ls).set (i * 2 + 1) (.int .i64 x) = lnCells (ls.set i (ls[i].1, x))
  | l :: ls, 0, x, _ => rfl
  | l :: ls, i + 1, x, hi => by
    have hi' : i < ls.length := by simpa using hi
    have h := lnCells_set ls i x hi'
    rw [List.set_cons_succ, List.getElem_cons_succ]
    show (Value.string l.1.1 :: .int .i64 l.2 :: lnCells ls).set ((i + 1) * 2 + 1) _ = Value.string l.1.1 :: .int .i64 l.2 :: lnCells (ls.set i (ls[i].1, x))
    rw [show (i + 1) * 2 + 1 = (i * 2 + 1) + 1 + 1 by omega, List.set_cons_succ, List.set_cons_succ, h]
theorem add_ne {x y : Int} (hx : -4611686018427387904 ≤ x ∧ x ≤ 4611686018427387904) (hy : -9223372036854775808 ≤ y ∧ y ≤ 9223372036854775807) (h0 : y ≠ 0) : IntKind.i64.wrap (x + y) ≠ x := by
  rw [IntWalk.i64_left]; unfold wrap64; omega
/-- Two ops that aren't the same, either way. -/
structure Unlike (p q : OpM) : Prop where
  ab : sameB p.k p.s p.o p.n p.ls q.k q.s q.o q.n q.ls = false
  ba : sameB q.k q.s q.o q.n q.ls p.k p.s p.o p.n p.ls = false
theorem unlike_of {p q : OpM} (h : p.k ≠ q.k ∨ p.s.1 ≠ q.s.1 ∨ p.o ≠ q.o ∨ p.n ≠ q.n ∨ p.ls ≠ q.ls) : Unlike p q := by
  refine ⟨?_, ?_⟩
  · unfold sameB
    rcases h with h | h | h | h | h <;> simp [h]
  · unfold sameB
    rcases h with h | h | h | h | h <;> simp [Ne.symm h]
theorem OpM.bounds {p : OpM} (h : p.ok = true) : (1 ≤ p.k ∧ p.k ≤ 9) ∧ (0 ≤ p.o ∧ p.o ≤ 2147483647) ∧ (-2147483647 ≤ p.n ∧ p.n ≤ 2147483647) ∧ p.s.1.size ≤ 8 := by
  obtain ⟨hk, hp⟩ := ok_parts h
  refine ⟨hk, ?_⟩
  have hz : sZ.1.size = 0 := rfl
  rcases hp with ⟨e, h1, h2, h3, h4⟩ | ⟨e, h1, h2, h3, h4⟩ | ⟨e, h1, h2, h3, h4⟩ | ⟨e, h1, h2, h3, h4⟩ | ⟨e, h1, h2, h3, h4⟩ | ⟨e, h1, h2, h3, h4⟩
  · have a := qty_of h3; have b := name_of h1; omega
  · have a := chg_of h3; have b := name_of h1; omega
  · have a := qty_of h2; have b := qty_of h3; rw [h1]; omega
  · have a := qty_of h2; rw [h1]; omega
  · have a := qty_of h3; rw [h1]; omega
  · have b := name_of h1; omega
theorem unlike_k {p : OpM} {y : Int} (h : p.ok = true) (hy : -9223372036854775808 ≤ y ∧ y ≤ 9223372036854775807) (h0 : y ≠ 0) : Unlike p ⟨IntKind.i64.wrap (p.k + y), p.s, p.o, p.n, p.ls⟩ :=
  unlike_of (.inl (Ne.symm (add_ne (by have := p.bounds h; omega) hy h0)))
theorem unlike_o {p : OpM} {y : Int} (h : p.ok = true) (hy : -9223372036854775808 ≤ y ∧ y ≤ 9223372036854775807) (h0 : y ≠ 0) : Unlike p ⟨p.k, p.s, IntKind.i64.wrap (p.o + y), p.n, p.ls⟩ :=
  unlike_of (.inr (.inr (.inl (Ne.symm (add_ne (by have := p.bounds h; omega) hy h0)))))
theorem unlike_n {p : OpM} {y : Int} (h : p.ok = true) (hy : -9223372036854775808 ≤ y ∧ y ≤ 9223372036854775807) (h0 : y ≠ 0) : Unlike p ⟨p.k, p.s, p.o, IntKind.i64.wrap (p.n + y), p.ls⟩ :=
  unlike_of (.inr (.inr (.inr (.inl (Ne.symm (add_ne (by have := p.bounds h; omega) hy h0))))))
theorem unlike_s {p : OpM} {s : KS} (hs : s.1 = p.s.1 ++ ⟨#[113]⟩) : Unlike p ⟨p.k, s, p.o, p.n, p.ls⟩ :=
  unlike_of (.inr (.inl (by
    intro e
    have h2 : p.s.1.size = s.1.size := congrArg ByteArray.size e
    rw [hs, ByteArray.size_append] at h2
    have : (⟨#[113]⟩ : ByteArray).size = 1 := rfl
    omega)))
theorem unlike_l {p : OpM} {l : List Ln} (hl : p.ls.length ≠ l.length) : Unlike p ⟨p.k, p.s, p.o, p.n, l⟩ := unlike_of (.inr (.inr (.inr (.inr (fun e => hl (congrArg List.length e))))))
theorem unlike_i {p : OpM} {i : Nat} {y : Int} (h : p.ok = true) (hi : i < p.ls.length) (hy : -9223372036854775808 ≤ y ∧ y ≤ 9223372036854775807) (h0 : y ≠ 0) : Unlike p ⟨p.k, p.s, p.o, p.n, p.ls.set i (p.ls[i].1, IntKind.i64.wrap (p.ls[i].2 + y))⟩ := by
  refine unlike_of (.inr (.inr (.inr (.inr fun e => ?_))))
  have h2 : p.ls[i] = (p.ls.set i (p.ls[i].1, IntKind.i64.wrap (p.ls[i].2 + y)))[i]'(by rw [List.length_set]; exact hi) := by
    have := congrArg (fun l : List Ln => l[i]?) e
    simp only at this
    rw [List.getElem?_eq_getElem hi, List.getElem?_eq_getElem (by rw [List.length_set]; exact hi)] at this
    exact Option.some.inj this
  rw [List.getElem_set_self] at h2
  have hb : -4611686018427387904 ≤ p.ls[i].2 ∧ p.ls[i].2 ≤ 4611686018427387904 := by
    obtain ⟨_, hp⟩ := ok_parts h
    rcases hp with ⟨e, h1, h2, h3, h4⟩ | ⟨e, h1, h2, h3, h4⟩ | ⟨e, h1, h2, h3, h4⟩ | ⟨e, h1, h2, h3, h4⟩ | ⟨e, h1, h2, h3, h4⟩ | ⟨e, h1, h2, h3, h4⟩
    any_goals (rw [h4] at hi; simp at hi)
    have hall := (lines_of h4).2.2
    have := List.all_eq_true.1 hall _ (List.getElem_mem hi)
    unfold lineB at this
    have := qty_of (Bool.and_eq_true_iff.1 this).2
    omega
  exact add_ne hb hy h0 (congrArg Prod.snd h2).symm
end Go.Proofs.YtfjodadmcfdlpaaDoor
