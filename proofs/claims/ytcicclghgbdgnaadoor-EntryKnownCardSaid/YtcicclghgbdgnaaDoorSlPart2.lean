/- A part of a slice, as the walk leaves it; bytes that are the same. -/
import Derived.Test.YtcicclghgbdgnaaDoorBkB
namespace Go.Proofs.YtcicclghgbdgnaaDoor
open Go.RowKit
set_option linter.unusedVariables false
theorem sl_part {w : World} {a : Option Addr} {n c : Nat} {l : List UInt8} (h : Sl w (.slice a n c) (bv l)) (hl : l.length = n) (i j : Nat) (hij : i ≤ j) (hj : j ≤ n) :
    Sl w (.slice (if c = i then a else Option.map (fun q => q.add i) a) (j - i) (c - i)) (bv ((l.take j).drop i)) := by
  subst hl
  rcases h with (⟨hv, hx⟩ | ⟨b, off, cap, hv, h1, h2, h3, hc⟩) | ⟨x, c', hv, hx⟩
  · simp only [Value.slice.injEq] at hv
    obtain ⟨rfl, _, rfl⟩ := hv
    obtain rfl := (bv_nil_iff l).1 hx
    obtain rfl : j = 0 := by simpa using hj
    obtain rfl : i = 0 := by omega
    exact .inl (.inl ⟨by simp, by simp [bv]⟩)
  · simp only [Value.slice.injEq] at hv
    obtain ⟨rfl, _, rfl⟩ := hv
    rw [bv_length] at h1
    have hlen : ((l.take j).drop i).length = j - i := by rw [List.length_drop, List.length_take]; omega
    by_cases hc' : c = i
    · rw [if_pos hc']
      have e : (l.take j).drop i = [] := List.eq_nil_of_length_eq_zero (by omega)
      rw [e]
      exact .inr ⟨_, _, by rw [show j - i = 0 by omega], by simp [bv]⟩
    · rw [if_neg hc']
      have hadd : (⟨b, off, none⟩ : Addr).add i = ⟨b, off + i, none⟩ := by unfold Addr.add; split <;> simp_all
      refine .inl (.inr ⟨b, off + i, c - i, by simp [hadd, bv_length, hlen], by rw [bv_length, hlen]; omega, by omega, h3, fun k u hk => ?_⟩)
      rw [show off + i + k = off + (i + k) by omega]
      apply hc
      have hk2 : k < j - i := by
        rcases Nat.lt_or_ge k (j - i) with h | h
        · exact h
        · rw [List.getElem?_eq_none (by rw [bv_length, hlen]; exact h)] at hk; cases hk
      rw [← hk]
      simp only [bv, List.getElem?_map, List.getElem?_drop, List.getElem?_take]
      rw [if_pos (by omega)]
  · simp only [Value.slice.injEq] at hv
    obtain ⟨rfl, h0, rfl⟩ := hv
    obtain rfl := (bv_nil_iff l).1 hx
    obtain rfl : j = 0 := by simpa using hj
    obtain rfl : i = 0 := by omega
    by_cases hc' : c = 0
    · rw [if_pos hc']; exact .inr ⟨_, _, rfl, by simp [bv]⟩
    · rw [if_neg hc']; exact .inr ⟨_, _, rfl, by simp [bv]⟩
theorem eqSame_any (a b : Value) (l : List UInt8) (w : World) (ha : Sl w a (bv l)) (hb : Sl w b (bv l)) :
    Calls Tryd.prog 13 #[a, b] w fun e w' => e = .returned (.bool true) ∧ w = w' := by
  have := eqBytes_any a b l l w ha hb
  rwa [beq_self_eq_true] at this
end Go.Proofs.YtcicclghgbdgnaaDoor
