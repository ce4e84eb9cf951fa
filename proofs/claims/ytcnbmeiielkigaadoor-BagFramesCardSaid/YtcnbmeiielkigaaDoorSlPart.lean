/- Parts of slices of bytes. -/
import Derived.Test.YtcnbmeiielkigaaDoorKit
namespace Go.Proofs.YtcnbmeiielkigaaDoor
open Go.RowKit
set_option linter.unusedVariables false
theorem sls_nil (w : World) : SlS w (.slice none 0 0) (bv []) := .inl ⟨rfl, rfl⟩
theorem sl_nil (w : World) : Sl w (.slice none 0 0) (bv []) := (sls_nil w).sl
theorem sl_from {w : World} {b off c : Nat} {rest : List UInt8} {k : Nat} (h : SlS w (.slice (some ⟨b, off, none⟩) rest.length c) (bv rest)) (hk : k ≤ rest.length) (hc : ¬ c = k) :
    SlS w (.slice (some ⟨b, off + k, none⟩) (rest.length - k) (c - k)) (bv (rest.drop k)) := by
  rcases h with ⟨h, _⟩ | ⟨b', off', cap, h, h1, h2, h3, h4⟩
  · simp at h
  · simp only [Value.slice.injEq, Option.some.injEq, Addr.mk.injEq, and_true] at h
    obtain ⟨⟨rfl, rfl⟩, _, rfl⟩ := h
    rw [bv_length] at h1
    refine .inr ⟨b, off + k, c - k, by simp [bv_length], by rw [bv_length, List.length_drop]; omega, by omega, h3, fun j u hj => ?_⟩
    rw [show off + k + j = off + (k + j) by omega]
    apply h4
    simpa [bv] using hj
theorem sl_from_cap {w : World} {b off c : Nat} {rest : List UInt8} {k : Nat} (h : SlS w (.slice (some ⟨b, off, none⟩) rest.length c) (bv rest)) (hc : c = k) (hk : k ≤ rest.length) :
    SlS w (.slice (some ⟨b, off, none⟩) (rest.length - k) 0) (bv (rest.drop k)) := by
  rcases h with ⟨h, _⟩ | ⟨b', off', cap, h, h1, h2, h3, h4⟩
  · simp at h
  · simp only [Value.slice.injEq, Option.some.injEq, Addr.mk.injEq, and_true] at h
    obtain ⟨⟨rfl, rfl⟩, _, rfl⟩ := h
    rw [bv_length] at h1
    have e : rest.drop k = [] := List.drop_eq_nil_of_le (by omega)
    rw [e]
    refine .inr ⟨b, off, 0, by simp [bv, show rest.length - k = 0 by omega], by simp [bv], by omega, h3, fun j u hj => by simp [bv] at hj⟩

theorem sl_form {w : World} {a : Option Addr} {l : List UInt8} {c : Nat} (h : SlS w (.slice a l.length c) (bv l)) :
    (a = none ∧ l = [] ∧ c = 0) ∨ ∃ b off, a = some ⟨b, off, none⟩ ∧ l.length ≤ c := by
  rcases h with ⟨h, h2⟩ | ⟨b, off, cap, h, h1, _⟩
  · simp only [Value.slice.injEq] at h
    exact .inl ⟨h.1, (bv_nil_iff l).1 h2, h.2.2⟩
  · simp only [Value.slice.injEq] at h
    obtain ⟨rfl, _, rfl⟩ := h
    exact .inr ⟨b, off, rfl, by rw [bv_length] at h1; exact h1⟩

theorem sl_take {w : World} {b off c : Nat} {l : List UInt8} {u : Nat} (h : SlS w (.slice (some ⟨b, off, none⟩) l.length c) (bv l)) (hu : u ≤ l.length) :
    SlS w (.slice (some ⟨b, off, none⟩) u c) (bv (l.take u)) := by
  rcases h with ⟨h, _⟩ | ⟨b', off', cap, h, h1, h2, h3, h4⟩
  · simp at h
  · simp only [Value.slice.injEq, Option.some.injEq, Addr.mk.injEq, and_true] at h
    obtain ⟨⟨rfl, rfl⟩, _, rfl⟩ := h
    rw [bv_length] at h1
    refine .inr ⟨b, off, c, by rw [bv_length, List.length_take, Nat.min_eq_left hu], by rw [bv_length, List.length_take]; omega, h2, h3, fun j u' hj => h4 j u' ?_⟩
    rw [bv, List.map_take, List.getElem?_take] at hj
    split at hj
    · exact hj
    · cases hj

theorem sl_pre {w : World} {a : Option Addr} {c : Nat} {l : List UInt8} {u : Nat} (h : Sl w (.slice a l.length c) (bv l)) (hu : u ≤ l.length) : Sl w (.slice a u c) (bv (l.take u)) := by
  rcases h with h | ⟨x, c', hv, hx⟩
  · rcases sl_form h with ⟨rfl, rfl, rfl⟩ | ⟨b, off, rfl, _⟩
    · obtain rfl : u = 0 := by simpa using hu
      exact sl_nil w
    · exact (sl_take h hu).sl
  · obtain rfl := (bv_nil_iff l).1 hx
    obtain rfl : u = 0 := by simpa using hu
    exact .inr ⟨x, c', hv, by simp [bv]⟩

end Go.Proofs.YtcnbmeiielkigaaDoor
