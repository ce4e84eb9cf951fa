/- Contracts of package bits: the reader's Text and Num. -/
import Derived.Test.YtcnbmeiielkigaaGreatDoorMZ09
import Derived.Test.YtcnbmeiielkigaaGreatDoorMZ00
import Derived.Test.YtcnbmeiielkigaaGreatDoorMZ08
namespace Go.Proofs.YtcnbmeiielkigaaGreatDoor
open Go.RowKit
set_option linter.unusedVariables false
variable {Q : Nat → Prop}

theorem sl_form {w : World} {a : Option Addr} {l : List UInt8} {c : Nat} (h : SlS w (.slice a l.length c) (bv l)) :
  (a = none ∧ l = [] ∧ c = 0) ∨ ∃ b off, a = some ⟨b, off, none⟩ ∧ l.length ≤ c := by
 rcases h with ⟨h, h2⟩ | ⟨b, off, cap, h, h1, _⟩
 ·simp only [Value.slice.injEq] at h
  exact .inl ⟨h.1, (bv_nil_iff l).1 h2, h.2.2⟩
 ·simp only [Value.slice.injEq] at h
  obtain ⟨rfl, _, rfl⟩ := h
  exact .inr ⟨b, off, rfl, by rw [bv_length] at h1; exact h1⟩

theorem sl_take {w : World} {b off c : Nat} {l : List UInt8} {u : Nat} (h : SlS w (.slice (some ⟨b, off, none⟩) l.length c) (bv l)) (hu : u ≤ l.length) :
  SlS w (.slice (some ⟨b, off, none⟩) u c) (bv (l.take u)) := by
 rcases h with ⟨h, _⟩ | ⟨b', off', cap, h, h1, h2, h3, h4⟩
 ·simp at h
 ·simp only [Value.slice.injEq, Option.some.injEq, Addr.mk.injEq, and_true] at h
  obtain ⟨⟨rfl, rfl⟩, _, rfl⟩ := h
  rw [bv_length] at h1
  refine .inr ⟨b, off, c, by rw [bv_length, List.length_take, Nat.min_eq_left hu], by rw [bv_length, List.length_take]; omega, h2, h3, fun j u' hj => h4 j u' ?_⟩
  rw [bv, List.map_take, List.getElem?_take] at hj
  split at hj
  ·exact hj
  ·cases hj

theorem sl_pre {w : World} {a : Option Addr} {c : Nat} {l : List UInt8} {u : Nat} (h : Sl w (.slice a l.length c) (bv l)) (hu : u ≤ l.length) : Sl w (.slice a u c) (bv (l.take u)) := by
 rcases h with h | ⟨x, c', hv, hx⟩
 ·rcases sl_form h with ⟨rfl, rfl, rfl⟩ | ⟨b, off, rfl, _⟩
  ·obtain rfl : u = 0 := by simpa using hu
   exact sl_nil w
  ·exact (sl_take h hu).sl
 ·obtain rfl := (bv_nil_iff l).1 hx
  obtain rfl : u = 0 := by simpa using hu
  exact .inr ⟨x, c', hv, by simp [bv]⟩

end Go.Proofs.YtcnbmeiielkigaaGreatDoor
/- Contracts of the small functions on bytes, for things that lie beside each other. -/
namespace Go.Proofs.YtcnbmeiielkigaaGreatDoor
open Go.RowKit
set_option linter.unusedVariables false
abbrev By (v : Value) (l : List UInt8) : Thing := Rw 5 v (bv l)
theorem copy_sep {w0 : World} {L : List Thing} (v : Value) (l : List UInt8) (w : World) (h : Sep w0 L w) (hv : Sl w v (bv l)) (hlen : l.length ≤ 2199023255552) :
  Calls Tryz.prog 65 #[v] w fun e w' => ∃ v', e = .returned v' ∧ Sep w0 (By v' l :: L) w' :=
 (copyBytes_any v l w hv hlen).mono fun e w' ⟨⟨v', he, ho⟩, hb⟩ => ⟨v', he, h.row hb ho⟩
theorem clone_sep {w0 : World} {L : List Thing} (v : Value) (l : List UInt8) (w : World) (h : Sep w0 L w) (hv : Sl w v (bv l)) (hlen : l.length ≤ 2199023255552) :
  Calls Tryz.prog 79 #[v] w fun e w' => ∃ v', e = .returned v' ∧ Sep w0 (By v' l :: L) w' :=
 (clone_any v l w hv hlen).mono fun e w' ⟨⟨v', he, ho⟩, hb⟩ => ⟨v', he, h.row hb ho⟩
end Go.Proofs.YtcnbmeiielkigaaGreatDoor
/- Package bits, for things that lie beside each other: what is written, the reader. -/
namespace Go.Proofs.YtcnbmeiielkigaaGreatDoor
open Go.RowKit
set_option linter.unusedVariables false
end Go.Proofs.YtcnbmeiielkigaaGreatDoor
