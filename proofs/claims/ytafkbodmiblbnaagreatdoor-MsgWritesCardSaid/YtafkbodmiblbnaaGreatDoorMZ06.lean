/- Contracts of package bits: the reader's Text and Num. -/
import Derived.Test.YtafkbodmiblbnaaGreatDoorMZ05
import Derived.Test.YtafkbodmiblbnaaGreatDoorMZ01
import Derived.Test.YtafkbodmiblbnaaGreatDoorMZ04
namespace Go.Proofs.YtafkbodmiblbnaaGreatDoor
open Go.RowKit
set_option linter.unusedVariables false
variable {Q : Nat → Prop}

theorem RdQ.len {w : World} {g : Nat} {rest : List UInt8} {e : Int} (h : RdQ Q w g rest e) :
    ∃ a c, w.cell? ⟨g, 0, none⟩ = some (.slice a rest.length c) ∧ w.cell? ⟨g, 1, none⟩ = some (.int .i64 e) ∧ w.frozen? ⟨g, 0, none⟩ = false ∧ w.frozen? ⟨g, 1, none⟩ = false ∧ SlS w (.slice a rest.length c) (bv rest) ∧ (∀ n c' b, (Value.slice a n c').ownBlock = some b → b < g ∧ Q b) := by
  obtain ⟨v, c0, c1, f0, f1, hs, hne⟩ := h.cells
  obtain ⟨a, c, rfl⟩ := hs.len
  rw [bv_length] at c0 hs
  refine ⟨a, c, c0, c1, f0, f1, hs, fun n c' => ?_⟩
  cases a with
  | none => simp [Value.ownBlock]
  | some a => simpa [Value.ownBlock] using hne

theorem sl_form {w : World} {a : Option Addr} {l : List UInt8} {c : Nat} (h : SlS w (.slice a l.length c) (bv l)) :
    (a = none ∧ l = [] ∧ c = 0) ∨ ∃ b off, a = some ⟨b, off, none⟩ ∧ l.length ≤ c := by
  rcases h with ⟨h, h2⟩ | ⟨b, off, cap, h, h1, _⟩
  · simp only [Value.slice.injEq] at h
    exact .inl ⟨h.1, (bv_nil_iff l).1 h2, h.2.2⟩
  · simp only [Value.slice.injEq] at h
    obtain ⟨rfl, _, rfl⟩ := h
    exact .inr ⟨b, off, rfl, by rw [bv_length] at h1; exact h1⟩

theorem sl_take {w : World} {b off c : Nat} {l : List UInt8} {u : Nat} (h : SlS w (.slice (some ⟨b, off, none⟩) l.length c) (bv l)) (hu : u ≤ l.length) :
    SlS w (.slice (some ⟨b, off, none⟩) u c) (bv (l.take u)) := by
  rcases h with ⟨h, _⟩ | ⟨b', off', cap, h, h1, h2, h3, h4⟩
  · simp at h
  · simp only [Value.slice.injEq, Option.some.injEq, Addr.mk.injEq, and_true] at h
    obtain ⟨⟨rfl, rfl⟩, _, rfl⟩ := h
    rw [bv_length] at h1
    refine .inr ⟨b, off, c, by rw [bv_length, List.length_take, Nat.min_eq_left hu], by rw [bv_length, List.length_take]; omega, h2, h3, fun j u' hj => h4 j u' ?_⟩
    rw [bv, List.map_take, List.getElem?_take] at hj
    split at hj
    · exact hj
    · cases hj

theorem sl_pre {w : World} {a : Option Addr} {c : Nat} {l : List UInt8} {u : Nat} (h : Sl w (.slice a l.length c) (bv l)) (hu : u ≤ l.length) : Sl w (.slice a u c) (bv (l.take u)) := by
  rcases h with h | ⟨x, c', hv, hx⟩
  · rcases sl_form h with ⟨rfl, rfl, rfl⟩ | ⟨b, off, rfl, _⟩
    · obtain rfl : u = 0 := by simpa using hu
      exact sl_nil w
    · exact (sl_take h hu).sl
  · obtain rfl := (bv_nil_iff l).1 hx
    obtain rfl : u = 0 := by simpa using hu
    exact .inr ⟨x, c', hv, by simp [bv]⟩

end Go.Proofs.YtafkbodmiblbnaaGreatDoor
/- Contracts of the small functions on bytes, for things that lie beside each other. -/
namespace Go.Proofs.YtafkbodmiblbnaaGreatDoor
open Go.RowKit
set_option linter.unusedVariables false
abbrev By (v : Value) (l : List UInt8) : Thing := Rw 5 v (bv l)
theorem copy_sep {w0 : World} {L : List Thing} (v : Value) (l : List UInt8) (w : World) (h : Sep w0 L w) (hv : Sl w v (bv l)) (hlen : l.length ≤ 2199023255552) :
    Calls Tryz.prog 76 #[v] w fun e w' => ∃ v', e = .returned v' ∧ Sep w0 (By v' l :: L) w' :=
  (copyBytes_any v l w hv hlen).mono fun e w' ⟨⟨v', he, ho⟩, hb⟩ => ⟨v', he, h.row hb ho⟩
theorem clone_sep {w0 : World} {L : List Thing} (v : Value) (l : List UInt8) (w : World) (h : Sep w0 L w) (hv : Sl w v (bv l)) (hlen : l.length ≤ 2199023255552) :
    Calls Tryz.prog 64 #[v] w fun e w' => ∃ v', e = .returned v' ∧ Sep w0 (By v' l :: L) w' :=
  (clone_any v l w hv hlen).mono fun e w' ⟨⟨v', he, ho⟩, hb⟩ => ⟨v', he, h.row hb ho⟩
theorem app8 {w0 w : World} {L : List Thing} {ty : TypeId} {v x : Value} {xs ys : List UInt8} (h : Sep w0 (By v xs :: L) w) (hx : Sl w x (bv ys)) (hlen : xs.length + ys.length ≤ 2199023255552) :
    ∃ v' w', (Builtin.append_ #[29, 29] ty #[v, x]).run Tryz.prog w = .ok v' w' ∧ Sep w0 (By v' (xs ++ ys) :: L) w' ∧ (v' = .slice none 0 0 → v = .slice none 0 0) := by
  obtain ⟨i0, hi, hz0, hz1, hz2⟩ := info_parts info8
  unfold By
  rw [bv_append]
  exact append_sep (P := Tryz.prog) Tryz.underlying29 hi hz0 hz1 (by omega) rfl h hx (bv_one ys) (by rw [bv_length, bv_length]; exact hlen)
end Go.Proofs.YtafkbodmiblbnaaGreatDoor
/- Package bits, for things that lie beside each other: what is written, the reader. -/
namespace Go.Proofs.YtafkbodmiblbnaaGreatDoor
open Go.RowKit
set_option linter.unusedVariables false
theorem varint_sep {w0 : World} {L : List Thing} (v : Value) (l : List UInt8) (u : Nat) (w : World) (h : Sep w0 L w) (hv : Sl w v (bv l)) (hu : U64 u) (hlen : l.length ≤ 1099511627776) :
    Calls Tryz.prog 29 #[v, .int .u64 u] w fun e w' => ∃ v', e = .returned v' ∧ Sep w0 (By v' (l ++ vint u) :: L) w' :=
  (varint_any v l u w hv hu hlen).mono fun e w' ⟨⟨v', he, ho⟩, hb⟩ => ⟨v', he, h.row hb ho⟩
theorem text_sep {w0 : World} {L : List Thing} (v x : Value) (l m : List UInt8) (w : World) (h : Sep w0 L w) (hv : Sl w v (bv l)) (hx : Sl w x (bv m)) (hlen : l.length + m.length ≤ 1099511627776) :
    Calls Tryz.prog 31 #[v, x] w fun e w' => ∃ v', e = .returned v' ∧ Sep w0 (By v' (l ++ vint m.length ++ m) :: L) w' :=
  (text_any v x l m w hv hx hlen).mono fun e w' ⟨⟨v', he, ho⟩, hb⟩ => ⟨v', he, h.row hb ho⟩
end Go.Proofs.YtafkbodmiblbnaaGreatDoor
