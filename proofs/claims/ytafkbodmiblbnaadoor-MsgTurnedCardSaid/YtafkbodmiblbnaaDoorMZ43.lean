/- What the row's shell tells of arguments of whatever type: cells that read as a value of it. -/
import Derived.Deep.Slices
import Derived.Test.YtafkbodmiblbnaaDoorMKit
namespace Go.Proofs.YtafkbodmiblbnaaDoor
open Go.RowKit
set_option linter.unusedVariables false
/-- Cells that read as a value of a type. -/
def RdC (P : Program) (w : World) (t : TypeId) (cs : List Value) : Prop :=
  ∃ (H : Type) (enc : TypeId × Value → H) (base : Nat) (spare : Nat → Bool) (held : Bool) (fuel : Nat) (x : DataW H × List MemPlace), DataW.trod enc P w base spare held fuel t cs = some x
/-- A struct or an array. -/
def Av (P : Program) (w : World) (t : TypeId) (v : Value) : Prop := ∃ cs : Array Value, v = .agg cs ∧ RdC P w t cs.toList
theorem RdC.int {P : Program} {w : World} {t : TypeId} {k : IntKind} {cs : List Value} (ht : P.underlying t = some (.int k)) (h : RdC P w t cs) : ∃ n, cs = [.int k n] ∧ (Lit.int k n).wf = true := by
  obtain ⟨H, enc, base, spare, held, fuel, x, hf⟩ := h
  cases fuel with
  | zero => simp [DataW.trod] at hf
  | succ m =>
    rw [DataW.trod_step] at hf
    unfold DataW.trodStep at hf
    simp only [ht] at hf
    split at hf <;> simp_all
theorem RdC.bool {P : Program} {w : World} {t : TypeId} {cs : List Value} (ht : P.underlying t = some .bool) (h : RdC P w t cs) : ∃ b, cs = [.bool b] := by
  obtain ⟨H, enc, base, spare, held, fuel, x, hf⟩ := h
  cases fuel with
  | zero => simp [DataW.trod] at hf
  | succ m =>
    rw [DataW.trod_step] at hf
    unfold DataW.trodStep at hf
    simp only [ht] at hf
    split at hf <;> simp_all
theorem RdC.slice {P : Program} {w : World} {t e : TypeId} {cs : List Value} (ht : P.underlying t = some (.slice e)) (h : RdC P w t cs) :
    cs = [.slice none 0 0] ∨ ∃ a len cap, cs = [.slice (some a) len cap] ∧ len ≤ cap ∧ cap ≤ maxLen ∧
      ∀ i, i < len → ∃ cs', cs'.length = P.cellsOf e ∧ (∀ j, j < P.cellsOf e → w.cell? ((a.add (i * P.cellsOf e)).add j) = cs'[j]?) ∧ RdC P w e cs' := by
  obtain ⟨H, enc, base, spare, held, fuel, x, hf⟩ := h
  rcases Go.Deep.open_slice ht hf with ⟨h0, _⟩ | ⟨a, len, cap, m, n, D, Pl, rfl, _, hl, hm, hmm, _, hel⟩
  · exact .inl h0
  · refine .inr ⟨a, len, cap, rfl, hl, hm, fun i hi => ?_⟩
    obtain ⟨cs', h1, h2⟩ := hel i (by rw [hmm]; split <;> omega)
    have h3 := World.cells?_some h1
    exact ⟨cs', h3.2.1, h3.2.2, H, enc, base, spare, held, n, _, h2⟩
theorem RdC.array {P : Program} {w : World} {t e : TypeId} {n : Nat} {cs : List Value} (ht : P.underlying t = some (.array n e)) (h : RdC P w t cs) :
    cs.length = P.cellsOf t ∧ ∀ i, i < n → RdC P w e ((cs.drop (i * P.cellsOf e)).take (P.cellsOf e)) := by
  obtain ⟨H, enc, base, spare, held, fuel, x, hf⟩ := h
  cases fuel with
  | zero => simp [DataW.trod] at hf
  | succ m =>
    rw [DataW.trod_step] at hf
    unfold DataW.trodStep at hf
    simp only [ht] at hf
    split at hf
    · rename_i hl
      refine ⟨hl, fun i hi => ?_⟩
      obtain ⟨ys, hy, _⟩ := Option.map_eq_some_iff.1 hf
      cases hr : DataW.trod enc P w base spare held m e ((cs.drop (i * P.cellsOf e)).take (P.cellsOf e)) with
      | none => rw [mapM_none_of (List.mem_range.2 hi) hr] at hy; cases hy
      | some y => exact ⟨H, enc, base, spare, held, m, y, hr⟩
    · cases hf
theorem RdC.struct {P : Program} {w : World} {t : TypeId} {fs : Array Field} {cs : List Value} (ht : P.underlying t = some (.struct fs)) (h : RdC P w t cs) :
    cs.length = P.cellsOf t ∧ ∀ f ∈ fs.toList, RdC P w f.type ((cs.drop f.offset).take (P.cellsOf f.type)) := by
  obtain ⟨H, enc, base, spare, held, fuel, x, hf⟩ := h
  cases fuel with
  | zero => simp [DataW.trod] at hf
  | succ m =>
    rw [DataW.trod_step] at hf
    unfold DataW.trodStep at hf
    simp only [ht] at hf
    split at hf
    · rename_i hl
      refine ⟨hl, fun f hi => ?_⟩
      obtain ⟨ys, hy, _⟩ := Option.map_eq_some_iff.1 hf
      cases hr : DataW.trod enc P w base spare held m f.type ((cs.drop f.offset).take (P.cellsOf f.type)) with
      | none => rw [mapM_none_of hi hr] at hy; cases hy
      | some y => exact ⟨H, enc, base, spare, held, m, y, hr⟩
    · cases hf
/-- A slice of cells, each by itself. -/
theorem RdC.cells1 {P : Program} {w : World} {t e : TypeId} {v : Value} (ht : P.underlying t = some (.slice e)) (hc : P.cellsOf e = 1) (h : RdC P w t [v]) :
    ∃ (a : Option Addr) (cap : Nat) (vs : List Value), v = .slice a vs.length cap ∧ vs.length ≤ cap ∧ cap ≤ maxLen ∧ Sl w (.slice a vs.length cap) vs ∧ ∀ u ∈ vs, RdC P w e [u] := by
  rcases h.slice ht with h0 | ⟨a, len, cap, h0, hl, hm, hel⟩
  · simp only [List.cons.injEq, and_true] at h0
    subst h0
    exact ⟨none, 0, [], rfl, Nat.le_refl _, Nat.zero_le _, .inl (.inl ⟨rfl, rfl⟩), fun _ h => by cases h⟩
  · simp only [List.cons.injEq, and_true] at h0
    subst h0
    rw [hc] at hel
    have hall : ∀ i, i < len → ∃ u, w.cell? (a.add i) = some u ∧ RdC P w e [u] := by
      intro i hi
      obtain ⟨cs', h1, h2, h3⟩ := hel i hi
      match cs', h1 with
      | [u], _ =>
        refine ⟨u, ?_, h3⟩
        have := h2 0 (by omega)
        rw [Nat.mul_one] at this
        have ha : (a.add i).add 0 = a.add i := by unfold Addr.add; cases (a.spot) <;> simp
        rw [ha] at this
        simpa using this
    by_cases h0 : len = 0
    · subst h0
      exact ⟨some a, cap, [], rfl, hl, hm, .inr ⟨a, cap, rfl, rfl⟩, fun _ h => by cases h⟩
    · have hx : ∃ b off, a = ⟨b, off, none⟩ := by
        obtain ⟨u, h1, _⟩ := hall 0 (by omega)
        obtain ⟨b, off, sp⟩ := a
        cases sp with
        | none => exact ⟨b, off, rfl⟩
        | some s => simp [Addr.add, World.cell?] at h1; split at h1 <;> simp at h1
      obtain ⟨b, off, rfl⟩ := hx
      have hadd : ∀ j, (⟨b, off, none⟩ : Addr).add j = ⟨b, off + j, none⟩ := fun j => by unfold Addr.add; split <;> simp_all
      let g : Nat → Value := fun i => (w.cell? ⟨b, off + i, none⟩).getD (.bool false)
      have hg : ∀ i, i < len → w.cell? ⟨b, off + i, none⟩ = some (g i) ∧ RdC P w e [g i] := by
        intro i hi
        obtain ⟨u, h1, h2⟩ := hall i hi
        rw [hadd] at h1
        have : g i = u := by show (w.cell? ⟨b, off + i, none⟩).getD _ = u; rw [h1]; rfl
        rw [this]
        exact ⟨h1, h2⟩
      have hb : b < w.heap.size := World.block_lt_of_cell? w ⟨b, off + 0, none⟩ (hg 0 (by omega)).1
      refine ⟨some ⟨b, off, none⟩, cap, (List.range len).map g, by simp, by simpa using hl, hm, .inl (.inr ⟨b, off, cap, rfl, by simpa using hl, hm, hb, fun j u hj => ?_⟩), fun u hu => ?_⟩
      · rw [List.getElem?_map] at hj
        obtain ⟨i, hi, rfl⟩ := Option.map_eq_some_iff.1 hj
        rw [List.getElem?_range] at hi
        · cases hi
          have hj2 : j < len := by
            rcases Nat.lt_or_ge j len with h | h
            · exact h
            · rw [List.getElem?_eq_none (by simpa using h)] at hj; cases hj
          exact (hg j hj2).1
        · rcases Nat.lt_or_ge j len with h | h
          · exact h
          · rw [List.getElem?_eq_none (by simpa using h)] at hj; cases hj
      · obtain ⟨i, hi, rfl⟩ := List.mem_map.1 hu
        exact (hg i (List.mem_range.1 hi)).2
/-- .. of bytes. -/
theorem RdC.bytes {P : Program} {w : World} {t e : TypeId} {v : Value} (ht : P.underlying t = some (.slice e)) (he : P.underlying e = some (.int .u8)) (hc : P.cellsOf e = 1) (h : RdC P w t [v]) :
    ∃ (a : Option Addr) (cap : Nat) (l : List UInt8), v = .slice a l.length cap ∧ l.length ≤ cap ∧ cap ≤ maxLen ∧ Sl w (.slice a l.length cap) (bv l) := by
  obtain ⟨a, cap, vs, rfl, h1, h2, h3, h4⟩ := h.cells1 ht hc
  obtain ⟨l, rfl⟩ : ∃ l : List UInt8, vs = bv l := by
    clear h1 h3 h
    induction vs with
    | nil => exact ⟨[], rfl⟩
    | cons u vs ih =>
      obtain ⟨l, rfl⟩ := ih fun u hu => h4 u (List.mem_cons_of_mem _ hu)
      obtain ⟨n, hn, hw⟩ := (h4 u (List.mem_cons_self ..)).int he
      simp only [List.cons.injEq, and_true] at hn
      subst hn
      have := bounds_u8 hw
      refine ⟨UInt8.ofNat n.toNat :: l, ?_⟩
      simp only [bv, List.map_cons, List.cons.injEq, Value.int.injEq, true_and, and_true]
      rw [UInt8.toNat_ofNat']
      omega
  rw [bv_length] at h1 h3
  exact ⟨a, cap, l, by rw [bv_length], h1, h2, h3⟩
/-- Two integers. -/
theorem Av.ints2 {P : Program} {w : World} {t e : TypeId} {v : Value} (ht : P.underlying t = some (.array 2 e)) (he : P.underlying e = some (.int .i64)) (hc : P.cellsOf e = 1) (hct : P.cellsOf t = 2) (h : Av P w t v) :
    ∃ x y : Int, v = .agg #[.int .i64 x, .int .i64 y] ∧ (Lit.int .i64 x).wf = true ∧ (Lit.int .i64 y).wf = true := by
  obtain ⟨cs, rfl, h⟩ := h
  obtain ⟨hl, ha⟩ := h.array ht
  rw [hct] at hl
  rw [hc] at ha
  obtain ⟨l⟩ := cs
  match l, hl with
  | [u, v], _ =>
    obtain ⟨x, hx, wx⟩ := (ha 0 (by omega)).int he
    obtain ⟨y, hy, wy⟩ := (ha 1 (by omega)).int he
    simp at hx hy
    subst hx hy
    exact ⟨x, y, rfl, wx, wy⟩
end Go.Proofs.YtafkbodmiblbnaaDoor
/- Slices of structs that came in. -/
namespace Go.Proofs.YtafkbodmiblbnaaDoor
open Go.RowKit
set_option linter.unusedVariables false
/-- A slice whose elements take c cells each. -/
theorem RdC.rows {P : Program} {w : World} {t e : TypeId} {v : Value} {c : Nat} (ht : P.underlying t = some (.slice e)) (hc : P.cellsOf e = c) (hpos : 0 < c) (h : RdC P w t [v]) :
    ∃ (a : Option Addr) (len cap : Nat), v = .slice a len cap ∧ len ≤ cap ∧ cap ≤ maxLen ∧
      ∀ i, i < len → ∃ b off, a = some ⟨b, off, none⟩ ∧ b < w.heap.size ∧ ∃ cs : List Value, cs.length = c ∧ (∀ j (hj : j < cs.length), w.cell? ⟨b, off + i * c + j, none⟩ = some cs[j]) ∧ RdC P w e cs := by
  rcases h.slice ht with h0 | ⟨a, len, cap, h0, hl, hm, hel⟩
  · simp only [List.cons.injEq, and_true] at h0
    subst h0
    exact ⟨none, 0, 0, rfl, Nat.le_refl _, Nat.zero_le _, fun i hi => by omega⟩
  · simp only [List.cons.injEq, and_true] at h0
    subst h0
    refine ⟨some a, len, cap, rfl, hl, hm, fun i hi => ?_⟩
    obtain ⟨cs, h1, h2, h3⟩ := hel i hi
    rw [hc] at h1 h2
    have hx : ∃ b off, a = ⟨b, off, none⟩ := by
      obtain ⟨cs', g1, g2, _⟩ := hel 0 (by omega)
      have h4 := g2 0 (by omega)
      obtain ⟨b, off, sp⟩ := a
      cases sp with
      | none => exact ⟨b, off, rfl⟩
      | some s =>
        rw [List.getElem?_eq_getElem (by omega)] at h4
        simp [Addr.add, World.cell?] at h4
        split at h4 <;> simp at h4
    obtain ⟨b, off, rfl⟩ := hx
    have hadd : ∀ o j, (⟨b, o, none⟩ : Addr).add j = ⟨b, o + j, none⟩ := fun o j => by unfold Addr.add; split <;> simp_all
    have hcell : ∀ j (hj : j < cs.length), w.cell? ⟨b, off + i * c + j, none⟩ = some cs[j] := fun j hj => by
      have h4 := h2 j (by omega)
      rw [hadd, hadd, List.getElem?_eq_getElem hj] at h4
      exact h4
    exact ⟨b, off, rfl, World.block_lt_of_cell? w ⟨b, off + i * c + 0, none⟩ (hcell 0 (by omega)), cs, h1, hcell, h3⟩
end Go.Proofs.YtafkbodmiblbnaaDoor
