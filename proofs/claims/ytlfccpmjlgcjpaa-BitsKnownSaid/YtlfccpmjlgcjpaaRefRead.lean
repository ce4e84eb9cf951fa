/- Contracts of the document's answer for the reader. -/
import Derived.Test.YtlfccpmjlgcjpaaReader2
namespace Go.Proofs.Ytlfccpmjlgcjpaa
open Go.RowKit
set_option linter.unusedVariables false
/-- Block g is a reader of the document's answer. -/
def Rr (w : World) (g : Nat) (rest : List UInt8) (e : Int) : Prop :=
  ∃ v, w.heap[g]? = some (.cells #[v, .int .i64 e] 63 (0, 0)) ∧ SlS w v (bv rest) ∧ (∀ b, v.ownBlock = some b → b < g)
theorem Rr.lt {w : World} {g : Nat} {rest : List UInt8} {e : Int} (h : Rr w g rest e) : g < w.heap.size := by
  obtain ⟨v, h, _⟩ := h; exact (Array.getElem?_eq_some_iff.1 h).1
theorem Rr.keep {w w' : World} {g : Nat} {rest : List UInt8} {e : Int} (h : Rr w g rest e) (hb : Below w.heap.size w w') : Rr w' g rest e := by
  have hlt := h.lt
  obtain ⟨v, h1, h2, h3⟩ := h
  exact ⟨v, by rw [hb.block g hlt]; exact h1, h2.below hb, h3⟩
theorem Rr.cells {w : World} {g : Nat} {rest : List UInt8} {e : Int} (h : Rr w g rest e) :
    ∃ v, w.cell? ⟨g, 0, none⟩ = some v ∧ w.cell? ⟨g, 1, none⟩ = some (.int .i64 e) ∧ w.frozen? ⟨g, 0, none⟩ = false ∧ w.frozen? ⟨g, 1, none⟩ = false ∧ SlS w v (bv rest) ∧ (∀ b, v.ownBlock = some b → b < g) := by
  obtain ⟨v, h1, h2, h3⟩ := h
  refine ⟨v, ?_, ?_, ?_, ?_, h2, h3⟩
  · unfold World.cell?; rw [h1]; rfl
  · unfold World.cell?; rw [h1]; rfl
  · unfold World.frozen?; rw [h1]; rfl
  · unfold World.frozen?; rw [h1]; rfl
theorem Rr.set0 {w : World} {g : Nat} {rest : List UInt8} {e : Int} (h : Rr w g rest e) {v : Value} {l : List UInt8} (hv : SlS w v (bv l)) (hn : ∀ b, v.ownBlock = some b → b < g) :
    Rr (w.setCell ⟨g, 0, none⟩ v) g l e := by
  obtain ⟨v0, h1, _⟩ := h
  exact ⟨v, by rw [heap_setCell_at h1]; rfl, hv.upd ((Upd.refl g w).setCell 0 v) (fun e => Nat.lt_irrefl _ (hn g e)), hn⟩
theorem Rr.set1 {w : World} {g : Nat} {rest : List UInt8} {e : Int} (h : Rr w g rest e) (e' : Int) :
    Rr (w.setCell ⟨g, 1, none⟩ (.int .i64 e')) g rest e' := by
  obtain ⟨v, h1, h2, h3⟩ := h
  exact ⟨v, by rw [heap_setCell_at h1]; rfl, h2.upd ((Upd.refl g w).setCell 1 _) (fun e => Nat.lt_irrefl _ (h3 g e)), h3⟩
theorem rrread_any (v : Value) (l : List UInt8) (w : World) (h : Sl w v (bv l)) (hlen : l.length ≤ 2199023255552) :
    Calls Try.prog 45 #[v] w fun e w' => (∃ g, e = .returned (.pointer (some ⟨g, 0, none⟩)) ∧ w.heap.size ≤ g ∧ Rr w' g l 0) ∧ Below w.heap.size w w' := by
  have H := Lib.hid h
  clear h
  go_enter Try.func45, Try.ntmps45
  go_wp2_with (go_at_call 9; refine (copyBytes_any _ l _ H.out hlen).mono ?_; rintro e w1 ⟨⟨v1, rfl, ho1⟩, hb1⟩; obtain ⟨a1, c1, rfl⟩ := ho1.sl.len)
  go_ret
  have hsl := ho1.sls
  have hne : ∀ b, (Value.slice a1 (bv l).length c1).ownBlock = some b → b < w1.heap.size := fun b e => (ho1.lt _ e).2
  have hb2 : Below w1.heap.size w1 (w1.alloc (.cells #[.slice a1 (bv l).length c1, .int .i64 0] 63)) := (Below.refl _ _).alloc (Nat.le_refl _) _
  exact ⟨⟨w1.heap.size, rfl, hb1.size, _, heap_alloc_new w1 _, hsl.below hb2, hne⟩, hb1.trans (hb2.mono hb1.size)⟩
theorem rrfail_any (g : Nat) (rest : List UInt8) (e' : Int) (w : World) (h : Rr w g rest 0) :
    Calls Try.prog 54 #[.pointer (some ⟨g, 0, none⟩), .int .i64 e'] w fun r w' => (∃ x, r = .returned x) ∧ Rr w' g [] e' ∧ Upd g w w' := by
  obtain ⟨v, c0, c1, f0, f1, _⟩ := h.cells
  have H := Lib.hid h
  clear h
  go_enter Try.func54, Try.ntmps54
  go_wp2
  go_end0
  exact ⟨⟨_, rfl⟩, (H.out.set1 e').set0 (sls_nil _) (by simp [Value.ownBlock]), ((Upd.refl g w).setCell 1 _).setCell 0 _⟩
theorem rrleft_any (g : Nat) (rest : List UInt8) (e : Int) (w : World) (h : Rr w g rest e) :
    Calls Try.prog 50 #[.pointer (some ⟨g, 0, none⟩)] w fun r w' => r = .returned (.int .i64 (rest.length : Nat)) ∧ w = w' := by
  obtain ⟨v, c0, c1, _, _, hs, _⟩ := h.cells
  obtain ⟨a, c, rfl⟩ := hs.len
  rw [bv_length] at c0
  clear h hs
  go_enter Try.func50, Try.ntmps50
  go_wp2
  go_ret
  exact ⟨rfl, rfl⟩
theorem rrerr_any (g : Nat) (rest : List UInt8) (e : Int) (w : World) (h : Rr w g rest e) :
    Calls Try.prog 51 #[.pointer (some ⟨g, 0, none⟩)] w fun r w' => r = .returned (.int .i64 e) ∧ w = w' := by
  obtain ⟨v, c0, c1, _⟩ := h.cells
  clear h
  go_enter Try.func51, Try.ntmps51
  go_wp2
  go_ret
  exact ⟨rfl, rfl⟩
theorem rrend_any (g : Nat) (rest : List UInt8) (e : Int) (w : World) (h : Rr w g rest e) :
    Calls Try.prog 52 #[.pointer (some ⟨g, 0, none⟩)] w fun r w' => r = .returned (.int .i64 (endErr rest e)) ∧ w = w' := by
  obtain ⟨v, c0, c1, _, _, hs, _⟩ := h.cells
  obtain ⟨a, c, rfl⟩ := hs.len
  rw [bv_length] at c0
  clear h hs
  unfold endErr
  by_cases h0 : e = 0
  · subst h0
    by_cases h1 : 0 < rest.length
    · rw [if_pos ⟨rfl, h1⟩]
      go_enter Try.func52, Try.ntmps52
      go_wp2
      go_ret
      exact ⟨rfl, rfl⟩
    · rw [if_neg (by omega)]
      go_enter Try.func52, Try.ntmps52
      go_wp2
      go_ret
      exact ⟨rfl, rfl⟩
  · rw [if_neg (by omega)]
    have h1 : (e == 0) = false := beq_eq_false_iff_ne.2 h0
    go_enter Try.func52, Try.ntmps52
    go_wp2
    go_ret
    exact ⟨rfl, rfl⟩
end Go.Proofs.Ytlfccpmjlgcjpaa
