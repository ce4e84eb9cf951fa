/- Slices of one's own whose elements take several cells (structs). -/
import Derived.Test.YtcnbmeiielkigaaDoorSep
namespace Go.Proofs.YtcnbmeiielkigaaDoor
open Go.RowKit
set_option linter.unusedVariables false
theorem ownsRow_keep {w w' : World} {base sz n : Nat} {e : TypeId} {v : Value} {xs : List Value} (h : w.ownsRow base e sz v n xs) (hk : ∀ b, v.ownBlock = some b → b < w.heap.size → w'.heap[b]? = w.heap[b]?) : w'.ownsRow base e sz v n xs := by
  refine ⟨h.1, ?_⟩
  rcases h.2 with h0 | ⟨g, cap, cur, rfl, hb, hc, r⟩
  · exact .inl h0
  · refine .inr ⟨g, cap, cur, rfl, hb, ?_, r⟩
    rw [hk g rfl (by
      rcases Nat.lt_or_ge g w.heap.size with h1 | h1
      · exact h1
      · rw [Array.getElem?_eq_none h1] at hc; cases hc)]
    exact hc
theorem ownsRow_lt {w : World} {base sz n : Nat} {e : TypeId} {v : Value} {xs : List Value} (h : w.ownsRow base e sz v n xs) (k : Nat) (hk : v.ownBlock = some k) : base ≤ k ∧ k < w.heap.size := by
  rcases h.2 with ⟨rfl, _⟩ | ⟨g, cap, cur, rfl, hb, hc, r⟩
  · cases hk
  · simp only [Value.ownBlock, Option.some.injEq] at hk
    subst hk
    refine ⟨hb, ?_⟩
    rcases Nat.lt_or_ge g w.heap.size with h1 | h1
    · exact h1
    · rw [Array.getElem?_eq_none h1] at hc; cases hc
/-- A slice of n elements of sz cells each. -/
def Rn (sz : Nat) (e : TypeId) (v : Value) (n : Nat) (xs : List Value) : Thing := fun w F => (∃ base, w.ownsRow base e sz v n xs) ∧ ∀ k, F k ↔ v.ownBlock = some k
theorem loc_rn (sz : Nat) (e : TypeId) (v : Value) (n : Nat) (xs : List Value) : Loc (Rn sz e v n xs) := fun w w' F ⟨⟨b, h⟩, hf⟩ hs hk => ⟨⟨b, ownsRow_keep h fun k hb _ => hk k ((hf k).2 hb)⟩, hf⟩
theorem Sep.rn {w0 w : World} {sz n : Nat} {e : TypeId} {v : Value} {xs : List Value} {L : List Thing} (h : Sep w0 (Rn sz e v n xs :: L) w) : w.ownsRow w0.heap.size e sz v n xs := by
  obtain ⟨F, ⟨⟨b, hF⟩, h1⟩, h2⟩ := h.head
  refine ⟨hF.1, ?_⟩
  rcases hF.2 with h3 | ⟨g, cap, cur, rfl, hb, r⟩
  · exact .inl h3
  · exact .inr ⟨g, cap, cur, rfl, (h2 g ((h1 g).2 rfl)).1, r⟩
theorem Sep.rnNil {w0 w : World} {L : List Thing} (sz : Nat) (e : TypeId) (h : Sep w0 L w) : Sep w0 (Rn sz e (.slice none 0 0) 0 [] :: L) w :=
  h.new (loc_rn sz e _ _ _) (Below.refl _ _) (F := fun _ => False) ⟨⟨0, World.ownsRow_nil w _ e sz⟩, fun k => ⟨fun h => h.elim, fun h => by cases h⟩⟩ fun _ h => h.elim
/-- 'append' of so many elements, that stand in a row of cells, onto it. -/
theorem append_rn {P : Program} {w0 w : World} {t ty e : TypeId} {i : TypeInfo} {z : Value} {sz : Nat} (ht : P.underlying t = some (.slice e)) (hi : P.info? e = some i) (hz : i.zero = some z)
    (hsize : i.size = sz) (hby : i.bytes ≤ 256) (hzs : z.cells.size = sz) (hpos : 0 < sz) {v : Value} {n m c b off : Nat} {xs news : List Value} {L : List Thing} (h : Sep w0 (Rn sz e v n xs :: L) w)
    (hl : news.length = m * sz) (hnews : ∀ j u, news[j]? = some u → w.cell? ⟨b, off + j, none⟩ = some u) (h1 : ∀ u ∈ news, u.oneCell' = true) (hlen : n + m ≤ 549755813888) :
    ∃ v' w', (Builtin.append_ #[t, t] ty #[v, .slice (some ⟨b, off, none⟩) m c]).run P w = .ok v' w' ∧ Sep w0 (Rn sz e v' (n + m) (xs ++ news) :: L) w' := by
  have hown := h.rn
  have hm : n + m ≤ maxLen := by unfold maxLen; omega
  have hbb : (n + m) * i.bytes ≤ 140737488355328 := by
    calc (n + m) * i.bytes ≤ 549755813888 * 256 := Nat.mul_le_mul hlen hby
      _ = 140737488355328 := by omega
  have hadd : ∀ j, (⟨b, off, none⟩ : Addr).add j = ⟨b, off + j, none⟩ := fun j => by unfold Addr.add; split <;> simp_all
  obtain ⟨v', w', hr, ho, hg, hn, hat⟩ := run_append_own_at (P := P) w w0.heap.size t ty e i z sz i.bytes ht hi hz hsize rfl hzs hpos v n xs hown ⟨b, off, none⟩ m c news hl (fun j u hj => by rw [hadd]; exact hnews j u hj) h1 hm hbb h.size
  refine ⟨v', w', hr, ?_⟩
  refine h.change (loc_rn _ _ _ _ _) fun F hF hlt => ⟨fun k => v'.ownBlock = some k, ⟨⟨_, ho⟩, fun _ => Iff.rfl⟩, fun k hk => ?_, ⟨hg.os, hg.tape, hg.output, hg.size, fun k hk hn => ?_⟩⟩
  · refine ⟨?_, (ownsRow_lt ho k hk).2⟩
    rcases hat with h1 | h1
    · exact .inl ((hF.2 k).2 (h1 ▸ hk))
    · rw [h1] at hk; cases hk; exact .inr (Nat.le_refl _)
  · exact hg.block k hk fun e => hn ((hF.2 k).2 e.symm)
/-- What it reads as. -/
theorem Sep.rnForm {w0 w : World} {sz n : Nat} {e : TypeId} {v : Value} {xs : List Value} {L : List Thing} (h : Sep w0 (Rn sz e v n xs :: L) w) : ∃ a c, v = .slice a n c ∧ n ≤ c ∧ c ≤ maxLen ∧ xs.length = n * sz ∧
    (0 < n → ∃ b, a = some ⟨b, 0, none⟩ ∧ b < w.heap.size ∧ ∀ j (hj : j < xs.length), w.cell? ⟨b, j, none⟩ = some xs[j]) := by
  have ho := h.rn
  rcases ho.2 with ⟨rfl, rfl⟩ | ⟨g, cap, cur, rfl, hb, hc, h1, h2, h3, h4⟩
  · exact ⟨none, 0, rfl, Nat.le_refl _, Nat.zero_le _, ho.1, fun h0 => by omega⟩
  · refine ⟨_, _, rfl, h1, h2, ho.1, fun h0 => ⟨g, rfl, (ownsRow_lt ho g rfl).2, fun j hj => ?_⟩⟩
    have hj2 : j < n * sz := by rw [← ho.1]; exact hj
    unfold World.cell?
    rw [hc]
    have h5 : (cur.toList.take (n * sz))[j]? = some xs[j] := by rw [h4]; exact List.getElem?_eq_getElem hj
    rw [List.getElem?_take, if_pos hj2] at h5
    simpa using h5
end Go.Proofs.YtcnbmeiielkigaaDoor
