/- Slices of one's own whose elements take several cells (structs). -/
import Derived.Test.YtafkbodmiblbnaaGreatDoorMZ01
import Derived.Test.YtafkbodmiblbnaaGreatDoorMZ04
import Derived.Test.YtafkbodmiblbnaaGreatDoorMItem5
namespace Go.Proofs.YtafkbodmiblbnaaGreatDoor
open Go.RowKit
set_option linter.unusedVariables false
theorem ownsRow_keep {w w' : World} {base sz n : Nat} {e : TypeId} {v : Value} {xs : List Value} (h : w.ownsRow base e sz v n xs) (hk : ∀ b, v.ownBlock = some b → b < w.heap.size → w'.heap[b]? = w.heap[b]?) : w'.ownsRow base e sz v n xs := by
  refine ⟨h.1, ?_⟩
  rcases h.2 with h0 | ⟨g, cap, cur, rfl, hb, hc, r⟩
  · exact .inl h0
  · refine .inr ⟨g, cap, cur, rfl, hb, ?_, r⟩
    rw [hk g rfl (by
      rcases Nat.lt_or_ge g w.heap.size with h1 | h1
      · exact h1
      · rw [Array.getElem?_eq_none h1] at hc; cases hc)]
    exact hc
theorem ownsRow_lt {w : World} {base sz n : Nat} {e : TypeId} {v : Value} {xs : List Value} (h : w.ownsRow base e sz v n xs) (k : Nat) (hk : v.ownBlock = some k) : base ≤ k ∧ k < w.heap.size := by
  rcases h.2 with ⟨rfl, _⟩ | ⟨g, cap, cur, rfl, hb, hc, r⟩
  · cases hk
  · simp only [Value.ownBlock, Option.some.injEq] at hk
    subst hk
    refine ⟨hb, ?_⟩
    rcases Nat.lt_or_ge g w.heap.size with h1 | h1
    · exact h1
    · rw [Array.getElem?_eq_none h1] at hc; cases hc
/-- A slice of n elements of sz cells each. -/
def Rn (sz : Nat) (e : TypeId) (v : Value) (n : Nat) (xs : List Value) : Thing := fun w F => (∃ base, w.ownsRow base e sz v n xs) ∧ ∀ k, F k ↔ v.ownBlock = some k
theorem loc_rn (sz : Nat) (e : TypeId) (v : Value) (n : Nat) (xs : List Value) : Loc (Rn sz e v n xs) := fun w w' F ⟨⟨b, h⟩, hf⟩ hs hk => ⟨⟨b, ownsRow_keep h fun k hb _ => hk k ((hf k).2 hb)⟩, hf⟩
theorem Sep.rn {w0 w : World} {sz n : Nat} {e : TypeId} {v : Value} {xs : List Value} {L : List Thing} (h : Sep w0 (Rn sz e v n xs :: L) w) : w.ownsRow w0.heap.size e sz v n xs := by
  obtain ⟨F, ⟨⟨b, hF⟩, h1⟩, h2⟩ := h.head
  refine ⟨hF.1, ?_⟩
  rcases hF.2 with h3 | ⟨g, cap, cur, rfl, hb, r⟩
  · exact .inl h3
  · exact .inr ⟨g, cap, cur, rfl, (h2 g ((h1 g).2 rfl)).1, r⟩
theorem Sep.rnNil {w0 w : World} {L : List Thing} (sz : Nat) (e : TypeId) (h : Sep w0 L w) : Sep w0 (Rn sz e (.slice none 0 0) 0 [] :: L) w :=
  h.new (loc_rn sz e _ _ _) (Below.refl _ _) (F := fun _ => False) ⟨⟨0, World.ownsRow_nil w _ e sz⟩, fun k => ⟨fun h => h.elim, fun h => by cases h⟩⟩ fun _ h => h.elim
/-- 'append' of so many elements, that stand in a row of cells, onto it. -/
theorem append_rn {P : Program} {w0 w : World} {t ty e : TypeId} {i : TypeInfo} {z : Value} {sz : Nat} (ht : P.underlying t = some (.slice e)) (hi : P.info? e = some i) (hz : i.zero = some z)
    (hsize : i.size = sz) (hby : i.bytes ≤ 256) (hzs : z.cells.size = sz) (hpos : 0 < sz) {v : Value} {n m c b off : Nat} {xs news : List Value} {L : List Thing} (h : Sep w0 (Rn sz e v n xs :: L) w)
    (hl : news.length = m * sz) (hnews : ∀ j u, news[j]? = some u → w.cell? ⟨b, off + j, none⟩ = some u) (h1 : ∀ u ∈ news, u.oneCell' = true) (hlen : n + m ≤ 549755813888) :
    ∃ v' w', (Builtin.append_ #[t, t] ty #[v, .slice (some ⟨b, off, none⟩) m c]).run P w = .ok v' w' ∧ Sep w0 (Rn sz e v' (n + m) (xs ++ news) :: L) w' := by
  have hown := h.rn
  have hm : n + m ≤ maxLen := by unfold maxLen; omega
  have hbb : (n + m) * i.bytes ≤ 140737488355328 := by
    calc (n + m) * i.bytes ≤ 549755813888 * 256 := Nat.mul_le_mul hlen hby
      _ = 140737488355328 := by omega
  have hadd : ∀ j, (⟨b, off, none⟩ : Addr).add j = ⟨b, off + j, none⟩ := fun j => by unfold Addr.add; split <;> simp_all
  obtain ⟨v', w', hr, ho, hg, hn, hat⟩ := run_append_own_at (P := P) w w0.heap.size t ty e i z sz i.bytes ht hi hz hsize rfl hzs hpos v n xs hown ⟨b, off, none⟩ m c news hl (fun j u hj => by rw [hadd]; exact hnews j u hj) h1 hm hbb h.size
  refine ⟨v', w', hr, ?_⟩
  refine h.change (loc_rn _ _ _ _ _) fun F hF hlt => ⟨fun k => v'.ownBlock = some k, ⟨⟨_, ho⟩, fun _ => Iff.rfl⟩, fun k hk => ?_, ⟨hg.os, hg.tape, hg.output, hg.size, fun k hk hn => ?_⟩⟩
  · refine ⟨?_, (ownsRow_lt ho k hk).2⟩
    rcases hat with h1 | h1
    · exact .inl ((hF.2 k).2 (h1 ▸ hk))
    · rw [h1] at hk; cases hk; exact .inr (Nat.le_refl _)
  · exact hg.block k hk fun e => hn ((hF.2 k).2 e.symm)
/-- What it reads as. -/
theorem Sep.rnForm {w0 w : World} {sz n : Nat} {e : TypeId} {v : Value} {xs : List Value} {L : List Thing} (h : Sep w0 (Rn sz e v n xs :: L) w) : ∃ a c, v = .slice a n c ∧ n ≤ c ∧ c ≤ maxLen ∧ xs.length = n * sz ∧
    (0 < n → ∃ b, a = some ⟨b, 0, none⟩ ∧ b < w.heap.size ∧ ∀ j (hj : j < xs.length), w.cell? ⟨b, j, none⟩ = some xs[j]) := by
  have ho := h.rn
  rcases ho.2 with ⟨rfl, rfl⟩ | ⟨g, cap, cur, rfl, hb, hc, h1, h2, h3, h4⟩
  · exact ⟨none, 0, rfl, Nat.le_refl _, Nat.zero_le _, ho.1, fun h0 => by omega⟩
  · refine ⟨_, _, rfl, h1, h2, ho.1, fun h0 => ⟨g, rfl, (ownsRow_lt ho g rfl).2, fun j hj => ?_⟩⟩
    have hj2 : j < n * sz := by rw [← ho.1]; exact hj
    unfold World.cell?
    rw [hc]
    have h5 : (cur.toList.take (n * sz))[j]? = some xs[j] := by rw [h4]; exact List.getElem?_eq_getElem hj
    rw [List.getElem?_take, if_pos hj2] at h5
    simpa using h5
end Go.Proofs.YtafkbodmiblbnaaGreatDoor
/- Package item: Copy. -/
namespace Go.Proofs.YtafkbodmiblbnaaGreatDoor
open Go.RowKit
set_option linter.unusedVariables false
set_option linter.unusedSimpArgs false
def lnCells (ls : List Ln) : List Value := ls.flatMap fun l => [.string l.1.1, .int .i64 l.2]
theorem lnCells_len : ∀ ls : List Ln, (lnCells ls).length = ls.length * 2
  | [] => rfl
  | l :: ls => by
    have := lnCells_len ls
    simp only [lnCells, List.flatMap_cons, List.length_append, List.length_cons, List.length_nil] at this ⊢
    omega
theorem lnCells_at : ∀ (ls : List Ln) (i : Nat) (hi : i < ls.length), (lnCells ls)[i * 2]? = some (.string ls[i].1.1) ∧ (lnCells ls)[i * 2 + 1]? = some (.int .i64 ls[i].2)
  | l :: ls, 0, _ => ⟨rfl, rfl⟩
  | l :: ls, i + 1, hi => by
    have := lnCells_at ls i (by simpa using hi)
    rw [show (i + 1) * 2 = i * 2 + 2 by omega]
    simpa [lnCells] using this
theorem lnCells_get {ls : List Ln} {j : Nat} {u : Value} (h : (lnCells ls)[j]? = some u) : ∃ i, ∃ hi : i < ls.length, (j = i * 2 ∧ u = .string ls[i].1.1) ∨ (j = i * 2 + 1 ∧ u = .int .i64 ls[i].2) := by
  have hj : j < ls.length * 2 := by
    rw [← lnCells_len]
    exact (List.getElem?_eq_some_iff.1 h).1
  obtain ⟨h0, h1⟩ := lnCells_at ls (j / 2) (by omega)
  refine ⟨j / 2, by omega, ?_⟩
  rcases Nat.mod_two_eq_zero_or_one j with hm | hm
  · have e : j / 2 * 2 = j := by omega
    rw [e, h] at h0
    exact .inl ⟨e.symm, Option.some.inj h0⟩
  · have e : j / 2 * 2 + 1 = j := by omega
    rw [e, h] at h1
    exact .inr ⟨e.symm, Option.some.inj h1⟩
/-- Lines of one's own. -/
abbrev LnR (v : Value) (ls : List Ln) : Thing := Rn 2 48 v ls.length (lnCells ls)
theorem Sep.lnS {w0 w : World} {v : Value} {ls : List Ln} {L : List Thing} (h : Sep w0 (LnR v ls :: L) w) : LnS w v ls := by
  have hr := h.rn.2
  obtain ⟨a, c, rfl, h1, h2, h3, h4⟩ := h.rnForm
  by_cases h0 : 0 < ls.length
  · obtain ⟨b, rfl, h5, h6⟩ := h4 h0
    refine .inr ⟨b, 0, c, rfl, h1, h2, h5, fun i hi => ?_⟩
    obtain ⟨q0, q1⟩ := lnCells_at ls i hi
    have k : ∀ j u, (lnCells ls)[j]? = some u → w.cell? ⟨b, j, none⟩ = some u := fun j u hu => by
      obtain ⟨hj, rfl⟩ := List.getElem?_eq_some_iff.1 hu
      exact h6 j hj
    rw [Nat.zero_add]
    exact ⟨k _ _ q0, k _ _ q1⟩
  · obtain rfl : ls = [] := List.eq_nil_of_length_eq_zero (by omega)
    refine .inl ⟨a, c, rfl, fun ha => ?_, rfl⟩
    subst ha
    rcases hr with ⟨h5, _⟩ | ⟨g, cap, cur, h5, _⟩
    · simp at h5; exact h5
    · simp at h5
theorem lnCells_one (ls : List Ln) : ∀ u ∈ lnCells ls, u.oneCell' = true := by
  intro u hu
  obtain ⟨l, _, hl⟩ := List.mem_flatMap.1 hu
  simp only [List.mem_cons, List.not_mem_nil, or_false] at hl
  rcases hl with rfl | rfl <;> rfl
theorem lnCells_app (a b : List Ln) : lnCells (a ++ b) = lnCells a ++ lnCells b := by simp [lnCells]
/-- A row that is appended to. -/
theorem rn_grow {w0 w w' : World} {sz n n' : Nat} {e : TypeId} {v v' : Value} {xs xs' : List Value} {L : List Thing} (h : Sep w0 (Rn sz e v n xs :: L) w) (ho : w'.ownsRow w0.heap.size e sz v' n' xs') (hg : w.grownBy w' v.ownBlock) (hat : v'.ownBlock = v.ownBlock ∨ v'.ownBlock = some w.heap.size) : Sep w0 (Rn sz e v' n' xs' :: L) w' := by
  refine h.change (loc_rn _ _ _ _ _) fun F hF hlt => ⟨fun k => v'.ownBlock = some k, ⟨⟨_, ho⟩, fun _ => Iff.rfl⟩, fun k hk => ?_, ⟨hg.os, hg.tape, hg.output, hg.size, fun k hk hn => ?_⟩⟩
  · refine ⟨?_, (ownsRow_lt ho k hk).2⟩
    rcases hat with h1 | h1
    · exact .inl ((hF.2 k).2 (h1 ▸ hk))
    · rw [h1] at hk; cases hk; exact .inr (Nat.le_refl _)
  · exact hg.block k hk fun e => hn ((hF.2 k).2 e.symm)
theorem rnEmpty {w0 w : World} {L : List Thing} (h : Sep w0 L w) : Sep w0 (LnR (.slice (some ⟨w.heap.size, 0, none⟩) 0 0) [] :: L) (w.alloc (.cells #[] 48)) := by
  refine (h.alloc (.cells #[] 48)).imp (loc_rn _ _ _ _ _) fun F hF => ⟨⟨0, ?_, .inr ⟨w.heap.size, 0, #[], rfl, Nat.zero_le _, hF.1, Nat.le_refl _, Nat.zero_le _, rfl, rfl⟩⟩, fun k => ⟨fun hk => by rw [(hF.2 k).1 hk]; rfl, fun hk => (hF.2 k).2 (by simpa [Value.ownBlock] using hk.symm)⟩⟩
  rfl
def opZ : Array Value := #[.int .i64 0, .string ⟨#[]⟩, .int .i64 0, .int .i64 0, .slice none 0 0]
theorem cells5 {w0 w : World} {b : Nat} {v0 v1 v2 v3 v4 : Value} {t : TypeId} {L : List Thing} (h : Sep w0 (Cl b #[v0, v1, v2, v3, v4] t :: L) w) :
    (w.cell? ⟨b, 0, none⟩ = some v0 ∧ w.cell? ⟨b, 1, none⟩ = some v1 ∧ w.cell? ⟨b, 2, none⟩ = some v2 ∧ w.cell? ⟨b, 3, none⟩ = some v3 ∧ w.cell? ⟨b, 4, none⟩ = some v4) :=
  ⟨h.cell rfl, h.cell rfl, h.cell rfl, h.cell rfl, h.cell rfl⟩
theorem frz5 {w0 w : World} {b : Nat} {xs : Array Value} {t : TypeId} {L : List Thing} (h : Sep w0 (Cl b xs t :: L) w) :
    (w.frozen? ⟨b, 0, none⟩ = false ∧ w.frozen? ⟨b, 1, none⟩ = false ∧ w.frozen? ⟨b, 2, none⟩ = false ∧ w.frozen? ⟨b, 3, none⟩ = false ∧ w.frozen? ⟨b, 4, none⟩ = false) := by
  have k : ∀ o, w.frozen? ⟨b, o, none⟩ = false := fun o => by unfold World.frozen?; rw [h.blk]; simp
  exact ⟨k 0, k 1, k 2, k 3, k 4⟩
theorem store5 {w0 w : World} {b : Nat} {v0 v1 v2 v3 v4 u0 u1 u2 u3 u4 : Value} {t : TypeId} {L : List Thing} (h : Sep w0 (Cl b #[v0, v1, v2, v3, v4] t :: L) w) :
    Sep w0 (Cl b #[u0, u1, u2, u3, u4] t :: L) (((((w.setCell ⟨b, 0, none⟩ u0).setCell ⟨b, 1, none⟩ u1).setCell ⟨b, 2, none⟩ u2).setCell ⟨b, 3, none⟩ u3).setCell ⟨b, 4, none⟩ u4) :=
  ((((h.setCell 0 _).setCell 1 _).setCell 2 _).setCell 3 _).setCell 4 _
end Go.Proofs.YtafkbodmiblbnaaGreatDoor
/- The document's own item: Same. -/
namespace Go.Proofs.YtafkbodmiblbnaaGreatDoor
open Go.RowKit
set_option linter.unusedVariables false
set_option linter.unusedSimpArgs false
theorem sameB_split (k : Int) (s : KS) (o n : Int) (ls : List Ln) (k' : Int) (s' : KS) (o' n' : Int) (ls' : List Ln) :
    (k ≠ k' ∧ sameB k s o n ls k' s' o' n' ls' = false) ∨ (k = k' ∧ s.1 ≠ s'.1 ∧ sameB k s o n ls k' s' o' n' ls' = false) ∨ (k = k' ∧ s.1 = s'.1 ∧ o ≠ o' ∧ sameB k s o n ls k' s' o' n' ls' = false) ∨
    (k = k' ∧ s.1 = s'.1 ∧ o = o' ∧ n ≠ n' ∧ sameB k s o n ls k' s' o' n' ls' = false) ∨ (k = k' ∧ s.1 = s'.1 ∧ o = o' ∧ n = n' ∧ ls.length ≠ ls'.length ∧ sameB k s o n ls k' s' o' n' ls' = false) ∨
    (k = k' ∧ s.1 = s'.1 ∧ o = o' ∧ n = n' ∧ ls.length = ls'.length ∧ sameB k s o n ls k' s' o' n' ls' = decide (ls = ls')) := by
  by_cases h1 : k = k'
  · by_cases h2 : s.1 = s'.1
    · by_cases h3 : o = o'
      · by_cases h4 : n = n'
        · by_cases h5 : ls.length = ls'.length
          · exact .inr (.inr (.inr (.inr (.inr ⟨h1, h2, h3, h4, h5, by simp [sameB, h1, h2, h3, h4]⟩))))
          · exact .inr (.inr (.inr (.inr (.inl ⟨h1, h2, h3, h4, h5, by
              have : decide (ls = ls') = false := decide_eq_false fun e => h5 (by rw [e])
              unfold sameB; rw [this]; simp⟩))))
        · exact .inr (.inr (.inr (.inl ⟨h1, h2, h3, h4, by simp [sameB, h4]⟩)))
      · exact .inr (.inr (.inl ⟨h1, h2, h3, by simp [sameB, h3]⟩))
    · exact .inr (.inl ⟨h1, h2, by simp [sameB, h2]⟩)
  · exact .inl ⟨h1, by simp [sameB, h1]⟩
set_option maxRecDepth 100000 in
set_option maxHeartbeats 16000000 in
theorem rsame_any {w0 w : World} {L : List Thing} (k : Int) (s : KS) (o n : Int) (v : Value) (la : List Ln) (k' : Int) (s' : KS) (o' n' : Int) (v' : Value) (lb : List Ln) (h : Sep w0 L w) (ha : LnS w v la) (hb : LnS w v' lb) (hl : la.length ≤ 9223372036854775807) :
    Calls Tryz.prog 89 #[.agg #[.int .i64 k, .string s.1, .int .i64 o, .int .i64 n, v], .agg #[.int .i64 k', .string s'.1, .int .i64 o', .int .i64 n', v']] w fun e w' => e = .returned (.bool (sameB k s o n la k' s' o' n' lb)) ∧ Sep w0 L w' := by
  suffices hh : Calls Tryz.prog 89 #[.agg #[.int .i64 k, .string s.1, .int .i64 o, .int .i64 n, v], .agg #[.int .i64 k', .string s'.1, .int .i64 o', .int .i64 n', v']] w fun e w' => e = .returned (.bool (sameB k s o n la k' s' o' n' lb)) ∧ Sep w [] w' from hh.mono fun e w' ⟨h1, h2⟩ => ⟨h1, h.below h2.low⟩
  clear h
  obtain ⟨aa, ca, rfl⟩ := ha.len
  obtain ⟨ab, cb, rfl⟩ := hb.len
  obtain ⟨wa, hwa⟩ : ∃ z, z = (w.alloc (.cells (opCells k s o n (.slice aa la.length ca)) 24)).alloc (.cells (opCells k' s' o' n' (.slice ab lb.length cb)) 24) := ⟨_, rfl⟩
  have h1 := ((Sep.start w).alloc (.cells (opCells k s o n (.slice aa la.length ca)) 24)).alloc (.cells (opCells k' s' o' n' (.slice ab lb.length cb)) 24)
  rw [← hwa] at h1
  rw [show (w.alloc (.cells (opCells k s o n (.slice aa la.length ca)) 24)).heap.size = w.heap.size + 1 by simp] at h1
  obtain ⟨b1, hb1⟩ : ∃ z, z = w.heap.size := ⟨_, rfl⟩
  obtain ⟨b2, hb2⟩ : ∃ z, z = w.heap.size + 1 := ⟨_, rfl⟩
  rw [← hb2, ← hb1] at h1
  have HA := Lib.hid (ha.below h1.low)
  have HB := Lib.hid (hb.below h1.low)
  have HS := Lib.hid h1
  obtain ⟨p0, p1, p2, p3, p4⟩ := op_cells h1.sw2
  obtain ⟨q0, q1, q2, q3, q4⟩ := op_cells h1
  unfold opCells at hwa
  clear ha hb h1
  rcases sameB_split k s o n la k' s' o' n' lb with ⟨e1, er⟩ | ⟨rfl, e1, er⟩ | ⟨rfl, e2, e1, er⟩ | ⟨rfl, e2, rfl, e1, er⟩ | ⟨rfl, e2, rfl, rfl, e1, er⟩ | ⟨rfl, e2, rfl, rfl, hne, er⟩
  · rw [er]
    have x1 : (k != k') = true := by rw [bne_iff_ne]; exact e1
    clear er e1
    go_enter Tryz.func89, Tryz.ntmps89
    go_wp2_with fail
    go_ret
    exact ⟨rfl, by first | exact .nil HS.out.low | (rw [← hwa]; exact .nil HS.out.low)⟩
  · rw [er]
    have x1 : (s.1.toList != s'.1.toList) = true := by rw [bne, str_ne e1]; rfl
    have x0 : (s.1.toList == s'.1.toList) = false := str_ne e1
    clear er e1
    go_enter Tryz.func89, Tryz.ntmps89
    go_wp2_with fail
    go_ret
    exact ⟨rfl, by first | exact .nil HS.out.low | (rw [← hwa]; exact .nil HS.out.low)⟩
  · rw [er]
    have x1 : (o != o') = true := by rw [bne_iff_ne]; exact e1
    obtain rfl : s = s' := Subtype.ext e2
    clear er e1 e2
    go_enter Tryz.func89, Tryz.ntmps89
    go_wp2_with fail
    go_ret
    exact ⟨rfl, by first | exact .nil HS.out.low | (rw [← hwa]; exact .nil HS.out.low)⟩
  · rw [er]
    have x1 : (n != n') = true := by rw [bne_iff_ne]; exact e1
    obtain rfl : s = s' := Subtype.ext e2
    clear er e1 e2
    go_enter Tryz.func89, Tryz.ntmps89
    go_wp2_with fail
    go_ret
    exact ⟨rfl, by first | exact .nil HS.out.low | (rw [← hwa]; exact .nil HS.out.low)⟩
  · rw [er]
    have x1 : (((la.length : Nat) : Int) != ((lb.length : Nat) : Int)) = true := by rw [bne_iff_ne]; omega
    have x2 : (la.length != lb.length) = true := by rw [bne_iff_ne]; exact e1
    obtain rfl : s = s' := Subtype.ext e2
    clear er e1 e2
    go_enter Tryz.func89, Tryz.ntmps89
    go_wp2_with fail
    go_ret
    exact ⟨rfl, by first | exact .nil HS.out.low | (rw [← hwa]; exact .nil HS.out.low)⟩
  · rw [er]
    clear er
    obtain rfl : s = s' := Subtype.ext e2
    have hn : (((la.length : Nat) : Int) != ((lb.length : Nat) : Int)) = false := by simp [hne]
    have hn' : (la.length != lb.length) = false := by simp [hne]
    have HN := Lib.hid hne
    obtain ⟨r, hr⟩ : ∃ r : Bool, r = decide (la = lb) := ⟨_, rfl⟩
    rw [← hr]
    have HR := Lib.hid hr
    clear hne hr
    go_enter Tryz.func89, Tryz.ntmps89
    go_wp2_with fail
    rw [← hwa]
    rw [← hb2]
    rw [← hb1]
    clear hwa hb1 hb2
    go_wp2_with fail
    go_loopw [5] (fun i wr => ∃ k m : Nat, k ≤ la.length ∧ i = .int .i64 k ∧ la.take k = lb.take k ∧ wr = wa.drewN m) (fun i _ => la.length - (intOf i).toNat)
    case atStart => exact ⟨0, 0, by omega, rfl, rfl, rfl⟩
    case round =>
      obtain ⟨j, m, hk, rfl, ht, rfl⟩ := hrel
      have k0 : (0 : Int) ≤ (j : Int) := by omega
      have kb : (j : Int) ≤ 9223372036854775807 := by omega
      by_cases hkn : j < la.length
      · have hd : decide (j < la.length) = true := decide_eq_true hkn
        have hkb : j < lb.length := by have := HN.out; omega
        have k1 : (j : Int) < (la.length : Int) := by omega
        have k2 : (j : Int) < (lb.length : Int) := by omega
        obtain ⟨-, -, -, b3, o3, rfl, -, hc1⟩ := HA.out.at hkn
        obtain ⟨-, -, -, b4, o4, rfl, -, hc2⟩ := HB.out.at hkb
        obtain ⟨c0, c1⟩ := hc1 wa (Below.refl _ wa)
        obtain ⟨d0, d1⟩ := hc2 wa (Below.refl _ wa)
        by_cases he : la[j] = lb[j]
        · have HT := Lib.hid (takeL_succ ht hkn hkb he)
          rw [← he] at d0 d1
          generalize la[j] = z at *
          clear ht hc1 hc2 hkn hkb he
          go_wp2_with fail
          go_quiet (fail)
          go_wp2_with fail
          go_roundw
          case rel => exact ⟨j + 1, m + nq, of_decide_eq_true hd, by go_num, HT.out, by simp [World.drewN, Nat.add_assoc]⟩
          case measure => have hkn := of_decide_eq_true hd; simp [intOf]; omega
        · have HF : Hid (r = false) := Lib.hid (by
            rw [HR.out]
            exact decide_eq_false fun e => by subst e; exact he rfl)
          generalize la[j] = z at *
          generalize lb[j] = z' at *
          by_cases hs : z.1.1 = z'.1.1
          · have e2 : (z.2 == z'.2) = false := by
              rw [beq_eq_false_iff_ne]
              exact fun h => he (Prod.ext (Subtype.ext hs) h)
            rw [← hs] at d0
            clear ht hc1 hc2 hkn hkb he hs
            go_wp2_with fail
            go_quiet (fail)
            go_wp2_with fail
            go_ret
            rw [HF.out]
            exact ⟨rfl, .nil ((HS.out.drewN m).drewN nq).low⟩
          · have e3 : (z.1.1.toList == z'.1.1.toList) = false := str_ne hs
            have e4 : (z.1.1.toList != z'.1.1.toList) = true := by rw [bne, e3]; rfl
            clear ht hc1 hc2 hkn hkb he hs
            go_wp2_with fail
            go_quiet (fail)
            go_wp2_with fail
            go_ret
            rw [HF.out]
            exact ⟨rfl, .nil ((HS.out.drewN m).drewN nq).low⟩
      · have hd : decide (j < la.length) = false := decide_eq_false hkn
        have HF : Hid (r = true) := Lib.hid (by
          rw [HR.out]
          have hkl : j = la.length := by omega
          rw [hkl, List.take_length, HN.out, List.take_length] at ht
          exact decide_eq_true ht)
        clear ht hkn
        go_wp2_with fail
        go_ret
        rw [HF.out]
        exact ⟨rfl, .nil (HS.out.drewN m).low⟩
end Go.Proofs.YtafkbodmiblbnaaGreatDoor
/- More of things beside each other. -/
namespace Go.Proofs.YtafkbodmiblbnaaGreatDoor
open Go.RowKit
set_option linter.unusedVariables false
end Go.Proofs.YtafkbodmiblbnaaGreatDoor
