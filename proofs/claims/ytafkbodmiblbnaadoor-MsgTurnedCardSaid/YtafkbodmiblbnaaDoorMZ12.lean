/- Slices of one's own whose elements take several cells (structs). -/
import Derived.Test.YtafkbodmiblbnaaDoorMZ01
import Derived.Test.YtafkbodmiblbnaaDoorMZ05
import Derived.Test.YtafkbodmiblbnaaDoorMZ06
import Derived.Test.YtafkbodmiblbnaaDoorMItem5
namespace Go.Proofs.YtafkbodmiblbnaaDoor
open Go.RowKit
set_option linter.unusedVariables false
theorem ownsRow_keep {w w' : World} {base sz n : Nat} {e : TypeId} {v : Value} {xs : List Value} (h : w.ownsRow base e sz v n xs) (hk : ∀ b, v.ownBlock = some b → b < w.heap.size → w'.heap[b]? = w.heap[b]?) : w'.ownsRow base e sz v n xs := by
  refine ⟨h.1, ?_⟩
  rcases h.2 with h0 | ⟨g, cap, cur, rfl, hb, hc, r⟩
  · exact .inl h0
  · refine .inr ⟨g, cap, cur, rfl, hb, ?_, r⟩
    rw [hk g rfl (by
      rcases Nat.lt_or_ge g w.heap.size with h1 | h1
      · exact h1
      · rw [Array.getElem?_eq_none h1] at hc; cases hc)]
    exact hc
theorem ownsRow_lt {w : World} {base sz n : Nat} {e : TypeId} {v : Value} {xs : List Value} (h : w.ownsRow base e sz v n xs) (k : Nat) (hk : v.ownBlock = some k) : base ≤ k ∧ k < w.heap.size := by
  rcases h.2 with ⟨rfl, _⟩ | ⟨g, cap, cur, rfl, hb, hc, r⟩
  · cases hk
  · simp only [Value.ownBlock, Option.some.injEq] at hk
    subst hk
    refine ⟨hb, ?_⟩
    rcases Nat.lt_or_ge g w.heap.size with h1 | h1
    · exact h1
    · rw [Array.getElem?_eq_none h1] at hc; cases hc
/-- A slice of n elements of sz cells each. -/
def Rn (sz : Nat) (e : TypeId) (v : Value) (n : Nat) (xs : List Value) : Thing := fun w F => (∃ base, w.ownsRow base e sz v n xs) ∧ ∀ k, F k ↔ v.ownBlock = some k
theorem loc_rn (sz : Nat) (e : TypeId) (v : Value) (n : Nat) (xs : List Value) : Loc (Rn sz e v n xs) := fun w w' F ⟨⟨b, h⟩, hf⟩ hs hk => ⟨⟨b, ownsRow_keep h fun k hb _ => hk k ((hf k).2 hb)⟩, hf⟩
theorem Sep.rn {w0 w : World} {sz n : Nat} {e : TypeId} {v : Value} {xs : List Value} {L : List Thing} (h : Sep w0 (Rn sz e v n xs :: L) w) : w.ownsRow w0.heap.size e sz v n xs := by
  obtain ⟨F, ⟨⟨b, hF⟩, h1⟩, h2⟩ := h.head
  refine ⟨hF.1, ?_⟩
  rcases hF.2 with h3 | ⟨g, cap, cur, rfl, hb, r⟩
  · exact .inl h3
  · exact .inr ⟨g, cap, cur, rfl, (h2 g ((h1 g).2 rfl)).1, r⟩
theorem Sep.rnNil {w0 w : World} {L : List Thing} (sz : Nat) (e : TypeId) (h : Sep w0 L w) : Sep w0 (Rn sz e (.slice none 0 0) 0 [] :: L) w :=
  h.new (loc_rn sz e _ _ _) (Below.refl _ _) (F := fun _ => False) ⟨⟨0, World.ownsRow_nil w _ e sz⟩, fun k => ⟨fun h => h.elim, fun h => by cases h⟩⟩ fun _ h => h.elim
/-- 'append' of so many elements, that stand in a row of cells, onto it. -/
theorem append_rn {P : Program} {w0 w : World} {t ty e : TypeId} {i : TypeInfo} {z : Value} {sz : Nat} (ht : P.underlying t = some (.slice e)) (hi : P.info? e = some i) (hz : i.zero = some z)
    (hsize : i.size = sz) (hby : i.bytes ≤ 256) (hzs : z.cells.size = sz) (hpos : 0 < sz) {v : Value} {n m c b off : Nat} {xs news : List Value} {L : List Thing} (h : Sep w0 (Rn sz e v n xs :: L) w)
    (hl : news.length = m * sz) (hnews : ∀ j u, news[j]? = some u → w.cell? ⟨b, off + j, none⟩ = some u) (h1 : ∀ u ∈ news, u.oneCell' = true) (hlen : n + m ≤ 549755813888) :
    ∃ v' w', (Builtin.append_ #[t, t] ty #[v, .slice (some ⟨b, off, none⟩) m c]).run P w = .ok v' w' ∧ Sep w0 (Rn sz e v' (n + m) (xs ++ news) :: L) w' := by
  have hown := h.rn
  have hm : n + m ≤ maxLen := by unfold maxLen; omega
  have hbb : (n + m) * i.bytes ≤ 140737488355328 := by
    calc (n + m) * i.bytes ≤ 549755813888 * 256 := Nat.mul_le_mul hlen hby
      _ = 140737488355328 := by omega
  have hadd : ∀ j, (⟨b, off, none⟩ : Addr).add j = ⟨b, off + j, none⟩ := fun j => by unfold Addr.add; split <;> simp_all
  obtain ⟨v', w', hr, ho, hg, hn, hat⟩ := run_append_own_at (P := P) w w0.heap.size t ty e i z sz i.bytes ht hi hz hsize rfl hzs hpos v n xs hown ⟨b, off, none⟩ m c news hl (fun j u hj => by rw [hadd]; exact hnews j u hj) h1 hm hbb h.size
  refine ⟨v', w', hr, ?_⟩
  refine h.change (loc_rn _ _ _ _ _) fun F hF hlt => ⟨fun k => v'.ownBlock = some k, ⟨⟨_, ho⟩, fun _ => Iff.rfl⟩, fun k hk => ?_, ⟨hg.os, hg.tape, hg.output, hg.size, fun k hk hn => ?_⟩⟩
  · refine ⟨?_, (ownsRow_lt ho k hk).2⟩
    rcases hat with h1 | h1
    · exact .inl ((hF.2 k).2 (h1 ▸ hk))
    · rw [h1] at hk; cases hk; exact .inr (Nat.le_refl _)
  · exact hg.block k hk fun e => hn ((hF.2 k).2 e.symm)
/-- What it reads as. -/
theorem Sep.rnForm {w0 w : World} {sz n : Nat} {e : TypeId} {v : Value} {xs : List Value} {L : List Thing} (h : Sep w0 (Rn sz e v n xs :: L) w) : ∃ a c, v = .slice a n c ∧ n ≤ c ∧ c ≤ maxLen ∧ xs.length = n * sz ∧
    (0 < n → ∃ b, a = some ⟨b, 0, none⟩ ∧ b < w.heap.size ∧ ∀ j (hj : j < xs.length), w.cell? ⟨b, j, none⟩ = some xs[j]) := by
  have ho := h.rn
  rcases ho.2 with ⟨rfl, rfl⟩ | ⟨g, cap, cur, rfl, hb, hc, h1, h2, h3, h4⟩
  · exact ⟨none, 0, rfl, Nat.le_refl _, Nat.zero_le _, ho.1, fun h0 => by omega⟩
  · refine ⟨_, _, rfl, h1, h2, ho.1, fun h0 => ⟨g, rfl, (ownsRow_lt ho g rfl).2, fun j hj => ?_⟩⟩
    have hj2 : j < n * sz := by rw [← ho.1]; exact hj
    unfold World.cell?
    rw [hc]
    have h5 : (cur.toList.take (n * sz))[j]? = some xs[j] := by rw [h4]; exact List.getElem?_eq_getElem hj
    rw [List.getElem?_take, if_pos hj2] at h5
    simpa using h5
end Go.Proofs.YtafkbodmiblbnaaDoor
/- Package item: Copy. -/
namespace Go.Proofs.YtafkbodmiblbnaaDoor
open Go.RowKit
set_option linter.unusedVariables false
set_option linter.unusedSimpArgs false
def lnCells (ls : List Ln) : List Value := ls.flatMap fun l => [.string l.1.1, .int .i64 l.2]
theorem lnCells_len : ∀ ls : List Ln, (lnCells ls).length = ls.length * 2
  | [] => rfl
  | l :: ls => by
    have := lnCells_len ls
    simp only [lnCells, List.flatMap_cons, List.length_append, List.length_cons, List.length_nil] at this ⊢
    omega
theorem lnCells_at : ∀ (ls : List Ln) (i : Nat) (hi : i < ls.length), (lnCells ls)[i * 2]? = some (.string ls[i].1.1) ∧ (lnCells ls)[i * 2 + 1]? = some (.int .i64 ls[i].2)
  | l :: ls, 0, _ => ⟨rfl, rfl⟩
  | l :: ls, i + 1, hi => by
    have := lnCells_at ls i (by simpa using hi)
    rw [show (i + 1) * 2 = i * 2 + 2 by omega]
    simpa [lnCells] using this
theorem lnCells_get {ls : List Ln} {j : Nat} {u : Value} (h : (lnCells ls)[j]? = some u) : ∃ i, ∃ hi : i < ls.length, (j = i * 2 ∧ u = .string ls[i].1.1) ∨ (j = i * 2 + 1 ∧ u = .int .i64 ls[i].2) := by
  have hj : j < ls.length * 2 := by
    rw [← lnCells_len]
    exact (List.getElem?_eq_some_iff.1 h).1
  obtain ⟨h0, h1⟩ := lnCells_at ls (j / 2) (by omega)
  refine ⟨j / 2, by omega, ?_⟩
  rcases Nat.mod_two_eq_zero_or_one j with hm | hm
  · have e : j / 2 * 2 = j := by omega
    rw [e, h] at h0
    exact .inl ⟨e.symm, Option.some.inj h0⟩
  · have e : j / 2 * 2 + 1 = j := by omega
    rw [e, h] at h1
    exact .inr ⟨e.symm, Option.some.inj h1⟩
/-- Lines of one's own. -/
abbrev LnR (v : Value) (ls : List Ln) : Thing := Rn 2 117 v ls.length (lnCells ls)
theorem Sep.lnS {w0 w : World} {v : Value} {ls : List Ln} {L : List Thing} (h : Sep w0 (LnR v ls :: L) w) : LnS w v ls := by
  have hr := h.rn.2
  obtain ⟨a, c, rfl, h1, h2, h3, h4⟩ := h.rnForm
  by_cases h0 : 0 < ls.length
  · obtain ⟨b, rfl, h5, h6⟩ := h4 h0
    refine .inr ⟨b, 0, c, rfl, h1, h2, h5, fun i hi => ?_⟩
    obtain ⟨q0, q1⟩ := lnCells_at ls i hi
    have k : ∀ j u, (lnCells ls)[j]? = some u → w.cell? ⟨b, j, none⟩ = some u := fun j u hu => by
      obtain ⟨hj, rfl⟩ := List.getElem?_eq_some_iff.1 hu
      exact h6 j hj
    rw [Nat.zero_add]
    exact ⟨k _ _ q0, k _ _ q1⟩
  · obtain rfl : ls = [] := List.eq_nil_of_length_eq_zero (by omega)
    refine .inl ⟨a, c, rfl, fun ha => ?_, rfl⟩
    subst ha
    rcases hr with ⟨h5, _⟩ | ⟨g, cap, cur, h5, _⟩
    · simp at h5; exact h5
    · simp at h5
theorem infoLn : (Tryd.prog.info? 117).map (fun i => (i.size, decide (i.bytes ≤ 256), i.zero.map (fun z => z.cells.size))) = some (2, true, some 2) := by kernel_rfl
theorem lnCells_one (ls : List Ln) : ∀ u ∈ lnCells ls, u.oneCell' = true := by
  intro u hu
  obtain ⟨l, _, hl⟩ := List.mem_flatMap.1 hu
  simp only [List.mem_cons, List.not_mem_nil, or_false] at hl
  rcases hl with rfl | rfl <;> rfl
theorem lnCells_app (a b : List Ln) : lnCells (a ++ b) = lnCells a ++ lnCells b := by simp [lnCells]
/-- A row that is appended to. -/
theorem rn_grow {w0 w w' : World} {sz n n' : Nat} {e : TypeId} {v v' : Value} {xs xs' : List Value} {L : List Thing} (h : Sep w0 (Rn sz e v n xs :: L) w) (ho : w'.ownsRow w0.heap.size e sz v' n' xs') (hg : w.grownBy w' v.ownBlock) (hat : v'.ownBlock = v.ownBlock ∨ v'.ownBlock = some w.heap.size) : Sep w0 (Rn sz e v' n' xs' :: L) w' := by
  refine h.change (loc_rn _ _ _ _ _) fun F hF hlt => ⟨fun k => v'.ownBlock = some k, ⟨⟨_, ho⟩, fun _ => Iff.rfl⟩, fun k hk => ?_, ⟨hg.os, hg.tape, hg.output, hg.size, fun k hk hn => ?_⟩⟩
  · refine ⟨?_, (ownsRow_lt ho k hk).2⟩
    rcases hat with h1 | h1
    · exact .inl ((hF.2 k).2 (h1 ▸ hk))
    · rw [h1] at hk; cases hk; exact .inr (Nat.le_refl _)
  · exact hg.block k hk fun e => hn ((hF.2 k).2 e.symm)
/-- 'append' of lines that are read. -/
theorem append_ln {w0 w : World} {v x : Value} {ls ms : List Ln} {L : List Thing} (ty : TypeId) (h : Sep w0 (LnR v ls :: L) w) (hx : LnS w x ms) (hlen : ls.length + ms.length ≤ 549755813888) :
    ∃ v' w', (Builtin.append_ #[28, 28] ty #[v, x]).run Tryd.prog w = .ok v' w' ∧ Sep w0 (LnR v' (ls ++ ms) :: L) w' ∧ (v' = .slice none 0 0 → v = .slice none 0 0) := by
  obtain ⟨i, hi, he⟩ := Option.map_eq_some_iff.1 infoLn
  simp only [Prod.mk.injEq, decide_eq_true_eq] at he
  obtain ⟨z, hz, hz2⟩ := Option.map_eq_some_iff.1 he.2.2
  have hown := h.rn
  have hm : ls.length + ms.length ≤ maxLen := by unfold maxLen; omega
  have hbb : (ls.length + ms.length) * i.bytes ≤ 140737488355328 := by
    calc (ls.length + ms.length) * i.bytes ≤ 549755813888 * 256 := Nat.mul_le_mul hlen he.2.1
      _ = 140737488355328 := by omega
  unfold LnR
  rw [lnCells_app, List.length_append]
  rcases hx with ⟨a, c, rfl, _, rfl⟩ | ⟨b, off, c, rfl, h1, h2, h3, h4⟩
  · cases a with
    | none =>
      refine ⟨v, w, run_append_owned_none (P := Tryd.prog) w w0.heap.size _ ty 117 i 2 Tryd.underlying28 hi v _ _ hown, by rw [show lnCells ([] : List Ln) = [] from rfl, List.append_nil]; exact h, id⟩
    | some x =>
      obtain ⟨v', w', hr, ho, hg, hn, hat⟩ := run_append_own_at (P := Tryd.prog) w w0.heap.size _ ty 117 i z 2 i.bytes Tryd.underlying28 hi hz he.1 rfl hz2 (by decide) v ls.length (lnCells ls) hown x 0 c [] rfl (fun j u hj => by simp at hj) (fun u hu => by cases hu) hm hbb h.size
      refine ⟨v', w', hr, ?_, fun h => (hn.1 h).1⟩
      exact rn_grow h ho hg hat
  · have hadd : ∀ j, (⟨b, off, none⟩ : Addr).add j = ⟨b, off + j, none⟩ := fun j => by unfold Addr.add; split <;> simp_all
    obtain ⟨v', w', hr, ho, hg, hn, hat⟩ := run_append_own_at (P := Tryd.prog) w w0.heap.size _ ty 117 i z 2 i.bytes Tryd.underlying28 hi hz he.1 rfl hz2 (by decide) v ls.length (lnCells ls) hown ⟨b, off, none⟩ ms.length c (lnCells ms) (lnCells_len ms) (fun j u hj => by
      rw [hadd]
      obtain ⟨k, hk, h5⟩ := lnCells_get hj
      rcases h5 with ⟨rfl, rfl⟩ | ⟨rfl, rfl⟩
      · exact (h4 k hk).1
      · exact (h4 k hk).2) (lnCells_one ms) hm hbb h.size
    exact ⟨v', w', hr, rn_grow h ho hg hat, fun h => (hn.1 h).1⟩
theorem rnEmpty {w0 w : World} {L : List Thing} (h : Sep w0 L w) : Sep w0 (LnR (.slice (some ⟨w.heap.size, 0, none⟩) 0 0) [] :: L) (w.alloc (.cells #[] 117)) := by
  refine (h.alloc (.cells #[] 117)).imp (loc_rn _ _ _ _ _) fun F hF => ⟨⟨0, ?_, .inr ⟨w.heap.size, 0, #[], rfl, Nat.zero_le _, hF.1, Nat.le_refl _, Nat.zero_le _, rfl, rfl⟩⟩, fun k => ⟨fun hk => by rw [(hF.2 k).1 hk]; rfl, fun hk => (hF.2 k).2 (by simpa [Value.ownBlock] using hk.symm)⟩⟩
  rfl
set_option maxRecDepth 100000 in
set_option maxHeartbeats 1000000 in
theorem cloneL_any {w0 w : World} {L : List Thing} (v : Value) (ls : List Ln) (h : Sep w0 L w) (hv : LnS w v ls) (hl : ls.length ≤ 1000) :
    Calls Tryd.prog 81 #[v] w fun e w' => ∃ u, e = .returned u ∧ Sep w0 (LnR u ls :: L) w' := by
  obtain ⟨a, c, hva⟩ := hv.len
  by_cases hn : v = .slice none 0 0
  · subst hn
    have h0 : ls = [] := by
      rcases hv with ⟨_, _, _, _, h⟩ | ⟨b, off, c', h, _⟩
      · exact h
      · simp at h
    subst h0
    have e1 := fun w => Lib.run_eql_slice_nil (P := Tryd.prog) w 28 117 none 0 0 0 0 Tryd.underlying28
    have H := Lib.hid (h.rnNil 2 117)
    clear h hv hva
    go_enter Tryd.func81, Tryd.ntmps81
    go_wp2_with fail
    go_ret
    exact ⟨_, rfl, H.out⟩
  · have ha : ∃ x, a = some x := by
      cases a with
      | some x => exact ⟨x, rfl⟩
      | none =>
        exfalso
        rcases hv with ⟨a', c', h1, h3, h2⟩ | ⟨b, off, c', h1, _⟩
        · subst h2
          rw [hva] at h1
          simp only [Value.slice.injEq, List.length_nil, true_and] at h1
          obtain ⟨rfl, rfl⟩ := h1
          rw [h3 rfl] at hva
          exact hn hva
        · rw [hva] at h1; simp at h1
    obtain ⟨x, rfl⟩ := ha
    subst hva
    have e1 := fun w => Lib.run_eql_slice_nil (P := Tryd.prog) w 28 117 (some x) ls.length c 0 0 Tryd.underlying28
    have h1 := rnEmpty h
    obtain ⟨v', w', hr, h2, hnil⟩ := append_ln (ms := ls) 28 h1 (hv.below ((Below.refl w.heap.size w).alloc (Nat.le_refl _) _)) (by simp; omega)
    rw [List.nil_append] at h2
    have H1 := Lib.hid hr
    have H2 := Lib.hid h2
    obtain ⟨a2, c2, rfl, -⟩ := h2.rnForm
    clear h hv h1 h2 hr hnil hn
    go_enter Tryd.func81, Tryd.ntmps81
    go_wp2_with (at_builtin; refine wpList_append_run rfl _ _ _ _ rfl rfl rfl H1.out ?_)
    go_ret
    exact ⟨_, rfl, H2.out⟩
def opZ : Array Value := #[.int .i64 0, .string ⟨#[]⟩, .int .i64 0, .int .i64 0, .slice none 0 0]
theorem cells5 {w0 w : World} {b : Nat} {v0 v1 v2 v3 v4 : Value} {t : TypeId} {L : List Thing} (h : Sep w0 (Cl b #[v0, v1, v2, v3, v4] t :: L) w) :
    (w.cell? ⟨b, 0, none⟩ = some v0 ∧ w.cell? ⟨b, 1, none⟩ = some v1 ∧ w.cell? ⟨b, 2, none⟩ = some v2 ∧ w.cell? ⟨b, 3, none⟩ = some v3 ∧ w.cell? ⟨b, 4, none⟩ = some v4) :=
  ⟨h.cell rfl, h.cell rfl, h.cell rfl, h.cell rfl, h.cell rfl⟩
theorem frz5 {w0 w : World} {b : Nat} {xs : Array Value} {t : TypeId} {L : List Thing} (h : Sep w0 (Cl b xs t :: L) w) :
    (w.frozen? ⟨b, 0, none⟩ = false ∧ w.frozen? ⟨b, 1, none⟩ = false ∧ w.frozen? ⟨b, 2, none⟩ = false ∧ w.frozen? ⟨b, 3, none⟩ = false ∧ w.frozen? ⟨b, 4, none⟩ = false) := by
  have k : ∀ o, w.frozen? ⟨b, o, none⟩ = false := fun o => by unfold World.frozen?; rw [h.blk]; simp
  exact ⟨k 0, k 1, k 2, k 3, k 4⟩
theorem store5 {w0 w : World} {b : Nat} {v0 v1 v2 v3 v4 u0 u1 u2 u3 u4 : Value} {t : TypeId} {L : List Thing} (h : Sep w0 (Cl b #[v0, v1, v2, v3, v4] t :: L) w) :
    Sep w0 (Cl b #[u0, u1, u2, u3, u4] t :: L) (((((w.setCell ⟨b, 0, none⟩ u0).setCell ⟨b, 1, none⟩ u1).setCell ⟨b, 2, none⟩ u2).setCell ⟨b, 3, none⟩ u3).setCell ⟨b, 4, none⟩ u4) :=
  ((((h.setCell 0 _).setCell 1 _).setCell 2 _).setCell 3 _).setCell 4 _
set_option maxRecDepth 100000 in
set_option maxHeartbeats 2000000 in
theorem copy_any {w0 w : World} {L : List Thing} (k : Int) (s : KS) (o n : Int) (v : Value) (ls : List Ln) (h : Sep w0 L w) (hv : LnS w v ls) (hl : ls.length ≤ 1000) :
    Calls Tryd.prog 65 #[.agg #[.int .i64 k, .string s.1, .int .i64 o, .int .i64 n, v]] w fun e w' => ∃ u, e = .returned (.agg #[.int .i64 k, .string s.1, .int .i64 o, .int .i64 n, u]) ∧ Sep w0 (LnR u ls :: L) w' := by
  obtain ⟨a, c, rfl⟩ := hv.len
  obtain ⟨wa, hwa⟩ : ∃ z, z = (w.alloc (.cells (opCells k s o n (.slice a ls.length c)) 30)).alloc (.cells opZ 30) := ⟨_, rfl⟩
  have h1 := (h.alloc (.cells (opCells k s o n (.slice a ls.length c)) 30)).alloc (.cells opZ 30)
  have hlow : Below w.heap.size w wa := by
    rw [hwa]
    exact ((Below.refl _ w).alloc (Nat.le_refl _) _).alloc (by simp) _
  rw [← hwa] at h1
  rw [show (w.alloc (.cells (opCells k s o n (.slice a ls.length c)) 30)).heap.size = w.heap.size + 1 by simp] at h1
  have HC := Lib.hid (cloneL_any _ ls h1 (hv.below hlow) hl)
  unfold opCells opZ at *
  obtain ⟨c0, c1, c2, c3, c4⟩ := cells5 h1.sw2
  clear h h1 hv hlow
  go_enter Tryd.func65, Tryd.ntmps65
  go_wp2_with fail
  rw [← hwa]
  clear hwa
  go_wp2_with fail
  refine HC.out.mono ?_
  rintro r0 w1 ⟨u, rfl, h2⟩
  clear c0 c1 c2 c3 c4 HC
  obtain ⟨a2, c2, rfl, -⟩ := h2.rnForm
  have f4 := (frz5 h2.sw3).2.2.2.2
  have b4 := (cells5 h2.sw3).2.2.2.2
  have h3 : Sep w0 (Cl w.heap.size #[.int .i64 k, .string s.1, .int .i64 o, .int .i64 n, .slice a2 ls.length c2] 30 :: LnR (.slice a2 ls.length c2) ls :: Cl (w.heap.size + 1) #[.int .i64 0, .string ⟨#[]⟩, .int .i64 0, .int .i64 0, .slice none 0 0] 30 :: L) (w1.setCell ⟨w.heap.size, 4, none⟩ (.slice a2 ls.length c2)) := h2.sw3.setCell 4 _
  obtain ⟨c0, c1, c2', c3, c4⟩ := cells5 h3
  obtain ⟨g0, g1, g2, g3, g4⟩ := frz5 h3.sw3
  obtain ⟨z0, z1, z2, z3, z4⟩ := cells5 h3.sw3
  have h4 := store5 (u0 := .int .i64 k) (u1 := .string s.1) (u2 := .int .i64 o) (u3 := .int .i64 n) (u4 := .slice a2 ls.length c2) h3.sw3
  obtain ⟨k0, k1, k2, k3, k4⟩ := cells5 h4
  have H4 := Lib.hid h4.drop.drop
  clear h2 h3 h4
  go_wp2_with fail
  exact bodyPost_ret (v := .agg #[.int .i64 k, .string s.1, .int .i64 o, .int .i64 n, .slice a2 ls.length c2]) (by simp [results, Tryd.results65, go_sem, k0, k1, k2, k3, k4]) rfl ⟨_, rfl, H4.out⟩
end Go.Proofs.YtafkbodmiblbnaaDoor
/- The document's own item: Same. -/
namespace Go.Proofs.YtafkbodmiblbnaaDoor
open Go.RowKit
set_option linter.unusedVariables false
set_option linter.unusedSimpArgs false
theorem sameB_split (k : Int) (s : KS) (o n : Int) (ls : List Ln) (k' : Int) (s' : KS) (o' n' : Int) (ls' : List Ln) :
    (k ≠ k' ∧ sameB k s o n ls k' s' o' n' ls' = false) ∨ (k = k' ∧ s.1 ≠ s'.1 ∧ sameB k s o n ls k' s' o' n' ls' = false) ∨ (k = k' ∧ s.1 = s'.1 ∧ o ≠ o' ∧ sameB k s o n ls k' s' o' n' ls' = false) ∨
    (k = k' ∧ s.1 = s'.1 ∧ o = o' ∧ n ≠ n' ∧ sameB k s o n ls k' s' o' n' ls' = false) ∨ (k = k' ∧ s.1 = s'.1 ∧ o = o' ∧ n = n' ∧ ls.length ≠ ls'.length ∧ sameB k s o n ls k' s' o' n' ls' = false) ∨
    (k = k' ∧ s.1 = s'.1 ∧ o = o' ∧ n = n' ∧ ls.length = ls'.length ∧ sameB k s o n ls k' s' o' n' ls' = decide (ls = ls')) := by
  by_cases h1 : k = k'
  · by_cases h2 : s.1 = s'.1
    · by_cases h3 : o = o'
      · by_cases h4 : n = n'
        · by_cases h5 : ls.length = ls'.length
          · exact .inr (.inr (.inr (.inr (.inr ⟨h1, h2, h3, h4, h5, by simp [sameB, h1, h2, h3, h4]⟩))))
          · exact .inr (.inr (.inr (.inr (.inl ⟨h1, h2, h3, h4, h5, by
              have : decide (ls = ls') = false := decide_eq_false fun e => h5 (by rw [e])
              unfold sameB; rw [this]; simp⟩))))
        · exact .inr (.inr (.inr (.inl ⟨h1, h2, h3, h4, by simp [sameB, h4]⟩)))
      · exact .inr (.inr (.inl ⟨h1, h2, h3, by simp [sameB, h3]⟩))
    · exact .inr (.inl ⟨h1, h2, by simp [sameB, h2]⟩)
  · exact .inl ⟨h1, by simp [sameB, h1]⟩
end Go.Proofs.YtafkbodmiblbnaaDoor
/- More of things beside each other. -/
namespace Go.Proofs.YtafkbodmiblbnaaDoor
open Go.RowKit
set_option linter.unusedVariables false
theorem Beside.sw8 {b : Nat} {w : World} {G : Nat → Prop} {A B C D E X Y Z : Thing} {L : List Thing} (h : Beside b (A :: B :: C :: D :: E :: X :: Y :: Z :: L) w G) : Beside b (Z :: A :: B :: C :: D :: E :: X :: Y :: L) w G := (h.under fun _ h => h.sw7).swap
theorem Sep.sw8 {w0 w : World} {A B C D E X Y Z : Thing} {L : List Thing} (h : Sep w0 (A :: B :: C :: D :: E :: X :: Y :: Z :: L) w) : Sep w0 (Z :: A :: B :: C :: D :: E :: X :: Y :: L) w :=
  ⟨h.low, fun V hV => h.loc V (by simp at hV ⊢; rcases hV with h | h | h | h | h | h | h | h | h <;> simp [h]), h.all.sw8⟩
theorem Beside.sw9 {b : Nat} {w : World} {G : Nat → Prop} {A B C D E X Y Z T : Thing} {L : List Thing} (h : Beside b (A :: B :: C :: D :: E :: X :: Y :: Z :: T :: L) w G) : Beside b (T :: A :: B :: C :: D :: E :: X :: Y :: Z :: L) w G := (h.under fun _ h => h.sw8).swap
theorem Sep.sw9 {w0 w : World} {A B C D E X Y Z T : Thing} {L : List Thing} (h : Sep w0 (A :: B :: C :: D :: E :: X :: Y :: Z :: T :: L) w) : Sep w0 (T :: A :: B :: C :: D :: E :: X :: Y :: Z :: L) w :=
  ⟨h.low, fun V hV => h.loc V (by simp at hV ⊢; rcases hV with h | h | h | h | h | h | h | h | h | h <;> simp [h]), h.all.sw9⟩
/-- The least of a length and a number, as the walk reckons it. -/
theorem min_len (n k : Nat) : ∃ m : Nat, m ≤ n ∧ m ≤ k ∧ (if (k : Int) < (n : Int) then (k : Int) else (n : Int)) = (m : Int) ∧ (m = n ∨ m = k) := by
  by_cases h : k < n
  · exact ⟨k, by omega, by omega, by rw [if_pos (by omega)], .inr rfl⟩
  · exact ⟨n, by omega, by omega, by rw [if_neg (by omega)], .inl rfl⟩
end Go.Proofs.YtafkbodmiblbnaaDoor
