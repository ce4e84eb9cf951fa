/- For PipePlays: rows of one's own whose lines lie elsewhere; lines of one's own that are stored to. -/
import Derived.Test.YtpknfeokfladkaaDoorPipe17
namespace Go.Proofs.YtpknfeokfladkaaDoor
open Go.RowKit
set_option linter.unusedVariables false
set_option linter.unusedSimpArgs false
theorem Sep.enRS {w0 w : World} {v : Value} {ps : List (EnM × Value)} {L : List Thing} (h1 : Sep w0 (EnR v ps :: L) w) (hl : ∀ q ∈ ps, LnS w q.2 q.1.p.ls) : EnS w v ps := by
  obtain ⟨a, c, rfl, h2, h3, h4, h5⟩ := h1.rnForm
  by_cases h0 : 0 < ps.length
  · obtain ⟨b, rfl, hb, hc⟩ := h5 h0
    refine .inr ⟨b, 0, c, rfl, h2, h3, hb, fun i hi => ?_⟩
    have k : ∀ j u, j < 7 → (enC ps[i].1 ps[i].2).toList[j]? = some u → w.cell? ⟨b, 0 + i * 7 + j, none⟩ = some u := fun j u hj hu => by
      have h6 := enCs_at ps i hi j hj
      rw [hu] at h6
      obtain ⟨h7, h8⟩ := List.getElem?_eq_some_iff.1 h6
      rw [Nat.zero_add, hc _ h7, h8]
    exact ⟨⟨k 0 _ (by omega) rfl, k 1 _ (by omega) rfl, k 2 _ (by omega) rfl, k 3 _ (by omega) rfl, k 4 _ (by omega) rfl, k 5 _ (by omega) rfl, k 6 _ (by omega) rfl⟩, hl _ (List.getElem_mem hi)⟩
  · exact .inl ⟨a, c, by rw [show ps.length = 0 by omega], List.eq_nil_of_length_eq_zero (by omega)⟩
theorem append_enR {w0 w : World} {v : Value} {ps : List (EnM × Value)} {x : EnM} {u : Value} {b : Nat} {L : List Thing} (ty : TypeId) (h : Sep w0 (Cl b (enC x u) 34 :: EnR v ps :: L) w) (hu : u.oneCell' = true) (hl : ps.length ≤ 10000000) :
    ∃ a c w', (Builtin.append_ #[35, 35] ty #[v, .slice (some ⟨b, 0, none⟩) 1 1]).run Tryd.prog w = .ok (.slice a (ps.length + 1) c) w' ∧ Sep w0 (EnR (.slice a (ps.length + 1) c) (ps ++ [(x, u)]) :: L) w' := by
  obtain ⟨i, hi, he⟩ := Option.map_eq_some_iff.1 infoEn
  simp only [Prod.mk.injEq, decide_eq_true_eq] at he
  obtain ⟨z, hz, hz2⟩ := Option.map_eq_some_iff.1 he.2.2
  have hc : ∀ j u', (enC x u).toList[j]? = some u' → w.cell? ⟨b, 0 + j, none⟩ = some u' := fun j u' hj => by
    rw [Nat.zero_add]
    exact h.cell (by simpa using hj)
  obtain ⟨v', w', hr, h2⟩ := append_rn (P := Tryd.prog) (ty := ty) (m := 1) (c := 1) Tryd.underlying35 hi hz he.1 he.2.1 hz2 (by decide) h.sw2 (news := (enC x u).toList) (by simp [enC]) hc (by
    intro y hy
    simp only [enC, List.mem_cons, List.not_mem_nil, or_false] at hy
    rcases hy with rfl | rfl | rfl | rfl | rfl | rfl | rfl <;> first | rfl | exact hu) (by omega)
  obtain ⟨a, c, rfl, -⟩ := h2.rnForm
  refine ⟨a, c, w', hr, ?_⟩
  have e : enCs ps ++ (enC x u).toList = enCs (ps ++ [(x, u)]) := by rw [enCs_app, enCs_one]
  rw [e] at h2
  show Sep w0 (Rn 7 34 (.slice a (ps.length + 1) c) (ps ++ [(x, u)]).length (enCs (ps ++ [(x, u)])) :: _) w'
  rw [List.length_append, List.length_singleton]
  exact h2.sw2.drop
theorem Sep.enRNil {w0 w : World} {L : List Thing} (h : Sep w0 L w) : Sep w0 (EnR (.slice none 0 0) [] :: L) w := h.rnNil 7 34
/-- 'ls[:6]' of lines. -/
theorem lns_cut {w : World} {a a' : Option Addr} {n c m : Nat} {ls : List Ln} (h : LnS w (.slice a n c) ls) (hn : ls.length = n) (hm : m ≤ n) (hq : (if c = 0 then a else Option.map (fun x => x.add 0) a) = a') : LnS w (.slice a' m c) (ls.take m) ∧ m ≤ c := by
  subst hn
  rcases h with ⟨a2, c2, h1, h2, rfl⟩ | ⟨b, off, c2, h1, h2, h3, h4⟩
  · simp only [Value.slice.injEq] at h1
    obtain ⟨rfl, -, rfl⟩ := h1
    obtain rfl : m = 0 := by simpa using hm
    refine ⟨.inl ⟨a', c, rfl, ?_, by simp⟩, Nat.zero_le _⟩
    intro ha
    subst ha
    by_cases hc : c = 0
    · exact hc
    · rw [if_neg hc] at hq
      cases a with
      | none => exact h2 rfl
      | some _ => simp at hq
  · simp only [Value.slice.injEq] at h1
    obtain ⟨rfl, -, rfl⟩ := h1
    have ha : a' = some ⟨b, off, none⟩ := by rw [← hq]; simp [addr_add]
    subst ha
    have hl : (ls.take m).length = m := by rw [List.length_take]; omega
    by_cases h0 : m = 0
    · subst h0
      exact ⟨.inl ⟨_, c, rfl, by simp, by simp⟩, Nat.zero_le _⟩
    · refine ⟨.inr ⟨b, off, c, by rw [hl], by rw [hl]; omega, h3, ?_⟩, by omega⟩
      refine ⟨h4.1, fun i hi => ?_⟩
      rw [hl] at hi
      have := h4.2 i (by omega)
      rw [List.getElem_take]
      exact this
theorem lnCells_setN : ∀ (ls : List Ln) (k : Nat) (z : Int) (hk : k < ls.length), lnCells (ls.set k (ls[k].1, z)) = (lnCells ls).set (k * 2 + 1) (.int .i64 z)
  | l :: ls, 0, z, _ => by simp [lnCells]
  | l :: ls, k + 1, z, hk => by
    have ih := lnCells_setN ls k z (by simpa using hk)
    unfold lnCells at ih ⊢
    rw [List.set_cons_succ, List.flatMap_cons, List.flatMap_cons, List.getElem_cons_succ, ih, List.set_append_right _ _ (by simp; omega)]
    rw [show (k + 1) * 2 + 1 - [(Value.string l.1.1), (Value.int .i64 l.2)].length = k * 2 + 1 by simp; omega]
theorem enCs_ls : ∀ (ps : List (EnM × Value)) (i : Nat) (hi : i < ps.length) (ls : List Ln), enCs (ps.set i (⟨ps[i].1.c, ps[i].1.m, ⟨ps[i].1.p.k, ps[i].1.p.s, ps[i].1.p.o, ps[i].1.p.n, ls⟩⟩, ps[i].2)) = enCs ps
  | q :: ps, 0, _, ls => by simp [enCs, enC]
  | q :: ps, i + 1, hi, ls => by
    have ih := enCs_ls ps i (by simpa using hi) ls
    unfold enCs at ih ⊢
    rw [List.set_cons_succ, List.flatMap_cons, List.flatMap_cons, List.getElem_cons_succ, ih]
theorem split_at {α : Type _} (l : List α) (i : Nat) (hi : i < l.length) : l = l.take i ++ (l[i] :: l.drop (i + 1)) := by rw [List.getElem_cons_drop, List.take_append_drop]
theorem set_split {α : Type _} (l : List α) (i : Nat) (hi : i < l.length) (a : α) : l.set i a = l.take i ++ (a :: l.drop (i + 1)) := List.set_eq_take_append_cons_drop ▸ if_pos hi
/-- A line's number of an entry of one's own is stored to. -/
theorem Sep.enLine {w0 w : World} {u : Value} {ps : List (EnM × Value)} {L : List Thing} (h : Sep w0 (EnT u ps :: L) w) (i : Nat) (hi : i < ps.length) (k : Nat) (hk : k < ps[i].1.p.ls.length) :
    ∃ b c, ps[i].2 = .slice (some ⟨b, 0, none⟩) ps[i].1.p.ls.length c ∧ ps[i].1.p.ls.length ≤ c ∧ w.cell? ⟨b, k * 2 + 1, none⟩ = some (.int .i64 ps[i].1.p.ls[k].2) ∧ w.frozen? ⟨b, k * 2 + 1, none⟩ = false ∧
      ∀ z, Sep w0 (EnT u (ps.set i (⟨ps[i].1.c, ps[i].1.m, ⟨ps[i].1.p.k, ps[i].1.p.s, ps[i].1.p.o, ps[i].1.p.n, ps[i].1.p.ls.set k (ps[i].1.p.ls[k].1, z)⟩⟩, ps[i].2)) :: L) (w.setCell ⟨b, k * 2 + 1, none⟩ (.int .i64 z)) := by
  have h1 := h.enOpen
  have e : ps.map lnP = (ps.take i).map lnP ++ (lnP ps[i] :: (ps.drop (i + 1)).map lnP) := by
    conv => lhs; rw [split_at ps i hi]
    rw [List.map_append, List.map_cons]
  rw [e] at h1
  have hp : ∀ X : Thing, (EnR u ps :: (((ps.take i).map lnP ++ (X :: (ps.drop (i + 1)).map lnP)) ++ L)).Perm (X :: (EnR u ps :: (((ps.take i).map lnP ++ (ps.drop (i + 1)).map lnP) ++ L))) := fun X => by
    rw [List.append_assoc, List.append_assoc, List.cons_append]
    exact (List.Perm.cons _ List.perm_middle).trans (List.Perm.swap _ _ _)
  have h2 := h1.perm (hp _)
  obtain ⟨b, c, hv, hc, -, -, hl, hcell, hfr, hset⟩ := Sep.rnSet (h2 : Sep w0 (Rn 2 71 ps[i].2 ps[i].1.p.ls.length (lnCells ps[i].1.p.ls) :: _) w) (by omega)
  have hlt : k * 2 + 1 < (lnCells ps[i].1.p.ls).length := by rw [lnCells_len]; omega
  refine ⟨b, c, hv, hc, ?_, hfr _, fun z => Sep.enClose ?_⟩
  · rw [hcell _ hlt]
    have h3 := (lnCells_at ps[i].1.p.ls k hk).2
    rw [List.getElem?_eq_getElem hlt] at h3
    exact h3
  · have h3 := hset (k * 2 + 1) (.int .i64 z) hlt
    rw [← lnCells_setN ps[i].1.p.ls k z hk] at h3
    rw [set_split ps i hi, List.map_append, List.map_cons, ← set_split ps i hi]
    have h4 : Sep w0 (LnR ps[i].2 (ps[i].1.p.ls.set k (ps[i].1.p.ls[k].1, z)) :: (EnR u ps :: (((ps.take i).map lnP ++ (ps.drop (i + 1)).map lnP) ++ L))) (w.setCell ⟨b, k * 2 + 1, none⟩ (.int .i64 z)) := by
      show Sep w0 (Rn 2 71 ps[i].2 (ps[i].1.p.ls.set k (ps[i].1.p.ls[k].1, z)).length (lnCells (ps[i].1.p.ls.set k (ps[i].1.p.ls[k].1, z))) :: _) _
      rw [List.length_set]
      exact h3
    have h5 := h4.perm (hp _).symm
    have e2 : EnR u (ps.set i (⟨ps[i].1.c, ps[i].1.m, ⟨ps[i].1.p.k, ps[i].1.p.s, ps[i].1.p.o, ps[i].1.p.n, ps[i].1.p.ls.set k (ps[i].1.p.ls[k].1, z)⟩⟩, ps[i].2)) = EnR u ps := by
      show Rn 7 34 u (ps.set i _).length (enCs (ps.set i _)) = _
      rw [List.length_set, enCs_ls ps i hi]
    rw [e2]
    exact h5
end Go.Proofs.YtpknfeokfladkaaDoor
