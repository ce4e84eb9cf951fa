/- Entries of one's own: a row of them, the lines of each in blocks of their own. -/
import Derived.Test.YtcicclghgbdgnaaDoorEn4
namespace Go.Proofs.YtcicclghgbdgnaaDoor
open Go.RowKit
set_option linter.unusedVariables false
set_option linter.unusedSimpArgs false
abbrev lnP (q : EnM × Value) : Thing := LnR q.2 q.1.p.ls
def enCs (ps : List (EnM × Value)) : List Value := ps.flatMap fun q => (enC q.1 q.2).toList
theorem enCs_len : ∀ ps : List (EnM × Value), (enCs ps).length = ps.length * 7
  | [] => rfl
  | q :: ps => by
    have := enCs_len ps
    unfold enCs at this ⊢
    rw [List.flatMap_cons, List.length_append, this, List.length_cons]
    simp [enC]
    omega
theorem enCs_at : ∀ (ps : List (EnM × Value)) (i : Nat) (hi : i < ps.length) (j : Nat), j < 7 → (enCs ps)[i * 7 + j]? = (enC ps[i].1 ps[i].2).toList[j]?
  | q :: ps, 0, _, j, hj => by
    unfold enCs
    rw [List.flatMap_cons, Nat.zero_mul, Nat.zero_add, List.getElem?_append_left (by simpa [enC] using hj)]
    rfl
  | q :: ps, i + 1, hi, j, hj => by
    have := enCs_at ps i (by simpa using hi) j hj
    unfold enCs at this ⊢
    rw [List.flatMap_cons, List.getElem?_append_right (by simp [enC]; omega)]
    rw [show (i + 1) * 7 + j - (enC q.1 q.2).toList.length = i * 7 + j by simp [enC]; omega, this]
    rfl
theorem enCs_app (a b : List (EnM × Value)) : enCs (a ++ b) = enCs a ++ enCs b := by simp [enCs]
theorem enCs_one (q : EnM × Value) : enCs [q] = (enC q.1 q.2).toList := by simp [enCs]
abbrev EnR (v : Value) (ps : List (EnM × Value)) : Thing := Rn 7 26 v ps.length (enCs ps)
/-- Entries of one's own. -/
def EnT (v : Value) (ps : List (EnM × Value)) : Thing := Grp (EnR v ps :: ps.map lnP)
theorem loc_enR (v : Value) (ps : List (EnM × Value)) : ∀ A ∈ EnR v ps :: ps.map lnP, Loc A := by
  intro A hA
  rcases List.mem_cons.1 hA with rfl | hA
  · exact loc_rn _ _ _ _ _
  · obtain ⟨q, _, rfl⟩ := List.mem_map.1 hA; exact loc_rn _ _ _ _ _
theorem loc_enT (v : Value) (ps : List (EnM × Value)) : Loc (EnT v ps) := loc_grp (loc_enR v ps)
theorem Sep.enOpen {w0 w : World} {v : Value} {ps : List (EnM × Value)} {L : List Thing} (h : Sep w0 (EnT v ps :: L) w) : Sep w0 (EnR v ps :: (ps.map lnP ++ L)) w := h.open_ (loc_enR v ps)
theorem Sep.enClose {w0 w : World} {v : Value} {ps : List (EnM × Value)} {L : List Thing} (h : Sep w0 (EnR v ps :: (ps.map lnP ++ L)) w) : Sep w0 (EnT v ps :: L) w := Sep.close (M := EnR v ps :: ps.map lnP) h
theorem Sep.enNil {w0 w : World} {L : List Thing} (h : Sep w0 L w) : Sep w0 (EnT (.slice none 0 0) [] :: L) w := Sep.enClose (ps := []) (h.rnNil 7 26)
theorem Sep.enForm {w0 w : World} {v : Value} {ps : List (EnM × Value)} {L : List Thing} (h : Sep w0 (EnT v ps :: L) w) : ∃ a c, v = .slice a ps.length c ∧ ps.length ≤ c ∧ c ≤ maxLen := by
  obtain ⟨a, c, h1, h2, h3, -⟩ := h.enOpen.rnForm
  exact ⟨a, c, h1, h2, h3⟩
theorem Sep.memT {w0 w : World} {A : Thing} {L : List Thing} (h : Sep w0 L w) (hm : A ∈ L) : ∃ M, Sep w0 (A :: M) w := Sep.memb h hm
theorem Sep.enS {w0 w : World} {v : Value} {ps : List (EnM × Value)} {L : List Thing} (h : Sep w0 (EnT v ps :: L) w) : EnS w v ps := by
  have h1 := h.enOpen
  obtain ⟨a, c, rfl, h2, h3, h4, h5⟩ := h1.rnForm
  by_cases h0 : 0 < ps.length
  · obtain ⟨b, rfl, hb, hc⟩ := h5 h0
    refine .inr ⟨b, 0, c, rfl, h2, h3, hb, fun i hi => ?_⟩
    have k : ∀ j u, j < 7 → (enC ps[i].1 ps[i].2).toList[j]? = some u → w.cell? ⟨b, 0 + i * 7 + j, none⟩ = some u := fun j u hj hu => by
      have h6 := enCs_at ps i hi j hj
      rw [hu] at h6
      obtain ⟨h7, h8⟩ := List.getElem?_eq_some_iff.1 h6
      rw [Nat.zero_add, hc _ h7, h8]
    refine ⟨⟨k 0 _ (by omega) rfl, k 1 _ (by omega) rfl, k 2 _ (by omega) rfl, k 3 _ (by omega) rfl, k 4 _ (by omega) rfl, k 5 _ (by omega) rfl, k 6 _ (by omega) rfl⟩, ?_⟩
    obtain ⟨M, hM⟩ := h1.memT (A := lnP ps[i]) (List.mem_cons_of_mem _ (List.mem_append_left _ (List.mem_map_of_mem (List.getElem_mem hi))))
    exact Sep.lnS hM
  · exact .inl ⟨a, c, by rw [show ps.length = 0 by omega], List.eq_nil_of_length_eq_zero (by omega)⟩
theorem infoEn : (Tryd.prog.info? 26).map (fun i => (i.size, decide (i.bytes ≤ 256), i.zero.map (fun z => z.cells.size))) = some (7, true, some 7) := by kernel_rfl
/-- 'append' of one entry, that lies in a block of its own, onto them. -/
theorem append_en {w0 w : World} {v : Value} {ps : List (EnM × Value)} {x : EnM} {u : Value} {b : Nat} {L : List Thing} (ty : TypeId) (h : Sep w0 (Cl b (enC x u) 26 :: EnT v ps :: LnR u x.p.ls :: L) w) (hu : u.oneCell' = true) (hl : ps.length ≤ 10000000) :
    ∃ a c w', (Builtin.append_ #[38, 38] ty #[v, .slice (some ⟨b, 0, none⟩) 1 1]).run Tryd.prog w = .ok (.slice a (ps.length + 1) c) w' ∧ Sep w0 (EnT (.slice a (ps.length + 1) c) (ps ++ [(x, u)]) :: L) w' := by
  obtain ⟨i, hi, he⟩ := Option.map_eq_some_iff.1 infoEn
  simp only [Prod.mk.injEq, decide_eq_true_eq] at he
  obtain ⟨z, hz, hz2⟩ := Option.map_eq_some_iff.1 he.2.2
  have h1 := h.sw2.enOpen
  have hc : ∀ j u', (enC x u).toList[j]? = some u' → w.cell? ⟨b, 0 + j, none⟩ = some u' := fun j u' hj => by
    rw [Nat.zero_add]
    exact h.cell (by simpa using hj)
  obtain ⟨v', w', hr, h2⟩ := append_rn (P := Tryd.prog) (ty := ty) (m := 1) (c := 1) Tryd.underlying38 hi hz he.1 he.2.1 hz2 (by decide) h1 (news := (enC x u).toList) (by simp [enC]) hc (by
    intro y hy
    simp only [enC, List.mem_cons, List.not_mem_nil, or_false] at hy
    rcases hy with rfl | rfl | rfl | rfl | rfl | rfl | rfl <;> first | rfl | exact hu) (by omega)
  obtain ⟨a, c, rfl, -⟩ := h2.rnForm
  refine ⟨a, c, w', hr, ?_⟩
  have e : enCs ps ++ (enC x u).toList = enCs (ps ++ [(x, u)]) := by rw [enCs_app, enCs_one]
  rw [e] at h2
  have h3 : Sep w0 ((EnR (.slice a (ps.length + 1) c) (ps ++ [(x, u)]) :: ps.map lnP) ++ (Cl b (enC x u) 26 :: LnR u x.p.ls :: L)) w' := by
    show Sep w0 (Rn 7 26 (.slice a (ps.length + 1) c) (ps ++ [(x, u)]).length (enCs (ps ++ [(x, u)])) :: _) w'
    rw [List.length_append, List.length_singleton]
    exact h2
  have h4 : Sep w0 ((EnR (.slice a (ps.length + 1) c) (ps ++ [(x, u)]) :: ps.map lnP) ++ (LnR u x.p.ls :: L)) w' := by
    have hp : ((EnR (.slice a (ps.length + 1) c) (ps ++ [(x, u)]) :: ps.map lnP) ++ (Cl b (enC x u) 26 :: LnR u x.p.ls :: L)).Perm (Cl b (enC x u) 26 :: ((EnR (.slice a (ps.length + 1) c) (ps ++ [(x, u)]) :: ps.map lnP) ++ (LnR u x.p.ls :: L))) := List.perm_middle
    exact (h3.perm hp).drop
  refine Sep.enClose ?_
  rw [List.map_append, List.append_assoc]
  exact h4
theorem en_slices {v : Value} {a : Option Addr} {n c : Nat} (h : v = .slice a n c) : v.oneCell' = true := by subst h; rfl
end Go.Proofs.YtcicclghgbdgnaaDoor
