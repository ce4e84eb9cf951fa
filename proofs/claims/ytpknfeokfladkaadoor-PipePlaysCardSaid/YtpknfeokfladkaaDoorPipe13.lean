/- What PipeJoins stands on. -/
import Derived.Test.YtpknfeokfladkaaDoorPipe12
namespace Go.Proofs.YtpknfeokfladkaaDoor
open Go.RowKit
set_option linter.unusedVariables false
set_option linter.unusedSimpArgs false
theorem enSame_eq {x y : EnM} (h : enSame x y = true) : x = y := by
  obtain ⟨c, m, k, s, o, n, ls⟩ := x
  obtain ⟨c', m', k', s', o', n', ls'⟩ := y
  unfold enSame sameB at h
  simp only [Bool.and_eq_true, decide_eq_true_eq] at h
  obtain ⟨⟨h1, h2⟩, ⟨⟨⟨h3, h4⟩, h5⟩, h6⟩, h7⟩ := h
  obtain rfl : s = s' := Subtype.ext h4
  subst h1 h2 h3 h5 h6 h7
  rfl
theorem sameN_le : ∀ (A B : List EnM), sameN A B ≤ A.length ∧ sameN A B ≤ B.length
  | [], _ => by unfold sameN; simp
  | _ :: _, [] => by unfold sameN; simp
  | a :: A, b :: B => by
    have := sameN_le A B
    unfold sameN
    split <;> simp <;> omega
theorem sameN_take : ∀ (A B : List EnM), A.take (sameN A B) = B.take (sameN A B)
  | [], _ => by unfold sameN; simp
  | _ :: _, [] => by unfold sameN; simp
  | a :: A, b :: B => by
    have ih := sameN_take A B
    unfold sameN
    split
    · rename_i h
      rw [enSame_eq h, List.take_succ_cons, List.take_succ_cons, ih]
    · simp
theorem sameN_ge : ∀ (A B : List EnM) (n : Nat), n ≤ A.length → n ≤ B.length → A.take n = B.take n → n ≤ sameN A B
  | _, _, 0, _, _, _ => Nat.zero_le _
  | [], _, n + 1, h, _, _ => by simp at h
  | _ :: _, [], n + 1, _, h, _ => by simp at h
  | a :: A, b :: B, n + 1, h1, h2, h3 => by
    rw [List.take_succ_cons, List.take_succ_cons] at h3
    obtain ⟨h4, h5⟩ := List.cons.inj h3
    subst h4
    have := sameN_ge A B n (by simpa using h1) (by simpa using h2) h5
    unfold sameN
    rw [if_pos (enSame_self a)]
    omega
theorem agr_join (b : Int) (P T E : List EnM) (k : Nat) (hb : 20 ≤ b) (hb2 : b ≤ 2199023255552) (hk : E.length = k) (hk8 : k ≤ 8) (hP : P.length ≤ 12) (hT : T.length ≤ 12) : agrV b P (b - k) (E ++ T) = b + (sameN P T : Nat) := by
  have hlen : (E ++ T).length = k + T.length := by rw [List.length_append, hk]
  have h1 : (E ++ T).take 1000 = E ++ T := List.take_of_length_le (by omega)
  have h2 : (E ++ T).drop k = T := by rw [← hk, List.drop_left]
  unfold agrV
  rw [if_neg (by omega)]
  dsimp only
  rw [if_neg (show ¬ b - (k : Int) < 0 by omega)]
  have hf : (if b < b - (k : Int) then b - (k : Int) else b) = b := if_neg (by omega)
  rw [hf, h1, hlen, show (b - b).toNat = 0 by omega, show (b - (b - (k : Int))).toNat = k by omega, h2, List.drop_zero]
  rw [show b - (k : Int) + ((min (k + T.length) 1000 : Nat) : Int) = b + (T.length : Int) by rw [Nat.min_eq_left (by omega)]; omega]
  have h3 := sameN_le P T
  by_cases h4 : (if b + (T.length : Int) < b + (P.length : Int) then b + (T.length : Int) else b + (P.length : Int)) ≤ b
  · rw [if_pos h4]
    by_cases h5 : b + (T.length : Int) < b + (P.length : Int)
    · rw [if_pos h5] at h4 ⊢; omega
    · rw [if_neg h5] at h4 ⊢; omega
  · rw [if_neg h4]
/-- One of them is stored whole. -/
theorem enCs_set7 : ∀ (ps : List (EnM × Value)) (i : Nat) (x : EnM) (u : Value), i < ps.length → enCs (ps.set i (x, u)) = (((((((enCs ps).set (i * 7) (.int .i64 x.c)).set (i * 7 + 1) (.int .i64 x.m)).set (i * 7 + 2) (.int .i64 x.p.k)).set (i * 7 + 3) (.string x.p.s.1)).set (i * 7 + 4) (.int .i64 x.p.o)).set (i * 7 + 5) (.int .i64 x.p.n)).set (i * 7 + 6) u
  | q :: ps, 0, x, u, _ => by simp [enCs, enC]
  | q :: ps, i + 1, x, u, hi => by
    have ih := enCs_set7 ps i x u (by simpa using hi)
    unfold enCs at ih ⊢
    rw [List.set_cons_succ, List.flatMap_cons, List.flatMap_cons, ih]
    have e : ∀ k, (i + 1) * 7 + k = (enC q.1 q.2).toList.length + (i * 7 + k) := fun k => by simp [enC]; omega
    have e0 : (i + 1) * 7 = (enC q.1 q.2).toList.length + i * 7 := by simp [enC]; omega
    rw [e 1, e 2, e 3, e 4, e 5, e 6, e0]
    simp only [List.set_append_right _ _ (Nat.le_add_right _ _), Nat.add_sub_cancel_left]
theorem asks_ln (t : List Int) : (t.map askP).map lnP = List.replicate t.length (LnR (.slice none 0 0) []) := by
  induction t with
  | nil => rfl
  | cons z t ih => rw [List.map_cons, List.map_cons, ih]; rfl
theorem Sep.enAsk {w0 w : World} {v : Value} {t : List Int} {L : List Thing} (h : Sep w0 (EnT v (t.map askP) :: L) w) (i : Nat) (hi : i < t.length) :
    ∃ b c, v = .slice (some ⟨b, 0, none⟩) t.length c ∧ t.length ≤ c ∧ (∀ k, w.frozen? ⟨b, k, none⟩ = false) ∧ (∀ k (hk : k < (enCs (t.map askP)).length), w.cell? ⟨b, k, none⟩ = some (enCs (t.map askP))[k]) ∧
      ∀ z, Sep w0 (EnT v ((t.set i z).map askP) :: L) (((((((w.setCell ⟨b, i * 7, none⟩ (.int .i64 (askE z).c)).setCell ⟨b, i * 7 + 1, none⟩ (.int .i64 (askE z).m)).setCell ⟨b, i * 7 + 2, none⟩ (.int .i64 (askE z).p.k)).setCell ⟨b, i * 7 + 3, none⟩ (.string (askE z).p.s.1)).setCell ⟨b, i * 7 + 4, none⟩ (.int .i64 (askE z).p.o)).setCell ⟨b, i * 7 + 5, none⟩ (.int .i64 (askE z).p.n)).setCell ⟨b, i * 7 + 6, none⟩ (.slice none 0 0)) := by
  have h0 := h.enOpen
  have hlen : (enCs (t.map askP)).length = t.length * 7 := by rw [enCs_len, List.length_map]
  obtain ⟨b, c, rfl, h1, h2, h3, h4, h5, h6, h7⟩ := h0.rnSet (by rw [List.length_map]; omega)
  rw [List.length_map] at h1
  refine ⟨b, c, by rw [List.length_map], h1, h6, h5, fun z => Sep.enClose ?_⟩
  have one : ∀ {wx : World} {xs : List Value} {M : List Thing} (j : Nat) (x : Value), xs.length = t.length * 7 → j < t.length * 7 → Sep w0 (Rn 7 34 (.slice (some ⟨b, 0, none⟩) (t.map askP).length c) (t.map askP).length xs :: M) wx → Sep w0 (Rn 7 34 (.slice (some ⟨b, 0, none⟩) (t.map askP).length c) (t.map askP).length (xs.set j x) :: M) (wx.setCell ⟨b, j, none⟩ x) := by
    intro wx xs M j x hx hj hs
    obtain ⟨b', c', hv, -, -, -, -, -, -, h8⟩ := hs.rnSet (by rw [List.length_map]; omega)
    simp only [Value.slice.injEq, Option.some.injEq, Addr.mk.injEq, and_true] at hv
    obtain ⟨rfl, -⟩ := hv
    exact h8 j x (by omega)
  have g0 := one (i * 7) (.int .i64 (askE z).c) hlen (by omega) h0
  have g1 := one (i * 7 + 1) (.int .i64 (askE z).m) (by rw [List.length_set]; exact hlen) (by omega) g0
  have g2 := one (i * 7 + 2) (.int .i64 (askE z).p.k) (by rw [List.length_set, List.length_set]; exact hlen) (by omega) g1
  have g3 := one (i * 7 + 3) (.string (askE z).p.s.1) (by simp only [List.length_set]; exact hlen) (by omega) g2
  have g4 := one (i * 7 + 4) (.int .i64 (askE z).p.o) (by simp only [List.length_set]; exact hlen) (by omega) g3
  have g5 := one (i * 7 + 5) (.int .i64 (askE z).p.n) (by simp only [List.length_set]; exact hlen) (by omega) g4
  have g6 := one (i * 7 + 6) (.slice none 0 0) (by simp only [List.length_set]; exact hlen) (by omega) g5
  rw [← enCs_set7 (t.map askP) i (askE z) (.slice none 0 0) (by rw [List.length_map]; exact hi)] at g6
  rw [asks_ln] at g6 ⊢
  rw [List.length_set]
  show Sep w0 (Rn 7 34 _ ((t.set i z).map askP).length (enCs ((t.set i z).map askP)) :: _) _
  rw [List.map_set, List.length_set]
  exact g6
/-- 'append' of asked entries onto asked ones. -/
theorem Sep.dropRep {w0 w : World} {n : Nat} {M : List Thing} {A : Thing} (h : Sep w0 (A :: (List.replicate n (LnR (.slice none 0 0) []) ++ M)) w) : Sep w0 (A :: M) w := by
  have hp : (A :: (List.replicate n (LnR (.slice none 0 0) []) ++ M)).Perm (List.replicate n (LnR (.slice none 0 0) []) ++ (A :: M)) := List.perm_middle.symm
  exact (h.perm hp).left
theorem Sep.addRep {w0 w : World} {M : List Thing} {A : Thing} (n : Nat) (h : Sep w0 (A :: M) w) : Sep w0 (A :: (List.replicate n (LnR (.slice none 0 0) []) ++ M)) w := by
  induction n with
  | zero => exact h
  | succ n ih => exact Sep.sw2 (Sep.rnNil 2 71 ih)
theorem append_asks {w0 w : World} {v0 v1 : Value} {s t : List Int} {L : List Thing} (ty : TypeId) (h : Sep w0 (EnT v0 (s.map askP) :: EnT v1 (t.map askP) :: L) w) (hl : s.length + t.length ≤ 10000000) :
    ∃ a' c' w', (Builtin.append_ #[35, 35] ty #[v0, v1]).run Tryd.prog w = .ok (.slice a' (s ++ t).length c') w' ∧ Sep w0 (EnT (.slice a' (s ++ t).length c') ((s ++ t).map askP) :: EnT v1 (t.map askP) :: L) w' := by
  obtain ⟨i, hi, he⟩ := Option.map_eq_some_iff.1 infoEn
  simp only [Prod.mk.injEq, decide_eq_true_eq] at he
  obtain ⟨z, hz, hz2⟩ := Option.map_eq_some_iff.1 he.2.2
  rcases h.sw2.enForm2 with ⟨rfl, hnil⟩ | ⟨g, c, rfl, hc1, hc2⟩
  · obtain rfl : t = [] := by simpa using hnil
    obtain ⟨a, c, rfl, -⟩ := h.enForm
    refine ⟨a, c, w, ?_, by simpa using h⟩
    rw [List.append_nil]
    rw [List.length_map]
    have hr := h.enOpen.rn
    rw [List.length_map] at hr
    exact run_append_owned_none (P := Tryd.prog) _ w0.heap.size 35 ty 34 i 7 Tryd.underlying35 hi _ _ _ hr
  · have h1 := h.enOpen
    rw [asks_ln] at h1
    have h2 := h1.dropRep
    rw [List.length_map] at h2
    obtain ⟨a2, c2, hv, -, -, h4, h5⟩ := h.sw2.enOpen.rnForm
    obtain ⟨v', w', hr, h3⟩ := append_rn (P := Tryd.prog) (ty := ty) (b := g) (off := 0) (m := (t.map askP).length) (c := c) Tryd.underlying35 hi hz he.1 he.2.1 hz2 (by decide) h2 (news := enCs (t.map askP)) (enCs_len _) (fun j u hj => by
        have hj2 := (List.getElem?_eq_some_iff.1 hj).1
        have hpos : 0 < (t.map askP).length := by rw [enCs_len] at hj2; omega
        obtain ⟨b', hb', -, h6⟩ := h5 hpos
        simp only [Value.slice.injEq] at hv
        obtain ⟨rfl, -, -⟩ := hv
        simp only [Option.some.injEq, Addr.mk.injEq, and_true] at hb'
        subst hb'
        obtain ⟨h8, h9⟩ := List.getElem?_eq_some_iff.1 hj
        rw [Nat.zero_add, h6 _ h8, h9]) (by
        intro y hy
        obtain ⟨q, hqm, hq⟩ := List.mem_flatMap.1 hy
        obtain ⟨z, -, rfl⟩ := List.mem_map.1 hqm
        simp only [enC, List.mem_cons, List.not_mem_nil, or_false] at hq
        rcases hq with rfl | rfl | rfl | rfl | rfl | rfl | rfl <;> rfl) (by simp only [List.length_map]; omega)
    obtain ⟨a', c', rfl, -⟩ := h3.rnForm
    simp only [List.length_map] at hr h3
    rw [List.length_map]
    rw [List.length_append]
    refine ⟨a', c', w', hr, Sep.enClose ?_⟩
    rw [asks_ln, List.map_append, List.length_append]
    refine Sep.addRep _ ?_
    show Sep w0 (Rn 7 34 (.slice a' (s.length + t.length) c') (s.map askP ++ t.map askP).length (enCs (s.map askP ++ t.map askP)) :: _) w'
    rw [enCs_app, List.length_append, List.length_map, List.length_map]
    exact h3
theorem Av.ints3 {P : Program} {w : World} {t e : TypeId} {v : Value} (ht : P.underlying t = some (.array 3 e)) (he : P.underlying e = some (.int .i64)) (hc : P.cellsOf e = 1) (hct : P.cellsOf t = 3) (h : Av P w t v) :
    ∃ x y z : Int, v = .agg #[.int .i64 x, .int .i64 y, .int .i64 z] := by
  obtain ⟨cs, rfl, h⟩ := h
  obtain ⟨hl, ha⟩ := h.array ht
  rw [hct] at hl
  rw [hc] at ha
  obtain ⟨l⟩ := cs
  match l, hl with
  | [u, v, s], _ =>
    obtain ⟨x, hx, -⟩ := (ha 0 (by omega)).int he
    obtain ⟨y, hy, -⟩ := (ha 1 (by omega)).int he
    obtain ⟨z, hz, -⟩ := (ha 2 (by omega)).int he
    simp at hx hy hz
    subst hx hy hz
    exact ⟨x, y, z, rfl⟩
end Go.Proofs.YtpknfeokfladkaaDoor
