/- For TablePlays: a call of both; the row of what was done; the calls that came in. -/
import Derived.Test.YtjjjkfdppleagaaTable29
namespace Go.Proofs.Ytjjjkfdppleagaa
open Go Go.RowKit
set_option linter.unusedVariables false
set_option linter.unusedSimpArgs false
def swC (u : SW) : Array Value := #[.bool u.had, .int .i64 u.c, .int .i64 u.n, .int .i64 u.o, .int .i64 u.k, .int .i64 u.a, .int .i64 u.b]
/-- Put, of both. -/
theorem put_pair {T : List SW} (hI : TabI T) (c n o k a b : Int) : ∃ (T' : List SW) (u : SW) (z : Int), TabI T' ∧
    (∀ (w0 w : World) (g : Nat) (L : List Thing), Sep w0 (TabT g T :: L) w → Calls Try.prog 18 #[.pointer (some ⟨g, 0, none⟩), .agg #[.int .i64 c, .int .i64 n, .int .i64 o, .int .i64 k, .int .i64 a, .int .i64 b]] w fun e w' => e = .returned (.tuple #[.agg (swC u), .int .i64 z]) ∧ Sep w0 (TabT g T' :: L) w') ∧
    (∀ (w0 w : World) (g : Nat) (L : List Thing), Sep w0 (DocT g (seatsOf T) :: L) w → Calls Try.prog 19 #[.pointer (some ⟨g, 0, none⟩), .agg #[.int .i64 c, .int .i64 n, .int .i64 o, .int .i64 k, .int .i64 a, .int .i64 b]] w fun e w' => e = .returned (.tuple #[.agg (swC u), .int .i64 z]) ∧ Sep w0 (DocT g (seatsOf T') :: L) w') := by
  cases hok : clientOk c n o k a b with
  | false => exact ⟨T, SW.zero, 2, hI, fun _ _ _ _ h => put_bad c n o k a b h hI.len hok, fun _ _ _ _ h => dput_bad c n o k a b h hI hok⟩
  | true =>
    by_cases h4 : judgeV T c n = 4
    · exact ⟨T, SW.zero, 5, hI, fun _ _ _ _ h => put_full c n o k a b h hI.len hok h4, fun _ _ _ _ h => dput_full c n o k a b h hI hok h4⟩
    by_cases h2 : judgeV T c n = 2
    · exact ⟨T, SW.zero, 9, hI, fun _ _ _ _ h => put_same c n o k a b h hI.len hok h2, fun _ _ _ _ h => dput_same c n o k a b h hI hok h2⟩
    by_cases h3 : judgeV T c n = 3
    · exact ⟨T, SW.zero, 9, hI, fun _ _ _ _ h => put_old c n o k a b h hI.len hok h3, fun _ _ _ _ h => dput_old c n o k a b h hI hok h3⟩
    have h1 : judgeV T c n = 1 := by
      unfold judgeV at h2 h3 h4 ⊢
      split <;> rename_i q
      · rw [if_pos q] at h2 h3
        split <;> rename_i q2
        · rfl
        · rw [if_neg q2] at h2 h3
          split <;> rename_i q3
          · rw [if_pos q3] at h2; exact absurd rfl h2
          · rw [if_neg q3] at h3; exact absurd rfl h3
      · rw [if_neg q] at h4
        split <;> rename_i q2
        · rw [if_pos q2] at h4; exact absurd rfl h4
        · rfl
    obtain ⟨c0, c1, -⟩ := client_parts hok
    obtain ⟨i, rfl⟩ : ∃ i : Nat, c = i := ⟨c.toNat, by omega⟩
    have hi : i < T.length := by rw [hI.len]; omega
    exact ⟨T.set i ⟨true, i, n, o, k, a, b⟩, T[i], 0, hI.put i hi _ rfl rfl hok, fun _ _ _ _ h => put_new i n o k a b h hI.len T[i] (List.getElem?_eq_getElem hi) hok h1, fun _ _ _ _ h => dput_new i n o k a b h hI T[i] (List.getElem?_eq_getElem hi) hok h1⟩
theorem TabI.back {T : List SW} (h : TabI T) (i : Nat) (hi : i < T.length) (hh : (T[i]).had = true) (u : SW) (hp : precV u T[i] = true) : TabI (T.set i u) := by
  cases hu : u.had with
  | true =>
    unfold precV at hp
    rw [if_pos hu] at hp
    simp only [Bool.and_eq_true, decide_eq_true_eq] at hp
    exact h.put i hi u hu (by rw [hp.2.1, (h.ok i hi hh).1]) hp.1
  | false =>
    have hz : u = SW.zero := by
      unfold precV SW.blank at hp
      rw [if_neg (by simp [hu])] at hp
      have := of_decide_eq_true hp
      obtain ⟨d, c, n, o, k, a, b⟩ := u
      dsimp only at this hu
      obtain ⟨rfl, rfl, rfl, rfl, rfl, rfl⟩ := this
      rw [hu]; rfl
    subst hz
    refine ⟨by rw [List.length_set]; exact h.len, fun j hj hh => ?_, fun j hj hh => ?_⟩
    · rw [List.getElem_set] at hh ⊢
      split
      · rename_i e; rw [if_pos e] at hh; cases hh
      · rename_i e; rw [if_neg e] at hh; exact h.ok j (by simpa using hj) hh
    · rw [List.getElem_set] at hh ⊢
      split
      · rfl
      · rename_i e; rw [if_neg e] at hh; exact h.free j (by simpa using hj) hh
/-- Back, of both. -/
theorem back_pair {T : List SW} (hI : TabI T) (c : Int) (u : SW) : ∃ (T' : List SW) (z : Int), TabI T' ∧
    (∀ (w0 w : World) (g : Nat) (L : List Thing), Sep w0 (TabT g T :: L) w → Calls Try.prog 12 #[.pointer (some ⟨g, 0, none⟩), .int .i64 c, .agg (swC u)] w fun e w' => e = .returned (.int .i64 z) ∧ Sep w0 (TabT g T' :: L) w') ∧
    (∀ (w0 w : World) (g : Nat) (L : List Thing), Sep w0 (DocT g (seatsOf T) :: L) w → Calls Try.prog 13 #[.pointer (some ⟨g, 0, none⟩), .int .i64 c, .agg (swC u)] w fun e w' => e = .returned (.int .i64 z) ∧ Sep w0 (DocT g (seatsOf T') :: L) w') := by
  cases hs : (seatAt T c).had with
  | false => exact ⟨T, 90, hI, fun _ _ _ _ h => back_none c hs u h hI.len, fun _ _ _ _ h => dback_no c u.had u.c u.n u.o u.k u.a u.b h hI hs⟩
  | true =>
    cases hp : precV u (seatAt T c) with
    | false => exact ⟨T, 90, hI, fun _ _ _ _ h => back_bad c hs u h hI.len hp, fun _ _ _ _ h => dback_bad c u.had u.c u.n u.o u.k u.a u.b h hI hs hp⟩
    | true =>
      obtain ⟨i, rfl, hi8, hi, he⟩ := seatAt_had hI c hs
      rw [he] at hs hp
      exact ⟨T.set i u, 0, hI.back i hi hs u hp, fun _ _ _ _ h => back_ok i T[i] (List.getElem?_eq_getElem hi) hs u h hI.len hp, fun _ _ _ _ h => dback_ok i T[i] (List.getElem?_eq_getElem hi) u.had u.c u.n u.o u.k u.a u.b h hI hs hp⟩
/-- What was done, as the law keeps it. -/
def dnC (p : Int × SW) : List Value := [.int .i64 p.1, .bool p.2.had, .int .i64 p.2.c, .int .i64 p.2.n, .int .i64 p.2.o, .int .i64 p.2.k, .int .i64 p.2.a, .int .i64 p.2.b]
def dnCs (D : List (Int × SW)) : List Value := D.flatMap dnC
theorem dnCs_len : ∀ D : List (Int × SW), (dnCs D).length = D.length * 8
  | [] => rfl
  | s :: D => by have ih := dnCs_len D; unfold dnCs at *; rw [List.flatMap_cons, List.length_append, ih, List.length_cons]; simp [dnC]; omega
theorem dnCs_get : ∀ (D : List (Int × SW)) (k : Nat) (hk : k < D.length) (j : Nat) (hj : j < 8), (dnCs D)[k * 8 + j]? = (dnC D[k])[j]?
  | p :: D, 0, _, j, hj => by
    unfold dnCs
    rw [List.flatMap_cons, List.getElem?_append_left (by simp [dnC]; omega), List.getElem_cons_zero]
    congr 1; omega
  | p :: D, k + 1, hk, j, hj => by
    have ih := dnCs_get D k (by simpa using hk) j hj
    unfold dnCs at ih ⊢
    rw [List.flatMap_cons, List.getElem?_append_right (by simp [dnC]; omega), List.getElem_cons_succ, ← ih]
    congr 1
    simp [dnC]; omega
def DnT (v : Value) (n : Nat) (D : List (Int × SW)) : Thing := Rn 8 40 v n (dnCs D)
theorem infoDone : (Try.prog.info? 40).map (fun i => (i.size, decide (i.bytes ≤ 256), i.zero.map (·.cells.size))) = some (8, true, some 8) := by kernel_rfl
theorem Sep.dnForm {w0 w : World} {v : Value} {n : Nat} {D : List (Int × SW)} {L : List Thing} (h : Sep w0 (DnT v n D :: L) w) : ∃ a c, v = .slice a n c ∧ n = D.length := by
  obtain ⟨a, c, rfl, -, -, hl, -⟩ := Sep.rnForm (h : Sep w0 (Rn 8 40 v n (dnCs D) :: _) w)
  rw [dnCs_len] at hl
  exact ⟨a, c, rfl, by omega⟩
theorem append_done {w0 w : World} {ty : TypeId} {v : Value} {n b : Nat} {D : List (Int × SW)} {L : List Thing} (c : Int) (u : SW) (h : Sep w0 (Cl b #[.int .i64 c, .bool u.had, .int .i64 u.c, .int .i64 u.n, .int .i64 u.o, .int .i64 u.k, .int .i64 u.a, .int .i64 u.b] 40 :: DnT v n D :: L) w) (hn : n ≤ 1000000) :
    ∃ a cc w', (Builtin.append_ #[27, 27] ty #[v, .slice (some ⟨b, 0, none⟩) 1 1]).run Try.prog w = .ok (.slice a (n + 1) cc) w' ∧ Sep w0 (DnT (.slice a (n + 1) cc) (n + 1) (D ++ [(c, u)]) :: L) w' := by
  obtain ⟨i, hi, he⟩ := Option.map_eq_some_iff.1 infoDone
  simp only [Prod.mk.injEq, decide_eq_true_eq] at he
  obtain ⟨z, hz, hz2⟩ := Option.map_eq_some_iff.1 he.2.2
  have hc : ∀ j u', (dnC (c, u))[j]? = some u' → w.cell? ⟨b, 0 + j, none⟩ = some u' := fun j u' hj => by
    rw [Nat.zero_add]
    exact h.cell (by simpa [dnC] using hj)
  obtain ⟨v', w', hr, h2⟩ := append_rn (P := Try.prog) (ty := ty) (m := 1) (c := 1) Try.underlying27 hi hz he.1 he.2.1 hz2 (by decide) h.sw2 (news := dnC (c, u)) rfl hc (by
    intro y hy
    simp only [dnC, List.mem_cons, List.not_mem_nil, or_false] at hy
    rcases hy with rfl | rfl | rfl | rfl | rfl | rfl | rfl | rfl <;> rfl) (by omega)
  obtain ⟨a, cc, rfl, -⟩ := h2.rnForm
  refine ⟨a, cc, w', hr, ?_⟩
  unfold DnT
  have e : dnCs (D ++ [(c, u)]) = dnCs D ++ dnC (c, u) := by unfold dnCs; rw [List.flatMap_append]; simp
  rw [e]
  exact h2.sw2.drop
theorem Sep.dnAt {w0 w : World} {a : Option Addr} {n cc : Nat} {D : List (Int × SW)} {L : List Thing} (h : Sep w0 (DnT (.slice a n cc) n D :: L) w) (k : Nat) (hk : k < D.length) : ∃ b, a = some ⟨b, 0, none⟩ ∧
    (∀ j v, j < 8 → (dnC D[k])[j]? = some v → w.cell? ⟨b, k * 8 + j, none⟩ = some v) := by
  obtain ⟨a', c', hv, -, -, hl, hy⟩ := Sep.rnForm (h : Sep w0 (Rn 8 40 (.slice a n cc) n (dnCs D) :: _) w)
  simp only [Value.slice.injEq] at hv
  obtain ⟨rfl, -, rfl⟩ := hv
  rw [dnCs_len] at hl
  obtain ⟨b, rfl, -, hc⟩ := hy (by omega)
  refine ⟨b, rfl, fun j v hj hv => ?_⟩
  have h9 := dnCs_get D k hk j hj
  rw [hv] at h9
  obtain ⟨h7, h8⟩ := List.getElem?_eq_some_iff.1 h9
  rw [hc _ h7, h8]
theorem dnCs_take : ∀ (D : List (Int × SW)) (k : Nat), dnCs (D.take k) = (dnCs D).take (k * 8)
  | [], k => by simp [dnCs]
  | p :: D, 0 => by simp [dnCs]
  | p :: D, k + 1 => by
    have ih := dnCs_take D k
    unfold dnCs at ih ⊢
    rw [List.take_succ_cons, List.flatMap_cons, List.flatMap_cons, ih, List.take_append, show (dnC p).length = 8 from rfl, show (k + 1) * 8 - 8 = k * 8 by omega]
    congr 1
    exact (List.take_of_length_le (by show 8 ≤ (k + 1) * 8; omega)).symm
/-- 'row[:k]'. -/
theorem Sep.dnTake {w0 w : World} {a : Option Addr} {n cc : Nat} {D : List (Int × SW)} {L : List Thing} (h : Sep w0 (DnT (.slice a n cc) n D :: L) w) (k : Nat) (hk : k ≤ n) : Sep w0 (DnT (.slice a k cc) k (D.take k) :: L) w := by
  obtain ⟨_, _, _, hnD⟩ := h.dnForm
  refine h.imp (loc_rn _ _ _ _ _) fun F hF => ?_
  obtain ⟨⟨base, ho⟩, hF2⟩ := hF
  have hx := dnCs_take D k
  refine ⟨⟨base, ⟨by rw [dnCs_len, List.length_take]; have : min k D.length = k := by omega
                     omega, ?_⟩⟩, fun j => (hF2 j).trans (by cases a <;> exact Iff.rfl)⟩
  rcases ho.2 with ⟨he, h0⟩ | ⟨g, cap, cur, he, hb, hc, h1, h2, h3, h4⟩
  · simp only [Value.slice.injEq] at he
    exact .inl ⟨by rw [he.1, he.2.2, show k = 0 by omega], by omega⟩
  · simp only [Value.slice.injEq] at he
    obtain ⟨rfl, -, rfl⟩ := he
    refine .inr ⟨g, cc, cur, rfl, hb, hc, by omega, h2, h3, ?_⟩
    rw [hx, ← h4, List.take_take]
    congr 1
    have : k * 8 ≤ n * 8 := by omega
    omega
end Go.Proofs.Ytjjjkfdppleagaa
