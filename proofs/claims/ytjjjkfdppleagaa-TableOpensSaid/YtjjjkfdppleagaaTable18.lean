/- What a table's bytes are read as. -/
import Derived.Test.YtjjjkfdppleagaaTable17
import Derived.Test.YtjjjkfdppleagaaResP
namespace Go.Proofs.Ytjjjkfdppleagaa
open Go Go.RowKit
set_option linter.unusedVariables false
set_option linter.unusedSimpArgs false
/-- A seat, read: the seat, the error, what is left. -/
def rdSeat (l : List UInt8) (er : Int) : SW × Int × List UInt8 × Int :=
  let c := rdNe l er
  let n := rdVe c.2.1 c.2.2
  let o := rdVe n.2.1 n.2.2
  let t := rdTe o.2.1 o.2.2
  let p := prsRes t.1
  if t.2.2 ≠ 0 then (SW.zero, t.2.2, t.2.1, t.2.2)
  else if p.2 = 0 ∧ clientOk (c.1 : Nat) (i64w n.1) (i64w o.1) p.1.1 p.1.2.1 p.1.2.2 = true then (⟨true, (c.1 : Nat), i64w n.1, i64w o.1, p.1.1, p.1.2.1, p.1.2.2⟩, 0, t.2.1, 0)
  else (SW.zero, 4, t.2.1, 0)
def opnLoop : Nat → Int → List UInt8 → List SW → Option (List SW) × Int
  | 0, _, l, T => if endErr l 0 = 0 then (some T, 0) else (none, endErr l 0)
  | k + 1, last, l, T =>
    if (rdSeat l 0).2.1 ≠ 0 then (none, (rdSeat l 0).2.1)
    else if (rdSeat l 0).1.c ≤ last then (none, 4)
    else opnLoop k (rdSeat l 0).1.c (rdSeat l 0).2.2.1 (T.set (rdSeat l 0).1.c.toNat (rdSeat l 0).1)
def opnT (b : List UInt8) : Option (List SW) × Int :=
  if (rdNe b 0).2.2 ≠ 0 then (none, (rdNe b 0).2.2) else if 6 < (rdNe b 0).1 then (none, 4) else opnLoop (rdNe b 0).1 (-1) (rdNe b 0).2.1 T0
theorem client_parts {c n o k a b : Int} (h : clientOk c n o k a b = true) : 0 ≤ c ∧ c < 8 ∧ 1 ≤ n ∧ n ≤ 2147483647 ∧ 1 ≤ o ∧ o ≤ 9007199254740991 ∧ resB k a b = true := by
  unfold clientOk clientB at h
  simp only [Bool.and_eq_true, decide_eq_true_eq] at h
  exact ⟨h.1.1, h.1.2, h.2.1, h.2.2.1, h.2.2.2.1, h.2.2.2.2.1, h.2.2.2.2.2⟩
theorem resBs_u (k a b : Int) : U64 (resBs k a b).length := by have := resBs_len k a b; unfold U64; omega
/-- What was written is read. -/
theorem rdSeat_back (c n o k a b : Int) (h : clientOk c n o k a b = true) (rest : List UInt8) : rdSeat (seatBs ⟨true, c, n, o, k, a, b⟩ ++ rest) 0 = (⟨true, c, n, o, k, a, b⟩, 0, rest, 0) := by
  obtain ⟨c0, c1, n0, n1, o0, o1, hr⟩ := client_parts h
  obtain ⟨j, rfl⟩ : ∃ j : Nat, c = j := ⟨c.toNat, by omega⟩
  have hs : seatBs ⟨true, j, n, o, k, a, b⟩ ++ rest = [UInt8.ofNat j] ++ (vint n.toNat ++ (vint o.toNat ++ ((vint (resBs k a b).length ++ resBs k a b) ++ rest))) := by unfold seatBs; simp
  have ht : rdTe ((vint (resBs k a b).length ++ resBs k a b) ++ rest) 0 = (resBs k a b, rest, 0) := by
    unfold rdTe
    rw [if_pos rfl, List.append_assoc]
    unfold rdT
    rw [rdV_back _ _ (resBs_u k a b)]
    dsimp only
    simp
  unfold rdSeat
  rw [hs, rdNe_byte j _ (by omega)]
  dsimp only
  rw [rdVe_vint _ _ (by unfold U64; omega)]
  dsimp only
  rw [rdVe_vint _ _ (by unfold U64; omega)]
  dsimp only
  rw [ht, prsRes_back hr]
  dsimp only
  rw [if_neg (by simp), i64w_back (by omega) (by omega), i64w_back (by omega) (by omega), if_pos ⟨rfl, h⟩]
/-- What is read has just these bytes. -/
theorem rdSeat_again (l : List UInt8) (h : (rdSeat l 0).2.1 = 0) : (rdSeat l 0).1.had = true ∧ clientOk (rdSeat l 0).1.c (rdSeat l 0).1.n (rdSeat l 0).1.o (rdSeat l 0).1.k (rdSeat l 0).1.a (rdSeat l 0).1.b = true ∧ l = seatBs (rdSeat l 0).1 ++ (rdSeat l 0).2.2.1 ∧ (rdSeat l 0).2.2.2 = 0 := by
  unfold rdSeat at h ⊢
  dsimp only at h ⊢
  by_cases h1 : (rdTe (rdVe (rdVe (rdNe l 0).2.1 (rdNe l 0).2.2).2.1 (rdVe (rdNe l 0).2.1 (rdNe l 0).2.2).2.2).2.1 (rdVe (rdVe (rdNe l 0).2.1 (rdNe l 0).2.2).2.1 (rdVe (rdNe l 0).2.1 (rdNe l 0).2.2).2.2).2.2).2.2 = 0
  · rw [if_neg (by simp [h1])] at h ⊢
    split at h
    · rename_i h2
      rw [if_pos h2]
      obtain ⟨hp, hc⟩ := h2
      obtain ⟨c0, c1, n0, n1, o0, o1, hr⟩ := client_parts hc
      obtain ⟨t1, t2⟩ := rdTe_zero h1
      obtain ⟨a1, a2⟩ := rdVe_zero t1
      obtain ⟨b1, b2⟩ := rdVe_zero a1
      obtain ⟨_, c2⟩ := rdNe_zero b1
      refine ⟨rfl, hc, ?_, rfl⟩
      rcases prsRes_again (rdTe (rdVe (rdVe (rdNe l 0).2.1 (rdNe l 0).2.2).2.1 (rdVe (rdNe l 0).2.1 (rdNe l 0).2.2).2.2).2.1 (rdVe (rdVe (rdNe l 0).2.1 (rdNe l 0).2.2).2.1 (rdVe (rdNe l 0).2.1 (rdNe l 0).2.2).2.2).2.2).1 with ⟨x, y, z, hx, hb, hl⟩ | ⟨er, hx, he⟩
      · rw [hx] at hc ⊢
        unfold seatBs
        dsimp only
        rw [rdVe_u (by omega), rdVe_u (by omega), ← hl]
        conv => lhs; rw [c2, b2, a2, t2]
        simp
      · rw [hx] at hp; exact absurd hp he
    · cases h
  · rw [if_pos h1] at h; exact absurd h h1
theorem rdSeat_less (l : List UInt8) (h : (rdSeat l 0).2.1 = 0) : (rdSeat l 0).2.2.1.length ≤ l.length := by
  have := (rdSeat_again l h).2.2.1
  have h2 := congrArg List.length this
  rw [List.length_append] at h2
  omega
/-- Seats that were told are laid, one after the other. -/
theorem opn_back (D : List SW) : ∀ (P : List SW) (last : Int), last < P.length → P.length + D.length = 8 → (∀ i (hi : i < D.length), (D[i]).had = true → (D[i]).c = (P.length + i : Nat) ∧ clientOk (D[i]).c (D[i]).n (D[i]).o (D[i]).k (D[i]).a (D[i]).b = true) →
    (∀ i (hi : i < D.length), (D[i]).had = false → D[i] = SW.zero) → opnLoop (seatsOf D).length last ((seatsOf D).flatMap seatBs) (P ++ List.replicate D.length SW.zero) = (some (P ++ D), 0) := by
  induction D with
  | nil => intro P last _ _ _ _; simp [seatsOf, opnLoop, endErr]
  | cons s D ih =>
    intro P last hl h8 hok hz
    have e : P ++ s :: D = (P ++ [s]) ++ D := by simp
    have hlen : (P ++ [s]).length = P.length + 1 := by simp
    have hok' : ∀ i (hi : i < D.length), (D[i]).had = true → (D[i]).c = ((P ++ [s]).length + i : Nat) ∧ clientOk (D[i]).c (D[i]).n (D[i]).o (D[i]).k (D[i]).a (D[i]).b = true := fun i hi hh => by
      have := hok (i + 1) (by simpa using hi) (by simpa using hh)
      rw [List.getElem_cons_succ] at this
      exact ⟨by rw [this.1, hlen]; omega, this.2⟩
    have hz' : ∀ i (hi : i < D.length), (D[i]).had = false → D[i] = SW.zero := fun i hi hh => by
      have := hz (i + 1) (by simpa using hi) (by simpa using hh)
      rwa [List.getElem_cons_succ] at this
    cases hh : s.had with
    | false =>
      have hs := hz 0 (by simp) hh
      rw [List.getElem_cons_zero] at hs
      have e1 : seatsOf (s :: D) = seatsOf D := by unfold seatsOf; rw [List.filter_cons_of_neg (by simp [hh])]
      have e2 : P ++ List.replicate (s :: D).length SW.zero = (P ++ [s]) ++ List.replicate D.length SW.zero := by rw [hs, List.length_cons, List.replicate_succ]; simp
      rw [e, e1, e2]
      exact ih (P ++ [s]) last (by rw [hlen]; omega) (by rw [hlen]; simp at h8; omega) hok' hz'
    | true =>
      obtain ⟨h1, h2⟩ := hok 0 (by simp) hh
      rw [List.getElem_cons_zero] at h1 h2
      have e1 : seatsOf (s :: D) = s :: seatsOf D := by unfold seatsOf; rw [List.filter_cons_of_pos hh]
      have es : s = ⟨true, s.c, s.n, s.o, s.k, s.a, s.b⟩ := by rw [← hh]
      have er : rdSeat (((s :: seatsOf D).flatMap seatBs)) 0 = (s, 0, (seatsOf D).flatMap seatBs, 0) := by
        rw [List.flatMap_cons]
        conv => lhs; rw [es]
        rw [rdSeat_back _ _ _ _ _ _ h2, ← es]
      rw [e, e1, List.length_cons, List.length_cons, opnLoop, er]
      dsimp only
      have hset : (P ++ List.replicate (D.length + 1) SW.zero).set s.c.toNat s = (P ++ [s]) ++ List.replicate D.length SW.zero := by
        rw [h1, show ((P.length + 0 : Nat) : Int).toNat = P.length from rfl, List.replicate_succ, List.set_append_right _ _ (Nat.le_refl _)]
        simp
      rw [if_neg (by simp), if_neg (by rw [h1]; omega), hset]
      exact ih (P ++ [s]) s.c (by rw [hlen, h1]; omega) (by rw [hlen]; simp at h8; omega) hok' hz'
theorem opnT_back (T : List SW) (h : TabI T) (h6 : (seatsOf T).length ≤ 6) : opnT (tabBs T) = (some T, 0) := by
  unfold opnT tabBs
  rw [rdNe_byte _ _ (by omega)]
  dsimp only
  rw [if_neg (by simp), if_neg (by omega)]
  have := opn_back T [] (-1) (by simp) (by simp [h.len]) (fun i hi hh => ⟨by rw [(h.ok i hi hh).1]; simp, (h.ok i hi hh).2⟩) (fun i hi hh => h.free i hi hh)
  rw [h.len] at this
  exact this
theorem seatsOf_drop_nil (T : List SW) (k : Nat) (h : ∀ i (hi : i < T.length), k ≤ i → (T[i]).had = false) : seatsOf (T.drop k) = [] := by
  unfold seatsOf
  refine List.filter_eq_nil_iff.2 fun x hx => ?_
  obtain ⟨i, hi, rfl⟩ := List.getElem_of_mem hx
  rw [List.getElem_drop]
  have := h (k + i) (by rw [List.length_drop] at hi; omega) (by omega)
  simp [this]
theorem opn_again : ∀ (k : Nat) (last : Int) (l : List UInt8) (T T' : List SW), TabI T → (∀ i (hi : i < T.length), last < i → (T[i]).had = false) → opnLoop k last l T = (some T', 0) →
    TabI T' ∧ (seatsOf T').length = (seatsOf T).length + k ∧ (seatsOf T').flatMap seatBs = (seatsOf T).flatMap seatBs ++ l := by
  intro k
  induction k with
  | zero =>
    intro last l T T' hI hz h
    unfold opnLoop at h
    split at h
    · rename_i h0
      obtain ⟨-, rfl⟩ := endErr_zero h0
      simp only [Prod.mk.injEq, Option.some.injEq, and_true] at h
      subst h
      exact ⟨hI, rfl, by simp⟩
    · cases h
  | succ k ih =>
    intro last l T T' hI hz h
    unfold opnLoop at h
    by_cases h1 : (rdSeat l 0).2.1 = 0
    · rw [if_neg (by simp [h1])] at h
      split at h
      · cases h
      · rename_i h2
        obtain ⟨a1, a2, a3, -⟩ := rdSeat_again l h1
        generalize (rdSeat l 0).1 = s at *
        generalize (rdSeat l 0).2.2.1 = r at *
        obtain ⟨c0, c1, -⟩ := client_parts a2
        obtain ⟨j, hj⟩ : ∃ j : Nat, s.c = j := ⟨s.c.toNat, by omega⟩
        have hj8 : j < T.length := by rw [hI.len]; omega
        rw [hj, show ((j : Nat) : Int).toNat = j from rfl] at h
        have hI' := hI.put j hj8 s a1 hj a2
        have hfree : (T[j]).had = false := hz j hj8 (by omega)
        obtain ⟨b1, b2, b3⟩ := ih j r (T.set j s) T' hI' (fun i hi hlt => by
          rw [List.getElem_set, if_neg (by omega)]
          exact hz i (by simpa using hi) (by omega)) h
        have hsplit : seatsOf (T.set j s) = seatsOf T ++ [s] := by
          have d1 := seatsOf_drop_nil T j fun i hi hle => by
            by_cases e : i = j
            · subst e; exact hfree
            · exact hz i hi (by omega)
          have d2 := seatsOf_drop_nil T (j + 1) fun i hi hle => hz i hi (by omega)
          have q : ∀ A B : List SW, seatsOf (A ++ B) = seatsOf A ++ seatsOf B := fun A B => by unfold seatsOf; rw [List.filter_append]
          have e1 : seatsOf T = seatsOf (T.take j) := by conv => lhs; rw [← List.take_append_drop j T, q, d1, List.append_nil]
          rw [List.set_eq_take_append_cons_drop, if_pos hj8, q, e1]
          congr 1
          unfold seatsOf at d2 ⊢
          rw [List.filter_cons_of_pos a1, d2]
        refine ⟨b1, by rw [b2, hsplit, List.length_append]; simp; omega, ?_⟩
        rw [b3, hsplit, List.flatMap_append, a3]
        simp
    · rw [if_pos h1] at h; cases h
theorem opnT_again (b : List UInt8) (T : List SW) (h : opnT b = (some T, 0)) : TabI T ∧ tabBs T = b := by
  unfold opnT at h
  by_cases h1 : (rdNe b 0).2.2 = 0
  · rw [if_neg (by simp [h1])] at h
    split at h
    · cases h
    · obtain ⟨_, c2⟩ := rdNe_zero h1
      obtain ⟨a1, a2, a3⟩ := opn_again _ _ _ _ _ TabI.zero (fun i hi _ => by rw [show T0[i] = SW.zero from List.eq_of_mem_replicate (List.getElem_mem hi)]; rfl) h
      refine ⟨a1, ?_⟩
      unfold tabBs
      have z : seatsOf T0 = [] := by kernel_rfl
      rw [a3, a2, z, List.length_nil, Nat.zero_add]
      conv => rhs; rw [c2]
      simp
  · rw [if_pos h1] at h; cases h
theorem opnT_none (b : List UInt8) : (∃ T, opnT b = (some T, 0)) ∨ ∃ e, opnT b = (none, e) ∧ e ≠ 0 := by
  have q : ∀ (k : Nat) (last : Int) (l : List UInt8) (T : List SW), (∃ T', opnLoop k last l T = (some T', 0)) ∨ ∃ e, opnLoop k last l T = (none, e) ∧ e ≠ 0 := by
    intro k
    induction k with
    | zero =>
      intro last l T
      unfold opnLoop
      split
      · exact .inl ⟨_, rfl⟩
      · rename_i h; exact .inr ⟨_, rfl, h⟩
    | succ k ih =>
      intro last l T
      unfold opnLoop
      split
      · rename_i h; exact .inr ⟨_, rfl, h⟩
      · split
        · exact .inr ⟨4, rfl, by decide⟩
        · exact ih _ _ _
  unfold opnT
  split
  · rename_i h; exact .inr ⟨_, rfl, h⟩
  · split
    · exact .inr ⟨4, rfl, by decide⟩
    · exact q _ _ _ _
end Go.Proofs.Ytjjjkfdppleagaa
