/- The document's Open of a table, by itself: what it answers is what opnT answers. -/
import Derived.Test.YtjjjkfdppleagaaTable24
namespace Go.Proofs.Ytjjjkfdppleagaa
open Go Go.RowKit
set_option linter.unusedVariables false
set_option linter.unusedSimpArgs false
def smlT (u : Nat) : Int := if 9007199254740991 < u then -1 else (u : Int)
theorem i64w_valT (u : Nat) (hu : U64 u) : i64w u = if u < 9223372036854775808 then (u : Int) else (u : Int) - 18446744073709551616 := by
  unfold U64 at hu
  rw [i64w_eq]; unfold wrap64
  split <;> omega
theorem smlT_ok {u : Nat} (hu : U64 u) (m : Int) (hm : m ≤ 9007199254740991) : (1 ≤ i64w u ∧ i64w u ≤ m ↔ 1 ≤ smlT u ∧ smlT u ≤ m) ∧ (1 ≤ i64w u → i64w u ≤ m → i64w u = smlT u) := by
  rw [i64w_valT u hu]
  unfold smlT U64 at *
  refine ⟨?_, ?_⟩
  · split <;> split <;> omega
  · split <;> split <;> omega
theorem ok_smlT {c k a b : Int} {u v : Nat} (hu : U64 u) (hv : U64 v) : clientOk c (smlT u) (smlT v) k a b = clientOk c (i64w u) (i64w v) k a b ∧ (clientOk c (i64w u) (i64w v) k a b = true → i64w u = smlT u ∧ i64w v = smlT v) := by
  obtain ⟨h1, h2⟩ := smlT_ok hu 2147483647 (by omega)
  obtain ⟨h3, h4⟩ := smlT_ok hv 9007199254740991 (by omega)
  refine ⟨?_, fun h => ?_⟩
  · rw [Bool.eq_iff_iff]
    unfold clientOk
    simp only [Bool.and_eq_true, decide_eq_true_eq]
    constructor
    · rintro ⟨a1, a2, a3, a4, a5, a6⟩
      exact ⟨a1, (h1.2 ⟨a2, a3⟩).1, (h1.2 ⟨a2, a3⟩).2, (h3.2 ⟨a4, a5⟩).1, (h3.2 ⟨a4, a5⟩).2, a6⟩
    · rintro ⟨a1, a2, a3, a4, a5, a6⟩
      exact ⟨a1, (h1.1 ⟨a2, a3⟩).1, (h1.1 ⟨a2, a3⟩).2, (h3.1 ⟨a4, a5⟩).1, (h3.1 ⟨a4, a5⟩).2, a6⟩
  · obtain ⟨-, -, a2, a3, a4, a5, -⟩ := client_parts h
    exact ⟨h2 a2 a3, h4 a4 a5⟩
/-- A seat as the document reads it: what it is, whether it may be, the bytes behind it, the reader's error. -/
def docSeat (l : List UInt8) : SW × Bool × List UInt8 × Int :=
  let c := rdNe l 0
  let n := rdVe c.2.1 c.2.2
  let o := rdVe n.2.1 n.2.2
  let t := rdTe o.2.1 o.2.2
  let p := prsRes t.1
  (⟨true, (c.1 : Nat), smlT n.1, smlT o.1, p.1.1, p.1.2.1, p.1.2.2⟩, decide (p.2 = 0) && clientOk (c.1 : Nat) (smlT n.1) (smlT o.1) p.1.1 p.1.2.1 p.1.2.2, t.2.1, t.2.2)
theorem rdVe_u64T (rest : List UInt8) (e : Int) : U64 (rdVe rest e).1 := by unfold rdVe; split; exact rdV_u64 _; exact Nat.zero_lt_succ _
theorem rdSeat_core (c n o : Nat) (un : U64 n) (uo : U64 o) (p : (Int × Int × Int) × Int) (rest : List UInt8) (er : Int) :
    (if er ≠ 0 then (SW.zero, er, rest, er) else if p.2 = 0 ∧ clientOk c (i64w n) (i64w o) p.1.1 p.1.2.1 p.1.2.2 = true then (⟨true, c, i64w n, i64w o, p.1.1, p.1.2.1, p.1.2.2⟩, 0, rest, 0) else (SW.zero, 4, rest, 0)) =
    if er ≠ 0 then (SW.zero, er, rest, er) else if (decide (p.2 = 0) && clientOk c (smlT n) (smlT o) p.1.1 p.1.2.1 p.1.2.2) = true then (⟨true, c, smlT n, smlT o, p.1.1, p.1.2.1, p.1.2.2⟩, 0, rest, (0 : Int)) else (SW.zero, 4, rest, 0) := by
  obtain ⟨h1, h2⟩ := ok_smlT (c := c) (k := p.1.1) (a := p.1.2.1) (b := p.1.2.2) un uo
  rw [h1]
  by_cases he : er = 0
  · have he' : ¬ (er ≠ 0) := by simpa using he
    rw [if_neg he', if_neg he']
    by_cases hp : p.2 = 0 ∧ clientOk c (i64w n) (i64w o) p.1.1 p.1.2.1 p.1.2.2 = true
    · rw [if_pos hp, if_pos (by simp [hp.1, hp.2]), (h2 hp.2).1, (h2 hp.2).2]
    · rw [if_neg hp, if_neg (by simpa using hp)]
  · rw [if_pos he, if_pos he]
theorem rdSeat_doc (l : List UInt8) : rdSeat l 0 = if (docSeat l).2.2.2 ≠ 0 then (SW.zero, (docSeat l).2.2.2, (docSeat l).2.2.1, (docSeat l).2.2.2) else if (docSeat l).2.1 = true then ((docSeat l).1, 0, (docSeat l).2.2.1, 0) else (SW.zero, 4, (docSeat l).2.2.1, 0) :=
  rdSeat_core _ _ _ (rdVe_u64T _ _) (rdVe_u64T _ _) _ _ _
open Classical in
/-- The document's loop, by what lies before it. -/
noncomputable def docLoop : Nat → List SW → List UInt8 → Option (List SW) × Int
  | 0, F, l => if endErr l 0 = 0 then (some F, 0) else (none, endErr l 0)
  | k + 1, F, l =>
    if (docSeat l).2.2.2 ≠ 0 then (none, (docSeat l).2.2.2)
    else if (docSeat l).2.1 = false ∨ (∃ s, F.getLast? = some s ∧ (docSeat l).1.c ≤ s.c) then (none, 4)
    else docLoop k (F ++ [(docSeat l).1]) (docSeat l).2.2.1
theorem seats_put_last {T : List SW} (h : TabI T) {last : Int} (hf : ∀ i (hi : i < T.length), last < i → (T[i]).had = false) (s : SW) (hs : s.had = true) (i : Nat) (hi : i < T.length) (hl : last < i) : seatsOf (T.set i s) = seatsOf T ++ [s] := by
  have h1 : seatsOf (T.drop (i + 1)) = [] := seatsOf_drop_nil T (i + 1) (fun j hj hk => hf j hj (by omega))
  have h2 : (T[i]).had = false := hf i hi hl
  rw [seats_set T i hi s, seats_split T i hi, h1, seats_one hs, seats_no h2]
  simp
theorem doc_ok {l : List UInt8} (h : (docSeat l).2.1 = true) : (docSeat l).1.had = true ∧ clientOk (docSeat l).1.c (docSeat l).1.n (docSeat l).1.o (docSeat l).1.k (docSeat l).1.a (docSeat l).1.b = true :=
  ⟨rfl, (Bool.and_eq_true_iff.1 h).2⟩
theorem docLoop_eq : ∀ (k : Nat) (last : Int) (l : List UInt8) (T : List SW), TabI T → (∀ i (hi : i < T.length), last < i → (T[i]).had = false) →
    ((last = -1 ∧ seatsOf T = []) ∨ ∃ s, (seatsOf T).getLast? = some s ∧ s.c = last) → docLoop k (seatsOf T) l = ((opnLoop k last l T).1.map seatsOf, (opnLoop k last l T).2)
  | 0, last, l, T, hT, hf, hl => by
    unfold docLoop opnLoop
    by_cases he : endErr l 0 = 0
    · rw [if_pos he, if_pos he]; rfl
    · rw [if_neg he, if_neg he]; rfl
  | k + 1, last, l, T, hT, hf, hl => by
    have hd := rdSeat_doc l
    unfold docLoop opnLoop
    have hk := @doc_ok l
    generalize docSeat l = d at hd hk ⊢
    obtain ⟨s, ok, rest, er⟩ := d
    dsimp only at hd hk ⊢
    by_cases he : er = 0
    · subst he
      have z0 : ¬ ((0 : Int) ≠ 0) := by simp
      rw [if_neg z0] at hd
      rw [if_neg z0]
      by_cases hb : ok = true
      · subst hb
        obtain ⟨hs1, hs2⟩ := hk rfl
        obtain ⟨c0, c8, -⟩ := client_parts hs2
        rw [if_pos rfl] at hd
        rw [hd]
        dsimp only
        rw [if_neg z0]
        by_cases hc : s.c ≤ last
        · rw [if_pos hc, if_pos]
          · rfl
          · right
            rcases hl with ⟨rfl, hn⟩ | ⟨s', h1, h2⟩
            · omega
            · exact ⟨s', h1, by rw [h2]; exact hc⟩
        · rw [if_neg hc, if_neg]
          · obtain ⟨i, hi⟩ : ∃ i : Nat, s.c = i := ⟨s.c.toNat, by omega⟩
            have hi8 : i < T.length := by rw [hT.len]; omega
            have hp := seats_put_last hT hf s hs1 i hi8 (by omega)
            rw [show s.c.toNat = i by omega, ← hp]
            refine docLoop_eq k s.c rest (T.set i s) (hT.put i hi8 s hs1 hi hs2) (fun j hj hlt => ?_) (.inr ⟨s, by rw [hp]; simp, rfl⟩)
            rw [List.getElem_set_ne (by omega)]
            exact hf j (by simpa using hj) (by omega)
          · rintro (h | ⟨s', h1, h2⟩)
            · cases h
            · rcases hl with ⟨rfl, hn⟩ | ⟨s9, h3, h4⟩
              · rw [hn] at h1; cases h1
              · rw [h3] at h1; cases h1; omega
      · rw [if_neg hb] at hd
        rw [hd]
        dsimp only
        rw [if_pos (show (4 : Int) ≠ 0 by simp), if_pos (.inl (by simpa using hb))]
        rfl
    · rw [if_pos he] at hd
      rw [hd]
      dsimp only
      rw [if_pos he, if_pos he]
      rfl
/-- What the document's Open answers. -/
noncomputable def docO (b : List UInt8) : Option (List SW) × Int :=
  if (rdNe b 0).2.2 ≠ 0 then (none, (rdNe b 0).2.2) else if 6 < (rdNe b 0).1 then (none, 4) else docLoop (rdNe b 0).1 [] (rdNe b 0).2.1
theorem docO_eq (b : List UInt8) : docO b = ((opnT b).1.map seatsOf, (opnT b).2) := by
  unfold docO opnT
  by_cases h1 : (rdNe b 0).2.2 = 0
  · have h1' : ¬ ((rdNe b 0).2.2 ≠ 0) := by simpa using h1
    rw [if_neg h1', if_neg h1']
    by_cases h2 : 6 < (rdNe b 0).1
    · rw [if_pos h2, if_pos h2]; rfl
    · rw [if_neg h2, if_neg h2]
      have h0 : seatsOf T0 = [] := by kernel_rfl
      have h9 := docLoop_eq (rdNe b 0).1 (-1) (rdNe b 0).2.1 T0 TabI.zero (fun i hi _ => by
        have : ∀ s ∈ T0, s.had = false := fun s hs => by rw [List.eq_of_mem_replicate hs]; rfl
        exact this _ (List.getElem_mem hi)) (.inl ⟨rfl, h0⟩)
      rw [h0] at h9
      exact h9
  · rw [if_pos h1, if_pos h1]; rfl
end Go.Proofs.Ytjjjkfdppleagaa
