/- What Rows reads: plain mathematics. -/
import Derived.Test.YtcicclghgbdgnaaDoorEn9
import Derived.Test.YtcicclghgbdgnaaDoorEn4
namespace Go.Proofs.YtcicclghgbdgnaaDoor
open Go.RowKit
set_option linter.unusedVariables false
set_option linter.unusedSimpArgs false
/-- What the loop reads, with so many entries still to come. -/
def rwsA : Nat → List UInt8 → Int → List EnM → List EnM × Int
  | 0, rest, e, acc => if endErr rest e ≠ 0 then ([], endErr rest e) else (acc, 0)
  | n + 1, rest, e, acc =>
    if (rdTe rest e).2.2 ≠ 0 then ([], (rdTe rest e).2.2) else if (prsEn (rdTe rest e).1).2 ≠ 0 then ([], (prsEn (rdTe rest e).1).2) else rwsA n (rdTe rest e).2.1 0 (acc ++ [(prsEn (rdTe rest e).1).1])
/-- What Rows answers. -/
def rwsOf (l : List UInt8) : List EnM × Int := rwsA (rdVe l 0).1 (rdVe l 0).2.1 (rdVe l 0).2.2 []
theorem rwsA_err (n : Nat) : ∀ (rest : List UInt8) (e : Int) (acc : List EnM), (rwsA n rest e acc).2 ≠ 0 → (rwsA n rest e acc).1 = [] := by
  induction n with
  | zero =>
    intro rest e acc h
    unfold rwsA at h ⊢
    split at h
    · rename_i h1; rw [if_pos h1]
    · simp at h
  | succ n ih =>
    intro rest e acc h
    unfold rwsA at h ⊢
    split at h
    · rename_i h1; rw [if_pos h1]
    · rename_i h1
      rw [if_neg h1]
      split at h
      · rename_i h2; rw [if_pos h2]
      · rename_i h2; rw [if_neg h2]; exact ih _ _ _ h
theorem rdTe_e {rest : List UInt8} {e : Int} (h : (rdTe rest e).2.2 = 0) : e = 0 := (rdTe_zero h).1
theorem rwsA_again (n : Nat) : ∀ (rest : List UInt8) (e : Int) (acc : List EnM), rest.length ≤ maxLen → (rwsA n rest e acc).2 = 0 →
    ∃ xs : List EnM, (rwsA n rest e acc).1 = acc ++ xs ∧ xs.length = n ∧ e = 0 ∧ rest = (xs.map rowTx).flatten ∧ ∀ x ∈ xs, x.ok = true := by
  induction n with
  | zero =>
    intro rest e acc hl h
    unfold rwsA at h ⊢
    split at h
    · rename_i h1; exact absurd h h1
    · rename_i h1
      rw [if_neg h1]
      obtain ⟨h2, h3⟩ := endErr_zero (Classical.byContradiction fun h => h1 h)
      exact ⟨[], by simp, rfl, h2, by simp [h3], by simp⟩
  | succ n ih =>
    intro rest e acc hl h
    unfold rwsA at h ⊢
    split at h
    · rename_i h1; exact absurd h h1
    · rename_i h1
      rw [if_neg h1]
      split at h
      · rename_i h2; exact absurd h h2
      · rename_i h2
        rw [if_neg h2]
        obtain ⟨he, hr⟩ := rdTe_zero (Classical.byContradiction fun h => h1 h)
        have hlen := rdTe_len rest e
        obtain ⟨xs, x1, x2, -, x4, x5⟩ := ih _ _ _ (by omega) h
        rcases prsEn_again (rdTe rest e).1 (by omega) with ⟨x, p1, p2, p3⟩ | ⟨er, p1, p2⟩
        · rw [p1] at x1 ⊢
          refine ⟨x :: xs, ?_, by simp [x2], he, ?_, ?_⟩
          · rw [x1]; simp
          · rw [List.map_cons, List.flatten_cons, ← x4]
            unfold rowTx
            rw [← p3]
            exact hr
          · intro y hy
            rcases List.mem_cons.1 hy with rfl | hy
            · exact p2
            · exact x5 y hy
        · rw [p1] at h2; exact absurd p2 h2
theorem rowTx_back {x : EnM} (h : x.ok = true) (l : List UInt8) : rdTe (rowTx x ++ l) 0 = (entBs x, l, 0) := by
  have hb := entBs_len h
  unfold rdTe
  rw [if_pos rfl]
  unfold rdT rowTx
  rw [List.append_assoc, rdV_back _ _ (by unfold U64; omega)]
  dsimp only
  rw [if_neg (by simp), if_neg (by rw [List.length_append]; omega), List.take_left, List.drop_left]
theorem rwsA_back : ∀ (xs acc : List EnM), (∀ x ∈ xs, x.ok = true) → rwsA xs.length (xs.map rowTx).flatten 0 acc = (acc ++ xs, 0)
  | [], acc, _ => by simp [rwsA, endErr]
  | x :: xs, acc, h => by
    have hx := h x (List.mem_cons_self ..)
    rw [List.length_cons, List.map_cons, List.flatten_cons, rwsA, rowTx_back hx]
    dsimp only
    rw [prsEn_back hx]
    dsimp only
    rw [if_neg (by simp), if_neg (by simp), rwsA_back xs _ fun y hy => h y (List.mem_cons_of_mem _ hy), List.append_assoc]
    rfl
theorem rwsOf_back {xs : List EnM} (h : ∀ x ∈ xs, x.ok = true) (hl : U64 xs.length) : rwsOf (rowBs xs) = (xs, 0) := by
  unfold rwsOf rowBs
  rw [rdVe_vint _ _ hl]
  exact rwsA_back xs [] h
theorem rwsOf_again {l : List UInt8} (hl : l.length ≤ maxLen) (h : (rwsOf l).2 = 0) : l = rowBs (rwsOf l).1 ∧ ∀ x ∈ (rwsOf l).1, x.ok = true := by
  unfold rwsOf at h ⊢
  have hlen := rdVe_len l 0
  obtain ⟨xs, x1, x2, x3, x4, x5⟩ := rwsA_again _ _ _ _ (by omega) h
  rw [x1, List.nil_append]
  refine ⟨?_, x5⟩
  obtain ⟨-, h2⟩ := rdVe_zero x3
  unfold rowBs
  rw [x2, ← x4]
  exact h2
theorem rwsOf_err {l : List UInt8} (h : (rwsOf l).2 ≠ 0) : (rwsOf l).1 = [] := rwsA_err _ _ _ _ h
end Go.Proofs.YtcicclghgbdgnaaDoor
