/- The document's tally: what it is; NewTally, Who. -/
import Derived.Test.YtidbniigfkocpaaRefPut
import Derived.Test.YtidbniigfkocpaaRefLess
import Derived.Test.YtidbniigfkocpaaRowsN
import Derived.Test.YtidbniigfkocpaaRefAcks
namespace Go.Proofs.Ytidbniigfkocpaa
open Go.RowKit
set_option linter.unusedVariables false
set_option linter.unusedSimpArgs false
/-- The cells of its rows: a ballot, and the slice of who is for it. -/
def rowsC : List Bal → List Value → List Value
  | x :: K, u :: R => .int .i64 x.1.1 :: .int .i64 x.1.2.1 :: .int .i64 x.1.2.2.1 :: .int .i64 x.1.2.2.2.1 :: .int .i64 x.1.2.2.2.2 :: u :: rowsC K R
  | _, _ => []
theorem rowsC_len : ∀ (K : List Bal) (R : List Value), R.length = K.length → (rowsC K R).length = K.length * 6
  | [], R, _ => by cases R <;> rfl
  | x :: K, [], h => by simp at h
  | x :: K, u :: R, h => by
    have := rowsC_len K R (by simpa using h)
    simp [rowsC, this]; omega
theorem rowsC_at : ∀ (K : List Bal) (R : List Value) (i : Nat) (h1 : i < K.length) (h2 : i < R.length), (rowsC K R)[i * 6]? = some (.int .i64 K[i].1.1) ∧ (rowsC K R)[i * 6 + 1]? = some (.int .i64 K[i].1.2.1) ∧ (rowsC K R)[i * 6 + 2]? = some (.int .i64 K[i].1.2.2.1) ∧
    (rowsC K R)[i * 6 + 3]? = some (.int .i64 K[i].1.2.2.2.1) ∧ (rowsC K R)[i * 6 + 4]? = some (.int .i64 K[i].1.2.2.2.2) ∧ (rowsC K R)[i * 6 + 5]? = some R[i]
  | x :: K, u :: R, 0, _, _ => ⟨rfl, rfl, rfl, rfl, rfl, rfl⟩
  | x :: K, u :: R, i + 1, h1, h2 => by
    have := rowsC_at K R i (by simpa using h1) (by simpa using h2)
    simp only [rowsC, List.getElem_cons_succ]
    rw [show (i + 1) * 6 = i * 6 + 6 by omega]
    exact this
theorem rowsC_set : ∀ (K : List Bal) (R : List Value) (i : Nat) (u : Value), R.length = K.length → i < K.length → (rowsC K R).set (i * 6 + 5) u = rowsC K (R.set i u)
  | x :: K, v :: R, 0, u, _, _ => rfl
  | x :: K, v :: R, i + 1, u, h, h1 => by
    have := rowsC_set K R i u (by simpa using h) (by simpa using h1)
    rw [show (i + 1) * 6 + 5 = (i * 6 + 5) + 6 by omega]
    simp only [rowsC, List.set_cons_succ, this]
  | [], _, i, u, _, h1 => by simp at h1
  | x :: K, [], i, u, h, _ => by simp at h
theorem rowsC_app : ∀ (K : List Bal) (R : List Value) (x : Bal) (u : Value), R.length = K.length → rowsC (K ++ [x]) (R ++ [u]) = rowsC K R ++ [.int .i64 x.1.1, .int .i64 x.1.2.1, .int .i64 x.1.2.2.1, .int .i64 x.1.2.2.2.1, .int .i64 x.1.2.2.2.2, u]
  | [], [], x, u, _ => rfl
  | [], v :: R, x, u, h => by simp at h
  | y :: K, [], x, u, h => by simp at h
  | y :: K, v :: R, x, u, h => by
    have := rowsC_app K R x u (by simpa using h)
    simp [rowsC, this]
/-- Slices of ints that are only read, in some blocks. -/
def RdF (w : World) (F : Nat → Prop) (u : Value) (l : List Int) : Prop := ∃ b c, u = .slice (some ⟨b, 0, none⟩) l.length c ∧ l.length ≤ c ∧ c ≤ maxLen ∧ F b ∧ b < w.heap.size ∧ ∀ j (hj : j < l.length), w.cell? ⟨b, j, none⟩ = some (.int .i64 l[j])
def WhosT (Ls : List (List Int)) (R : List Value) : Thing := fun w F => R.length = Ls.length ∧ ∀ i (h1 : i < R.length) (h2 : i < Ls.length), RdF w F R[i] Ls[i]
theorem loc_whos (Ls : List (List Int)) (R : List Value) : Loc (WhosT Ls R) := by
  intro w w' F ⟨h0, h⟩ hs hk
  refine ⟨h0, fun i h1 h2 => ?_⟩
  obtain ⟨b, c, e, g1, g2, g3, g4, g5⟩ := h i h1 h2
  exact ⟨b, c, e, g1, g2, g3, by omega, fun j hj => by rw [World.cell?_of_block (w := w) (hk b g3)]; exact g5 j hj⟩
theorem Sep.whos {w0 w : World} {Ls : List (List Int)} {R : List Value} {L : List Thing} (h : Sep w0 (WhosT Ls R :: L) w) : R.length = Ls.length ∧ ∀ i (h1 : i < R.length) (h2 : i < Ls.length), ∃ b c, R[i] = .slice (some ⟨b, 0, none⟩) Ls[i].length c ∧ Ls[i].length ≤ c ∧ c ≤ maxLen ∧ b < w.heap.size ∧ ∀ j (hj : j < Ls[i].length), w.cell? ⟨b, j, none⟩ = some (.int .i64 Ls[i][j]) := by
  obtain ⟨F, ⟨h0, hF⟩, _⟩ := h.head
  refine ⟨h0, fun i h1 h2 => ?_⟩
  obtain ⟨b, c, e, g1, g2, g3, g4, g5⟩ := hF i h1 h2
  exact ⟨b, c, e, g1, g2, g4, g5⟩
theorem Sep.whosNil {w0 w : World} {L : List Thing} (h : Sep w0 L w) : Sep w0 (WhosT [] [] :: L) w :=
  h.new (loc_whos _ _) (Below.refl _ _) (F := fun _ => False) ⟨rfl, fun i h1 => by simp at h1⟩ fun _ h => h.elim
theorem rdF_own {w : World} {u : Value} {l : List Int} (hl : 0 < l.length) (h : Own w 0 3 u (iv .i64 l)) (F : Nat → Prop) (hF : ∀ k, u.ownBlock = some k → F k) : RdF w F u l := by
  rcases h.2 with ⟨_, h0⟩ | ⟨b, c, cur, rfl, hb, hh, h1, h2, h3, h4⟩
  · rw [iv_length] at h0; omega
  · rw [iv_length] at h1 hF ⊢
    refine ⟨b, c, rfl, h1, h2, hF b rfl, (Array.getElem?_eq_some_iff.1 hh).1, fun j hj => ?_⟩
    unfold World.cell?
    rw [hh]
    have h5 : (cur.toList.take ((iv .i64 l).length * 1))[j]? = some (.int .i64 l[j]) := by rw [h4]; exact iv_get _ l j hj
    rw [List.getElem?_take, if_pos (by rw [iv_length]; omega)] at h5
    simpa using h5
/-- One more of them; one in another one's place. -/
theorem Sep.whosApp {w0 w : World} {Ls : List (List Int)} {R : List Value} {u : Value} {l : List Int} {L : List Thing} (h : Sep w0 (Is u l :: WhosT Ls R :: L) w) (hl : 0 < l.length) : Sep w0 (WhosT (Ls ++ [l]) (R ++ [u]) :: L) w := by
  refine h.join.imp (loc_whos _ _) ?_
  rintro F ⟨Fa, Fb, ⟨⟨base, ho⟩, ha⟩, ⟨h0, hb⟩, _, hF⟩
  refine ⟨by simp [h0], fun i h1 h2 => ?_⟩
  by_cases hi : i < R.length
  · rw [List.getElem_append_left hi, List.getElem_append_left (by omega)]
    obtain ⟨b, c, e, g1, g2, g3, g4⟩ := hb i hi (by omega)
    exact ⟨b, c, e, g1, g2, (hF b).2 (.inr g3), g4⟩
  · have e : i = R.length := by simp at h1; omega
    subst e
    rw [List.getElem_append_right (by omega), List.getElem_append_right (by omega)]
    simp only [Nat.sub_self, h0, List.getElem_cons_zero]
    exact rdF_own hl (ho.base (Nat.zero_le _)) F fun k hk => (hF k).2 (.inl ((ha k).2 hk))
theorem Sep.whosSet {w0 w : World} {Ls : List (List Int)} {R : List Value} {u : Value} {l : List Int} {L : List Thing} (i : Nat) (h : Sep w0 (Is u l :: WhosT Ls R :: L) w) (hl : 0 < l.length) : Sep w0 (WhosT (Ls.set i l) (R.set i u) :: L) w := by
  refine h.join.imp (loc_whos _ _) ?_
  rintro F ⟨Fa, Fb, ⟨⟨base, ho⟩, ha⟩, ⟨h0, hb⟩, _, hF⟩
  refine ⟨by simp [h0], fun j h1 h2 => ?_⟩
  by_cases hi : i = j
  · subst hi
    simp only [List.getElem_set_self]
    exact rdF_own hl (ho.base (Nat.zero_le _)) F fun k hk => (hF k).2 (.inl ((ha k).2 hk))
  · simp only [List.getElem_set_ne hi]
    simp only [List.length_set] at h1 h2
    obtain ⟨b, c, e, g1, g2, g3, g4⟩ := hb j h1 h2
    exact ⟨b, c, e, g1, g2, (hF b).2 (.inr g3), g4⟩
abbrev RTalC (g : Nat) (n : Int) (v : Value) : Thing := Cl g #[.int .i64 n, v] 47
abbrev keysS (S : List (Bal × Nat)) : List Bal := S.map (·.1)
abbrev setsS (n : Nat) (S : List (Bal × Nat)) : List (List Int) := S.map fun p => whoOf p.2 n
abbrev RRows (v : Value) (S : List (Bal × Nat)) (R : List Value) : Thing := Rn 6 69 v S.length (rowsC (keysS S) R)
set_option maxRecDepth 100000 in
theorem rnewTally_bad (n : Int) (w : World) (hn : I64 n) (h : enough n = 0) :
    Calls Try.prog 9 #[.int .i64 n] w fun e w' => e = .returned (.tuple #[.pointer none, .int .i64 2]) ∧ w = w' := by
  have he := renough_any n w hn
  rw [h] at he
  have HE := Lib.hid he
  clear he h hn
  go_enter Try.func9, Try.ntmps9
  go_wp2_with fail
  refine HE.out.mono ?_
  rintro r0 w1 ⟨rfl, rfl⟩
  go_wp2_with fail
  go_ret2
  exact ⟨rfl, rfl⟩
set_option maxRecDepth 100000 in
theorem rnewTally_ok {w0 : World} {L : List Thing} (n : Int) (w : World) (hs : Sep w0 L w) (hn : I64 n) (h : enough n ≠ 0) :
    Calls Try.prog 9 #[.int .i64 n] w fun e w' => ∃ g, e = .returned (.tuple #[.pointer (some ⟨g, 0, none⟩), .int .i64 0]) ∧ Sep w0 (RTalC g n (.slice none 0 0) :: L) w' := by
  have he := renough_any n w hn
  have hz : (enough n == 0) = false := beq_eq_false_iff_ne.2 h
  have HE := Lib.hid he
  have h1 := hs.alloc (.cells #[.int .i64 n, .slice none 0 0] 47)
  have H1 := Lib.hid h1
  clear he h hn h1 hs
  go_enter Try.func9, Try.ntmps9
  go_wp2_with fail
  refine HE.out.mono ?_
  rintro r0 w1 ⟨rfl, rfl⟩
  go_wp2_with fail
  go_ret2
  exact ⟨_, rfl, H1.out⟩
/-- What stands in a row. -/
theorem Sep.rrowAt {w0 w : World} {v : Value} {S : List (Bal × Nat)} {R : List Value} {L : List Thing} (h : Sep w0 (RRows v S R :: L) w) (hR : R.length = S.length) (i : Nat) (hi : i < S.length) :
    ∃ b c, v = .slice (some ⟨b, 0, none⟩) S.length c ∧ S.length ≤ c ∧ c ≤ maxLen ∧ w.cell? ⟨b, i * 6, none⟩ = some (.int .i64 S[i].1.1.1) ∧ w.cell? ⟨b, i * 6 + 1, none⟩ = some (.int .i64 S[i].1.1.2.1) ∧ w.cell? ⟨b, i * 6 + 2, none⟩ = some (.int .i64 S[i].1.1.2.2.1) ∧
      w.cell? ⟨b, i * 6 + 3, none⟩ = some (.int .i64 S[i].1.1.2.2.2.1) ∧ w.cell? ⟨b, i * 6 + 4, none⟩ = some (.int .i64 S[i].1.1.2.2.2.2) ∧ w.cell? ⟨b, i * 6 + 5, none⟩ = some R[i] := by
  obtain ⟨a, c, rfl, h1, h2, h3, h4⟩ := h.rnForm
  obtain ⟨b, rfl, h5, h6⟩ := h4 (by omega)
  obtain ⟨q0, q1, q2, q3, q4, q5⟩ := rowsC_at (keysS S) R i (by simpa using hi) (by omega)
  have h7 : ∀ j u, (rowsC (keysS S) R)[j]? = some u → w.cell? ⟨b, j, none⟩ = some u := fun j u hu => by
    obtain ⟨hj, rfl⟩ := List.getElem?_eq_some_iff.1 hu
    exact h6 j hj
  simp only [keysS, List.getElem_map] at q0 q1 q2 q3 q4
  exact ⟨b, c, rfl, h1, h2, h7 _ _ q0, h7 _ _ q1, h7 _ _ q2, h7 _ _ q3, h7 _ _ q4, h7 _ _ q5⟩
end Go.Proofs.Ytidbniigfkocpaa
