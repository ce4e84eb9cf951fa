/- Package item: Parse. -/
import Derived.Test.YtpknfeokfladkaaDoorItem8
import Derived.IntWalk
namespace Go.Proofs.YtpknfeokfladkaaDoor
open Go.RowKit
set_option linter.unusedVariables false
set_option linter.unusedSimpArgs false
def sZ : KS := ⟨⟨#[]⟩, Nat.zero_le _⟩
/-- An op. -/
structure OpM where
  k : Int
  s : KS
  o : Int
  n : Int
  ls : List Ln
def OpM.zero : OpM := ⟨0, sZ, 0, 0, []⟩
def OpM.ok (p : OpM) : Bool := okB p.k p.s p.o p.n p.ls
/-- What Parse answers of what it has read. -/
def prsFin (p : OpM) (rest : List UInt8) (e : Int) : OpM × Int := if endErr rest e = 0 then (if p.ok then (p, 0) else (OpM.zero, 4)) else (OpM.zero, endErr rest e)
theorem i64w_eq (u : Nat) : i64w u = wrap64 (u : Int) := by unfold i64w; exact IntWalk.i64_left _
theorem rdNe_lt (l : List UInt8) (e : Int) : (rdNe l e).1 < 256 := by
  unfold rdNe
  split
  · unfold rdN
    split
    · exact Nat.zero_lt_succ _
    · have := beVal_lt (l.take 1)
      have h2 : (l.take 1).length ≤ 1 := by rw [List.length_take]; omega
      rcases Nat.eq_zero_or_pos (l.take 1).length with h | h
      · rw [h] at this; dsimp only; omega
      · have h3 : (l.take 1).length = 1 := by omega
        rw [h3] at this; dsimp only; omega
  · exact Nat.zero_lt_succ _
def prs0 (k : Nat) (r : List UInt8) (e : Int) : OpM × Int := prsFin ⟨k, sZ, 0, 0, []⟩ r e
def prs2 (k : Nat) (r : List UInt8) (e : Int) : OpM × Int := prsFin ⟨k, sZ, i64w (rdVe r e).1, 0, []⟩ (rdVe r e).2.1 (rdVe r e).2.2
def prs4 (k : Nat) (r : List UInt8) (e : Int) : OpM × Int := prsFin ⟨k, sZ, 0, i64w (rdVe r e).1, []⟩ (rdVe r e).2.1 (rdVe r e).2.2
def prs1 (k : Nat) (r : List UInt8) (e : Int) : OpM × Int := prsFin ⟨k, mkS (rdTe r e).1, 0, 0, []⟩ (rdTe r e).2.1 (rdTe r e).2.2
def prs5 (k : Nat) (r : List UInt8) (e : Int) : OpM × Int := prsFin ⟨k, mkS (rdTe r e).1, 0, i64w (rdVe (rdTe r e).2.1 (rdTe r e).2.2).1, []⟩ (rdVe (rdTe r e).2.1 (rdTe r e).2.2).2.1 (rdVe (rdTe r e).2.1 (rdTe r e).2.2).2.2
def prs9 (k : Nat) (r : List UInt8) (e : Int) : OpM × Int := prsFin ⟨k, mkS (rdTe r e).1, 0, zag (rdVe (rdTe r e).2.1 (rdTe r e).2.2).1, []⟩ (rdVe (rdTe r e).2.1 (rdTe r e).2.2).2.1 (rdVe (rdTe r e).2.1 (rdTe r e).2.2).2.2
def prs22 (k : Nat) (r : List UInt8) (e : Int) : OpM × Int := let a := rdVe r e; let b := rdVe a.2.1 a.2.2; let c := rdL b.2.1 b.2.2; prsFin ⟨k, sZ, i64w a.1, i64w b.1, c.1⟩ c.2.1 c.2.2
theorem rdNe_len (l : List UInt8) (e : Int) : (rdNe l e).2.1.length ≤ l.length := by
  unfold rdNe
  split
  · unfold rdN
    split
    · exact Nat.zero_le _
    · rw [List.length_drop]; omega
  · exact Nat.le_refl _
/-- What Parse answers. -/
def prsOp (l : List UInt8) : OpM × Int :=
  if fieldsOf (rdNe l 0).1 = 5 then prs5 (rdNe l 0).1 (rdNe l 0).2.1 (rdNe l 0).2.2
  else if fieldsOf (rdNe l 0).1 = 9 then prs9 (rdNe l 0).1 (rdNe l 0).2.1 (rdNe l 0).2.2
  else if fieldsOf (rdNe l 0).1 = 22 then prs22 (rdNe l 0).1 (rdNe l 0).2.1 (rdNe l 0).2.2
  else if fieldsOf (rdNe l 0).1 = 2 then prs2 (rdNe l 0).1 (rdNe l 0).2.1 (rdNe l 0).2.2
  else if fieldsOf (rdNe l 0).1 = 4 then prs4 (rdNe l 0).1 (rdNe l 0).2.1 (rdNe l 0).2.2
  else if fieldsOf (rdNe l 0).1 = 1 then prs1 (rdNe l 0).1 (rdNe l 0).2.1 (rdNe l 0).2.2
  else prs0 (rdNe l 0).1 (rdNe l 0).2.1 (rdNe l 0).2.2
theorem Sep.onto1 {w0 w w' : World} {A : Thing} {L : List Thing} (h : Sep w0 L w) (h' : Sep w [A] w') : Sep w0 (A :: L) w' := by
  obtain ⟨F, hF, h2⟩ := h'.head
  exact h.new (h'.loc _ (List.mem_cons_self ..)) h'.low hF h2
end Go.Proofs.YtpknfeokfladkaaDoor
