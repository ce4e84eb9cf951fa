/- What Parse of an entry reads: what was written, and nothing else. -/
import Derived.Test.YtcicclghgbdgnaaDoorEn3
namespace Go.Proofs.YtcicclghgbdgnaaDoor
open Go.RowKit
set_option linter.unusedVariables false
theorem prsEn_again (l : List UInt8) (hl : l.length ≤ maxLen) : (∃ x : EnM, prsEn l = (x, 0) ∧ x.ok = true ∧ l = entBs x) ∨ ∃ er, prsEn l = (EnM.zero, er) ∧ er ≠ 0 := by
  unfold prsEn
  dsimp only
  by_cases h1 : (rdVe (rdNe l 0).2.1 (rdNe l 0).2.2).2.2 ≠ 0
  · exact .inr ⟨_, if_pos h1, h1⟩
  · have h1' : (rdVe (rdNe l 0).2.1 (rdNe l 0).2.2).2.2 = 0 := Classical.byContradiction h1
    obtain ⟨e1, hr1⟩ := rdVe_zero h1'
    obtain ⟨-, hr0⟩ := rdNe_zero e1
    rw [if_neg h1]
    have hu : 0 ≤ i64w (rdVe (rdNe l 0).2.1 (rdNe l 0).2.2).1 → (i64w (rdVe (rdNe l 0).2.1 (rdNe l 0).2.2).1).toNat = (rdVe (rdNe l 0).2.1 (rdNe l 0).2.2).1 := rdVe_u
    have hlen : (rdVe (rdNe l 0).2.1 (rdNe l 0).2.2).2.1.length ≤ maxLen := by
      have a := rdNe_len l 0
      have b := rdVe_len (rdNe l 0).2.1 (rdNe l 0).2.2
      omega
    generalize (rdVe (rdNe l 0).2.1 (rdNe l 0).2.2).1 = u at *
    generalize (rdVe (rdNe l 0).2.1 (rdNe l 0).2.2).2.1 = r2 at *
    generalize (rdNe l 0).1 = k at *
    generalize (rdNe l 0).2.1 = r1 at *
    rcases prs_again r2 hlen with ⟨p, hp, hok, hb⟩ | ⟨er, hp, he⟩
    · rw [hp]
      rw [if_neg (by simp)]
      cases hx : EnM.ok ⟨(k : Nat), i64w u, p⟩ with
      | true =>
        have hm := (EnM.parts hx).1
        dsimp only at hm
        refine .inl ⟨_, if_pos rfl, hx, ?_⟩
        unfold entBs
        dsimp only
        rw [hu (by omega), hr0, hr1, hb]
        simp
      | false => exact .inr ⟨4, if_neg (by simp), by omega⟩
    · rw [hp]
      exact .inr ⟨er, if_pos he, he⟩
theorem prsEn_back {x : EnM} (h : x.ok = true) : prsEn (entBs x) = (x, 0) := by
  obtain ⟨⟨h0, h1, h2, h3⟩, hp⟩ := x.parts h
  have hp' : okB x.p.k x.p.s x.p.o x.p.n x.p.ls = true := hp
  have e : entBs x = [UInt8.ofNat x.c.toNat] ++ (vint x.m.toNat ++ opBs x.p.k x.p.s x.p.o x.p.n x.p.ls) := by unfold entBs; rw [List.append_assoc]
  unfold prsEn
  rw [e, rdNe_byte x.c.toNat _ (by omega)]
  dsimp only
  rw [rdVe_vint _ _ (by unfold U64; omega), prs_back hp']
  dsimp only
  rw [i64w_back (by omega) (by omega)]
  have hc : ((x.c.toNat : Nat) : Int) = x.c := by omega
  rw [hc, if_neg (by simp), if_neg (by simp)]
  rw [show EnM.ok ⟨x.c, x.m, ⟨x.p.k, x.p.s, x.p.o, x.p.n, x.p.ls⟩⟩ = true from h]
  rfl
end Go.Proofs.YtcicclghgbdgnaaDoor
