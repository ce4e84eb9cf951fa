/- Bytes that are only read: a slice's block, as it lies; parts of it. -/
import Derived.Test.YtpnafgkoijnplaaSlPart2
import Derived.Test.YtpnafgkoijnplaaSep2
namespace Go.Proofs.Ytpnafgkoijnplaa
open Go.RowKit
set_option linter.unusedVariables false
/-- A slice in one block of its own that reads as l. -/
def RdT (a : Option Addr) (c : Nat) (l : List UInt8) : Thing := fun w F => Sl w (.slice a l.length c) (bv l) ∧ l.length ≤ c ∧ c ≤ maxLen ∧ ∀ k, F k ↔ (Value.slice a l.length c).ownBlock = some k
theorem loc_rdt (a : Option Addr) (c : Nat) (l : List UInt8) : Loc (RdT a c l) := fun w w' F ⟨h, h1, h2, hf⟩ hs hk => ⟨h.keep hs fun k hb _ => hk k ((hf k).2 hb), h1, h2, hf⟩
theorem Sep.rd {w0 w : World} {a : Option Addr} {c : Nat} {l : List UInt8} {L : List Thing} (h : Sep w0 (RdT a c l :: L) w) : Sl w (.slice a l.length c) (bv l) := by
  obtain ⟨F, hF, _⟩ := h.head; exact hF.1
theorem Sep.rdc {w0 w : World} {a : Option Addr} {c : Nat} {l : List UInt8} {L : List Thing} (h : Sep w0 (RdT a c l :: L) w) : l.length ≤ c ∧ c ≤ 9223372036854775807 := by
  obtain ⟨F, hF, _⟩ := h.head; have := hF.2.2.1; unfold maxLen at this; exact ⟨hF.2.1, by omega⟩
/-- Bytes of one's own are such. -/
theorem Sep.toRd {w0 w : World} {v : Value} {l : List UInt8} {L : List Thing} (h : Sep w0 (By v l :: L) w) : ∃ a c, v = .slice a l.length c ∧ Sep w0 (RdT a c l :: L) w := by
  have ho := h.rw_
  obtain ⟨a, c, hv⟩ := h.sl.len
  rw [bv_length] at hv
  subst hv
  have hc : l.length ≤ c ∧ c ≤ maxLen := by
    rcases ho.2 with ⟨hv, h0⟩ | ⟨b, c', cur, hv, _, _, h1, h2, _⟩
    · simp only [Value.slice.injEq] at hv; rw [hv.2.1, hv.2.2]; exact ⟨Nat.le_refl _, Nat.zero_le _⟩
    · simp only [Value.slice.injEq] at hv; rw [hv.2.2]; rw [bv_length] at h1; exact ⟨h1, h2⟩
  exact ⟨a, c, rfl, h.imp (loc_rdt _ _ _) fun F hF => ⟨by obtain ⟨⟨b, hb⟩, _⟩ := hF; exact hb.sl, hc.1, hc.2, hF.2⟩⟩
theorem Sep.rdNil {w0 w : World} {L : List Thing} (h : Sep w0 L w) : Sep w0 (RdT none 0 [] :: L) w := by
  have h0 : Sep w0 (By (.slice none 0 0) [] :: L) w := h.rnil 5
  obtain ⟨a, c, hv, h1⟩ := h0.toRd
  simp only [Value.slice.injEq] at hv
  obtain ⟨rfl, _, rfl⟩ := hv
  exact h1
theorem own_part (a : Option Addr) (n c i m c' : Nat) : (Value.slice (if c = i then a else Option.map (fun q => q.add i) a) m c').ownBlock = (Value.slice a n c).ownBlock := by
  cases a with
  | none => split <;> rfl
  | some p =>
    split
    · rfl
    · simp only [Value.ownBlock, Option.map_some]; unfold Addr.add; split <;> rfl
/-- Its part from i to j. -/
theorem Sep.rdPart {w0 w : World} {a : Option Addr} {c : Nat} {l : List UInt8} {L : List Thing} (h : Sep w0 (RdT a c l :: L) w) (i j : Nat) (hij : i ≤ j) (hj : j ≤ l.length) :
    Sep w0 (RdT (if c = i then a else Option.map (fun q => q.add i) a) (c - i) ((l.take j).drop i) :: L) w := by
  have hlen : ((l.take j).drop i).length = j - i := by rw [List.length_drop, List.length_take]; omega
  refine h.imp (loc_rdt _ _ _) fun F ⟨h1, h2, h3, hf⟩ => ⟨?_, by rw [hlen]; omega, by omega, fun k => ?_⟩
  · rw [hlen]
    exact sl_part h1 rfl i j hij hj
  · rw [own_part]; exact hf k
theorem Sep.rdTake {w0 w : World} {a : Option Addr} {c : Nat} {l : List UInt8} {L : List Thing} (h : Sep w0 (RdT a c l :: L) w) (j : Nat) (hj : j ≤ l.length) : Sep w0 (RdT a c (l.take j) :: L) w := by
  have h1 := h.rdPart 0 j (Nat.zero_le _) hj
  rw [List.drop_zero] at h1
  have e : (if c = 0 then a else Option.map (fun q => q.add 0) a) = a := by
    split
    · rfl
    · cases a with
      | none => rfl
      | some p => simp [Addr.add]
  rw [e, Nat.sub_zero] at h1
  exact h1
end Go.Proofs.Ytpnafgkoijnplaa
