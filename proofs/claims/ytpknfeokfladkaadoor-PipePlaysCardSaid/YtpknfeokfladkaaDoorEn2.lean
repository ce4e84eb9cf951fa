/- Package entry, and the document's own: Bytes. -/
import Derived.Test.YtpknfeokfladkaaDoorEn1
import Derived.Test.YtpknfeokfladkaaDoorRefI6
import Derived.Test.YtpknfeokfladkaaDoorBkJ
namespace Go.Proofs.YtpknfeokfladkaaDoor
open Go.RowKit
set_option linter.unusedVariables false
set_option linter.unusedSimpArgs false
def entBs (x : EnM) : List UInt8 := [UInt8.ofNat x.c.toNat] ++ vint x.m.toNat ++ opBs x.p.k x.p.s x.p.o x.p.n x.p.ls
theorem EnM.parts {x : EnM} (h : x.ok = true) : (0 ≤ x.c ∧ x.c < 8 ∧ 1 ≤ x.m ∧ x.m ≤ 2147483647) ∧ x.p.ok = true := by
  unfold EnM.ok at h
  obtain ⟨h1, h2⟩ := Bool.and_eq_true_iff.1 h
  rcases hd_cases x with ⟨e, _⟩ | ⟨_, h3⟩
  · rw [e] at h1; cases h1
  · exact ⟨h3, h2⟩
theorem byte_row {w0 w : World} {c : Int} {g : Nat} {L : List Thing} (h : Sep w0 (Cl g #[.int .u8 c] 5 :: L) w) (h0 : 0 ≤ c) (h9 : c ≤ 9) : Sep w0 (By (.slice (some ⟨g, 0, none⟩) 1 1) [UInt8.ofNat c.toNat] :: L) w := by
  have := h.asRow 1 rfl (by unfold maxLen; omega)
  rwa [byte1 h0 h9] at this
theorem entBs_len {x : EnM} (h : x.ok = true) : (entBs x).length ≤ 300 := by
  have h1 := opBs_len (x.parts h).2
  have h2 := vint_len x.m.toNat
  unfold entBs
  rw [List.length_append, List.length_append]
  simp only [List.length_cons, List.length_nil]
  omega
end Go.Proofs.YtpknfeokfladkaaDoor
