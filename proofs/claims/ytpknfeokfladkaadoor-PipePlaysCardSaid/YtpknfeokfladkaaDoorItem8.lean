/- Package item: readLines. -/
import Derived.Test.YtpknfeokfladkaaDoorBkH
import Derived.Test.YtpknfeokfladkaaDoorBkD
import Derived.Test.YtpknfeokfladkaaDoorBkB
import Derived.Deep.RegionLaw
namespace Go.Proofs.YtpknfeokfladkaaDoor
open Go.RowKit
set_option linter.unusedVariables false
set_option linter.unusedSimpArgs false
def mkS (l : List UInt8) : KS := if h : l.length ≤ maxLen then ⟨⟨l.toArray⟩, h⟩ else ⟨⟨#[]⟩, Nat.zero_le _⟩
theorem mkS_val {l : List UInt8} (h : l.length ≤ maxLen) : (mkS l).1 = ⟨l.toArray⟩ := by unfold mkS; rw [dif_pos h]
def i64w (u : Nat) : Int := IntKind.i64.wrap (u : Int)
/-- What readLines reads. -/
def rdLs : Nat → List UInt8 → Int → List Ln × List UInt8 × Int
  | 0, rest, e => ([], rest, e)
  | c + 1, rest, e =>
    let t := rdTe rest e
    let v := rdVe t.2.1 t.2.2
    let r := rdLs c v.2.1 v.2.2
    ((mkS t.1, i64w v.1) :: r.1, r.2)
def rdL (rest : List UInt8) (e : Int) : List Ln × List UInt8 × Int := rdLs (min (rdVe rest e).1 5) (rdVe rest e).2.1 (rdVe rest e).2.2
theorem rdTe_len (rest : List UInt8) (e : Int) : (rdTe rest e).1.length ≤ rest.length ∧ (rdTe rest e).2.1.length ≤ rest.length := by
  unfold rdTe
  split
  · unfold rdT
    have := rdV_len rest
    split
    · exact ⟨by simp, this⟩
    · split
      · exact ⟨by simp, by simp⟩
      · refine ⟨?_, ?_⟩
        · rw [List.length_take]; omega
        · rw [List.length_drop]; omega
  · exact ⟨by simp, Nat.le_refl _⟩
theorem rdVe_len (rest : List UInt8) (e : Int) : (rdVe rest e).2.1.length ≤ rest.length := by
  unfold rdVe
  split
  · exact rdV_len rest
  · exact Nat.le_refl _
theorem rdVe_u64 (rest : List UInt8) (e : Int) : U64 (rdVe rest e).1 := by
  unfold rdVe
  split
  · exact rdV_u64 rest
  · exact Nat.zero_lt_succ _
/-- 'append' of one line, that lies in a block made for it. -/
theorem app_line {w0 w : World} {v : Value} {ls : List Ln} {L : List Thing} {ty : TypeId} (s : KS) (n : Int) (h : Sep w0 (LnR v ls :: L) w) (hl : ls.length ≤ 1000) :
    ∃ a c w', (Builtin.append_ #[30, 30] ty #[v, .slice (some ⟨w.heap.size, 0, none⟩) 1 1]).run Tryd.prog (w.alloc (.cells #[.string s.1, .int .i64 n] 71)) = .ok (.slice a (ls.length + 1) c) w' ∧ Sep w0 (LnR (.slice a (ls.length + 1) c) (ls ++ [(s, n)]) :: L) w' := by
  have h1 := h.alloc (.cells #[.string s.1, .int .i64 n] 71)
  have hx : LnS (w.alloc (.cells #[.string s.1, .int .i64 n] 71)) (.slice (some ⟨w.heap.size, 0, none⟩) 1 1) [(s, n)] := by
    refine .inr ⟨w.heap.size, 0, 1, rfl, Nat.le_refl _, by unfold maxLen; omega, h1.blk_lt.2, fun i hi => ?_⟩
    obtain rfl : i = 0 := by simp at hi; exact hi
    exact ⟨h1.cell rfl, h1.cell rfl⟩
  obtain ⟨v', w', hr, h2, _⟩ := append_ln (ms := [(s, n)]) ty h1.sw2 hx (by simp; omega)
  obtain ⟨a, c, rfl, -⟩ := h2.rnForm
  rw [List.length_append, List.length_singleton] at hr
  have h3 := h2.sw2.drop
  refine ⟨a, c, w', hr, ?_⟩
  unfold LnR at h3 ⊢
  rw [List.length_append, List.length_singleton] at h3 ⊢
  exact h3
end Go.Proofs.YtpknfeokfladkaaDoor
