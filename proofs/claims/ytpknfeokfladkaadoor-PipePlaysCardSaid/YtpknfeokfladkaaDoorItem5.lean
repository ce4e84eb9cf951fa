/- Package item: Bytes. -/
import Derived.Test.YtpknfeokfladkaaDoorBkG
import Derived.Test.YtpknfeokfladkaaDoorBkB
import Derived.Test.YtpknfeokfladkaaDoorBkD
import Derived.Deep.RegionLaw
namespace Go.Proofs.YtpknfeokfladkaaDoor
open Go.RowKit
set_option linter.unusedVariables false
set_option linter.unusedSimpArgs false
def txtB (s : KS) : List UInt8 := vint s.1.size ++ s.1.data.toList
def lineBs (l : Ln) : List UInt8 := txtB l.1 ++ vint l.2.toNat
def cntBs (h n : Int) : List UInt8 := if h = 5 ∨ h = 22 ∨ h = 4 then vint n.toNat else if h = 9 then vint (zig n) else []
def opBs (k : Int) (sku : KS) (ord n : Int) (ls : List Ln) : List UInt8 :=
  [UInt8.ofNat k.toNat] ++ (if fieldsOf k = 5 ∨ fieldsOf k = 9 ∨ fieldsOf k = 1 then txtB sku else []) ++ (if fieldsOf k = 22 ∨ fieldsOf k = 2 then vint ord.toNat else []) ++ cntBs (fieldsOf k) n ++ (if fieldsOf k = 22 then vint ls.length else []) ++ ls.flatMap lineBs
theorem fields_ne {k : Int} (h : fieldsOf k ≠ 0) : 1 ≤ k ∧ k ≤ 9 := by
  unfold fieldsOf at h
  split at h
  · rename_i hk
    refine ⟨?_, hk.2⟩
    rcases Int.lt_or_le k 1 with h1 | h1
    · obtain rfl : k = 0 := by omega
      exact absurd rfl h
    · exact h1
  · exact absurd rfl h
theorem byte1 {k : Int} (h0 : 0 ≤ k) (h9 : k ≤ 9) : #[Value.int .u8 k].toList = bv [UInt8.ofNat k.toNat] := by
  obtain ⟨j, rfl⟩ : ∃ j : Nat, k = j := ⟨k.toNat, by omega⟩
  simp [bv, UInt8.toNat_ofNat']
  omega
/-- A conversion whose run is known: one step of a region that draws. -/
theorem step_conv_run {P : Program} {ops : Array Oper} {o : Oper} {a : Act} {w : World} {K : Act → World → Prop} {Q : Exit → Act → World → Prop} {E : Prop}
    (hg : o.guard = none) (x : Operand) (src dst : TypeId) (hop : o.op = Op.convert src dst x) (v : Value) (hx : a.eval x = v) {v' : Value} {w' : World} (hr : (convert src dst v).run P w = .ok v' w') (hK : K (a.put o.dst v') w') :
    if Region.wanted o (yielded ops a.tmps) = true then Oper.wp P o a w K Q else E := by
  have hw : Region.wanted o (yielded ops a.tmps) = true := by simp [Region.wanted, hg]
  rw [if_pos hw]
  unfold Oper.wp
  simp [execOp, hop, hx, hr, Result.andThen]
  exact hK
theorem lnc {w0 w : World} {bq : Nat} {s : ByteArray} {q : Int} {L : List Thing} (h : Sep w0 (Cl bq #[.string s, .int .i64 q] 71 :: L) w) : w.cell? ⟨bq, 0, none⟩ = some (.string s) ∧ w.cell? ⟨bq, 1, none⟩ = some (.int .i64 q) := ⟨h.cell rfl, h.cell rfl⟩
theorem lineBs_len {l : Ln} (h : lineB l = true) : (lineBs l).length ≤ 28 := by
  simp [lineB, nameB] at h
  have h1 := vint_len l.1.1.size
  have h2 := vint_len l.2.toNat
  have h3 : l.1.1.data.toList.length = l.1.1.size := rfl
  simp only [lineBs, txtB, List.length_append, h3]
  omega
theorem flat_len : ∀ {ls : List Ln}, ls.all lineB = true → (ls.flatMap lineBs).length ≤ ls.length * 28
  | [], _ => by simp
  | l :: ls, h => by
    simp only [List.all_cons, Bool.and_eq_true] at h
    have h1 := lineBs_len h.1
    have h2 := flat_len h.2
    simp only [List.flatMap_cons, List.length_append, List.length_cons]
    omega
theorem lines_spec {ls : List Ln} (h : linesB ls = true) : 1 ≤ ls.length ∧ ls.length ≤ 4 ∧ ls.all lineB = true := by
  simp [linesB] at h
  refine ⟨h.1.1.1, h.1.1.2, ?_⟩
  rw [List.all_eq_true]
  intro l hl
  exact h.1.2 _ _ _ hl
end Go.Proofs.YtpknfeokfladkaaDoor
