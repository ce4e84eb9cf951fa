/- Package choose: what offers are; top, isImage, clone, isNone, New, Len, View, Enough. -/
import Derived.Test.YthgndegjiodopaaDoorChW
import Derived.Test.YthgndegjiodopaaDoorRangeSep
import Derived.Deep.RegionHeld3
import Derived.Deep.QuietTactic
import Derived.BigQuiet
namespace Go.Proofs.YthgndegjiodopaaDoor
open Go.RowKit
set_option linter.unusedVariables false
set_option linter.unusedSimpArgs false
/-- An offer without a checkpoint: its entries lie as v says. -/
structure OvM where
  fr : Int
  la : Int
  ba : Int
  co : Int
  v : Value
  ps : List (EnM × Value)
def imC (x : OvM) : Array Value := #[.int .i64 x.ba, .slice none 0 0, x.v, .int .i64 x.co]
def imV (x : OvM) : Value := .agg (imC x)
def ovC (x : OvM) : Array Value := #[.int .i64 x.fr, .int .i64 x.la, .int .i64 x.ba, .slice none 0 0, x.v, .int .i64 x.co]
def ovV (x : OvM) : Value := .agg (ovC x)
def OvM.top (x : OvM) : Int := x.ba + x.ps.length
/-- A replica's number as a key of a group of n. -/
abbrev Rk := { x : Int × Int // IQ x.1 ∧ IQ x.2 }
def rkV (x : Rk) : Value := .agg #[.int .i64 x.1.1, .int .i64 x.1.2]
theorem rkWide : (match Tryd.prog.underlying 65 with | some (.array _ _) | some (.struct _) => true | _ => false) = true := by kernel_rfl
theorem rkKey : Tryd.prog.keyType 65 = true := by kernel_rfl
theorem rkCells : Tryd.prog.cellsOf 65 = 2 := by kernel_rfl
theorem leafRk (d : Nat) (a b : Int) (ha : (Lit.int .i64 a).wf = true) (hb : (Lit.int .i64 b).wf = true) :
    Tryd.prog.keyLits (d + 2) 65 [.int .i64 a, .int .i64 b] = some [.int .i64 a, .int .i64 b] := by
  unfold Program.keyLits
  rw [Tryd.underlying65]
  simp [rkCells, intCells, leafInt, ha, hb, show List.range 2 = [0, 1] from rfl]
set_option maxRecDepth 100000 in
theorem rkKeyOf (x : Rk) : ∃ l, keyOf Tryd.prog 65 (rkV x) = some l := by
  obtain ⟨⟨a, b⟩, ha, hb⟩ := x
  have wa := wf_of ha
  have wb := wf_of hb
  have hf : (rkV ⟨⟨a, b⟩, ha, hb⟩).formed Tryd.prog 65 = true := by
    simp [rkV, Value.formed, Tryd.underlying65, rkCells]
  unfold keyOf
  rw [Tryd.underlying65]
  dsimp only
  rw [if_pos (by rw [rkKey, hf]; rfl)]
  obtain ⟨m, hm⟩ : ∃ m, Tryd.prog.types.size = m + 3 := ⟨Tryd.prog.types.size - 3, by have : 3 ≤ Tryd.prog.types.size := of_decide_eq_true (by kernel_rfl); omega⟩
  rw [hm]
  rw [show m + 3 + 1 = (m + 2) + 2 by omega]
  exact ⟨_, by rw [show (rkV ⟨⟨a, b⟩, ha, hb⟩).cells.toList = [.int .i64 a, .int .i64 b] from rfl, leafRk _ a b wa wb]; rfl⟩
set_option maxRecDepth 100000 in
theorem rkOk : KeyOk Tryd.prog 65 rkV where
  law := Go.Maps.Keyed.of_law (deep_law_laid balLaid (m := 4) (by omega) (of_decide_eq_true (by kernel_rfl)) (by kernel_rfl) rkWide)
  key := rkKeyOf
  inj := by
    rintro ⟨⟨a, b⟩, ha⟩ ⟨⟨a', b'⟩, ha'⟩ h
    simp only [rkV, Value.agg.injEq, Array.mk.injEq, List.cons.injEq, Value.int.injEq, true_and, and_true] at h
    obtain ⟨rfl, rfl⟩ := h
    rfl
def ovZ : OvM := ⟨0, 0, 0, 0, .slice none 0 0, []⟩
theorem zeroOv (w : World) : (zeroValue 33).run Tryd.prog w = .ok (ovV ovZ) w := by kernel_rfl
abbrev OvT (b : Nat) (S : List (Rk × OvM)) : Thing := MapT rkV ovV b S
theorem cells4 {w0 w : World} {b : Nat} {v0 v1 v2 v3 : Value} {t : TypeId} {L : List Thing} (h : Sep w0 (Cl b #[v0, v1, v2, v3] t :: L) w) :
    w.cell? ⟨b, 0, none⟩ = some v0 ∧ w.cell? ⟨b, 1, none⟩ = some v1 ∧ w.cell? ⟨b, 2, none⟩ = some v2 ∧ w.cell? ⟨b, 3, none⟩ = some v3 :=
  ⟨h.cell rfl, h.cell rfl, h.cell rfl, h.cell rfl⟩
set_option maxHeartbeats 4000000 in
theorem top_any {w0 w : World} {L : List Thing} (ba co : Int) (k : Value) (a : Option Addr) (n c : Nat) (h : Sep w0 L w) (h0 : 0 ≤ ba) (h1 : ba ≤ 9007199254740991) (h2 : n ≤ 1000000) :
    Calls Tryd.prog 28 #[.agg #[.int .i64 ba, k, .slice a n c, .int .i64 co]] w fun e w' => e = .returned (.int .i64 (ba + n)) ∧ Sep w0 L w' := by
  have hw : IntKind.i64.wrap (ba + (n : Int)) = ba + n := IntWalk.i64_in _ (by omega)
  have h3 := h.alloc (.cells #[.int .i64 ba, k, .slice a n c, .int .i64 co] 31)
  obtain ⟨c0, c1, c2, c3⟩ := cells4 h3
  have H := Lib.hid h3.drop
  clear h h3 h0 h1 h2
  go_enter Tryd.func28, Tryd.ntmps28
  go_wp2_with fail
  go_ret
  exact ⟨rfl, H.out⟩
theorem cloneZ_any {w0 w : World} {L : List Thing} (h : Sep w0 L w) :
    Calls Tryd.prog 30 #[.slice none 0 0] w fun e w' => e = .returned (.slice none 0 0) ∧ Sep w0 L w' := by
  have e1 := fun w => Lib.run_eql_slice_nil (P := Tryd.prog) w 28 5 none 0 0 0 0 Tryd.underlying28
  have H := Lib.hid h
  clear h
  go_enter Tryd.func30, Tryd.ntmps30
  (try dsimp only); repeat' (first | go_values | go_skip | go_guarded | go_step | go_upon | go_back)
  go_ret
  exact ⟨rfl, H.out⟩
end Go.Proofs.YthgndegjiodopaaDoor
