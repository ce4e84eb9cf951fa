/- Pipes that are none. -/
import Derived.Test.YtpknfeokfladkaaDoorPipe8
namespace Go.Proofs.YtpknfeokfladkaaDoor
open Go.RowKit
set_option linter.unusedVariables false
set_option linter.unusedSimpArgs false
abbrev Zp (g : Nat) : Thing := Cl g #[.bool false, .int .i64 0, .slice none 0 0] 67
def NPT (p : Value) : Thing := fun w F => Fact (p = .pointer none) w F ∨ ∃ g : Nat, p = .pointer (some ⟨g, 0, none⟩) ∧ Zp g w F
theorem loc_npt (p : Value) : Loc (NPT p) := fun w w' F h hs hk => by
  rcases h with h | ⟨g, h1, h2⟩
  · exact .inl (loc_fact _ w w' F h hs hk)
  · exact .inr ⟨g, h1, loc_blk _ _ w w' F h2 hs hk⟩
theorem Sep.np {w0 w : World} {p : Value} {L : List Thing} (h : Sep w0 (NPT p :: L) w) : NP w p := by
  obtain ⟨F, hF, _⟩ := h.head
  rcases hF with h1 | ⟨g, h1, h2⟩
  · exact .inl h1.1
  · refine .inr ⟨g, h1, ?_⟩
    unfold World.cell?; rw [h2.1]; rfl
theorem Sep.npNil {w0 w : World} {L : List Thing} (h : Sep w0 L w) : Sep w0 (NPT (.pointer none) :: L) w := (h.say (p := Value.pointer none = .pointer none) rfl).imp (loc_npt _) fun F hF => .inl hF
theorem Sep.npZero {w0 w : World} {g : Nat} {L : List Thing} (h : Sep w0 (Zp g :: L) w) : Sep w0 (NPT (.pointer (some ⟨g, 0, none⟩)) :: L) w := h.imp (loc_npt _) fun F hF => .inr ⟨g, rfl, hF⟩
theorem get_np {w0 w : World} {L : List Thing} {p : Value} (op : Int) (h : Sep w0 (NPT p :: L) w) :
    Calls Tryd.prog 31 #[p, .int .i64 op] w fun e w' => e = .returned (.tuple #[.agg #[.int .i64 0, .int .i64 0, .int .i64 0, .string ⟨#[]⟩, .int .i64 0, .int .i64 0, .slice none 0 0], .int .i64 1]) ∧ Sep w0 (NPT p :: L) w' := get_n op h h.np
set_option maxRecDepth 100000 in
theorem append_np {w0 w : World} {L : List Thing} {p : Value} (x : EnM) (v : Value) (h : Sep w0 (NPT p :: L) w) (hv : v.oneCell' = true) :
    Calls Tryd.prog 16 #[p, enV x v] w fun e w' => e = .returned (.tuple #[.int .i64 0, .int .i64 1]) ∧ Sep w0 (NPT p :: L) w' := by
  have h3 := h.alloc0 (.cells (enC x v) 34)
  have HN := Lib.hid (pnone_n h3.np)
  have H := Lib.hid h3
  clear h h3
  obtain ⟨w3, hw3⟩ : ∃ z, z = w.alloc (.cells (enC x v) 34) := ⟨_, rfl⟩
  rw [← hw3] at HN H
  unfold enC at hw3
  unfold enV
  go_enter Tryd.func16, Tryd.ntmps16
  go_wp2_with fail
  rw [← hw3]
  clear hw3
  refine HN.out.mono ?_
  rintro r0 w1 ⟨rfl, rfl⟩
  clear HN
  go_wp2_with fail
  go_ret2
  exact ⟨rfl, H.out⟩
def zE : EnM := ⟨0, 0, ⟨0, sZ, 0, 0, []⟩⟩
theorem zE_bad : zE.ok = false := by kernel_rfl
theorem make24 (w : World) : (Instr.makeSlice 51 (.int .i64 24) (.int .i64 24)).run Tryd.prog w = .ok (.slice (some ⟨w.heap.size, 0, none⟩) 24 24) (w.alloc (.cells (madeCells #[.int .i64 0] 24) 3)) := by
  have h : (Tryd.prog.info? 3).map (fun i => (i.size, decide (i.bytes ≤ 64), i.zero.map (fun z => z.cells))) = some (1, true, some #[.int .i64 0]) := by kernel_rfl
  obtain ⟨i, hi, he⟩ := Option.map_eq_some_iff.1 h
  simp only [Prod.mk.injEq, decide_eq_true_eq] at he
  obtain ⟨z, hz, hz2⟩ := Option.map_eq_some_iff.1 he.2.2
  have hr := run_make (P := Tryd.prog) w 51 3 i z Tryd.underlying51 hi hz .i64 .i64 24 24 (by omega) (by omega) (by have := he.2.1; omega) (by omega)
  rw [he.1, hz2] at hr
  exact hr
theorem made24 : (madeCells #[.int .i64 0] 24).toList = iv .i64 (List.replicate 24 0) := by kernel_rfl
end Go.Proofs.YtpknfeokfladkaaDoor
