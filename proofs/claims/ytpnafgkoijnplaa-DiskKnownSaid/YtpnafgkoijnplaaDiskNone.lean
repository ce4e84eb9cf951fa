/- Disks that are none: nil, and one that New did not make. -/
import Derived.Test.YtpnafgkoijnplaaDisk3
namespace Go.Proofs.Ytpnafgkoijnplaa
open Go.RowKit
set_option linter.unusedVariables false
abbrev Zd (g : Nat) : Thing := Cl g #[.slice none 0 0, .slice none 0 0, .slice none 0 0, .bool false, .nilFunc] 52
/-- A disk that is none. -/
def NT (p : Value) : Thing := fun w F => Fact (p = .pointer none) w F ∨ ∃ g : Nat, p = .pointer (some ⟨g, 0, none⟩) ∧ Zd g w F
theorem loc_nt (p : Value) : Loc (NT p) := fun w w' F h hs hk => by
  rcases h with h | ⟨g, h1, h2⟩
  · exact .inl (loc_fact _ w w' F h hs hk)
  · exact .inr ⟨g, h1, loc_blk _ _ w w' F h2 hs hk⟩
theorem Sep.nt {w0 w : World} {p : Value} {L : List Thing} (h : Sep w0 (NT p :: L) w) : p = .pointer none ∨ ∃ g : Nat, p = .pointer (some ⟨g, 0, none⟩) ∧ w.cell? ⟨g, 3, none⟩ = some (.bool false) ∧ w.cell? ⟨g, 4, none⟩ = some .nilFunc := by
  obtain ⟨F, hF, _⟩ := h.head
  rcases hF with h1 | ⟨g, h1, h2⟩
  · exact .inl h1.1
  · refine .inr ⟨g, h1, ?_, ?_⟩ <;> (unfold World.cell?; rw [h2.1]; rfl)
theorem Sep.ntNil {w0 w : World} {L : List Thing} (h : Sep w0 L w) : Sep w0 (NT (.pointer none) :: L) w := (h.say (p := Value.pointer none = .pointer none) rfl).imp (loc_nt _) fun F hF => .inl hF
theorem Sep.ntZero {w0 w : World} {g : Nat} {L : List Thing} (h : Sep w0 (Zd g :: L) w) : Sep w0 (NT (.pointer (some ⟨g, 0, none⟩)) :: L) w := h.imp (loc_nt _) fun F hF => .inr ⟨g, rfl, hF⟩
theorem nilfn (w : World) : Sem.run Try.prog (binOp BinOp.eql 45 Value.nilFunc Value.nilFunc) w = .ok (.bool true) w := run_eql_func_nil_nil w Try.underlying45
theorem nnone_any {w0 w : World} {p : Value} {L : List Thing} (h : Sep w0 (NT p :: L) w) :
    Calls Try.prog 37 #[p] w fun e w' => e = .returned (.bool true) ∧ w = w' := by
  rcases h.nt with rfl | ⟨g, rfl, c3, c4⟩
  · clear h
    go_enter Try.func37, Try.ntmps37
    go_wp2
    go_ret
    exact ⟨rfl, rfl⟩
  · clear h c3
    have e1 := nilfn
    go_enter Try.func37, Try.ntmps37
    go_wp2
    go_ret
    exact ⟨rfl, rfl⟩
theorem ncheck_any {w0 w : World} {p : Value} {L : List Thing} (h : Sep w0 (NT p :: L) w) :
    Calls Try.prog 39 #[p] w fun e w' => e = .returned (.int .i64 1) ∧ w = w' := by
  have H := Lib.hid h
  clear h
  go_enter Try.func39, Try.ntmps39
  go_wp2_with fail
  refine (nnone_any H.out).mono ?_
  rintro r0 w1 ⟨rfl, rfl⟩
  go_wp2_with fail
  go_ret
  exact ⟨rfl, rfl⟩
theorem nappend_any {w0 w : World} {p v : Value} {L : List Thing} (h : Sep w0 (NT p :: L) w) :
    Calls Try.prog 24 #[p, v] w fun e w' => e = .returned (.int .i64 1) ∧ Sep w0 (NT p :: L) w' := by
  have H := Lib.hid h
  clear h
  go_enter Try.func24, Try.ntmps24
  go_wp2_with fail
  refine (ncheck_any H.out).mono ?_
  rintro r0 w1 ⟨rfl, rfl⟩
  go_wp2_with fail
  go_ret
  exact ⟨rfl, H.out⟩
theorem nslot_any {w0 w : World} {p v : Value} {L : List Thing} (n : Int) (h : Sep w0 (NT p :: L) w) :
    Calls Try.prog 17 #[p, .int .i64 n, v] w fun e w' => e = .returned (.int .i64 1) ∧ Sep w0 (NT p :: L) w' := by
  have H := Lib.hid h
  clear h
  go_enter Try.func17, Try.ntmps17
  go_wp2_with fail
  refine (ncheck_any H.out).mono ?_
  rintro r0 w1 ⟨rfl, rfl⟩
  go_wp2_with fail
  go_ret
  exact ⟨rfl, H.out⟩
theorem nkeep_any {w0 w : World} {p v : Value} {L : List Thing} (n : Int) (h : Sep w0 (NT p :: L) w) :
    Calls Try.prog 40 #[p, .int .i64 n, v] w fun e w' => e = .returned (.int .i64 1) ∧ w = w' := by
  have H := Lib.hid h
  clear h
  go_enter Try.func40, Try.ntmps40
  go_wp2_with fail
  refine (ncheck_any H.out).mono ?_
  rintro r0 w1 ⟨rfl, rfl⟩
  go_wp2_with fail
  go_ret
  exact ⟨rfl, rfl⟩
theorem ntrim_any {w0 w : World} {p : Value} {L : List Thing} (n : Int) (h : Sep w0 (NT p :: L) w) :
    Calls Try.prog 20 #[p, .int .i64 n] w fun e w' => e = .returned (.int .i64 1) ∧ Sep w0 (NT p :: L) w' := by
  have h1 : Sep w0 (NT p :: L) (w.alloc (.cells #[p] 23)) := h.alloc0 _
  rcases h.nt with rfl | ⟨g, rfl, _, _⟩
  all_goals
    have H := Lib.hid h1
    clear h h1
    go_enter Try.func20, Try.ntmps20
    go_wp2_with fail
    refine (nkeep_any _ H.out).mono ?_
    rintro r0 w1 ⟨rfl, rfl⟩
    go_wp2_with fail
    go_ret
    exact ⟨rfl, H.out⟩
theorem ncut_any {w0 w : World} {p : Value} {L : List Thing} (n : Int) (h : Sep w0 (NT p :: L) w) :
    Calls Try.prog 21 #[p, .int .i64 n] w fun e w' => e = .returned (.int .i64 1) ∧ Sep w0 (NT p :: L) w' := by
  have h1 : Sep w0 (NT p :: L) (w.alloc (.cells #[p] 23)) := h.alloc0 _
  rcases h.nt with rfl | ⟨g, rfl, _, _⟩
  all_goals
    have H := Lib.hid h1
    clear h h1
    go_enter Try.func21, Try.ntmps21
    go_wp2_with fail
    refine (nkeep_any _ H.out).mono ?_
    rintro r0 w1 ⟨rfl, rfl⟩
    go_wp2_with fail
    go_ret
    exact ⟨rfl, H.out⟩
theorem narm_any {w0 w : World} {p : Value} {L : List Thing} (n : Int) (h : Sep w0 (NT p :: L) w) :
    Calls Try.prog 22 #[p, .int .i64 n] w fun e w' => e = .returned (.int .i64 1) ∧ Sep w0 (NT p :: L) w' := by
  have h1 : Sep w0 (NT p :: L) ((w.alloc (.cells #[p] 23)).alloc (.cells #[.int .i64 n] 3)) := (h.alloc0 _).alloc0 _
  rcases h.nt with rfl | ⟨g, rfl, _, _⟩
  all_goals
    have H := Lib.hid h1
    clear h h1
    go_enter Try.func22, Try.ntmps22
    go_wp2_with fail
    refine (ncheck_any H.out).mono ?_
    rintro r0 w1 ⟨rfl, rfl⟩
    go_wp2_with fail
    go_ret
    exact ⟨rfl, H.out⟩
theorem nrevive_any {w0 w : World} {p : Value} {L : List Thing} (h : Sep w0 (NT p :: L) w) :
    Calls Try.prog 23 #[p] w fun e w' => e = .returned (.int .i64 1) ∧ Sep w0 (NT p :: L) w' := by
  have H := Lib.hid h
  clear h
  go_enter Try.func23, Try.ntmps23
  go_wp2_with fail
  refine (nnone_any H.out).mono ?_
  rintro r0 w1 ⟨rfl, rfl⟩
  go_wp2_with fail
  go_ret
  exact ⟨rfl, H.out⟩
theorem nlog_any {w0 w : World} {p : Value} {L : List Thing} (h : Sep w0 (NT p :: L) w) :
    Calls Try.prog 14 #[p] w fun e w' => e = .returned (.slice none 0 0) ∧ Sep w0 (NT p :: L) w' := by
  have H := Lib.hid h
  clear h
  go_enter Try.func14, Try.ntmps14
  go_wp2_with fail
  refine (nnone_any H.out).mono ?_
  rintro r0 w1 ⟨rfl, rfl⟩
  go_wp2_with fail
  go_ret
  exact ⟨rfl, H.out⟩
theorem ndead_any {w0 w : World} {p : Value} {L : List Thing} (h : Sep w0 (NT p :: L) w) :
    Calls Try.prog 15 #[p] w fun e w' => e = .returned (.bool false) ∧ Sep w0 (NT p :: L) w' := by
  have H := Lib.hid h
  clear h
  go_enter Try.func15, Try.ntmps15
  go_wp2_with fail
  refine (nnone_any H.out).mono ?_
  rintro r0 w1 ⟨rfl, rfl⟩
  go_wp2_with fail
  go_ret
  exact ⟨rfl, H.out⟩
theorem nslots_any {w0 w : World} {p : Value} {L : List Thing} (h : Sep w0 (NT p :: L) w) :
    Calls Try.prog 18 #[p] w fun e w' => e = .returned (.agg #[.slice none 0 0, .slice none 0 0]) ∧ Sep w0 (NT p :: L) w' := by
  have h1 := (h.alloc (.cells #[.slice none 0 0, .slice none 0 0] 34))
  have H := Lib.hid h1.sw2
  clear h h1
  go_enter Try.func18, Try.ntmps18
  go_wp2_with fail
  refine (nnone_any H.out).mono ?_
  rintro r0 w1 ⟨rfl, rfl⟩
  go_wp2_with fail
  have HF : Sep w0 (NT p :: L) (w.alloc (.cells #[.slice none 0 0, .slice none 0 0] 34)) := H.out.sw2.drop
  exact bodyPost_ret (v := .agg #[.slice none 0 0, .slice none 0 0]) (by simp [results, Try.results18, go_sem]) rfl ⟨rfl, HF⟩
end Go.Proofs.Ytpnafgkoijnplaa
