/- Tallies and acks that are none: nil, and such as New did not make. -/
import Derived.Test.YtidbniigfkocpaaQWorks
namespace Go.Proofs.Ytidbniigfkocpaa
open Go.RowKit
set_option linter.unusedVariables false
set_option linter.unusedSimpArgs false
abbrev ZTal (g : Nat) : Thing := Cl g #[.int .i64 0, .map none] 63
abbrev ZAck (g : Nat) : Thing := Cl g (ackCells 0 (List.replicate 15 0)) 65
def NTal (p : Value) : Thing := fun w F => Fact (p = .pointer none) w F ∨ ∃ g : Nat, p = .pointer (some ⟨g, 0, none⟩) ∧ ZTal g w F
def NAck (p : Value) : Thing := fun w F => Fact (p = .pointer none) w F ∨ ∃ g : Nat, p = .pointer (some ⟨g, 0, none⟩) ∧ ZAck g w F
theorem loc_ntal (p : Value) : Loc (NTal p) := fun w w' F h hs hk => by
  rcases h with h | ⟨g, h1, h2⟩
  · exact .inl (loc_fact _ w w' F h hs hk)
  · exact .inr ⟨g, h1, loc_blk _ _ w w' F h2 hs hk⟩
theorem loc_nack (p : Value) : Loc (NAck p) := fun w w' F h hs hk => by
  rcases h with h | ⟨g, h1, h2⟩
  · exact .inl (loc_fact _ w w' F h hs hk)
  · exact .inr ⟨g, h1, loc_blk _ _ w w' F h2 hs hk⟩
theorem Sep.ntal {w0 w : World} {p : Value} {L : List Thing} (h : Sep w0 (NTal p :: L) w) : p = .pointer none ∨ ∃ g : Nat, p = .pointer (some ⟨g, 0, none⟩) ∧ w.cell? ⟨g, 1, none⟩ = some (.map none) := by
  obtain ⟨F, hF, _⟩ := h.head
  rcases hF with h1 | ⟨g, h1, h2⟩
  · exact .inl h1.1
  · refine .inr ⟨g, h1, ?_⟩; unfold World.cell?; rw [h2.1]; rfl
theorem Sep.nack {w0 w : World} {p : Value} {L : List Thing} (h : Sep w0 (NAck p :: L) w) : p = .pointer none ∨ ∃ g : Nat, p = .pointer (some ⟨g, 0, none⟩) ∧ w.cell? ⟨g, 0, none⟩ = some (.int .i64 0) := by
  obtain ⟨F, hF, _⟩ := h.head
  rcases hF with h1 | ⟨g, h1, h2⟩
  · exact .inl h1.1
  · refine .inr ⟨g, h1, ?_⟩; unfold World.cell?; rw [h2.1]; rfl
theorem Sep.ntalNil {w0 w : World} {L : List Thing} (h : Sep w0 L w) : Sep w0 (NTal (.pointer none) :: L) w := (h.say (p := Value.pointer none = .pointer none) rfl).imp (loc_ntal _) fun F hF => .inl hF
theorem Sep.ntalZero {w0 w : World} {g : Nat} {L : List Thing} (h : Sep w0 (ZTal g :: L) w) : Sep w0 (NTal (.pointer (some ⟨g, 0, none⟩)) :: L) w := h.imp (loc_ntal _) fun F hF => .inr ⟨g, rfl, hF⟩
theorem Sep.nackNil {w0 w : World} {L : List Thing} (h : Sep w0 L w) : Sep w0 (NAck (.pointer none) :: L) w := (h.say (p := Value.pointer none = .pointer none) rfl).imp (loc_nack _) fun F hF => .inl hF
theorem Sep.nackZero {w0 w : World} {g : Nat} {L : List Thing} (h : Sep w0 (ZAck g :: L) w) : Sep w0 (NAck (.pointer (some ⟨g, 0, none⟩)) :: L) w := h.imp (loc_nack _) fun F hF => .inr ⟨g, rfl, hF⟩
theorem nt_none {w0 w : World} {p : Value} {L : List Thing} (h : Sep w0 (NTal p :: L) w) :
    Calls Try.prog 30 #[p] w fun e w' => e = .returned (.bool true) ∧ w = w' := by
  rcases h.ntal with rfl | ⟨g, rfl, c1⟩
  · clear h
    go_enter Try.func30, Try.ntmps30
    go_wp2
    go_ret
    exact ⟨rfl, rfl⟩
  · have hq := run_eql_map_nil_nil w Try.underlying61
    clear h
    go_enter Try.func30, Try.ntmps30
    go_wp2
    go_ret
    exact ⟨rfl, rfl⟩
theorem na_none {w0 w : World} {p : Value} {L : List Thing} (h : Sep w0 (NAck p :: L) w) :
    Calls Try.prog 35 #[p] w fun e w' => e = .returned (.bool true) ∧ w = w' := by
  rcases h.nack with rfl | ⟨g, rfl, c1⟩
  · clear h
    go_enter Try.func35, Try.ntmps35
    go_wp2
    go_ret
    exact ⟨rfl, rfl⟩
  · clear h
    go_enter Try.func35, Try.ntmps35
    go_wp2
    go_ret
    exact ⟨rfl, rfl⟩
set_option maxRecDepth 100000 in
theorem nt_add {w0 w : World} {p : Value} {L : List Thing} (x : Bal) (who : Int) (h : Sep w0 (NTal p :: L) w) :
    Calls Try.prog 12 #[p, balV x, .int .i64 who] w fun e w' => e = .returned (.tuple #[.int .i64 0, .int .i64 1]) ∧ Sep w0 (NTal p :: L) w' := by
  have h1 := h.alloc0 (.cells #[.int .i64 x.1.1, .int .i64 x.1.2.1, .int .i64 x.1.2.2.1, .int .i64 x.1.2.2.2.1, .int .i64 x.1.2.2.2.2] 34)
  have H := Lib.hid h1
  clear h h1
  unfold balV
  go_enter Try.func12, Try.ntmps12
  go_wp2_with fail
  refine (nt_none H.out).mono ?_
  rintro r0 w1 ⟨rfl, rfl⟩
  go_wp2_with fail
  go_ret2
  exact ⟨rfl, H.out⟩
set_option maxRecDepth 100000 in
theorem nt_who {w0 w : World} {p : Value} {L : List Thing} (x : Bal) (h : Sep w0 (NTal p :: L) w) :
    Calls Try.prog 16 #[p, balV x] w fun e w' => e = .returned (.slice none 0 0) ∧ Sep w0 (NTal p :: L) w' := by
  have h1 := h.alloc0 (.cells #[.int .i64 x.1.1, .int .i64 x.1.2.1, .int .i64 x.1.2.2.1, .int .i64 x.1.2.2.2.1, .int .i64 x.1.2.2.2.2] 34)
  have H := Lib.hid h1
  clear h h1
  unfold balV
  go_enter Try.func16, Try.ntmps16
  go_wp2_with fail
  refine (nt_none H.out).mono ?_
  rintro r0 w1 ⟨rfl, rfl⟩
  go_wp2_with fail
  go_ret
  exact ⟨rfl, H.out⟩
set_option maxRecDepth 100000 in
theorem nt_len {w0 w : World} {p : Value} {L : List Thing} (h : Sep w0 (NTal p :: L) w) :
    Calls Try.prog 19 #[p] w fun e w' => e = .returned (.int .i64 0) ∧ w = w' := by
  have H := Lib.hid h
  clear h
  go_enter Try.func19, Try.ntmps19
  go_wp2_with fail
  refine (nt_none H.out).mono ?_
  rintro r0 w1 ⟨rfl, rfl⟩
  go_wp2_with fail
  go_ret
  exact ⟨rfl, rfl⟩
set_option maxRecDepth 100000 in
theorem nt_won {w0 w : World} {p : Value} {L : List Thing} (h : Sep w0 (NTal p :: L) w) :
    Calls Try.prog 14 #[p] w fun e w' => e = .returned (.tuple #[.agg #[.int .i64 0, .int .i64 0, .int .i64 0, .int .i64 0, .int .i64 0], .bool false]) ∧ Sep w0 (NTal p :: L) w' := by
  obtain ⟨bb, hbb⟩ : ∃ k, k = w.heap.size := ⟨_, rfl⟩
  obtain ⟨wa, hwa⟩ : ∃ k, k = w.alloc (.cells #[.int .i64 0, .int .i64 0, .int .i64 0, .int .i64 0, .int .i64 0] 34) := ⟨_, rfl⟩
  have h1 : Sep w0 (Cl w.heap.size (cellsB balZ) 34 :: NTal p :: L) (w.alloc (.cells #[.int .i64 0, .int .i64 0, .int .i64 0, .int .i64 0, .int .i64 0] 34)) := h.alloc (.cells #[.int .i64 0, .int .i64 0, .int .i64 0, .int .i64 0, .int .i64 0] 34)
  rw [← hbb, ← hwa] at h1
  have H := Lib.hid h1
  have f0 := h1.frozen 0
  have f1 := h1.frozen 1
  have f2 := h1.frozen 2
  have f3 := h1.frozen 3
  have f4 := h1.frozen 4
  obtain ⟨c0, c1, c2, c3, c4⟩ := bal_cells h1
  have hz : Sep w0 (Cl bb (cellsB balZ) 34 :: _) _ := bal_store (x := balZ) h1
  obtain ⟨k0, k1, k2, k3, k4⟩ := bal_cells hz
  have HZ := Lib.hid hz.drop
  simp only [balZ] at c0 c1 c2 c3 c4 k0 k1 k2 k3 k4 HZ
  clear h h1 hz
  go_enter Try.func14, Try.ntmps14
  go_wp2_with fail
  rw [← hwa, ← hbb]
  clear hwa hbb
  refine (nt_none H.out.sw2).mono ?_
  rintro r0 w1 ⟨rfl, rfl⟩
  go_wp2_with fail
  exact bodyPost_ret (v := .tuple #[.agg #[.int .i64 0, .int .i64 0, .int .i64 0, .int .i64 0, .int .i64 0], .bool false]) (by simp [results, Try.results14, go_sem, k0, k1, k2, k3, k4]) rfl ⟨rfl, HZ.out⟩
set_option maxRecDepth 100000 in
theorem na_note {w0 w : World} {p : Value} {L : List Thing} (who op : Int) (h : Sep w0 (NAck p :: L) w) :
    Calls Try.prog 23 #[p, .int .i64 who, .int .i64 op] w fun e w' => e = .returned (.int .i64 1) ∧ w = w' := by
  have H := Lib.hid h
  clear h
  go_enter Try.func23, Try.ntmps23
  go_wp2_with fail
  refine (na_none H.out).mono ?_
  rintro r0 w1 ⟨rfl, rfl⟩
  go_wp2_with fail
  go_ret
  exact ⟨rfl, rfl⟩
set_option maxRecDepth 100000 in
theorem na_of {w0 w : World} {p : Value} {L : List Thing} (who : Int) (h : Sep w0 (NAck p :: L) w) :
    Calls Try.prog 27 #[p, .int .i64 who] w fun e w' => e = .returned (.int .i64 0) ∧ w = w' := by
  have H := Lib.hid h
  clear h
  go_enter Try.func27, Try.ntmps27
  go_wp2_with fail
  refine (na_none H.out).mono ?_
  rintro r0 w1 ⟨rfl, rfl⟩
  go_wp2_with fail
  go_ret
  exact ⟨rfl, rfl⟩
set_option maxRecDepth 100000 in
theorem na_sure {w0 w : World} {p : Value} {L : List Thing} (h : Sep w0 (NAck p :: L) w) :
    Calls Try.prog 25 #[p] w fun e w' => e = .returned (.int .i64 0) ∧ w = w' := by
  have H := Lib.hid h
  clear h
  go_enter Try.func25, Try.ntmps25
  go_wp2_with fail
  refine (na_none H.out).mono ?_
  rintro r0 w1 ⟨rfl, rfl⟩
  go_wp2_with fail
  go_ret
  exact ⟨rfl, rfl⟩
end Go.Proofs.Ytidbniigfkocpaa
