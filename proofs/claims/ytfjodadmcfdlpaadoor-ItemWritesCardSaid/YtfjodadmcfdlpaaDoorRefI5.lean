/- The document's own item: Copy, CheckRes. -/
import Derived.Test.YtfjodadmcfdlpaaDoorRefI4
import Derived.Test.YtfjodadmcfdlpaaDoorItem10
import Derived.Test.YtfjodadmcfdlpaaDoorRes
namespace Go.Proofs.YtfjodadmcfdlpaaDoor
open Go.RowKit
set_option linter.unusedVariables false
set_option linter.unusedSimpArgs false
set_option maxRecDepth 100000 in
set_option maxHeartbeats 4000000 in
theorem rcopy_any {w0 w : World} {L : List Thing} (k : Int) (s : KS) (o n : Int) (v : Value) (ls : List Ln) (h : Sep w0 L w) (hv : LnS w v ls) (hl : ls.length ≤ 1000) :
    Calls Tryd.prog 24 #[.agg #[.int .i64 k, .string s.1, .int .i64 o, .int .i64 n, v]] w fun e w' => ∃ u, e = .returned (.agg #[.int .i64 k, .string s.1, .int .i64 o, .int .i64 n, u]) ∧ Sep w0 (LnR u ls :: L) w' := by
  obtain ⟨a, c, rfl⟩ := hv.len
  have h1 := (h.alloc (.cells (opCells k s o n (.slice a ls.length c)) 24)).alloc (.cells opZ 24)
  have hlow : Below w.heap.size w ((w.alloc (.cells (opCells k s o n (.slice a ls.length c)) 24)).alloc (.cells opZ 24)) := ((Below.refl _ w).alloc (Nat.le_refl _) _).alloc (by simp) _
  rw [show (w.alloc (.cells (opCells k s o n (.slice a ls.length c)) 24)).heap.size = w.heap.size + 1 by simp] at h1
  obtain ⟨v', w1, hr, h2, -⟩ := append_ln 22 (h1.rnNil 2 39 (w0 := w0)) (ls := []) (hv.below hlow) (by simp; omega)
  rw [List.nil_append] at h2
  obtain ⟨a2, c2, rfl, -⟩ := h2.rnForm
  unfold opCells opZ at *
  have HR := Lib.hid hr
  have f4 := (frz5 h2.sw3).2.2.2.2
  have b4 := (cells5 h2.sw3).2.2.2.2
  have h3 : Sep w0 (Cl w.heap.size #[.int .i64 k, .string s.1, .int .i64 o, .int .i64 n, .slice a2 ls.length c2] 24 :: LnR (.slice a2 ls.length c2) ls :: Cl (w.heap.size + 1) #[.int .i64 0, .string ⟨#[]⟩, .int .i64 0, .int .i64 0, .slice none 0 0] 24 :: L) (w1.setCell ⟨w.heap.size, 4, none⟩ (.slice a2 ls.length c2)) := h2.sw3.setCell 4 _
  obtain ⟨c0, c1, c2', c3, c4⟩ := cells5 h3
  obtain ⟨g0, g1, g2, g3, g4⟩ := frz5 h3.sw3
  obtain ⟨z0, z1, z2, z3, z4⟩ := cells5 h3.sw3
  have h4 := store5 (u0 := .int .i64 k) (u1 := .string s.1) (u2 := .int .i64 o) (u3 := .int .i64 n) (u4 := .slice a2 ls.length c2) h3.sw3
  obtain ⟨k0, k1, k2, k3, k4⟩ := cells5 h4
  have H4 := Lib.hid h4.drop.drop
  clear h h1 h2 h3 h4 hv hlow hr
  go_enter Tryd.func24, Tryd.ntmps24
  go_wp2_with (at_builtin; refine wpList_append_run rfl _ _ _ _ rfl rfl rfl HR.out ?_)
  exact bodyPost_ret (v := .agg #[.int .i64 k, .string s.1, .int .i64 o, .int .i64 n, .slice a2 ls.length c2]) (by simp [results, Tryd.results24, go_sem, k0, k1, k2, k3, k4]) rfl ⟨_, rfl, H4.out⟩
theorem resB_eq (k a b : Int) : resB k a b = (wthB k 0 6 && wthB a 0 2147483647 && wthB b 0 2147483647) := by
  unfold resB wthB
  rw [Bool.eq_iff_iff]
  simp only [decide_eq_true_eq, Bool.and_eq_true]
  omega
set_option maxHeartbeats 4000000 in
theorem rres_any {w0 w : World} {L : List Thing} (k a b : Int) (h : Sep w0 L w) :
    Calls Tryd.prog 18 #[.agg #[.int .i64 k, .int .i64 a, .int .i64 b]] w fun e w' => e = .returned (.int .i64 (okE (resB k a b))) ∧ Sep w0 L w' := by
  have H1 := Lib.hid (h.alloc0 (.cells #[.int .i64 k, .int .i64 a, .int .i64 b] 26))
  have HK := Lib.hid (fun wx => within_any k 0 6 wx)
  have HA := Lib.hid (fun wx => within_any a 0 2147483647 wx)
  have HB := Lib.hid (fun wx => within_any b 0 2147483647 wx)
  rw [resB_eq]
  clear h
  cases e1 : wthB k 0 6 with
  | false =>
    rw [e1] at HK
    clear e1
    go_enter Tryd.func18, Tryd.ntmps18
    go_wp2_with ((with_reducible refine (HK.out _).mono ?_); rintro r9 w9 ⟨rfl, rfl⟩)
    go_ret
    exact ⟨rfl, H1.out⟩
  | true =>
    rw [e1] at HK
    clear e1
    cases e2 : wthB a 0 2147483647 with
    | false =>
      rw [e2] at HA
      clear e2
      go_enter Tryd.func18, Tryd.ntmps18
      go_wp2_with (first | ((with_reducible refine (HK.out _).mono ?_); rintro r9 w9 ⟨rfl, rfl⟩) | ((with_reducible refine (HA.out _).mono ?_); rintro r9 w9 ⟨rfl, rfl⟩))
      go_ret
      exact ⟨rfl, H1.out⟩
    | true =>
      rw [e2] at HA
      clear e2
      cases e3 : wthB b 0 2147483647 with
      | false =>
        rw [e3] at HB
        clear e3
        go_enter Tryd.func18, Tryd.ntmps18
        go_wp2_with (first | ((with_reducible refine (HK.out _).mono ?_); rintro r9 w9 ⟨rfl, rfl⟩) | ((with_reducible refine (HA.out _).mono ?_); rintro r9 w9 ⟨rfl, rfl⟩) | ((with_reducible refine (HB.out _).mono ?_); rintro r9 w9 ⟨rfl, rfl⟩))
        go_ret
        exact ⟨rfl, H1.out⟩
      | true =>
        rw [e3] at HB
        clear e3
        go_enter Tryd.func18, Tryd.ntmps18
        go_wp2_with (first | ((with_reducible refine (HK.out _).mono ?_); rintro r9 w9 ⟨rfl, rfl⟩) | ((with_reducible refine (HA.out _).mono ?_); rintro r9 w9 ⟨rfl, rfl⟩) | ((with_reducible refine (HB.out _).mono ?_); rintro r9 w9 ⟨rfl, rfl⟩))
        go_ret
        exact ⟨rfl, H1.out⟩
end Go.Proofs.YtfjodadmcfdlpaaDoor
