/- Package choose: Choose, when too few have made offers. -/
import Derived.Test.YthgndegjiodopaaDoorCho12
namespace Go.Proofs.YthgndegjiodopaaDoor
open Go Go.RowKit
set_option linter.unusedVariables false
set_option linter.unusedSimpArgs false
set_option maxRecDepth 100000 in
set_option maxHeartbeats 4000000 in
theorem oChoose_few {w0 w : World} {g b : Nat} {view : Int} {m : Nat} {xs : List OvM} {L : List Thing} (h : Sep w0 (OffT g b m view xs :: L) w) (hm : m ≤ 15) (hen : ¬ enough m ≤ (xs.length : Nat)) :
    Calls Tryd.prog 17 #[.pointer (some ⟨g, 0, none⟩)] w fun e w' => e = .returned (.tuple #[.agg #[.int .i64 0, .slice none 0 0, .slice none 0 0, .int .i64 0], .int .i64 0, .int .i64 110]) ∧ Sep w0 (OffT g b m view xs :: L) w' := by
  have h1 := h.offOpen.alloc (.cells #[.int .i64 0, .slice none 0 0, .slice none 0 0, .int .i64 0] 31)
  have h1' := Sep.pickL (M := [_, _, _]) h1 [1, 2, 0] rfl
  have HN := Lib.hid (onone_any h1.sw2)
  have he := oenough_any h1' ⟨by omega, by omega⟩
  rw [show decide (enough m ≤ ((offS (m : Int) xs).length : Nat)) = false from decide_eq_false (by unfold offS; rw [List.length_map]; exact hen)] at he
  have HE := Lib.hid he
  obtain ⟨b2, hb2⟩ : ∃ q, q = w.heap.size := ⟨_, rfl⟩
  obtain ⟨W, hW⟩ : ∃ q, q = w.alloc (.cells #[.int .i64 0, .slice none 0 0, .slice none 0 0, .int .i64 0] 31) := ⟨_, rfl⟩
  rw [← hW, ← hb2] at HE
  rw [← hW] at HN
  clear h h1 h1' he hen hm
  go_enter Tryd.func17, Tryd.ntmps17
  (try dsimp only); repeat' (first | go_values | go_skip | go_guarded | go_step | go_upon | go_back)
  rw [← hW, ← hb2]
  clear hW hb2
  refine HN.out.mono ?_
  rintro r0 w1 ⟨rfl, rfl⟩
  (try dsimp only); repeat' (first | go_values | go_skip | go_guarded | go_step | go_upon | go_back)
  refine HE.out.mono ?_
  rintro r0 w2 ⟨rfl, h2⟩
  clear HN HE
  have h3 := Sep.pickL (M := [_, _, _]) h2 [2, 0, 1] rfl
  have HTH := Lib.hid (Sep.thereAt h3 0 4 (Nat.le_refl 4))
  have h4 := Sep.storeW h3 #[.int .i64 0, .slice none 0 0, .slice none 0 0, .int .i64 0] rfl
  have HR := Lib.hid (h4.loadV 31 Tryd.underlying31 rfl (by kernel_rfl))
  have HF := Lib.hid (Sep.offClose h4.drop)
  clear h2 h3 h4
  (try dsimp only); repeat' (first | (with_reducible show wpList _ _ _ (Oper.mk _ (Op.store 31 _ _) _ _ _ _ :: _) _ _; refine stopP ?_) | go_values | go_skip | go_guarded | go_step | go_upon | go_back)
  unfold StopP
  refine wpList_store_mid rfl 31 (.tmp 2) (.tmp 14) rfl b2 0 #[.int .i64 0, .slice none 0 0, .slice none 0 0, .int .i64 0] rfl rfl HTH.out (by kernel_rfl) (by kernel_rfl) ?_
  (try dsimp only); repeat' (first | go_values | go_skip | go_guarded | go_step | go_upon | go_back)
  exact bodyPost_ret (results_cell3 (x := .int .i64 0) (x2 := .int .i64 110) rfl rfl HR.out rfl rfl) rfl ⟨rfl, HF.out⟩
end Go.Proofs.YthgndegjiodopaaDoor
