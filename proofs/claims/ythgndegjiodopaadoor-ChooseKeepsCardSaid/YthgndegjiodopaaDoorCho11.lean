/- Stage 18's laws: row, offer. -/
import Derived.Test.YthgndegjiodopaaDoorCho10
namespace Go.Proofs.YthgndegjiodopaaDoor
open Go Go.RowKit
set_option linter.unusedVariables false
set_option linter.unusedSimpArgs false
def aK : KS := ⟨⟨#[97]⟩, by decide⟩
/-- One of the laws' entries: its number. -/
def skE (z : Int) : EnM := ⟨1, z, ⟨8, aK, 0, 0, []⟩⟩
def rowP (k : Nat) : List (EnM × Value) := (List.range k).map fun (i : Nat) => (skE ((i : Int) + 1), .slice none 0 0)
theorem rowP_len (k : Nat) : (rowP k).length = k := by simp [rowP]
theorem rowP_succ (k : Nat) : rowP (k + 1) = rowP k ++ [(skE ((k : Int) + 1), .slice none 0 0)] := by simp [rowP, List.range_succ]
theorem skE_ok (z : Int) (h0 : 1 ≤ z) (h1 : z ≤ 2147483647) : (skE z).ok = true := by
  have h2 : (skE z).hd = true := decide_eq_true ⟨by show (0 : Int) ≤ 1; omega, by show (1 : Int) < 8; omega, h0, h1⟩
  unfold EnM.ok
  rw [h2]
  show OpM.ok ⟨8, aK, 0, 0, []⟩ = true
  kernel_rfl
theorem built7s (z : Int) : Tryd.prog.built 47 [(0, .int .i64 1), (1, .int .i64 z), (2, .agg #[.int .i64 8, .string ⟨#[97]⟩, .int .i64 0, .int .i64 0, .slice none 0 0])] = some #[.int .i64 1, .int .i64 z, .int .i64 8, .string ⟨#[97]⟩, .int .i64 0, .int .i64 0, .slice none 0 0] := by kernel_rfl
set_option maxRecDepth 100000 in
set_option maxHeartbeats 4000000 in
theorem row_w {w0 w : World} {L : List Thing} (n : Nat) (h : Sep w0 L w) (hn : n ≤ 1000) :
    Calls Tryd.prog 16 #[.int .i64 n] w fun e w' => ∃ u, e = .returned u ∧ Sep w0 (EnT u (rowP n) :: L) w' := by
  have H := Lib.hid (Sep.enNil h)
  have n1 : (n : Int) ≤ 1000 := by omega
  clear h
  go_enter Tryd.func16, Tryd.ntmps16
  (try dsimp only); repeat' (first | go_values | go_skip | go_guarded | go_step | go_upon | go_back)
  go_loopw [3, 4] (fun pv i wr => ∃ (k : Nat) (av : Option Addr) (cv : Nat), k ≤ n ∧ i = .int .i64 k ∧ pv = .slice av k cv ∧ Sep w0 (EnT pv (rowP k) :: L) wr) (fun _ i _ => n - (intOf i).toNat)
  case atStart => exact ⟨0, none, 0, by omega, rfl, rfl, H.out⟩
  case round =>
    obtain ⟨k, av, cv, hk, rfl, rfl, hs⟩ := hrel
    clear H
    have k0 : (0 : Int) ≤ (k : Int) := by omega
    by_cases hkn : k < n
    · have hd : decide ((k : Int) < (n : Int)) = true := decide_eq_true (by omega)
      have hd' : decide (k < n) = true := decide_eq_true hkn
      have k1 : (k : Int) < (n : Int) := by omega
      have h4 := hs.alloc (.cells (enC (skE ((k : Int) + 1)) (.slice none 0 0)) 47)
      obtain ⟨a9, c9, w9, hr, h9⟩ := append_en (ty := 29) (Sep.pickL (M := [_, _, _]) (h4.rnNil 2 84) [1, 2, 0] rfl) rfl (by rw [rowP_len]; omega)
      rw [rowP_len] at hr h9
      rw [← rowP_succ] at h9
      have HR := Lib.hid hr
      have H9 := Lib.hid h9
      have HKN := Lib.hid hkn
      unfold enC skE at HR
      dsimp only at HR
      clear hs h4 hr h9 hk hkn
      (try dsimp only); repeat' (first | (at_builtin; refine stopP ?_) | go_values | go_skip | go_guarded | go_step | go_upon | go_back)
      unfold StopP
      refine wpList_append_r rfl _ _ _ _ rfl rfl rfl HR.out ?_
      (try dsimp only); repeat' (first | go_values | go_skip | go_guarded | go_step | go_upon | go_back)
      go_roundw
      case rel => exact ⟨k + 1, a9, c9, by have := HKN.out; omega, by go_num, rfl, H9.out⟩
      case measure => have := HKN.out; simp [intOf]; omega
    · have hd : decide ((k : Int) < (n : Int)) = false := decide_eq_false (by omega)
      have hd' : decide (k < n) = false := decide_eq_false hkn
      have hkn' : k = n := by omega
      subst hkn'
      have HF := Lib.hid hs
      clear hs hk hkn
      (try dsimp only); repeat' (first | go_values | go_skip | go_guarded | go_step | go_upon | go_back)
      go_ret
      exact ⟨_, rfl, HF.out⟩
def offM (fr la : Int) (n : Nat) (co : Int) (v : Value) (ps : List (EnM × Value)) : OvM := ⟨fr, la, 0, co, v, ps⟩
set_option maxRecDepth 100000 in
set_option maxHeartbeats 4000000 in
theorem offer_any {w0 w : World} {L : List Thing} (fr la co : Int) (n : Nat) (h : Sep w0 L w) (hn : n ≤ 1000) :
    Calls Tryd.prog 19 #[.int .i64 fr, .int .i64 la, .int .i64 n, .int .i64 co] w fun e w' => ∃ a c, e = .returned (ovV ⟨fr, la, 0, co, .slice a n c, rowP n⟩) ∧ Sep w0 (EnT (.slice a n c) (rowP n) :: L) w' := by
  have h1 := h.alloc (.cells #[.int .i64 0, .int .i64 0, .int .i64 0, .slice none 0 0, .slice none 0 0, .int .i64 0] 33)
  have HR := Lib.hid (row_w n h1 hn)
  obtain ⟨b8, hb8⟩ : ∃ q, q = w.heap.size := ⟨_, rfl⟩
  rw [← hb8] at HR
  clear h h1 hn
  unfold ovV ovC
  dsimp only
  go_enter Tryd.func19, Tryd.ntmps19
  (try dsimp only); repeat' (first | go_values | go_skip | go_guarded | go_step | go_upon | go_back)
  rw [← hb8]
  clear hb8
  refine HR.out.mono ?_
  rintro r0 w1 ⟨u, rfl, h2⟩
  obtain ⟨a, c, rfl, -⟩ := h2.enForm
  rw [rowP_len] at h2 ⊢
  have HTH := Lib.hid (Sep.thereAt h2.sw2 0 6 (Nat.le_refl 6))
  have h3 := Sep.storeW h2.sw2 #[.int .i64 fr, .int .i64 la, .int .i64 0, .slice none 0 0, .slice a n c, .int .i64 co] rfl
  have HV := Lib.hid (h3.loadV 33 Tryd.underlying33 rfl (by kernel_rfl))
  have HF := Lib.hid h3.drop
  clear HR h2 h3
  (try dsimp only); repeat' (first | (with_reducible show wpList _ _ _ (Oper.mk _ (Op.store 33 _ _) _ _ _ _ :: _) _ _; refine stopP ?_) | go_values | go_skip | go_guarded | go_step | go_upon | go_back)
  unfold StopP
  refine wpList_store_mid rfl 33 (.tmp 8) (.tmp 15) rfl b8 0 #[.int .i64 fr, .int .i64 la, .int .i64 0, .slice none 0 0, .slice a n c, .int .i64 co] rfl rfl HTH.out (by kernel_rfl) (by kernel_rfl) ?_
  (try dsimp only); repeat' (first | go_values | go_skip | go_guarded | go_step | go_upon | go_back)
  exact bodyPost_ret (results_cell rfl rfl HV.out) rfl ⟨a, c, rfl, HF.out⟩
end Go.Proofs.YthgndegjiodopaaDoor
