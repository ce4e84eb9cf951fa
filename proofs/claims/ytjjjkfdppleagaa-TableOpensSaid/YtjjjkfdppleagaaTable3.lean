/- A client's seat. -/
import Derived.Test.YtjjjkfdppleagaaTable2
import Derived.Deep.RegionHeld3
namespace Go.Proofs.Ytjjjkfdppleagaa
open Go.RowKit
set_option linter.unusedVariables false
set_option linter.unusedSimpArgs false
def SW.zero : SW := ⟨false, 0, 0, 0, 0, 0, 0⟩
def SW.val (s : SW) : Value := .agg #[.int .i64 s.c, .int .i64 s.n, .int .i64 s.o, .int .i64 s.k, .int .i64 s.a, .int .i64 s.b]
def seatAt (T : List SW) (c : Int) : SW := if clientB c = true then T.getD c.toNat SW.zero else SW.zero
theorem clientB_nat {c : Int} (h : clientB c = true) : ∃ i : Nat, c = i ∧ i < 8 := by
  have h1 := of_decide_eq_true h
  exact ⟨c.toNat, by omega, by omega⟩
/-- A seat's cells, as the walk reckons their places. -/
theorem Sep.seat7 {w0 w : World} {g : Nat} {T : List SW} {L : List Thing} (h : Sep w0 (TabT g T :: L) w) (i : Nat) (s : SW) (hs : T[i]? = some s) :
    w.cell? ⟨g, 1 + i * 7, none⟩ = some (.bool s.had) ∧ w.cell? ⟨g, 1 + i * 7 + 1, none⟩ = some (.int .i64 s.c) ∧ w.cell? ⟨g, 1 + i * 7 + 2, none⟩ = some (.int .i64 s.n) ∧ w.cell? ⟨g, 1 + i * 7 + 3, none⟩ = some (.int .i64 s.o) ∧
      w.cell? ⟨g, 1 + i * 7 + 4, none⟩ = some (.int .i64 s.k) ∧ w.cell? ⟨g, 1 + i * 7 + 5, none⟩ = some (.int .i64 s.a) ∧ w.cell? ⟨g, 1 + i * 7 + 6, none⟩ = some (.int .i64 s.b) := by
  obtain ⟨hi, rfl⟩ := List.getElem?_eq_some_iff.1 hs
  have q := fun j hj v hv => h.seat i hi j hj v hv
  simp only [← Nat.add_assoc] at q
  exact ⟨q 0 (by decide) _ rfl, q 1 (by decide) _ rfl, q 2 (by decide) _ rfl, q 3 (by decide) _ rfl, q 4 (by decide) _ rfl, q 5 (by decide) _ rfl, q 6 (by decide) _ rfl⟩
set_option maxHeartbeats 2000000 in
theorem find_any {w0 w : World} {g : Nat} {T : List SW} {L : List Thing} (c : Int) (h : Sep w0 (TabT g T :: L) w) (hT : T.length = 8) :
    Calls Try.prog 14 #[.pointer (some ⟨g, 0, none⟩), .int .i64 c] w fun e w' => e = .returned (.tuple #[(seatAt T c).val, .bool (seatAt T c).had]) ∧ Sep w0 (TabT g T :: L) w' := by
  have hx := h.alloc (.cells #[.int .i64 0, .int .i64 0, .int .i64 0, .int .i64 0, .int .i64 0, .int .i64 0] 31)
  have HN := Lib.hid (tnone_any hx.sw2)
  have HC := Lib.hid (client_any c (w.alloc (.cells #[.int .i64 0, .int .i64 0, .int .i64 0, .int .i64 0, .int .i64 0, .int .i64 0] 31)))
  cases hc : clientB c
  · have hs : seatAt T c = SW.zero := by unfold seatAt; rw [hc]; rfl
    rw [hs]
    rw [hc] at HC
    have HF := Lib.hid hx.drop
    clear hc hs h hx
    go_enter Try.func14, Try.ntmps14
    go_wp2_with fail
    refine HN.out.mono ?_
    rintro r0 w1 ⟨rfl, rfl⟩
    go_wp2_with fail
    refine HC.out.mono ?_
    rintro r0 w1 ⟨rfl, rfl⟩
    go_wp2_with fail
    exact bodyPost_ret (v := .tuple #[SW.zero.val, .bool SW.zero.had]) (by simp [results, Try.results14, go_sem, SW.val, SW.zero]) rfl ⟨rfl, HF.out⟩
  · obtain ⟨i, rfl, hi⟩ := clientB_nat hc
    have hlt : i < T.length := by omega
    have hs : seatAt T i = T[i] := by unfold seatAt; rw [hc, if_pos rfl]; simp [List.getD_eq_getElem?_getD, hlt]
    rw [hs]
    rw [hc] at HC
    obtain ⟨s, hse⟩ : ∃ s, s = T[i] := ⟨_, rfl⟩
    rw [← hse]
    obtain ⟨q0, q1, q2, q3, q4, q5, q6⟩ := hx.sw2.seat7 i s (by rw [hse]; exact List.getElem?_eq_getElem hlt)
    have HX := Lib.hid hx
    have i0 : (0 : Int) ≤ (i : Int) := by omega
    have i8 : (i : Int) < 8 := by omega
    clear hc hs h hx hse
    go_enter Try.func14, Try.ntmps14
    go_wp2_with fail
    refine HN.out.mono ?_
    rintro r0 w1 ⟨rfl, rfl⟩
    go_wp2_with fail
    refine HC.out.mono ?_
    rintro r0 w1 ⟨rfl, rfl⟩
    go_wp2_with fail
    have hy := HX.out.alloc (.cells #[.bool s.had, .int .i64 s.c, .int .i64 s.n, .int .i64 s.o, .int .i64 s.k, .int .i64 s.a, .int .i64 s.b] 33)
    obtain ⟨bz, hbz⟩ : ∃ x, x = w.heap.size := ⟨_, rfl⟩
    rw [show (w.alloc (.cells #[.int .i64 0, .int .i64 0, .int .i64 0, .int .i64 0, .int .i64 0, .int .i64 0] 31)).heap.size = w.heap.size + 1 by simp] at hy
    rw [← hbz] at hy ⊢
    have r0 : ∀ j v, (#[Value.bool s.had, .int .i64 s.c, .int .i64 s.n, .int .i64 s.o, .int .i64 s.k, .int .i64 s.a, .int .i64 s.b])[j]? = some v → ((w.alloc (.cells #[.int .i64 0, .int .i64 0, .int .i64 0, .int .i64 0, .int .i64 0, .int .i64 0] 31)).alloc (.cells #[.bool s.had, .int .i64 s.c, .int .i64 s.n, .int .i64 s.o, .int .i64 s.k, .int .i64 s.a, .int .i64 s.b] 33)).cell? ⟨bz + 1, j, none⟩ = some v := fun j v hv => hy.cell hv
    have z0 : ∀ j v, (#[Value.int .i64 0, .int .i64 0, .int .i64 0, .int .i64 0, .int .i64 0, .int .i64 0])[j]? = some v → ((w.alloc (.cells #[.int .i64 0, .int .i64 0, .int .i64 0, .int .i64 0, .int .i64 0, .int .i64 0] 31)).alloc (.cells #[.bool s.had, .int .i64 s.c, .int .i64 s.n, .int .i64 s.o, .int .i64 s.k, .int .i64 s.a, .int .i64 s.b] 33)).cell? ⟨bz, j, none⟩ = some v := fun j v hv => hy.sw2.cell hv
    obtain ⟨wy, hwy⟩ : ∃ x, x = ((w.alloc (.cells #[.int .i64 0, .int .i64 0, .int .i64 0, .int .i64 0, .int .i64 0, .int .i64 0] 31)).alloc (.cells #[.bool s.had, .int .i64 s.c, .int .i64 s.n, .int .i64 s.o, .int .i64 s.k, .int .i64 s.a, .int .i64 s.b] 33)) := ⟨_, rfl⟩
    rw [← hwy] at hy r0 z0 ⊢
    have m0 : wy.cell? ⟨bz + 1, 0, none⟩ = some (.bool s.had) := r0 0 _ rfl
    have m1 : wy.cell? ⟨bz + 1, 1, none⟩ = some (.int .i64 s.c) := r0 1 _ rfl
    have m2 : wy.cell? ⟨bz + 1, 2, none⟩ = some (.int .i64 s.n) := r0 2 _ rfl
    have m3 : wy.cell? ⟨bz + 1, 3, none⟩ = some (.int .i64 s.o) := r0 3 _ rfl
    have m4 : wy.cell? ⟨bz + 1, 4, none⟩ = some (.int .i64 s.k) := r0 4 _ rfl
    have m5 : wy.cell? ⟨bz + 1, 5, none⟩ = some (.int .i64 s.a) := r0 5 _ rfl
    have m6 : wy.cell? ⟨bz + 1, 6, none⟩ = some (.int .i64 s.b) := r0 6 _ rfl
    have y0 : wy.cell? ⟨bz, 0, none⟩ = some (.int .i64 0) := z0 0 _ rfl
    have y1 : wy.cell? ⟨bz, 1, none⟩ = some (.int .i64 0) := z0 1 _ rfl
    have y2 : wy.cell? ⟨bz, 2, none⟩ = some (.int .i64 0) := z0 2 _ rfl
    have y3 : wy.cell? ⟨bz, 3, none⟩ = some (.int .i64 0) := z0 3 _ rfl
    have y4 : wy.cell? ⟨bz, 4, none⟩ = some (.int .i64 0) := z0 4 _ rfl
    have y5 : wy.cell? ⟨bz, 5, none⟩ = some (.int .i64 0) := z0 5 _ rfl
    have f0 := hy.sw2.frozen 0
    have f1 := hy.sw2.frozen 1
    have f2 := hy.sw2.frozen 2
    have f3 := hy.sw2.frozen 3
    have f4 := hy.sw2.frozen 4
    have f5 := hy.sw2.frozen 5
    have HY := Lib.hid hy
    clear hy r0 z0 hwy hbz HX q0 q1 q2 q3 q4 q5 q6 HN HC
    go_region_held3 (fun w' => w'.cell? ⟨bz + 1, 0, none⟩ = some (.bool s.had) ∧ w'.cell? ⟨bz + 1, 1, none⟩ = some (.int .i64 s.c) ∧ w'.cell? ⟨bz + 1, 2, none⟩ = some (.int .i64 s.n) ∧ w'.cell? ⟨bz + 1, 3, none⟩ = some (.int .i64 s.o) ∧ w'.cell? ⟨bz + 1, 4, none⟩ = some (.int .i64 s.k) ∧ w'.cell? ⟨bz + 1, 5, none⟩ = some (.int .i64 s.a) ∧ w'.cell? ⟨bz + 1, 6, none⟩ = some (.int .i64 s.b)) (go_keep) (fail)
    go_wp2_with fail
    have hz := (((((HY.out.sw2.setCell 0 (.int .i64 s.c)).setCell 1 (.int .i64 s.n)).setCell 2 (.int .i64 s.o)).setCell 3 (.int .i64 s.k)).setCell 4 (.int .i64 s.a)).setCell 5 (.int .i64 s.b)
    have k0 := hz.cell (o := 0) (x := .int .i64 s.c) rfl
    have k1 := hz.cell (o := 1) (x := .int .i64 s.n) rfl
    have k2 := hz.cell (o := 2) (x := .int .i64 s.o) rfl
    have k3 := hz.cell (o := 3) (x := .int .i64 s.k) rfl
    have k4 := hz.cell (o := 4) (x := .int .i64 s.a) rfl
    have k5 := hz.cell (o := 5) (x := .int .i64 s.b) rfl
    exact bodyPost_ret (v := .tuple #[s.val, .bool s.had]) (by simp [results, Try.results14, go_sem, SW.val, k0, k1, k2, k3, k4, k5]) rfl ⟨rfl, hz.drew.drop.drop⟩
end Go.Proofs.Ytjjjkfdppleagaa
