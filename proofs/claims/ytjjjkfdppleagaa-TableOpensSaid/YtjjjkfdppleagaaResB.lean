/- Package item: BytesRes, where the rest of the package lacks. -/
import Derived.Test.YtjjjkfdppleagaaBkB
import Derived.Test.YtjjjkfdppleagaaBkD
import Derived.Deep.RegionLaw
namespace Go.Proofs.Ytjjjkfdppleagaa
open Go.RowKit
set_option linter.unusedVariables false
set_option linter.unusedSimpArgs false
theorem byte1 {k : Int} (h0 : 0 ≤ k) (h9 : k ≤ 9) : #[Value.int .u8 k].toList = bv [UInt8.ofNat k.toNat] := by
  obtain ⟨j, rfl⟩ : ∃ j : Nat, k = j := ⟨k.toNat, by omega⟩
  simp [bv, UInt8.toNat_ofNat']
  omega
theorem vint_conv {w0 w : World} {L : List Thing} (v : Value) (l : List UInt8) (n : Int) (h : Sep w0 (By v l :: L) w) (hn : 0 ≤ n) (hn2 : n ≤ 9007199254740991) (hl : l.length ≤ 1099511627) :
    Calls Try.prog 43 #[v, .int .u64 n] w fun e w' => ∃ v', e = .returned v' ∧ Sep w0 (By v' (l ++ vint n.toNat) :: L) w' := by
  obtain ⟨u, rfl⟩ : ∃ u : Nat, n = u := ⟨n.toNat, by omega⟩
  exact varint_sep v l u w h.drop h.sl (by unfold U64; omega) (by omega)
theorem cells3 {w0 w : World} {b : Nat} {v0 v1 v2 : Value} {t : TypeId} {L : List Thing} (h : Sep w0 (Cl b #[v0, v1, v2] t :: L) w) :
    w.cell? ⟨b, 0, none⟩ = some v0 ∧ w.cell? ⟨b, 1, none⟩ = some v1 ∧ w.cell? ⟨b, 2, none⟩ = some v2 := ⟨h.cell rfl, h.cell rfl, h.cell rfl⟩
def resBs (c a b : Int) : List UInt8 := [UInt8.ofNat c.toNat] ++ vint a.toNat ++ vint b.toNat
theorem rc {w0 w : World} {bq : Nat} {c a b : Int} {L : List Thing} (h : Sep w0 (Cl bq #[.int .i64 c, .int .i64 a, .int .i64 b] 29 :: L) w) : w.cell? ⟨bq, 0, none⟩ = some (.int .i64 c) ∧ w.cell? ⟨bq, 1, none⟩ = some (.int .i64 a) ∧ w.cell? ⟨bq, 2, none⟩ = some (.int .i64 b) := cells3 h
set_option maxRecDepth 100000 in
set_option maxHeartbeats 1000000 in
theorem bytesRes_bad {w0 w : World} {L : List Thing} (c a b : Int) (h : Sep w0 L w) (hb : resB c a b = false) :
    Calls Try.prog 42 #[.agg #[.int .i64 c, .int .i64 a, .int .i64 b]] w fun e w' => e = .returned (.tuple #[.slice none 0 0, .int .i64 2]) ∧ Sep w0 L w' := by
  have h1 := h.alloc (.cells #[.int .i64 c, .int .i64 a, .int .i64 b] 29)
  obtain ⟨c0, c1, c2⟩ := rc h1
  have HC := Lib.hid (res_any c a b (w.alloc (.cells #[.int .i64 c, .int .i64 a, .int .i64 b] 29)))
  rw [hb] at HC
  have H2 := Lib.hid (h1.alloc0 (.cells #[.int .i64 c, .int .i64 a, .int .i64 b] 29)).drop
  clear h h1 hb
  go_enter Try.func42, Try.ntmps42
  go_wp2_with fail
  refine HC.out.mono ?_
  rintro r0 w1 ⟨rfl, rfl⟩
  unfold okE
  go_wp2_with fail
  go_ret2
  exact ⟨rfl, H2.out⟩
set_option maxRecDepth 100000 in
set_option maxHeartbeats 8000000 in
theorem bytesRes_ok {w0 w : World} {L : List Thing} (c a b : Int) (h : Sep w0 L w) (hb : resB c a b = true) :
    Calls Try.prog 42 #[.agg #[.int .i64 c, .int .i64 a, .int .i64 b]] w fun e w' => ∃ u, e = .returned (.tuple #[u, .int .i64 0]) ∧ Sep w0 (By u (resBs c a b) :: L) w' := by
  have hs := of_decide_eq_true hb
  obtain ⟨s0, s1, s2, s3, s4, s5⟩ := hs
  have h1 := h.alloc (.cells #[.int .i64 c, .int .i64 a, .int .i64 b] 29)
  obtain ⟨c0, c1, c2⟩ := rc h1
  have HC := Lib.hid (res_any c a b (w.alloc (.cells #[.int .i64 c, .int .i64 a, .int .i64 b] 29)))
  rw [hb] at HC
  have h2 := h1.alloc0 (.cells #[.int .i64 c, .int .i64 a, .int .i64 b] 29)
  obtain ⟨bx, hbx⟩ : ∃ z, z = w.heap.size := ⟨_, rfl⟩
  have H2 := Lib.hid h2
  obtain ⟨d0, d1, d2⟩ := rc h2
  clear h h1 h2 hb
  go_enter Try.func42, Try.ntmps42
  go_wp2_with fail
  refine HC.out.mono ?_
  rintro r0 w1 ⟨rfl, rfl⟩
  unfold okE
  clear c0 c1 c2
  go_wp2_with fail
  generalize (w.alloc (.cells #[.int .i64 c, .int .i64 a, .int .i64 b] 29)).alloc (.cells #[.int .i64 c, .int .i64 a, .int .i64 b] 29) = wa at *
  rw [← hbx] at H2 d0 d1 d2 ⊢
  clear hbx
  have e0 : IntKind.u8.wrap c = c := by rw [IntKind.wrap_u8]; omega
  have e1 : IntKind.u64.wrap a = a := by rw [IntKind.wrap_u64]; omega
  have e2 : IntKind.u64.wrap b = b := by rw [IntKind.wrap_u64]; omega
  have h3 := (H2.out.alloc (.cells #[.int .u8 c] 5)).drew
  obtain ⟨x0, x1, x2⟩ := rc h3.sw2
  have h4 := h3.asRow 1 rfl (by unfold maxLen; omega)
  rw [byte1 s0 (by omega)] at h4
  have HV := Lib.hid (vint_conv _ _ a h4 s2 (by omega) (by simp))
  clear h3 h4
  go_region_law (first
    | (go_simp; go_at_call 43; ((with_reducible refine Calls.mono HV.out ?_); rintro r9 w9 ⟨u9, rfl, h5⟩; obtain ⟨y0, y1, y2⟩ := rc (Sep.sw2 h5); have HV2 := Lib.hid (vint_conv _ _ b h5 s3 (by omega) (by have := vint_len a.toNat; simp; omega)); clear h5))
    | (go_simp; go_at_call 43; ((with_reducible refine Calls.mono HV2.out ?_); rintro r9 w10 ⟨u10, rfl, h6⟩; have H6 := Lib.hid (Sep.drop (Sep.sw2 h6)); clear h6)))
  all_goals
    go_wp2_with fail
    go_ret2
    exact ⟨u10, rfl, H6.out⟩
end Go.Proofs.Ytjjjkfdppleagaa
