/- Contracts of the document's answer for layer 1: the functions that write. -/
import Derived.Test.YtafkbodmiblbnaaGreatDoorMZ12
import Derived.Test.YtafkbodmiblbnaaGreatDoorMZ01
import Derived.Test.YtafkbodmiblbnaaGreatDoorMItem5
import Derived.Test.YtafkbodmiblbnaaGreatDoorMZ06
namespace Go.Proofs.YtafkbodmiblbnaaGreatDoor
open Go.RowKit
set_option linter.unusedVariables false

theorem ret_int {k : IntKind} {a b : Int} (h : a = b) : Ending.returned (.int k a) = .returned (.int k b) := by rw [h]

theorem rzig_neg {n : Int} (h : I64 n) (h0 : n < 0) : IntKind.u64.wrap (IntKind.u64.wrap (2 * IntKind.u64.wrap (wrap64 (-wrap64 (n + 1)))) + 1) = (zig n : Nat) := by
  simp only [IntKind.wrap_u64]; unfold wrap64 zig; unfold I64 at h; rw [if_neg (by omega)]; omega
theorem rzig_pos {n : Int} (h : I64 n) (h0 : ¬ n < 0) : IntKind.u64.wrap (2 * IntKind.u64.wrap n) = (zig n : Nat) := by
  simp only [IntKind.wrap_u64]; unfold zig; unfold I64 at h; rw [if_pos (by omega)]; omega
theorem rzig_any (n : Int) (w : World) (h : I64 n) : Calls Tryz.prog 148 #[.int .i64 n] w fun e w' => e = .returned (.int .u64 (zig n : Nat)) ∧ w = w' := by
  by_cases h0 : n < 0
  · go_enter Tryz.func148, Tryz.ntmps148
    go_wp2
    go_ret
    exact ⟨ret_int (rzig_neg h h0), rfl⟩
  · have h1 := h0
    go_enter Tryz.func148, Tryz.ntmps148
    go_wp2
    go_ret
    exact ⟨ret_int (rzig_pos h (by omega)), rfl⟩
set_option maxRecDepth 100000 in
theorem rvarint_ref (v : Value) (l : List UInt8) (u : Nat) (w : World) (h : Sl w v (bv l)) (hu : U64 u) (hlen : l.length ≤ 1099511627776) :
    Calls Tryz.prog 44 #[v, .int .u64 u] w fun e w' => (∃ v', e = .returned v' ∧ Own w' w.heap.size 5 v' (bv (l ++ vint u))) ∧ Below w.heap.size w w' := by
  have Hu := Lib.hid hu
  have H := Lib.hid h
  clear h hu
  go_enter Tryz.func44, Tryz.ntmps44
  go_wp2_with fail
  refine (copyBytes_any _ l _ H.out (by omega)).mono ?_
  rintro r0 w1 ⟨⟨v1, rfl, ho1⟩, hb1⟩
  go_wp2_with fail
  go_loopw [1, 5] (fun c n wr => ∃ (k x : Nat) (pre : List UInt8), VintAt u k x pre ∧ c = .int .u64 x ∧ Own wr w.heap.size 5 n (bv (l ++ pre)) ∧ Below w.heap.size w wr) (fun c _ _ => (intOf c).toNat)
  case atStart => exact ⟨0, u, [], VintAt.zero Hu.out, rfl, by rw [List.append_nil]; exact ho1, hb1⟩
  case round =>
    clear ho1 hb1
    obtain ⟨k, x, pre, hv, rfl, ho, hb⟩ := hrel
    have hx : U64 x := hv.u64
    have hpre : pre.length ≤ 9 := by rw [hv.2.1]; exact hv.1
    by_cases hge : 128 ≤ x
    · have h1 := sl_lit1 wr ((x : Int) % 128 + 128) (UInt8.ofNat (x % 128 + 128)) (by rw [UInt8.toNat_ofNat']; omega) 5
      have hb1 : Below w.heap.size w (wr.alloc (.cells #[.int .u8 ((x : Int) % 128 + 128)] 5)) := hb.alloc hb.size _
      obtain ⟨v', w', hr, ho', hg, _⟩ := append8 (ty := 29) (Own.alloc ho _) h1 (by simp; omega) hb1.size
      have hb2 := hb1.grown hg hb1.size (fun g hg' => (ho.lt g hg').1)
      rw [List.append_assoc] at ho'
      have hv' := hv.next hge
      have hdw : IntKind.u64.wrap ((x : Int) / 128) = (x : Int) / 128 := by rw [IntKind.wrap_u64]; unfold U64 at hx; omega
      have Hr := Lib.hid hr
      have Ho := Lib.hid ho'
      clear hr hg h1 hb1 hb ho hv ho'
      go_wp2_with (at_builtin; refine wpList_append_run rfl _ _ _ _ rfl rfl rfl Hr.out ?_)
      go_roundw
      case rel => exact ⟨k + 1, x / 128, _, hv', by simp, Ho.out, hb2⟩
      case measure => simp [intOf]; omega
    · have h1 := sl_lit1 wr _ _ (small8 x (by omega)) 5
      have hb1 : Below w.heap.size w (wr.alloc (.cells #[.int .u8 (x : Int)] 5)) := hb.alloc hb.size _
      obtain ⟨v', w', hr, ho', hg, _⟩ := append8 (ty := 29) (Own.alloc ho _) h1 (by simp; omega) hb1.size
      have hb2 := hb1.grown hg hb1.size (fun g hg' => (ho.lt g hg').1)
      rw [List.append_assoc, hv.last (by omega)] at ho'
      have Hr := Lib.hid hr
      have Ho := Lib.hid ho'
      clear hr hg h1 hb1 hb ho hv ho'
      go_wp2_with (at_builtin; refine wpList_append_run rfl _ _ _ _ rfl rfl rfl Hr.out ?_)
      go_ret
      exact ⟨⟨v', rfl, Ho.out⟩, hb2⟩

theorem rint_ref (v : Value) (l : List UInt8) (n : Int) (w : World) (h : Sl w v (bv l)) (hn : I64 n) (hlen : l.length ≤ 1099511627776) :
    Calls Tryz.prog 120 #[v, .int .i64 n] w fun e w' => (∃ v', e = .returned v' ∧ Own w' w.heap.size 5 v' (bv (l ++ vint (zig n)))) ∧ Below w.heap.size w w' := by
  have H := Lib.hid h
  clear h
  go_enter Tryz.func120, Tryz.ntmps120
  go_wp2_with (first | (go_at_call 148; refine (rzig_any _ _ hn).mono ?_; rintro e w1 ⟨rfl, rfl⟩) | (go_at_call 44; refine (rvarint_ref _ l (zig n) _ H.out (zig_u64 hn) hlen).mono ?_; rintro e w1 ⟨⟨v1, rfl, ho1⟩, hb1⟩))
  go_ret
  exact ⟨⟨v1, rfl, ho1⟩, hb1⟩

theorem rtext_ref (v x : Value) (l m : List UInt8) (w : World) (h : Sl w v (bv l)) (hx : Sl w x (bv m)) (hlen : l.length + m.length ≤ 1099511627776) :
    Calls Tryz.prog 42 #[v, x] w fun e w' => (∃ v', e = .returned v' ∧ Own w' w.heap.size 5 v' (bv (l ++ vint m.length ++ m))) ∧ Below w.heap.size w w' := by
  obtain ⟨a0, c0, rfl⟩ := hx.len
  rw [bv_length] at hx
  have H := Lib.hid h
  have Hx := Lib.hid hx
  have hm : U64 m.length := by unfold U64; omega
  have hl2 : (l ++ vint m.length).length + m.length ≤ 2199023255552 := by have := vint_len m.length; simp; omega
  have hl1 : l.length ≤ 1099511627776 := by omega
  have hm1 : m.length ≤ 1099511627776 := by omega
  clear h hx hlen
  rw [bv_length]
  go_enter Tryz.func42, Tryz.ntmps42
  go_wp2_with fail
  refine (rvarint_ref _ l m.length _ H.out hm hl1).mono ?_
  rintro e w1 ⟨⟨v1, rfl, ho1⟩, hb1⟩
  obtain ⟨v', w', hr, ho', hg, _⟩ := append8 (ty := 29) ho1 (Hx.out.below hb1) hl2 hb1.size
  have hb2 := hb1.grown hg hb1.size (fun g hg' => (ho1.lt g hg').1)
  have Hr := Lib.hid hr
  have Ho := Lib.hid ho'
  clear hr hg ho1 hb1 ho'
  go_wp2_with (at_builtin; refine wpList_append_run rfl _ _ _ _ rfl rfl rfl Hr.out ?_)
  go_ret
  exact ⟨⟨v', rfl, Ho.out⟩, hb2⟩

end Go.Proofs.YtafkbodmiblbnaaGreatDoor
/- Package item: BytesRes. -/
namespace Go.Proofs.YtafkbodmiblbnaaGreatDoor
open Go.RowKit
set_option linter.unusedVariables false
set_option linter.unusedSimpArgs false
def resBs (c a b : Int) : List UInt8 := [UInt8.ofNat c.toNat] ++ vint a.toNat ++ vint b.toNat
theorem rc {w0 w : World} {bq : Nat} {c a b : Int} {L : List Thing} (h : Sep w0 (Cl bq #[.int .i64 c, .int .i64 a, .int .i64 b] 28 :: L) w) : w.cell? ⟨bq, 0, none⟩ = some (.int .i64 c) ∧ w.cell? ⟨bq, 1, none⟩ = some (.int .i64 a) ∧ w.cell? ⟨bq, 2, none⟩ = some (.int .i64 b) := cells3 h
set_option maxRecDepth 100000 in
set_option maxHeartbeats 8000000 in
theorem bytesRes_ok {w0 w : World} {L : List Thing} (c a b : Int) (h : Sep w0 L w) (hb : resB c a b = true) :
    Calls Tryz.prog 81 #[.agg #[.int .i64 c, .int .i64 a, .int .i64 b]] w fun e w' => ∃ u, e = .returned (.tuple #[u, .int .i64 0]) ∧ Sep w0 (By u (resBs c a b) :: L) w' := by
  have hs := of_decide_eq_true hb
  obtain ⟨s0, s1, s2, s3, s4, s5⟩ := hs
  have h1 := h.alloc (.cells #[.int .i64 c, .int .i64 a, .int .i64 b] 28)
  obtain ⟨c0, c1, c2⟩ := rc h1
  have HC := Lib.hid (res_any c a b (w.alloc (.cells #[.int .i64 c, .int .i64 a, .int .i64 b] 28)))
  rw [hb] at HC
  have h2 := h1.alloc0 (.cells #[.int .i64 c, .int .i64 a, .int .i64 b] 28)
  obtain ⟨bx, hbx⟩ : ∃ z, z = w.heap.size := ⟨_, rfl⟩
  have H2 := Lib.hid h2
  obtain ⟨d0, d1, d2⟩ := rc h2
  clear h h1 h2 hb
  go_enter Tryz.func81, Tryz.ntmps81
  go_wp2_with fail
  refine HC.out.mono ?_
  rintro r0 w1 ⟨rfl, rfl⟩
  unfold okE
  clear c0 c1 c2
  go_wp2_with fail
  generalize (w.alloc (.cells #[.int .i64 c, .int .i64 a, .int .i64 b] 28)).alloc (.cells #[.int .i64 c, .int .i64 a, .int .i64 b] 28) = wa at *
  rw [← hbx] at H2 d0 d1 d2 ⊢
  clear hbx
  have e0 : IntKind.u8.wrap c = c := by rw [IntKind.wrap_u8]; omega
  have e1 : IntKind.u64.wrap a = a := by rw [IntKind.wrap_u64]; omega
  have e2 : IntKind.u64.wrap b = b := by rw [IntKind.wrap_u64]; omega
  have h3 := (H2.out.alloc (.cells #[.int .u8 c] 5)).drew
  obtain ⟨x0, x1, x2⟩ := rc h3.sw2
  have h4 := h3.asRow 1 rfl (by unfold maxLen; omega)
  rw [byte1 s0 (by omega)] at h4
  have HV := Lib.hid (vint_conv _ _ a h4 s2 (by omega) (by simp))
  clear h3 h4
  go_region_law (first
    | (go_simp; go_at_call 29; ((with_reducible refine Calls.mono HV.out ?_); rintro r9 w9 ⟨u9, rfl, h5⟩; obtain ⟨y0, y1, y2⟩ := rc (Sep.sw2 h5); have HV2 := Lib.hid (vint_conv _ _ b h5 s3 (by omega) (by have := vint_len a.toNat; simp; omega)); clear h5))
    | (go_simp; go_at_call 29; ((with_reducible refine Calls.mono HV2.out ?_); rintro r9 w10 ⟨u10, rfl, h6⟩; have H6 := Lib.hid (Sep.drop (Sep.sw2 h6)); clear h6)))
  all_goals
    go_wp2_with fail
    go_ret2
    exact ⟨u10, rfl, H6.out⟩
end Go.Proofs.YtafkbodmiblbnaaGreatDoor
/- Varints, written and read: plain mathematics. -/
namespace Go.Proofs.YtafkbodmiblbnaaGreatDoor
open Go.RowKit
set_option linter.unusedVariables false

end Go.Proofs.YtafkbodmiblbnaaGreatDoor
