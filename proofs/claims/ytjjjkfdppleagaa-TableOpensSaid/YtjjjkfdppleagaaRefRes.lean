/- The document's item: CheckRes, BytesRes, where the rest of the package lacks. -/
import Derived.Test.YtjjjkfdppleagaaResP
import Derived.Test.YtjjjkfdppleagaaBkD
import Derived.Test.YtjjjkfdppleagaaBkF
namespace Go.Proofs.Ytjjjkfdppleagaa
open Go Go.RowKit
set_option linter.unusedVariables false
set_option linter.unusedSimpArgs false
def wthB (n a b : Int) : Bool := decide (a ≤ n) && decide (n ≤ b)
theorem within_any (n a b : Int) (w : World) : Calls Try.prog 76 #[.int .i64 n, .int .i64 a, .int .i64 b] w fun e w' => e = .returned (.bool (wthB n a b)) ∧ w = w' := by
  by_cases h1 : a ≤ n
  · by_cases h2 : n ≤ b
    · rw [show wthB n a b = true by simp [wthB, h1, h2]]
      go_enter Try.func76, Try.ntmps76
      go_wp2
      go_ret
      exact ⟨rfl, rfl⟩
    · rw [show wthB n a b = false by simp [wthB, h2]]
      go_enter Try.func76, Try.ntmps76
      go_wp2
      go_ret
      exact ⟨rfl, rfl⟩
  · rw [show wthB n a b = false by simp [wthB, h1]]
    go_enter Try.func76, Try.ntmps76
    go_wp2
    go_ret
    exact ⟨rfl, rfl⟩
theorem resB_eq (k a b : Int) : resB k a b = (wthB k 0 6 && wthB a 0 2147483647 && wthB b 0 2147483647) := by
  unfold resB wthB
  rw [Bool.eq_iff_iff]
  simp only [decide_eq_true_eq, Bool.and_eq_true]
  omega
set_option maxHeartbeats 4000000 in
theorem rres_any {w0 w : World} {L : List Thing} (k a b : Int) (h : Sep w0 L w) :
    Calls Try.prog 61 #[.agg #[.int .i64 k, .int .i64 a, .int .i64 b]] w fun e w' => e = .returned (.int .i64 (okE (resB k a b))) ∧ Sep w0 L w' := by
  have H1 := Lib.hid (h.alloc0 (.cells #[.int .i64 k, .int .i64 a, .int .i64 b] 29))
  have HK := Lib.hid (fun wx => within_any k 0 6 wx)
  have HA := Lib.hid (fun wx => within_any a 0 2147483647 wx)
  have HB := Lib.hid (fun wx => within_any b 0 2147483647 wx)
  rw [resB_eq]
  clear h
  cases e1 : wthB k 0 6 with
  | false =>
    rw [e1] at HK
    clear e1
    go_enter Try.func61, Try.ntmps61
    go_wp2_with ((with_reducible refine (HK.out _).mono ?_); rintro r9 w9 ⟨rfl, rfl⟩)
    go_ret
    exact ⟨rfl, H1.out⟩
  | true =>
    rw [e1] at HK
    clear e1
    cases e2 : wthB a 0 2147483647 with
    | false =>
      rw [e2] at HA
      clear e2
      go_enter Try.func61, Try.ntmps61
      go_wp2_with (first | ((with_reducible refine (HK.out _).mono ?_); rintro r9 w9 ⟨rfl, rfl⟩) | ((with_reducible refine (HA.out _).mono ?_); rintro r9 w9 ⟨rfl, rfl⟩))
      go_ret
      exact ⟨rfl, H1.out⟩
    | true =>
      rw [e2] at HA
      clear e2
      cases e3 : wthB b 0 2147483647 with
      | false =>
        rw [e3] at HB
        clear e3
        go_enter Try.func61, Try.ntmps61
        go_wp2_with (first | ((with_reducible refine (HK.out _).mono ?_); rintro r9 w9 ⟨rfl, rfl⟩) | ((with_reducible refine (HA.out _).mono ?_); rintro r9 w9 ⟨rfl, rfl⟩) | ((with_reducible refine (HB.out _).mono ?_); rintro r9 w9 ⟨rfl, rfl⟩))
        go_ret
        exact ⟨rfl, H1.out⟩
      | true =>
        rw [e3] at HB
        clear e3
        go_enter Try.func61, Try.ntmps61
        go_wp2_with (first | ((with_reducible refine (HK.out _).mono ?_); rintro r9 w9 ⟨rfl, rfl⟩) | ((with_reducible refine (HA.out _).mono ?_); rintro r9 w9 ⟨rfl, rfl⟩) | ((with_reducible refine (HB.out _).mono ?_); rintro r9 w9 ⟨rfl, rfl⟩))
        go_ret
        exact ⟨rfl, H1.out⟩
/-- What Bytes answers. -/
def BysP (w0 : World) (L : List Thing) (r : List UInt8) (e : Ending) (w' : World) : Prop := ∃ u, e = .returned (.tuple #[u, .int .i64 0]) ∧ Sep w0 (By u r :: L) w'
theorem rvint_conv {w0 w : World} {L : List Thing} (v : Value) (l : List UInt8) (n : Int) (h : Sep w0 (By v l :: L) w) (hn : 0 ≤ n) (hn2 : n ≤ 9007199254740991) (hl : l.length ≤ 1000000) :
    Calls Try.prog 45 #[v, .int .u64 n] w fun e w' => ∃ v', e = .returned v' ∧ Sep w0 (By v' (l ++ vint n.toNat) :: L) w' := by
  obtain ⟨u, rfl⟩ : ∃ u : Nat, n = u := ⟨n.toNat, by omega⟩
  exact (rvarint_ref v l u w h.sl (by unfold U64; omega) (by omega)).mono fun e w' ⟨⟨v', he, ho⟩, hb⟩ => ⟨v', he, h.drop.row hb ho⟩
set_option maxRecDepth 100000 in
set_option maxHeartbeats 4000000 in
theorem rbytesRes_bad {w0 w : World} {L : List Thing} (c a b : Int) (h : Sep w0 L w) (hb : resB c a b = false) :
    Calls Try.prog 46 #[.agg #[.int .i64 c, .int .i64 a, .int .i64 b]] w fun e w' => e = .returned (.tuple #[.slice none 0 0, .int .i64 2]) ∧ Sep w0 L w' := by
  have h1 := h.alloc (.cells #[.int .i64 c, .int .i64 a, .int .i64 b] 29)
  obtain ⟨c0, c1, c2⟩ := cells3 h1
  have HC := Lib.hid (rres_any c a b h1.drop)
  rw [hb] at HC
  clear h h1 hb
  go_enter Try.func46, Try.ntmps46
  go_wp2_with fail
  refine HC.out.mono ?_
  rintro r0 w1 ⟨rfl, h2⟩
  go_wp2_with fail
  go_ret2
  exact ⟨rfl, h2⟩
set_option maxRecDepth 100000 in
set_option maxHeartbeats 8000000 in
theorem rbytesRes_ok {w0 w : World} {L : List Thing} (c a b : Int) (h : Sep w0 L w) (hb : resB c a b = true) :
    Calls Try.prog 46 #[.agg #[.int .i64 c, .int .i64 a, .int .i64 b]] w (BysP w0 L (resBs c a b)) := by
  obtain ⟨s0, s1, s2, s3, s4, s5⟩ := of_decide_eq_true hb
  have h1 := h.alloc (.cells #[.int .i64 c, .int .i64 a, .int .i64 b] 29)
  have HC := Lib.hid (rres_any c a b h1)
  rw [hb] at HC
  obtain ⟨r, hr⟩ : ∃ r, r = resBs c a b := ⟨_, rfl⟩
  rw [← hr]
  have HRR : Hid ([UInt8.ofNat c.toNat] ++ vint a.toNat ++ vint b.toNat = r) := Lib.hid hr.symm
  obtain ⟨b1, hb1⟩ : ∃ z, z = w.heap.size := ⟨_, rfl⟩
  rw [← hb1] at HC
  have HV := Lib.hid (vint_len a.toNat)
  clear h h1 hb hr
  go_enter Try.func46, Try.ntmps46
  go_wp2_with fail
  rw [← hb1]
  clear hb1
  refine HC.out.mono ?_
  rintro r0 w1 ⟨rfl, h2⟩
  obtain ⟨c0, c1, c2⟩ := cells3 h2
  have h3 := h2.drew.alloc (.cells #[.int .u8 c] 5)
  obtain ⟨d0, d1, d2⟩ := cells3 h3.sw2
  have h4 : Sep w0 (By (.slice (some ⟨w1.heap.size, 0, none⟩) 1 1) [UInt8.ofNat c.toNat] :: Cl b1 #[.int .i64 c, .int .i64 a, .int .i64 b] 29 :: L) (w1.drew.alloc (.cells #[.int .u8 c] 5)) := by
    have := h3.asRow 1 rfl (by unfold maxLen; omega)
    rwa [byte1 (by omega) (by omega)] at this
  have HT := Lib.hid (rvint_conv _ _ a h4 s2 (by omega) (by simp))
  have hw1 : IntKind.u64.wrap a = a := by rw [IntKind.wrap_u64]; omega
  have hw2 : IntKind.u64.wrap b = b := by rw [IntKind.wrap_u64]; omega
  have hw3 : IntKind.u8.wrap c = c := by unfold IntKind.wrap; simp [IntKind.bits, IntKind.signed]; omega
  clear h2 h3 h4 HC
  go_wp2_with fail
  refine wp_region_G (fun w' => w'.cell? ⟨b1, 0, none⟩ = some (.int .i64 c) ∧ w'.cell? ⟨b1, 1, none⟩ = some (.int .i64 a) ∧ w'.cell? ⟨b1, 2, none⟩ = some (.int .i64 b)) [] (by kernel_rfl) ⟨c0, c1, c2⟩ (fun hS => ?_)
  try dsimp only at hS
  refine wpAnyG_take' (i := 0) (v := ?v0_1) rfl (by kernel_rfl) (by kernel_rfl) (by kernel_rfl) (by kernel_rfl) (fun _ _ _ h => h) (Or.inl ⟨by rfl, ?hy0_1⟩) hS ?rest0_1
  case hy0_1 => intro w hSw; (try dsimp only at hSw); go_simp; (try with_reducible rfl)
  case rest0_1 =>
  try simp only [Act.put, List.setIfInBounds_toArray, List.set_cons_zero, List.set_cons_succ]
  refine wpAnyG_take' (i := 1) (v := ?v1_2) rfl (by kernel_rfl) (by kernel_rfl) (by kernel_rfl) (by kernel_rfl) (fun _ _ _ h => h) (Or.inl ⟨by rfl, ?hy1_2⟩) hS ?rest1_2
  case hy1_2 => intro w hSw; (try dsimp only at hSw); go_simp; (try with_reducible rfl)
  case rest1_2 =>
  try simp only [Act.put, List.setIfInBounds_toArray, List.set_cons_zero, List.set_cons_succ]
  refine wpAnyG_take' (i := 2) (v := ?v2_3) rfl (by kernel_rfl) (by kernel_rfl) (by kernel_rfl) (by kernel_rfl) (fun _ _ _ h => h) (Or.inl ⟨by rfl, ?hy2_3⟩) hS ?rest2_3
  case hy2_3 => intro w hSw; (try dsimp only at hSw); go_simp; (try with_reducible rfl)
  case rest2_3 =>
  try simp only [Act.put, List.setIfInBounds_toArray, List.set_cons_zero, List.set_cons_succ]
  refine wpAnyG_take' (i := 4) (v := ?v4_4) rfl (by kernel_rfl) (by kernel_rfl) (by kernel_rfl) (by kernel_rfl) (fun _ _ _ h => h) (Or.inl ⟨by rfl, ?hy4_4⟩) hS ?rest4_4
  case hy4_4 => intro w hSw; (try dsimp only at hSw); go_simp; (try with_reducible rfl)
  case rest4_4 =>
  try simp only [Act.put, List.setIfInBounds_toArray, List.set_cons_zero, List.set_cons_succ]
  refine wpAnyG_take' (i := 5) (v := ?v5_5) rfl (by kernel_rfl) (by kernel_rfl) (by kernel_rfl) (by kernel_rfl) (fun _ _ _ h => h) (Or.inl ⟨by rfl, ?hy5_5⟩) hS ?rest5_5
  case hy5_5 => intro w hSw; (try dsimp only at hSw); go_simp; (try with_reducible rfl)
  case rest5_5 =>
  try simp only [Act.put, List.setIfInBounds_toArray, List.set_cons_zero, List.set_cons_succ]
  refine wpAnyG_take' (i := 6) (v := ?v6_6) rfl (by kernel_rfl) (by kernel_rfl) (by kernel_rfl) (by kernel_rfl) (fun _ _ _ h => h) (Or.inl ⟨by rfl, ?hy6_6⟩) hS ?rest6_6
  case hy6_6 => intro w hSw; (try dsimp only at hSw); go_simp; (try with_reducible rfl)
  case rest6_6 =>
  try simp only [Act.put, List.setIfInBounds_toArray, List.set_cons_zero, List.set_cons_succ]
  refine wpAnyG_take' (i := 8) (v := ?v8_7) rfl (by kernel_rfl) (by kernel_rfl) (by kernel_rfl) (by kernel_rfl) (fun _ _ _ h => h) (Or.inl ⟨by rfl, ?hy8_7⟩) hS ?rest8_7
  case hy8_7 => intro w hSw; (try dsimp only at hSw); go_simp; (try with_reducible rfl)
  case rest8_7 =>
  try simp only [Act.put, List.setIfInBounds_toArray, List.set_cons_zero, List.set_cons_succ]
  refine wpAnyG_take' (i := 9) (v := ?v9_8) rfl (by kernel_rfl) (by kernel_rfl) (by kernel_rfl) (by kernel_rfl) (fun _ _ _ h => h) (Or.inl ⟨by rfl, ?hy9_8⟩) hS ?rest9_8
  case hy9_8 => intro w hSw; (try dsimp only at hSw); go_simp; (try with_reducible rfl)
  case rest9_8 =>
  try simp only [Act.put, List.setIfInBounds_toArray, List.set_cons_zero, List.set_cons_succ]
  refine wpAnyG_take' (i := 10) (v := ?v10_9) rfl (by kernel_rfl) (by kernel_rfl) (by kernel_rfl) (by kernel_rfl) (fun _ _ _ h => h) (Or.inl ⟨by rfl, ?hy10_9⟩) hS ?rest10_9
  case hy10_9 => intro w hSw; (try dsimp only at hSw); go_simp; (try with_reducible rfl)
  case rest10_9 =>
  try simp only [Act.put, List.setIfInBounds_toArray, List.set_cons_zero, List.set_cons_succ]
  refine wpAnyG_one (i := 3) (by kernel_rfl) rfl (fun K hK => ?_)
  go_simp
  refine hK.out _ _ (fun _ => ?hS10) ?rest10
  case hS10 => exact ⟨d0, d1, d2⟩
  clear K hK
  try simp only [Act.put, List.setIfInBounds_toArray, List.set_cons_zero, List.set_cons_succ]
  refine wpAnyG_one (i := 7) (by kernel_rfl) rfl (fun K hK => ?_)
  go_simp
  refine Calls.mono HT.out ?_
  rintro r9 w9 ⟨u9, rfl, h11⟩
  obtain ⟨e0, e1, e2⟩ := cells3 h11.sw2
  have HU := Lib.hid (rvint_conv _ _ b h11 s3 (by omega) (by simp only [List.length_append, List.length_singleton]; have := HV.out; omega))
  clear h11
  go_wp2_with fail
  refine hK.out _ _ (fun _ => ?hS11) ?rest11
  case hS11 => exact ⟨e0, e1, e2⟩
  clear K hK
  try simp only [Act.put, List.setIfInBounds_toArray, List.set_cons_zero, List.set_cons_succ]
  refine wpAnyG_one (i := 11) (by kernel_rfl) rfl (fun K hK => ?_)
  go_simp
  refine Calls.mono HU.out ?_
  rintro r9 w10 ⟨u10, rfl, h12⟩
  obtain ⟨f0, f1, f2⟩ := cells3 h12.sw2
  go_wp2_with fail
  refine hK.out _ _ (fun _ => ?hS12) ?rest12
  case hS12 => exact ⟨f0, f1, f2⟩
  clear K hK
  try simp only [Act.put, List.setIfInBounds_toArray, List.set_cons_zero, List.set_cons_succ]
  refine wpAnyG_take' (i := 12) (v := ?v12_13) rfl (by kernel_rfl) (by kernel_rfl) (by kernel_rfl) (by kernel_rfl) (fun _ _ _ h => h) (Or.inl ⟨by rfl, ?hy12_13⟩) ⟨f0, f1, f2⟩ ?rest12_13
  case hy12_13 => intro w hSw; (try dsimp only at hSw); go_simp; (try with_reducible rfl)
  case rest12_13 =>
  try simp only [Act.put, List.setIfInBounds_toArray, List.set_cons_zero, List.set_cons_succ]
  refine wpAnyG_take' (i := 13) (v := ?v13_14) rfl (by kernel_rfl) (by kernel_rfl) (by kernel_rfl) (by kernel_rfl) (fun _ _ _ h => h) (Or.inl ⟨by rfl, ?hy13_14⟩) ⟨f0, f1, f2⟩ ?rest13_14
  case hy13_14 => intro w hSw; (try dsimp only at hSw); go_simp; (try with_reducible rfl)
  case rest13_14 =>
  try simp only [Act.put, List.setIfInBounds_toArray, List.set_cons_zero, List.set_cons_succ]
  refine wpAnyG_done (by kernel_rfl) ?_ _
  try simp only [List.getElem_toArray, List.getElem_cons_succ, List.getElem_cons_zero, Act.put, List.setIfInBounds_toArray, List.set_cons_zero, List.set_cons_succ]
  have H9 := Lib.hid h12.sw2.drop
  clear hS h12 hw1 hw2 hw3
  go_wp2_with fail
  go_ret2
  have hh := H9.out
  rw [HRR.out] at hh
  refine ⟨u10, ?_, hh⟩
  first | rfl | (trace_state; simp; done)
end Go.Proofs.Ytjjjkfdppleagaa
