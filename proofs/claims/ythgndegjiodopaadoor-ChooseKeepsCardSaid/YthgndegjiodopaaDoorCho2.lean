/- Package choose: isImage (of what is one), clone (without a checkpoint). -/
import Derived.Test.YthgndegjiodopaaDoorCho1
import Derived.Test.YthgndegjiodopaaDoorHeldTwo
namespace Go.Proofs.YthgndegjiodopaaDoor
open Go.RowKit
set_option linter.unusedVariables false
set_option linter.unusedSimpArgs false
def maxI (a b : Int) : Int := if a < b then b else a
theorem step_max_run {P : Program} {ops : Array Oper} {o : Oper} {a : Act} {w : World} {K : Act → World → Prop} {Q : Exit → Act → World → Prop} {E : Prop}
    (hg : o.guard = none) (d x : Operand) (dT sT : TypeId) (hop : o.op = Op.call { callee := Callee.builtin Builtin.max, args := #[d, x], argTypes := #[dT, sT] })
    {p q v : Value} (hd : a.eval d = p) (hx : a.eval x = q) (hr : (Builtin.max_ #[dT, sT] o.type #[p, q]).run P w = .ok v w) (hK : K (a.put o.dst v) w) :
    if Region.wanted o (yielded ops a.tmps) = true then Oper.wp P o a w K Q else E := by
  have hw : Region.wanted o (yielded ops a.tmps) = true := by simp [Region.wanted, hg]
  rw [if_pos hw]
  unfold Oper.wp
  simp [execOp, hop, resolve, invoke, builtin, hd, hx, hr, Result.andThen]
  exact hK
theorem max_run (ty : TypeId) (p q : Int) (w : World) : (Builtin.max_ #[3, 3] ty #[.int .i64 p, .int .i64 q]).run Tryd.prog w = .ok (.int .i64 (maxI p q)) w := by
  unfold maxI
  by_cases h : p < q
  · rw [if_pos h]
    simp [go_sem, h]
  · rw [if_neg h]
    simp [go_sem, h]
set_option maxRecDepth 100000 in
set_option maxHeartbeats 4000000 in
theorem isImg_w {w : World} (ba co : Int) (a : Option Addr) (n c : Nat) (xs : List (EnM × Value)) (hv : EnS w (.slice a n c) xs) (hn : xs.length = n) (hn1 : n ≤ 24)
    (hb0 : 0 ≤ ba) (hb1 : ba ≤ 9007199254740991) (hok : ∀ x ∈ xs, x.1.ok = true) (hc0 : ba ≤ co) (hc1 : ba + n - 8 ≤ co) (hc2 : co ≤ ba + n) (hk : KindsAt w) :
    Calls Tryd.prog 23 #[.agg #[.int .i64 ba, .slice none 0 0, .slice a n c, .int .i64 co]] w fun e w' => e = .returned (.bool true) ∧ Sep w [] w' := by
  have h1 := (Sep.start w).alloc (.cells #[.int .i64 ba, .slice none 0 0, .slice a n c, .int .i64 co] 31)
  obtain ⟨c0, c1, c2, c3⟩ := cells4 h1
  obtain ⟨b, hb⟩ : ∃ q, q = w.heap.size := ⟨_, rfl⟩
  obtain ⟨v1, hv1⟩ : ∃ q, q = w.alloc (.cells #[.int .i64 ba, .slice none 0 0, .slice a n c, .int .i64 co] 31) := ⟨_, rfl⟩
  have HX := Lib.hid hv
  have HK := Lib.hid hk
  rw [← hv1, ← hb] at h1
  rw [← hv1] at c0 c1 c2 c3
  rw [← hb] at c0 c1 c2 c3
  have dn : decide (24 < n) = false := decide_eq_false (by omega)
  have dn' : decide ((24 : Int) < (n : Int)) = false := decide_eq_false (by omega)
  have db0 : decide (ba < 0) = false := decide_eq_false (by omega)
  have db1 : decide ((9007199254740991 : Int) < ba) = false := decide_eq_false (by omega)
  have n0 : (n : Int) ≤ 24 := by omega
  have H1 := Lib.hid h1
  have HO := Lib.hid hok
  have HN := Lib.hid hn
  have HC := Lib.hid (And.intro hc0 (And.intro hc1 hc2))
  have HB := Lib.hid (And.intro hb0 (And.intro hb1 hn1))
  clear h1 hv hk hok hn hc0 hc1 hc2 hb0 hb1 hn1
  go_enter Tryd.func23, Tryd.ntmps23
  (try dsimp only); repeat' (first | go_values | go_skip | go_guarded | go_step | go_upon | go_back)
  rw [← hv1, ← hb]
  clear hv1 hb
  (try dsimp only); repeat' (first | go_values | go_skip | go_guarded | go_step | go_upon | go_back)
  go_loopw [22] (fun i wr => ∃ k : Nat, k ≤ n ∧ i = .int .i64 k ∧ Sep w [Cl b #[.int .i64 ba, .slice none 0 0, .slice a n c, .int .i64 co] 31] wr) (fun i _ => n - (intOf i).toNat)
  case atStart => exact ⟨0, by omega, rfl, H1.out⟩
  case round =>
    obtain ⟨k, hk, rfl, hs⟩ := hrel
    clear H1 c0 c1 c2 c3
    have k0 : (0 : Int) ≤ (k : Int) := by omega
    by_cases hkn : k < n
    · have hkx : k < xs.length := by have := HN.out; omega
      have hd : decide (k < n) = true := decide_eq_true hkn
      have k1 : (k : Int) < (n : Int) := by omega
      obtain ⟨bx, off, rfl, -, hnc, -, ⟨e0, e1, e2, e3, e4, e5, e6⟩, hln⟩ := (HX.out.below hs.low).at hkx
      have hxo := HO.out _ (List.getElem_mem hkx)
      obtain ⟨⟨x, v⟩, hxv⟩ : ∃ z, z = xs[k] := ⟨_, rfl⟩
      rw [← hxv] at e0 e1 e2 e3 e4 e5 e6 hln hxo
      dsimp only at e0 e1 e2 e3 e4 e5 e6 hln hxo
      have h4 := hs.alloc (.cells (enC x v) 47)
      have hl2 : Below wr.heap.size wr (wr.alloc (.cells (enC x v) 47)) := (Below.refl _ wr).alloc (Nat.le_refl _) _
      have HE := Lib.hid (echeck_any x v h4 (hln.below hl2) (HK.out.below h4.low))
      rw [hxo] at HE
      unfold enV eB at HE
      simp only [if_true] at HE
      unfold enC at h4 HE
      obtain ⟨d0, d1, d2, d3, d4, d5, d6⟩ := cells7 h4
      have HKN := Lib.hid hkn
      obtain ⟨av, cv, rfl⟩ := hln.len
      obtain ⟨c0, c1, c2, c3⟩ := cells4 h4.sw2
      obtain ⟨g0, g1, g2, g3⟩ := cells4 hs
      clear hs h4 hl2 hln hxv hk hkn hxo
      (try dsimp only); repeat' (first | go_values | go_skip | go_guarded | go_step | go_upon | go_back)
      refine HE.out.mono ?_
      rintro r0 w5 ⟨rfl, h5⟩
      have H5 := Lib.hid (h5.drop)
      clear HE d0 d1 d2 d3 d4 d5 d6 e0 e1 e2 e3 e4 e5 e6 c0 c1 c2 c3 g0 g1 g2 g3
      (try dsimp only); repeat' (first | go_values | go_skip | go_guarded | go_step | go_upon | go_back)
      go_roundw
      case rel => exact ⟨k + 1, HKN.out, by go_num, H5.out⟩
      case measure => have := HKN.out; simp [intOf]; omega
    · have hd : decide (k < n) = false := decide_eq_false hkn
      obtain ⟨c0, c1, c2, c3⟩ := cells4 hs
      obtain ⟨hb0, hb1, hn1⟩ := HB.out
      have hn2 : n ≤ 1000000 := by omega
      have HT := Lib.hid (top_any ba co (.slice none 0 0) a n c hs.drew hb0 hb1 hn2)
      have hm : decide (maxI ba (ba + n - 8) ≤ co) = true := decide_eq_true (by have := HC.out; unfold maxI; split <;> omega)
      have hm2 : decide (co ≤ ba + n) = true := decide_eq_true HC.out.2.2
      have hw : IntKind.i64.wrap (ba + (n : Int) - 8) = ba + n - 8 := IntWalk.i64_in _ (by omega)
      clear hs hk hkn
      (try dsimp only); repeat' (first | go_values | go_skip | go_guarded | go_step | go_upon | go_back)
      refine wp_region_G (fun w' => w'.cell? ⟨b, 0, none⟩ = some (.int .i64 ba) ∧ w'.cell? ⟨b, 1, none⟩ = some (.slice none 0 0) ∧ w'.cell? ⟨b, 2, none⟩ = some (.slice a n c) ∧ w'.cell? ⟨b, 3, none⟩ = some (.int .i64 co)) [] (by kernel_rfl) ⟨c0, c1, c2, c3⟩ (fun hS => ?_)
      try dsimp only at hS
      refine wpAnyG_take' (i := 0) (v := ?v0_1q) rfl (by kernel_rfl) (by kernel_rfl) (by kernel_rfl) (by kernel_rfl) (fun _ _ _ h => h) (Or.inl ⟨by rfl, ?hy0_1q⟩) hS ?rest0_1q
      case hy0_1q => intro w hSw; (try dsimp only at hSw); go_simp; (try with_reducible rfl)
      case rest0_1q =>
      try simp only [List.getElem_toArray, List.getElem_cons_succ, List.getElem_cons_zero, Act.put, List.setIfInBounds_toArray, List.set_cons_zero, List.set_cons_succ]
      refine wpAnyG_take' (i := 1) (v := ?v1_2q) rfl (by kernel_rfl) (by kernel_rfl) (by kernel_rfl) (by kernel_rfl) (fun _ _ _ h => h) (Or.inl ⟨by rfl, ?hy1_2q⟩) hS ?rest1_2q
      case hy1_2q => intro w hSw; (try dsimp only at hSw); go_simp; (try with_reducible rfl)
      case rest1_2q =>
      try simp only [List.getElem_toArray, List.getElem_cons_succ, List.getElem_cons_zero, Act.put, List.setIfInBounds_toArray, List.set_cons_zero, List.set_cons_succ]
      refine wpAnyG_take' (i := 2) (v := ?v2_3q) rfl (by kernel_rfl) (by kernel_rfl) (by kernel_rfl) (by kernel_rfl) (fun _ _ _ h => h) (Or.inl ⟨by rfl, ?hy2_3q⟩) hS ?rest2_3q
      case hy2_3q => intro w hSw; (try dsimp only at hSw); go_simp; (try with_reducible rfl)
      case rest2_3q =>
      try simp only [List.getElem_toArray, List.getElem_cons_succ, List.getElem_cons_zero, Act.put, List.setIfInBounds_toArray, List.set_cons_zero, List.set_cons_succ]
      refine wpAnyG_take' (i := 3) (v := ?v3_4q) rfl (by kernel_rfl) (by kernel_rfl) (by kernel_rfl) (by kernel_rfl) (fun _ _ _ h => h) (Or.inl ⟨by rfl, ?hy3_4q⟩) hS ?rest3_4q
      case hy3_4q => intro w hSw; (try dsimp only at hSw); go_simp; (try with_reducible rfl)
      case rest3_4q =>
      try simp only [List.getElem_toArray, List.getElem_cons_succ, List.getElem_cons_zero, Act.put, List.setIfInBounds_toArray, List.set_cons_zero, List.set_cons_succ]
      refine wpAnyG_take' (i := 4) (v := ?v4_5q) rfl (by kernel_rfl) (by kernel_rfl) (by kernel_rfl) (by kernel_rfl) (fun _ _ _ h => h) (Or.inl ⟨by rfl, ?hy4_5q⟩) hS ?rest4_5q
      case hy4_5q => intro w hSw; (try dsimp only at hSw); go_simp; (try with_reducible rfl)
      case rest4_5q =>
      try simp only [List.getElem_toArray, List.getElem_cons_succ, List.getElem_cons_zero, Act.put, List.setIfInBounds_toArray, List.set_cons_zero, List.set_cons_succ]
      refine wpAnyG_one (i := 5) (by kernel_rfl) rfl (fun K hK => ?_)
      go_simp
      refine Calls.mono HT.out ?_
      rintro r9 w5 ⟨rfl, h5⟩
      have g5 : w5.cell? ⟨b, 0, none⟩ = some (.int .i64 ba) ∧ w5.cell? ⟨b, 1, none⟩ = some (.slice none 0 0) ∧ w5.cell? ⟨b, 2, none⟩ = some (.slice a n c) ∧ w5.cell? ⟨b, 3, none⟩ = some (.int .i64 co) := cells4 h5
      have HT2 := Lib.hid (top_any ba co (.slice none 0 0) a n c h5 hb0 hb1 hn2)
      clear h5
      (try dsimp only); repeat' (first | go_values | go_skip | go_guarded | go_step | go_upon | go_back)
      refine hK.out _ _ (fun _ => ?hS6q) ?rest6q
      case hS6q => exact g5
      clear K hK
      try simp only [List.getElem_toArray, List.getElem_cons_succ, List.getElem_cons_zero, Act.put, List.setIfInBounds_toArray, List.set_cons_zero, List.set_cons_succ]
      refine wpAnyG_take' (i := 6) (v := ?v6_7q) rfl (by kernel_rfl) (by kernel_rfl) (by kernel_rfl) (by kernel_rfl) (fun _ _ _ h => h) (Or.inl ⟨by rfl, ?hy6_7q⟩) g5 ?rest6_7q
      case hy6_7q => intro w hSw; (try dsimp only at hSw); go_simp; (try with_reducible rfl)
      case rest6_7q =>
      try simp only [List.getElem_toArray, List.getElem_cons_succ, List.getElem_cons_zero, Act.put, List.setIfInBounds_toArray, List.set_cons_zero, List.set_cons_succ]
      refine wpAnyG_one (i := 7) (by kernel_rfl) rfl (fun K hK => ?_)
      refine step_max_run rfl _ _ _ _ (by rfl) (by rfl) (by rfl) (max_run _ _ _ _) ?_
      refine hK.out _ _ (fun _ => ?hS8q) ?rest8q
      case hS8q => exact g5
      clear K hK
      try simp only [List.getElem_toArray, List.getElem_cons_succ, List.getElem_cons_zero, Act.put, List.setIfInBounds_toArray, List.set_cons_zero, List.set_cons_succ]
      refine wpAnyG_take' (i := 8) (v := ?v8_9q) rfl (by kernel_rfl) (by kernel_rfl) (by kernel_rfl) (by kernel_rfl) (fun _ _ _ h => h) (Or.inl ⟨by rfl, ?hy8_9q⟩) g5 ?rest8_9q
      case hy8_9q => intro w hSw; (try dsimp only at hSw); go_simp; (try with_reducible rfl)
      case rest8_9q =>
      try simp only [List.getElem_toArray, List.getElem_cons_succ, List.getElem_cons_zero, Act.put, List.setIfInBounds_toArray, List.set_cons_zero, List.set_cons_succ]
      refine wpAnyG_take' (i := 9) (v := ?v9_10q) rfl (by kernel_rfl) (by kernel_rfl) (by kernel_rfl) (by kernel_rfl) (fun _ _ _ h => h) (Or.inl ⟨by rfl, ?hy9_10q⟩) g5 ?rest9_10q
      case hy9_10q => intro w hSw; (try dsimp only at hSw); go_simp; (try with_reducible rfl)
      case rest9_10q =>
      try simp only [List.getElem_toArray, List.getElem_cons_succ, List.getElem_cons_zero, Act.put, List.setIfInBounds_toArray, List.set_cons_zero, List.set_cons_succ]
      refine wpAnyG_take' (i := 10) (v := ?v10_11q) rfl (by kernel_rfl) (by kernel_rfl) (by kernel_rfl) (by kernel_rfl) (fun _ _ _ h => h) (Or.inl ⟨by rfl, ?hy10_11q⟩) g5 ?rest10_11q
      case hy10_11q => intro w hSw; (try dsimp only at hSw); go_simp; (try with_reducible rfl)
      case rest10_11q =>
      try simp only [List.getElem_toArray, List.getElem_cons_succ, List.getElem_cons_zero, Act.put, List.setIfInBounds_toArray, List.set_cons_zero, List.set_cons_succ]
      refine wpAnyG_take' (i := 11) (v := ?v11_12q) rfl (by kernel_rfl) (by kernel_rfl) (by kernel_rfl) (by kernel_rfl) (fun _ _ _ h => h) (Or.inl ⟨by rfl, ?hy11_12q⟩) g5 ?rest11_12q
      case hy11_12q => intro w hSw; (try dsimp only at hSw); go_simp; (try with_reducible rfl)
      case rest11_12q =>
      try simp only [List.getElem_toArray, List.getElem_cons_succ, List.getElem_cons_zero, Act.put, List.setIfInBounds_toArray, List.set_cons_zero, List.set_cons_succ]
      refine wpAnyG_take' (i := 12) (v := ?v12_13q) rfl (by kernel_rfl) (by kernel_rfl) (by kernel_rfl) (by kernel_rfl) (fun _ _ _ h => h) (Or.inl ⟨by rfl, ?hy12_13q⟩) g5 ?rest12_13q
      case hy12_13q => intro w hSw; (try dsimp only at hSw); go_simp; (try with_reducible rfl)
      case rest12_13q =>
      try simp only [List.getElem_toArray, List.getElem_cons_succ, List.getElem_cons_zero, Act.put, List.setIfInBounds_toArray, List.set_cons_zero, List.set_cons_succ]
      refine wpAnyG_one (i := 13) (by kernel_rfl) rfl (fun K hK => ?_)
      go_simp
      refine Calls.mono HT2.out ?_
      rintro r9 w6 ⟨rfl, h6⟩
      have H6 := Lib.hid h6.drop
      have g6 : w6.cell? ⟨b, 0, none⟩ = some (.int .i64 ba) ∧ w6.cell? ⟨b, 1, none⟩ = some (.slice none 0 0) ∧ w6.cell? ⟨b, 2, none⟩ = some (.slice a n c) ∧ w6.cell? ⟨b, 3, none⟩ = some (.int .i64 co) := cells4 h6
      clear h6
      (try dsimp only); repeat' (first | go_values | go_skip | go_guarded | go_step | go_upon | go_back)
      refine hK.out _ _ (fun _ => ?hS14q) ?rest14q
      case hS14q => exact g6
      clear K hK
      try simp only [List.getElem_toArray, List.getElem_cons_succ, List.getElem_cons_zero, Act.put, List.setIfInBounds_toArray, List.set_cons_zero, List.set_cons_succ]
      refine wpAnyG_take' (i := 14) (v := ?v14_15q) rfl (by kernel_rfl) (by kernel_rfl) (by kernel_rfl) (by kernel_rfl) (fun _ _ _ h => h) (Or.inl ⟨by rfl, ?hy14_15q⟩) g6 ?rest14_15q
      case hy14_15q => intro w hSw; (try dsimp only at hSw); go_simp; (try with_reducible rfl)
      case rest14_15q =>
      try simp only [List.getElem_toArray, List.getElem_cons_succ, List.getElem_cons_zero, Act.put, List.setIfInBounds_toArray, List.set_cons_zero, List.set_cons_succ]
      refine wpAnyG_take' (i := 15) (v := ?v15_16q) rfl (by kernel_rfl) (by kernel_rfl) (by kernel_rfl) (by kernel_rfl) (fun _ _ _ h => h) (Or.inl ⟨by rfl, ?hy15_16q⟩) g6 ?rest15_16q
      case hy15_16q => intro w hSw; (try dsimp only at hSw); go_simp; (try with_reducible rfl)
      case rest15_16q =>
      try simp only [List.getElem_toArray, List.getElem_cons_succ, List.getElem_cons_zero, Act.put, List.setIfInBounds_toArray, List.set_cons_zero, List.set_cons_succ]
      refine wpAnyG_take' (i := 16) (v := ?v16_17q) rfl (by kernel_rfl) (by kernel_rfl) (by kernel_rfl) (by kernel_rfl) (fun _ _ _ h => h) (Or.inl ⟨by rfl, ?hy16_17q⟩) g6 ?rest16_17q
      case hy16_17q => intro w hSw; (try dsimp only at hSw); go_simp; (try with_reducible rfl)
      case rest16_17q =>
      try simp only [List.getElem_toArray, List.getElem_cons_succ, List.getElem_cons_zero, Act.put, List.setIfInBounds_toArray, List.set_cons_zero, List.set_cons_succ]
      refine wpAnyG_done (by kernel_rfl) ?_ _
      try simp only [List.getElem_toArray, List.getElem_cons_succ, List.getElem_cons_zero, Act.put, List.setIfInBounds_toArray, List.set_cons_zero, List.set_cons_succ]
      (try dsimp only); repeat' (first | go_values | go_skip | go_guarded | go_step | go_upon | go_back)
      go_ret
      exact ⟨rfl, H6.out⟩
theorem isImg_any {w0 w : World} {L : List Thing} (ba co : Int) (a : Option Addr) (n c : Nat) (xs : List (EnM × Value)) (h : Sep w0 L w) (hv : EnS w (.slice a n c) xs) (hn : xs.length = n) (hn1 : n ≤ 24)
    (hb0 : 0 ≤ ba) (hb1 : ba ≤ 9007199254740991) (hok : ∀ x ∈ xs, x.1.ok = true) (hc0 : ba ≤ co) (hc1 : ba + n - 8 ≤ co) (hc2 : co ≤ ba + n) (hk : KindsAt w) :
    Calls Tryd.prog 23 #[.agg #[.int .i64 ba, .slice none 0 0, .slice a n c, .int .i64 co]] w fun e w' => e = .returned (.bool true) ∧ Sep w0 L w' :=
  (isImg_w ba co a n c xs hv hn hn1 hb0 hb1 hok hc0 hc1 hc2 hk).mono fun e w' ⟨h1, h2⟩ => ⟨h1, h.below h2.low⟩
set_option maxRecDepth 100000 in
set_option maxHeartbeats 4000000 in
theorem clone_w {w : World} (ba co : Int) (a : Option Addr) (n c : Nat) (xs : List (EnM × Value)) (hv : EnS w (.slice a n c) xs) (hn : xs.length = n) (hn1 : n ≤ 24) (hls : ∀ x ∈ xs, x.1.p.ls.length ≤ 1000) :
    Calls Tryd.prog 24 #[.agg #[.int .i64 ba, .slice none 0 0, .slice a n c, .int .i64 co]] w fun e w' => ∃ a' c' qs, e = .returned (.agg #[.int .i64 ba, .slice none 0 0, .slice a' n c', .int .i64 co]) ∧ qs.map (·.1) = xs.map (·.1) ∧ Sep w [EnT (.slice a' n c') qs] w' := by
  have h1 := ((Sep.start w).alloc (.cells #[.int .i64 ba, .slice none 0 0, .slice a n c, .int .i64 co] 31)).alloc (.cells #[.int .i64 0, .slice none 0 0, .slice none 0 0, .int .i64 0] 31)
  rw [show (w.alloc (.cells #[.int .i64 ba, .slice none 0 0, .slice a n c, .int .i64 co] 31)).heap.size = w.heap.size + 1 by simp] at h1
  obtain ⟨b1, hb1⟩ : ∃ q, q = w.heap.size := ⟨_, rfl⟩
  obtain ⟨b2, hb2⟩ : ∃ q, q = w.heap.size + 1 := ⟨_, rfl⟩
  obtain ⟨v1, hw1⟩ : ∃ q, q = (w.alloc (.cells #[.int .i64 ba, .slice none 0 0, .slice a n c, .int .i64 co] 31)).alloc (.cells #[.int .i64 0, .slice none 0 0, .slice none 0 0, .int .i64 0] 31) := ⟨_, rfl⟩
  rw [← hw1, ← hb2, ← hb1] at h1
  obtain ⟨c0, c1, c2, c3⟩ := cells4 h1.sw2
  have HCZ := Lib.hid (cloneZ_any h1)
  have HX := Lib.hid hv
  have HLS := Lib.hid hls
  have HN := Lib.hid hn
  have HN1 := Lib.hid hn1
  clear h1 hv hls hn hn1
  go_enter Tryd.func24, Tryd.ntmps24
  (try dsimp only); repeat' (first | go_values | go_skip | go_guarded | go_step | go_upon | go_back)
  rw [← hw1, ← hb2, ← hb1]
  clear hw1 hb2 hb1
  (try dsimp only); repeat' (first | go_values | go_skip | go_guarded | go_step | go_upon | go_back)
  refine HCZ.out.mono ?_
  rintro r0 w2 ⟨rfl, h2⟩
  clear c0 c1 c2 c3 HCZ
  have f1 := h2.sw2.frozen 1
  obtain ⟨c0, c1, c2, c3⟩ := cells4 h2.sw2
  have h3 : Sep w [Cl b1 #[.int .i64 ba, .slice none 0 0, .slice a n c, .int .i64 co] 31, Cl b2 #[.int .i64 0, .slice none 0 0, .slice none 0 0, .int .i64 0] 31] (w2.setCell ⟨b1, 1, none⟩ (.slice none 0 0)) := h2.sw2.setCell 1 (.slice none 0 0)
  obtain ⟨d0, d1, d2, d3⟩ := cells4 h3
  have HL := Lib.hid (lcopy_any a c n xs h3 (HX.out.below h3.low) HN.out (by have := HN1.out; omega) HLS.out)
  clear h2 h3
  (try dsimp only); repeat' (first | go_values | go_skip | go_guarded | go_step | go_upon | go_back)
  refine HL.out.mono ?_
  rintro r0 w4 ⟨u, qs, rfl, hqs, h4⟩
  clear c0 c1 c2 c3 d0 d1 d2 d3 f1 HL
  obtain ⟨a', c', rfl, -, -⟩ := h4.enForm
  have hql : qs.length = n := by rw [← List.length_map (f := fun x : EnM × Value => x.1), hqs, List.length_map, HN.out]
  rw [hql] at h4 ⊢
  have f2 := h4.sw2.frozen 2
  obtain ⟨c0, c1, c2, c3⟩ := cells4 h4.sw2
  have h5 : Sep w [Cl b1 #[.int .i64 ba, .slice none 0 0, .slice a' n c', .int .i64 co] 31, EnT (.slice a' n c') qs, Cl b2 #[.int .i64 0, .slice none 0 0, .slice none 0 0, .int .i64 0] 31] (w4.setCell ⟨b1, 2, none⟩ (.slice a' n c')) := h4.sw2.setCell 2 (.slice a' n c')
  obtain ⟨d0, d1, d2, d3⟩ := cells4 h5
  have HLD := Lib.hid (h5.loadW 31 Tryd.underlying31 rfl (by kernel_rfl))
  have HTH := Lib.hid (h5.sw3.thereAt 0 4 (by simp))
  have h6 := h5.sw3.storeW #[.int .i64 ba, .slice none 0 0, .slice a' n c', .int .i64 co] rfl
  have HV := Lib.hid (h6.loadV 31 Tryd.underlying31 rfl (by kernel_rfl))
  have H6 := Lib.hid (h6.pick [2] rfl : Sep w [EnT (.slice a' n c') qs] _)
  have HQ := Lib.hid hqs
  clear h4 h5 h6 hqs hql
  (try dsimp only); repeat' (first | (with_reducible show wpList _ _ _ (Oper.mk _ (Op.load 31 _) _ _ _ _ :: _) _ _; refine stopP ?_) | go_values | go_skip | go_guarded | go_step | go_upon | go_back)
  unfold StopP
  have hq_ := HLD.out
  refine wpList_load_run rfl 31 _ rfl _ _ rfl hq_ ?_
  clear hq_
  (try dsimp only); repeat' (first | (with_reducible show wpList _ _ _ (Oper.mk _ (Op.store 31 _ _) _ _ _ _ :: _) _ _; refine stopP ?_) | go_values | go_skip | go_guarded | go_step | go_upon | go_back)
  unfold StopP
  refine wpList_store_mid rfl 31 (.tmp 2) (.tmp 11) rfl b2 0 #[.int .i64 ba, .slice none 0 0, .slice a' n c', .int .i64 co] rfl rfl HTH.out (by kernel_rfl) (by first | kernel_rfl | assumption) ?_
  (try dsimp only); repeat' (first | go_values | go_skip | go_guarded | go_step | go_upon | go_back)
  exact bodyPost_ret (results_cell rfl rfl HV.out) rfl ⟨_, _, _, rfl, HQ.out, H6.out⟩
theorem clone_any {w0 w : World} {L : List Thing} (ba co : Int) (a : Option Addr) (n c : Nat) (xs : List (EnM × Value)) (h : Sep w0 L w) (hv : EnS w (.slice a n c) xs) (hn : xs.length = n) (hn1 : n ≤ 24) (hls : ∀ x ∈ xs, x.1.p.ls.length ≤ 1000) :
    Calls Tryd.prog 24 #[.agg #[.int .i64 ba, .slice none 0 0, .slice a n c, .int .i64 co]] w fun e w' => ∃ a' c' qs, e = .returned (.agg #[.int .i64 ba, .slice none 0 0, .slice a' n c', .int .i64 co]) ∧ qs.map (·.1) = xs.map (·.1) ∧ Sep w0 (EnT (.slice a' n c') qs :: L) w' :=
  (clone_w ba co a n c xs hv hn hn1 hls).mono fun e w' ⟨a', c', qs, h1, h2, h3⟩ => ⟨a', c', qs, h1, h2, h.onto1 h3⟩
end Go.Proofs.YthgndegjiodopaaDoor
