/- The document's table: Same, Bytes. -/
import Derived.Test.YtjjjkfdppleagaaTable28
namespace Go.Proofs.Ytjjjkfdppleagaa
open Go Go.RowKit
set_option linter.unusedVariables false
set_option linter.unusedSimpArgs false
set_option maxRecDepth 100000 in
set_option maxHeartbeats 0 in
theorem dsame_any {w0 w : World} {F : List SW} {L : List Thing} {a a' : Option Addr} {n c c' : Nat} (h : Sep w0 (SsT (.slice a n c) F :: SsT (.slice a' n c') F :: L) w) (hF : F.length ≤ 1000) :
    Calls Try.prog 21 #[.slice a n c, .slice a' n c'] w fun e w' => e = .returned (.bool true) ∧ Sep w0 (SsT (.slice a n c) F :: SsT (.slice a' n c') F :: L) w' := by
  have hn := (h.ssForm).1
  have HN := Lib.hid (And.intro hn hF)
  have H := Lib.hid h
  have n0 : (0 : Int) ≤ (n : Int) := by omega
  have n9 : (n : Int) ≤ 1000 := by omega
  clear h hn hF
  go_enter Try.func21, Try.ntmps21
  (try dsimp only); repeat' (first | go_values | go_skip | go_guarded | go_step | go_upon | go_back)
  go_loopw [5] (fun i wr => ∃ k : Nat, k ≤ n ∧ i = .int .i64 k ∧ Sep w0 (SsT (.slice a n c) F :: SsT (.slice a' n c') F :: L) wr) (fun i _ => n - (intOf i).toNat)
  case atStart => exact ⟨0, Nat.zero_le _, rfl, H.out⟩
  case round =>
    obtain ⟨k, hk, rfl, hs⟩ := hrel
    clear H
    have k0 : (0 : Int) ≤ (k : Int) := by omega
    have k9 : (k : Int) ≤ 1000 := by omega
    by_cases hkn : k < n
    · have d0 : decide (k < n) = true := decide_eq_true hkn
      have k1 : (k : Int) < (n : Int) := by omega
      have hkF : k < F.length := by rw [← HN.out.1]; exact hkn
      obtain ⟨-, b, rfl, -, x0, x1, x2, x3, x4, x5⟩ := hs.ssAt k hkF
      obtain ⟨-, b', rfl, -, y0, y1, y2, y3, y4, y5⟩ := hs.sw2.ssAt k hkF
      generalize F[k] = s at *
      have HS := Lib.hid hs.drew
      have HK := Lib.hid hkn
      clear hs hk hkn hkF
      (try dsimp only); repeat' (first | go_values | go_skip | go_guarded | go_step | go_upon | go_back)
      refine wp_region_G (fun w' => w'.cell? ⟨b, k * 6, none⟩ = some (.int .i64 s.c) ∧ w'.cell? ⟨b, k * 6 + 1, none⟩ = some (.int .i64 s.n) ∧ w'.cell? ⟨b, k * 6 + 2, none⟩ = some (.int .i64 s.o) ∧ w'.cell? ⟨b, k * 6 + 3, none⟩ = some (.int .i64 s.k) ∧ w'.cell? ⟨b, k * 6 + 4, none⟩ = some (.int .i64 s.a) ∧ w'.cell? ⟨b, k * 6 + 5, none⟩ = some (.int .i64 s.b) ∧ w'.cell? ⟨b', k * 6, none⟩ = some (.int .i64 s.c) ∧ w'.cell? ⟨b', k * 6 + 1, none⟩ = some (.int .i64 s.n) ∧ w'.cell? ⟨b', k * 6 + 2, none⟩ = some (.int .i64 s.o) ∧ w'.cell? ⟨b', k * 6 + 3, none⟩ = some (.int .i64 s.k) ∧ w'.cell? ⟨b', k * 6 + 4, none⟩ = some (.int .i64 s.a) ∧ w'.cell? ⟨b', k * 6 + 5, none⟩ = some (.int .i64 s.b)) [] (by kernel_rfl) ⟨x0, x1, x2, x3, x4, x5, y0, y1, y2, y3, y4, y5⟩ (fun hS => ?_)
      try dsimp only at hS
      refine wpAnyG_take' (i := 0) (v := ?v0_1sm) rfl (by kernel_rfl) (by kernel_rfl) (by kernel_rfl) (by kernel_rfl) (fun _ _ _ h => h) (Or.inl ⟨by rfl, ?hy0_1sm⟩) hS ?rest0_1sm
      case hy0_1sm => intro w hSw; (try dsimp only at hSw); go_simp; (try with_reducible rfl)
      case rest0_1sm =>
      try simp only [List.getElem_toArray, List.getElem_cons_succ, List.getElem_cons_zero, Act.put, List.setIfInBounds_toArray, List.set_cons_zero, List.set_cons_succ]
      refine wpAnyG_take' (i := 1) (v := ?v1_2sm) rfl (by kernel_rfl) (by kernel_rfl) (by kernel_rfl) (by kernel_rfl) (fun _ _ _ h => h) (Or.inl ⟨by rfl, ?hy1_2sm⟩) hS ?rest1_2sm
      case hy1_2sm => intro w hSw; (try dsimp only at hSw); go_simp; (try with_reducible rfl)
      case rest1_2sm =>
      try simp only [List.getElem_toArray, List.getElem_cons_succ, List.getElem_cons_zero, Act.put, List.setIfInBounds_toArray, List.set_cons_zero, List.set_cons_succ]
      refine wpAnyG_take' (i := 2) (v := ?v2_3sm) rfl (by kernel_rfl) (by kernel_rfl) (by kernel_rfl) (by kernel_rfl) (fun _ _ _ h => h) (Or.inl ⟨by rfl, ?hy2_3sm⟩) hS ?rest2_3sm
      case hy2_3sm => intro w hSw; (try dsimp only at hSw); go_simp; (try with_reducible rfl)
      case rest2_3sm =>
      try simp only [List.getElem_toArray, List.getElem_cons_succ, List.getElem_cons_zero, Act.put, List.setIfInBounds_toArray, List.set_cons_zero, List.set_cons_succ]
      refine wpAnyG_take' (i := 3) (v := ?v3_4sm) rfl (by kernel_rfl) (by kernel_rfl) (by kernel_rfl) (by kernel_rfl) (fun _ _ _ h => h) (Or.inl ⟨by rfl, ?hy3_4sm⟩) hS ?rest3_4sm
      case hy3_4sm => intro w hSw; (try dsimp only at hSw); go_simp; (try with_reducible rfl)
      case rest3_4sm =>
      try simp only [List.getElem_toArray, List.getElem_cons_succ, List.getElem_cons_zero, Act.put, List.setIfInBounds_toArray, List.set_cons_zero, List.set_cons_succ]
      refine wpAnyG_take' (i := 4) (v := ?v4_5sm) rfl (by kernel_rfl) (by kernel_rfl) (by kernel_rfl) (by kernel_rfl) (fun _ _ _ h => h) (Or.inl ⟨by rfl, ?hy4_5sm⟩) hS ?rest4_5sm
      case hy4_5sm => intro w hSw; (try dsimp only at hSw); go_simp; (try with_reducible rfl)
      case rest4_5sm =>
      try simp only [List.getElem_toArray, List.getElem_cons_succ, List.getElem_cons_zero, Act.put, List.setIfInBounds_toArray, List.set_cons_zero, List.set_cons_succ]
      refine wpAnyG_take' (i := 5) (v := ?v5_6sm) rfl (by kernel_rfl) (by kernel_rfl) (by kernel_rfl) (by kernel_rfl) (fun _ _ _ h => h) (Or.inl ⟨by rfl, ?hy5_6sm⟩) hS ?rest5_6sm
      case hy5_6sm => intro w hSw; (try dsimp only at hSw); go_simp; (try with_reducible rfl)
      case rest5_6sm =>
      try simp only [List.getElem_toArray, List.getElem_cons_succ, List.getElem_cons_zero, Act.put, List.setIfInBounds_toArray, List.set_cons_zero, List.set_cons_succ]
      refine wpAnyG_take' (i := 6) (v := ?v6_7sm) rfl (by kernel_rfl) (by kernel_rfl) (by kernel_rfl) (by kernel_rfl) (fun _ _ _ h => h) (Or.inl ⟨by rfl, ?hy6_7sm⟩) hS ?rest6_7sm
      case hy6_7sm => intro w hSw; (try dsimp only at hSw); go_simp; (try with_reducible rfl)
      case rest6_7sm =>
      try simp only [List.getElem_toArray, List.getElem_cons_succ, List.getElem_cons_zero, Act.put, List.setIfInBounds_toArray, List.set_cons_zero, List.set_cons_succ]
      refine wpAnyG_take' (i := 7) (v := ?v7_8sm) rfl (by kernel_rfl) (by kernel_rfl) (by kernel_rfl) (by kernel_rfl) (fun _ _ _ h => h) (Or.inl ⟨by rfl, ?hy7_8sm⟩) hS ?rest7_8sm
      case hy7_8sm => intro w hSw; (try dsimp only at hSw); go_simp; (try with_reducible rfl)
      case rest7_8sm =>
      try simp only [List.getElem_toArray, List.getElem_cons_succ, List.getElem_cons_zero, Act.put, List.setIfInBounds_toArray, List.set_cons_zero, List.set_cons_succ]
      refine wpAnyG_take' (i := 8) (v := ?v8_9sm) rfl (by kernel_rfl) (by kernel_rfl) (by kernel_rfl) (by kernel_rfl) (fun _ _ _ h => h) (Or.inl ⟨by rfl, ?hy8_9sm⟩) hS ?rest8_9sm
      case hy8_9sm => intro w hSw; (try dsimp only at hSw); go_simp; (try with_reducible rfl)
      case rest8_9sm =>
      try simp only [List.getElem_toArray, List.getElem_cons_succ, List.getElem_cons_zero, Act.put, List.setIfInBounds_toArray, List.set_cons_zero, List.set_cons_succ]
      refine wpAnyG_done (by kernel_rfl) ?_ _
      try simp only [List.getElem_toArray, List.getElem_cons_succ, List.getElem_cons_zero, Act.put, List.setIfInBounds_toArray, List.set_cons_zero, List.set_cons_succ]
      clear hS
      (try dsimp only); repeat' (first | go_values | go_skip | go_guarded | go_step | go_upon | go_back)
      go_roundw
      case rel => exact ⟨k + 1, by have := HK.out; omega, by go_num, HS.out⟩
      case measure => have := HK.out; simp [intOf]; omega
    · have d0 : decide (k < n) = false := decide_eq_false hkn
      have HS := Lib.hid hs
      clear hs hk hkn
      (try dsimp only); repeat' (first | go_values | go_skip | go_guarded | go_step | go_upon | go_back)
      go_ret
      exact ⟨rfl, HS.out⟩
/-- The document's table, with its slice. -/
def DocV (g : Nat) (v : Value) (F : List SW) : Thing := Both (Cl g #[v] 49) (SsT v F)
theorem loc_docV (g : Nat) (v : Value) (F : List SW) : Loc (DocV g v F) := loc_both (loc_blk _ _) (loc_ss _ _)
def docBs (F : List SW) : List UInt8 := [UInt8.ofNat F.length] ++ F.flatMap seatBs
set_option maxRecDepth 100000 in
set_option maxHeartbeats 0 in
theorem dbytes_any {w0 w : World} {g n c : Nat} {a : Option Addr} {F : List SW} {L : List Thing} (h : Sep w0 (DocV g (.slice a n c) F :: L) w) (hn : n = F.length) (h8 : F.length ≤ 8) (hok : ∀ s ∈ F, clientOk s.c s.n s.o s.k s.a s.b = true) :
    Calls Try.prog 25 #[.pointer (some ⟨g, 0, none⟩)] w fun e w' => ∃ u, e = .returned u ∧ Sep w0 (By u (docBs F) :: DocV g (.slice a n c) F :: L) w' := by
  have HN := Lib.hid (And.intro hn h8)
  have HOK := Lib.hid hok
  have n0 : (0 : Int) ≤ (n : Int) := by omega
  have n8 : (n : Int) ≤ 8 := by omega
  have wn : IntKind.u8.wrap (n : Int) = (n : Int) := by rw [IntKind.wrap_u8]; omega
  have h1 := h.both (loc_blk _ _) (loc_ss _ _)
  have g0 := h1.cell (o := 0) rfl
  have h2 := h.alloc (.cells #[.int .u8 (n : Int)] 5)
  have h3 := h2.asRow 1 rfl (by unfold maxLen; omega)
  rw [byte1u n0 (by omega), show (n : Int).toNat = n from rfl] at h3
  have H3 := Lib.hid h3
  clear h h1 h2 h3 hok hn h8
  go_enter Try.func25, Try.ntmps25
  (try dsimp only); repeat' (first | go_values | go_skip | go_guarded | go_step | go_upon | go_back)
  go_loopw [3, 4] (fun v i wr => ∃ (k m : Nat) (a3 : Option Addr) (c3 : Nat) (bs : List UInt8), k ≤ n ∧ v = .slice a3 m c3 ∧ bs.length = m ∧ m ≤ 1 + 60 * k ∧ i = .int .i64 k ∧ bs = [UInt8.ofNat n] ++ (F.take k).flatMap seatBs ∧ Sep w0 (By (.slice a3 m c3) bs :: DocV g (.slice a n c) F :: L) wr) (fun _ i _ => n - (intOf i).toNat)
  case atStart => exact ⟨0, 1, _, _, [UInt8.ofNat n], Nat.zero_le _, rfl, rfl, by omega, rfl, by simp, H3.out⟩
  case round =>
    obtain ⟨k, m, a3, c3, bs, hk, rfl, hbm, hm, rfl, hbs, hs⟩ := hrel
    clear H3 g0
    have k0 : (0 : Int) ≤ (k : Int) := by omega
    have k8 : (k : Int) ≤ 8 := by omega
    have h1 := hs.sw2.both (loc_blk _ _) (loc_ss _ _)
    have g0 := h1.cell (o := 0) rfl
    by_cases hkn : k < n
    · have d0 : decide (k < n) = true := decide_eq_true hkn
      have k1 : (k : Int) < (n : Int) := by omega
      have hkF : k < F.length := by rw [← HN.out.1]; exact hkn
      obtain ⟨-, b, rfl, -, x0, x1, x2, x3, x4, x5⟩ := h1.sw2.ssAt k hkF
      have htk : (F.take (k + 1)).flatMap seatBs = (F.take k).flatMap seatBs ++ seatBs F[k] := by rw [List.take_succ_eq_append_getElem hkF, List.flatMap_append]; simp
      have hcl := HOK.out F[k] (List.getElem_mem hkF)
      generalize F[k] = s at *
      obtain ⟨e0, e1, e2, e3, e4, e5, e6⟩ := client_parts hcl
      have u0 : IntKind.u8.wrap s.c = s.c := by rw [IntKind.wrap_u8]; omega
      have u1 : IntKind.u64.wrap s.n = s.n := by rw [IntKind.wrap_u64]; omega
      have u2 : IntKind.u64.wrap s.o = s.o := by rw [IntKind.wrap_u64]; omega
      have HX := Lib.hid (And.intro hkn (And.intro hbm (And.intro hm (And.intro hbs (And.intro htk (And.intro hcl hk))))))
      have h5 := hs.alloc (.cells #[.int .i64 s.c, .int .i64 s.n, .int .i64 s.o, .int .i64 s.k, .int .i64 s.a, .int .i64 s.b] 31)
      obtain ⟨y0, y1, y2, y3, y4, y5⟩ := cells6z h5
      have h6 := h5.alloc (.cells #[.int .u8 s.c] 5)
      have h7 := h6.asRow 1 rfl (by unfold maxLen; omega)
      rw [byte1u e0 (by omega)] at h7
      obtain ⟨v8, w8, hr8, h8, -⟩ := app8 (ty := 52) (h6.sw3) h7.sl (by rw [hbm]; simp; omega)
      rw [World.size_alloc] at hr8
      obtain ⟨a8, c8, rfl⟩ := h8.sl.len
      obtain ⟨m8, hm8⟩ : ∃ z, z = (bv (bs ++ [UInt8.ofNat s.c.toNat])).length := ⟨_, rfl⟩
      rw [← hm8] at hr8 h8
      obtain ⟨z0, z1, z2, z3, z4, z5⟩ := cells6z h8.sw3
      have HR8 := Lib.hid hr8
      have h8q : Sep w0 (By (.slice a8 m8 c8) (bs ++ [UInt8.ofNat s.c.toNat]) :: Cl wr.heap.size #[.int .i64 s.c, .int .i64 s.n, .int .i64 s.o, .int .i64 s.k, .int .i64 s.a, .int .i64 s.b] 31 :: DocV g _ F :: L) w8 := (h8.pickL (M := [_, _, _, _]) [0, 2, 3] rfl)
      have HV := Lib.hid (rvint_conv _ _ s.n h8q (by omega) (by omega) (by rw [List.length_append, hbm]; simp; omega))
      clear hs h1 hkn hkF htk hcl hk hbm hm hbs h5 h6 h7 h8 hr8 h8q e0 e1 e2 e3 e4 e5 e6 hm8
      (try dsimp only); repeat' (first | (at_builtin; refine stop ?_) | go_values | go_skip | go_guarded | go_step | go_upon | go_back)
      unfold Stop
      refine wpList_append_run rfl _ _ _ _ rfl rfl rfl HR8.out ?_
      clear HR8 y0 y1 y2 y3 y4 y5 x0 x1 x2 x3 x4 x5 g0
      (try dsimp only); repeat' (first | go_values | go_skip | go_guarded | go_step | go_upon | go_back)
      refine HV.out.mono ?_
      rintro r0 w9 ⟨v9, rfl, h9⟩
      obtain ⟨a9, c9, rfl⟩ := h9.sl.len
      obtain ⟨m9, hm9⟩ : ∃ z, z = (bv (bs ++ [UInt8.ofNat s.c.toNat] ++ vint s.n.toNat)).length := ⟨_, rfl⟩
      rw [← hm9] at h9 ⊢
      have hm9' := Lib.hid (show m9 ≤ m + 11 by have h99 := vint_len s.n.toNat; rw [hm9, bv_length, List.length_append, List.length_append, HX.out.2.1]; simp; omega)
      obtain ⟨z0', z1', z2', z3', z4', z5'⟩ := cells6z h9.sw2
      have HV2 := Lib.hid (rvint_conv _ _ s.o h9 (by have := client_parts HX.out.2.2.2.2.2.1; omega) (by have := client_parts HX.out.2.2.2.2.2.1; omega) (by rw [bv_length] at hm9; rw [← hm9]; have := HX.out.2.2.1; have := hm9'.out; omega))
      clear HV h9 hm9 z0 z1 z2 z3 z4 z5
      (try dsimp only); repeat' (first | go_values | go_skip | go_guarded | go_step | go_upon | go_back)
      refine HV2.out.mono ?_
      rintro r0 w10 ⟨v10, rfl, h10⟩
      obtain ⟨a10, c10, rfl⟩ := h10.sl.len
      obtain ⟨m10, hm10⟩ : ∃ z, z = (bv (bs ++ [UInt8.ofNat s.c.toNat] ++ vint s.n.toNat ++ vint s.o.toNat)).length := ⟨_, rfl⟩
      rw [← hm10] at h10 ⊢
      obtain ⟨z0, z1, z2, z3, z4, z5⟩ := cells6z h10.sw2
      have HRS := Lib.hid (rbytesRes_ok s.k s.a s.b h10 (client_parts HX.out.2.2.2.2.2.1).2.2.2.2.2.2)
      have HM10 := Lib.hid hm10
      clear HV2 h10 hm10 hm9' z0' z1' z2' z3' z4' z5'
      (try dsimp only); repeat' (first | go_values | go_skip | go_guarded | go_step | go_upon | go_back)
      refine HRS.out.mono ?_
      rintro r0 w11 ⟨u11, rfl, h11⟩
      obtain ⟨a11, c11, rfl⟩ := h11.sl.len
      obtain ⟨m11, hm11⟩ : ∃ z, z = (bv (resBs s.k s.a s.b)).length := ⟨_, rfl⟩
      rw [← hm11] at h11 ⊢
      have HT := Lib.hid (rtext_ref _ _ _ _ _ h11.sw2.sl h11.sl (by
        have h91 := vint_len s.n.toNat
        have h92 := vint_len s.o.toNat
        have h93 := resBs_len s.k s.a s.b
        have := HX.out
        simp only [List.length_append, List.length_singleton]
        omega))
      have H11 := Lib.hid h11.sw3.drop
      have h12 : Sep w0 (DocV g _ F :: L) w11 := h11.drop.drop.drop
      have H12 := Lib.hid h12
      clear HRS h11 h12 hm11 z0 z1 z2 z3 z4 z5 H11
      (try dsimp only); repeat' (first | go_values | go_skip | go_guarded | go_step | go_upon | go_back)
      refine HT.out.mono ?_
      rintro r0 w12 ⟨⟨v12, rfl, ho⟩, hb12⟩
      have h13 := H12.out.row hb12 ho
      obtain ⟨a12, c12, rfl⟩ := h13.sl.len
      obtain ⟨m12, hm12⟩ : ∃ z, z = (bv (bs ++ [UInt8.ofNat s.c.toNat] ++ vint s.n.toNat ++ vint s.o.toNat ++ vint (resBs s.k s.a s.b).length ++ resBs s.k s.a s.b)).length := ⟨_, rfl⟩
      rw [← hm12] at h13 ⊢
      have HM12 := Lib.hid hm12
      have H13 := Lib.hid h13
      clear HT ho hb12 h13 hm12 H12
      (try dsimp only); repeat' (first | go_values | go_skip | go_guarded | go_step | go_upon | go_back)
      go_roundw
      case rel => exact ⟨k + 1, m12, a12, c12, _, by have := HX.out; omega, rfl, by have h9 := HM12.out; rw [bv_length] at h9; exact h9.symm, by
        have h9 := HM12.out
        have h91 := vint_len s.n.toNat
        have h92 := vint_len s.o.toNat
        have h93 := resBs_len s.k s.a s.b
        have h94 := vint_len (resBs s.k s.a s.b).length
        have := HX.out
        rw [bv_length] at h9
        simp only [List.length_append, List.length_singleton] at h9
        omega, by go_num, by
        rw [HX.out.2.2.2.2.1, HX.out.2.2.2.1]
        unfold seatBs
        simp only [List.append_assoc], H13.out⟩
      case measure => have := HX.out; simp [intOf]; omega
    · have d0 : decide (k < n) = false := decide_eq_false hkn
      have hk2 : F.take k = F := List.take_of_length_le (by have := HN.out.1; omega)
      have HS := Lib.hid hs
      have HB : Hid (bs = docBs F) := Lib.hid (by rw [hbs, hk2, HN.out.1]; rfl)
      clear hs h1 hk hkn hk2 hbs hbm hm
      (try dsimp only); repeat' (first | go_values | go_skip | go_guarded | go_step | go_upon | go_back)
      go_ret
      exact ⟨_, rfl, by rw [← HB.out]; exact HS.out⟩
end Go.Proofs.Ytjjjkfdppleagaa
