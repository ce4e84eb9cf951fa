/- Stage 5: MsgTurned. -/
import Derived.Test.YtafkbodmiblbnaaDoorMMb15
import Derived.Test.YtafkbodmiblbnaaDoorMSumM
namespace Go.Proofs.YtafkbodmiblbnaaDoor
open Go Go.RowKit
set_option linter.unusedVariables false
set_option linter.unusedSimpArgs false
theorem xor_u8 (a b : Nat) (ha : a < 256) (hb : b < 256) : bits .xor .u8 (a : Int) (b : Int) = ((a ^^^ b : Nat) : Int) := by
  have hx : a ^^^ b < 2 ^ 8 := Nat.xor_lt_two_pow (by omega) (by omega)
  have h1 : (BitVec.ofInt 8 (a : Int)).toNat = a := by
    rw [BitVec.ofInt_natCast, BitVec.toNat_ofNat]; exact Nat.mod_eq_of_lt (by omega)
  have h2 : (BitVec.ofInt 8 (b : Int)).toNat = b := by
    rw [BitVec.ofInt_natCast, BitVec.toNat_ofNat]; exact Nat.mod_eq_of_lt (by omega)
  show IntKind.u8.wrap ((BitVec.ofInt 8 (a : Int) ^^^ BitVec.ofInt 8 (b : Int)).toNat : Int) = _
  rw [BitVec.toNat_xor, h1, h2]
  simp [IntKind.wrap, IntKind.bits, IntKind.signed]
  omega
theorem body_min {g : MgM} (h : chkB g = true) : 4 ≤ (bodyB g.x).length := by
  obtain ⟨h0, -⟩ := chk_parts h
  unfold bodyB
  have a2 : (hdBs g.x).length = 3 := rfl
  simp only [List.length_append]
  have h0 : mfieldsOf g.x.k ≠ 0 := h0
  rcases has_cases g.x.k with h1 | ⟨k1, k2, -, hc⟩
  · exact absurd h1 h0
  · rcases hc with ⟨h16, -⟩ | ⟨h16, h32, -⟩ | ⟨h16, h32, -⟩ | ⟨-, -, -, h128⟩ | ⟨h16, h32, h64, h128⟩
    · have : 1 ≤ (entB g.x).length := by
        unfold entB
        rw [if_pos h16]
        unfold rowTx
        have := vint_pos (entBs g.x.en).length
        rw [List.length_append]
        omega
      omega
    · have : 1 ≤ (entB g.x).length := by
        unfold entB
        rw [if_neg (by rw [show bit (mfieldsOf g.x.k) 16 = false from h16]; simp), if_pos h32]
        simp
      omega
    · have : 1 ≤ (entB g.x).length := by
        unfold entB
        rw [if_neg (by rw [show bit (mfieldsOf g.x.k) 16 = false from h16]; simp), if_pos h32]
        simp
      omega
    · have : 1 ≤ (imgB' g.x).length := by
        unfold imgB'
        rw [if_pos h128]
        unfold imgBs
        have := vint_pos g.x.ib.toNat
        rw [List.length_append]
        omega
      omega
    · have : 1 ≤ (numsB (mfieldsOf g.x.k) g.x 4).length := by
        have hb : bit (mfieldsOf g.x.k) 1 = true := by
          have hk : g.x.k = 1 ∨ g.x.k = 2 ∨ g.x.k = 3 ∨ g.x.k = 4 ∨ g.x.k = 5 ∨ g.x.k = 6 ∨ g.x.k = 7 ∨ g.x.k = 8 ∨ g.x.k = 9 ∨ g.x.k = 10 := by omega
          rcases hk with e | e | e | e | e | e | e | e | e | e <;> rw [e] at h16 h32 h128 ⊢ <;> first | decide | exact absurd h16 (by decide) | exact absurd h32 (by decide) | exact absurd h128 (by decide)
        unfold numsB numsB numsB numsB
        have hv := vint_pos (numAt g.x 0).toNat
        rw [if_pos (show bit (mfieldsOf g.x.k) (2 ^ 0) = true from hb)]
        simp only [List.length_append]
        omega
      omega
set_option maxRecDepth 100000 in
set_option maxHeartbeats 64000000 in
theorem turned05_any (s : SdM) (at_ : Int) (t : Nat) (w : World) (hs : SdS w s) (ht : t < 4294967296) (hk : KindsAt w ∧ MKindsAt w) :
    Calls Tryd.prog 5 #[.agg (sdC s), .int .i64 at_, .int .u32 t] w fun e w' => e = .returned (.bool true) ∧ Below w.heap.size w w' := by
  have HKX : Hid (∀ {L : List Thing} wx, Sep w L wx → KindsAt wx ∧ MKindsAt wx) := Lib.hid fun wx hx => ⟨hk.1.below hx.low, hk.2.below hx.low⟩
  have h1 := (Sep.start w).alloc (.cells (sdC s) 26)
  obtain ⟨b1, hb1⟩ : ∃ z, z = w.heap.size := ⟨_, rfl⟩
  obtain ⟨w1, hw1⟩ : ∃ z, z = w.alloc (.cells (sdC s) 26) := ⟨_, rfl⟩
  rw [← hw1, ← hb1] at h1
  have HMD := Lib.hid (made05_any s h1 (fun wx hx => hs.below hx.low))
  have HLS := Lib.hid (h1.loadW 26 Tryd.underlying26 rfl (by rw [show (sdC s).size = 9 from rfl]; kernel_rfl))
  obtain ⟨sdc, hsdc⟩ : ∃ z, z = sdC s := ⟨_, rfl⟩
  rw [← hsdc] at HMD HLS hw1 ⊢
  have HT := Lib.hid ht
  have t0 : (0 : Int) ≤ (t : Int) := by omega
  have t1 : (t : Int) < 4294967296 := by omega
  clear h1 hs hk hsdc ht
  go_enter Tryd.func5, Tryd.ntmps5
  (try dsimp only); repeat' (first | (with_reducible show wpList _ _ _ (Oper.mk _ (Op.load 26 _) _ _ _ _ :: _) _ _; refine stopP ?_) | go_values | go_skip | go_guarded | go_step | go_upon | go_back)
  unfold StopP
  rw [← hw1, ← hb1]
  have hq_ := HLS.out
  refine wpList_load_run rfl 26 _ rfl _ _ rfl hq_ ?_
  clear hq_ HLS hw1 hb1
  (try dsimp only); repeat' (first | go_values | go_skip | go_guarded | go_step | go_upon | go_back)
  refine HMD.out.mono ?_
  rintro r0 w2 ⟨g, rfl, hc, h2⟩
  obtain ⟨l1, l2⟩ := chk_lens hc
  have HBY := Lib.hid (mbytes_ok g h2 (fun wx hx => gm_own0 hx) (fun wx hx => HKX.out wx hx) (by omega) (by omega) hc)
  have HBK := Lib.hid (prsMsg_back (x := g.x) (by rw [chkX_x]; exact hc))
  have hle := body_len hc
  have hmi := body_min hc
  obtain ⟨bd, hbd⟩ : ∃ z, z = bodyB g.x := ⟨_, rfl⟩
  rw [← hbd] at HBY HBK hle hmi
  have hsl := (seal_take bd).2.2
  clear HMD h2 hc l1 l2 hbd
  (try dsimp only); repeat' (first | go_values | go_skip | go_guarded | go_step | go_upon | go_back)
  refine HBY.out.mono ?_
  rintro r0 w3 ⟨u3, rfl, h3⟩
  obtain ⟨bb, uc, rfl⟩ := h3.byAt (by omega)
  obtain ⟨n3, hn3⟩ : ∃ z, z = (sealL bd).length := ⟨_, rfl⟩
  have HN3 := Lib.hid hn3
  rw [← hn3] at h3 hsl ⊢
  have HSZ : Hid (8 ≤ n3 ∧ n3 ≤ 65536 ∧ n3 = bd.length + 4) := Lib.hid (by omega)
  have d0 : decide ((n3 : Int) < 8) = false := decide_eq_false (by omega)
  have d1 : ¬ (n3 : Int) < 8 := by omega
  have n0 : (0 : Int) ≤ (n3 : Int) := by omega
  have e8 : IntKind.i64.wrap (8 * (n3 : Int)) = 8 * (n3 : Int) := IntWalk.i64_in _ (by omega)
  have HB := Lib.hid (fun wx => bring_any at_ (8 * (n3 : Int)) wx (by unfold Sm; omega))
  have hr : 0 ≤ at_ % (8 * (n3 : Int)) ∧ at_ % (8 * (n3 : Int)) < 8 * n3 := ⟨Int.emod_nonneg _ (by omega), Int.emod_lt_of_pos _ (by omega)⟩
  obtain ⟨n, hn⟩ : ∃ n : Nat, at_ % (8 * (n3 : Int)) = n := ⟨(at_ % (8 * (n3 : Int))).toNat, by omega⟩
  rw [hn] at HB hr
  have HNN : Hid (n < 8 * n3) := Lib.hid (by omega)
  have H3 := Lib.hid h3
  clear HBY hle hmi hsl hn3 hn hr h3
  (try dsimp only); repeat' (first | go_values | go_skip | go_guarded | go_step | go_upon | go_back)
  refine (HB.out _).mono ?_
  rintro r0 w4 ⟨rfl, rfl⟩
  clear HB d0 d1
  (try dsimp only); repeat' (first | go_values | go_skip | go_guarded | go_step | go_upon | go_back)
  go_loopw [10, 11] (fun sm iv wr => ∃ j : Nat, j ≤ 32 ∧ iv = .int .i64 j ∧ sm = .bool (turnS t n n3 j) ∧ Sep w (By (.slice (some ⟨bb, 0, none⟩) n3 uc) (turnL (sealL bd) t n j) :: LnR g.lv g.en.p.ls :: By g.cv g.ck :: EnT g.ev g.ps :: [Cl b1 sdc 26]) wr) (fun _ iv _ => 32 - (intOf iv).toNat)
  case atStart => exact ⟨0, by omega, rfl, rfl, H3.out⟩
  case round =>
    obtain ⟨j, hj, rfl, rfl, hs⟩ := hrel
    clear H3
    have j0 : (0 : Int) ≤ (j : Int) := by omega
    by_cases hj32 : j < 32
    · have d2 : decide ((j : Int) < 32) = true := decide_eq_true (by omega)
      have g2 : (j : Int) < 32 := by omega
      have HJ := Lib.hid hj32
      obtain ⟨S, hS_⟩ : ∃ S, S = turnS t n n3 j := ⟨_, rfl⟩
      have HSS := Lib.hid hS_
      rw [← hS_]
      have HHS := Lib.hid hs
      obtain ⟨kk, hkk⟩ : ∃ kk, kk = n + j := ⟨_, rfl⟩
      have ek : IntKind.i64.wrap ((n : Int) + (j : Int)) = (kk : Int) := by
        rw [show (n : Int) + (j : Int) = (kk : Int) by omega]
        exact IntWalk.i64_in _ (by have := HNN.out; have := HSZ.out; omega)
      have hab : bits BinOp.and IntKind.u32 ((t : Int) / 2 ^ j) 1 = ((t / 2 ^ j % 2 : Nat) : Int) := by
        rw [show ((t : Int) / 2 ^ j) = ((t / 2 ^ j : Nat) : Int) by simp, and1_u32 _ (Nat.lt_of_le_of_lt (Nat.div_le_self _ _) HT.out)]
      have HKK := Lib.hid hkk
      have k0 : (0 : Int) ≤ (kk : Int) := by omega
      rcases Nat.mod_two_eq_zero_or_one (t / 2 ^ j) with hbit | hbit
      · have q1 : (bits BinOp.and IntKind.u32 ((t : Int) / 2 ^ j) 1 == 1) = false := by rw [hab, hbit]; rfl
        have HSN : Hid (turnS t n n3 (j + 1) = S ∧ turnL (sealL bd) t n (j + 1) = turnL (sealL bd) t n j) := Lib.hid (by
          rw [show turnS t n n3 (j + 1) = if t / 2 ^ j % 2 = 1 ∧ n + j < 8 * n3 then true else turnS t n n3 j from rfl, show turnL (sealL bd) t n (j + 1) = if t / 2 ^ j % 2 = 1 ∧ n + j < 8 * (sealL bd).length then flipK (turnL (sealL bd) t n j) (n + j) else turnL (sealL bd) t n j from rfl]
          rw [if_neg (fun h => by rw [hbit] at h; exact absurd h.1 (by decide)), if_neg (fun h => by rw [hbit] at h; exact absurd h.1 (by decide)), HSS.out]
          exact ⟨rfl, rfl⟩)
        clear hs hS_ hj hj32 hkk hab hbit
        (try dsimp only); repeat' (first | go_values | go_skip | go_guarded | go_step | go_upon | go_back)
        go_roundw
        case rel => exact ⟨j + 1, by have := HJ.out; omega, by go_num, by rw [HSN.out.1], by rw [HSN.out.2]; exact HHS.out⟩
        case measure => have := HJ.out; simp [intOf]; omega
      · have q1 : (bits BinOp.and IntKind.u32 ((t : Int) / 2 ^ j) 1 == 1) = true := by rw [hab, hbit]; rfl
        by_cases hin : kk < 8 * n3
        · have d3 : decide ((kk : Int) < 8 * (n3 : Int)) = true := decide_eq_true (by omega)
          have g3 : (kk : Int) < 8 * (n3 : Int) := by omega
          have hl1 : (turnL (sealL bd) t n j).length = n3 := by rw [turnL_len, HN3.out]
          obtain ⟨q, hq⟩ : ∃ q, q = kk / 8 := ⟨_, rfl⟩
          obtain ⟨r, hr⟩ : ∃ r, r = kk % 8 := ⟨_, rfl⟩
          have hq3 : q < n3 := by omega
          obtain ⟨-, hn3c, hcell, hfr, hset⟩ := hs.byForm (by have := HSZ.out; omega)
          have c0 := hcell q (by omega)
          have f0 := hfr q
          have hs2 := hset q ((turnL (sealL bd) t n j)[q]'(by omega) ^^^ UInt8.ofNat (2 ^ r)) (by omega)
          have HSN : Hid (turnS t n n3 (j + 1) = true ∧ turnL (sealL bd) t n (j + 1) = (turnL (sealL bd) t n j).set q ((turnL (sealL bd) t n j)[q]'(by omega) ^^^ UInt8.ofNat (2 ^ r))) := Lib.hid (by
            rw [show turnS t n n3 (j + 1) = if t / 2 ^ j % 2 = 1 ∧ n + j < 8 * n3 then true else turnS t n n3 j from rfl]
            rw [show turnL (sealL bd) t n (j + 1) = if t / 2 ^ j % 2 = 1 ∧ n + j < 8 * (sealL bd).length then flipK (turnL (sealL bd) t n j) (n + j) else turnL (sealL bd) t n j from rfl, ← HN3.out, if_pos ⟨hbit, by omega⟩, if_pos ⟨hbit, by omega⟩, ← hkk]
            unfold flipK
            rw [← hq, ← hr, List.getD_eq_getElem?_getD, List.getElem?_eq_getElem (by omega)]
            exact ⟨rfl, rfl⟩)
          have hx8 := xor8 ((turnL (sealL bd) t n j)[q]'(by omega)) r (by omega)
          have hxl := ((turnL (sealL bd) t n j)[q]'(by omega)).toNat_lt
          generalize (turnL (sealL bd) t n j)[q]'(by omega) = xb at *
          have hs3 : Sep w (By (.slice (some ⟨bb, 0, none⟩) n3 uc) (turnL (sealL bd) t n (j + 1)) :: LnR g.lv g.en.p.ls :: By g.cv g.ck :: EnT g.ev g.ps :: [Cl b1 sdc 26]) (wr.setCell ⟨bb, q, none⟩ (.int .u8 (xb.toNat ^^^ 2 ^ r : Nat))) := by
            rw [HSN.out.2, ← hx8]; exact hs2
          have HS3 := Lib.hid hs3
          have qi : (kk : Int).tdiv 8 = (q : Int) := by rw [Int.tdiv_eq_ediv_of_nonneg k0]; omega
          have qi2 : (kk : Int) / 8 = (q : Int) := by omega
          have ri : (kk : Int).tmod 8 = (r : Int) := by rw [Int.tmod_eq_emod_of_nonneg k0]; omega
          have ri2 : (kk : Int) % 8 = (r : Int) := by omega
          have q0 : (0 : Int) ≤ (q : Int) := by omega
          have q3 : (q : Int) < (n3 : Int) := by omega
          have r0 : (0 : Int) ≤ (r : Int) := by omega
          have wq : IntKind.i64.wrap (q : Int) = (q : Int) := IntWalk.i64_in _ (by have := HSZ.out; omega)
          have wr_ : IntKind.i64.wrap (r : Int) = (r : Int) := IntWalk.i64_in _ (by omega)
          have r8 : (r : Int) < 8 := by omega
          have e8' : IntKind.i64.wrap (8 * (n3 : Int)) = 8 * (n3 : Int) := IntWalk.i64_in _ (by have := HSZ.out; omega)
          obtain ⟨x, hx⟩ : ∃ x : Int, x = xb.toNat := ⟨_, rfl⟩
          rw [← hx] at c0
          have HXX := Lib.hid (And.intro hx hxl)
          have HR8 := Lib.hid (show r < 8 by omega)
          clear hs hS_ hj hj32 hkk hab hbit hin hl1 hq hr hq3 hn3c hcell hfr hset hs2 hx8 hxl hs3 hx
          (try dsimp only); repeat' (first | go_values | go_skip | go_guarded | go_step | go_upon | go_back)
          refine wp_region_G (fun w' => w'.cell? ⟨bb, q, none⟩ = some (.int .u8 x)) [13] (by kernel_rfl) c0 (fun hS => ?_)
          try dsimp only at hS
          refine wpAnyG_take' (i := 0) (v := ?v0_1tu) rfl (by kernel_rfl) (by kernel_rfl) (by kernel_rfl) (by kernel_rfl) (fun _ _ _ h => h) (Or.inl ⟨by rfl, ?hy0_1tu⟩) hS ?rest0_1tu
          case hy0_1tu => intro w hSw; (try dsimp only at hSw); go_simp; (try with_reducible rfl)
          case rest0_1tu =>
          try simp only [List.getElem_toArray, List.getElem_cons_succ, List.getElem_cons_zero, Act.put, List.setIfInBounds_toArray, List.set_cons_zero, List.set_cons_succ]
          refine wpAnyG_take' (i := 1) (v := ?v1_2tu) rfl (by kernel_rfl) (by kernel_rfl) (by kernel_rfl) (by kernel_rfl) (fun _ _ _ h => h) (Or.inl ⟨by rfl, ?hy1_2tu⟩) hS ?rest1_2tu
          case hy1_2tu => intro w hSw; (try dsimp only at hSw); go_simp; (try with_reducible rfl)
          case rest1_2tu =>
          try simp only [List.getElem_toArray, List.getElem_cons_succ, List.getElem_cons_zero, Act.put, List.setIfInBounds_toArray, List.set_cons_zero, List.set_cons_succ]
          refine wpAnyG_take' (i := 2) (v := ?v2_3tu) rfl (by kernel_rfl) (by kernel_rfl) (by kernel_rfl) (by kernel_rfl) (fun _ _ _ h => h) (Or.inl ⟨by rfl, ?hy2_3tu⟩) hS ?rest2_3tu
          case hy2_3tu => intro w hSw; (try dsimp only at hSw); go_simp; (try with_reducible rfl)
          case rest2_3tu =>
          try simp only [List.getElem_toArray, List.getElem_cons_succ, List.getElem_cons_zero, Act.put, List.setIfInBounds_toArray, List.set_cons_zero, List.set_cons_succ]
          refine wpAnyG_take' (i := 3) (v := ?v3_4tu) rfl (by kernel_rfl) (by kernel_rfl) (by kernel_rfl) (by kernel_rfl) (fun _ _ _ h => h) (Or.inl ⟨by rfl, ?hy3_4tu⟩) hS ?rest3_4tu
          case hy3_4tu => intro w hSw; (try dsimp only at hSw); go_simp; (try with_reducible rfl)
          case rest3_4tu =>
          try simp only [List.getElem_toArray, List.getElem_cons_succ, List.getElem_cons_zero, Act.put, List.setIfInBounds_toArray, List.set_cons_zero, List.set_cons_succ]
          refine wpAnyG_take' (i := 4) (v := ?v4_5tu) rfl (by kernel_rfl) (by kernel_rfl) (by kernel_rfl) (by kernel_rfl) (fun _ _ _ h => h) (Or.inl ⟨by rfl, ?hy4_5tu⟩) hS ?rest4_5tu
          case hy4_5tu => intro w hSw; (try dsimp only at hSw); go_simp; (try with_reducible rfl)
          case rest4_5tu =>
          try simp only [List.getElem_toArray, List.getElem_cons_succ, List.getElem_cons_zero, Act.put, List.setIfInBounds_toArray, List.set_cons_zero, List.set_cons_succ]
          refine wpAnyG_take' (i := 5) (v := ?v5_6tu) rfl (by kernel_rfl) (by kernel_rfl) (by kernel_rfl) (by kernel_rfl) (fun _ _ _ h => h) (Or.inl ⟨by rfl, ?hy5_6tu⟩) hS ?rest5_6tu
          case hy5_6tu => intro w hSw; (try dsimp only at hSw); go_simp; (try with_reducible rfl)
          case rest5_6tu =>
          try simp only [List.getElem_toArray, List.getElem_cons_succ, List.getElem_cons_zero, Act.put, List.setIfInBounds_toArray, List.set_cons_zero, List.set_cons_succ]
          refine wpAnyG_take' (i := 6) (v := ?v6_7tu) rfl (by kernel_rfl) (by kernel_rfl) (by kernel_rfl) (by kernel_rfl) (fun _ _ _ h => h) (Or.inl ⟨by rfl, ?hy6_7tu⟩) hS ?rest6_7tu
          case hy6_7tu => intro w hSw; (try dsimp only at hSw); go_simp; (try with_reducible rfl)
          case rest6_7tu =>
          try simp only [List.getElem_toArray, List.getElem_cons_succ, List.getElem_cons_zero, Act.put, List.setIfInBounds_toArray, List.set_cons_zero, List.set_cons_succ]
          refine wpAnyG_take' (i := 7) (v := ?v7_8tu) rfl (by kernel_rfl) (by kernel_rfl) (by kernel_rfl) (by kernel_rfl) (fun _ _ _ h => h) (Or.inl ⟨by rfl, ?hy7_8tu⟩) hS ?rest7_8tu
          case hy7_8tu => intro w hSw; (try dsimp only at hSw); go_simp; (try with_reducible rfl)
          case rest7_8tu =>
          try simp only [List.getElem_toArray, List.getElem_cons_succ, List.getElem_cons_zero, Act.put, List.setIfInBounds_toArray, List.set_cons_zero, List.set_cons_succ]
          refine wpAnyG_take' (i := 8) (v := ?v8_9tu) rfl (by kernel_rfl) (by kernel_rfl) (by kernel_rfl) (by kernel_rfl) (fun _ _ _ h => h) (Or.inl ⟨by rfl, ?hy8_9tu⟩) hS ?rest8_9tu
          case hy8_9tu => intro w hSw; (try dsimp only at hSw); go_simp; (try with_reducible rfl)
          case rest8_9tu =>
          try simp only [List.getElem_toArray, List.getElem_cons_succ, List.getElem_cons_zero, Act.put, List.setIfInBounds_toArray, List.set_cons_zero, List.set_cons_succ]
          refine wpAnyG_take' (i := 9) (v := ?v9_10tu) rfl (by kernel_rfl) (by kernel_rfl) (by kernel_rfl) (by kernel_rfl) (fun _ _ _ h => h) (Or.inl ⟨by rfl, ?hy9_10tu⟩) hS ?rest9_10tu
          case hy9_10tu => intro w hSw; (try dsimp only at hSw); go_simp; (try with_reducible rfl)
          case rest9_10tu =>
          try simp only [List.getElem_toArray, List.getElem_cons_succ, List.getElem_cons_zero, Act.put, List.setIfInBounds_toArray, List.set_cons_zero, List.set_cons_succ]
          refine wpAnyG_take' (i := 10) (v := ?v10_11tu) rfl (by kernel_rfl) (by kernel_rfl) (by kernel_rfl) (by kernel_rfl) (fun _ _ _ h => h) (Or.inl ⟨by rfl, ?hy10_11tu⟩) hS ?rest10_11tu
          case hy10_11tu => intro w hSw; (try dsimp only at hSw); go_simp; (try with_reducible rfl)
          case rest10_11tu =>
          try simp only [List.getElem_toArray, List.getElem_cons_succ, List.getElem_cons_zero, Act.put, List.setIfInBounds_toArray, List.set_cons_zero, List.set_cons_succ]
          refine wpAnyG_take' (i := 11) (v := ?v11_12tu) rfl (by kernel_rfl) (by kernel_rfl) (by kernel_rfl) (by kernel_rfl) (fun _ _ _ h => h) (Or.inl ⟨by rfl, ?hy11_12tu⟩) hS ?rest11_12tu
          case hy11_12tu => intro w hSw; (try dsimp only at hSw); go_simp; (try with_reducible rfl)
          case rest11_12tu =>
          try simp only [List.getElem_toArray, List.getElem_cons_succ, List.getElem_cons_zero, Act.put, List.setIfInBounds_toArray, List.set_cons_zero, List.set_cons_succ]
          refine wpAnyG_take' (i := 12) (v := ?v12_13tu) rfl (by kernel_rfl) (by kernel_rfl) (by kernel_rfl) (by kernel_rfl) (fun _ _ _ h => h) (Or.inl ⟨by rfl, ?hy12_13tu⟩) hS ?rest12_13tu
          case hy12_13tu => intro w hSw; (try dsimp only at hSw); go_simp; (try with_reducible rfl)
          case rest12_13tu =>
          try simp only [List.getElem_toArray, List.getElem_cons_succ, List.getElem_cons_zero, Act.put, List.setIfInBounds_toArray, List.set_cons_zero, List.set_cons_succ]
          refine wpAnyG_one (i := 13) (by kernel_rfl) rfl (fun K hK => ?_)
          go_simp
          refine hK.out _ _ (fun hno => by cases hno) ?_
          clear K hK
          try simp only [List.getElem_toArray, List.getElem_cons_succ, List.getElem_cons_zero, Act.put, List.setIfInBounds_toArray, List.set_cons_zero, List.set_cons_succ]
          refine wpAnyG_done (by kernel_rfl) ?_ _
          try simp only [List.getElem_toArray, List.getElem_cons_succ, List.getElem_cons_zero, Act.put, List.setIfInBounds_toArray, List.set_cons_zero, List.set_cons_succ]
          (try dsimp only); repeat' (first | go_values | go_skip | go_guarded | go_step | go_upon | go_back)
          have hxor : bits BinOp.xor IntKind.u8 x (2 ^ r % 256) = ((xb.toNat ^^^ 2 ^ r : Nat) : Int) := by
            have h8 : 2 ^ r < 256 := Nat.pow_lt_pow_right (n := 8) (by decide) HR8.out
            rw [HXX.out.1, show (2 : Int) ^ r % 256 = ((2 ^ r : Nat) : Int) by rw [Int.emod_eq_of_lt (Int.pow_nonneg (by decide)) (by have h9 : ((2 ^ r : Nat) : Int) < 256 := by omega
                                                                                                                                      simpa using h9)]; simp, xor_u8 _ _ HXX.out.2 h8]
          rw [hxor]
          go_roundw
          case rel => exact ⟨j + 1, by have := HJ.out; omega, by go_num, by rw [HSN.out.1], HS3.out.drew⟩
          case measure => have := HJ.out; simp [intOf]; omega
        · have d3 : decide ((kk : Int) < 8 * (n3 : Int)) = false := decide_eq_false (by omega)
          have g3 : ¬ (kk : Int) < 8 * (n3 : Int) := by omega
          have e8' : IntKind.i64.wrap (8 * (n3 : Int)) = 8 * (n3 : Int) := IntWalk.i64_in _ (by have := HSZ.out; omega)
          have HSN : Hid (turnS t n n3 (j + 1) = S ∧ turnL (sealL bd) t n (j + 1) = turnL (sealL bd) t n j) := Lib.hid (by
            rw [show turnS t n n3 (j + 1) = if t / 2 ^ j % 2 = 1 ∧ n + j < 8 * n3 then true else turnS t n n3 j from rfl, show turnL (sealL bd) t n (j + 1) = if t / 2 ^ j % 2 = 1 ∧ n + j < 8 * (sealL bd).length then flipK (turnL (sealL bd) t n j) (n + j) else turnL (sealL bd) t n j from rfl]
            rw [if_neg (fun h => hin (by rw [hkk]; exact h.2)), if_neg (fun h => hin (by rw [hkk, HN3.out]; exact h.2)), HSS.out]
            exact ⟨rfl, rfl⟩)
          clear hs hS_ hj hj32 hkk hab hbit hin
          (try dsimp only); repeat' (first | go_values | go_skip | go_guarded | go_step | go_upon | go_back)
          go_roundw
          case rel => exact ⟨j + 1, by have := HJ.out; omega, by go_num, by rw [HSN.out.1], by rw [HSN.out.2]; exact HHS.out⟩
          case measure => have := HJ.out; simp [intOf]; omega
    · have hje : j = 32 := by omega
      subst hje
      rw [show ((32 : Nat) : Int) = 32 from rfl]
      have hres : (prsMsg (turnL (sealL bd) t n 32)).2 = if turnS t n n3 32 = true then 20 else 0 := by
        by_cases hS : turnS t n n3 32 = true
        · rw [if_pos hS]
          have h1 : (sealL bd).length = bd.length + 4 := (seal_take bd).2.2
          have h2 := turned_bad bd t n bd.length h1 (by rw [← HN3.out]; exact hS)
          have h3 : (turnL (sealL bd) t n 32).length = bd.length + 4 := by rw [turnL_len]; exact h1
          unfold prsMsg
          rw [if_neg (by have := HSZ.out; omega), if_neg (by omega), h3, Nat.add_sub_cancel, if_neg h2]
        · rw [if_neg hS]
          have h1 := turnL_same (sealL bd) t n 32 (by rw [← HN3.out]; simpa using hS)
          rw [h1, HBK.out]
      obtain ⟨l9, hl9⟩ : ∃ z, z = turnL (sealL bd) t n 32 := ⟨_, rfl⟩
      obtain ⟨S, hS⟩ : ∃ z, z = turnS t n n3 32 := ⟨_, rfl⟩
      rw [← hl9] at hs hres
      rw [← hS] at hres ⊢
      have hpa := mparse_any l9 hs hs.sl (fun wx hx => HKX.out wx hx)
      rw [hres] at hpa
      obtain ⟨er, her⟩ : ∃ z : Int, z = if S = true then 20 else 0 := ⟨_, rfl⟩
      rw [← her] at hpa
      have HPA := Lib.hid hpa
      have HER := Lib.hid her
      clear hs hres hpa hl9 hS HBK her j0 hj hj32
      (try dsimp only); repeat' (first | go_values | go_skip | go_guarded | go_step | go_upon | go_back)
      refine HPA.out.mono ?_
      rintro r0 w6 ⟨g2, rfl, -, h6⟩
      clear HPA
      have h7 := h6.alloc (.cells #[.int .i64 0, .int .i64 0, .int .i64 0, .int .i64 0, .int .i64 0, .int .i64 0, .int .i64 0, .int .i64 0, .int .i64 0, .int .i64 0, .string ⟨#[]⟩, .int .i64 0, .int .i64 0, .slice none 0 0, .int .i64 0, .int .i64 0, .int .i64 0, .bool false, .int .i64 0, .slice none 0 0, .slice none 0 0, .int .i64 0] 39)
      obtain ⟨b7, hb7⟩ : ∃ z, z = w6.heap.size := ⟨_, rfl⟩
      obtain ⟨w7, hw7⟩ : ∃ z, z = w6.alloc (.cells #[.int .i64 0, .int .i64 0, .int .i64 0, .int .i64 0, .int .i64 0, .int .i64 0, .int .i64 0, .int .i64 0, .int .i64 0, .int .i64 0, .string ⟨#[]⟩, .int .i64 0, .int .i64 0, .slice none 0 0, .int .i64 0, .int .i64 0, .int .i64 0, .bool false, .int .i64 0, .slice none 0 0, .slice none 0 0, .int .i64 0] 39) := ⟨_, rfl⟩
      rw [← hw7, ← hb7] at h7
      have HT2 := Lib.hid (h7.thereAt 0 22 (by show 22 ≤ 22; omega))
      have h8 := h7.storeW (mgC g2) rfl
      obtain ⟨o1, o2, o3⟩ := gm_shape (gm_own0 (g := g2) h8.drop)
      have H1C := Lib.hid (mgC_one g2 o1 o2 o3)
      obtain ⟨mc, hmc⟩ : ∃ z, z = mgC g2 := ⟨_, rfl⟩
      have HMS : Hid (mc.size = 22) := Lib.hid (by rw [hmc]; rfl)
      rw [← hmc] at H1C h8 ⊢
      obtain ⟨w8, hw8⟩ : ∃ z, z = w7.setCells b7 0 mc.toList := ⟨_, rfl⟩
      rw [← hw8] at h8
      have HWK := Lib.hid (works05_any h8 (fun wx hx => HKX.out wx hx))
      clear h6 h7 h8 o1 o2 o3 hmc
      (try dsimp only); repeat' (first | (with_reducible show wpList _ _ _ (Oper.mk _ (Op.store 39 _ _) _ _ _ _ :: _) _ _; refine stopP ?_) | go_values | go_skip | go_guarded | go_step | go_upon | go_back)
      unfold StopP
      rw [← hw7, ← hb7]
      refine wpList_store_mid rfl 39 (.tmp 13) (.tmp 68) rfl b7 0 mc rfl rfl (by rw [HMS.out]; exact HT2.out) (by rw [HMS.out]; kernel_rfl) H1C.out ?_
      rw [← hw8]
      clear hw7 hb7 hw8 HT2 H1C
      cases S with
      | true =>
        obtain rfl : er = 20 := by rw [HER.out]; rfl
        clear HER
        (try dsimp only); repeat' (first | go_values | go_skip | go_guarded | go_step | go_upon | go_back)
        refine HWK.out.mono ?_
        rintro r0 w9 ⟨rfl, h9⟩
        have H9 := Lib.hid h9.low
        clear HWK h9
        (try dsimp only); repeat' (first | go_values | go_skip | go_guarded | go_step | go_upon | go_back)
        go_ret
        exact ⟨rfl, H9.out⟩
      | false =>
        obtain rfl : er = 0 := by rw [HER.out]; rfl
        clear HER
        (try dsimp only); repeat' (first | go_values | go_skip | go_guarded | go_step | go_upon | go_back)
        refine HWK.out.mono ?_
        rintro r0 w9 ⟨rfl, h9⟩
        have H9 := Lib.hid h9.low
        clear HWK h9
        (try dsimp only); repeat' (first | go_values | go_skip | go_guarded | go_step | go_upon | go_back)
        go_ret
        exact ⟨rfl, H9.out⟩
theorem turned05_in (v : Value) (at_ t : Int) (w : World) (h : Av Tryd.prog w 26 v) (ht : (Lit.int .u32 t).wf = true) (hk : KindsAt w ∧ MKindsAt w) :
    Calls Tryd.prog 5 #[v, .int .i64 at_, .int .u32 t] w fun e w' => e = .returned (.bool true) ∧ Below w.heap.size w w' := by
  obtain ⟨s, rfl, hs⟩ := sd5_of h
  have h1 : 0 ≤ t ∧ t < 4294967296 := by
    simp [Lit.wf, IntKind.min, IntKind.max, IntKind.bits, IntKind.signed] at ht
    omega
  obtain ⟨n, rfl⟩ : ∃ n : Nat, t = n := ⟨t.toNat, by omega⟩
  exact turned05_any s at_ n w hs (by omega) hk
end Go.Proofs.YtafkbodmiblbnaaDoor
