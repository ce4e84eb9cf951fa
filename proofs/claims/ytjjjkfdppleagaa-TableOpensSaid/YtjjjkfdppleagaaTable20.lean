/- Package table: Open. -/
import Derived.Test.YtjjjkfdppleagaaTable19
namespace Go.Proofs.Ytjjjkfdppleagaa
open Go Go.RowKit
set_option linter.unusedVariables false
set_option linter.unusedSimpArgs false
def OpnR (w0 : World) (L : List Thing) (b : List UInt8) (e : Ending) (w' : World) : Prop :=
  (∃ T g, opnT b = (some T, 0) ∧ e = .returned (.tuple #[.pointer (some ⟨g, 0, none⟩), .int .i64 0]) ∧ Sep w0 (TabT g T :: L) w') ∨ (∃ er, opnT b = (none, er) ∧ er ≠ 0 ∧ e = .returned (.tuple #[.pointer none, .int .i64 er]) ∧ Sep w0 L w')
theorem OpnR.no {w0 w' : World} {L : List Thing} {b : List UInt8} {er : Int} (h : opnT b = (none, er)) (h0 : er ≠ 0) (hs : Sep w0 L w') : OpnR w0 L b (.returned (.tuple #[.pointer none, .int .i64 er])) w' := .inr ⟨er, h, h0, rfl, hs⟩
theorem OpnR.yes {w0 w' : World} {L : List Thing} {b : List UInt8} {T : List SW} {g : Nat} (h : opnT b = (some T, 0)) (hs : Sep w0 (TabT g T :: L) w') : OpnR w0 L b (.returned (.tuple #[.pointer (some ⟨g, 0, none⟩), .int .i64 0])) w' := .inl ⟨T, g, h, rfl, hs⟩
set_option maxRecDepth 100000 in
set_option maxHeartbeats 0 in
theorem topen_any {w0 w : World} {L : List Thing} (v : Value) (b : List UInt8) (h : Sep w0 L w) (hv : Sl w v (bv b)) (hl : b.length ≤ 1000000) :
    Calls Try.prog 29 #[v] w (OpnR w0 L b) := by
  have HRD := Lib.hid (read_sep v b w h hv (by omega))
  have hlt := rdNe_lt b 0
  have HN : Hid (∀ wx M g, Sep w0 (RdrT g b 0 :: M) wx → Calls Try.prog 49 #[.pointer (some ⟨g, 0, none⟩), .int .i64 8] wx fun r w' => r = .returned (.int .u64 (rdNe b 0).1) ∧ Sep w0 (RdrT g (rdNe b 0).2.1 (rdNe b 0).2.2 :: M) w') := Lib.hid fun wx M g hx => rnum_sep hx
  have hR : ∀ R, R = opnT b → R = if (rdNe b 0).2.2 ≠ 0 then (none, (rdNe b 0).2.2) else if 6 < (rdNe b 0).1 then (none, 4) else opnLoop (rdNe b 0).1 (-1) (rdNe b 0).2.1 T0 := fun R hR => hR
  have l1 := rdNe_len b 0
  unfold OpnR
  obtain ⟨R, hRR⟩ : ∃ R, R = opnT b := ⟨_, rfl⟩
  have hR := hR R hRR
  rw [← hRR]
  clear hRR
  obtain ⟨n, hn⟩ : ∃ n, n = (rdNe b 0).1 := ⟨_, rfl⟩
  rw [← hn] at hR HN hlt
  generalize (rdNe b 0).2.1 = r1 at *
  generalize (rdNe b 0).2.2 = e1 at *
  have HR := Lib.hid hR
  have HL := Lib.hid (show r1.length ≤ 1000000 by omega)
  have n0 : (0 : Int) ≤ (n : Int) := by omega
  have n1 : (n : Int) ≤ 255 := by omega
  clear h hv hl hlt hR hn l1
  go_enter Try.func29, Try.ntmps29
  (try dsimp only); repeat' (first | go_values | go_skip | go_guarded | go_step | go_upon | go_back)
  refine HRD.out.mono ?_
  rintro q0 w1 ⟨g, rfl, h1⟩
  have H1 := Lib.hid h1
  clear h1 HRD
  (try dsimp only); repeat' (first | go_values | go_skip | go_guarded | go_step | go_upon | go_back)
  refine (HN.out _ _ _ H1.out).mono ?_
  rintro q0 w2 ⟨rfl, h2⟩
  have HE := Lib.hid (rerr_sep h2)
  have H2 := Lib.hid h2
  clear h2 HN H1
  (try dsimp only); repeat' (first | go_values | go_skip | go_guarded | go_step | go_upon | go_back)
  refine HE.out.mono ?_
  rintro q0 w3 ⟨rfl, rfl⟩
  by_cases he1 : e1 = 0
  · subst he1
    clear HE
    by_cases h6 : 6 < n
    · have d6 : decide (6 < (n : Int)) = true := decide_eq_true (by omega)
      have hRR : R = (none, 4) := by rw [HR.out, if_neg (by simp), if_pos h6]
      have HRR := Lib.hid hRR
      have H3 := Lib.hid H2.out.drop
      clear hRR HR H2 h6
      (try dsimp only); repeat' (first | go_values | go_skip | go_guarded | go_step | go_upon | go_back)
      exact bodyPost_ret (v := .tuple #[.pointer none, .int .i64 4]) (by simp [results, Try.results29, go_sem]) rfl (.inr ⟨4, HRR.out, by decide, rfl, H3.out⟩)
    · have d6 : decide (6 < (n : Int)) = false := decide_eq_false (by omega)
      have n6 : (n : Int) ≤ 6 := by omega
      have hRR : R = opnLoop n (-1) r1 T0 := by rw [HR.out, if_neg (by simp), if_neg h6]
      have HRR := Lib.hid hRR
      have HNW := Lib.hid (tnew_any H2.out)
      clear hRR HR h6
      (try dsimp only); repeat' (first | go_values | go_skip | go_guarded | go_step | go_upon | go_back)
      refine HNW.out.mono ?_
      rintro q0 w4 ⟨t, rfl, h4⟩
      have H4 := Lib.hid h4
      clear HNW H2 h4
      (try dsimp only); repeat' (first | go_values | go_skip | go_guarded | go_step | go_upon | go_back)
      go_loopw [7, 24] (fun a c wr => ∃ (k : Nat) (last : Int) (l : List UInt8) (T : List SW), k ≤ n ∧ a = .int .i64 last ∧ c = .int .u64 k ∧ T.length = 8 ∧ l.length ≤ 1000000 ∧ R = opnLoop (n - k) last l T ∧ Sep w0 (TabT t T :: RdrT g l 0 :: L) wr) (fun _ c _ => 7 - (intOf c).toNat)
      case atStart => exact ⟨0, -1, r1, T0, Nat.zero_le _, rfl, rfl, rfl, HL.out, HRR.out, H4.out⟩
      case round =>
        obtain ⟨k, last, l, T, hkn, rfl, rfl, hT, hl, hR, hs⟩ := hrel
        clear H4 HRR
        have k0 : (0 : Int) ≤ (k : Int) := by omega
        have k6 : (k : Int) ≤ 6 := by omega
        by_cases hk : k < n
        · have dk : decide ((k : Int) < (n : Int)) = true := decide_eq_true (by omega)
          have dk2 : decide (k < n) = true := decide_eq_true hk
          obtain ⟨j, hj⟩ : ∃ j, n - k = j + 1 := ⟨n - k - 1, by omega⟩
          rw [hj, opnLoop] at hR
          have HSE := Lib.hid (rdseat_any hs.sw2 hl)
          have hless := rdSeat_less l
          have hag := rdSeat_again l
          generalize (rdSeat l 0).1 = S at *
          generalize (rdSeat l 0).2.1 = er at *
          generalize (rdSeat l 0).2.2.1 = l2 at *
          generalize (rdSeat l 0).2.2.2 = e2 at *
          have HQ := Lib.hid (And.intro hk (And.intro hT (And.intro hl (And.intro hj hR))))
          have HA : Hid (er = 0 → S.had = true ∧ clientOk S.c S.n S.o S.k S.a S.b = true ∧ l2.length ≤ l.length ∧ e2 = 0) := Lib.hid fun h0 => ⟨(hag h0).1, (hag h0).2.1, hless h0, (hag h0).2.2.2⟩
          obtain ⟨sd, sc, sn, so, sk, sa, sb⟩ := S
          unfold SW.val at HSE
          dsimp only at HSE
          clear hs hless hag hk hT hl hj hR hkn
          (try dsimp only); repeat' (first | go_values | go_skip | go_guarded | go_step | go_upon | go_back)
          refine HSE.out.mono ?_
          rintro q0 w5 ⟨rfl, h5⟩
          clear HSE
          by_cases her : er = 0
          · subst her
            obtain ⟨rfl, hok, hle, rfl⟩ := HA.out rfl
            obtain ⟨c0, c1, -⟩ := client_parts hok
            dsimp only at c0 c1 hok
            obtain ⟨i, rfl⟩ : ∃ i : Nat, sc = (i : Int) := ⟨sc.toNat, by omega⟩
            have h6 := h5.alloc (.cells #[.int .i64 (i : Int), .int .i64 sn, .int .i64 so, .int .i64 sk, .int .i64 sa, .int .i64 sb] 31)
            by_cases hlast : (i : Int) ≤ last
            · have dl : decide ((i : Int) ≤ last) = true := decide_eq_true hlast
              have x0 := h6.cell (o := 0) rfl
              have hRR : R = (none, 4) := by rw [HQ.out.2.2.2.2, if_neg (by simp), if_pos hlast]
              have HRR := Lib.hid hRR
              have H6 := Lib.hid h6.drop.drop.drop
              clear h5 h6 hlast hle hok hRR HA
              (try dsimp only); repeat' (first | go_values | go_skip | go_guarded | go_step | go_upon | go_back)
              exact bodyPost_ret (v := .tuple #[.pointer none, .int .i64 4]) (by simp [results, Try.results29, go_sem]) rfl (.inr ⟨4, HRR.out, by decide, rfl, H6.out⟩)
            · have dl : decide ((i : Int) ≤ last) = false := decide_eq_false hlast
              have hRR : R = opnLoop j (i : Int) l2 (T.set i ⟨true, i, sn, so, sk, sa, sb⟩) := by rw [HQ.out.2.2.2.2, if_neg (by simp), if_neg hlast]; rfl
              have HRR := Lib.hid hRR
              have i8 : (i : Int) < 8 := c1
              have HI8 : Hid (i < T.length) := Lib.hid (by rw [HQ.out.2.1]; omega)
              obtain ⟨x0, x1, x2, x3, x4, x5⟩ := cells6z h6
              have h6q : Sep w0 (TabT t T :: Cl w5.heap.size #[.int .i64 (i : Int), .int .i64 sn, .int .i64 so, .int .i64 sk, .int .i64 sa, .int .i64 sb] 31 :: RdrT g l2 0 :: L) _ := h6.sw3
              have HTT := Lib.hid (h6q.drew.seatThere i HI8.out)
              have h9 := (h6q.drew).setSeat i ⟨true, i, sn, so, sk, sa, sb⟩ HI8.out
              rw [sw_cells] at h9
              have h9q : Sep w0 (TabT t (T.set i ⟨true, i, sn, so, sk, sa, sb⟩) :: RdrT g l2 0 :: L) _ := h9.sw2.drop
              have H9 := Lib.hid h9q
              have HLE := Lib.hid hle
              clear h5 h6 h6q h9 h9q hlast hle hok hRR HA
              (try dsimp only); repeat' (first | go_values | go_skip | go_guarded | go_step | go_upon | go_back)
              refine wp_region_G (fun w' => w'.cell? ⟨w5.heap.size, 0, none⟩ = some (.int .i64 (i : Int)) ∧ w'.cell? ⟨w5.heap.size, 1, none⟩ = some (.int .i64 sn) ∧ w'.cell? ⟨w5.heap.size, 2, none⟩ = some (.int .i64 so) ∧ w'.cell? ⟨w5.heap.size, 3, none⟩ = some (.int .i64 sk) ∧ w'.cell? ⟨w5.heap.size, 4, none⟩ = some (.int .i64 sa) ∧ w'.cell? ⟨w5.heap.size, 5, none⟩ = some (.int .i64 sb)) [8] (by kernel_rfl) ⟨x0, x1, x2, x3, x4, x5⟩ (fun hS => ?_)
              try dsimp only at hS
              refine wpAnyG_take' (i := 0) (v := ?v0_1o20) rfl (by kernel_rfl) (by kernel_rfl) (by kernel_rfl) (by kernel_rfl) (fun _ _ _ h => h) (Or.inl ⟨by rfl, ?hy0_1o20⟩) hS ?rest0_1o20
              case hy0_1o20 => intro w hSw; (try dsimp only at hSw); go_simp; (try with_reducible rfl)
              case rest0_1o20 =>
              try simp only [List.getElem_toArray, List.getElem_cons_succ, List.getElem_cons_zero, Act.put, List.setIfInBounds_toArray, List.set_cons_zero, List.set_cons_succ]
              refine wpAnyG_take' (i := 1) (v := ?v1_2o20) rfl (by kernel_rfl) (by kernel_rfl) (by kernel_rfl) (by kernel_rfl) (fun _ _ _ h => h) (Or.inl ⟨by rfl, ?hy1_2o20⟩) hS ?rest1_2o20
              case hy1_2o20 => intro w hSw; (try dsimp only at hSw); go_simp; (try with_reducible rfl)
              case rest1_2o20 =>
              try simp only [List.getElem_toArray, List.getElem_cons_succ, List.getElem_cons_zero, Act.put, List.setIfInBounds_toArray, List.set_cons_zero, List.set_cons_succ]
              refine wpAnyG_take' (i := 2) (v := ?v2_3o20) rfl (by kernel_rfl) (by kernel_rfl) (by kernel_rfl) (by kernel_rfl) (fun _ _ _ h => h) (Or.inl ⟨by rfl, ?hy2_3o20⟩) hS ?rest2_3o20
              case hy2_3o20 => intro w hSw; (try dsimp only at hSw); go_simp; (try with_reducible rfl)
              case rest2_3o20 =>
              try simp only [List.getElem_toArray, List.getElem_cons_succ, List.getElem_cons_zero, Act.put, List.setIfInBounds_toArray, List.set_cons_zero, List.set_cons_succ]
              refine wpAnyG_take' (i := 3) (v := ?v3_4o20) rfl (by kernel_rfl) (by kernel_rfl) (by kernel_rfl) (by kernel_rfl) (fun _ _ _ h => h) (Or.inl ⟨by rfl, ?hy3_4o20⟩) hS ?rest3_4o20
              case hy3_4o20 => intro w hSw; (try dsimp only at hSw); go_simp; (try with_reducible rfl)
              case rest3_4o20 =>
              try simp only [List.getElem_toArray, List.getElem_cons_succ, List.getElem_cons_zero, Act.put, List.setIfInBounds_toArray, List.set_cons_zero, List.set_cons_succ]
              refine wpAnyG_take' (i := 4) (v := .agg #[.bool true, .int .i64 (i : Int), .int .i64 sn, .int .i64 so, .int .i64 sk, .int .i64 sa, .int .i64 sb]) rfl (by kernel_rfl) (by kernel_rfl) (by kernel_rfl) (by kernel_rfl) (fun _ _ _ h => h) (Or.inl ⟨by rfl, ?hy4_5o20⟩) hS ?rest4_5o20
              case hy4_5o20 => intro w hSw; exact exec_build 33 #[(0, .const (.bool true)), (1, .tmp 43)] rfl _ (by rw [Array.toList_map]; exact built7 i sn so sk sa sb)
              case rest4_5o20 =>
              try simp only [List.getElem_toArray, List.getElem_cons_succ, List.getElem_cons_zero, Act.put, List.setIfInBounds_toArray, List.set_cons_zero, List.set_cons_succ]
              refine wpAnyG_take' (i := 5) (v := ?v5_6o20) rfl (by kernel_rfl) (by kernel_rfl) (by kernel_rfl) (by kernel_rfl) (fun _ _ _ h => h) (Or.inl ⟨by rfl, ?hy5_6o20⟩) hS ?rest5_6o20
              case hy5_6o20 => intro w hSw; (try dsimp only at hSw); go_simp; (try with_reducible rfl)
              case rest5_6o20 =>
              try simp only [List.getElem_toArray, List.getElem_cons_succ, List.getElem_cons_zero, Act.put, List.setIfInBounds_toArray, List.set_cons_zero, List.set_cons_succ]
              refine wpAnyG_take' (i := 6) (v := ?v6_7o20) rfl (by kernel_rfl) (by kernel_rfl) (by kernel_rfl) (by kernel_rfl) (fun _ _ _ h => h) (Or.inl ⟨by rfl, ?hy6_7o20⟩) hS ?rest6_7o20
              case hy6_7o20 => intro w hSw; (try dsimp only at hSw); go_simp; (try with_reducible rfl)
              case rest6_7o20 =>
              try simp only [List.getElem_toArray, List.getElem_cons_succ, List.getElem_cons_zero, Act.put, List.setIfInBounds_toArray, List.set_cons_zero, List.set_cons_succ]
              refine wpAnyG_take' (i := 7) (v := ?v7_8o20) rfl (by kernel_rfl) (by kernel_rfl) (by kernel_rfl) (by kernel_rfl) (fun _ _ _ h => h) (Or.inl ⟨by rfl, ?hy7_8o20⟩) hS ?rest7_8o20
              case hy7_8o20 => intro w hSw; (try dsimp only at hSw); go_simp; (try with_reducible rfl)
              case rest7_8o20 =>
              try simp only [List.getElem_toArray, List.getElem_cons_succ, List.getElem_cons_zero, Act.put, List.setIfInBounds_toArray, List.set_cons_zero, List.set_cons_succ]
              refine wpAnyG_one (i := 8) (by kernel_rfl) rfl (fun K hK => ?_)
              refine wp_store_mid 33 (.tmp 47) (.tmp 44) rfl t (1 + i * 7) #[.bool true, .int .i64 (i : Int), .int .i64 sn, .int .i64 so, .int .i64 sk, .int .i64 sa, .int .i64 sb] rfl rfl HTT.out (by kernel_rfl) (by kernel_rfl) ?_
              refine hK.out _ _ (fun hno => by cases hno) ?_
              clear K hK
              try simp only [List.getElem_toArray, List.getElem_cons_succ, List.getElem_cons_zero, Act.put, List.setIfInBounds_toArray, List.set_cons_zero, List.set_cons_succ]
              refine wpAnyG_done (by kernel_rfl) ?_ _
              try simp only [List.getElem_toArray, List.getElem_cons_succ, List.getElem_cons_zero, Act.put, List.setIfInBounds_toArray, List.set_cons_zero, List.set_cons_succ]
              clear x0 x1 x2 x3 x4 x5 HTT hS
              obtain ⟨w7, hw7⟩ : ∃ z, z = World.setCells (World.drew (w5.alloc (.cells #[.int .i64 (i : Int), .int .i64 sn, .int .i64 so, .int .i64 sk, .int .i64 sa, .int .i64 sb] 31))) t (1 + i * 7) [.bool true, .int .i64 (i : Int), .int .i64 sn, .int .i64 so, .int .i64 sk, .int .i64 sa, .int .i64 sb] := ⟨_, rfl⟩
              have H10 : Hid (Sep w0 (TabT t (T.set i ⟨true, i, sn, so, sk, sa, sb⟩) :: RdrT g l2 0 :: L) w7) := Lib.hid (by rw [hw7]; exact H9.out)
              rw [← hw7]
              clear hw7 H9
              (try dsimp only); repeat' (first | go_values | go_skip | go_guarded | go_step | go_upon | go_back)
              go_roundw
              case rel => exact ⟨k + 1, i, l2, _, by have := HQ.out.1; omega, rfl, by go_num, by rw [List.length_set]; exact HQ.out.2.1, by have := HLE.out; have := HQ.out.2.2.1; omega, by rw [HRR.out, show n - (k + 1) = j by have := HQ.out.2.2.2.1; omega], H10.out⟩
              case measure => have := HQ.out.1; simp [intOf]; omega
          · have d2 : (er != 0) = true := by rw [bne_iff_ne]; exact her
            have hRR : R = (none, er) := by rw [HQ.out.2.2.2.2, if_pos her]
            have HRR := Lib.hid (And.intro hRR her)
            have H5 := Lib.hid h5.drop.drop
            clear h5 hRR her HA
            (try dsimp only); repeat' (first | go_values | go_skip | go_guarded | go_step | go_upon | go_back)
            exact bodyPost_ret (v := .tuple #[.pointer none, .int .i64 er]) (by simp [results, Try.results29, go_sem]) rfl (.inr ⟨er, HRR.out.1, HRR.out.2, rfl, by first | exact H5.out | exact H5.out.alloc0 _⟩)
        · have dk : decide ((k : Int) < (n : Int)) = false := decide_eq_false (by omega)
          have dk2 : decide (k < n) = false := decide_eq_false hk
          rw [show n - k = 0 by omega, opnLoop] at hR
          have HED := Lib.hid (rend_sep hs.sw2)
          have HS := Lib.hid hs
          have HR2 := Lib.hid hR
          clear hs hT hl hR hkn hk
          (try dsimp only); repeat' (first | go_values | go_skip | go_guarded | go_step | go_upon | go_back)
          refine HED.out.mono ?_
          rintro q0 w5 ⟨rfl, rfl⟩
          generalize endErr l 0 = er at *
          by_cases her : er = 0
          · subst her
            have hRR : R = (some T, 0) := by rw [HR2.out, if_pos rfl]
            have HRR := Lib.hid hRR
            clear hRR HED HR2
            (try dsimp only); repeat' (first | go_values | go_skip | go_guarded | go_step | go_upon | go_back)
            exact bodyPost_ret (v := .tuple #[.pointer (some ⟨t, 0, none⟩), .int .i64 0]) (by simp [results, Try.results29, go_sem]) rfl (.inl ⟨T, t, HRR.out, rfl, HS.out.sw2.drop⟩)
          · have d2 : (er != 0) = true := by rw [bne_iff_ne]; exact her
            have hRR : R = (none, er) := by rw [HR2.out, if_neg her]
            have HRR := Lib.hid (And.intro hRR her)
            clear hRR her HED HR2
            (try dsimp only); repeat' (first | go_values | go_skip | go_guarded | go_step | go_upon | go_back)
            exact bodyPost_ret (v := .tuple #[.pointer none, .int .i64 er]) (by simp [results, Try.results29, go_sem]) rfl (.inr ⟨er, HRR.out.1, HRR.out.2, rfl, HS.out.drop.drop⟩)
  · have d1 : (e1 != 0) = true := by rw [bne_iff_ne]; exact he1
    have hRR : R = (none, e1) := by rw [HR.out, if_pos he1]
    have HRR := Lib.hid (And.intro hRR he1)
    clear hRR HR he1
    (try dsimp only); repeat' (first | go_values | go_skip | go_guarded | go_step | go_upon | go_back)
    refine HE.out.mono ?_
    rintro q0 w4 ⟨rfl, rfl⟩
    have H3 := Lib.hid H2.out.drop
    clear HE H2
    (try dsimp only); repeat' (first | go_values | go_skip | go_guarded | go_step | go_upon | go_back)
    exact bodyPost_ret (v := .tuple #[.pointer none, .int .i64 e1]) (by simp [results, Try.results29, go_sem]) rfl (.inr ⟨e1, HRR.out.1, HRR.out.2, rfl, H3.out⟩)
end Go.Proofs.Ytjjjkfdppleagaa
