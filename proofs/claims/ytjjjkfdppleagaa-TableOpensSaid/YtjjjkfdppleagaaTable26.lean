/- The document's table: lay. -/
import Derived.Test.YtjjjkfdppleagaaTable25
import Derived.Test.YtjjjkfdppleagaaRoundReg
namespace Go.Proofs.Ytjjjkfdppleagaa
open Go Go.RowKit
set_option linter.unusedVariables false
set_option linter.unusedSimpArgs false
theorem append_seats_none {w0 w : World} {ty : TypeId} {v : Value} {F : List SW} {L : List Thing} (h : Sep w0 (SsT v F :: L) w) : (Builtin.append_ #[45, 45] ty #[v, .slice none 0 0]).run Try.prog w = .ok v w := by
  obtain ⟨i, hi, he⟩ := Option.map_eq_some_iff.1 infoSeat
  exact run_append_owned_none (P := Try.prog) _ w0.heap.size 45 ty 31 i 6 Try.underlying45 hi _ _ _ (Sep.rn h)
/-- What its slots are: nil, or in a block of its own. -/
theorem Sep.ssForm {w0 w : World} {a : Option Addr} {n c : Nat} {F : List SW} {L : List Thing} (h : Sep w0 (SsT (.slice a n c) F :: L) w) : n = F.length ∧ ((a = none ∧ c = 0 ∧ F = []) ∨ ∃ b, a = some ⟨b, 0, none⟩ ∧ n ≤ c ∧ ∀ j u, (sixes F)[j]? = some u → w.cell? ⟨b, j, none⟩ = some u) := by
  have ho : w.ownsRow w0.heap.size 31 6 (.slice a n c) F.length (sixes F) := Sep.rn h
  obtain ⟨a', c', hv, h1, h2, h3, h4⟩ := Sep.rnForm (h : Sep w0 (Rn 6 31 (.slice a n c) F.length (sixes F) :: _) w)
  simp only [Value.slice.injEq] at hv
  obtain ⟨rfl, rfl, rfl⟩ := hv
  refine ⟨rfl, ?_⟩
  rcases ho.2 with ⟨he, h0⟩ | ⟨g, cap, cur, he, hb, hc, h5, h6, h7, h8⟩
  · simp only [Value.slice.injEq] at he
    exact .inl ⟨he.1, he.2.2, List.eq_nil_of_length_eq_zero h0⟩
  · simp only [Value.slice.injEq] at he
    obtain ⟨rfl, -, rfl⟩ := he
    refine .inr ⟨g, rfl, h1, fun j u hj => ?_⟩
    by_cases hF : 0 < F.length
    · obtain ⟨b, hb2, -, hcl⟩ := h4 hF
      simp only [Option.some.injEq, Addr.mk.injEq, and_true] at hb2
      subst hb2
      obtain ⟨h9, h10⟩ := List.getElem?_eq_some_iff.1 hj
      rw [hcl j h9, h10]
    · have : F = [] := List.eq_nil_of_length_eq_zero (by omega)
      subst this
      simp [sixes] at hj
theorem sixes_left {A B : List SW} {j : Nat} {u : Value} (h : (sixes A)[j]? = some u) : (sixes (A ++ B))[j]? = some u := by
  rw [sixes_app, List.getElem?_append_left (List.getElem?_eq_some_iff.1 h).1, h]
theorem sixes_right {A B : List SW} {j : Nat} {u : Value} (h : (sixes B)[j]? = some u) : (sixes (A ++ B))[A.length * 6 + j]? = some u := by
  rw [sixes_app, List.getElem?_append_right (by rw [sixes_len]; omega), sixes_len, Nat.add_sub_cancel_left, h]
set_option maxRecDepth 100000 in
set_option maxHeartbeats 0 in
theorem dlay_any {w0 w : World} {g : Nat} {T : List SW} {L : List Thing} (i : Nat) (s : SW) (h : Sep w0 (DocT g (seatsOf T) :: L) w) (hI : TabI T) (hi : i < 8) (hsh : s.had = true) (hsc : s.c = i) :
    Calls Try.prog 35 #[.pointer (some ⟨g, 0, none⟩), .agg #[.int .i64 s.c, .int .i64 s.n, .int .i64 s.o, .int .i64 s.k, .int .i64 s.a, .int .i64 s.b]] w fun e w' => (∃ x, e = .returned x) ∧ Sep w0 (DocT g (seatsOf (T.set i s)) :: L) w' := by
  have hiT : i < T.length := by rw [hI.len]; exact hi
  have h0 := (h.alloc (.cells #[.int .i64 s.c, .int .i64 s.n, .int .i64 s.o, .int .i64 s.k, .int .i64 s.a, .int .i64 s.b] 31)).sw2
  obtain ⟨b3, hb3⟩ : ∃ z, z = w.heap.size := ⟨_, rfl⟩
  have x30 := h0.sw2.cell (o := 0) rfl
  have HW := Lib.hid (dwithout_any s.c h0 (by have := seats_len8 hI.len; omega))
  obtain ⟨W, hW⟩ : ∃ z, z = sans (seatsOf T) s.c := ⟨_, rfl⟩
  rw [← hW] at HW
  rw [hsc, sans_seats hI i hiT] at hW
  obtain ⟨A, hA⟩ : ∃ z, z = seatsOf (T.take i) := ⟨_, rfl⟩
  obtain ⟨B, hB⟩ : ∃ z, z = seatsOf (T.drop (i + 1)) := ⟨_, rfl⟩
  have hN : seatsOf (T.set i s) = A ++ [s] ++ B := by rw [seats_set T i hiT s, seats_one hsh, hA, hB, List.append_assoc]
  have hlow : ∀ t ∈ A, t.c < s.c := fun t ht => by rw [hsc]; rw [hA] at ht; exact low_c hI i t ht
  have hhigh : ∀ t ∈ B, s.c < t.c := fun t ht => by rw [hsc]; rw [hB] at ht; exact high_c hI i t ht
  have h8 := seats_len8 (T := T.set i s) (by rw [List.length_set]; exact hI.len)
  rw [hN, List.length_append, List.length_append] at h8
  rw [← hA, ← hB] at hW
  rw [hN]
  subst hW
  have HAB : Hid ((∀ t ∈ A, t.c < s.c) ∧ (∀ t ∈ B, s.c < t.c) ∧ A.length + 1 + B.length ≤ 8) := Lib.hid ⟨hlow, hhigh, by simpa using h8⟩
  obtain ⟨w3, hw3⟩ : ∃ z, z = w.alloc (.cells #[.int .i64 s.c, .int .i64 s.n, .int .i64 s.o, .int .i64 s.k, .int .i64 s.a, .int .i64 s.b] 31) := ⟨_, rfl⟩
  rw [← hw3, ← hb3] at HW
  clear hA hB hN hlow hhigh h8 h h0 hI hi hsh hsc hiT
  go_enter Try.func35, Try.ntmps35
  (try dsimp only); repeat' (first | go_values | go_skip | go_guarded | go_step | go_upon | go_back)
  rw [← hw3, ← hb3]
  clear x30 hw3 hb3
  refine HW.out.mono ?_
  rintro r0 w4 ⟨v, rfl, h4⟩
  clear HW
  obtain ⟨a, cW, rfl, -⟩ := Sep.rnForm (h4 : Sep w0 (Rn 6 31 _ (A ++ B).length (sixes (A ++ B)) :: _) w4)
  obtain ⟨nA, hnA⟩ : ∃ z, z = A.length := ⟨_, rfl⟩
  obtain ⟨nW, hnW⟩ : ∃ z, z = (A ++ B).length := ⟨_, rfl⟩
  rw [← hnW] at h4 ⊢
  have hnn : nW = nA + B.length := by rw [hnW, hnA, List.length_append]
  have HNN := Lib.hid (And.intro hnA hnn)
  have H4 := Lib.hid h4
  have w80 : (0 : Int) ≤ (nW : Int) := by omega
  have w89 : (nW : Int) ≤ 8 := by have := HAB.out; omega
  clear h4 hnA hnW hnn
  (try dsimp only); repeat' (first | go_values | go_skip | go_guarded | go_step | go_upon | go_back)
  go_loopw [6] (fun q wr => ∃ k : Nat, k ≤ nA ∧ q = .int .i64 k ∧ Sep w0 (SsT (.slice a nW cW) (A ++ B) :: DocT g (seatsOf T) :: Cl b3 #[.int .i64 s.c, .int .i64 s.n, .int .i64 s.o, .int .i64 s.k, .int .i64 s.a, .int .i64 s.b] 31 :: L) wr) (fun q _ => nA - (intOf q).toNat)
  case atStart => exact ⟨0, Nat.zero_le _, rfl, H4.out⟩
  case round =>
    obtain ⟨k, hk, rfl, hs⟩ := hrel
    clear H4
    have k0 : (0 : Int) ≤ (k : Int) := by omega
    have k9 : (k : Int) ≤ 8 := by have := HAB.out; have := HNN.out; omega
    have y0 := hs.sw3.cell (o := 0) rfl
    by_cases hkA : k < nA
    · have kW : k < (A ++ B).length := by rw [List.length_append, ← HNN.out.1]; omega
      obtain ⟨-, b, rfl, -, x0, -⟩ := hs.ssAt k kW
      have d0 : decide (k < nW) = true := decide_eq_true (by have := HNN.out; omega)
      have k1 : (k : Int) < (nW : Int) := by have := HNN.out; omega
      have hAk : k < A.length := by rw [← HNN.out.1]; exact hkA
      have hlt : ((A ++ B)[k]'kW).c < s.c := by rw [List.getElem_append_left hAk]; exact HAB.out.1 _ (List.getElem_mem _)
      generalize ((A ++ B)[k]'kW).c = xc at *
      have d1 : decide (xc < s.c) = true := decide_eq_true hlt
      have H5 := Lib.hid hs.drew
      have HK := Lib.hid hkA
      clear hs kW hAk hlt hk hkA
      (try dsimp only); repeat' (first | go_values | go_skip | go_guarded | go_step | go_upon | go_back)
      refine wp_region_G (fun w' => w'.cell? ⟨b, k * 6, none⟩ = some (.int .i64 xc) ∧ w'.cell? ⟨b3, 0, none⟩ = some (.int .i64 s.c)) [] (by kernel_rfl) ⟨x0, y0⟩ (fun hS => ?_)
      try dsimp only at hS
      refine wpAnyG_take' (i := 0) (v := ?v0_1rr) rfl (by kernel_rfl) (by kernel_rfl) (by kernel_rfl) (by kernel_rfl) (fun _ _ _ h => h) (Or.inl ⟨by rfl, ?hy0_1rr⟩) hS ?rest0_1rr
      case hy0_1rr => intro w hSw; (try dsimp only at hSw); go_simp; (try with_reducible rfl)
      case rest0_1rr =>
      try simp only [List.getElem_toArray, List.getElem_cons_succ, List.getElem_cons_zero, Act.put, List.setIfInBounds_toArray, List.set_cons_zero, List.set_cons_succ]
      refine wpAnyG_take' (i := 1) (v := ?v1_2rr) rfl (by kernel_rfl) (by kernel_rfl) (by kernel_rfl) (by kernel_rfl) (fun _ _ _ h => h) (Or.inl ⟨by rfl, ?hy1_2rr⟩) hS ?rest1_2rr
      case hy1_2rr => intro w hSw; (try dsimp only at hSw); go_simp; (try with_reducible rfl)
      case rest1_2rr =>
      try simp only [List.getElem_toArray, List.getElem_cons_succ, List.getElem_cons_zero, Act.put, List.setIfInBounds_toArray, List.set_cons_zero, List.set_cons_succ]
      refine wpAnyG_take' (i := 2) (v := ?v2_3rr) rfl (by kernel_rfl) (by kernel_rfl) (by kernel_rfl) (by kernel_rfl) (fun _ _ _ h => h) (Or.inl ⟨by rfl, ?hy2_3rr⟩) hS ?rest2_3rr
      case hy2_3rr => intro w hSw; (try dsimp only at hSw); go_simp; (try with_reducible rfl)
      case rest2_3rr =>
      try simp only [List.getElem_toArray, List.getElem_cons_succ, List.getElem_cons_zero, Act.put, List.setIfInBounds_toArray, List.set_cons_zero, List.set_cons_succ]
      refine wpAnyG_take' (i := 3) (v := ?v3_4rr) rfl (by kernel_rfl) (by kernel_rfl) (by kernel_rfl) (by kernel_rfl) (fun _ _ _ h => h) (Or.inl ⟨by rfl, ?hy3_4rr⟩) hS ?rest3_4rr
      case hy3_4rr => intro w hSw; (try dsimp only at hSw); go_simp; (try with_reducible rfl)
      case rest3_4rr =>
      try simp only [List.getElem_toArray, List.getElem_cons_succ, List.getElem_cons_zero, Act.put, List.setIfInBounds_toArray, List.set_cons_zero, List.set_cons_succ]
      refine wpAnyG_take' (i := 4) (v := ?v4_5rr) rfl (by kernel_rfl) (by kernel_rfl) (by kernel_rfl) (by kernel_rfl) (fun _ _ _ h => h) (Or.inl ⟨by rfl, ?hy4_5rr⟩) hS ?rest4_5rr
      case hy4_5rr => intro w hSw; (try dsimp only at hSw); go_simp; (try with_reducible rfl)
      case rest4_5rr =>
      try simp only [List.getElem_toArray, List.getElem_cons_succ, List.getElem_cons_zero, Act.put, List.setIfInBounds_toArray, List.set_cons_zero, List.set_cons_succ]
      refine wpAnyG_take' (i := 5) (v := ?v5_6rr) rfl (by kernel_rfl) (by kernel_rfl) (by kernel_rfl) (by kernel_rfl) (fun _ _ _ h => h) (Or.inl ⟨by rfl, ?hy5_6rr⟩) hS ?rest5_6rr
      case hy5_6rr => intro w hSw; (try dsimp only at hSw); go_simp; (try with_reducible rfl)
      case rest5_6rr =>
      try simp only [List.getElem_toArray, List.getElem_cons_succ, List.getElem_cons_zero, Act.put, List.setIfInBounds_toArray, List.set_cons_zero, List.set_cons_succ]
      refine wpAnyG_take' (i := 6) (v := ?v6_7rr) rfl (by kernel_rfl) (by kernel_rfl) (by kernel_rfl) (by kernel_rfl) (fun _ _ _ h => h) (Or.inl ⟨by rfl, ?hy6_7rr⟩) hS ?rest6_7rr
      case hy6_7rr => intro w hSw; (try dsimp only at hSw); go_simp; (try with_reducible rfl)
      case rest6_7rr =>
      try simp only [List.getElem_toArray, List.getElem_cons_succ, List.getElem_cons_zero, Act.put, List.setIfInBounds_toArray, List.set_cons_zero, List.set_cons_succ]
      refine wpAnyG_take' (i := 7) (v := ?v7_8rr) rfl (by kernel_rfl) (by kernel_rfl) (by kernel_rfl) (by kernel_rfl) (fun _ _ _ h => h) (Or.inl ⟨by rfl, ?hy7_8rr⟩) hS ?rest7_8rr
      case hy7_8rr => intro w hSw; (try dsimp only at hSw); go_simp; (try with_reducible rfl)
      case rest7_8rr =>
      try simp only [List.getElem_toArray, List.getElem_cons_succ, List.getElem_cons_zero, Act.put, List.setIfInBounds_toArray, List.set_cons_zero, List.set_cons_succ]
      refine wpAnyG_take' (i := 8) (v := ?v8_9rr) rfl (by kernel_rfl) (by kernel_rfl) (by kernel_rfl) (by kernel_rfl) (fun _ _ _ h => h) (Or.inl ⟨by rfl, ?hy8_9rr⟩) hS ?rest8_9rr
      case hy8_9rr => intro w hSw; (try dsimp only at hSw); go_simp; (try with_reducible rfl)
      case rest8_9rr =>
      try simp only [List.getElem_toArray, List.getElem_cons_succ, List.getElem_cons_zero, Act.put, List.setIfInBounds_toArray, List.set_cons_zero, List.set_cons_succ]
      refine wpAnyG_take' (i := 9) (v := ?v9_10rr) rfl (by kernel_rfl) (by kernel_rfl) (by kernel_rfl) (by kernel_rfl) (fun _ _ _ h => h) (Or.inl ⟨by rfl, ?hy9_10rr⟩) hS ?rest9_10rr
      case hy9_10rr => intro w hSw; (try dsimp only at hSw); go_simp; (try with_reducible rfl)
      case rest9_10rr =>
      try simp only [List.getElem_toArray, List.getElem_cons_succ, List.getElem_cons_zero, Act.put, List.setIfInBounds_toArray, List.set_cons_zero, List.set_cons_succ]
      refine wpAnyG_take' (i := 10) (v := ?v10_11rr) rfl (by kernel_rfl) (by kernel_rfl) (by kernel_rfl) (by kernel_rfl) (fun _ _ _ h => h) (Or.inl ⟨by rfl, ?hy10_11rr⟩) hS ?rest10_11rr
      case hy10_11rr => intro w hSw; (try dsimp only at hSw); go_simp; (try with_reducible rfl)
      case rest10_11rr =>
      try simp only [List.getElem_toArray, List.getElem_cons_succ, List.getElem_cons_zero, Act.put, List.setIfInBounds_toArray, List.set_cons_zero, List.set_cons_succ]
      refine wpAnyG_take' (i := 11) (v := ?v11_12rr) rfl (by kernel_rfl) (by kernel_rfl) (by kernel_rfl) (by kernel_rfl) (fun _ _ _ h => h) (Or.inl ⟨by rfl, ?hy11_12rr⟩) hS ?rest11_12rr
      case hy11_12rr => intro w hSw; (try dsimp only at hSw); go_simp; (try with_reducible rfl)
      case rest11_12rr =>
      try simp only [List.getElem_toArray, List.getElem_cons_succ, List.getElem_cons_zero, Act.put, List.setIfInBounds_toArray, List.set_cons_zero, List.set_cons_succ]
      refine wpAnyG_take' (i := 12) (v := ?v12_13rr) rfl (by kernel_rfl) (by kernel_rfl) (by kernel_rfl) (by kernel_rfl) (fun _ _ _ h => h) (Or.inl ⟨by rfl, ?hy12_13rr⟩) hS ?rest12_13rr
      case hy12_13rr => intro w hSw; (try dsimp only at hSw); go_simp; (try with_reducible rfl)
      case rest12_13rr =>
      try simp only [List.getElem_toArray, List.getElem_cons_succ, List.getElem_cons_zero, Act.put, List.setIfInBounds_toArray, List.set_cons_zero, List.set_cons_succ]
      refine wpAnyG_take' (i := 13) (v := ?v13_14rr) rfl (by kernel_rfl) (by kernel_rfl) (by kernel_rfl) (by kernel_rfl) (fun _ _ _ h => h) (Or.inl ⟨by rfl, ?hy13_14rr⟩) hS ?rest13_14rr
      case hy13_14rr => intro w hSw; (try dsimp only at hSw); go_simp; (try with_reducible rfl)
      case rest13_14rr =>
      try simp only [List.getElem_toArray, List.getElem_cons_succ, List.getElem_cons_zero, Act.put, List.setIfInBounds_toArray, List.set_cons_zero, List.set_cons_succ]
      refine wpAnyG_done (by kernel_rfl) ?_ _
      try simp only [List.getElem_toArray, List.getElem_cons_succ, List.getElem_cons_zero, Act.put, List.setIfInBounds_toArray, List.set_cons_zero, List.set_cons_succ]
      clear hS
      (try dsimp only); repeat' (first | go_values | go_skip | go_guarded | go_step | go_upon | go_back)
      go_roundw
      case rel => exact ⟨k + 1, by have := HK.out; omega, by go_num, H5.out⟩
      case measure => have := HK.out; simp [intOf]; omega
    · obtain rfl : k = nA := by omega
      obtain ⟨-, hf⟩ := hs.ssForm
      by_cases hB : 0 < B.length
      · have kW : k < (A ++ B).length := by rw [List.length_append, ← HNN.out.1]; omega
        have hh : s.c < ((A ++ B)[k]'kW).c := by
          rw [List.getElem_append_right (by rw [← HNN.out.1]; exact Nat.le_refl _)]
          exact HAB.out.2.1 _ (List.getElem_mem _)
        obtain ⟨-, b, rfl, -, x0, -⟩ := hs.ssAt k kW
        generalize ((A ++ B)[k]'kW).c = xc at *
        have d0 : decide (k < nW) = true := decide_eq_true (by have := HNN.out; omega)
        have k1 : (k : Int) < (nW : Int) := by have := HNN.out; omega
        have d1 : decide (xc < s.c) = false := decide_eq_false (by omega)
        rcases hf with ⟨hf, -⟩ | ⟨b', hf, hcw, hcell⟩
        · cases hf
        · simp only [Option.some.injEq, Addr.mk.injEq, and_true] at hf
          subst hf
          have hcn : ¬ cW = k := by have := HNN.out; omega
          clear kW hh hB hkA hk
          have HCL := Lib.hid hcell
          have hs2 := hs.drew
          have h5 : Sep w0 (SsT (.slice none 0 0) [] :: SsT (.slice (some ⟨b, 0, none⟩) nW cW) (A ++ B) :: DocT g (seatsOf T) :: Cl b3 #[.int .i64 s.c, .int .i64 s.n, .int .i64 s.o, .int .i64 s.k, .int .i64 s.a, .int .i64 s.b] 31 :: L) (World.drew wr) := hs2.rnNil 6 31
          have hcA : ∀ j u, (sixes A)[j]? = some u → (World.drew wr).cell? ⟨b, 0 + j, none⟩ = some u := fun j u hj => by rw [Nat.zero_add]; exact hcell j u (sixes_left hj)
          obtain ⟨a6, c6, w6, hr5, h6⟩ := append_seats (ty := 45) (n := k) (c := cW) h5 hcA (by have := HAB.out; simp; omega) HNN.out.1.symm
          rw [List.length_nil, Nat.zero_add, List.nil_append] at h6
          rw [List.length_nil, Nat.zero_add] at hr5
          obtain ⟨z0, z1, z2, z3, z4, z5⟩ := cells6z (h6.pickL (M := [_, _, _, _]) [3, 0, 1, 2] rfl)
          have h7 := h6.alloc (.cells #[.int .i64 s.c, .int .i64 s.n, .int .i64 s.o, .int .i64 s.k, .int .i64 s.a, .int .i64 s.b] 31)
          obtain ⟨a8, c8, w8, hr8, h8⟩ := append_seat (ty := 45) s h7 (by have := HAB.out; omega)
          rw [← HNN.out.1] at hr8 h8
          obtain ⟨m8, hm8⟩ : ∃ z, z = k + 1 := ⟨_, rfl⟩
          rw [← hm8] at hr8 h8
          have hlA : (A ++ [s]).length = m8 := by rw [List.length_append, ← HNN.out.1, hm8]; rfl
          have hc8 : ∀ j u, (sixes B)[j]? = some u → w8.cell? ⟨b, k * 6 + j, none⟩ = some u := fun j u hj => by
            obtain ⟨-, hq⟩ := h8.sw2.ssForm
            rcases hq with ⟨hq, -⟩ | ⟨b', hq, -, hcl⟩
            · cases hq
            · simp only [Option.some.injEq, Addr.mk.injEq, and_true] at hq
              subst hq
              have h9 := sixes_right (A := A) hj
              rw [← HNN.out.1] at h9
              exact hcl _ _ h9
          obtain ⟨a9, c9, w9, hr9, h9⟩ := append_seats (ty := 45) (n := nW - k) (c := cW - k) h8 hc8 (by have := HAB.out; rw [hlA]; omega) (by have := HNN.out; omega)
          rw [hlA] at hr9 h9
          obtain ⟨m9, hm9⟩ : ∃ z, z = m8 + (nW - k) := ⟨_, rfl⟩
          rw [← hm9] at hr9 h9
          obtain ⟨a10, c10, h10⟩ := (h9.sw3 : Sep w0 (DocT g (seatsOf T) :: SsT (.slice a9 m9 c9) (A ++ [s] ++ B) :: _) w9).docOpen
          obtain ⟨m10, hm10⟩ : ∃ z, z = (seatsOf T).length := ⟨_, rfl⟩
          rw [← hm10] at h10
          have g0 := h10.cell (o := 0) rfl
          have gf := h10.frozen 0
          have h11 : Sep w0 (Cl g #[.slice a9 m9 c9] 49 :: SsT (.slice a9 m9 c9) (A ++ [s] ++ B) :: L) _ := ((h10.setCell 0 (.slice a9 m9 c9)).pickL (M := [_, _, _, _, _]) [0, 2] rfl)
          have h12 := Sep.docClose h11
          have H12 := Lib.hid h12
          have HR5 := Lib.hid hr5
          have HR8 := Lib.hid hr8
          have HR9 := Lib.hid hr9
          have k8 : (k : Int) ≤ (cW : Int) := by omega
          clear hs hs2 h5 h6 h7 h8 h9 h10 h11 h12 hr5 hr8 hr9 hm10 hlA hm8 hcA hc8 hm9 hcell hcw
          (try dsimp only); repeat' (first | go_values | go_skip | go_guarded | go_step | go_upon | go_back)
          refine wp_region_G (fun w' => w'.cell? ⟨b, k * 6, none⟩ = some (.int .i64 xc) ∧ w'.cell? ⟨b3, 0, none⟩ = some (.int .i64 s.c)) [] (by kernel_rfl) ⟨x0, y0⟩ (fun hS => ?_)
          try dsimp only at hS
          refine wpAnyG_take' (i := 0) (v := ?v0_1tR) rfl (by kernel_rfl) (by kernel_rfl) (by kernel_rfl) (by kernel_rfl) (fun _ _ _ h => h) (Or.inl ⟨by rfl, ?hy0_1tR⟩) hS ?rest0_1tR
          case hy0_1tR => intro w hSw; (try dsimp only at hSw); go_simp; (try with_reducible rfl)
          case rest0_1tR =>
          try simp only [List.getElem_toArray, List.getElem_cons_succ, List.getElem_cons_zero, Act.put, List.setIfInBounds_toArray, List.set_cons_zero, List.set_cons_succ]
          refine wpAnyG_take' (i := 1) (v := ?v1_2tR) rfl (by kernel_rfl) (by kernel_rfl) (by kernel_rfl) (by kernel_rfl) (fun _ _ _ h => h) (Or.inl ⟨by rfl, ?hy1_2tR⟩) hS ?rest1_2tR
          case hy1_2tR => intro w hSw; (try dsimp only at hSw); go_simp; (try with_reducible rfl)
          case rest1_2tR =>
          try simp only [List.getElem_toArray, List.getElem_cons_succ, List.getElem_cons_zero, Act.put, List.setIfInBounds_toArray, List.set_cons_zero, List.set_cons_succ]
          refine wpAnyG_take' (i := 2) (v := ?v2_3tR) rfl (by kernel_rfl) (by kernel_rfl) (by kernel_rfl) (by kernel_rfl) (fun _ _ _ h => h) (Or.inl ⟨by rfl, ?hy2_3tR⟩) hS ?rest2_3tR
          case hy2_3tR => intro w hSw; (try dsimp only at hSw); go_simp; (try with_reducible rfl)
          case rest2_3tR =>
          try simp only [List.getElem_toArray, List.getElem_cons_succ, List.getElem_cons_zero, Act.put, List.setIfInBounds_toArray, List.set_cons_zero, List.set_cons_succ]
          refine wpAnyG_take' (i := 3) (v := ?v3_4tR) rfl (by kernel_rfl) (by kernel_rfl) (by kernel_rfl) (by kernel_rfl) (fun _ _ _ h => h) (Or.inl ⟨by rfl, ?hy3_4tR⟩) hS ?rest3_4tR
          case hy3_4tR => intro w hSw; (try dsimp only at hSw); go_simp; (try with_reducible rfl)
          case rest3_4tR =>
          try simp only [List.getElem_toArray, List.getElem_cons_succ, List.getElem_cons_zero, Act.put, List.setIfInBounds_toArray, List.set_cons_zero, List.set_cons_succ]
          refine wpAnyG_take' (i := 4) (v := ?v4_5tR) rfl (by kernel_rfl) (by kernel_rfl) (by kernel_rfl) (by kernel_rfl) (fun _ _ _ h => h) (Or.inl ⟨by rfl, ?hy4_5tR⟩) hS ?rest4_5tR
          case hy4_5tR => intro w hSw; (try dsimp only at hSw); go_simp; (try with_reducible rfl)
          case rest4_5tR =>
          try simp only [List.getElem_toArray, List.getElem_cons_succ, List.getElem_cons_zero, Act.put, List.setIfInBounds_toArray, List.set_cons_zero, List.set_cons_succ]
          refine wpAnyG_take' (i := 5) (v := ?v5_6tR) rfl (by kernel_rfl) (by kernel_rfl) (by kernel_rfl) (by kernel_rfl) (fun _ _ _ h => h) (Or.inl ⟨by rfl, ?hy5_6tR⟩) hS ?rest5_6tR
          case hy5_6tR => intro w hSw; (try dsimp only at hSw); go_simp; (try with_reducible rfl)
          case rest5_6tR =>
          try simp only [List.getElem_toArray, List.getElem_cons_succ, List.getElem_cons_zero, Act.put, List.setIfInBounds_toArray, List.set_cons_zero, List.set_cons_succ]
          refine wpAnyG_take' (i := 6) (v := ?v6_7tR) rfl (by kernel_rfl) (by kernel_rfl) (by kernel_rfl) (by kernel_rfl) (fun _ _ _ h => h) (Or.inl ⟨by rfl, ?hy6_7tR⟩) hS ?rest6_7tR
          case hy6_7tR => intro w hSw; (try dsimp only at hSw); go_simp; (try with_reducible rfl)
          case rest6_7tR =>
          try simp only [List.getElem_toArray, List.getElem_cons_succ, List.getElem_cons_zero, Act.put, List.setIfInBounds_toArray, List.set_cons_zero, List.set_cons_succ]
          refine wpAnyG_take' (i := 7) (v := ?v7_8tR) rfl (by kernel_rfl) (by kernel_rfl) (by kernel_rfl) (by kernel_rfl) (fun _ _ _ h => h) (Or.inl ⟨by rfl, ?hy7_8tR⟩) hS ?rest7_8tR
          case hy7_8tR => intro w hSw; (try dsimp only at hSw); go_simp; (try with_reducible rfl)
          case rest7_8tR =>
          try simp only [List.getElem_toArray, List.getElem_cons_succ, List.getElem_cons_zero, Act.put, List.setIfInBounds_toArray, List.set_cons_zero, List.set_cons_succ]
          refine wpAnyG_take' (i := 8) (v := ?v8_9tR) rfl (by kernel_rfl) (by kernel_rfl) (by kernel_rfl) (by kernel_rfl) (fun _ _ _ h => h) (Or.inl ⟨by rfl, ?hy8_9tR⟩) hS ?rest8_9tR
          case hy8_9tR => intro w hSw; (try dsimp only at hSw); go_simp; (try with_reducible rfl)
          case rest8_9tR =>
          try simp only [List.getElem_toArray, List.getElem_cons_succ, List.getElem_cons_zero, Act.put, List.setIfInBounds_toArray, List.set_cons_zero, List.set_cons_succ]
          refine wpAnyG_take' (i := 9) (v := ?v9_10tR) rfl (by kernel_rfl) (by kernel_rfl) (by kernel_rfl) (by kernel_rfl) (fun _ _ _ h => h) (Or.inl ⟨by rfl, ?hy9_10tR⟩) hS ?rest9_10tR
          case hy9_10tR => intro w hSw; (try dsimp only at hSw); go_simp; (try with_reducible rfl)
          case rest9_10tR =>
          try simp only [List.getElem_toArray, List.getElem_cons_succ, List.getElem_cons_zero, Act.put, List.setIfInBounds_toArray, List.set_cons_zero, List.set_cons_succ]
          refine wpAnyG_take' (i := 10) (v := ?v10_11tR) rfl (by kernel_rfl) (by kernel_rfl) (by kernel_rfl) (by kernel_rfl) (fun _ _ _ h => h) (Or.inl ⟨by rfl, ?hy10_11tR⟩) hS ?rest10_11tR
          case hy10_11tR => intro w hSw; (try dsimp only at hSw); go_simp; (try with_reducible rfl)
          case rest10_11tR =>
          try simp only [List.getElem_toArray, List.getElem_cons_succ, List.getElem_cons_zero, Act.put, List.setIfInBounds_toArray, List.set_cons_zero, List.set_cons_succ]
          refine wpAnyG_take' (i := 11) (v := ?v11_12tR) rfl (by kernel_rfl) (by kernel_rfl) (by kernel_rfl) (by kernel_rfl) (fun _ _ _ h => h) (Or.inl ⟨by rfl, ?hy11_12tR⟩) hS ?rest11_12tR
          case hy11_12tR => intro w hSw; (try dsimp only at hSw); go_simp; (try with_reducible rfl)
          case rest11_12tR =>
          try simp only [List.getElem_toArray, List.getElem_cons_succ, List.getElem_cons_zero, Act.put, List.setIfInBounds_toArray, List.set_cons_zero, List.set_cons_succ]
          refine wpAnyG_take' (i := 12) (v := ?v12_13tR) rfl (by kernel_rfl) (by kernel_rfl) (by kernel_rfl) (by kernel_rfl) (fun _ _ _ h => h) (Or.inl ⟨by rfl, ?hy12_13tR⟩) hS ?rest12_13tR
          case hy12_13tR => intro w hSw; (try dsimp only at hSw); go_simp; (try with_reducible rfl)
          case rest12_13tR =>
          try simp only [List.getElem_toArray, List.getElem_cons_succ, List.getElem_cons_zero, Act.put, List.setIfInBounds_toArray, List.set_cons_zero, List.set_cons_succ]
          refine wpAnyG_take' (i := 13) (v := ?v13_14tR) rfl (by kernel_rfl) (by kernel_rfl) (by kernel_rfl) (by kernel_rfl) (fun _ _ _ h => h) (Or.inl ⟨by rfl, ?hy13_14tR⟩) hS ?rest13_14tR
          case hy13_14tR => intro w hSw; (try dsimp only at hSw); go_simp; (try with_reducible rfl)
          case rest13_14tR =>
          try simp only [List.getElem_toArray, List.getElem_cons_succ, List.getElem_cons_zero, Act.put, List.setIfInBounds_toArray, List.set_cons_zero, List.set_cons_succ]
          refine wpAnyG_done (by kernel_rfl) ?_ _
          try simp only [List.getElem_toArray, List.getElem_cons_succ, List.getElem_cons_zero, Act.put, List.setIfInBounds_toArray, List.set_cons_zero, List.set_cons_succ]
          clear hS
          (try dsimp only); repeat' (first | (at_builtin; refine stop ?_) | (refine wpList_buildS rfl _ rfl rfl ?_) | go_values | go_skip | go_guarded | go_step | go_upon | go_back)
          unfold Stop
          refine wpList_append_run rfl _ _ _ _ rfl rfl rfl HR5.out ?_
          clear HR5
          (try dsimp only); repeat' (first | (at_builtin; refine stop ?_) | (refine wpList_buildS rfl _ rfl rfl ?_) | go_values | go_skip | go_guarded | go_step | go_upon | go_back)
          unfold Stop
          refine wpList_append_run rfl _ _ _ _ rfl rfl rfl HR8.out ?_
          clear HR8 z0 z1 z2 z3 z4 z5
          (try dsimp only); repeat' (first | (at_builtin; refine stop ?_) | (refine wpList_buildS rfl _ rfl rfl ?_) | go_values | go_skip | go_guarded | go_step | go_upon | go_back)
          unfold Stop
          refine wpList_append_run rfl _ _ _ _ rfl rfl rfl HR9.out ?_
          clear HR9
          (try dsimp only); repeat' (first | go_values | go_skip | go_guarded | go_step | go_upon | go_back)
          go_end0
          exact ⟨⟨_, rfl⟩, H12.out⟩
      · have hBn : B = [] := List.eq_nil_of_length_eq_zero (by omega)
        have hnk : nW = k := by have := HNN.out; omega
        have d0 : decide (k < nW) = false := decide_eq_false (by omega)
        rcases hf with ⟨rfl, rfl, hAB⟩ | ⟨b, rfl, hcw, hcell⟩
        · clear hB hkA hk
          have HCL := Lib.hid hAB
          have hs2 := hs.drew
          have h5 : Sep w0 (SsT (.slice none 0 0) [] :: SsT (.slice none nW 0) (A ++ B) :: DocT g (seatsOf T) :: Cl b3 #[.int .i64 s.c, .int .i64 s.n, .int .i64 s.o, .int .i64 s.k, .int .i64 s.a, .int .i64 s.b] 31 :: L) (World.drew wr) := hs2.rnNil 6 31
          obtain rfl : A = [] := (List.append_eq_nil_iff.1 hAB).1
          obtain rfl : k = 0 := HNN.out.1
          obtain rfl : nW = 0 := hnk
          have hr5 := append_seats_none (ty := 45) h5
          have h6 : Sep w0 (SsT (.slice none 0 0) ([] : List SW) :: SsT (.slice none 0 0) ([] ++ B) :: DocT g (seatsOf T) :: Cl b3 #[.int .i64 s.c, .int .i64 s.n, .int .i64 s.o, .int .i64 s.k, .int .i64 s.a, .int .i64 s.b] 31 :: L) (World.drew wr) := h5
          obtain ⟨z0, z1, z2, z3, z4, z5⟩ := cells6z (h6.pickL (M := [_, _, _, _]) [3, 0, 1, 2] rfl)
          have h7 := h6.alloc (.cells #[.int .i64 s.c, .int .i64 s.n, .int .i64 s.o, .int .i64 s.k, .int .i64 s.a, .int .i64 s.b] 31)
          obtain ⟨a8, c8, w8, hr8, h8⟩ := append_seat (ty := 45) s h7 (by have := HAB.out; simp)
          simp only [List.length_nil, Nat.zero_add] at hr8 h8
          have hr9 := append_seats_none (ty := 45) h8
          have h9 : Sep w0 (SsT (.slice a8 1 c8) (([] : List SW) ++ [s] ++ B) :: SsT (.slice none 0 0) ([] ++ B) :: DocT g (seatsOf T) :: Cl b3 #[.int .i64 s.c, .int .i64 s.n, .int .i64 s.o, .int .i64 s.k, .int .i64 s.a, .int .i64 s.b] 31 :: L) w8 := by rw [show ([] : List SW) ++ [s] ++ B = ([] : List SW) ++ [s] by rw [hBn, List.append_nil]]; exact h8
          obtain ⟨a10, c10, h10⟩ := (h9.sw3 : Sep w0 (DocT g (seatsOf T) :: SsT (.slice a8 1 c8) (([] : List SW) ++ [s] ++ B) :: _) w8).docOpen
          obtain ⟨m10, hm10⟩ : ∃ z, z = (seatsOf T).length := ⟨_, rfl⟩
          rw [← hm10] at h10
          have g0 := h10.cell (o := 0) rfl
          have gf := h10.frozen 0
          have h11 : Sep w0 (Cl g #[.slice a8 1 c8] 49 :: SsT (.slice a8 1 c8) (([] : List SW) ++ [s] ++ B) :: L) _ := ((h10.setCell 0 (.slice a8 1 c8)).pickL (M := [_, _, _, _, _]) [0, 2] rfl)
          have h12 := Sep.docClose h11
          have H12 := Lib.hid h12
          have HR5 := Lib.hid hr5
          have HR8 := Lib.hid hr8
          have HR9 := Lib.hid hr9
          clear hs hs2 h5 h6 h7 h8 h9 h10 h11 h12 hr5 hr8 hr9 hm10 hAB hBn
          (try dsimp only); repeat' (first | go_values | go_skip | go_guarded | go_step | go_upon | go_back)
          refine wp_region_G (fun w' => True) [] (by kernel_rfl) trivial (fun hS => ?_)
          try dsimp only at hS
          refine wpAnyG_take' (i := 0) (v := ?v0_1tN) rfl (by kernel_rfl) (by kernel_rfl) (by kernel_rfl) (by kernel_rfl) (fun _ _ _ h => h) (Or.inl ⟨by rfl, ?hy0_1tN⟩) hS ?rest0_1tN
          case hy0_1tN => intro w hSw; (try dsimp only at hSw); go_simp; (try with_reducible rfl)
          case rest0_1tN =>
          try simp only [List.getElem_toArray, List.getElem_cons_succ, List.getElem_cons_zero, Act.put, List.setIfInBounds_toArray, List.set_cons_zero, List.set_cons_succ]
          refine wpAnyG_take' (i := 1) (v := ?v1_2tN) rfl (by kernel_rfl) (by kernel_rfl) (by kernel_rfl) (by kernel_rfl) (fun _ _ _ h => h) (Or.inl ⟨by rfl, ?hy1_2tN⟩) hS ?rest1_2tN
          case hy1_2tN => intro w hSw; (try dsimp only at hSw); go_simp; (try with_reducible rfl)
          case rest1_2tN =>
          try simp only [List.getElem_toArray, List.getElem_cons_succ, List.getElem_cons_zero, Act.put, List.setIfInBounds_toArray, List.set_cons_zero, List.set_cons_succ]
          refine wpAnyG_take' (i := 2) (v := ?v2_3tN) rfl (by kernel_rfl) (by kernel_rfl) (by kernel_rfl) (by kernel_rfl) (fun _ _ _ h => h) (Or.inl ⟨by rfl, ?hy2_3tN⟩) hS ?rest2_3tN
          case hy2_3tN => intro w hSw; (try dsimp only at hSw); go_simp; (try with_reducible rfl)
          case rest2_3tN =>
          try simp only [List.getElem_toArray, List.getElem_cons_succ, List.getElem_cons_zero, Act.put, List.setIfInBounds_toArray, List.set_cons_zero, List.set_cons_succ]
          refine wpAnyG_take' (i := 3) (v := ?v3_4tN) rfl (by kernel_rfl) (by kernel_rfl) (by kernel_rfl) (by kernel_rfl) (fun _ _ _ h => h) (Or.inl ⟨by rfl, ?hy3_4tN⟩) hS ?rest3_4tN
          case hy3_4tN => intro w hSw; (try dsimp only at hSw); go_simp; (try with_reducible rfl)
          case rest3_4tN =>
          try simp only [List.getElem_toArray, List.getElem_cons_succ, List.getElem_cons_zero, Act.put, List.setIfInBounds_toArray, List.set_cons_zero, List.set_cons_succ]
          refine wpAnyG_take' (i := 4) (v := ?v4_5tN) rfl (by kernel_rfl) (by kernel_rfl) (by kernel_rfl) (by kernel_rfl) (fun _ _ _ h => h) (Or.inl ⟨by rfl, ?hy4_5tN⟩) hS ?rest4_5tN
          case hy4_5tN => intro w hSw; (try dsimp only at hSw); go_simp; (try with_reducible rfl)
          case rest4_5tN =>
          try simp only [List.getElem_toArray, List.getElem_cons_succ, List.getElem_cons_zero, Act.put, List.setIfInBounds_toArray, List.set_cons_zero, List.set_cons_succ]
          refine wpAnyG_take' (i := 5) (v := undef) rfl (by kernel_rfl) (by kernel_rfl) (by kernel_rfl) (by kernel_rfl) (fun _ _ _ h => h) (Or.inr ⟨by rfl, rfl⟩) hS ?rest5_6tN
          case rest5_6tN =>
          try simp only [List.getElem_toArray, List.getElem_cons_succ, List.getElem_cons_zero, Act.put, List.setIfInBounds_toArray, List.set_cons_zero, List.set_cons_succ]
          refine wpAnyG_take' (i := 6) (v := undef) rfl (by kernel_rfl) (by kernel_rfl) (by kernel_rfl) (by kernel_rfl) (fun _ _ _ h => h) (Or.inr ⟨by rfl, rfl⟩) hS ?rest6_7tN
          case rest6_7tN =>
          try simp only [List.getElem_toArray, List.getElem_cons_succ, List.getElem_cons_zero, Act.put, List.setIfInBounds_toArray, List.set_cons_zero, List.set_cons_succ]
          refine wpAnyG_take' (i := 7) (v := undef) rfl (by kernel_rfl) (by kernel_rfl) (by kernel_rfl) (by kernel_rfl) (fun _ _ _ h => h) (Or.inr ⟨by rfl, rfl⟩) hS ?rest7_8tN
          case rest7_8tN =>
          try simp only [List.getElem_toArray, List.getElem_cons_succ, List.getElem_cons_zero, Act.put, List.setIfInBounds_toArray, List.set_cons_zero, List.set_cons_succ]
          refine wpAnyG_take' (i := 8) (v := undef) rfl (by kernel_rfl) (by kernel_rfl) (by kernel_rfl) (by kernel_rfl) (fun _ _ _ h => h) (Or.inr ⟨by rfl, rfl⟩) hS ?rest8_9tN
          case rest8_9tN =>
          try simp only [List.getElem_toArray, List.getElem_cons_succ, List.getElem_cons_zero, Act.put, List.setIfInBounds_toArray, List.set_cons_zero, List.set_cons_succ]
          refine wpAnyG_take' (i := 9) (v := undef) rfl (by kernel_rfl) (by kernel_rfl) (by kernel_rfl) (by kernel_rfl) (fun _ _ _ h => h) (Or.inr ⟨by rfl, rfl⟩) hS ?rest9_10tN
          case rest9_10tN =>
          try simp only [List.getElem_toArray, List.getElem_cons_succ, List.getElem_cons_zero, Act.put, List.setIfInBounds_toArray, List.set_cons_zero, List.set_cons_succ]
          refine wpAnyG_take' (i := 10) (v := undef) rfl (by kernel_rfl) (by kernel_rfl) (by kernel_rfl) (by kernel_rfl) (fun _ _ _ h => h) (Or.inr ⟨by rfl, rfl⟩) hS ?rest10_11tN
          case rest10_11tN =>
          try simp only [List.getElem_toArray, List.getElem_cons_succ, List.getElem_cons_zero, Act.put, List.setIfInBounds_toArray, List.set_cons_zero, List.set_cons_succ]
          refine wpAnyG_take' (i := 11) (v := undef) rfl (by kernel_rfl) (by kernel_rfl) (by kernel_rfl) (by kernel_rfl) (fun _ _ _ h => h) (Or.inr ⟨by rfl, rfl⟩) hS ?rest11_12tN
          case rest11_12tN =>
          try simp only [List.getElem_toArray, List.getElem_cons_succ, List.getElem_cons_zero, Act.put, List.setIfInBounds_toArray, List.set_cons_zero, List.set_cons_succ]
          refine wpAnyG_take' (i := 12) (v := undef) rfl (by kernel_rfl) (by kernel_rfl) (by kernel_rfl) (by kernel_rfl) (fun _ _ _ h => h) (Or.inr ⟨by rfl, rfl⟩) hS ?rest12_13tN
          case rest12_13tN =>
          try simp only [List.getElem_toArray, List.getElem_cons_succ, List.getElem_cons_zero, Act.put, List.setIfInBounds_toArray, List.set_cons_zero, List.set_cons_succ]
          refine wpAnyG_take' (i := 13) (v := ?v13_14tN) rfl (by kernel_rfl) (by kernel_rfl) (by kernel_rfl) (by kernel_rfl) (fun _ _ _ h => h) (Or.inl ⟨by rfl, ?hy13_14tN⟩) hS ?rest13_14tN
          case hy13_14tN => intro w hSw; (try dsimp only at hSw); go_simp; (try with_reducible rfl)
          case rest13_14tN =>
          try simp only [List.getElem_toArray, List.getElem_cons_succ, List.getElem_cons_zero, Act.put, List.setIfInBounds_toArray, List.set_cons_zero, List.set_cons_succ]
          refine wpAnyG_done (by kernel_rfl) ?_ _
          try simp only [List.getElem_toArray, List.getElem_cons_succ, List.getElem_cons_zero, Act.put, List.setIfInBounds_toArray, List.set_cons_zero, List.set_cons_succ]
          clear hS
          (try dsimp only); repeat' (first | (at_builtin; refine stop ?_) | (refine wpList_buildS rfl _ rfl rfl ?_) | go_values | go_skip | go_guarded | go_step | go_upon | go_back)
          unfold Stop
          refine wpList_append_run rfl _ _ _ _ rfl rfl rfl HR5.out ?_
          clear HR5
          (try dsimp only); repeat' (first | (at_builtin; refine stop ?_) | (refine wpList_buildS rfl _ rfl rfl ?_) | go_values | go_skip | go_guarded | go_step | go_upon | go_back)
          unfold Stop
          refine wpList_append_run rfl _ _ _ _ rfl rfl rfl HR8.out ?_
          clear HR8 z0 z1 z2 z3 z4 z5
          (try dsimp only); repeat' (first | (at_builtin; refine stop ?_) | (refine wpList_buildS rfl _ rfl rfl ?_) | go_values | go_skip | go_guarded | go_step | go_upon | go_back)
          unfold Stop
          refine wpList_append_run rfl _ _ _ _ rfl rfl rfl HR9.out ?_
          clear HR9
          (try dsimp only); repeat' (first | go_values | go_skip | go_guarded | go_step | go_upon | go_back)
          go_end0
          exact ⟨⟨_, rfl⟩, H12.out⟩
        · by_cases hcn : cW = k
          · clear hB hkA hk
            have hcn2 := hcn.symm
            subst hcn2
            clear hcn
            have HCL := Lib.hid hcell
            have hs2 := hs.drew
            have h5 : Sep w0 (SsT (.slice none 0 0) [] :: SsT (.slice (some ⟨b, 0, none⟩) nW k) (A ++ B) :: DocT g (seatsOf T) :: Cl b3 #[.int .i64 s.c, .int .i64 s.n, .int .i64 s.o, .int .i64 s.k, .int .i64 s.a, .int .i64 s.b] 31 :: L) (World.drew wr) := hs2.rnNil 6 31
            have hcA : ∀ j u, (sixes A)[j]? = some u → (World.drew wr).cell? ⟨b, 0 + j, none⟩ = some u := fun j u hj => by rw [Nat.zero_add]; exact hcell j u (sixes_left hj)
            obtain ⟨a6, c6, w6, hr5, h6⟩ := append_seats (ty := 45) (n := k) (c := k) h5 hcA (by have := HAB.out; simp; omega) HNN.out.1.symm
            rw [List.length_nil, Nat.zero_add, List.nil_append] at h6
            rw [List.length_nil, Nat.zero_add] at hr5
            obtain ⟨z0, z1, z2, z3, z4, z5⟩ := cells6z (h6.pickL (M := [_, _, _, _]) [3, 0, 1, 2] rfl)
            have h7 := h6.alloc (.cells #[.int .i64 s.c, .int .i64 s.n, .int .i64 s.o, .int .i64 s.k, .int .i64 s.a, .int .i64 s.b] 31)
            obtain ⟨a8, c8, w8, hr8, h8⟩ := append_seat (ty := 45) s h7 (by have := HAB.out; omega)
            rw [← HNN.out.1] at hr8 h8
            obtain ⟨m8, hm8⟩ : ∃ z, z = k + 1 := ⟨_, rfl⟩
            rw [← hm8] at hr8 h8
            have hlA : (A ++ [s]).length = m8 := by rw [List.length_append, ← HNN.out.1, hm8]; rfl
            obtain ⟨a9, c9, w9, hr9, h9⟩ := append_seats (ty := 45) (b := b) (off := 0) (n := nW - k) (c := 0) (G := []) h8 (by intro j u hj; simp [sixes] at hj) (by have := HAB.out; rw [hlA]; simp; omega) (by simp; omega)
            rw [hlA] at hr9 h9
            obtain ⟨m9, hm9⟩ : ∃ z, z = m8 + (nW - k) := ⟨_, rfl⟩
            rw [← hm9] at hr9 h9
            rw [show A ++ [s] ++ [] = A ++ [s] ++ B by rw [hBn]] at h9
            obtain ⟨a10, c10, h10⟩ := (h9.sw3 : Sep w0 (DocT g (seatsOf T) :: SsT (.slice a9 m9 c9) (A ++ [s] ++ B) :: _) w9).docOpen
            obtain ⟨m10, hm10⟩ : ∃ z, z = (seatsOf T).length := ⟨_, rfl⟩
            rw [← hm10] at h10
            have g0 := h10.cell (o := 0) rfl
            have gf := h10.frozen 0
            have h11 : Sep w0 (Cl g #[.slice a9 m9 c9] 49 :: SsT (.slice a9 m9 c9) (A ++ [s] ++ B) :: L) _ := ((h10.setCell 0 (.slice a9 m9 c9)).pickL (M := [_, _, _, _, _]) [0, 2] rfl)
            have h12 := Sep.docClose h11
            have H12 := Lib.hid h12
            have HR5 := Lib.hid hr5
            have HR8 := Lib.hid hr8
            have HR9 := Lib.hid hr9
            have k8n : (k : Int) ≤ (nW : Int) := by omega
            have k8m : k ≤ nW := by omega
            have k8 : (k : Int) ≤ (k : Int) := by omega
            clear hs hs2 h5 h6 h7 h8 h9 h10 h11 h12 hr5 hr8 hr9 hm10 hlA hm8 hm9 hcA hcell hcw hBn hnk
            (try dsimp only); repeat' (first | go_values | go_skip | go_guarded | go_step | go_upon | go_back)
            refine wp_region_G (fun w' => True) [] (by kernel_rfl) trivial (fun hS => ?_)
            try dsimp only at hS
            refine wpAnyG_take' (i := 0) (v := ?v0_1tC) rfl (by kernel_rfl) (by kernel_rfl) (by kernel_rfl) (by kernel_rfl) (fun _ _ _ h => h) (Or.inl ⟨by rfl, ?hy0_1tC⟩) hS ?rest0_1tC
            case hy0_1tC => intro w hSw; (try dsimp only at hSw); go_simp; (try with_reducible rfl)
            case rest0_1tC =>
            try simp only [List.getElem_toArray, List.getElem_cons_succ, List.getElem_cons_zero, Act.put, List.setIfInBounds_toArray, List.set_cons_zero, List.set_cons_succ]
            refine wpAnyG_take' (i := 1) (v := ?v1_2tC) rfl (by kernel_rfl) (by kernel_rfl) (by kernel_rfl) (by kernel_rfl) (fun _ _ _ h => h) (Or.inl ⟨by rfl, ?hy1_2tC⟩) hS ?rest1_2tC
            case hy1_2tC => intro w hSw; (try dsimp only at hSw); go_simp; (try with_reducible rfl)
            case rest1_2tC =>
            try simp only [List.getElem_toArray, List.getElem_cons_succ, List.getElem_cons_zero, Act.put, List.setIfInBounds_toArray, List.set_cons_zero, List.set_cons_succ]
            refine wpAnyG_take' (i := 2) (v := ?v2_3tC) rfl (by kernel_rfl) (by kernel_rfl) (by kernel_rfl) (by kernel_rfl) (fun _ _ _ h => h) (Or.inl ⟨by rfl, ?hy2_3tC⟩) hS ?rest2_3tC
            case hy2_3tC => intro w hSw; (try dsimp only at hSw); go_simp; (try with_reducible rfl)
            case rest2_3tC =>
            try simp only [List.getElem_toArray, List.getElem_cons_succ, List.getElem_cons_zero, Act.put, List.setIfInBounds_toArray, List.set_cons_zero, List.set_cons_succ]
            refine wpAnyG_take' (i := 3) (v := ?v3_4tC) rfl (by kernel_rfl) (by kernel_rfl) (by kernel_rfl) (by kernel_rfl) (fun _ _ _ h => h) (Or.inl ⟨by rfl, ?hy3_4tC⟩) hS ?rest3_4tC
            case hy3_4tC => intro w hSw; (try dsimp only at hSw); go_simp; (try with_reducible rfl)
            case rest3_4tC =>
            try simp only [List.getElem_toArray, List.getElem_cons_succ, List.getElem_cons_zero, Act.put, List.setIfInBounds_toArray, List.set_cons_zero, List.set_cons_succ]
            refine wpAnyG_take' (i := 4) (v := ?v4_5tC) rfl (by kernel_rfl) (by kernel_rfl) (by kernel_rfl) (by kernel_rfl) (fun _ _ _ h => h) (Or.inl ⟨by rfl, ?hy4_5tC⟩) hS ?rest4_5tC
            case hy4_5tC => intro w hSw; (try dsimp only at hSw); go_simp; (try with_reducible rfl)
            case rest4_5tC =>
            try simp only [List.getElem_toArray, List.getElem_cons_succ, List.getElem_cons_zero, Act.put, List.setIfInBounds_toArray, List.set_cons_zero, List.set_cons_succ]
            refine wpAnyG_take' (i := 5) (v := undef) rfl (by kernel_rfl) (by kernel_rfl) (by kernel_rfl) (by kernel_rfl) (fun _ _ _ h => h) (Or.inr ⟨by rfl, rfl⟩) hS ?rest5_6tC
            case rest5_6tC =>
            try simp only [List.getElem_toArray, List.getElem_cons_succ, List.getElem_cons_zero, Act.put, List.setIfInBounds_toArray, List.set_cons_zero, List.set_cons_succ]
            refine wpAnyG_take' (i := 6) (v := undef) rfl (by kernel_rfl) (by kernel_rfl) (by kernel_rfl) (by kernel_rfl) (fun _ _ _ h => h) (Or.inr ⟨by rfl, rfl⟩) hS ?rest6_7tC
            case rest6_7tC =>
            try simp only [List.getElem_toArray, List.getElem_cons_succ, List.getElem_cons_zero, Act.put, List.setIfInBounds_toArray, List.set_cons_zero, List.set_cons_succ]
            refine wpAnyG_take' (i := 7) (v := undef) rfl (by kernel_rfl) (by kernel_rfl) (by kernel_rfl) (by kernel_rfl) (fun _ _ _ h => h) (Or.inr ⟨by rfl, rfl⟩) hS ?rest7_8tC
            case rest7_8tC =>
            try simp only [List.getElem_toArray, List.getElem_cons_succ, List.getElem_cons_zero, Act.put, List.setIfInBounds_toArray, List.set_cons_zero, List.set_cons_succ]
            refine wpAnyG_take' (i := 8) (v := undef) rfl (by kernel_rfl) (by kernel_rfl) (by kernel_rfl) (by kernel_rfl) (fun _ _ _ h => h) (Or.inr ⟨by rfl, rfl⟩) hS ?rest8_9tC
            case rest8_9tC =>
            try simp only [List.getElem_toArray, List.getElem_cons_succ, List.getElem_cons_zero, Act.put, List.setIfInBounds_toArray, List.set_cons_zero, List.set_cons_succ]
            refine wpAnyG_take' (i := 9) (v := undef) rfl (by kernel_rfl) (by kernel_rfl) (by kernel_rfl) (by kernel_rfl) (fun _ _ _ h => h) (Or.inr ⟨by rfl, rfl⟩) hS ?rest9_10tC
            case rest9_10tC =>
            try simp only [List.getElem_toArray, List.getElem_cons_succ, List.getElem_cons_zero, Act.put, List.setIfInBounds_toArray, List.set_cons_zero, List.set_cons_succ]
            refine wpAnyG_take' (i := 10) (v := undef) rfl (by kernel_rfl) (by kernel_rfl) (by kernel_rfl) (by kernel_rfl) (fun _ _ _ h => h) (Or.inr ⟨by rfl, rfl⟩) hS ?rest10_11tC
            case rest10_11tC =>
            try simp only [List.getElem_toArray, List.getElem_cons_succ, List.getElem_cons_zero, Act.put, List.setIfInBounds_toArray, List.set_cons_zero, List.set_cons_succ]
            refine wpAnyG_take' (i := 11) (v := undef) rfl (by kernel_rfl) (by kernel_rfl) (by kernel_rfl) (by kernel_rfl) (fun _ _ _ h => h) (Or.inr ⟨by rfl, rfl⟩) hS ?rest11_12tC
            case rest11_12tC =>
            try simp only [List.getElem_toArray, List.getElem_cons_succ, List.getElem_cons_zero, Act.put, List.setIfInBounds_toArray, List.set_cons_zero, List.set_cons_succ]
            refine wpAnyG_take' (i := 12) (v := undef) rfl (by kernel_rfl) (by kernel_rfl) (by kernel_rfl) (by kernel_rfl) (fun _ _ _ h => h) (Or.inr ⟨by rfl, rfl⟩) hS ?rest12_13tC
            case rest12_13tC =>
            try simp only [List.getElem_toArray, List.getElem_cons_succ, List.getElem_cons_zero, Act.put, List.setIfInBounds_toArray, List.set_cons_zero, List.set_cons_succ]
            refine wpAnyG_take' (i := 13) (v := ?v13_14tC) rfl (by kernel_rfl) (by kernel_rfl) (by kernel_rfl) (by kernel_rfl) (fun _ _ _ h => h) (Or.inl ⟨by rfl, ?hy13_14tC⟩) hS ?rest13_14tC
            case hy13_14tC => intro w hSw; (try dsimp only at hSw); go_simp; (try with_reducible rfl)
            case rest13_14tC =>
            try simp only [List.getElem_toArray, List.getElem_cons_succ, List.getElem_cons_zero, Act.put, List.setIfInBounds_toArray, List.set_cons_zero, List.set_cons_succ]
            refine wpAnyG_done (by kernel_rfl) ?_ _
            try simp only [List.getElem_toArray, List.getElem_cons_succ, List.getElem_cons_zero, Act.put, List.setIfInBounds_toArray, List.set_cons_zero, List.set_cons_succ]
            clear hS
            (try dsimp only); repeat' (first | (at_builtin; refine stop ?_) | (refine wpList_buildS rfl _ rfl rfl ?_) | go_values | go_skip | go_guarded | go_step | go_upon | go_back)
            unfold Stop
            refine wpList_append_run rfl _ _ _ _ rfl rfl rfl HR5.out ?_
            clear HR5
            (try dsimp only); repeat' (first | (at_builtin; refine stop ?_) | (refine wpList_buildS rfl _ rfl rfl ?_) | go_values | go_skip | go_guarded | go_step | go_upon | go_back)
            unfold Stop
            refine wpList_append_run rfl _ _ _ _ rfl rfl rfl HR8.out ?_
            clear HR8 z0 z1 z2 z3 z4 z5
            (try dsimp only); repeat' (first | (at_builtin; refine stop ?_) | (refine wpList_buildS rfl _ rfl rfl ?_) | go_values | go_skip | go_guarded | go_step | go_upon | go_back)
            unfold Stop
            refine wpList_append_run rfl _ _ _ _ rfl rfl rfl HR9.out ?_
            clear HR9
            (try dsimp only); repeat' (first | go_values | go_skip | go_guarded | go_step | go_upon | go_back)
            go_end0
            exact ⟨⟨_, rfl⟩, H12.out⟩
          · clear hB hkA hk
            have HCL := Lib.hid hcell
            have hs2 := hs.drew
            have h5 : Sep w0 (SsT (.slice none 0 0) [] :: SsT (.slice (some ⟨b, 0, none⟩) nW cW) (A ++ B) :: DocT g (seatsOf T) :: Cl b3 #[.int .i64 s.c, .int .i64 s.n, .int .i64 s.o, .int .i64 s.k, .int .i64 s.a, .int .i64 s.b] 31 :: L) (World.drew wr) := hs2.rnNil 6 31
            have hcA : ∀ j u, (sixes A)[j]? = some u → (World.drew wr).cell? ⟨b, 0 + j, none⟩ = some u := fun j u hj => by rw [Nat.zero_add]; exact hcell j u (sixes_left hj)
            obtain ⟨a6, c6, w6, hr5, h6⟩ := append_seats (ty := 45) (n := k) (c := cW) h5 hcA (by have := HAB.out; simp; omega) HNN.out.1.symm
            rw [List.length_nil, Nat.zero_add, List.nil_append] at h6
            rw [List.length_nil, Nat.zero_add] at hr5
            obtain ⟨z0, z1, z2, z3, z4, z5⟩ := cells6z (h6.pickL (M := [_, _, _, _]) [3, 0, 1, 2] rfl)
            have h7 := h6.alloc (.cells #[.int .i64 s.c, .int .i64 s.n, .int .i64 s.o, .int .i64 s.k, .int .i64 s.a, .int .i64 s.b] 31)
            obtain ⟨a8, c8, w8, hr8, h8⟩ := append_seat (ty := 45) s h7 (by have := HAB.out; omega)
            rw [← HNN.out.1] at hr8 h8
            obtain ⟨m8, hm8⟩ : ∃ z, z = k + 1 := ⟨_, rfl⟩
            rw [← hm8] at hr8 h8
            have hlA : (A ++ [s]).length = m8 := by rw [List.length_append, ← HNN.out.1, hm8]; rfl
            have hc8 : ∀ j u, (sixes B)[j]? = some u → w8.cell? ⟨b, k * 6 + j, none⟩ = some u := fun j u hj => by
              obtain ⟨-, hq⟩ := h8.sw2.ssForm
              rcases hq with ⟨hq, -⟩ | ⟨b', hq, -, hcl⟩
              · cases hq
              · simp only [Option.some.injEq, Addr.mk.injEq, and_true] at hq
                subst hq
                have h9 := sixes_right (A := A) hj
                rw [← HNN.out.1] at h9
                exact hcl _ _ h9
            obtain ⟨a9, c9, w9, hr9, h9⟩ := append_seats (ty := 45) (n := nW - k) (c := cW - k) h8 hc8 (by have := HAB.out; rw [hlA]; omega) (by have := HNN.out; omega)
            rw [hlA] at hr9 h9
            obtain ⟨m9, hm9⟩ : ∃ z, z = m8 + (nW - k) := ⟨_, rfl⟩
            rw [← hm9] at hr9 h9
            obtain ⟨a10, c10, h10⟩ := (h9.sw3 : Sep w0 (DocT g (seatsOf T) :: SsT (.slice a9 m9 c9) (A ++ [s] ++ B) :: _) w9).docOpen
            obtain ⟨m10, hm10⟩ : ∃ z, z = (seatsOf T).length := ⟨_, rfl⟩
            rw [← hm10] at h10
            have g0 := h10.cell (o := 0) rfl
            have gf := h10.frozen 0
            have h11 : Sep w0 (Cl g #[.slice a9 m9 c9] 49 :: SsT (.slice a9 m9 c9) (A ++ [s] ++ B) :: L) _ := ((h10.setCell 0 (.slice a9 m9 c9)).pickL (M := [_, _, _, _, _]) [0, 2] rfl)
            have h12 := Sep.docClose h11
            have H12 := Lib.hid h12
            have HR5 := Lib.hid hr5
            have HR8 := Lib.hid hr8
            have HR9 := Lib.hid hr9
            have k8n : (k : Int) ≤ (nW : Int) := by omega
            have k8m : k ≤ nW := by omega
            have k8 : (k : Int) ≤ (cW : Int) := by omega
            clear hs hs2 h5 h6 h7 h8 h9 h10 h11 h12 hr5 hr8 hr9 hm10 hlA hm8 hcA hc8 hm9 hcell hcw hBn hnk
            (try dsimp only); repeat' (first | go_values | go_skip | go_guarded | go_step | go_upon | go_back)
            refine wp_region_G (fun w' => True) [] (by kernel_rfl) trivial (fun hS => ?_)
            try dsimp only at hS
            refine wpAnyG_take' (i := 0) (v := ?v0_1tE) rfl (by kernel_rfl) (by kernel_rfl) (by kernel_rfl) (by kernel_rfl) (fun _ _ _ h => h) (Or.inl ⟨by rfl, ?hy0_1tE⟩) hS ?rest0_1tE
            case hy0_1tE => intro w hSw; (try dsimp only at hSw); go_simp; (try with_reducible rfl)
            case rest0_1tE =>
            try simp only [List.getElem_toArray, List.getElem_cons_succ, List.getElem_cons_zero, Act.put, List.setIfInBounds_toArray, List.set_cons_zero, List.set_cons_succ]
            refine wpAnyG_take' (i := 1) (v := ?v1_2tE) rfl (by kernel_rfl) (by kernel_rfl) (by kernel_rfl) (by kernel_rfl) (fun _ _ _ h => h) (Or.inl ⟨by rfl, ?hy1_2tE⟩) hS ?rest1_2tE
            case hy1_2tE => intro w hSw; (try dsimp only at hSw); go_simp; (try with_reducible rfl)
            case rest1_2tE =>
            try simp only [List.getElem_toArray, List.getElem_cons_succ, List.getElem_cons_zero, Act.put, List.setIfInBounds_toArray, List.set_cons_zero, List.set_cons_succ]
            refine wpAnyG_take' (i := 2) (v := ?v2_3tE) rfl (by kernel_rfl) (by kernel_rfl) (by kernel_rfl) (by kernel_rfl) (fun _ _ _ h => h) (Or.inl ⟨by rfl, ?hy2_3tE⟩) hS ?rest2_3tE
            case hy2_3tE => intro w hSw; (try dsimp only at hSw); go_simp; (try with_reducible rfl)
            case rest2_3tE =>
            try simp only [List.getElem_toArray, List.getElem_cons_succ, List.getElem_cons_zero, Act.put, List.setIfInBounds_toArray, List.set_cons_zero, List.set_cons_succ]
            refine wpAnyG_take' (i := 3) (v := ?v3_4tE) rfl (by kernel_rfl) (by kernel_rfl) (by kernel_rfl) (by kernel_rfl) (fun _ _ _ h => h) (Or.inl ⟨by rfl, ?hy3_4tE⟩) hS ?rest3_4tE
            case hy3_4tE => intro w hSw; (try dsimp only at hSw); go_simp; (try with_reducible rfl)
            case rest3_4tE =>
            try simp only [List.getElem_toArray, List.getElem_cons_succ, List.getElem_cons_zero, Act.put, List.setIfInBounds_toArray, List.set_cons_zero, List.set_cons_succ]
            refine wpAnyG_take' (i := 4) (v := ?v4_5tE) rfl (by kernel_rfl) (by kernel_rfl) (by kernel_rfl) (by kernel_rfl) (fun _ _ _ h => h) (Or.inl ⟨by rfl, ?hy4_5tE⟩) hS ?rest4_5tE
            case hy4_5tE => intro w hSw; (try dsimp only at hSw); go_simp; (try with_reducible rfl)
            case rest4_5tE =>
            try simp only [List.getElem_toArray, List.getElem_cons_succ, List.getElem_cons_zero, Act.put, List.setIfInBounds_toArray, List.set_cons_zero, List.set_cons_succ]
            refine wpAnyG_take' (i := 5) (v := undef) rfl (by kernel_rfl) (by kernel_rfl) (by kernel_rfl) (by kernel_rfl) (fun _ _ _ h => h) (Or.inr ⟨by rfl, rfl⟩) hS ?rest5_6tE
            case rest5_6tE =>
            try simp only [List.getElem_toArray, List.getElem_cons_succ, List.getElem_cons_zero, Act.put, List.setIfInBounds_toArray, List.set_cons_zero, List.set_cons_succ]
            refine wpAnyG_take' (i := 6) (v := undef) rfl (by kernel_rfl) (by kernel_rfl) (by kernel_rfl) (by kernel_rfl) (fun _ _ _ h => h) (Or.inr ⟨by rfl, rfl⟩) hS ?rest6_7tE
            case rest6_7tE =>
            try simp only [List.getElem_toArray, List.getElem_cons_succ, List.getElem_cons_zero, Act.put, List.setIfInBounds_toArray, List.set_cons_zero, List.set_cons_succ]
            refine wpAnyG_take' (i := 7) (v := undef) rfl (by kernel_rfl) (by kernel_rfl) (by kernel_rfl) (by kernel_rfl) (fun _ _ _ h => h) (Or.inr ⟨by rfl, rfl⟩) hS ?rest7_8tE
            case rest7_8tE =>
            try simp only [List.getElem_toArray, List.getElem_cons_succ, List.getElem_cons_zero, Act.put, List.setIfInBounds_toArray, List.set_cons_zero, List.set_cons_succ]
            refine wpAnyG_take' (i := 8) (v := undef) rfl (by kernel_rfl) (by kernel_rfl) (by kernel_rfl) (by kernel_rfl) (fun _ _ _ h => h) (Or.inr ⟨by rfl, rfl⟩) hS ?rest8_9tE
            case rest8_9tE =>
            try simp only [List.getElem_toArray, List.getElem_cons_succ, List.getElem_cons_zero, Act.put, List.setIfInBounds_toArray, List.set_cons_zero, List.set_cons_succ]
            refine wpAnyG_take' (i := 9) (v := undef) rfl (by kernel_rfl) (by kernel_rfl) (by kernel_rfl) (by kernel_rfl) (fun _ _ _ h => h) (Or.inr ⟨by rfl, rfl⟩) hS ?rest9_10tE
            case rest9_10tE =>
            try simp only [List.getElem_toArray, List.getElem_cons_succ, List.getElem_cons_zero, Act.put, List.setIfInBounds_toArray, List.set_cons_zero, List.set_cons_succ]
            refine wpAnyG_take' (i := 10) (v := undef) rfl (by kernel_rfl) (by kernel_rfl) (by kernel_rfl) (by kernel_rfl) (fun _ _ _ h => h) (Or.inr ⟨by rfl, rfl⟩) hS ?rest10_11tE
            case rest10_11tE =>
            try simp only [List.getElem_toArray, List.getElem_cons_succ, List.getElem_cons_zero, Act.put, List.setIfInBounds_toArray, List.set_cons_zero, List.set_cons_succ]
            refine wpAnyG_take' (i := 11) (v := undef) rfl (by kernel_rfl) (by kernel_rfl) (by kernel_rfl) (by kernel_rfl) (fun _ _ _ h => h) (Or.inr ⟨by rfl, rfl⟩) hS ?rest11_12tE
            case rest11_12tE =>
            try simp only [List.getElem_toArray, List.getElem_cons_succ, List.getElem_cons_zero, Act.put, List.setIfInBounds_toArray, List.set_cons_zero, List.set_cons_succ]
            refine wpAnyG_take' (i := 12) (v := undef) rfl (by kernel_rfl) (by kernel_rfl) (by kernel_rfl) (by kernel_rfl) (fun _ _ _ h => h) (Or.inr ⟨by rfl, rfl⟩) hS ?rest12_13tE
            case rest12_13tE =>
            try simp only [List.getElem_toArray, List.getElem_cons_succ, List.getElem_cons_zero, Act.put, List.setIfInBounds_toArray, List.set_cons_zero, List.set_cons_succ]
            refine wpAnyG_take' (i := 13) (v := ?v13_14tE) rfl (by kernel_rfl) (by kernel_rfl) (by kernel_rfl) (by kernel_rfl) (fun _ _ _ h => h) (Or.inl ⟨by rfl, ?hy13_14tE⟩) hS ?rest13_14tE
            case hy13_14tE => intro w hSw; (try dsimp only at hSw); go_simp; (try with_reducible rfl)
            case rest13_14tE =>
            try simp only [List.getElem_toArray, List.getElem_cons_succ, List.getElem_cons_zero, Act.put, List.setIfInBounds_toArray, List.set_cons_zero, List.set_cons_succ]
            refine wpAnyG_done (by kernel_rfl) ?_ _
            try simp only [List.getElem_toArray, List.getElem_cons_succ, List.getElem_cons_zero, Act.put, List.setIfInBounds_toArray, List.set_cons_zero, List.set_cons_succ]
            clear hS
            (try dsimp only); repeat' (first | (at_builtin; refine stop ?_) | (refine wpList_buildS rfl _ rfl rfl ?_) | go_values | go_skip | go_guarded | go_step | go_upon | go_back)
            unfold Stop
            refine wpList_append_run rfl _ _ _ _ rfl rfl rfl HR5.out ?_
            clear HR5
            (try dsimp only); repeat' (first | (at_builtin; refine stop ?_) | (refine wpList_buildS rfl _ rfl rfl ?_) | go_values | go_skip | go_guarded | go_step | go_upon | go_back)
            unfold Stop
            refine wpList_append_run rfl _ _ _ _ rfl rfl rfl HR8.out ?_
            clear HR8 z0 z1 z2 z3 z4 z5
            (try dsimp only); repeat' (first | (at_builtin; refine stop ?_) | (refine wpList_buildS rfl _ rfl rfl ?_) | go_values | go_skip | go_guarded | go_step | go_upon | go_back)
            unfold Stop
            refine wpList_append_run rfl _ _ _ _ rfl rfl rfl HR9.out ?_
            clear HR9
            (try dsimp only); repeat' (first | go_values | go_skip | go_guarded | go_step | go_upon | go_back)
            go_end0
            exact ⟨⟨_, rfl⟩, H12.out⟩
end Go.Proofs.Ytjjjkfdppleagaa
