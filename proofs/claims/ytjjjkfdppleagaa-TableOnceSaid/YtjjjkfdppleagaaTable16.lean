/- TableOnce. -/
import Derived.Test.YtjjjkfdppleagaaTable15
namespace Go.Proofs.Ytjjjkfdppleagaa
open Go Go.RowKit
set_option linter.unusedVariables false
set_option linter.unusedSimpArgs false
theorem cl_ne {w0 w : World} {b g : Nat} {xs ys : Array Value} {t u : TypeId} {L : List Thing} (h : Sep w0 (Cl b xs t :: Cl g ys u :: L) w) : b ≠ g := by
  obtain ⟨_, _, F, hF, hf, F', hF', hf', _⟩ := h
  intro e
  subst e
  exact (hf' _ ((hF'.2 _).2 rfl)).2.2 (.inr ((hF.2 _).2 rfl))
theorem had0 : hadCs T0 = #[.int .i64 0, .int .i64 0, .int .i64 0, .int .i64 0, .int .i64 0, .int .i64 0, .int .i64 0, .int .i64 0] := by kernel_rfl
theorem put_rng {w0 w : World} {g : Nat} {T : List SW} {L : List Thing} (c n o k a b : Int) (h : Sep w0 (TabT g T :: L) w) (hT : T.length = 8) (hok : clientOk c n o k a b = true) (hj : judgeV T c n = 2 ∨ judgeV T c n = 3) :
    Calls Try.prog 18 #[.pointer (some ⟨g, 0, none⟩), .agg #[.int .i64 c, .int .i64 n, .int .i64 o, .int .i64 k, .int .i64 a, .int .i64 b]] w fun e w' => e = .returned (.tuple #[.agg #[.bool false, .int .i64 0, .int .i64 0, .int .i64 0, .int .i64 0, .int .i64 0, .int .i64 0], .int .i64 9]) ∧ Sep w0 (TabT g T :: L) w' := by
  rcases hj with hj | hj
  · exact put_same c n o k a b h hT hok hj
  · exact put_old c n o k a b h hT hok hj
set_option maxRecDepth 100000 in
set_option maxHeartbeats 0 in
theorem once_any (v : Value) (w : World) (h : RdC Try.prog w 45 [v]) :
    Calls Try.prog 5 #[v] w fun e w' => e = .returned (.bool true) ∧ Below w.heap.size w w' := by
  obtain ⟨la, len, cap, rfl, hlc, hcm, hd⟩ := seats_of h
  have HD := Lib.hid hd
  have l0 : (0 : Int) ≤ (len : Int) := by omega
  have HW := Lib.hid (works10_any (Sep.start w))
  clear h hd hlc hcm
  go_enter Try.func5, Try.ntmps5
  (try dsimp only); repeat' (first | go_values | go_skip | go_guarded | go_step | go_upon | go_back)
  refine HW.out.mono ?_
  rintro r0 w1 ⟨rfl, h1⟩
  have HN := Lib.hid (tnew_any h1)
  clear HW h1
  (try dsimp only); repeat' (first | go_values | go_skip | go_guarded | go_step | go_upon | go_back)
  refine HN.out.mono ?_
  rintro r0 w2 ⟨g, rfl, h2⟩
  have h3 := h2.alloc (.cells #[.int .i64 0, .int .i64 0, .int .i64 0, .int .i64 0, .int .i64 0, .int .i64 0, .int .i64 0, .int .i64 0] 62)
  obtain ⟨b4, hb4⟩ : ∃ z, z = w2.heap.size := ⟨_, rfl⟩
  obtain ⟨w3, hw3⟩ : ∃ z, z = w2.alloc (.cells #[.int .i64 0, .int .i64 0, .int .i64 0, .int .i64 0, .int .i64 0, .int .i64 0, .int .i64 0, .int .i64 0] 62) := ⟨_, rfl⟩
  rw [← hb4, ← hw3, ← had0] at h3
  have H3 := Lib.hid h3
  clear HN h2 h3
  (try dsimp only); repeat' (first | go_values | go_skip | go_guarded | go_step | go_upon | go_back)
  rw [← hw3, ← hb4]
  clear hw3 hb4
  go_loopw [5, 6] (fun q i wr => ∃ (k : Nat) (T : List SW), k ≤ len ∧ k ≤ 60 ∧ q = .int .i64 ((seatsOf T).length : Int) ∧ i = .int .i64 k ∧ OnceT T ∧ Sep w [Cl b4 (hadCs T) 62, TabT g T] wr) (fun _ i _ => 60 - (intOf i).toNat)
  case atStart => exact ⟨0, T0, Nat.zero_le _, by omega, by rw [show (seatsOf T0).length = 0 from by kernel_rfl]; rfl, rfl, OnceT.zero, H3.out⟩
  case round =>
    obtain ⟨k, T, hkl, hk60, rfl, rfl, hT, hs⟩ := hrel
    clear H3
    have k0 : (0 : Int) ≤ (k : Int) := by omega
    have k60 : (k : Int) ≤ 60 := by omega
    obtain ⟨m, hm⟩ : ∃ z, z = (seatsOf T).length := ⟨_, rfl⟩
    have m6 : (m : Int) ≤ 6 := by have := hT.many; omega
    have m0 : (0 : Int) ≤ (m : Int) := by omega
    rw [← hm]
    have HT := Lib.hid (And.intro hT hm)
    clear hm hT
    by_cases hgo : k < len ∧ k < 60
    · have d0 : decide (k < len) = true := decide_eq_true hgo.1
      have d1 : decide ((k : Int) < 60) = true := decide_eq_true (by omega)
      have k1 : (k : Int) < (len : Int) := by omega
      obtain ⟨b, off, rfl, hbl, xc, xn, xo, xk, xa, xb, hat⟩ := HD.out k hgo.1
      have q : ∀ j z, [.int .i64 xc, .int .i64 xn, .int .i64 xo, .int .i64 xk, .int .i64 xa, .int .i64 xb][j]? = some z → ∀ wx, Below w.heap.size w wx → wx.cell? ⟨b, off + k * 6 + j, none⟩ = some z := fun j z hj wx hb => (hb.cell (p := ⟨b, off + k * 6 + j, none⟩) hbl).trans (hat j z hj)
      have HQ := Lib.hid q
      have e0 := q 0 _ rfl wr hs.low
      have e1 := q 1 _ rfl wr hs.low
      have e2 := q 2 _ rfl wr hs.low
      have e3 := q 3 _ rfl wr hs.low
      have e4 := q 4 _ rfl wr hs.low
      have e5 := q 5 _ rfl wr hs.low
      simp only [Nat.add_zero] at e0
      have hmd := made10_any xc xn xo xk xa xb hs
      obtain ⟨i, hi, hi8⟩ : ∃ i : Nat, xc % 8 = (i : Int) ∧ i < 8 := ⟨(xc % 8).toNat, by omega, by omega⟩
      obtain ⟨n0, hn0, hn1, hn2⟩ : ∃ z : Int, 1 + xn % 2147483647 = z ∧ 1 ≤ z ∧ z ≤ 2147483647 := ⟨_, rfl, by omega, by omega⟩
      obtain ⟨so, hso, so1, so2⟩ : ∃ z : Int, 1 + xo % 1125899906842624 = z ∧ 1 ≤ z ∧ z ≤ 1125899906842624 := ⟨_, rfl, by omega, by omega⟩
      obtain ⟨sk, hsk, sk1, sk2⟩ : ∃ z : Int, xk % 7 = z ∧ 0 ≤ z ∧ z ≤ 6 := ⟨_, rfl, by omega, by omega⟩
      obtain ⟨sa, hsa, sa1, sa2⟩ : ∃ z : Int, xa % 2147483647 = z ∧ 0 ≤ z ∧ z ≤ 2147483646 := ⟨_, rfl, by omega, by omega⟩
      obtain ⟨sb, hsb, sb1, sb2⟩ : ∃ z : Int, xb % 2147483647 = z ∧ 0 ≤ z ∧ z ≤ 2147483646 := ⟨_, rfl, by omega, by omega⟩
      rw [hi, hn0, hso, hsk, hsa, hsb] at hmd
      have HM := Lib.hid hmd
      have HC : Hid (∀ z : Int, 1 ≤ z → z ≤ 2147483647 → clientOk i z so sk sa sb = true) := Lib.hid fun z z1 z2 => by
        unfold clientOk clientB resB
        simp
        omega
      have HG := Lib.hid hgo
      clear hs hat q hmd hi hn0 hso so1 so2 hsk sk1 sk2 hsa sa1 sa2 hsb sb1 sb2 hgo hkl hk60
      (try dsimp only); repeat' (first | go_values | go_skip | go_guarded | go_step | go_upon | go_back)
      refine HM.out.mono ?_
      rintro r0 w4 ⟨rfl, h4⟩
      obtain ⟨s, hsq⟩ : ∃ s, T[i]? = some s := ⟨_, List.getElem?_eq_getElem (show i < T.length by rw [HT.out.1.len]; exact hi8)⟩
      have HS := Lib.hid hsq
      have i0 : (0 : Int) ≤ (i : Int) := by omega
      have i8 : (i : Int) < 8 := by omega
      have HI := Lib.hid hi8
      clear HM e0 e1 e2 e3 e4 e5 hsq hi8
      have HN0 := Lib.hid (And.intro hn1 hn2)
      clear hn1 hn2
      by_cases hp : xn.tmod 2 = 0
      · have p0 : (xn.tmod 2 == 0) = true := beq_iff_eq.2 hp
        obtain ⟨num, hnum, z1, z2⟩ : ∃ z : Int, IntKind.i64.wrap (1 + n0.tmod 8) = z ∧ 1 ≤ z ∧ z ≤ 2147483647 := by
          have h9 : n0.tmod 8 = n0 % 8 := Int.tmod_eq_emod_of_nonneg (by have := HN0.out; omega)
          exact ⟨1 + n0 % 8, by rw [h9]; exact IntWalk.i64_in _ (by omega), by omega, by omega⟩
        clear hp
        cases hhad : s.had with
        | false =>
          by_cases hm5 : 6 ≤ m
          · as_aux_lemma =>
              have h5 := h4.alloc (.cells #[.int .i64 i, .int .i64 num, .int .i64 so, .int .i64 sk, .int .i64 sa, .int .i64 sb] 31)
              have f1 := (h4.alloc (.cells #[.int .i64 i, .int .i64 n0, .int .i64 so, .int .i64 sk, .int .i64 sa, .int .i64 sb] 31)).low
              have g1 := HQ.out 1 _ rfl _ f1
              have g2 := HQ.out 1 _ rfl _ h5.low
              have hpt := put_full i num so sk sa sb (h5.pick [2, 0, 1] rfl : Sep w [TabT g T, Cl _ #[.int .i64 i, .int .i64 num, .int .i64 so, .int .i64 sk, .int .i64 sa, .int .i64 sb] 31, Cl b4 (hadCs T) 62] _) HT.out.1.len (HC.out num z1 z2) (by rw [judge_free HT.out.1.len HI.out HS.out hhad, if_pos (by rw [← HT.out.2]; omega)])
              have HP := Lib.hid hpt
              obtain ⟨b7, hb7⟩ : ∃ z, z = w4.heap.size := ⟨_, rfl⟩
              obtain ⟨w5, hw5⟩ : ∃ z, z = w4.alloc (.cells #[.int .i64 i, .int .i64 num, .int .i64 so, .int .i64 sk, .int .i64 sa, .int .i64 sb] 31) := ⟨_, rfl⟩
              clear h4 h5 f1 hpt
              (try dsimp only); repeat' (first | go_values | go_skip | go_guarded | go_step | go_upon | go_back)
              rw [← hw5, ← hb7]
              rw [← hw5, ← hb7] at HP
              clear hw5 hb7 g1 g2
              refine HP.out.mono ?_
              rintro r1 w6 ⟨rfl, h6⟩
              clear HP
              have h7 := h6.alloc (.cells #[.bool false, .int .i64 0, .int .i64 0, .int .i64 0, .int .i64 0, .int .i64 0, .int .i64 0] 33)
              obtain ⟨y0, y1, -, -, -, -⟩ := cells6z (h7.pick [2] rfl : Sep w [Cl b7 _ _] _)
              have y4 := (h7.pick [3] rfl : Sep w [Cl b4 (hadCs T) 62] _).cell (hadCs_get T i s HS.out)
              have hsn : s.n = 0 := by
                obtain ⟨hi9, hs9⟩ := List.getElem?_eq_some_iff.1 HS.out
                rw [← hs9]; exact HT.out.1.free i hi9 (by rw [hs9]; exact hhad)
              rw [hsn] at y4
              have hj := judge_any i num (h7.pick [1, 0, 2, 3] rfl : Sep w [TabT g T, Cl _ _ _, Cl b7 _ _, Cl b4 (hadCs T) 62] _) HT.out.1.len
              rw [judge_free HT.out.1.len HI.out HS.out hhad, if_pos (by rw [← HT.out.2]; omega)] at hj
              have HJ := Lib.hid hj
              have hm6 : m = 6 := by omega
              subst hm6
              clear h6 h7 hj hsn hhad hm5
              (try dsimp only); repeat' (first | go_values | go_skip | go_guarded | go_step | go_upon | go_back)
              refine HJ.out.mono ?_
              rintro r2 w7 ⟨rfl, h8⟩
              have H8 := Lib.hid (h8.pick [3, 0] rfl : Sep w [Cl b4 (hadCs T) 62, TabT g T] w7)
              clear HJ h8 y0 y1 y4
              (try dsimp only); repeat' (first | go_values | go_skip | go_guarded | go_step | go_upon | go_back)
              go_roundw
              case rel => exact ⟨k + 1, T, by have := HG.out.1; omega, by have := HG.out.2; omega, by rw [← HT.out.2], by go_num, HT.out.1, H8.out⟩
              case measure => have := HG.out.2; simp [intOf]; omega
          · as_aux_lemma =>
              have h5 := h4.alloc (.cells #[.int .i64 i, .int .i64 num, .int .i64 so, .int .i64 sk, .int .i64 sa, .int .i64 sb] 31)
              have f1 := (h4.alloc (.cells #[.int .i64 i, .int .i64 n0, .int .i64 so, .int .i64 sk, .int .i64 sa, .int .i64 sb] 31)).low
              have g1 := HQ.out 1 _ rfl _ f1
              have g2 := HQ.out 1 _ rfl _ h5.low
              have hpt := put_new i num so sk sa sb (h5.pick [2, 0, 1] rfl : Sep w [TabT g T, Cl _ #[.int .i64 i, .int .i64 num, .int .i64 so, .int .i64 sk, .int .i64 sa, .int .i64 sb] 31, Cl b4 (hadCs T) 62] _) HT.out.1.len s HS.out (HC.out num z1 z2) (by rw [judge_free HT.out.1.len HI.out HS.out hhad, if_neg (by rw [← HT.out.2]; exact hm5)])
              rw [hhad] at hpt
              have HP := Lib.hid hpt
              obtain ⟨b7, hb7⟩ : ∃ z, z = w4.heap.size := ⟨_, rfl⟩
              obtain ⟨w5, hw5⟩ : ∃ z, z = w4.alloc (.cells #[.int .i64 i, .int .i64 num, .int .i64 so, .int .i64 sk, .int .i64 sa, .int .i64 sb] 31) := ⟨_, rfl⟩
              clear h4 h5 f1 hpt
              (try dsimp only); repeat' (first | go_values | go_skip | go_guarded | go_step | go_upon | go_back)
              rw [← hw5, ← hb7]
              rw [← hw5, ← hb7] at HP
              clear hw5 hb7 g1 g2
              refine HP.out.mono ?_
              rintro r1 w6 ⟨rfl, h6⟩
              clear HP
              have h7 := h6.alloc (.cells #[.bool false, .int .i64 s.c, .int .i64 s.n, .int .i64 s.o, .int .i64 s.k, .int .i64 s.a, .int .i64 s.b] 33)
              obtain ⟨Tn, hTn⟩ : ∃ z, z = T.set i ⟨true, (i : Int), num, so, sk, sa, sb⟩ := ⟨_, rfl⟩
              rw [← hTn] at h7
              obtain ⟨x0, -, x2, -, -, -, -⟩ := cells7z h7
              obtain ⟨y0, y1, -, -, -, -⟩ := cells6z (h7.pick [2] rfl : Sep w [Cl b7 _ _] _)
              have y4 := (h7.pick [3] rfl : Sep w [Cl b4 (hadCs T) 62] _).cell (hadCs_get T i s HS.out)
              have fz := (h7.pick [3] rfl : Sep w [Cl b4 (hadCs T) 62] _).frozen i
              have hiT : i < T.length := by rw [HT.out.1.len]; exact HI.out
              have hsT : T[i] = s := by obtain ⟨hi9, hs9⟩ := List.getElem?_eq_some_iff.1 HS.out; exact hs9
              have hsn := HT.out.1.free i hiT (by rw [hsT]; exact hhad)
              rw [hsT] at hsn
              have p1 : (s.n == 0) = true := beq_iff_eq.2 hsn
              have p4 : ((m : Int) == 6) = false := beq_eq_false_iff_ne.2 (by omega)
              have p3 : decide (0 < s.n) = false := decide_eq_false (by omega)
              have p2 : decide (num ≤ s.n) = false := decide_eq_false (by omega)
              have hcnt : (seatsOf Tn).length = m + 1 := by rw [hTn, seats_set_new T i hiT _ (by rw [hsT]; exact hhad) rfl, HT.out.2]
              have hOn : OnceT Tn := by rw [hTn]; exact HT.out.1.put i hiT _ rfl z1 z2 (.inr (by rw [← HT.out.2]; omega))
              have HCNT := Lib.hid hcnt
              clear hm5
              have HO := Lib.hid hOn
              have HSN : Hid (Tn[i]? = some (⟨true, (i : Int), num, so, sk, sa, sb⟩ : SW)) := Lib.hid (by rw [hTn, List.getElem?_set_self hiT])
              have hbb := cl_ne (h7.pick [3, 2] rfl : Sep w [Cl b4 (hadCs T) 62, Cl b7 _ _] _)
              have hbb2 : (b4 == b7) = false := beq_eq_false_iff_ne.2 hbb
              have hbb3 := hbb.symm
              have hbb4 : (b7 == b4) = false := beq_eq_false_iff_ne.2 hbb3
              have h8 := ((h7.pick [3, 0, 1, 2] rfl : Sep w [Cl b4 (hadCs T) 62, Cl _ _ _, TabT g Tn, Cl b7 _ _] _).setCell i (.int .i64 num))
              have hcs := hadCs_set T i (⟨true, (i : Int), num, so, sk, sa, sb⟩ : SW)
              dsimp only at hcs
              rw [hcs, ← hTn] at h8
              have h8 := (h8.drew.drew.pick [2, 1, 3, 0] rfl : Sep w [TabT g Tn, Cl _ _ _, Cl b7 _ _, Cl b4 (hadCs Tn) 62] _)
              clear h6 h7 hhad hsn hsT hiT hTn hcnt hOn hcs
              have hj := judge_any i (num) h8 HO.out.len
              rw [judge_had HO.out.len HI.out HSN.out rfl, if_neg (Int.lt_irrefl _), if_pos rfl] at hj
              have HJ := Lib.hid hj
              clear h8 hj
              (try dsimp only); repeat' (first | go_values | go_skip | go_guarded | go_step | go_upon | go_back)
              refine wp_region_G (fun w' => w'.cell? ⟨b7, 0, none⟩ = some (.int .i64 i) ∧ w'.cell? ⟨b7, 1, none⟩ = some (.int .i64 num) ∧ w'.cell? ⟨b4, i, none⟩ = some (.int .i64 s.n)) [] (by kernel_rfl) ⟨y0, y1, y4⟩ (fun hS => ?_)
              try dsimp only at hS
              refine wpAnyG_take' (i := 0) (v := ?v0_1N0a) rfl (by kernel_rfl) (by kernel_rfl) (by kernel_rfl) (by kernel_rfl) (fun _ _ _ h => h) (Or.inl ⟨by rfl, ?hy0_1N0a⟩) hS ?rest0_1N0a
              case hy0_1N0a => intro w hSw; (try dsimp only at hSw); go_simp; (try with_reducible rfl)
              case rest0_1N0a =>
              try simp only [List.getElem_toArray, List.getElem_cons_succ, List.getElem_cons_zero, Act.put, List.setIfInBounds_toArray, List.set_cons_zero, List.set_cons_succ]
              refine wpAnyG_take' (i := 1) (v := ?v1_2N0a) rfl (by kernel_rfl) (by kernel_rfl) (by kernel_rfl) (by kernel_rfl) (fun _ _ _ h => h) (Or.inl ⟨by rfl, ?hy1_2N0a⟩) hS ?rest1_2N0a
              case hy1_2N0a => intro w hSw; (try dsimp only at hSw); go_simp; (try with_reducible rfl)
              case rest1_2N0a =>
              try simp only [List.getElem_toArray, List.getElem_cons_succ, List.getElem_cons_zero, Act.put, List.setIfInBounds_toArray, List.set_cons_zero, List.set_cons_succ]
              refine wpAnyG_take' (i := 2) (v := ?v2_3N0a) rfl (by kernel_rfl) (by kernel_rfl) (by kernel_rfl) (by kernel_rfl) (fun _ _ _ h => h) (Or.inl ⟨by rfl, ?hy2_3N0a⟩) hS ?rest2_3N0a
              case hy2_3N0a => intro w hSw; (try dsimp only at hSw); go_simp; (try with_reducible rfl)
              case rest2_3N0a =>
              try simp only [List.getElem_toArray, List.getElem_cons_succ, List.getElem_cons_zero, Act.put, List.setIfInBounds_toArray, List.set_cons_zero, List.set_cons_succ]
              refine wpAnyG_take' (i := 3) (v := ?v3_4N0a) rfl (by kernel_rfl) (by kernel_rfl) (by kernel_rfl) (by kernel_rfl) (fun _ _ _ h => h) (Or.inl ⟨by rfl, ?hy3_4N0a⟩) hS ?rest3_4N0a
              case hy3_4N0a => intro w hSw; (try dsimp only at hSw); go_simp; (try with_reducible rfl)
              case rest3_4N0a =>
              try simp only [List.getElem_toArray, List.getElem_cons_succ, List.getElem_cons_zero, Act.put, List.setIfInBounds_toArray, List.set_cons_zero, List.set_cons_succ]
              refine wpAnyG_take' (i := 4) (v := ?v4_5N0a) rfl (by kernel_rfl) (by kernel_rfl) (by kernel_rfl) (by kernel_rfl) (fun _ _ _ h => h) (Or.inl ⟨by rfl, ?hy4_5N0a⟩) hS ?rest4_5N0a
              case hy4_5N0a => intro w hSw; (try dsimp only at hSw); go_simp; (try with_reducible rfl)
              case rest4_5N0a =>
              try simp only [List.getElem_toArray, List.getElem_cons_succ, List.getElem_cons_zero, Act.put, List.setIfInBounds_toArray, List.set_cons_zero, List.set_cons_succ]
              refine wpAnyG_take' (i := 5) (v := ?v5_6N0a) rfl (by kernel_rfl) (by kernel_rfl) (by kernel_rfl) (by kernel_rfl) (fun _ _ _ h => h) (Or.inl ⟨by rfl, ?hy5_6N0a⟩) hS ?rest5_6N0a
              case hy5_6N0a => intro w hSw; (try dsimp only at hSw); go_simp; (try with_reducible rfl)
              case rest5_6N0a =>
              try simp only [List.getElem_toArray, List.getElem_cons_succ, List.getElem_cons_zero, Act.put, List.setIfInBounds_toArray, List.set_cons_zero, List.set_cons_succ]
              refine wpAnyG_take' (i := 6) (v := ?v6_7N0a) rfl (by kernel_rfl) (by kernel_rfl) (by kernel_rfl) (by kernel_rfl) (fun _ _ _ h => h) (Or.inl ⟨by rfl, ?hy6_7N0a⟩) hS ?rest6_7N0a
              case hy6_7N0a => intro w hSw; (try dsimp only at hSw); go_simp; (try with_reducible rfl)
              case rest6_7N0a =>
              try simp only [List.getElem_toArray, List.getElem_cons_succ, List.getElem_cons_zero, Act.put, List.setIfInBounds_toArray, List.set_cons_zero, List.set_cons_succ]
              refine wpAnyG_take' (i := 7) (v := ?v7_8N0a) rfl (by kernel_rfl) (by kernel_rfl) (by kernel_rfl) (by kernel_rfl) (fun _ _ _ h => h) (Or.inl ⟨by rfl, ?hy7_8N0a⟩) hS ?rest7_8N0a
              case hy7_8N0a => intro w hSw; (try dsimp only at hSw); go_simp; (try with_reducible rfl)
              case rest7_8N0a =>
              try simp only [List.getElem_toArray, List.getElem_cons_succ, List.getElem_cons_zero, Act.put, List.setIfInBounds_toArray, List.set_cons_zero, List.set_cons_succ]
              refine wpAnyG_done (by kernel_rfl) ?_ _
              try simp only [List.getElem_toArray, List.getElem_cons_succ, List.getElem_cons_zero, Act.put, List.setIfInBounds_toArray, List.set_cons_zero, List.set_cons_succ]
              clear hS
              (try dsimp only); repeat' (first | go_values | go_skip | go_guarded | go_step | go_upon | go_back)
              refine wp_region_G (fun w' => w'.cell? ⟨b7, 0, none⟩ = some (.int .i64 i) ∧ w'.cell? ⟨b4, i, none⟩ = some (.int .i64 s.n) ∧ w'.cell? ⟨w6.heap.size, 0, none⟩ = some (.bool false) ∧ w'.cell? ⟨w6.heap.size, 2, none⟩ = some (.int .i64 s.n)) [] (by kernel_rfl) ⟨y0, y4, x0, x2⟩ (fun hS => ?_)
              try dsimp only at hS
              refine wpAnyG_take' (i := 0) (v := ?v0_1N0b) rfl (by kernel_rfl) (by kernel_rfl) (by kernel_rfl) (by kernel_rfl) (fun _ _ _ h => h) (Or.inl ⟨by rfl, ?hy0_1N0b⟩) hS ?rest0_1N0b
              case hy0_1N0b => intro w hSw; (try dsimp only at hSw); go_simp; (try with_reducible rfl)
              case rest0_1N0b =>
              try simp only [List.getElem_toArray, List.getElem_cons_succ, List.getElem_cons_zero, Act.put, List.setIfInBounds_toArray, List.set_cons_zero, List.set_cons_succ]
              refine wpAnyG_take' (i := 1) (v := ?v1_2N0b) rfl (by kernel_rfl) (by kernel_rfl) (by kernel_rfl) (by kernel_rfl) (fun _ _ _ h => h) (Or.inl ⟨by rfl, ?hy1_2N0b⟩) hS ?rest1_2N0b
              case hy1_2N0b => intro w hSw; (try dsimp only at hSw); go_simp; (try with_reducible rfl)
              case rest1_2N0b =>
              try simp only [List.getElem_toArray, List.getElem_cons_succ, List.getElem_cons_zero, Act.put, List.setIfInBounds_toArray, List.set_cons_zero, List.set_cons_succ]
              refine wpAnyG_take' (i := 2) (v := ?v2_3N0b) rfl (by kernel_rfl) (by kernel_rfl) (by kernel_rfl) (by kernel_rfl) (fun _ _ _ h => h) (Or.inl ⟨by rfl, ?hy2_3N0b⟩) hS ?rest2_3N0b
              case hy2_3N0b => intro w hSw; (try dsimp only at hSw); go_simp; (try with_reducible rfl)
              case rest2_3N0b =>
              try simp only [List.getElem_toArray, List.getElem_cons_succ, List.getElem_cons_zero, Act.put, List.setIfInBounds_toArray, List.set_cons_zero, List.set_cons_succ]
              refine wpAnyG_take' (i := 3) (v := ?v3_4N0b) rfl (by kernel_rfl) (by kernel_rfl) (by kernel_rfl) (by kernel_rfl) (fun _ _ _ h => h) (Or.inl ⟨by rfl, ?hy3_4N0b⟩) hS ?rest3_4N0b
              case hy3_4N0b => intro w hSw; (try dsimp only at hSw); go_simp; (try with_reducible rfl)
              case rest3_4N0b =>
              try simp only [List.getElem_toArray, List.getElem_cons_succ, List.getElem_cons_zero, Act.put, List.setIfInBounds_toArray, List.set_cons_zero, List.set_cons_succ]
              refine wpAnyG_take' (i := 4) (v := ?v4_5N0b) rfl (by kernel_rfl) (by kernel_rfl) (by kernel_rfl) (by kernel_rfl) (fun _ _ _ h => h) (Or.inl ⟨by rfl, ?hy4_5N0b⟩) hS ?rest4_5N0b
              case hy4_5N0b => intro w hSw; (try dsimp only at hSw); go_simp; (try with_reducible rfl)
              case rest4_5N0b =>
              try simp only [List.getElem_toArray, List.getElem_cons_succ, List.getElem_cons_zero, Act.put, List.setIfInBounds_toArray, List.set_cons_zero, List.set_cons_succ]
              refine wpAnyG_take' (i := 5) (v := ?v5_6N0b) rfl (by kernel_rfl) (by kernel_rfl) (by kernel_rfl) (by kernel_rfl) (fun _ _ _ h => h) (Or.inl ⟨by rfl, ?hy5_6N0b⟩) hS ?rest5_6N0b
              case hy5_6N0b => intro w hSw; (try dsimp only at hSw); go_simp; (try with_reducible rfl)
              case rest5_6N0b =>
              try simp only [List.getElem_toArray, List.getElem_cons_succ, List.getElem_cons_zero, Act.put, List.setIfInBounds_toArray, List.set_cons_zero, List.set_cons_succ]
              refine wpAnyG_take' (i := 6) (v := ?v6_7N0b) rfl (by kernel_rfl) (by kernel_rfl) (by kernel_rfl) (by kernel_rfl) (fun _ _ _ h => h) (Or.inl ⟨by rfl, ?hy6_7N0b⟩) hS ?rest6_7N0b
              case hy6_7N0b => intro w hSw; (try dsimp only at hSw); go_simp; (try with_reducible rfl)
              case rest6_7N0b =>
              try simp only [List.getElem_toArray, List.getElem_cons_succ, List.getElem_cons_zero, Act.put, List.setIfInBounds_toArray, List.set_cons_zero, List.set_cons_succ]
              refine wpAnyG_take' (i := 7) (v := ?v7_8N0b) rfl (by kernel_rfl) (by kernel_rfl) (by kernel_rfl) (by kernel_rfl) (fun _ _ _ h => h) (Or.inl ⟨by rfl, ?hy7_8N0b⟩) hS ?rest7_8N0b
              case hy7_8N0b => intro w hSw; (try dsimp only at hSw); go_simp; (try with_reducible rfl)
              case rest7_8N0b =>
              try simp only [List.getElem_toArray, List.getElem_cons_succ, List.getElem_cons_zero, Act.put, List.setIfInBounds_toArray, List.set_cons_zero, List.set_cons_succ]
              refine wpAnyG_take' (i := 8) (v := ?v8_9N0b) rfl (by kernel_rfl) (by kernel_rfl) (by kernel_rfl) (by kernel_rfl) (fun _ _ _ h => h) (Or.inl ⟨by rfl, ?hy8_9N0b⟩) hS ?rest8_9N0b
              case hy8_9N0b => intro w hSw; (try dsimp only at hSw); go_simp; (try with_reducible rfl)
              case rest8_9N0b =>
              try simp only [List.getElem_toArray, List.getElem_cons_succ, List.getElem_cons_zero, Act.put, List.setIfInBounds_toArray, List.set_cons_zero, List.set_cons_succ]
              refine wpAnyG_take' (i := 9) (v := ?v9_10N0b) rfl (by kernel_rfl) (by kernel_rfl) (by kernel_rfl) (by kernel_rfl) (fun _ _ _ h => h) (Or.inl ⟨by rfl, ?hy9_10N0b⟩) hS ?rest9_10N0b
              case hy9_10N0b => intro w hSw; (try dsimp only at hSw); go_simp; (try with_reducible rfl)
              case rest9_10N0b =>
              try simp only [List.getElem_toArray, List.getElem_cons_succ, List.getElem_cons_zero, Act.put, List.setIfInBounds_toArray, List.set_cons_zero, List.set_cons_succ]
              refine wpAnyG_take' (i := 10) (v := ?v10_11N0b) rfl (by kernel_rfl) (by kernel_rfl) (by kernel_rfl) (by kernel_rfl) (fun _ _ _ h => h) (Or.inl ⟨by rfl, ?hy10_11N0b⟩) hS ?rest10_11N0b
              case hy10_11N0b => intro w hSw; (try dsimp only at hSw); go_simp; (try with_reducible rfl)
              case rest10_11N0b =>
              try simp only [List.getElem_toArray, List.getElem_cons_succ, List.getElem_cons_zero, Act.put, List.setIfInBounds_toArray, List.set_cons_zero, List.set_cons_succ]
              refine wpAnyG_take' (i := 11) (v := ?v11_12N0b) rfl (by kernel_rfl) (by kernel_rfl) (by kernel_rfl) (by kernel_rfl) (fun _ _ _ h => h) (Or.inl ⟨by rfl, ?hy11_12N0b⟩) hS ?rest11_12N0b
              case hy11_12N0b => intro w hSw; (try dsimp only at hSw); go_simp; (try with_reducible rfl)
              case rest11_12N0b =>
              try simp only [List.getElem_toArray, List.getElem_cons_succ, List.getElem_cons_zero, Act.put, List.setIfInBounds_toArray, List.set_cons_zero, List.set_cons_succ]
              refine wpAnyG_take' (i := 12) (v := ?v12_13N0b) rfl (by kernel_rfl) (by kernel_rfl) (by kernel_rfl) (by kernel_rfl) (fun _ _ _ h => h) (Or.inl ⟨by rfl, ?hy12_13N0b⟩) hS ?rest12_13N0b
              case hy12_13N0b => intro w hSw; (try dsimp only at hSw); go_simp; (try with_reducible rfl)
              case rest12_13N0b =>
              try simp only [List.getElem_toArray, List.getElem_cons_succ, List.getElem_cons_zero, Act.put, List.setIfInBounds_toArray, List.set_cons_zero, List.set_cons_succ]
              refine wpAnyG_take' (i := 13) (v := ?v13_14N0b) rfl (by kernel_rfl) (by kernel_rfl) (by kernel_rfl) (by kernel_rfl) (fun _ _ _ h => h) (Or.inl ⟨by rfl, ?hy13_14N0b⟩) hS ?rest13_14N0b
              case hy13_14N0b => intro w hSw; (try dsimp only at hSw); go_simp; (try with_reducible rfl)
              case rest13_14N0b =>
              try simp only [List.getElem_toArray, List.getElem_cons_succ, List.getElem_cons_zero, Act.put, List.setIfInBounds_toArray, List.set_cons_zero, List.set_cons_succ]
              refine wpAnyG_take' (i := 14) (v := ?v14_15N0b) rfl (by kernel_rfl) (by kernel_rfl) (by kernel_rfl) (by kernel_rfl) (fun _ _ _ h => h) (Or.inl ⟨by rfl, ?hy14_15N0b⟩) hS ?rest14_15N0b
              case hy14_15N0b => intro w hSw; (try dsimp only at hSw); go_simp; (try with_reducible rfl)
              case rest14_15N0b =>
              try simp only [List.getElem_toArray, List.getElem_cons_succ, List.getElem_cons_zero, Act.put, List.setIfInBounds_toArray, List.set_cons_zero, List.set_cons_succ]
              refine wpAnyG_take' (i := 15) (v := ?v15_16N0b) rfl (by kernel_rfl) (by kernel_rfl) (by kernel_rfl) (by kernel_rfl) (fun _ _ _ h => h) (Or.inl ⟨by rfl, ?hy15_16N0b⟩) hS ?rest15_16N0b
              case hy15_16N0b => intro w hSw; (try dsimp only at hSw); go_simp; (try with_reducible rfl)
              case rest15_16N0b =>
              try simp only [List.getElem_toArray, List.getElem_cons_succ, List.getElem_cons_zero, Act.put, List.setIfInBounds_toArray, List.set_cons_zero, List.set_cons_succ]
              refine wpAnyG_take' (i := 16) (v := ?v16_17N0b) rfl (by kernel_rfl) (by kernel_rfl) (by kernel_rfl) (by kernel_rfl) (fun _ _ _ h => h) (Or.inl ⟨by rfl, ?hy16_17N0b⟩) hS ?rest16_17N0b
              case hy16_17N0b => intro w hSw; (try dsimp only at hSw); go_simp; (try with_reducible rfl)
              case rest16_17N0b =>
              try simp only [List.getElem_toArray, List.getElem_cons_succ, List.getElem_cons_zero, Act.put, List.setIfInBounds_toArray, List.set_cons_zero, List.set_cons_succ]
              refine wpAnyG_take' (i := 17) (v := ?v17_18N0b) rfl (by kernel_rfl) (by kernel_rfl) (by kernel_rfl) (by kernel_rfl) (fun _ _ _ h => h) (Or.inl ⟨by rfl, ?hy17_18N0b⟩) hS ?rest17_18N0b
              case hy17_18N0b => intro w hSw; (try dsimp only at hSw); go_simp; (try with_reducible rfl)
              case rest17_18N0b =>
              try simp only [List.getElem_toArray, List.getElem_cons_succ, List.getElem_cons_zero, Act.put, List.setIfInBounds_toArray, List.set_cons_zero, List.set_cons_succ]
              refine wpAnyG_take' (i := 18) (v := ?v18_19N0b) rfl (by kernel_rfl) (by kernel_rfl) (by kernel_rfl) (by kernel_rfl) (fun _ _ _ h => h) (Or.inl ⟨by rfl, ?hy18_19N0b⟩) hS ?rest18_19N0b
              case hy18_19N0b => intro w hSw; (try dsimp only at hSw); go_simp; (try with_reducible rfl)
              case rest18_19N0b =>
              try simp only [List.getElem_toArray, List.getElem_cons_succ, List.getElem_cons_zero, Act.put, List.setIfInBounds_toArray, List.set_cons_zero, List.set_cons_succ]
              refine wpAnyG_take' (i := 19) (v := ?v19_20N0b) rfl (by kernel_rfl) (by kernel_rfl) (by kernel_rfl) (by kernel_rfl) (fun _ _ _ h => h) (Or.inl ⟨by rfl, ?hy19_20N0b⟩) hS ?rest19_20N0b
              case hy19_20N0b => intro w hSw; (try dsimp only at hSw); go_simp; (try with_reducible rfl)
              case rest19_20N0b =>
              try simp only [List.getElem_toArray, List.getElem_cons_succ, List.getElem_cons_zero, Act.put, List.setIfInBounds_toArray, List.set_cons_zero, List.set_cons_succ]
              refine wpAnyG_take' (i := 20) (v := ?v20_21N0b) rfl (by kernel_rfl) (by kernel_rfl) (by kernel_rfl) (by kernel_rfl) (fun _ _ _ h => h) (Or.inl ⟨by rfl, ?hy20_21N0b⟩) hS ?rest20_21N0b
              case hy20_21N0b => intro w hSw; (try dsimp only at hSw); go_simp; (try with_reducible rfl)
              case rest20_21N0b =>
              try simp only [List.getElem_toArray, List.getElem_cons_succ, List.getElem_cons_zero, Act.put, List.setIfInBounds_toArray, List.set_cons_zero, List.set_cons_succ]
              refine wpAnyG_take' (i := 21) (v := ?v21_22N0b) rfl (by kernel_rfl) (by kernel_rfl) (by kernel_rfl) (by kernel_rfl) (fun _ _ _ h => h) (Or.inl ⟨by rfl, ?hy21_22N0b⟩) hS ?rest21_22N0b
              case hy21_22N0b => intro w hSw; (try dsimp only at hSw); go_simp; (try with_reducible rfl)
              case rest21_22N0b =>
              try simp only [List.getElem_toArray, List.getElem_cons_succ, List.getElem_cons_zero, Act.put, List.setIfInBounds_toArray, List.set_cons_zero, List.set_cons_succ]
              refine wpAnyG_done (by kernel_rfl) ?_ _
              try simp only [List.getElem_toArray, List.getElem_cons_succ, List.getElem_cons_zero, Act.put, List.setIfInBounds_toArray, List.set_cons_zero, List.set_cons_succ]
              clear hS
              (try dsimp only); repeat' (first | go_values | go_skip | go_guarded | go_step | go_upon | go_back)
              refine HJ.out.mono ?_
              rintro r2 w7 ⟨rfl, h8⟩
              clear HJ y0 y1 y4 x0 x2 fz
              obtain ⟨y0, y1, -, -, -, -⟩ := cells6z (h8.pick [2] rfl : Sep w [Cl b7 _ _] _)
              by_cases hn1 : 1 < num
              · have d3 : decide (1 < num) = true := decide_eq_true hn1
                have hn1' := hn1
                clear hn1
                have hj := judge_any i (num - 1) h8 HO.out.len
                rw [judge_had HO.out.len HI.out HSN.out rfl, if_neg (by (try dsimp only); omega), if_neg (by (try dsimp only); omega)] at hj
                have HJ := Lib.hid hj
                clear h8 hj
                (try dsimp only); repeat' (first | go_values | go_skip | go_guarded | go_step | go_upon | go_back)
                refine HJ.out.mono ?_
                rintro r3 w8 ⟨rfl, h8⟩
                clear HJ y0 y1
                obtain ⟨y0, y1, -, -, -, -⟩ := cells6z (h8.pick [2] rfl : Sep w [Cl b7 _ _] _)
                have hj := judge_any i (num + 1) h8 HO.out.len
                rw [judge_had HO.out.len HI.out HSN.out rfl, if_pos (by (try dsimp only); omega)] at hj
                have HJ := Lib.hid hj
                clear h8 hj
                (try dsimp only); repeat' (first | go_values | go_skip | go_guarded | go_step | go_upon | go_back)
                refine HJ.out.mono ?_
                rintro r4 w9 ⟨rfl, h8⟩
                clear HJ y0 y1
                have hl := len_any h8 HO.out.len
                rw [HCNT.out] at hl
                have HL := Lib.hid hl
                clear h8 hl
                (try dsimp only); repeat' (first | go_values | go_skip | go_guarded | go_step | go_upon | go_back)
                refine HL.out.mono ?_
                rintro r5 w10 ⟨rfl, h8⟩
                have H8 := Lib.hid (h8.pick [3, 0] rfl : Sep w [Cl b4 (hadCs Tn) 62, TabT g Tn] w10)
                clear HL h8
                (try dsimp only); repeat' (first | go_values | go_skip | go_guarded | go_step | go_upon | go_back)
                go_roundw
                case rel => exact ⟨k + 1, Tn, by have := HG.out.1; omega, by have := HG.out.2; omega, by rw [HCNT.out]; go_num, by go_num, HO.out, H8.out⟩
                case measure => have := HG.out.2; simp [intOf]; omega
              · have d3 : decide (1 < num) = false := decide_eq_false hn1
                clear hn1
                have hj := judge_any i (num + 1) h8 HO.out.len
                rw [judge_had HO.out.len HI.out HSN.out rfl, if_pos (by (try dsimp only); omega)] at hj
                have HJ := Lib.hid hj
                clear h8 hj
                (try dsimp only); repeat' (first | go_values | go_skip | go_guarded | go_step | go_upon | go_back)
                refine HJ.out.mono ?_
                rintro r4 w9 ⟨rfl, h8⟩
                clear HJ y0 y1
                have hl := len_any h8 HO.out.len
                rw [HCNT.out] at hl
                have HL := Lib.hid hl
                clear h8 hl
                (try dsimp only); repeat' (first | go_values | go_skip | go_guarded | go_step | go_upon | go_back)
                refine HL.out.mono ?_
                rintro r5 w10 ⟨rfl, h8⟩
                have H8 := Lib.hid (h8.pick [3, 0] rfl : Sep w [Cl b4 (hadCs Tn) 62, TabT g Tn] w10)
                clear HL h8
                (try dsimp only); repeat' (first | go_values | go_skip | go_guarded | go_step | go_upon | go_back)
                go_roundw
                case rel => exact ⟨k + 1, Tn, by have := HG.out.1; omega, by have := HG.out.2; omega, by rw [HCNT.out]; go_num, by go_num, HO.out, H8.out⟩
                case measure => have := HG.out.2; simp [intOf]; omega
        | true =>
          by_cases hlt : s.n < num
          · as_aux_lemma =>
              have h5 := h4.alloc (.cells #[.int .i64 i, .int .i64 num, .int .i64 so, .int .i64 sk, .int .i64 sa, .int .i64 sb] 31)
              have f1 := (h4.alloc (.cells #[.int .i64 i, .int .i64 n0, .int .i64 so, .int .i64 sk, .int .i64 sa, .int .i64 sb] 31)).low
              have g1 := HQ.out 1 _ rfl _ f1
              have g2 := HQ.out 1 _ rfl _ h5.low
              have hpt := put_new i num so sk sa sb (h5.pick [2, 0, 1] rfl : Sep w [TabT g T, Cl _ #[.int .i64 i, .int .i64 num, .int .i64 so, .int .i64 sk, .int .i64 sa, .int .i64 sb] 31, Cl b4 (hadCs T) 62] _) HT.out.1.len s HS.out (HC.out num z1 z2) (by rw [judge_had HT.out.1.len HI.out HS.out hhad, if_pos hlt])
              rw [hhad] at hpt
              have HP := Lib.hid hpt
              obtain ⟨b7, hb7⟩ : ∃ z, z = w4.heap.size := ⟨_, rfl⟩
              obtain ⟨w5, hw5⟩ : ∃ z, z = w4.alloc (.cells #[.int .i64 i, .int .i64 num, .int .i64 so, .int .i64 sk, .int .i64 sa, .int .i64 sb] 31) := ⟨_, rfl⟩
              clear h4 h5 f1 hpt
              (try dsimp only); repeat' (first | go_values | go_skip | go_guarded | go_step | go_upon | go_back)
              rw [← hw5, ← hb7]
              rw [← hw5, ← hb7] at HP
              clear hw5 hb7 g1 g2
              refine HP.out.mono ?_
              rintro r1 w6 ⟨rfl, h6⟩
              clear HP
              have h7 := h6.alloc (.cells #[.bool true, .int .i64 s.c, .int .i64 s.n, .int .i64 s.o, .int .i64 s.k, .int .i64 s.a, .int .i64 s.b] 33)
              obtain ⟨Tn, hTn⟩ : ∃ z, z = T.set i ⟨true, (i : Int), num, so, sk, sa, sb⟩ := ⟨_, rfl⟩
              rw [← hTn] at h7
              obtain ⟨x0, -, x2, -, -, -, -⟩ := cells7z h7
              obtain ⟨y0, y1, -, -, -, -⟩ := cells6z (h7.pick [2] rfl : Sep w [Cl b7 _ _] _)
              have y4 := (h7.pick [3] rfl : Sep w [Cl b4 (hadCs T) 62] _).cell (hadCs_get T i s HS.out)
              have fz := (h7.pick [3] rfl : Sep w [Cl b4 (hadCs T) 62] _).frozen i
              have hiT : i < T.length := by rw [HT.out.1.len]; exact HI.out
              have hsT : T[i] = s := by obtain ⟨hi9, hs9⟩ := List.getElem?_eq_some_iff.1 HS.out; exact hs9
              have hsn := HT.out.1.had i hiT (by rw [hsT]; exact hhad)
              rw [hsT] at hsn
              have p1 : (s.n == 0) = false := beq_eq_false_iff_ne.2 (by omega)
              have p3 : decide (0 < s.n) = true := decide_eq_true (by omega)
              have p2 : decide (num ≤ s.n) = false := decide_eq_false (by omega)
              have hcnt : (seatsOf Tn).length = m := by rw [hTn, seats_set_had T i hiT _ (by rw [hsT]; exact hhad) rfl, HT.out.2]
              have hOn : OnceT Tn := by rw [hTn]; exact HT.out.1.put i hiT _ rfl z1 z2 (.inl (by rw [hsT]; exact hhad))
              have HCNT := Lib.hid hcnt
              clear hlt
              have HO := Lib.hid hOn
              have HSN : Hid (Tn[i]? = some (⟨true, (i : Int), num, so, sk, sa, sb⟩ : SW)) := Lib.hid (by rw [hTn, List.getElem?_set_self hiT])
              have hbb := cl_ne (h7.pick [3, 2] rfl : Sep w [Cl b4 (hadCs T) 62, Cl b7 _ _] _)
              have hbb2 : (b4 == b7) = false := beq_eq_false_iff_ne.2 hbb
              have hbb3 := hbb.symm
              have hbb4 : (b7 == b4) = false := beq_eq_false_iff_ne.2 hbb3
              have h8 := ((h7.pick [3, 0, 1, 2] rfl : Sep w [Cl b4 (hadCs T) 62, Cl _ _ _, TabT g Tn, Cl b7 _ _] _).setCell i (.int .i64 num))
              have hcs := hadCs_set T i (⟨true, (i : Int), num, so, sk, sa, sb⟩ : SW)
              dsimp only at hcs
              rw [hcs, ← hTn] at h8
              have h8 := (h8.drew.drew.pick [2, 1, 3, 0] rfl : Sep w [TabT g Tn, Cl _ _ _, Cl b7 _ _, Cl b4 (hadCs Tn) 62] _)
              clear h6 h7 hhad hsn hsT hiT hTn hcnt hOn hcs
              have hj := judge_any i (num) h8 HO.out.len
              rw [judge_had HO.out.len HI.out HSN.out rfl, if_neg (Int.lt_irrefl _), if_pos rfl] at hj
              have HJ := Lib.hid hj
              clear h8 hj
              (try dsimp only); repeat' (first | go_values | go_skip | go_guarded | go_step | go_upon | go_back)
              refine wp_region_G (fun w' => w'.cell? ⟨b7, 0, none⟩ = some (.int .i64 i) ∧ w'.cell? ⟨b7, 1, none⟩ = some (.int .i64 num) ∧ w'.cell? ⟨b4, i, none⟩ = some (.int .i64 s.n)) [] (by kernel_rfl) ⟨y0, y1, y4⟩ (fun hS => ?_)
              try dsimp only at hS
              refine wpAnyG_take' (i := 0) (v := ?v0_1N1a) rfl (by kernel_rfl) (by kernel_rfl) (by kernel_rfl) (by kernel_rfl) (fun _ _ _ h => h) (Or.inl ⟨by rfl, ?hy0_1N1a⟩) hS ?rest0_1N1a
              case hy0_1N1a => intro w hSw; (try dsimp only at hSw); go_simp; (try with_reducible rfl)
              case rest0_1N1a =>
              try simp only [List.getElem_toArray, List.getElem_cons_succ, List.getElem_cons_zero, Act.put, List.setIfInBounds_toArray, List.set_cons_zero, List.set_cons_succ]
              refine wpAnyG_take' (i := 1) (v := ?v1_2N1a) rfl (by kernel_rfl) (by kernel_rfl) (by kernel_rfl) (by kernel_rfl) (fun _ _ _ h => h) (Or.inl ⟨by rfl, ?hy1_2N1a⟩) hS ?rest1_2N1a
              case hy1_2N1a => intro w hSw; (try dsimp only at hSw); go_simp; (try with_reducible rfl)
              case rest1_2N1a =>
              try simp only [List.getElem_toArray, List.getElem_cons_succ, List.getElem_cons_zero, Act.put, List.setIfInBounds_toArray, List.set_cons_zero, List.set_cons_succ]
              refine wpAnyG_take' (i := 2) (v := ?v2_3N1a) rfl (by kernel_rfl) (by kernel_rfl) (by kernel_rfl) (by kernel_rfl) (fun _ _ _ h => h) (Or.inl ⟨by rfl, ?hy2_3N1a⟩) hS ?rest2_3N1a
              case hy2_3N1a => intro w hSw; (try dsimp only at hSw); go_simp; (try with_reducible rfl)
              case rest2_3N1a =>
              try simp only [List.getElem_toArray, List.getElem_cons_succ, List.getElem_cons_zero, Act.put, List.setIfInBounds_toArray, List.set_cons_zero, List.set_cons_succ]
              refine wpAnyG_take' (i := 3) (v := ?v3_4N1a) rfl (by kernel_rfl) (by kernel_rfl) (by kernel_rfl) (by kernel_rfl) (fun _ _ _ h => h) (Or.inl ⟨by rfl, ?hy3_4N1a⟩) hS ?rest3_4N1a
              case hy3_4N1a => intro w hSw; (try dsimp only at hSw); go_simp; (try with_reducible rfl)
              case rest3_4N1a =>
              try simp only [List.getElem_toArray, List.getElem_cons_succ, List.getElem_cons_zero, Act.put, List.setIfInBounds_toArray, List.set_cons_zero, List.set_cons_succ]
              refine wpAnyG_take' (i := 4) (v := ?v4_5N1a) rfl (by kernel_rfl) (by kernel_rfl) (by kernel_rfl) (by kernel_rfl) (fun _ _ _ h => h) (Or.inl ⟨by rfl, ?hy4_5N1a⟩) hS ?rest4_5N1a
              case hy4_5N1a => intro w hSw; (try dsimp only at hSw); go_simp; (try with_reducible rfl)
              case rest4_5N1a =>
              try simp only [List.getElem_toArray, List.getElem_cons_succ, List.getElem_cons_zero, Act.put, List.setIfInBounds_toArray, List.set_cons_zero, List.set_cons_succ]
              refine wpAnyG_take' (i := 5) (v := ?v5_6N1a) rfl (by kernel_rfl) (by kernel_rfl) (by kernel_rfl) (by kernel_rfl) (fun _ _ _ h => h) (Or.inl ⟨by rfl, ?hy5_6N1a⟩) hS ?rest5_6N1a
              case hy5_6N1a => intro w hSw; (try dsimp only at hSw); go_simp; (try with_reducible rfl)
              case rest5_6N1a =>
              try simp only [List.getElem_toArray, List.getElem_cons_succ, List.getElem_cons_zero, Act.put, List.setIfInBounds_toArray, List.set_cons_zero, List.set_cons_succ]
              refine wpAnyG_take' (i := 6) (v := ?v6_7N1a) rfl (by kernel_rfl) (by kernel_rfl) (by kernel_rfl) (by kernel_rfl) (fun _ _ _ h => h) (Or.inl ⟨by rfl, ?hy6_7N1a⟩) hS ?rest6_7N1a
              case hy6_7N1a => intro w hSw; (try dsimp only at hSw); go_simp; (try with_reducible rfl)
              case rest6_7N1a =>
              try simp only [List.getElem_toArray, List.getElem_cons_succ, List.getElem_cons_zero, Act.put, List.setIfInBounds_toArray, List.set_cons_zero, List.set_cons_succ]
              refine wpAnyG_take' (i := 7) (v := ?v7_8N1a) rfl (by kernel_rfl) (by kernel_rfl) (by kernel_rfl) (by kernel_rfl) (fun _ _ _ h => h) (Or.inl ⟨by rfl, ?hy7_8N1a⟩) hS ?rest7_8N1a
              case hy7_8N1a => intro w hSw; (try dsimp only at hSw); go_simp; (try with_reducible rfl)
              case rest7_8N1a =>
              try simp only [List.getElem_toArray, List.getElem_cons_succ, List.getElem_cons_zero, Act.put, List.setIfInBounds_toArray, List.set_cons_zero, List.set_cons_succ]
              refine wpAnyG_done (by kernel_rfl) ?_ _
              try simp only [List.getElem_toArray, List.getElem_cons_succ, List.getElem_cons_zero, Act.put, List.setIfInBounds_toArray, List.set_cons_zero, List.set_cons_succ]
              clear hS
              (try dsimp only); repeat' (first | go_values | go_skip | go_guarded | go_step | go_upon | go_back)
              refine wp_region_G (fun w' => w'.cell? ⟨b7, 0, none⟩ = some (.int .i64 i) ∧ w'.cell? ⟨b4, i, none⟩ = some (.int .i64 s.n) ∧ w'.cell? ⟨w6.heap.size, 0, none⟩ = some (.bool true) ∧ w'.cell? ⟨w6.heap.size, 2, none⟩ = some (.int .i64 s.n)) [] (by kernel_rfl) ⟨y0, y4, x0, x2⟩ (fun hS => ?_)
              try dsimp only at hS
              refine wpAnyG_take' (i := 0) (v := ?v0_1N1b) rfl (by kernel_rfl) (by kernel_rfl) (by kernel_rfl) (by kernel_rfl) (fun _ _ _ h => h) (Or.inl ⟨by rfl, ?hy0_1N1b⟩) hS ?rest0_1N1b
              case hy0_1N1b => intro w hSw; (try dsimp only at hSw); go_simp; (try with_reducible rfl)
              case rest0_1N1b =>
              try simp only [List.getElem_toArray, List.getElem_cons_succ, List.getElem_cons_zero, Act.put, List.setIfInBounds_toArray, List.set_cons_zero, List.set_cons_succ]
              refine wpAnyG_take' (i := 1) (v := ?v1_2N1b) rfl (by kernel_rfl) (by kernel_rfl) (by kernel_rfl) (by kernel_rfl) (fun _ _ _ h => h) (Or.inl ⟨by rfl, ?hy1_2N1b⟩) hS ?rest1_2N1b
              case hy1_2N1b => intro w hSw; (try dsimp only at hSw); go_simp; (try with_reducible rfl)
              case rest1_2N1b =>
              try simp only [List.getElem_toArray, List.getElem_cons_succ, List.getElem_cons_zero, Act.put, List.setIfInBounds_toArray, List.set_cons_zero, List.set_cons_succ]
              refine wpAnyG_take' (i := 2) (v := ?v2_3N1b) rfl (by kernel_rfl) (by kernel_rfl) (by kernel_rfl) (by kernel_rfl) (fun _ _ _ h => h) (Or.inl ⟨by rfl, ?hy2_3N1b⟩) hS ?rest2_3N1b
              case hy2_3N1b => intro w hSw; (try dsimp only at hSw); go_simp; (try with_reducible rfl)
              case rest2_3N1b =>
              try simp only [List.getElem_toArray, List.getElem_cons_succ, List.getElem_cons_zero, Act.put, List.setIfInBounds_toArray, List.set_cons_zero, List.set_cons_succ]
              refine wpAnyG_take' (i := 3) (v := ?v3_4N1b) rfl (by kernel_rfl) (by kernel_rfl) (by kernel_rfl) (by kernel_rfl) (fun _ _ _ h => h) (Or.inl ⟨by rfl, ?hy3_4N1b⟩) hS ?rest3_4N1b
              case hy3_4N1b => intro w hSw; (try dsimp only at hSw); go_simp; (try with_reducible rfl)
              case rest3_4N1b =>
              try simp only [List.getElem_toArray, List.getElem_cons_succ, List.getElem_cons_zero, Act.put, List.setIfInBounds_toArray, List.set_cons_zero, List.set_cons_succ]
              refine wpAnyG_take' (i := 4) (v := ?v4_5N1b) rfl (by kernel_rfl) (by kernel_rfl) (by kernel_rfl) (by kernel_rfl) (fun _ _ _ h => h) (Or.inl ⟨by rfl, ?hy4_5N1b⟩) hS ?rest4_5N1b
              case hy4_5N1b => intro w hSw; (try dsimp only at hSw); go_simp; (try with_reducible rfl)
              case rest4_5N1b =>
              try simp only [List.getElem_toArray, List.getElem_cons_succ, List.getElem_cons_zero, Act.put, List.setIfInBounds_toArray, List.set_cons_zero, List.set_cons_succ]
              refine wpAnyG_take' (i := 5) (v := ?v5_6N1b) rfl (by kernel_rfl) (by kernel_rfl) (by kernel_rfl) (by kernel_rfl) (fun _ _ _ h => h) (Or.inl ⟨by rfl, ?hy5_6N1b⟩) hS ?rest5_6N1b
              case hy5_6N1b => intro w hSw; (try dsimp only at hSw); go_simp; (try with_reducible rfl)
              case rest5_6N1b =>
              try simp only [List.getElem_toArray, List.getElem_cons_succ, List.getElem_cons_zero, Act.put, List.setIfInBounds_toArray, List.set_cons_zero, List.set_cons_succ]
              refine wpAnyG_take' (i := 6) (v := ?v6_7N1b) rfl (by kernel_rfl) (by kernel_rfl) (by kernel_rfl) (by kernel_rfl) (fun _ _ _ h => h) (Or.inl ⟨by rfl, ?hy6_7N1b⟩) hS ?rest6_7N1b
              case hy6_7N1b => intro w hSw; (try dsimp only at hSw); go_simp; (try with_reducible rfl)
              case rest6_7N1b =>
              try simp only [List.getElem_toArray, List.getElem_cons_succ, List.getElem_cons_zero, Act.put, List.setIfInBounds_toArray, List.set_cons_zero, List.set_cons_succ]
              refine wpAnyG_take' (i := 7) (v := ?v7_8N1b) rfl (by kernel_rfl) (by kernel_rfl) (by kernel_rfl) (by kernel_rfl) (fun _ _ _ h => h) (Or.inl ⟨by rfl, ?hy7_8N1b⟩) hS ?rest7_8N1b
              case hy7_8N1b => intro w hSw; (try dsimp only at hSw); go_simp; (try with_reducible rfl)
              case rest7_8N1b =>
              try simp only [List.getElem_toArray, List.getElem_cons_succ, List.getElem_cons_zero, Act.put, List.setIfInBounds_toArray, List.set_cons_zero, List.set_cons_succ]
              refine wpAnyG_take' (i := 8) (v := ?v8_9N1b) rfl (by kernel_rfl) (by kernel_rfl) (by kernel_rfl) (by kernel_rfl) (fun _ _ _ h => h) (Or.inl ⟨by rfl, ?hy8_9N1b⟩) hS ?rest8_9N1b
              case hy8_9N1b => intro w hSw; (try dsimp only at hSw); go_simp; (try with_reducible rfl)
              case rest8_9N1b =>
              try simp only [List.getElem_toArray, List.getElem_cons_succ, List.getElem_cons_zero, Act.put, List.setIfInBounds_toArray, List.set_cons_zero, List.set_cons_succ]
              refine wpAnyG_take' (i := 9) (v := ?v9_10N1b) rfl (by kernel_rfl) (by kernel_rfl) (by kernel_rfl) (by kernel_rfl) (fun _ _ _ h => h) (Or.inl ⟨by rfl, ?hy9_10N1b⟩) hS ?rest9_10N1b
              case hy9_10N1b => intro w hSw; (try dsimp only at hSw); go_simp; (try with_reducible rfl)
              case rest9_10N1b =>
              try simp only [List.getElem_toArray, List.getElem_cons_succ, List.getElem_cons_zero, Act.put, List.setIfInBounds_toArray, List.set_cons_zero, List.set_cons_succ]
              refine wpAnyG_take' (i := 10) (v := ?v10_11N1b) rfl (by kernel_rfl) (by kernel_rfl) (by kernel_rfl) (by kernel_rfl) (fun _ _ _ h => h) (Or.inl ⟨by rfl, ?hy10_11N1b⟩) hS ?rest10_11N1b
              case hy10_11N1b => intro w hSw; (try dsimp only at hSw); go_simp; (try with_reducible rfl)
              case rest10_11N1b =>
              try simp only [List.getElem_toArray, List.getElem_cons_succ, List.getElem_cons_zero, Act.put, List.setIfInBounds_toArray, List.set_cons_zero, List.set_cons_succ]
              refine wpAnyG_take' (i := 11) (v := ?v11_12N1b) rfl (by kernel_rfl) (by kernel_rfl) (by kernel_rfl) (by kernel_rfl) (fun _ _ _ h => h) (Or.inl ⟨by rfl, ?hy11_12N1b⟩) hS ?rest11_12N1b
              case hy11_12N1b => intro w hSw; (try dsimp only at hSw); go_simp; (try with_reducible rfl)
              case rest11_12N1b =>
              try simp only [List.getElem_toArray, List.getElem_cons_succ, List.getElem_cons_zero, Act.put, List.setIfInBounds_toArray, List.set_cons_zero, List.set_cons_succ]
              refine wpAnyG_take' (i := 12) (v := ?v12_13N1b) rfl (by kernel_rfl) (by kernel_rfl) (by kernel_rfl) (by kernel_rfl) (fun _ _ _ h => h) (Or.inl ⟨by rfl, ?hy12_13N1b⟩) hS ?rest12_13N1b
              case hy12_13N1b => intro w hSw; (try dsimp only at hSw); go_simp; (try with_reducible rfl)
              case rest12_13N1b =>
              try simp only [List.getElem_toArray, List.getElem_cons_succ, List.getElem_cons_zero, Act.put, List.setIfInBounds_toArray, List.set_cons_zero, List.set_cons_succ]
              refine wpAnyG_take' (i := 13) (v := ?v13_14N1b) rfl (by kernel_rfl) (by kernel_rfl) (by kernel_rfl) (by kernel_rfl) (fun _ _ _ h => h) (Or.inl ⟨by rfl, ?hy13_14N1b⟩) hS ?rest13_14N1b
              case hy13_14N1b => intro w hSw; (try dsimp only at hSw); go_simp; (try with_reducible rfl)
              case rest13_14N1b =>
              try simp only [List.getElem_toArray, List.getElem_cons_succ, List.getElem_cons_zero, Act.put, List.setIfInBounds_toArray, List.set_cons_zero, List.set_cons_succ]
              refine wpAnyG_take' (i := 14) (v := ?v14_15N1b) rfl (by kernel_rfl) (by kernel_rfl) (by kernel_rfl) (by kernel_rfl) (fun _ _ _ h => h) (Or.inl ⟨by rfl, ?hy14_15N1b⟩) hS ?rest14_15N1b
              case hy14_15N1b => intro w hSw; (try dsimp only at hSw); go_simp; (try with_reducible rfl)
              case rest14_15N1b =>
              try simp only [List.getElem_toArray, List.getElem_cons_succ, List.getElem_cons_zero, Act.put, List.setIfInBounds_toArray, List.set_cons_zero, List.set_cons_succ]
              refine wpAnyG_take' (i := 15) (v := ?v15_16N1b) rfl (by kernel_rfl) (by kernel_rfl) (by kernel_rfl) (by kernel_rfl) (fun _ _ _ h => h) (Or.inl ⟨by rfl, ?hy15_16N1b⟩) hS ?rest15_16N1b
              case hy15_16N1b => intro w hSw; (try dsimp only at hSw); go_simp; (try with_reducible rfl)
              case rest15_16N1b =>
              try simp only [List.getElem_toArray, List.getElem_cons_succ, List.getElem_cons_zero, Act.put, List.setIfInBounds_toArray, List.set_cons_zero, List.set_cons_succ]
              refine wpAnyG_take' (i := 16) (v := ?v16_17N1b) rfl (by kernel_rfl) (by kernel_rfl) (by kernel_rfl) (by kernel_rfl) (fun _ _ _ h => h) (Or.inl ⟨by rfl, ?hy16_17N1b⟩) hS ?rest16_17N1b
              case hy16_17N1b => intro w hSw; (try dsimp only at hSw); go_simp; (try with_reducible rfl)
              case rest16_17N1b =>
              try simp only [List.getElem_toArray, List.getElem_cons_succ, List.getElem_cons_zero, Act.put, List.setIfInBounds_toArray, List.set_cons_zero, List.set_cons_succ]
              refine wpAnyG_take' (i := 17) (v := ?v17_18N1b) rfl (by kernel_rfl) (by kernel_rfl) (by kernel_rfl) (by kernel_rfl) (fun _ _ _ h => h) (Or.inl ⟨by rfl, ?hy17_18N1b⟩) hS ?rest17_18N1b
              case hy17_18N1b => intro w hSw; (try dsimp only at hSw); go_simp; (try with_reducible rfl)
              case rest17_18N1b =>
              try simp only [List.getElem_toArray, List.getElem_cons_succ, List.getElem_cons_zero, Act.put, List.setIfInBounds_toArray, List.set_cons_zero, List.set_cons_succ]
              refine wpAnyG_take' (i := 18) (v := ?v18_19N1b) rfl (by kernel_rfl) (by kernel_rfl) (by kernel_rfl) (by kernel_rfl) (fun _ _ _ h => h) (Or.inl ⟨by rfl, ?hy18_19N1b⟩) hS ?rest18_19N1b
              case hy18_19N1b => intro w hSw; (try dsimp only at hSw); go_simp; (try with_reducible rfl)
              case rest18_19N1b =>
              try simp only [List.getElem_toArray, List.getElem_cons_succ, List.getElem_cons_zero, Act.put, List.setIfInBounds_toArray, List.set_cons_zero, List.set_cons_succ]
              refine wpAnyG_take' (i := 19) (v := ?v19_20N1b) rfl (by kernel_rfl) (by kernel_rfl) (by kernel_rfl) (by kernel_rfl) (fun _ _ _ h => h) (Or.inl ⟨by rfl, ?hy19_20N1b⟩) hS ?rest19_20N1b
              case hy19_20N1b => intro w hSw; (try dsimp only at hSw); go_simp; (try with_reducible rfl)
              case rest19_20N1b =>
              try simp only [List.getElem_toArray, List.getElem_cons_succ, List.getElem_cons_zero, Act.put, List.setIfInBounds_toArray, List.set_cons_zero, List.set_cons_succ]
              refine wpAnyG_take' (i := 20) (v := ?v20_21N1b) rfl (by kernel_rfl) (by kernel_rfl) (by kernel_rfl) (by kernel_rfl) (fun _ _ _ h => h) (Or.inl ⟨by rfl, ?hy20_21N1b⟩) hS ?rest20_21N1b
              case hy20_21N1b => intro w hSw; (try dsimp only at hSw); go_simp; (try with_reducible rfl)
              case rest20_21N1b =>
              try simp only [List.getElem_toArray, List.getElem_cons_succ, List.getElem_cons_zero, Act.put, List.setIfInBounds_toArray, List.set_cons_zero, List.set_cons_succ]
              refine wpAnyG_take' (i := 21) (v := ?v21_22N1b) rfl (by kernel_rfl) (by kernel_rfl) (by kernel_rfl) (by kernel_rfl) (fun _ _ _ h => h) (Or.inl ⟨by rfl, ?hy21_22N1b⟩) hS ?rest21_22N1b
              case hy21_22N1b => intro w hSw; (try dsimp only at hSw); go_simp; (try with_reducible rfl)
              case rest21_22N1b =>
              try simp only [List.getElem_toArray, List.getElem_cons_succ, List.getElem_cons_zero, Act.put, List.setIfInBounds_toArray, List.set_cons_zero, List.set_cons_succ]
              refine wpAnyG_done (by kernel_rfl) ?_ _
              try simp only [List.getElem_toArray, List.getElem_cons_succ, List.getElem_cons_zero, Act.put, List.setIfInBounds_toArray, List.set_cons_zero, List.set_cons_succ]
              clear hS
              (try dsimp only); repeat' (first | go_values | go_skip | go_guarded | go_step | go_upon | go_back)
              refine HJ.out.mono ?_
              rintro r2 w7 ⟨rfl, h8⟩
              clear HJ y0 y1 y4 x0 x2 fz
              obtain ⟨y0, y1, -, -, -, -⟩ := cells6z (h8.pick [2] rfl : Sep w [Cl b7 _ _] _)
              by_cases hn1 : 1 < num
              · have d3 : decide (1 < num) = true := decide_eq_true hn1
                have hn1' := hn1
                clear hn1
                have hj := judge_any i (num - 1) h8 HO.out.len
                rw [judge_had HO.out.len HI.out HSN.out rfl, if_neg (by (try dsimp only); omega), if_neg (by (try dsimp only); omega)] at hj
                have HJ := Lib.hid hj
                clear h8 hj
                (try dsimp only); repeat' (first | go_values | go_skip | go_guarded | go_step | go_upon | go_back)
                refine HJ.out.mono ?_
                rintro r3 w8 ⟨rfl, h8⟩
                clear HJ y0 y1
                obtain ⟨y0, y1, -, -, -, -⟩ := cells6z (h8.pick [2] rfl : Sep w [Cl b7 _ _] _)
                have hj := judge_any i (num + 1) h8 HO.out.len
                rw [judge_had HO.out.len HI.out HSN.out rfl, if_pos (by (try dsimp only); omega)] at hj
                have HJ := Lib.hid hj
                clear h8 hj
                (try dsimp only); repeat' (first | go_values | go_skip | go_guarded | go_step | go_upon | go_back)
                refine HJ.out.mono ?_
                rintro r4 w9 ⟨rfl, h8⟩
                clear HJ y0 y1
                have hl := len_any h8 HO.out.len
                rw [HCNT.out] at hl
                have HL := Lib.hid hl
                clear h8 hl
                (try dsimp only); repeat' (first | go_values | go_skip | go_guarded | go_step | go_upon | go_back)
                refine HL.out.mono ?_
                rintro r5 w10 ⟨rfl, h8⟩
                have H8 := Lib.hid (h8.pick [3, 0] rfl : Sep w [Cl b4 (hadCs Tn) 62, TabT g Tn] w10)
                clear HL h8
                (try dsimp only); repeat' (first | go_values | go_skip | go_guarded | go_step | go_upon | go_back)
                go_roundw
                case rel => exact ⟨k + 1, Tn, by have := HG.out.1; omega, by have := HG.out.2; omega, by rw [HCNT.out], by go_num, HO.out, H8.out⟩
                case measure => have := HG.out.2; simp [intOf]; omega
              · have d3 : decide (1 < num) = false := decide_eq_false hn1
                clear hn1
                have hj := judge_any i (num + 1) h8 HO.out.len
                rw [judge_had HO.out.len HI.out HSN.out rfl, if_pos (by (try dsimp only); omega)] at hj
                have HJ := Lib.hid hj
                clear h8 hj
                (try dsimp only); repeat' (first | go_values | go_skip | go_guarded | go_step | go_upon | go_back)
                refine HJ.out.mono ?_
                rintro r4 w9 ⟨rfl, h8⟩
                clear HJ y0 y1
                have hl := len_any h8 HO.out.len
                rw [HCNT.out] at hl
                have HL := Lib.hid hl
                clear h8 hl
                (try dsimp only); repeat' (first | go_values | go_skip | go_guarded | go_step | go_upon | go_back)
                refine HL.out.mono ?_
                rintro r5 w10 ⟨rfl, h8⟩
                have H8 := Lib.hid (h8.pick [3, 0] rfl : Sep w [Cl b4 (hadCs Tn) 62, TabT g Tn] w10)
                clear HL h8
                (try dsimp only); repeat' (first | go_values | go_skip | go_guarded | go_step | go_upon | go_back)
                go_roundw
                case rel => exact ⟨k + 1, Tn, by have := HG.out.1; omega, by have := HG.out.2; omega, by rw [HCNT.out], by go_num, HO.out, H8.out⟩
                case measure => have := HG.out.2; simp [intOf]; omega
          · as_aux_lemma =>
              have h5 := h4.alloc (.cells #[.int .i64 i, .int .i64 num, .int .i64 so, .int .i64 sk, .int .i64 sa, .int .i64 sb] 31)
              have f1 := (h4.alloc (.cells #[.int .i64 i, .int .i64 n0, .int .i64 so, .int .i64 sk, .int .i64 sa, .int .i64 sb] 31)).low
              have g1 := HQ.out 1 _ rfl _ f1
              have g2 := HQ.out 1 _ rfl _ h5.low
              have hpt := put_rng i num so sk sa sb (h5.pick [2, 0, 1] rfl : Sep w [TabT g T, Cl _ #[.int .i64 i, .int .i64 num, .int .i64 so, .int .i64 sk, .int .i64 sa, .int .i64 sb] 31, Cl b4 (hadCs T) 62] _) HT.out.1.len (HC.out num z1 z2) (by rw [judge_had HT.out.1.len HI.out HS.out hhad, if_neg (by omega)]; by_cases he : s.n = num; (rw [if_pos he]; exact .inl rfl); (rw [if_neg he]; exact .inr rfl))
              have HP := Lib.hid hpt
              obtain ⟨b7, hb7⟩ : ∃ z, z = w4.heap.size := ⟨_, rfl⟩
              obtain ⟨w5, hw5⟩ : ∃ z, z = w4.alloc (.cells #[.int .i64 i, .int .i64 num, .int .i64 so, .int .i64 sk, .int .i64 sa, .int .i64 sb] 31) := ⟨_, rfl⟩
              clear h4 h5 f1 hpt
              (try dsimp only); repeat' (first | go_values | go_skip | go_guarded | go_step | go_upon | go_back)
              rw [← hw5, ← hb7]
              rw [← hw5, ← hb7] at HP
              clear hw5 hb7 g1 g2
              refine HP.out.mono ?_
              rintro r1 w6 ⟨rfl, h6⟩
              clear HP
              have h7 := h6.alloc (.cells #[.bool false, .int .i64 0, .int .i64 0, .int .i64 0, .int .i64 0, .int .i64 0, .int .i64 0] 33)
              obtain ⟨y0, y1, -, -, -, -⟩ := cells6z (h7.pick [2] rfl : Sep w [Cl b7 _ _] _)
              have y4 := (h7.pick [3] rfl : Sep w [Cl b4 (hadCs T) 62] _).cell (hadCs_get T i s HS.out)
              have hsn : 1 ≤ s.n ∧ s.n ≤ 2147483647 := by
                obtain ⟨hi9, hs9⟩ := List.getElem?_eq_some_iff.1 HS.out
                rw [← hs9]; exact HT.out.1.had i hi9 (by rw [hs9]; exact hhad)
              obtain ⟨sn1, sn2⟩ := hsn
              have p1 : (s.n == 0) = false := beq_eq_false_iff_ne.2 (by omega)
              have p2 : decide (num ≤ s.n) = true := decide_eq_true (by omega)
              have HHAD := Lib.hid hhad
              have HM9 := Lib.hid HT.out.2.symm
              have h8 := (h7.drew.pick [1, 0, 2, 3] rfl : Sep w [TabT g T, Cl _ _ _, Cl b7 _ _, Cl b4 (hadCs T) 62] _)
              clear h6 h7 hhad hlt
              have hj := judge_any i (s.n) h8 HT.out.1.len
              rw [judge_had HT.out.1.len HI.out HS.out HHAD.out, if_neg (Int.lt_irrefl _), if_pos rfl] at hj
              have HJ := Lib.hid hj
              clear h8 hj
              (try dsimp only); repeat' (first | go_values | go_skip | go_guarded | go_step | go_upon | go_back)
              refine wp_region_G (fun w' => w'.cell? ⟨b7, 0, none⟩ = some (.int .i64 i) ∧ w'.cell? ⟨b7, 1, none⟩ = some (.int .i64 num) ∧ w'.cell? ⟨b4, i, none⟩ = some (.int .i64 s.n)) [] (by kernel_rfl) ⟨y0, y1, y4⟩ (fun hS => ?_)
              try dsimp only at hS
              refine wpAnyG_take' (i := 0) (v := ?v0_1S21) rfl (by kernel_rfl) (by kernel_rfl) (by kernel_rfl) (by kernel_rfl) (fun _ _ _ h => h) (Or.inl ⟨by rfl, ?hy0_1S21⟩) hS ?rest0_1S21
              case hy0_1S21 => intro w hSw; (try dsimp only at hSw); go_simp; (try with_reducible rfl)
              case rest0_1S21 =>
              try simp only [List.getElem_toArray, List.getElem_cons_succ, List.getElem_cons_zero, Act.put, List.setIfInBounds_toArray, List.set_cons_zero, List.set_cons_succ]
              refine wpAnyG_take' (i := 1) (v := ?v1_2S21) rfl (by kernel_rfl) (by kernel_rfl) (by kernel_rfl) (by kernel_rfl) (fun _ _ _ h => h) (Or.inl ⟨by rfl, ?hy1_2S21⟩) hS ?rest1_2S21
              case hy1_2S21 => intro w hSw; (try dsimp only at hSw); go_simp; (try with_reducible rfl)
              case rest1_2S21 =>
              try simp only [List.getElem_toArray, List.getElem_cons_succ, List.getElem_cons_zero, Act.put, List.setIfInBounds_toArray, List.set_cons_zero, List.set_cons_succ]
              refine wpAnyG_take' (i := 2) (v := ?v2_3S21) rfl (by kernel_rfl) (by kernel_rfl) (by kernel_rfl) (by kernel_rfl) (fun _ _ _ h => h) (Or.inl ⟨by rfl, ?hy2_3S21⟩) hS ?rest2_3S21
              case hy2_3S21 => intro w hSw; (try dsimp only at hSw); go_simp; (try with_reducible rfl)
              case rest2_3S21 =>
              try simp only [List.getElem_toArray, List.getElem_cons_succ, List.getElem_cons_zero, Act.put, List.setIfInBounds_toArray, List.set_cons_zero, List.set_cons_succ]
              refine wpAnyG_take' (i := 3) (v := ?v3_4S21) rfl (by kernel_rfl) (by kernel_rfl) (by kernel_rfl) (by kernel_rfl) (fun _ _ _ h => h) (Or.inl ⟨by rfl, ?hy3_4S21⟩) hS ?rest3_4S21
              case hy3_4S21 => intro w hSw; (try dsimp only at hSw); go_simp; (try with_reducible rfl)
              case rest3_4S21 =>
              try simp only [List.getElem_toArray, List.getElem_cons_succ, List.getElem_cons_zero, Act.put, List.setIfInBounds_toArray, List.set_cons_zero, List.set_cons_succ]
              refine wpAnyG_take' (i := 4) (v := ?v4_5S21) rfl (by kernel_rfl) (by kernel_rfl) (by kernel_rfl) (by kernel_rfl) (fun _ _ _ h => h) (Or.inl ⟨by rfl, ?hy4_5S21⟩) hS ?rest4_5S21
              case hy4_5S21 => intro w hSw; (try dsimp only at hSw); go_simp; (try with_reducible rfl)
              case rest4_5S21 =>
              try simp only [List.getElem_toArray, List.getElem_cons_succ, List.getElem_cons_zero, Act.put, List.setIfInBounds_toArray, List.set_cons_zero, List.set_cons_succ]
              refine wpAnyG_take' (i := 5) (v := ?v5_6S21) rfl (by kernel_rfl) (by kernel_rfl) (by kernel_rfl) (by kernel_rfl) (fun _ _ _ h => h) (Or.inl ⟨by rfl, ?hy5_6S21⟩) hS ?rest5_6S21
              case hy5_6S21 => intro w hSw; (try dsimp only at hSw); go_simp; (try with_reducible rfl)
              case rest5_6S21 =>
              try simp only [List.getElem_toArray, List.getElem_cons_succ, List.getElem_cons_zero, Act.put, List.setIfInBounds_toArray, List.set_cons_zero, List.set_cons_succ]
              refine wpAnyG_take' (i := 6) (v := ?v6_7S21) rfl (by kernel_rfl) (by kernel_rfl) (by kernel_rfl) (by kernel_rfl) (fun _ _ _ h => h) (Or.inl ⟨by rfl, ?hy6_7S21⟩) hS ?rest6_7S21
              case hy6_7S21 => intro w hSw; (try dsimp only at hSw); go_simp; (try with_reducible rfl)
              case rest6_7S21 =>
              try simp only [List.getElem_toArray, List.getElem_cons_succ, List.getElem_cons_zero, Act.put, List.setIfInBounds_toArray, List.set_cons_zero, List.set_cons_succ]
              refine wpAnyG_take' (i := 7) (v := ?v7_8S21) rfl (by kernel_rfl) (by kernel_rfl) (by kernel_rfl) (by kernel_rfl) (fun _ _ _ h => h) (Or.inl ⟨by rfl, ?hy7_8S21⟩) hS ?rest7_8S21
              case hy7_8S21 => intro w hSw; (try dsimp only at hSw); go_simp; (try with_reducible rfl)
              case rest7_8S21 =>
              try simp only [List.getElem_toArray, List.getElem_cons_succ, List.getElem_cons_zero, Act.put, List.setIfInBounds_toArray, List.set_cons_zero, List.set_cons_succ]
              refine wpAnyG_done (by kernel_rfl) ?_ _
              try simp only [List.getElem_toArray, List.getElem_cons_succ, List.getElem_cons_zero, Act.put, List.setIfInBounds_toArray, List.set_cons_zero, List.set_cons_succ]
              clear hS
              (try dsimp only); repeat' (first | go_values | go_skip | go_guarded | go_step | go_upon | go_back)
              refine HJ.out.mono ?_
              rintro r2 w7 ⟨rfl, h8⟩
              clear HJ y0 y1 y4
              obtain ⟨y0, y1, -, -, -, -⟩ := cells6z (h8.pick [2] rfl : Sep w [Cl b7 _ _] _)
              by_cases hn1 : 1 < s.n
              · have d3 : decide (1 < s.n) = true := decide_eq_true hn1
                have hn1' := hn1
                clear hn1
                have hj := judge_any i (s.n - 1) h8 HT.out.1.len
                rw [judge_had HT.out.1.len HI.out HS.out HHAD.out, if_neg (by (try dsimp only); omega), if_neg (by (try dsimp only); omega)] at hj
                have HJ := Lib.hid hj
                clear h8 hj
                (try dsimp only); repeat' (first | go_values | go_skip | go_guarded | go_step | go_upon | go_back)
                refine HJ.out.mono ?_
                rintro r3 w8 ⟨rfl, h8⟩
                clear HJ y0 y1
                obtain ⟨y0, y1, -, -, -, -⟩ := cells6z (h8.pick [2] rfl : Sep w [Cl b7 _ _] _)
                have hj := judge_any i (s.n + 1) h8 HT.out.1.len
                rw [judge_had HT.out.1.len HI.out HS.out HHAD.out, if_pos (by (try dsimp only); omega)] at hj
                have HJ := Lib.hid hj
                clear h8 hj
                (try dsimp only); repeat' (first | go_values | go_skip | go_guarded | go_step | go_upon | go_back)
                refine HJ.out.mono ?_
                rintro r4 w9 ⟨rfl, h8⟩
                clear HJ y0 y1
                have hl := len_any h8 HT.out.1.len
                rw [HM9.out] at hl
                have HL := Lib.hid hl
                clear h8 hl
                (try dsimp only); repeat' (first | go_values | go_skip | go_guarded | go_step | go_upon | go_back)
                refine HL.out.mono ?_
                rintro r5 w10 ⟨rfl, h8⟩
                have H8 := Lib.hid (h8.pick [3, 0] rfl : Sep w [Cl b4 (hadCs T) 62, TabT g T] w10)
                clear HL h8
                (try dsimp only); repeat' (first | go_values | go_skip | go_guarded | go_step | go_upon | go_back)
                go_roundw
                case rel => exact ⟨k + 1, T, by have := HG.out.1; omega, by have := HG.out.2; omega, by rw [HM9.out], by go_num, HT.out.1, H8.out⟩
                case measure => have := HG.out.2; simp [intOf]; omega
              · have d3 : decide (1 < s.n) = false := decide_eq_false hn1
                clear hn1
                have hj := judge_any i (s.n + 1) h8 HT.out.1.len
                rw [judge_had HT.out.1.len HI.out HS.out HHAD.out, if_pos (by (try dsimp only); omega)] at hj
                have HJ := Lib.hid hj
                clear h8 hj
                (try dsimp only); repeat' (first | go_values | go_skip | go_guarded | go_step | go_upon | go_back)
                refine HJ.out.mono ?_
                rintro r4 w9 ⟨rfl, h8⟩
                clear HJ y0 y1
                have hl := len_any h8 HT.out.1.len
                rw [HM9.out] at hl
                have HL := Lib.hid hl
                clear h8 hl
                (try dsimp only); repeat' (first | go_values | go_skip | go_guarded | go_step | go_upon | go_back)
                refine HL.out.mono ?_
                rintro r5 w10 ⟨rfl, h8⟩
                have H8 := Lib.hid (h8.pick [3, 0] rfl : Sep w [Cl b4 (hadCs T) 62, TabT g T] w10)
                clear HL h8
                (try dsimp only); repeat' (first | go_values | go_skip | go_guarded | go_step | go_upon | go_back)
                go_roundw
                case rel => exact ⟨k + 1, T, by have := HG.out.1; omega, by have := HG.out.2; omega, by rw [HM9.out], by go_num, HT.out.1, H8.out⟩
                case measure => have := HG.out.2; simp [intOf]; omega
      · have p0 : (xn.tmod 2 == 0) = false := beq_eq_false_iff_ne.2 hp
        have z1 := HN0.out.1
        have z2 := HN0.out.2
        clear hp
        cases hhad : s.had with
        | false =>
          by_cases hm5 : 6 ≤ m
          · as_aux_lemma =>
              have h5 := h4.alloc (.cells #[.int .i64 i, .int .i64 n0, .int .i64 so, .int .i64 sk, .int .i64 sa, .int .i64 sb] 31)
              have f1 := (h4.alloc (.cells #[.int .i64 i, .int .i64 n0, .int .i64 so, .int .i64 sk, .int .i64 sa, .int .i64 sb] 31)).low
              have g1 := HQ.out 1 _ rfl _ f1
              have g2 := HQ.out 1 _ rfl _ h5.low
              have hpt := put_full i n0 so sk sa sb (h5.pick [2, 0, 1] rfl : Sep w [TabT g T, Cl _ #[.int .i64 i, .int .i64 n0, .int .i64 so, .int .i64 sk, .int .i64 sa, .int .i64 sb] 31, Cl b4 (hadCs T) 62] _) HT.out.1.len (HC.out n0 z1 z2) (by rw [judge_free HT.out.1.len HI.out HS.out hhad, if_pos (by rw [← HT.out.2]; omega)])
              have HP := Lib.hid hpt
              obtain ⟨b7, hb7⟩ : ∃ z, z = w4.heap.size := ⟨_, rfl⟩
              obtain ⟨w5, hw5⟩ : ∃ z, z = w4.alloc (.cells #[.int .i64 i, .int .i64 n0, .int .i64 so, .int .i64 sk, .int .i64 sa, .int .i64 sb] 31) := ⟨_, rfl⟩
              clear h4 h5 f1 hpt
              (try dsimp only); repeat' (first | go_values | go_skip | go_guarded | go_step | go_upon | go_back)
              rw [← hw5, ← hb7]
              rw [← hw5, ← hb7] at HP
              clear hw5 hb7 g1 g2
              refine HP.out.mono ?_
              rintro r1 w6 ⟨rfl, h6⟩
              clear HP
              have h7 := h6.alloc (.cells #[.bool false, .int .i64 0, .int .i64 0, .int .i64 0, .int .i64 0, .int .i64 0, .int .i64 0] 33)
              obtain ⟨y0, y1, -, -, -, -⟩ := cells6z (h7.pick [2] rfl : Sep w [Cl b7 _ _] _)
              have y4 := (h7.pick [3] rfl : Sep w [Cl b4 (hadCs T) 62] _).cell (hadCs_get T i s HS.out)
              have hsn : s.n = 0 := by
                obtain ⟨hi9, hs9⟩ := List.getElem?_eq_some_iff.1 HS.out
                rw [← hs9]; exact HT.out.1.free i hi9 (by rw [hs9]; exact hhad)
              rw [hsn] at y4
              have hj := judge_any i n0 (h7.pick [1, 0, 2, 3] rfl : Sep w [TabT g T, Cl _ _ _, Cl b7 _ _, Cl b4 (hadCs T) 62] _) HT.out.1.len
              rw [judge_free HT.out.1.len HI.out HS.out hhad, if_pos (by rw [← HT.out.2]; omega)] at hj
              have HJ := Lib.hid hj
              have hm6 : m = 6 := by omega
              subst hm6
              clear h6 h7 hj hsn hhad hm5
              (try dsimp only); repeat' (first | go_values | go_skip | go_guarded | go_step | go_upon | go_back)
              refine HJ.out.mono ?_
              rintro r2 w7 ⟨rfl, h8⟩
              have H8 := Lib.hid (h8.pick [3, 0] rfl : Sep w [Cl b4 (hadCs T) 62, TabT g T] w7)
              clear HJ h8 y0 y1 y4
              (try dsimp only); repeat' (first | go_values | go_skip | go_guarded | go_step | go_upon | go_back)
              go_roundw
              case rel => exact ⟨k + 1, T, by have := HG.out.1; omega, by have := HG.out.2; omega, by rw [← HT.out.2], by go_num, HT.out.1, H8.out⟩
              case measure => have := HG.out.2; simp [intOf]; omega
          · as_aux_lemma =>
              have h5 := h4.alloc (.cells #[.int .i64 i, .int .i64 n0, .int .i64 so, .int .i64 sk, .int .i64 sa, .int .i64 sb] 31)
              have f1 := (h4.alloc (.cells #[.int .i64 i, .int .i64 n0, .int .i64 so, .int .i64 sk, .int .i64 sa, .int .i64 sb] 31)).low
              have g1 := HQ.out 1 _ rfl _ f1
              have g2 := HQ.out 1 _ rfl _ h5.low
              have hpt := put_new i n0 so sk sa sb (h5.pick [2, 0, 1] rfl : Sep w [TabT g T, Cl _ #[.int .i64 i, .int .i64 n0, .int .i64 so, .int .i64 sk, .int .i64 sa, .int .i64 sb] 31, Cl b4 (hadCs T) 62] _) HT.out.1.len s HS.out (HC.out n0 z1 z2) (by rw [judge_free HT.out.1.len HI.out HS.out hhad, if_neg (by rw [← HT.out.2]; exact hm5)])
              rw [hhad] at hpt
              have HP := Lib.hid hpt
              obtain ⟨b7, hb7⟩ : ∃ z, z = w4.heap.size := ⟨_, rfl⟩
              obtain ⟨w5, hw5⟩ : ∃ z, z = w4.alloc (.cells #[.int .i64 i, .int .i64 n0, .int .i64 so, .int .i64 sk, .int .i64 sa, .int .i64 sb] 31) := ⟨_, rfl⟩
              clear h4 h5 f1 hpt
              (try dsimp only); repeat' (first | go_values | go_skip | go_guarded | go_step | go_upon | go_back)
              rw [← hw5, ← hb7]
              rw [← hw5, ← hb7] at HP
              clear hw5 hb7 g1 g2
              refine HP.out.mono ?_
              rintro r1 w6 ⟨rfl, h6⟩
              clear HP
              have h7 := h6.alloc (.cells #[.bool false, .int .i64 s.c, .int .i64 s.n, .int .i64 s.o, .int .i64 s.k, .int .i64 s.a, .int .i64 s.b] 33)
              obtain ⟨Tn, hTn⟩ : ∃ z, z = T.set i ⟨true, (i : Int), n0, so, sk, sa, sb⟩ := ⟨_, rfl⟩
              rw [← hTn] at h7
              obtain ⟨x0, -, x2, -, -, -, -⟩ := cells7z h7
              obtain ⟨y0, y1, -, -, -, -⟩ := cells6z (h7.pick [2] rfl : Sep w [Cl b7 _ _] _)
              have y4 := (h7.pick [3] rfl : Sep w [Cl b4 (hadCs T) 62] _).cell (hadCs_get T i s HS.out)
              have fz := (h7.pick [3] rfl : Sep w [Cl b4 (hadCs T) 62] _).frozen i
              have hiT : i < T.length := by rw [HT.out.1.len]; exact HI.out
              have hsT : T[i] = s := by obtain ⟨hi9, hs9⟩ := List.getElem?_eq_some_iff.1 HS.out; exact hs9
              have hsn := HT.out.1.free i hiT (by rw [hsT]; exact hhad)
              rw [hsT] at hsn
              have p1 : (s.n == 0) = true := beq_iff_eq.2 hsn
              have p4 : ((m : Int) == 6) = false := beq_eq_false_iff_ne.2 (by omega)
              have p3 : decide (0 < s.n) = false := decide_eq_false (by omega)
              have p2 : decide (n0 ≤ s.n) = false := decide_eq_false (by omega)
              have hcnt : (seatsOf Tn).length = m + 1 := by rw [hTn, seats_set_new T i hiT _ (by rw [hsT]; exact hhad) rfl, HT.out.2]
              have hOn : OnceT Tn := by rw [hTn]; exact HT.out.1.put i hiT _ rfl z1 z2 (.inr (by rw [← HT.out.2]; omega))
              have HCNT := Lib.hid hcnt
              clear hm5
              have HO := Lib.hid hOn
              have HSN : Hid (Tn[i]? = some (⟨true, (i : Int), n0, so, sk, sa, sb⟩ : SW)) := Lib.hid (by rw [hTn, List.getElem?_set_self hiT])
              have hbb := cl_ne (h7.pick [3, 2] rfl : Sep w [Cl b4 (hadCs T) 62, Cl b7 _ _] _)
              have hbb2 : (b4 == b7) = false := beq_eq_false_iff_ne.2 hbb
              have hbb3 := hbb.symm
              have hbb4 : (b7 == b4) = false := beq_eq_false_iff_ne.2 hbb3
              have h8 := ((h7.pick [3, 0, 1, 2] rfl : Sep w [Cl b4 (hadCs T) 62, Cl _ _ _, TabT g Tn, Cl b7 _ _] _).setCell i (.int .i64 n0))
              have hcs := hadCs_set T i (⟨true, (i : Int), n0, so, sk, sa, sb⟩ : SW)
              dsimp only at hcs
              rw [hcs, ← hTn] at h8
              have h8 := (h8.drew.drew.pick [2, 1, 3, 0] rfl : Sep w [TabT g Tn, Cl _ _ _, Cl b7 _ _, Cl b4 (hadCs Tn) 62] _)
              clear h6 h7 hhad hsn hsT hiT hTn hcnt hOn hcs
              have hj := judge_any i (n0) h8 HO.out.len
              rw [judge_had HO.out.len HI.out HSN.out rfl, if_neg (Int.lt_irrefl _), if_pos rfl] at hj
              have HJ := Lib.hid hj
              clear h8 hj
              (try dsimp only); repeat' (first | go_values | go_skip | go_guarded | go_step | go_upon | go_back)
              refine wp_region_G (fun w' => w'.cell? ⟨b7, 0, none⟩ = some (.int .i64 i) ∧ w'.cell? ⟨b7, 1, none⟩ = some (.int .i64 n0) ∧ w'.cell? ⟨b4, i, none⟩ = some (.int .i64 s.n)) [] (by kernel_rfl) ⟨y0, y1, y4⟩ (fun hS => ?_)
              try dsimp only at hS
              refine wpAnyG_take' (i := 0) (v := ?v0_1N0an) rfl (by kernel_rfl) (by kernel_rfl) (by kernel_rfl) (by kernel_rfl) (fun _ _ _ h => h) (Or.inl ⟨by rfl, ?hy0_1N0an⟩) hS ?rest0_1N0an
              case hy0_1N0an => intro w hSw; (try dsimp only at hSw); go_simp; (try with_reducible rfl)
              case rest0_1N0an =>
              try simp only [List.getElem_toArray, List.getElem_cons_succ, List.getElem_cons_zero, Act.put, List.setIfInBounds_toArray, List.set_cons_zero, List.set_cons_succ]
              refine wpAnyG_take' (i := 1) (v := ?v1_2N0an) rfl (by kernel_rfl) (by kernel_rfl) (by kernel_rfl) (by kernel_rfl) (fun _ _ _ h => h) (Or.inl ⟨by rfl, ?hy1_2N0an⟩) hS ?rest1_2N0an
              case hy1_2N0an => intro w hSw; (try dsimp only at hSw); go_simp; (try with_reducible rfl)
              case rest1_2N0an =>
              try simp only [List.getElem_toArray, List.getElem_cons_succ, List.getElem_cons_zero, Act.put, List.setIfInBounds_toArray, List.set_cons_zero, List.set_cons_succ]
              refine wpAnyG_take' (i := 2) (v := ?v2_3N0an) rfl (by kernel_rfl) (by kernel_rfl) (by kernel_rfl) (by kernel_rfl) (fun _ _ _ h => h) (Or.inl ⟨by rfl, ?hy2_3N0an⟩) hS ?rest2_3N0an
              case hy2_3N0an => intro w hSw; (try dsimp only at hSw); go_simp; (try with_reducible rfl)
              case rest2_3N0an =>
              try simp only [List.getElem_toArray, List.getElem_cons_succ, List.getElem_cons_zero, Act.put, List.setIfInBounds_toArray, List.set_cons_zero, List.set_cons_succ]
              refine wpAnyG_take' (i := 3) (v := ?v3_4N0an) rfl (by kernel_rfl) (by kernel_rfl) (by kernel_rfl) (by kernel_rfl) (fun _ _ _ h => h) (Or.inl ⟨by rfl, ?hy3_4N0an⟩) hS ?rest3_4N0an
              case hy3_4N0an => intro w hSw; (try dsimp only at hSw); go_simp; (try with_reducible rfl)
              case rest3_4N0an =>
              try simp only [List.getElem_toArray, List.getElem_cons_succ, List.getElem_cons_zero, Act.put, List.setIfInBounds_toArray, List.set_cons_zero, List.set_cons_succ]
              refine wpAnyG_take' (i := 4) (v := ?v4_5N0an) rfl (by kernel_rfl) (by kernel_rfl) (by kernel_rfl) (by kernel_rfl) (fun _ _ _ h => h) (Or.inl ⟨by rfl, ?hy4_5N0an⟩) hS ?rest4_5N0an
              case hy4_5N0an => intro w hSw; (try dsimp only at hSw); go_simp; (try with_reducible rfl)
              case rest4_5N0an =>
              try simp only [List.getElem_toArray, List.getElem_cons_succ, List.getElem_cons_zero, Act.put, List.setIfInBounds_toArray, List.set_cons_zero, List.set_cons_succ]
              refine wpAnyG_take' (i := 5) (v := ?v5_6N0an) rfl (by kernel_rfl) (by kernel_rfl) (by kernel_rfl) (by kernel_rfl) (fun _ _ _ h => h) (Or.inl ⟨by rfl, ?hy5_6N0an⟩) hS ?rest5_6N0an
              case hy5_6N0an => intro w hSw; (try dsimp only at hSw); go_simp; (try with_reducible rfl)
              case rest5_6N0an =>
              try simp only [List.getElem_toArray, List.getElem_cons_succ, List.getElem_cons_zero, Act.put, List.setIfInBounds_toArray, List.set_cons_zero, List.set_cons_succ]
              refine wpAnyG_take' (i := 6) (v := ?v6_7N0an) rfl (by kernel_rfl) (by kernel_rfl) (by kernel_rfl) (by kernel_rfl) (fun _ _ _ h => h) (Or.inl ⟨by rfl, ?hy6_7N0an⟩) hS ?rest6_7N0an
              case hy6_7N0an => intro w hSw; (try dsimp only at hSw); go_simp; (try with_reducible rfl)
              case rest6_7N0an =>
              try simp only [List.getElem_toArray, List.getElem_cons_succ, List.getElem_cons_zero, Act.put, List.setIfInBounds_toArray, List.set_cons_zero, List.set_cons_succ]
              refine wpAnyG_take' (i := 7) (v := ?v7_8N0an) rfl (by kernel_rfl) (by kernel_rfl) (by kernel_rfl) (by kernel_rfl) (fun _ _ _ h => h) (Or.inl ⟨by rfl, ?hy7_8N0an⟩) hS ?rest7_8N0an
              case hy7_8N0an => intro w hSw; (try dsimp only at hSw); go_simp; (try with_reducible rfl)
              case rest7_8N0an =>
              try simp only [List.getElem_toArray, List.getElem_cons_succ, List.getElem_cons_zero, Act.put, List.setIfInBounds_toArray, List.set_cons_zero, List.set_cons_succ]
              refine wpAnyG_done (by kernel_rfl) ?_ _
              try simp only [List.getElem_toArray, List.getElem_cons_succ, List.getElem_cons_zero, Act.put, List.setIfInBounds_toArray, List.set_cons_zero, List.set_cons_succ]
              clear hS
              (try dsimp only); repeat' (first | go_values | go_skip | go_guarded | go_step | go_upon | go_back)
              refine wp_region_G (fun w' => w'.cell? ⟨b7, 0, none⟩ = some (.int .i64 i) ∧ w'.cell? ⟨b4, i, none⟩ = some (.int .i64 s.n) ∧ w'.cell? ⟨w6.heap.size, 0, none⟩ = some (.bool false) ∧ w'.cell? ⟨w6.heap.size, 2, none⟩ = some (.int .i64 s.n)) [] (by kernel_rfl) ⟨y0, y4, x0, x2⟩ (fun hS => ?_)
              try dsimp only at hS
              refine wpAnyG_take' (i := 0) (v := ?v0_1N0bn) rfl (by kernel_rfl) (by kernel_rfl) (by kernel_rfl) (by kernel_rfl) (fun _ _ _ h => h) (Or.inl ⟨by rfl, ?hy0_1N0bn⟩) hS ?rest0_1N0bn
              case hy0_1N0bn => intro w hSw; (try dsimp only at hSw); go_simp; (try with_reducible rfl)
              case rest0_1N0bn =>
              try simp only [List.getElem_toArray, List.getElem_cons_succ, List.getElem_cons_zero, Act.put, List.setIfInBounds_toArray, List.set_cons_zero, List.set_cons_succ]
              refine wpAnyG_take' (i := 1) (v := ?v1_2N0bn) rfl (by kernel_rfl) (by kernel_rfl) (by kernel_rfl) (by kernel_rfl) (fun _ _ _ h => h) (Or.inl ⟨by rfl, ?hy1_2N0bn⟩) hS ?rest1_2N0bn
              case hy1_2N0bn => intro w hSw; (try dsimp only at hSw); go_simp; (try with_reducible rfl)
              case rest1_2N0bn =>
              try simp only [List.getElem_toArray, List.getElem_cons_succ, List.getElem_cons_zero, Act.put, List.setIfInBounds_toArray, List.set_cons_zero, List.set_cons_succ]
              refine wpAnyG_take' (i := 2) (v := ?v2_3N0bn) rfl (by kernel_rfl) (by kernel_rfl) (by kernel_rfl) (by kernel_rfl) (fun _ _ _ h => h) (Or.inl ⟨by rfl, ?hy2_3N0bn⟩) hS ?rest2_3N0bn
              case hy2_3N0bn => intro w hSw; (try dsimp only at hSw); go_simp; (try with_reducible rfl)
              case rest2_3N0bn =>
              try simp only [List.getElem_toArray, List.getElem_cons_succ, List.getElem_cons_zero, Act.put, List.setIfInBounds_toArray, List.set_cons_zero, List.set_cons_succ]
              refine wpAnyG_take' (i := 3) (v := ?v3_4N0bn) rfl (by kernel_rfl) (by kernel_rfl) (by kernel_rfl) (by kernel_rfl) (fun _ _ _ h => h) (Or.inl ⟨by rfl, ?hy3_4N0bn⟩) hS ?rest3_4N0bn
              case hy3_4N0bn => intro w hSw; (try dsimp only at hSw); go_simp; (try with_reducible rfl)
              case rest3_4N0bn =>
              try simp only [List.getElem_toArray, List.getElem_cons_succ, List.getElem_cons_zero, Act.put, List.setIfInBounds_toArray, List.set_cons_zero, List.set_cons_succ]
              refine wpAnyG_take' (i := 4) (v := ?v4_5N0bn) rfl (by kernel_rfl) (by kernel_rfl) (by kernel_rfl) (by kernel_rfl) (fun _ _ _ h => h) (Or.inl ⟨by rfl, ?hy4_5N0bn⟩) hS ?rest4_5N0bn
              case hy4_5N0bn => intro w hSw; (try dsimp only at hSw); go_simp; (try with_reducible rfl)
              case rest4_5N0bn =>
              try simp only [List.getElem_toArray, List.getElem_cons_succ, List.getElem_cons_zero, Act.put, List.setIfInBounds_toArray, List.set_cons_zero, List.set_cons_succ]
              refine wpAnyG_take' (i := 5) (v := ?v5_6N0bn) rfl (by kernel_rfl) (by kernel_rfl) (by kernel_rfl) (by kernel_rfl) (fun _ _ _ h => h) (Or.inl ⟨by rfl, ?hy5_6N0bn⟩) hS ?rest5_6N0bn
              case hy5_6N0bn => intro w hSw; (try dsimp only at hSw); go_simp; (try with_reducible rfl)
              case rest5_6N0bn =>
              try simp only [List.getElem_toArray, List.getElem_cons_succ, List.getElem_cons_zero, Act.put, List.setIfInBounds_toArray, List.set_cons_zero, List.set_cons_succ]
              refine wpAnyG_take' (i := 6) (v := ?v6_7N0bn) rfl (by kernel_rfl) (by kernel_rfl) (by kernel_rfl) (by kernel_rfl) (fun _ _ _ h => h) (Or.inl ⟨by rfl, ?hy6_7N0bn⟩) hS ?rest6_7N0bn
              case hy6_7N0bn => intro w hSw; (try dsimp only at hSw); go_simp; (try with_reducible rfl)
              case rest6_7N0bn =>
              try simp only [List.getElem_toArray, List.getElem_cons_succ, List.getElem_cons_zero, Act.put, List.setIfInBounds_toArray, List.set_cons_zero, List.set_cons_succ]
              refine wpAnyG_take' (i := 7) (v := ?v7_8N0bn) rfl (by kernel_rfl) (by kernel_rfl) (by kernel_rfl) (by kernel_rfl) (fun _ _ _ h => h) (Or.inl ⟨by rfl, ?hy7_8N0bn⟩) hS ?rest7_8N0bn
              case hy7_8N0bn => intro w hSw; (try dsimp only at hSw); go_simp; (try with_reducible rfl)
              case rest7_8N0bn =>
              try simp only [List.getElem_toArray, List.getElem_cons_succ, List.getElem_cons_zero, Act.put, List.setIfInBounds_toArray, List.set_cons_zero, List.set_cons_succ]
              refine wpAnyG_take' (i := 8) (v := ?v8_9N0bn) rfl (by kernel_rfl) (by kernel_rfl) (by kernel_rfl) (by kernel_rfl) (fun _ _ _ h => h) (Or.inl ⟨by rfl, ?hy8_9N0bn⟩) hS ?rest8_9N0bn
              case hy8_9N0bn => intro w hSw; (try dsimp only at hSw); go_simp; (try with_reducible rfl)
              case rest8_9N0bn =>
              try simp only [List.getElem_toArray, List.getElem_cons_succ, List.getElem_cons_zero, Act.put, List.setIfInBounds_toArray, List.set_cons_zero, List.set_cons_succ]
              refine wpAnyG_take' (i := 9) (v := ?v9_10N0bn) rfl (by kernel_rfl) (by kernel_rfl) (by kernel_rfl) (by kernel_rfl) (fun _ _ _ h => h) (Or.inl ⟨by rfl, ?hy9_10N0bn⟩) hS ?rest9_10N0bn
              case hy9_10N0bn => intro w hSw; (try dsimp only at hSw); go_simp; (try with_reducible rfl)
              case rest9_10N0bn =>
              try simp only [List.getElem_toArray, List.getElem_cons_succ, List.getElem_cons_zero, Act.put, List.setIfInBounds_toArray, List.set_cons_zero, List.set_cons_succ]
              refine wpAnyG_take' (i := 10) (v := ?v10_11N0bn) rfl (by kernel_rfl) (by kernel_rfl) (by kernel_rfl) (by kernel_rfl) (fun _ _ _ h => h) (Or.inl ⟨by rfl, ?hy10_11N0bn⟩) hS ?rest10_11N0bn
              case hy10_11N0bn => intro w hSw; (try dsimp only at hSw); go_simp; (try with_reducible rfl)
              case rest10_11N0bn =>
              try simp only [List.getElem_toArray, List.getElem_cons_succ, List.getElem_cons_zero, Act.put, List.setIfInBounds_toArray, List.set_cons_zero, List.set_cons_succ]
              refine wpAnyG_take' (i := 11) (v := ?v11_12N0bn) rfl (by kernel_rfl) (by kernel_rfl) (by kernel_rfl) (by kernel_rfl) (fun _ _ _ h => h) (Or.inl ⟨by rfl, ?hy11_12N0bn⟩) hS ?rest11_12N0bn
              case hy11_12N0bn => intro w hSw; (try dsimp only at hSw); go_simp; (try with_reducible rfl)
              case rest11_12N0bn =>
              try simp only [List.getElem_toArray, List.getElem_cons_succ, List.getElem_cons_zero, Act.put, List.setIfInBounds_toArray, List.set_cons_zero, List.set_cons_succ]
              refine wpAnyG_take' (i := 12) (v := ?v12_13N0bn) rfl (by kernel_rfl) (by kernel_rfl) (by kernel_rfl) (by kernel_rfl) (fun _ _ _ h => h) (Or.inl ⟨by rfl, ?hy12_13N0bn⟩) hS ?rest12_13N0bn
              case hy12_13N0bn => intro w hSw; (try dsimp only at hSw); go_simp; (try with_reducible rfl)
              case rest12_13N0bn =>
              try simp only [List.getElem_toArray, List.getElem_cons_succ, List.getElem_cons_zero, Act.put, List.setIfInBounds_toArray, List.set_cons_zero, List.set_cons_succ]
              refine wpAnyG_take' (i := 13) (v := ?v13_14N0bn) rfl (by kernel_rfl) (by kernel_rfl) (by kernel_rfl) (by kernel_rfl) (fun _ _ _ h => h) (Or.inl ⟨by rfl, ?hy13_14N0bn⟩) hS ?rest13_14N0bn
              case hy13_14N0bn => intro w hSw; (try dsimp only at hSw); go_simp; (try with_reducible rfl)
              case rest13_14N0bn =>
              try simp only [List.getElem_toArray, List.getElem_cons_succ, List.getElem_cons_zero, Act.put, List.setIfInBounds_toArray, List.set_cons_zero, List.set_cons_succ]
              refine wpAnyG_take' (i := 14) (v := ?v14_15N0bn) rfl (by kernel_rfl) (by kernel_rfl) (by kernel_rfl) (by kernel_rfl) (fun _ _ _ h => h) (Or.inl ⟨by rfl, ?hy14_15N0bn⟩) hS ?rest14_15N0bn
              case hy14_15N0bn => intro w hSw; (try dsimp only at hSw); go_simp; (try with_reducible rfl)
              case rest14_15N0bn =>
              try simp only [List.getElem_toArray, List.getElem_cons_succ, List.getElem_cons_zero, Act.put, List.setIfInBounds_toArray, List.set_cons_zero, List.set_cons_succ]
              refine wpAnyG_take' (i := 15) (v := ?v15_16N0bn) rfl (by kernel_rfl) (by kernel_rfl) (by kernel_rfl) (by kernel_rfl) (fun _ _ _ h => h) (Or.inl ⟨by rfl, ?hy15_16N0bn⟩) hS ?rest15_16N0bn
              case hy15_16N0bn => intro w hSw; (try dsimp only at hSw); go_simp; (try with_reducible rfl)
              case rest15_16N0bn =>
              try simp only [List.getElem_toArray, List.getElem_cons_succ, List.getElem_cons_zero, Act.put, List.setIfInBounds_toArray, List.set_cons_zero, List.set_cons_succ]
              refine wpAnyG_take' (i := 16) (v := ?v16_17N0bn) rfl (by kernel_rfl) (by kernel_rfl) (by kernel_rfl) (by kernel_rfl) (fun _ _ _ h => h) (Or.inl ⟨by rfl, ?hy16_17N0bn⟩) hS ?rest16_17N0bn
              case hy16_17N0bn => intro w hSw; (try dsimp only at hSw); go_simp; (try with_reducible rfl)
              case rest16_17N0bn =>
              try simp only [List.getElem_toArray, List.getElem_cons_succ, List.getElem_cons_zero, Act.put, List.setIfInBounds_toArray, List.set_cons_zero, List.set_cons_succ]
              refine wpAnyG_take' (i := 17) (v := ?v17_18N0bn) rfl (by kernel_rfl) (by kernel_rfl) (by kernel_rfl) (by kernel_rfl) (fun _ _ _ h => h) (Or.inl ⟨by rfl, ?hy17_18N0bn⟩) hS ?rest17_18N0bn
              case hy17_18N0bn => intro w hSw; (try dsimp only at hSw); go_simp; (try with_reducible rfl)
              case rest17_18N0bn =>
              try simp only [List.getElem_toArray, List.getElem_cons_succ, List.getElem_cons_zero, Act.put, List.setIfInBounds_toArray, List.set_cons_zero, List.set_cons_succ]
              refine wpAnyG_take' (i := 18) (v := ?v18_19N0bn) rfl (by kernel_rfl) (by kernel_rfl) (by kernel_rfl) (by kernel_rfl) (fun _ _ _ h => h) (Or.inl ⟨by rfl, ?hy18_19N0bn⟩) hS ?rest18_19N0bn
              case hy18_19N0bn => intro w hSw; (try dsimp only at hSw); go_simp; (try with_reducible rfl)
              case rest18_19N0bn =>
              try simp only [List.getElem_toArray, List.getElem_cons_succ, List.getElem_cons_zero, Act.put, List.setIfInBounds_toArray, List.set_cons_zero, List.set_cons_succ]
              refine wpAnyG_take' (i := 19) (v := ?v19_20N0bn) rfl (by kernel_rfl) (by kernel_rfl) (by kernel_rfl) (by kernel_rfl) (fun _ _ _ h => h) (Or.inl ⟨by rfl, ?hy19_20N0bn⟩) hS ?rest19_20N0bn
              case hy19_20N0bn => intro w hSw; (try dsimp only at hSw); go_simp; (try with_reducible rfl)
              case rest19_20N0bn =>
              try simp only [List.getElem_toArray, List.getElem_cons_succ, List.getElem_cons_zero, Act.put, List.setIfInBounds_toArray, List.set_cons_zero, List.set_cons_succ]
              refine wpAnyG_take' (i := 20) (v := ?v20_21N0bn) rfl (by kernel_rfl) (by kernel_rfl) (by kernel_rfl) (by kernel_rfl) (fun _ _ _ h => h) (Or.inl ⟨by rfl, ?hy20_21N0bn⟩) hS ?rest20_21N0bn
              case hy20_21N0bn => intro w hSw; (try dsimp only at hSw); go_simp; (try with_reducible rfl)
              case rest20_21N0bn =>
              try simp only [List.getElem_toArray, List.getElem_cons_succ, List.getElem_cons_zero, Act.put, List.setIfInBounds_toArray, List.set_cons_zero, List.set_cons_succ]
              refine wpAnyG_take' (i := 21) (v := ?v21_22N0bn) rfl (by kernel_rfl) (by kernel_rfl) (by kernel_rfl) (by kernel_rfl) (fun _ _ _ h => h) (Or.inl ⟨by rfl, ?hy21_22N0bn⟩) hS ?rest21_22N0bn
              case hy21_22N0bn => intro w hSw; (try dsimp only at hSw); go_simp; (try with_reducible rfl)
              case rest21_22N0bn =>
              try simp only [List.getElem_toArray, List.getElem_cons_succ, List.getElem_cons_zero, Act.put, List.setIfInBounds_toArray, List.set_cons_zero, List.set_cons_succ]
              refine wpAnyG_done (by kernel_rfl) ?_ _
              try simp only [List.getElem_toArray, List.getElem_cons_succ, List.getElem_cons_zero, Act.put, List.setIfInBounds_toArray, List.set_cons_zero, List.set_cons_succ]
              clear hS
              (try dsimp only); repeat' (first | go_values | go_skip | go_guarded | go_step | go_upon | go_back)
              refine HJ.out.mono ?_
              rintro r2 w7 ⟨rfl, h8⟩
              clear HJ y0 y1 y4 x0 x2 fz
              obtain ⟨y0, y1, -, -, -, -⟩ := cells6z (h8.pick [2] rfl : Sep w [Cl b7 _ _] _)
              by_cases hn1 : 1 < n0
              · have d3 : decide (1 < n0) = true := decide_eq_true hn1
                have hn1' := hn1
                clear hn1
                have hj := judge_any i (n0 - 1) h8 HO.out.len
                rw [judge_had HO.out.len HI.out HSN.out rfl, if_neg (by (try dsimp only); omega), if_neg (by (try dsimp only); omega)] at hj
                have HJ := Lib.hid hj
                clear h8 hj
                (try dsimp only); repeat' (first | go_values | go_skip | go_guarded | go_step | go_upon | go_back)
                refine HJ.out.mono ?_
                rintro r3 w8 ⟨rfl, h8⟩
                clear HJ y0 y1
                obtain ⟨y0, y1, -, -, -, -⟩ := cells6z (h8.pick [2] rfl : Sep w [Cl b7 _ _] _)
                have hj := judge_any i (n0 + 1) h8 HO.out.len
                rw [judge_had HO.out.len HI.out HSN.out rfl, if_pos (by (try dsimp only); omega)] at hj
                have HJ := Lib.hid hj
                clear h8 hj
                (try dsimp only); repeat' (first | go_values | go_skip | go_guarded | go_step | go_upon | go_back)
                refine HJ.out.mono ?_
                rintro r4 w9 ⟨rfl, h8⟩
                clear HJ y0 y1
                have hl := len_any h8 HO.out.len
                rw [HCNT.out] at hl
                have HL := Lib.hid hl
                clear h8 hl
                (try dsimp only); repeat' (first | go_values | go_skip | go_guarded | go_step | go_upon | go_back)
                refine HL.out.mono ?_
                rintro r5 w10 ⟨rfl, h8⟩
                have H8 := Lib.hid (h8.pick [3, 0] rfl : Sep w [Cl b4 (hadCs Tn) 62, TabT g Tn] w10)
                clear HL h8
                (try dsimp only); repeat' (first | go_values | go_skip | go_guarded | go_step | go_upon | go_back)
                go_roundw
                case rel => exact ⟨k + 1, Tn, by have := HG.out.1; omega, by have := HG.out.2; omega, by rw [HCNT.out]; go_num, by go_num, HO.out, H8.out⟩
                case measure => have := HG.out.2; simp [intOf]; omega
              · have d3 : decide (1 < n0) = false := decide_eq_false hn1
                clear hn1
                have hj := judge_any i (n0 + 1) h8 HO.out.len
                rw [judge_had HO.out.len HI.out HSN.out rfl, if_pos (by (try dsimp only); omega)] at hj
                have HJ := Lib.hid hj
                clear h8 hj
                (try dsimp only); repeat' (first | go_values | go_skip | go_guarded | go_step | go_upon | go_back)
                refine HJ.out.mono ?_
                rintro r4 w9 ⟨rfl, h8⟩
                clear HJ y0 y1
                have hl := len_any h8 HO.out.len
                rw [HCNT.out] at hl
                have HL := Lib.hid hl
                clear h8 hl
                (try dsimp only); repeat' (first | go_values | go_skip | go_guarded | go_step | go_upon | go_back)
                refine HL.out.mono ?_
                rintro r5 w10 ⟨rfl, h8⟩
                have H8 := Lib.hid (h8.pick [3, 0] rfl : Sep w [Cl b4 (hadCs Tn) 62, TabT g Tn] w10)
                clear HL h8
                (try dsimp only); repeat' (first | go_values | go_skip | go_guarded | go_step | go_upon | go_back)
                go_roundw
                case rel => exact ⟨k + 1, Tn, by have := HG.out.1; omega, by have := HG.out.2; omega, by rw [HCNT.out]; go_num, by go_num, HO.out, H8.out⟩
                case measure => have := HG.out.2; simp [intOf]; omega
        | true =>
          by_cases hlt : s.n < n0
          · as_aux_lemma =>
              have h5 := h4.alloc (.cells #[.int .i64 i, .int .i64 n0, .int .i64 so, .int .i64 sk, .int .i64 sa, .int .i64 sb] 31)
              have f1 := (h4.alloc (.cells #[.int .i64 i, .int .i64 n0, .int .i64 so, .int .i64 sk, .int .i64 sa, .int .i64 sb] 31)).low
              have g1 := HQ.out 1 _ rfl _ f1
              have g2 := HQ.out 1 _ rfl _ h5.low
              have hpt := put_new i n0 so sk sa sb (h5.pick [2, 0, 1] rfl : Sep w [TabT g T, Cl _ #[.int .i64 i, .int .i64 n0, .int .i64 so, .int .i64 sk, .int .i64 sa, .int .i64 sb] 31, Cl b4 (hadCs T) 62] _) HT.out.1.len s HS.out (HC.out n0 z1 z2) (by rw [judge_had HT.out.1.len HI.out HS.out hhad, if_pos hlt])
              rw [hhad] at hpt
              have HP := Lib.hid hpt
              obtain ⟨b7, hb7⟩ : ∃ z, z = w4.heap.size := ⟨_, rfl⟩
              obtain ⟨w5, hw5⟩ : ∃ z, z = w4.alloc (.cells #[.int .i64 i, .int .i64 n0, .int .i64 so, .int .i64 sk, .int .i64 sa, .int .i64 sb] 31) := ⟨_, rfl⟩
              clear h4 h5 f1 hpt
              (try dsimp only); repeat' (first | go_values | go_skip | go_guarded | go_step | go_upon | go_back)
              rw [← hw5, ← hb7]
              rw [← hw5, ← hb7] at HP
              clear hw5 hb7 g1 g2
              refine HP.out.mono ?_
              rintro r1 w6 ⟨rfl, h6⟩
              clear HP
              have h7 := h6.alloc (.cells #[.bool true, .int .i64 s.c, .int .i64 s.n, .int .i64 s.o, .int .i64 s.k, .int .i64 s.a, .int .i64 s.b] 33)
              obtain ⟨Tn, hTn⟩ : ∃ z, z = T.set i ⟨true, (i : Int), n0, so, sk, sa, sb⟩ := ⟨_, rfl⟩
              rw [← hTn] at h7
              obtain ⟨x0, -, x2, -, -, -, -⟩ := cells7z h7
              obtain ⟨y0, y1, -, -, -, -⟩ := cells6z (h7.pick [2] rfl : Sep w [Cl b7 _ _] _)
              have y4 := (h7.pick [3] rfl : Sep w [Cl b4 (hadCs T) 62] _).cell (hadCs_get T i s HS.out)
              have fz := (h7.pick [3] rfl : Sep w [Cl b4 (hadCs T) 62] _).frozen i
              have hiT : i < T.length := by rw [HT.out.1.len]; exact HI.out
              have hsT : T[i] = s := by obtain ⟨hi9, hs9⟩ := List.getElem?_eq_some_iff.1 HS.out; exact hs9
              have hsn := HT.out.1.had i hiT (by rw [hsT]; exact hhad)
              rw [hsT] at hsn
              have p1 : (s.n == 0) = false := beq_eq_false_iff_ne.2 (by omega)
              have p3 : decide (0 < s.n) = true := decide_eq_true (by omega)
              have p2 : decide (n0 ≤ s.n) = false := decide_eq_false (by omega)
              have hcnt : (seatsOf Tn).length = m := by rw [hTn, seats_set_had T i hiT _ (by rw [hsT]; exact hhad) rfl, HT.out.2]
              have hOn : OnceT Tn := by rw [hTn]; exact HT.out.1.put i hiT _ rfl z1 z2 (.inl (by rw [hsT]; exact hhad))
              have HCNT := Lib.hid hcnt
              clear hlt
              have HO := Lib.hid hOn
              have HSN : Hid (Tn[i]? = some (⟨true, (i : Int), n0, so, sk, sa, sb⟩ : SW)) := Lib.hid (by rw [hTn, List.getElem?_set_self hiT])
              have hbb := cl_ne (h7.pick [3, 2] rfl : Sep w [Cl b4 (hadCs T) 62, Cl b7 _ _] _)
              have hbb2 : (b4 == b7) = false := beq_eq_false_iff_ne.2 hbb
              have hbb3 := hbb.symm
              have hbb4 : (b7 == b4) = false := beq_eq_false_iff_ne.2 hbb3
              have h8 := ((h7.pick [3, 0, 1, 2] rfl : Sep w [Cl b4 (hadCs T) 62, Cl _ _ _, TabT g Tn, Cl b7 _ _] _).setCell i (.int .i64 n0))
              have hcs := hadCs_set T i (⟨true, (i : Int), n0, so, sk, sa, sb⟩ : SW)
              dsimp only at hcs
              rw [hcs, ← hTn] at h8
              have h8 := (h8.drew.drew.pick [2, 1, 3, 0] rfl : Sep w [TabT g Tn, Cl _ _ _, Cl b7 _ _, Cl b4 (hadCs Tn) 62] _)
              clear h6 h7 hhad hsn hsT hiT hTn hcnt hOn hcs
              have hj := judge_any i (n0) h8 HO.out.len
              rw [judge_had HO.out.len HI.out HSN.out rfl, if_neg (Int.lt_irrefl _), if_pos rfl] at hj
              have HJ := Lib.hid hj
              clear h8 hj
              (try dsimp only); repeat' (first | go_values | go_skip | go_guarded | go_step | go_upon | go_back)
              refine wp_region_G (fun w' => w'.cell? ⟨b7, 0, none⟩ = some (.int .i64 i) ∧ w'.cell? ⟨b7, 1, none⟩ = some (.int .i64 n0) ∧ w'.cell? ⟨b4, i, none⟩ = some (.int .i64 s.n)) [] (by kernel_rfl) ⟨y0, y1, y4⟩ (fun hS => ?_)
              try dsimp only at hS
              refine wpAnyG_take' (i := 0) (v := ?v0_1N1an) rfl (by kernel_rfl) (by kernel_rfl) (by kernel_rfl) (by kernel_rfl) (fun _ _ _ h => h) (Or.inl ⟨by rfl, ?hy0_1N1an⟩) hS ?rest0_1N1an
              case hy0_1N1an => intro w hSw; (try dsimp only at hSw); go_simp; (try with_reducible rfl)
              case rest0_1N1an =>
              try simp only [List.getElem_toArray, List.getElem_cons_succ, List.getElem_cons_zero, Act.put, List.setIfInBounds_toArray, List.set_cons_zero, List.set_cons_succ]
              refine wpAnyG_take' (i := 1) (v := ?v1_2N1an) rfl (by kernel_rfl) (by kernel_rfl) (by kernel_rfl) (by kernel_rfl) (fun _ _ _ h => h) (Or.inl ⟨by rfl, ?hy1_2N1an⟩) hS ?rest1_2N1an
              case hy1_2N1an => intro w hSw; (try dsimp only at hSw); go_simp; (try with_reducible rfl)
              case rest1_2N1an =>
              try simp only [List.getElem_toArray, List.getElem_cons_succ, List.getElem_cons_zero, Act.put, List.setIfInBounds_toArray, List.set_cons_zero, List.set_cons_succ]
              refine wpAnyG_take' (i := 2) (v := ?v2_3N1an) rfl (by kernel_rfl) (by kernel_rfl) (by kernel_rfl) (by kernel_rfl) (fun _ _ _ h => h) (Or.inl ⟨by rfl, ?hy2_3N1an⟩) hS ?rest2_3N1an
              case hy2_3N1an => intro w hSw; (try dsimp only at hSw); go_simp; (try with_reducible rfl)
              case rest2_3N1an =>
              try simp only [List.getElem_toArray, List.getElem_cons_succ, List.getElem_cons_zero, Act.put, List.setIfInBounds_toArray, List.set_cons_zero, List.set_cons_succ]
              refine wpAnyG_take' (i := 3) (v := ?v3_4N1an) rfl (by kernel_rfl) (by kernel_rfl) (by kernel_rfl) (by kernel_rfl) (fun _ _ _ h => h) (Or.inl ⟨by rfl, ?hy3_4N1an⟩) hS ?rest3_4N1an
              case hy3_4N1an => intro w hSw; (try dsimp only at hSw); go_simp; (try with_reducible rfl)
              case rest3_4N1an =>
              try simp only [List.getElem_toArray, List.getElem_cons_succ, List.getElem_cons_zero, Act.put, List.setIfInBounds_toArray, List.set_cons_zero, List.set_cons_succ]
              refine wpAnyG_take' (i := 4) (v := ?v4_5N1an) rfl (by kernel_rfl) (by kernel_rfl) (by kernel_rfl) (by kernel_rfl) (fun _ _ _ h => h) (Or.inl ⟨by rfl, ?hy4_5N1an⟩) hS ?rest4_5N1an
              case hy4_5N1an => intro w hSw; (try dsimp only at hSw); go_simp; (try with_reducible rfl)
              case rest4_5N1an =>
              try simp only [List.getElem_toArray, List.getElem_cons_succ, List.getElem_cons_zero, Act.put, List.setIfInBounds_toArray, List.set_cons_zero, List.set_cons_succ]
              refine wpAnyG_take' (i := 5) (v := ?v5_6N1an) rfl (by kernel_rfl) (by kernel_rfl) (by kernel_rfl) (by kernel_rfl) (fun _ _ _ h => h) (Or.inl ⟨by rfl, ?hy5_6N1an⟩) hS ?rest5_6N1an
              case hy5_6N1an => intro w hSw; (try dsimp only at hSw); go_simp; (try with_reducible rfl)
              case rest5_6N1an =>
              try simp only [List.getElem_toArray, List.getElem_cons_succ, List.getElem_cons_zero, Act.put, List.setIfInBounds_toArray, List.set_cons_zero, List.set_cons_succ]
              refine wpAnyG_take' (i := 6) (v := ?v6_7N1an) rfl (by kernel_rfl) (by kernel_rfl) (by kernel_rfl) (by kernel_rfl) (fun _ _ _ h => h) (Or.inl ⟨by rfl, ?hy6_7N1an⟩) hS ?rest6_7N1an
              case hy6_7N1an => intro w hSw; (try dsimp only at hSw); go_simp; (try with_reducible rfl)
              case rest6_7N1an =>
              try simp only [List.getElem_toArray, List.getElem_cons_succ, List.getElem_cons_zero, Act.put, List.setIfInBounds_toArray, List.set_cons_zero, List.set_cons_succ]
              refine wpAnyG_take' (i := 7) (v := ?v7_8N1an) rfl (by kernel_rfl) (by kernel_rfl) (by kernel_rfl) (by kernel_rfl) (fun _ _ _ h => h) (Or.inl ⟨by rfl, ?hy7_8N1an⟩) hS ?rest7_8N1an
              case hy7_8N1an => intro w hSw; (try dsimp only at hSw); go_simp; (try with_reducible rfl)
              case rest7_8N1an =>
              try simp only [List.getElem_toArray, List.getElem_cons_succ, List.getElem_cons_zero, Act.put, List.setIfInBounds_toArray, List.set_cons_zero, List.set_cons_succ]
              refine wpAnyG_done (by kernel_rfl) ?_ _
              try simp only [List.getElem_toArray, List.getElem_cons_succ, List.getElem_cons_zero, Act.put, List.setIfInBounds_toArray, List.set_cons_zero, List.set_cons_succ]
              clear hS
              (try dsimp only); repeat' (first | go_values | go_skip | go_guarded | go_step | go_upon | go_back)
              refine wp_region_G (fun w' => w'.cell? ⟨b7, 0, none⟩ = some (.int .i64 i) ∧ w'.cell? ⟨b4, i, none⟩ = some (.int .i64 s.n) ∧ w'.cell? ⟨w6.heap.size, 0, none⟩ = some (.bool true) ∧ w'.cell? ⟨w6.heap.size, 2, none⟩ = some (.int .i64 s.n)) [] (by kernel_rfl) ⟨y0, y4, x0, x2⟩ (fun hS => ?_)
              try dsimp only at hS
              refine wpAnyG_take' (i := 0) (v := ?v0_1N1bn) rfl (by kernel_rfl) (by kernel_rfl) (by kernel_rfl) (by kernel_rfl) (fun _ _ _ h => h) (Or.inl ⟨by rfl, ?hy0_1N1bn⟩) hS ?rest0_1N1bn
              case hy0_1N1bn => intro w hSw; (try dsimp only at hSw); go_simp; (try with_reducible rfl)
              case rest0_1N1bn =>
              try simp only [List.getElem_toArray, List.getElem_cons_succ, List.getElem_cons_zero, Act.put, List.setIfInBounds_toArray, List.set_cons_zero, List.set_cons_succ]
              refine wpAnyG_take' (i := 1) (v := ?v1_2N1bn) rfl (by kernel_rfl) (by kernel_rfl) (by kernel_rfl) (by kernel_rfl) (fun _ _ _ h => h) (Or.inl ⟨by rfl, ?hy1_2N1bn⟩) hS ?rest1_2N1bn
              case hy1_2N1bn => intro w hSw; (try dsimp only at hSw); go_simp; (try with_reducible rfl)
              case rest1_2N1bn =>
              try simp only [List.getElem_toArray, List.getElem_cons_succ, List.getElem_cons_zero, Act.put, List.setIfInBounds_toArray, List.set_cons_zero, List.set_cons_succ]
              refine wpAnyG_take' (i := 2) (v := ?v2_3N1bn) rfl (by kernel_rfl) (by kernel_rfl) (by kernel_rfl) (by kernel_rfl) (fun _ _ _ h => h) (Or.inl ⟨by rfl, ?hy2_3N1bn⟩) hS ?rest2_3N1bn
              case hy2_3N1bn => intro w hSw; (try dsimp only at hSw); go_simp; (try with_reducible rfl)
              case rest2_3N1bn =>
              try simp only [List.getElem_toArray, List.getElem_cons_succ, List.getElem_cons_zero, Act.put, List.setIfInBounds_toArray, List.set_cons_zero, List.set_cons_succ]
              refine wpAnyG_take' (i := 3) (v := ?v3_4N1bn) rfl (by kernel_rfl) (by kernel_rfl) (by kernel_rfl) (by kernel_rfl) (fun _ _ _ h => h) (Or.inl ⟨by rfl, ?hy3_4N1bn⟩) hS ?rest3_4N1bn
              case hy3_4N1bn => intro w hSw; (try dsimp only at hSw); go_simp; (try with_reducible rfl)
              case rest3_4N1bn =>
              try simp only [List.getElem_toArray, List.getElem_cons_succ, List.getElem_cons_zero, Act.put, List.setIfInBounds_toArray, List.set_cons_zero, List.set_cons_succ]
              refine wpAnyG_take' (i := 4) (v := ?v4_5N1bn) rfl (by kernel_rfl) (by kernel_rfl) (by kernel_rfl) (by kernel_rfl) (fun _ _ _ h => h) (Or.inl ⟨by rfl, ?hy4_5N1bn⟩) hS ?rest4_5N1bn
              case hy4_5N1bn => intro w hSw; (try dsimp only at hSw); go_simp; (try with_reducible rfl)
              case rest4_5N1bn =>
              try simp only [List.getElem_toArray, List.getElem_cons_succ, List.getElem_cons_zero, Act.put, List.setIfInBounds_toArray, List.set_cons_zero, List.set_cons_succ]
              refine wpAnyG_take' (i := 5) (v := ?v5_6N1bn) rfl (by kernel_rfl) (by kernel_rfl) (by kernel_rfl) (by kernel_rfl) (fun _ _ _ h => h) (Or.inl ⟨by rfl, ?hy5_6N1bn⟩) hS ?rest5_6N1bn
              case hy5_6N1bn => intro w hSw; (try dsimp only at hSw); go_simp; (try with_reducible rfl)
              case rest5_6N1bn =>
              try simp only [List.getElem_toArray, List.getElem_cons_succ, List.getElem_cons_zero, Act.put, List.setIfInBounds_toArray, List.set_cons_zero, List.set_cons_succ]
              refine wpAnyG_take' (i := 6) (v := ?v6_7N1bn) rfl (by kernel_rfl) (by kernel_rfl) (by kernel_rfl) (by kernel_rfl) (fun _ _ _ h => h) (Or.inl ⟨by rfl, ?hy6_7N1bn⟩) hS ?rest6_7N1bn
              case hy6_7N1bn => intro w hSw; (try dsimp only at hSw); go_simp; (try with_reducible rfl)
              case rest6_7N1bn =>
              try simp only [List.getElem_toArray, List.getElem_cons_succ, List.getElem_cons_zero, Act.put, List.setIfInBounds_toArray, List.set_cons_zero, List.set_cons_succ]
              refine wpAnyG_take' (i := 7) (v := ?v7_8N1bn) rfl (by kernel_rfl) (by kernel_rfl) (by kernel_rfl) (by kernel_rfl) (fun _ _ _ h => h) (Or.inl ⟨by rfl, ?hy7_8N1bn⟩) hS ?rest7_8N1bn
              case hy7_8N1bn => intro w hSw; (try dsimp only at hSw); go_simp; (try with_reducible rfl)
              case rest7_8N1bn =>
              try simp only [List.getElem_toArray, List.getElem_cons_succ, List.getElem_cons_zero, Act.put, List.setIfInBounds_toArray, List.set_cons_zero, List.set_cons_succ]
              refine wpAnyG_take' (i := 8) (v := ?v8_9N1bn) rfl (by kernel_rfl) (by kernel_rfl) (by kernel_rfl) (by kernel_rfl) (fun _ _ _ h => h) (Or.inl ⟨by rfl, ?hy8_9N1bn⟩) hS ?rest8_9N1bn
              case hy8_9N1bn => intro w hSw; (try dsimp only at hSw); go_simp; (try with_reducible rfl)
              case rest8_9N1bn =>
              try simp only [List.getElem_toArray, List.getElem_cons_succ, List.getElem_cons_zero, Act.put, List.setIfInBounds_toArray, List.set_cons_zero, List.set_cons_succ]
              refine wpAnyG_take' (i := 9) (v := ?v9_10N1bn) rfl (by kernel_rfl) (by kernel_rfl) (by kernel_rfl) (by kernel_rfl) (fun _ _ _ h => h) (Or.inl ⟨by rfl, ?hy9_10N1bn⟩) hS ?rest9_10N1bn
              case hy9_10N1bn => intro w hSw; (try dsimp only at hSw); go_simp; (try with_reducible rfl)
              case rest9_10N1bn =>
              try simp only [List.getElem_toArray, List.getElem_cons_succ, List.getElem_cons_zero, Act.put, List.setIfInBounds_toArray, List.set_cons_zero, List.set_cons_succ]
              refine wpAnyG_take' (i := 10) (v := ?v10_11N1bn) rfl (by kernel_rfl) (by kernel_rfl) (by kernel_rfl) (by kernel_rfl) (fun _ _ _ h => h) (Or.inl ⟨by rfl, ?hy10_11N1bn⟩) hS ?rest10_11N1bn
              case hy10_11N1bn => intro w hSw; (try dsimp only at hSw); go_simp; (try with_reducible rfl)
              case rest10_11N1bn =>
              try simp only [List.getElem_toArray, List.getElem_cons_succ, List.getElem_cons_zero, Act.put, List.setIfInBounds_toArray, List.set_cons_zero, List.set_cons_succ]
              refine wpAnyG_take' (i := 11) (v := ?v11_12N1bn) rfl (by kernel_rfl) (by kernel_rfl) (by kernel_rfl) (by kernel_rfl) (fun _ _ _ h => h) (Or.inl ⟨by rfl, ?hy11_12N1bn⟩) hS ?rest11_12N1bn
              case hy11_12N1bn => intro w hSw; (try dsimp only at hSw); go_simp; (try with_reducible rfl)
              case rest11_12N1bn =>
              try simp only [List.getElem_toArray, List.getElem_cons_succ, List.getElem_cons_zero, Act.put, List.setIfInBounds_toArray, List.set_cons_zero, List.set_cons_succ]
              refine wpAnyG_take' (i := 12) (v := ?v12_13N1bn) rfl (by kernel_rfl) (by kernel_rfl) (by kernel_rfl) (by kernel_rfl) (fun _ _ _ h => h) (Or.inl ⟨by rfl, ?hy12_13N1bn⟩) hS ?rest12_13N1bn
              case hy12_13N1bn => intro w hSw; (try dsimp only at hSw); go_simp; (try with_reducible rfl)
              case rest12_13N1bn =>
              try simp only [List.getElem_toArray, List.getElem_cons_succ, List.getElem_cons_zero, Act.put, List.setIfInBounds_toArray, List.set_cons_zero, List.set_cons_succ]
              refine wpAnyG_take' (i := 13) (v := ?v13_14N1bn) rfl (by kernel_rfl) (by kernel_rfl) (by kernel_rfl) (by kernel_rfl) (fun _ _ _ h => h) (Or.inl ⟨by rfl, ?hy13_14N1bn⟩) hS ?rest13_14N1bn
              case hy13_14N1bn => intro w hSw; (try dsimp only at hSw); go_simp; (try with_reducible rfl)
              case rest13_14N1bn =>
              try simp only [List.getElem_toArray, List.getElem_cons_succ, List.getElem_cons_zero, Act.put, List.setIfInBounds_toArray, List.set_cons_zero, List.set_cons_succ]
              refine wpAnyG_take' (i := 14) (v := ?v14_15N1bn) rfl (by kernel_rfl) (by kernel_rfl) (by kernel_rfl) (by kernel_rfl) (fun _ _ _ h => h) (Or.inl ⟨by rfl, ?hy14_15N1bn⟩) hS ?rest14_15N1bn
              case hy14_15N1bn => intro w hSw; (try dsimp only at hSw); go_simp; (try with_reducible rfl)
              case rest14_15N1bn =>
              try simp only [List.getElem_toArray, List.getElem_cons_succ, List.getElem_cons_zero, Act.put, List.setIfInBounds_toArray, List.set_cons_zero, List.set_cons_succ]
              refine wpAnyG_take' (i := 15) (v := ?v15_16N1bn) rfl (by kernel_rfl) (by kernel_rfl) (by kernel_rfl) (by kernel_rfl) (fun _ _ _ h => h) (Or.inl ⟨by rfl, ?hy15_16N1bn⟩) hS ?rest15_16N1bn
              case hy15_16N1bn => intro w hSw; (try dsimp only at hSw); go_simp; (try with_reducible rfl)
              case rest15_16N1bn =>
              try simp only [List.getElem_toArray, List.getElem_cons_succ, List.getElem_cons_zero, Act.put, List.setIfInBounds_toArray, List.set_cons_zero, List.set_cons_succ]
              refine wpAnyG_take' (i := 16) (v := ?v16_17N1bn) rfl (by kernel_rfl) (by kernel_rfl) (by kernel_rfl) (by kernel_rfl) (fun _ _ _ h => h) (Or.inl ⟨by rfl, ?hy16_17N1bn⟩) hS ?rest16_17N1bn
              case hy16_17N1bn => intro w hSw; (try dsimp only at hSw); go_simp; (try with_reducible rfl)
              case rest16_17N1bn =>
              try simp only [List.getElem_toArray, List.getElem_cons_succ, List.getElem_cons_zero, Act.put, List.setIfInBounds_toArray, List.set_cons_zero, List.set_cons_succ]
              refine wpAnyG_take' (i := 17) (v := ?v17_18N1bn) rfl (by kernel_rfl) (by kernel_rfl) (by kernel_rfl) (by kernel_rfl) (fun _ _ _ h => h) (Or.inl ⟨by rfl, ?hy17_18N1bn⟩) hS ?rest17_18N1bn
              case hy17_18N1bn => intro w hSw; (try dsimp only at hSw); go_simp; (try with_reducible rfl)
              case rest17_18N1bn =>
              try simp only [List.getElem_toArray, List.getElem_cons_succ, List.getElem_cons_zero, Act.put, List.setIfInBounds_toArray, List.set_cons_zero, List.set_cons_succ]
              refine wpAnyG_take' (i := 18) (v := ?v18_19N1bn) rfl (by kernel_rfl) (by kernel_rfl) (by kernel_rfl) (by kernel_rfl) (fun _ _ _ h => h) (Or.inl ⟨by rfl, ?hy18_19N1bn⟩) hS ?rest18_19N1bn
              case hy18_19N1bn => intro w hSw; (try dsimp only at hSw); go_simp; (try with_reducible rfl)
              case rest18_19N1bn =>
              try simp only [List.getElem_toArray, List.getElem_cons_succ, List.getElem_cons_zero, Act.put, List.setIfInBounds_toArray, List.set_cons_zero, List.set_cons_succ]
              refine wpAnyG_take' (i := 19) (v := ?v19_20N1bn) rfl (by kernel_rfl) (by kernel_rfl) (by kernel_rfl) (by kernel_rfl) (fun _ _ _ h => h) (Or.inl ⟨by rfl, ?hy19_20N1bn⟩) hS ?rest19_20N1bn
              case hy19_20N1bn => intro w hSw; (try dsimp only at hSw); go_simp; (try with_reducible rfl)
              case rest19_20N1bn =>
              try simp only [List.getElem_toArray, List.getElem_cons_succ, List.getElem_cons_zero, Act.put, List.setIfInBounds_toArray, List.set_cons_zero, List.set_cons_succ]
              refine wpAnyG_take' (i := 20) (v := ?v20_21N1bn) rfl (by kernel_rfl) (by kernel_rfl) (by kernel_rfl) (by kernel_rfl) (fun _ _ _ h => h) (Or.inl ⟨by rfl, ?hy20_21N1bn⟩) hS ?rest20_21N1bn
              case hy20_21N1bn => intro w hSw; (try dsimp only at hSw); go_simp; (try with_reducible rfl)
              case rest20_21N1bn =>
              try simp only [List.getElem_toArray, List.getElem_cons_succ, List.getElem_cons_zero, Act.put, List.setIfInBounds_toArray, List.set_cons_zero, List.set_cons_succ]
              refine wpAnyG_take' (i := 21) (v := ?v21_22N1bn) rfl (by kernel_rfl) (by kernel_rfl) (by kernel_rfl) (by kernel_rfl) (fun _ _ _ h => h) (Or.inl ⟨by rfl, ?hy21_22N1bn⟩) hS ?rest21_22N1bn
              case hy21_22N1bn => intro w hSw; (try dsimp only at hSw); go_simp; (try with_reducible rfl)
              case rest21_22N1bn =>
              try simp only [List.getElem_toArray, List.getElem_cons_succ, List.getElem_cons_zero, Act.put, List.setIfInBounds_toArray, List.set_cons_zero, List.set_cons_succ]
              refine wpAnyG_done (by kernel_rfl) ?_ _
              try simp only [List.getElem_toArray, List.getElem_cons_succ, List.getElem_cons_zero, Act.put, List.setIfInBounds_toArray, List.set_cons_zero, List.set_cons_succ]
              clear hS
              (try dsimp only); repeat' (first | go_values | go_skip | go_guarded | go_step | go_upon | go_back)
              refine HJ.out.mono ?_
              rintro r2 w7 ⟨rfl, h8⟩
              clear HJ y0 y1 y4 x0 x2 fz
              obtain ⟨y0, y1, -, -, -, -⟩ := cells6z (h8.pick [2] rfl : Sep w [Cl b7 _ _] _)
              by_cases hn1 : 1 < n0
              · have d3 : decide (1 < n0) = true := decide_eq_true hn1
                have hn1' := hn1
                clear hn1
                have hj := judge_any i (n0 - 1) h8 HO.out.len
                rw [judge_had HO.out.len HI.out HSN.out rfl, if_neg (by (try dsimp only); omega), if_neg (by (try dsimp only); omega)] at hj
                have HJ := Lib.hid hj
                clear h8 hj
                (try dsimp only); repeat' (first | go_values | go_skip | go_guarded | go_step | go_upon | go_back)
                refine HJ.out.mono ?_
                rintro r3 w8 ⟨rfl, h8⟩
                clear HJ y0 y1
                obtain ⟨y0, y1, -, -, -, -⟩ := cells6z (h8.pick [2] rfl : Sep w [Cl b7 _ _] _)
                have hj := judge_any i (n0 + 1) h8 HO.out.len
                rw [judge_had HO.out.len HI.out HSN.out rfl, if_pos (by (try dsimp only); omega)] at hj
                have HJ := Lib.hid hj
                clear h8 hj
                (try dsimp only); repeat' (first | go_values | go_skip | go_guarded | go_step | go_upon | go_back)
                refine HJ.out.mono ?_
                rintro r4 w9 ⟨rfl, h8⟩
                clear HJ y0 y1
                have hl := len_any h8 HO.out.len
                rw [HCNT.out] at hl
                have HL := Lib.hid hl
                clear h8 hl
                (try dsimp only); repeat' (first | go_values | go_skip | go_guarded | go_step | go_upon | go_back)
                refine HL.out.mono ?_
                rintro r5 w10 ⟨rfl, h8⟩
                have H8 := Lib.hid (h8.pick [3, 0] rfl : Sep w [Cl b4 (hadCs Tn) 62, TabT g Tn] w10)
                clear HL h8
                (try dsimp only); repeat' (first | go_values | go_skip | go_guarded | go_step | go_upon | go_back)
                go_roundw
                case rel => exact ⟨k + 1, Tn, by have := HG.out.1; omega, by have := HG.out.2; omega, by rw [HCNT.out], by go_num, HO.out, H8.out⟩
                case measure => have := HG.out.2; simp [intOf]; omega
              · have d3 : decide (1 < n0) = false := decide_eq_false hn1
                clear hn1
                have hj := judge_any i (n0 + 1) h8 HO.out.len
                rw [judge_had HO.out.len HI.out HSN.out rfl, if_pos (by (try dsimp only); omega)] at hj
                have HJ := Lib.hid hj
                clear h8 hj
                (try dsimp only); repeat' (first | go_values | go_skip | go_guarded | go_step | go_upon | go_back)
                refine HJ.out.mono ?_
                rintro r4 w9 ⟨rfl, h8⟩
                clear HJ y0 y1
                have hl := len_any h8 HO.out.len
                rw [HCNT.out] at hl
                have HL := Lib.hid hl
                clear h8 hl
                (try dsimp only); repeat' (first | go_values | go_skip | go_guarded | go_step | go_upon | go_back)
                refine HL.out.mono ?_
                rintro r5 w10 ⟨rfl, h8⟩
                have H8 := Lib.hid (h8.pick [3, 0] rfl : Sep w [Cl b4 (hadCs Tn) 62, TabT g Tn] w10)
                clear HL h8
                (try dsimp only); repeat' (first | go_values | go_skip | go_guarded | go_step | go_upon | go_back)
                go_roundw
                case rel => exact ⟨k + 1, Tn, by have := HG.out.1; omega, by have := HG.out.2; omega, by rw [HCNT.out], by go_num, HO.out, H8.out⟩
                case measure => have := HG.out.2; simp [intOf]; omega
          · as_aux_lemma =>
              have h5 := h4.alloc (.cells #[.int .i64 i, .int .i64 n0, .int .i64 so, .int .i64 sk, .int .i64 sa, .int .i64 sb] 31)
              have f1 := (h4.alloc (.cells #[.int .i64 i, .int .i64 n0, .int .i64 so, .int .i64 sk, .int .i64 sa, .int .i64 sb] 31)).low
              have g1 := HQ.out 1 _ rfl _ f1
              have g2 := HQ.out 1 _ rfl _ h5.low
              have hpt := put_rng i n0 so sk sa sb (h5.pick [2, 0, 1] rfl : Sep w [TabT g T, Cl _ #[.int .i64 i, .int .i64 n0, .int .i64 so, .int .i64 sk, .int .i64 sa, .int .i64 sb] 31, Cl b4 (hadCs T) 62] _) HT.out.1.len (HC.out n0 z1 z2) (by rw [judge_had HT.out.1.len HI.out HS.out hhad, if_neg (by omega)]; by_cases he : s.n = n0; (rw [if_pos he]; exact .inl rfl); (rw [if_neg he]; exact .inr rfl))
              have HP := Lib.hid hpt
              obtain ⟨b7, hb7⟩ : ∃ z, z = w4.heap.size := ⟨_, rfl⟩
              obtain ⟨w5, hw5⟩ : ∃ z, z = w4.alloc (.cells #[.int .i64 i, .int .i64 n0, .int .i64 so, .int .i64 sk, .int .i64 sa, .int .i64 sb] 31) := ⟨_, rfl⟩
              clear h4 h5 f1 hpt
              (try dsimp only); repeat' (first | go_values | go_skip | go_guarded | go_step | go_upon | go_back)
              rw [← hw5, ← hb7]
              rw [← hw5, ← hb7] at HP
              clear hw5 hb7 g1 g2
              refine HP.out.mono ?_
              rintro r1 w6 ⟨rfl, h6⟩
              clear HP
              have h7 := h6.alloc (.cells #[.bool false, .int .i64 0, .int .i64 0, .int .i64 0, .int .i64 0, .int .i64 0, .int .i64 0] 33)
              obtain ⟨y0, y1, -, -, -, -⟩ := cells6z (h7.pick [2] rfl : Sep w [Cl b7 _ _] _)
              have y4 := (h7.pick [3] rfl : Sep w [Cl b4 (hadCs T) 62] _).cell (hadCs_get T i s HS.out)
              have hsn : 1 ≤ s.n ∧ s.n ≤ 2147483647 := by
                obtain ⟨hi9, hs9⟩ := List.getElem?_eq_some_iff.1 HS.out
                rw [← hs9]; exact HT.out.1.had i hi9 (by rw [hs9]; exact hhad)
              obtain ⟨sn1, sn2⟩ := hsn
              have p1 : (s.n == 0) = false := beq_eq_false_iff_ne.2 (by omega)
              have p2 : decide (n0 ≤ s.n) = true := decide_eq_true (by omega)
              have HHAD := Lib.hid hhad
              have HM9 := Lib.hid HT.out.2.symm
              have h8 := (h7.drew.pick [1, 0, 2, 3] rfl : Sep w [TabT g T, Cl _ _ _, Cl b7 _ _, Cl b4 (hadCs T) 62] _)
              clear h6 h7 hhad hlt
              have hj := judge_any i (s.n) h8 HT.out.1.len
              rw [judge_had HT.out.1.len HI.out HS.out HHAD.out, if_neg (Int.lt_irrefl _), if_pos rfl] at hj
              have HJ := Lib.hid hj
              clear h8 hj
              (try dsimp only); repeat' (first | go_values | go_skip | go_guarded | go_step | go_upon | go_back)
              refine wp_region_G (fun w' => w'.cell? ⟨b7, 0, none⟩ = some (.int .i64 i) ∧ w'.cell? ⟨b7, 1, none⟩ = some (.int .i64 n0) ∧ w'.cell? ⟨b4, i, none⟩ = some (.int .i64 s.n)) [] (by kernel_rfl) ⟨y0, y1, y4⟩ (fun hS => ?_)
              try dsimp only at hS
              refine wpAnyG_take' (i := 0) (v := ?v0_1S21n) rfl (by kernel_rfl) (by kernel_rfl) (by kernel_rfl) (by kernel_rfl) (fun _ _ _ h => h) (Or.inl ⟨by rfl, ?hy0_1S21n⟩) hS ?rest0_1S21n
              case hy0_1S21n => intro w hSw; (try dsimp only at hSw); go_simp; (try with_reducible rfl)
              case rest0_1S21n =>
              try simp only [List.getElem_toArray, List.getElem_cons_succ, List.getElem_cons_zero, Act.put, List.setIfInBounds_toArray, List.set_cons_zero, List.set_cons_succ]
              refine wpAnyG_take' (i := 1) (v := ?v1_2S21n) rfl (by kernel_rfl) (by kernel_rfl) (by kernel_rfl) (by kernel_rfl) (fun _ _ _ h => h) (Or.inl ⟨by rfl, ?hy1_2S21n⟩) hS ?rest1_2S21n
              case hy1_2S21n => intro w hSw; (try dsimp only at hSw); go_simp; (try with_reducible rfl)
              case rest1_2S21n =>
              try simp only [List.getElem_toArray, List.getElem_cons_succ, List.getElem_cons_zero, Act.put, List.setIfInBounds_toArray, List.set_cons_zero, List.set_cons_succ]
              refine wpAnyG_take' (i := 2) (v := ?v2_3S21n) rfl (by kernel_rfl) (by kernel_rfl) (by kernel_rfl) (by kernel_rfl) (fun _ _ _ h => h) (Or.inl ⟨by rfl, ?hy2_3S21n⟩) hS ?rest2_3S21n
              case hy2_3S21n => intro w hSw; (try dsimp only at hSw); go_simp; (try with_reducible rfl)
              case rest2_3S21n =>
              try simp only [List.getElem_toArray, List.getElem_cons_succ, List.getElem_cons_zero, Act.put, List.setIfInBounds_toArray, List.set_cons_zero, List.set_cons_succ]
              refine wpAnyG_take' (i := 3) (v := ?v3_4S21n) rfl (by kernel_rfl) (by kernel_rfl) (by kernel_rfl) (by kernel_rfl) (fun _ _ _ h => h) (Or.inl ⟨by rfl, ?hy3_4S21n⟩) hS ?rest3_4S21n
              case hy3_4S21n => intro w hSw; (try dsimp only at hSw); go_simp; (try with_reducible rfl)
              case rest3_4S21n =>
              try simp only [List.getElem_toArray, List.getElem_cons_succ, List.getElem_cons_zero, Act.put, List.setIfInBounds_toArray, List.set_cons_zero, List.set_cons_succ]
              refine wpAnyG_take' (i := 4) (v := ?v4_5S21n) rfl (by kernel_rfl) (by kernel_rfl) (by kernel_rfl) (by kernel_rfl) (fun _ _ _ h => h) (Or.inl ⟨by rfl, ?hy4_5S21n⟩) hS ?rest4_5S21n
              case hy4_5S21n => intro w hSw; (try dsimp only at hSw); go_simp; (try with_reducible rfl)
              case rest4_5S21n =>
              try simp only [List.getElem_toArray, List.getElem_cons_succ, List.getElem_cons_zero, Act.put, List.setIfInBounds_toArray, List.set_cons_zero, List.set_cons_succ]
              refine wpAnyG_take' (i := 5) (v := ?v5_6S21n) rfl (by kernel_rfl) (by kernel_rfl) (by kernel_rfl) (by kernel_rfl) (fun _ _ _ h => h) (Or.inl ⟨by rfl, ?hy5_6S21n⟩) hS ?rest5_6S21n
              case hy5_6S21n => intro w hSw; (try dsimp only at hSw); go_simp; (try with_reducible rfl)
              case rest5_6S21n =>
              try simp only [List.getElem_toArray, List.getElem_cons_succ, List.getElem_cons_zero, Act.put, List.setIfInBounds_toArray, List.set_cons_zero, List.set_cons_succ]
              refine wpAnyG_take' (i := 6) (v := ?v6_7S21n) rfl (by kernel_rfl) (by kernel_rfl) (by kernel_rfl) (by kernel_rfl) (fun _ _ _ h => h) (Or.inl ⟨by rfl, ?hy6_7S21n⟩) hS ?rest6_7S21n
              case hy6_7S21n => intro w hSw; (try dsimp only at hSw); go_simp; (try with_reducible rfl)
              case rest6_7S21n =>
              try simp only [List.getElem_toArray, List.getElem_cons_succ, List.getElem_cons_zero, Act.put, List.setIfInBounds_toArray, List.set_cons_zero, List.set_cons_succ]
              refine wpAnyG_take' (i := 7) (v := ?v7_8S21n) rfl (by kernel_rfl) (by kernel_rfl) (by kernel_rfl) (by kernel_rfl) (fun _ _ _ h => h) (Or.inl ⟨by rfl, ?hy7_8S21n⟩) hS ?rest7_8S21n
              case hy7_8S21n => intro w hSw; (try dsimp only at hSw); go_simp; (try with_reducible rfl)
              case rest7_8S21n =>
              try simp only [List.getElem_toArray, List.getElem_cons_succ, List.getElem_cons_zero, Act.put, List.setIfInBounds_toArray, List.set_cons_zero, List.set_cons_succ]
              refine wpAnyG_done (by kernel_rfl) ?_ _
              try simp only [List.getElem_toArray, List.getElem_cons_succ, List.getElem_cons_zero, Act.put, List.setIfInBounds_toArray, List.set_cons_zero, List.set_cons_succ]
              clear hS
              (try dsimp only); repeat' (first | go_values | go_skip | go_guarded | go_step | go_upon | go_back)
              refine HJ.out.mono ?_
              rintro r2 w7 ⟨rfl, h8⟩
              clear HJ y0 y1 y4
              obtain ⟨y0, y1, -, -, -, -⟩ := cells6z (h8.pick [2] rfl : Sep w [Cl b7 _ _] _)
              by_cases hn1 : 1 < s.n
              · have d3 : decide (1 < s.n) = true := decide_eq_true hn1
                have hn1' := hn1
                clear hn1
                have hj := judge_any i (s.n - 1) h8 HT.out.1.len
                rw [judge_had HT.out.1.len HI.out HS.out HHAD.out, if_neg (by (try dsimp only); omega), if_neg (by (try dsimp only); omega)] at hj
                have HJ := Lib.hid hj
                clear h8 hj
                (try dsimp only); repeat' (first | go_values | go_skip | go_guarded | go_step | go_upon | go_back)
                refine HJ.out.mono ?_
                rintro r3 w8 ⟨rfl, h8⟩
                clear HJ y0 y1
                obtain ⟨y0, y1, -, -, -, -⟩ := cells6z (h8.pick [2] rfl : Sep w [Cl b7 _ _] _)
                have hj := judge_any i (s.n + 1) h8 HT.out.1.len
                rw [judge_had HT.out.1.len HI.out HS.out HHAD.out, if_pos (by (try dsimp only); omega)] at hj
                have HJ := Lib.hid hj
                clear h8 hj
                (try dsimp only); repeat' (first | go_values | go_skip | go_guarded | go_step | go_upon | go_back)
                refine HJ.out.mono ?_
                rintro r4 w9 ⟨rfl, h8⟩
                clear HJ y0 y1
                have hl := len_any h8 HT.out.1.len
                rw [HM9.out] at hl
                have HL := Lib.hid hl
                clear h8 hl
                (try dsimp only); repeat' (first | go_values | go_skip | go_guarded | go_step | go_upon | go_back)
                refine HL.out.mono ?_
                rintro r5 w10 ⟨rfl, h8⟩
                have H8 := Lib.hid (h8.pick [3, 0] rfl : Sep w [Cl b4 (hadCs T) 62, TabT g T] w10)
                clear HL h8
                (try dsimp only); repeat' (first | go_values | go_skip | go_guarded | go_step | go_upon | go_back)
                go_roundw
                case rel => exact ⟨k + 1, T, by have := HG.out.1; omega, by have := HG.out.2; omega, by rw [HM9.out], by go_num, HT.out.1, H8.out⟩
                case measure => have := HG.out.2; simp [intOf]; omega
              · have d3 : decide (1 < s.n) = false := decide_eq_false hn1
                clear hn1
                have hj := judge_any i (s.n + 1) h8 HT.out.1.len
                rw [judge_had HT.out.1.len HI.out HS.out HHAD.out, if_pos (by (try dsimp only); omega)] at hj
                have HJ := Lib.hid hj
                clear h8 hj
                (try dsimp only); repeat' (first | go_values | go_skip | go_guarded | go_step | go_upon | go_back)
                refine HJ.out.mono ?_
                rintro r4 w9 ⟨rfl, h8⟩
                clear HJ y0 y1
                have hl := len_any h8 HT.out.1.len
                rw [HM9.out] at hl
                have HL := Lib.hid hl
                clear h8 hl
                (try dsimp only); repeat' (first | go_values | go_skip | go_guarded | go_step | go_upon | go_back)
                refine HL.out.mono ?_
                rintro r5 w10 ⟨rfl, h8⟩
                have H8 := Lib.hid (h8.pick [3, 0] rfl : Sep w [Cl b4 (hadCs T) 62, TabT g T] w10)
                clear HL h8
                (try dsimp only); repeat' (first | go_values | go_skip | go_guarded | go_step | go_upon | go_back)
                go_roundw
                case rel => exact ⟨k + 1, T, by have := HG.out.1; omega, by have := HG.out.2; omega, by rw [HM9.out], by go_num, HT.out.1, H8.out⟩
                case measure => have := HG.out.2; simp [intOf]; omega
    · have HE := Lib.hid hs.low
      by_cases hkx : k < len
      · have d0 : decide (k < len) = true := decide_eq_true hkx
        have d1 : decide ((k : Int) < 60) = false := decide_eq_false (by omega)
        clear hs hgo hkl hk60 hkx
        (try dsimp only); repeat' (first | go_values | go_skip | go_guarded | go_step | go_upon | go_back)
        go_ret
        exact ⟨rfl, HE.out⟩
      · have d0 : decide (k < len) = false := decide_eq_false hkx
        clear hs hgo hkl hk60 hkx
        (try dsimp only); repeat' (first | go_values | go_skip | go_guarded | go_step | go_upon | go_back)
        go_ret
        exact ⟨rfl, HE.out⟩
end Go.Proofs.Ytjjjkfdppleagaa
