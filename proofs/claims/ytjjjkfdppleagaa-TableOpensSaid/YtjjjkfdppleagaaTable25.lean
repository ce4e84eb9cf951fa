/- The document's table: Find, without, lay. -/
import Derived.Test.YtjjjkfdppleagaaTable24
namespace Go.Proofs.Ytjjjkfdppleagaa
open Go Go.RowKit
set_option linter.unusedVariables false
set_option linter.unusedSimpArgs false
set_option maxRecDepth 100000 in
set_option maxHeartbeats 4000000 in
theorem dfind_any {w0 w : World} {g : Nat} {T : List SW} {L : List Thing} (c : Int) (h : Sep w0 (DocT g (seatsOf T) :: L) w) (hI : TabI T) :
    Calls Try.prog 15 #[.pointer (some ⟨g, 0, none⟩), .int .i64 c] w fun e w' => e = .returned (.tuple #[(seatAt T c).val, .bool (seatAt T c).had]) ∧ Sep w0 (DocT g (seatsOf T) :: L) w' := by
  have h0 := (h.alloc (.cells #[.int .i64 0, .int .i64 0, .int .i64 0, .int .i64 0, .int .i64 0, .int .i64 0] 31)).sw2
  obtain ⟨b4, hb4⟩ : ∃ z, z = w.heap.size := ⟨_, rfl⟩
  obtain ⟨w3, hw3⟩ : ∃ z, z = w.alloc (.cells #[.int .i64 0, .int .i64 0, .int .i64 0, .int .i64 0, .int .i64 0, .int .i64 0] 31) := ⟨_, rfl⟩
  rw [← hb4, ← hw3] at h0
  have HA := Lib.hid (dat_any c h0 (by have := seats_len8 hI.len; omega))
  have H0 := Lib.hid h0
  have HI := Lib.hid hI
  cases hh : (seatAt T c).had with
  | false =>
    obtain ⟨h1, h2⟩ := seatAt_free hI c hh
    unfold idxV at HA
    rw [h1] at HA
    dsimp only at HA
    rw [h2]
    have h5 := h0.sw2
    obtain ⟨x0, x1, x2, x3, x4, x5⟩ := cells6z h5
    obtain ⟨f0, f1, f2, f3, f4, f5⟩ := frz6 h5
    have h6 := store6 (u0 := .int .i64 0) (u1 := .int .i64 0) (u2 := .int .i64 0) (u3 := .int .i64 0) (u4 := .int .i64 0) (u5 := .int .i64 0) h5
    obtain ⟨z0, z1, z2, z3, z4, z5⟩ := cells6z h6
    have H6 := Lib.hid h6.drop
    unfold SW.val SW.zero
    clear h h0 hI hh h1 h2 h5 h6
    go_enter Try.func15, Try.ntmps15
    (try dsimp only); repeat' (first | go_values | go_skip | go_guarded | go_step | go_upon | go_back)
    rw [← hw3, ← hb4]
    clear hw3 hb4
    refine HA.out.mono ?_
    rintro r0 w4 ⟨rfl, rfl⟩
    clear HA
    (try dsimp only); repeat' (first | go_values | go_skip | go_guarded | go_step | go_upon | go_back)
    exact bodyPost_ret (v := .tuple #[.agg #[.int .i64 0, .int .i64 0, .int .i64 0, .int .i64 0, .int .i64 0, .int .i64 0], .bool false]) (by simp [results, Try.results15, go_sem, z0, z1, z2, z3, z4, z5]) rfl ⟨rfl, H6.out⟩
  | true =>
    obtain ⟨i, rfl, hi8, hi, hs⟩ := seatAt_had hI c hh
    rw [hs] at hh ⊢
    obtain ⟨h1, hk, hg⟩ := idx_had hI i hi hh
    unfold idxV at HA
    rw [h1] at HA
    dsimp only at HA
    obtain ⟨k, hkk⟩ : ∃ z, z = (seatsOf (T.take i)).length := ⟨_, rfl⟩
    have hk9 : (seatsOf T).length ≤ 8 := seats_len8 hI.len
    simp only [← hkk] at hk hg HA
    obtain ⟨s, hsq⟩ : ∃ z, z = T[i] := ⟨_, rfl⟩
    rw [← hsq] at hg ⊢
    obtain ⟨a, cc, h5⟩ := h0.docOpen
    have x0 := h5.cell (o := 0) rfl
    obtain ⟨hn, b, rfl, hb, y0, y1, y2, y3, y4, y5⟩ := h5.sw2.ssAt k hk
    rw [hg] at y0 y1 y2 y3 y4 y5
    obtain ⟨n, hnn⟩ : ∃ z, z = (seatsOf T).length := ⟨_, rfl⟩
    rw [← hnn] at x0 hk hk9
    have d0 : decide (k < n) = true := decide_eq_true hk
    have k0 : (0 : Int) ≤ (k : Int) := by omega
    have k1 : (k : Int) < (n : Int) := by omega
    have n9 : (n : Int) ≤ 8 := by omega
    have d1 : decide ((k : Int) < 0) = false := decide_eq_false (by omega)
    have h6 := h0.sw2
    obtain ⟨x60, x61, x62, x63, x64, x65⟩ := cells6z h6
    obtain ⟨f0, f1, f2, f3, f4, f5⟩ := frz6 h6
    have h7 := store6 (u0 := .int .i64 s.c) (u1 := .int .i64 s.n) (u2 := .int .i64 s.o) (u3 := .int .i64 s.k) (u4 := .int .i64 s.a) (u5 := .int .i64 s.b) h6
    obtain ⟨z0, z1, z2, z3, z4, z5⟩ := cells6z h7
    have H7 := Lib.hid h7.drop
    have hsh : s.had = true := by rw [hsq]; exact hh
    have HSH := Lib.hid hsh
    unfold SW.val
    clear h h0 hI hh h1 h5 h6 h7 hsq hg hi8 hb hkk hs hsh hn hnn
    go_enter Try.func15, Try.ntmps15
    (try dsimp only); repeat' (first | go_values | go_skip | go_guarded | go_step | go_upon | go_back)
    rw [← hw3, ← hb4]
    clear hw3 hb4
    refine HA.out.mono ?_
    rintro r0 w4 ⟨rfl, rfl⟩
    clear HA
    (try dsimp only); repeat' (first | go_values | go_skip | go_guarded | go_step | go_upon | go_back)
    exact bodyPost_ret (v := .tuple #[.agg #[.int .i64 s.c, .int .i64 s.n, .int .i64 s.o, .int .i64 s.k, .int .i64 s.a, .int .i64 s.b], .bool true]) (by simp [results, Try.results15, go_sem, z0, z1, z2, z3, z4, z5]) rfl ⟨rfl, H7.out⟩
set_option maxRecDepth 100000 in
set_option maxHeartbeats 4000000 in
theorem dwithout_any {w0 w : World} {g : Nat} {F : List SW} {L : List Thing} (c : Int) (h : Sep w0 (DocT g F :: L) w) (hF : F.length ≤ 1000) :
    Calls Try.prog 36 #[.pointer (some ⟨g, 0, none⟩), .int .i64 c] w fun e w' => ∃ v, e = .returned v ∧ Sep w0 (SsT v (sans F c) :: DocT g F :: L) w' := by
  obtain ⟨n, hn⟩ : ∃ z, z = F.length := ⟨_, rfl⟩
  have HF := Lib.hid (And.intro hn hF)
  have n0 : (0 : Int) ≤ (n : Int) := by omega
  have n9 : (n : Int) ≤ 1000 := by omega
  have h1 : Sep w0 (SsT (.slice none 0 0) (sans (F.take 0) c) :: DocT g F :: L) w := h.rnNil 6 31
  have H1 := Lib.hid h1
  clear h h1 hn hF
  go_enter Try.func36, Try.ntmps36
  (try dsimp only); repeat' (first | go_values | go_skip | go_guarded | go_step | go_upon | go_back)
  go_loopw [5, 6] (fun v i wr => ∃ (k : Nat) (u : Value), k ≤ n ∧ v = u ∧ i = .int .i64 k ∧ Sep w0 (SsT u (sans (F.take k) c) :: DocT g F :: L) wr) (fun _ i _ => n - (intOf i).toNat)
  case atStart => exact ⟨0, _, Nat.zero_le _, rfl, rfl, H1.out⟩
  case round =>
    obtain ⟨k, u, hk, rfl, rfl, hs⟩ := hrel
    clear H1
    obtain ⟨a, cc, h5⟩ := hs.sw2.docOpen
    have x0 := h5.cell (o := 0) rfl
    rw [← HF.out.1] at x0 h5
    have k0 : (0 : Int) ≤ (k : Int) := by omega
    have k9 : (k : Int) ≤ 1000 := by omega
    obtain ⟨au, cu, rfl, -⟩ := Sep.rnForm (h5.sw3 : Sep w0 (Rn 6 31 _ (sans (F.take k) c).length (sixes (sans (F.take k) c)) :: _) wr)
    obtain ⟨m, hm⟩ : ∃ z, z = (sans (F.take k) c).length := ⟨_, rfl⟩
    rw [← hm] at h5
    rw [← hm]
    have hm9 : m ≤ 1000 := by
      have h9 := List.length_filter_le (fun s : SW => s.c != c) (F.take k)
      rw [List.length_take] at h9
      have := HF.out
      unfold sans at hm
      omega
    by_cases hkn : k < n
    · have d0 : decide (k < n) = true := decide_eq_true hkn
      have k1 : (k : Int) < (n : Int) := by omega
      have HK : Hid (k < F.length) := Lib.hid (by rw [← HF.out.1]; exact hkn)
      obtain ⟨-, b, rfl, hb, y0, y1, y2, y3, y4, y5⟩ := h5.sw2.ssAt k HK.out
      have hst := sans_take F c k HK.out
      obtain ⟨s, hsq⟩ : ∃ z, z = F[k]'HK.out := ⟨_, rfl⟩
      rw [← hsq] at y0 y1 y2 y3 y4 y5 hst
      have h6 : Sep w0 (SsT (.slice au m cu) (sans (F.take k) c) :: Cl g #[.slice (some ⟨b, 0, none⟩) n cc] 49 :: SsT (.slice (some ⟨b, 0, none⟩) n cc) F :: L) wr := h5.sw3
      have HKK := Lib.hid (And.intro hk hkn)
      by_cases he : s.c = c
      · have e0 : (s.c != c) = false := by rw [he]; exact bne_self_eq_false c
        have e1 : (s.c == c) = true := beq_iff_eq.2 he
        rw [if_pos he] at hst
        have H6 := Lib.hid h6
        have HST := Lib.hid hst
        have HM := Lib.hid hm
        clear hs h5 h6 hk hkn hst hsq hb he hm hm9
        (try dsimp only); repeat' (first | go_values | go_skip | go_guarded | go_step | go_upon | go_back)
        go_roundw
        case rel => exact ⟨k + 1, _, by have := HKK.out; omega, rfl, by go_num, by rw [HST.out]; exact (Sep.docClose (H6.out.sw3.sw3)).sw2⟩
        case measure => have := HKK.out; simp [intOf]; omega
      · have e0 : (s.c != c) = true := by rw [bne_iff_ne]; exact he
        have e1 : (s.c == c) = false := beq_eq_false_iff_ne.2 he
        rw [if_neg he] at hst
        have h7 := h6.alloc (.cells #[.int .i64 s.c, .int .i64 s.n, .int .i64 s.o, .int .i64 s.k, .int .i64 s.a, .int .i64 s.b] 31)
        obtain ⟨a8, c8, w8, hr8, h8⟩ := append_seat (ty := 45) s h7 (by rw [← hm]; omega)
        rw [← hm] at hr8 h8
        obtain ⟨m2, hm2⟩ : ∃ z, z = m + 1 := ⟨_, rfl⟩
        rw [← hm2] at hr8 h8
        rw [← hst] at h8
        have HR8 := Lib.hid hr8
        have H8 := Lib.hid h8
        clear hs h5 h6 h7 h8 hk hkn hst hsq hb he hm hr8 hm2 hm9
        (try dsimp only); repeat' (first | (at_builtin; refine stop ?_) | (refine wpList_buildS rfl _ rfl rfl ?_) | go_values | go_skip | go_guarded | go_step | go_upon | go_back)
        unfold Stop
        refine wpList_append_run rfl _ _ _ _ rfl rfl rfl HR8.out ?_
        clear HR8 y0 y1 y2 y3 y4 y5
        (try dsimp only); repeat' (first | go_values | go_skip | go_guarded | go_step | go_upon | go_back)
        go_roundw
        case rel => exact ⟨k + 1, _, by have := HKK.out; omega, rfl, by go_num, (Sep.docClose (H8.out.sw3.sw3)).sw2⟩
        case measure => have := HKK.out; simp [intOf]; omega
    · have d0 : decide (k < n) = false := decide_eq_false hkn
      have hk2 : F.take k = F := List.take_of_length_le (by rw [← HF.out.1]; omega)
      rw [hk2] at hs
      have HS := Lib.hid hs
      rw [← hk2, ← hm] at HS
      have HK2 := Lib.hid hk2
      clear hs h5 hk hkn hk2 hm hm9
      (try dsimp only); repeat' (first | go_values | go_skip | go_guarded | go_step | go_upon | go_back)
      go_ret
      have h9 := HS.out
      rw [HK2.out] at h9
      exact ⟨_, rfl, h9⟩
end Go.Proofs.Ytjjjkfdppleagaa
