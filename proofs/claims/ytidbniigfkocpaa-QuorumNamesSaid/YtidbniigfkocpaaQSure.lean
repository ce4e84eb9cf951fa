/- The walk of QuorumSure. -/
import Derived.Test.YtidbniigfkocpaaQWorks
import Derived.Test.YtidbniigfkocpaaQDos
import Derived.Test.YtidbniigfkocpaaBringQ
namespace Go.Proofs.Ytidbniigfkocpaa
open Go.RowKit
set_option linter.unusedVariables false
set_option linter.unusedSimpArgs false
theorem geC_le {l m : List Int} (hl : l.length = m.length) (h : ∀ i (h1 : i < l.length) (h2 : i < m.length), l[i] ≤ m[i]) (s : Int) : geC l s ≤ geC m s := by
  unfold geC
  induction l generalizing m with
  | nil => simp
  | cons a l ih =>
    cases m with
    | nil => simp at hl
    | cons b m =>
      have h0 := h 0 (by simp) (by simp)
      simp only [List.getElem_cons_zero] at h0
      have hi := ih (m := m) (by simpa using hl) (fun i h1 h2 => by
        have := h (i + 1) (by simpa using h1) (by simpa using h2)
        simpa using this)
      rw [List.filter_cons, List.filter_cons]
      by_cases h1 : s ≤ a
      · have h2 : s ≤ b := by omega
        simp [h1, h2]; omega
      · by_cases h2 : s ≤ b
        · simp [h1, h2]; omega
        · simp [h1, h2]; omega
theorem sure_mono {n who : Nat} {A : List Int} {op : Int} (hA : A.length = 15) (hn : n ≤ 15) (hodd : n % 2 = 1) : sureOf n A ≤ sureOf n (A.set who (max (A[who]?.getD 0) op)) := by
  obtain ⟨B, hB⟩ : ∃ B, B = A.set who (max (A[who]?.getD 0) op) := ⟨_, rfl⟩
  rw [← hB]
  have hBl : B.length = 15 := by rw [hB]; simpa using hA
  obtain ⟨h1, h2, _⟩ := sure_spec hA hn hodd
  obtain ⟨h3, h4, _⟩ := sure_spec hBl hn hodd
  rcases Int.lt_or_le (sureOf n B) (sureOf n A) with h | h
  · have h5 := gt_ge (l := B.take n) h
    have h6 : geC (A.take n) (sureOf n A) ≤ geC (B.take n) (sureOf n A) := geC_le (by simp [hA, hBl]) (fun i i1 i2 => by
      rw [List.length_take] at i1 i2
      rw [List.getElem_take, List.getElem_take]
      subst hB
      rw [List.getElem_set]
      split
      · rename_i he
        subst he
        rw [List.getElem?_eq_getElem (by omega), Option.getD_some]
        omega
      · exact Int.le_refl _) _
    omega
  · exact h
theorem br_lt (i : Int) (k : Nat) (hk : 0 < k) : ∃ x : Nat, i % (k : Int) = (x : Int) ∧ x < k := by
  have h1 := Int.emod_nonneg i (show ((k : Int)) ≠ 0 by omega)
  have h2 := Int.emod_lt_of_pos i (show 0 < (k : Int) by omega)
  exact ⟨(i % (k : Int)).toNat, by omega, by omega⟩
theorem geC_take {A : List Int} {j : Nat} (s : Int) (hj : j < A.length) : geC (A.take (j + 1)) s = geC (A.take j) s + if s ≤ A[j] then 1 else 0 := by
  unfold geC
  rw [List.take_succ_eq_append_getElem hj, List.filter_append, List.length_append]
  by_cases h : s ≤ A[j] <;> simp [h]
theorem gtC_take {A : List Int} {j : Nat} (s : Int) (hj : j < A.length) : gtC (A.take (j + 1)) s = gtC (A.take j) s + if s < A[j] then 1 else 0 := by
  unfold gtC
  rw [List.take_succ_eq_append_getElem hj, List.filter_append, List.length_append]
  by_cases h : s < A[j] <;> simp [h]
theorem cnt_le (l : List Int) (j : Nat) (s : Int) : geC (l.take j) s ≤ j ∧ gtC (l.take j) s ≤ j := by
  unfold geC gtC
  have h1 := List.length_filter_le (fun x => decide (s ≤ x)) (l.take j)
  have h2 := List.length_filter_le (fun x => decide (s < x)) (l.take j)
  rw [List.length_take] at h1 h2
  omega
/-- An array of ints of the call's own. -/
abbrev ArrI (g : Nat) (A : List Int) (t : TypeId) : Thing := Cl g (A.map (Value.int .i64)).toArray t
theorem Sep.arrAt {w0 w : World} {g : Nat} {A : List Int} {t : TypeId} {L : List Thing} (h : Sep w0 (ArrI g A t :: L) w) (j : Nat) (hj : j < A.length) : w.cell? ⟨g, j, none⟩ = some (.int .i64 A[j]) := h.cell (by simp [hj])
theorem Sep.arrSet {w0 w : World} {g : Nat} {A : List Int} {t : TypeId} {L : List Thing} (h : Sep w0 (ArrI g A t :: L) w) (j : Nat) (x : Int) : Sep w0 (ArrI g (A.set j x) t :: L) (w.setCell ⟨g, j, none⟩ (.int .i64 x)) := by
  have h1 := h.setCell j (.int .i64 x)
  have : (A.map (Value.int .i64)).toArray.setIfInBounds j (.int .i64 x) = ((A.set j x).map (Value.int .i64)).toArray := by simp [List.map_set]
  rwa [this] at h1
set_option maxRecDepth 100000 in
set_option maxHeartbeats 8000000 in
theorem qsure_any (f : Int) (a : Option Addr) (len cap : Nat) (w : World) (h : Dos w a len) (hlc : len ≤ cap) (hcm : cap ≤ maxLen) :
    Calls Try.prog 6 #[.int .i64 f, .slice a len cap] w fun e w' => e = .returned (.bool true) ∧ Below w.heap.size w w' := by
  obtain ⟨q, hq, hq7⟩ := br_lt f 7 (by omega)
  have hB0 : ∀ wx : World, Calls Try.prog 29 #[.int .i64 f, .int .i64 7] wx fun e w' => e = .returned (.int .i64 (q : Int)) ∧ wx = w' := fun wx => by
    have := bring_any f 7 wx (by unfold Sm; omega)
    rwa [show f % 7 = (q : Int) from hq] at this
  have HB0 := Lib.hid hB0
  have hbq : ∀ (i k : Int) (wx : World), Sm k → Calls Try.prog 29 #[.int .i64 i, .int .i64 k] wx fun e w' => e = .returned (.int .i64 (i % k)) ∧ w' = wx := fun i k wx hk => (bring_any i k wx hk).mono fun _ _ h => ⟨h.1, h.2.symm⟩
  have HBQ := Lib.hid hbq
  obtain ⟨n, hn⟩ : ∃ n : Nat, n = 2 * (1 + q) + 1 := ⟨_, rfl⟩
  have hodd : n % 2 = 1 := by omega
  have hn15 : n ≤ 15 := by omega
  have hn3 : 3 ≤ n := by omega
  have hen : enough n = (n / 2 + 1 : Nat) := by
    unfold enough
    rw [if_pos ⟨by omega, by omega, by omega⟩]
    omega
  have hne : enough n ≠ 0 := by rw [hen]; omega
  obtain ⟨e, he⟩ : ∃ e : Nat, e = n / 2 + 1 := ⟨_, rfl⟩
  have hE : ∀ wx : World, Calls Try.prog 10 #[.int .i64 n] wx fun e' w' => e' = .returned (.int .i64 (e : Nat)) ∧ wx = w' := fun wx => by
    have h1 := enough_any n wx (by unfold I64; omega)
    rw [hen, ← he] at h1
    exact h1
  have HE := Lib.hid hE
  have hq2 : 2 * (1 + (q : Int)) + 1 = (n : Int) := by omega
  have HD := Lib.hid h
  have HX := Lib.hid (show n % 2 = 1 ∧ enough n ≠ 0 ∧ e = n / 2 + 1 from ⟨hodd, hne, he⟩)
  have hlen : (len : Int) ≤ 9223372036854775807 := by unfold maxLen at hcm; omega
  clear hB0 hbq hE h hq hen hne hodd he hcm hlc hn
  go_enter Try.func6, Try.ntmps6
  go_wp2_with fail
  refine (HB0.out _).mono ?_
  rintro r0 w1 ⟨rfl, rfl⟩
  go_wp2_with fail
  clear hq2
  refine (newAcks_ok n _ (Sep.start w) (by unfold I64; omega) HX.out.2.1).mono ?_
  rintro r0 w1 ⟨g, rfl, h1⟩
  have h2 := h1.alloc (.cells ((List.replicate 15 (0 : Int)).map (Value.int .i64)).toArray 60)
  obtain ⟨bo, hbo⟩ : ∃ k, k = w1.heap.size := ⟨_, rfl⟩
  rw [← hbo] at h2
  have H2 := Lib.hid h2
  clear h1 h2
  go_wp2_with fail
  rw [← hbo]
  clear hbo
  go_loopw [8, 10] (fun l i wr => ∃ (k : Nat) (A : List Int) (last : Int), k ≤ len ∧ k ≤ 80 ∧ l = .int .i64 last ∧ i = .int .i64 k ∧ A.length = 15 ∧ last ≤ sureOf n A ∧ Sep w [ArrI bo A 60, AckT g n A] wr) (fun _ i _ => 80 - (intOf i).toNat)
  case atStart =>
    refine ⟨0, List.replicate 15 0, 0, by omega, by omega, rfl, rfl, rfl, ?_, H2.out⟩
    obtain ⟨_, _, h3⟩ := sure_spec (A := List.replicate 15 0) rfl hn15 HX.out.1
    have := List.mem_of_mem_take h3
    rw [List.mem_replicate] at this
    omega
  case round =>
    obtain ⟨k, A, last, hk, hk80, rfl, rfl, hA, hlast, hs⟩ := hrel
    clear H2
    have HS := Lib.hid hs
    have HA := Lib.hid (show A.length = 15 ∧ last ≤ sureOf n A from ⟨hA, hlast⟩)
    clear hs hA hlast
    have k0 : (0 : Int) ≤ (k : Int) := by omega
    by_cases hkl : k < len ∧ k < 80
    · obtain ⟨hk1, hk2⟩ := hkl
      have hd1 : decide (k < len) = true := decide_eq_true hk1
      have hd2 : decide ((k : Int) < 80) = true := decide_eq_true (by omega)
      obtain ⟨b, off, rfl, x, who, op, hw1, hw2, hcell⟩ := HD.out.at hk1
      obtain ⟨_, _, _, _, _, c5, c6⟩ := hcell wr HS.out.low
      obtain ⟨qw, hqw, hqw2⟩ := br_lt who n (by omega)
      obtain ⟨qo, hqo, hqo2⟩ := br_lt op 1099511627776 (by omega)
      have kl : (k : Int) < (len : Int) := by omega
      have HQ := Lib.hid (show who % (n : Int) = (qw : Int) ∧ op % 1099511627776 = (qo : Int) ∧ qw < n ∧ qo < 1099511627776 from ⟨hqw, hqo, hqw2, hqo2⟩)
      clear hcell hqw hqo hqw2 hqo2 hw1 hw2 hk1 hk2
      go_wp2_with fail
      go_quiet ((go_at_call 29; exact Calls.quiet_of_same (HBQ.out _ _ _ (by unfold Sm; omega))))
      rw [HQ.out.1, HQ.out.2.1]
      clear c5 c6
      have hqn := HQ.out.2.2.1
      have hA15 := HA.out.1
      have hlt : qw < A.length := by omega
      have e1 : A[qw]?.getD 0 = A[qw] := by rw [List.getElem?_eq_getElem hlt]; rfl
      have HS1 := Lib.hid (HS.out.drewN nq)
      clear HS
      go_wp2_with fail
      refine (note_ok qw qo HS1.out.sw2 hqn hn15 hA15 (by omega)).mono ?_
      rintro r1 w2 ⟨rfl, h2⟩
      rw [e1] at h2
      have z0 := h2.sw2.arrAt qw hlt
      have z1 := h2.sw2.frozen qw
      have H2 := Lib.hid (h2.sw2.arrSet qw (max A[qw] qo))
      have hmono := sure_mono (n := n) (who := qw) (op := qo) hA15 hn15 HX.out.1
      rw [e1] at hmono
      obtain ⟨B, hB⟩ : ∃ B, B = A.set qw (max A[qw] qo) := ⟨_, rfl⟩
      rw [← hB] at H2 hmono
      have HM := Lib.hid (show last ≤ sureOf n B ∧ B.length = 15 from ⟨Int.le_trans HA.out.2 hmono, by rw [hB]; simpa using hA15⟩)
      have q0 : (0 : Int) ≤ (qw : Int) := by omega
      have q1 : (qw : Int) < 15 := by omega
      clear h2 hmono hB e1 HS1 HA hqn
      generalize A[qw] = v at *
      clear hA15 hlt
      have hmx : (if v < (qo : Int) then (qo : Int) else v) = max v qo := by
        by_cases hv : v < (qo : Int)
        · rw [if_pos hv]; omega
        · rw [if_neg hv]; omega
      go_wp2_with fail
      refine (sure_any (A := B) H2.out.sw2 HX.out.2.1 HM.out.2).mono ?_
      rintro r2 w3 ⟨rfl, h3⟩
      have hsp := sure_spec HM.out.2 hn15 HX.out.1
      have hle := HM.out.1
      have H3 := Lib.hid h3
      clear h3 H2 hmx z0 z1
      obtain ⟨s, hse⟩ : ∃ s, s = sureOf n B := ⟨_, rfl⟩
      rw [← hse] at hsp hle ⊢
      have HSE := Lib.hid hse
      clear hse
      have HSP := Lib.hid hsp
      have HLE := Lib.hid hle
      clear hsp hle
      go_wp2_with fail
      go_loopw [14, 15, 16] (fun u v i wz => ∃ j : Nat, j ≤ n ∧ u = .int .i64 (geC (B.take j) s : Nat) ∧ v = .int .i64 (gtC (B.take j) s : Nat) ∧ i = .int .i64 j ∧ Sep w [AckT g n B, ArrI bo B 60] wz) (fun _ _ i _ => n - (intOf i).toNat)
      case atStart => exact ⟨0, by omega, rfl, rfl, rfl, H3.out⟩
      case round =>
        obtain ⟨j, hj, rfl, rfl, rfl, hs⟩ := hrel
        clear H3
        have hcl := cnt_le B j s
        by_cases hjn : j < n
        · have hdj : decide (j < n) = true := decide_eq_true hjn
          have hBl : j < B.length := by have := HM.out.2; omega
          have z0 := hs.sw2.arrAt j hBl
          have hof : ∀ m, Calls Try.prog 27 #[.pointer (some ⟨g, 0, none⟩), .int .i64 j] (wr.drewN m) fun e w' => e = .returned (.int .i64 B[j]) ∧ w' = wr.drewN m := fun m => by
            have h1 := of_ok j (hs.drewN m) hjn hn15 HM.out.2
            rw [List.getElem?_eq_getElem hBl, Option.getD_some] at h1
            exact h1.mono fun _ _ h => ⟨h.1, h.2.symm⟩
          have HOF := Lib.hid hof
          have e1 := geC_take s hBl
          have e2 := gtC_take s hBl
          have heq : (B[j] != B[j]) = false := by simp
          have HS := Lib.hid hs
          have j0 : (0 : Int) ≤ (j : Int) := by omega
          have j1 : (j : Int) < 15 := by omega
          have c1 : ((geC (B.take j) s : Nat) : Int) ≤ 15 := by omega
          have c2 : ((gtC (B.take j) s : Nat) : Int) ≤ 15 := by omega
          generalize B[j] = z at *
          generalize geC (B.take j) s = n1 at *
          generalize gtC (B.take j) s = n2 at *
          have HE1 := Lib.hid e1
          have HE2 := Lib.hid e2
          clear hof hs e1 e2 hcl hBl hjn
          go_wp2_with fail
          go_quiet ((go_at_call 27; exact Calls.quiet_of_same (HOF.out _)))
          have z1 : (wr.drewN nq).cell? ⟨bo, j, none⟩ = some (.int .i64 z) := z0
          by_cases s1 : s ≤ z
          · have t1 : decide (s ≤ z) = true := decide_eq_true s1
            by_cases s2 : s < z
            · have t2 : decide (s < z) = true := decide_eq_true s2
              go_wp2_with fail
              go_roundw
              case rel => exact ⟨j + 1, of_decide_eq_true hdj, by rw [HE1.out, if_pos s1]; go_num, by rw [HE2.out, if_pos s2]; go_num, by go_num, HS.out.drewN nq⟩
              case measure => have hjn := of_decide_eq_true hdj; simp [intOf]; omega
            · have t2 : decide (s < z) = false := decide_eq_false s2
              go_wp2_with fail
              go_roundw
              case rel => exact ⟨j + 1, of_decide_eq_true hdj, by rw [HE1.out, if_pos s1]; go_num, by rw [HE2.out, if_neg s2]; go_num, by go_num, HS.out.drewN nq⟩
              case measure => have hjn := of_decide_eq_true hdj; simp [intOf]; omega
          · have t1 : decide (s ≤ z) = false := decide_eq_false s1
            have s2 : ¬ s < z := by omega
            have t2 : decide (s < z) = false := decide_eq_false s2
            go_wp2_with fail
            go_roundw
            case rel => exact ⟨j + 1, of_decide_eq_true hdj, by rw [HE1.out, if_neg s1]; go_num, by rw [HE2.out, if_neg s2]; go_num, by go_num, HS.out.drewN nq⟩
            case measure => have hjn := of_decide_eq_true hdj; simp [intOf]; omega
        · have hdj : decide (j < n) = false := decide_eq_false hjn
          obtain rfl : j = n := by omega
          have hsp := HSP.out
          have he := HX.out.2.2
          have t0 : decide (s < last) = false := decide_eq_false (by have := HLE.out; omega)
          have t1 : decide (geC (B.take j) s < e) = false := decide_eq_false (by omega)
          have t2 : decide (e ≤ gtC (B.take j) s) = false := decide_eq_false (by omega)
          generalize geC (B.take j) s = n1 at *
          generalize gtC (B.take j) s = n2 at *
          have HS := Lib.hid hs.sw2
          have kk : (k : Int) < 80 := of_decide_eq_true hd2
          have kk1 : k < len := of_decide_eq_true hd1
          clear hs hcl hsp he hjn hd1 hd2
          go_wp2_with fail
          refine (HE.out _).mono ?_
          rintro r3 w4 ⟨rfl, rfl⟩
          go_wp2_with fail
          refine (HE.out _).mono ?_
          rintro r3 w4 ⟨rfl, rfl⟩
          go_wp2_with fail
          go_roundw
          case rel => exact ⟨k + 1, B, s, by omega, by omega, rfl, by go_num, HM.out.2, Int.le_of_eq HSE.out, HS.out⟩
          case measure => simp [intOf]; omega
    · have HS2 := Lib.hid HS.out.low
      by_cases hk1 : k < len
      · have hd1 : decide (k < len) = true := decide_eq_true hk1
        have hd2 : decide ((k : Int) < 80) = false := decide_eq_false (by omega)
        clear HS HA hkl
        go_wp2_with fail
        refine (qworks_any _).mono ?_
        rintro r3 w4 ⟨rfl, h4⟩
        have H4 := Lib.hid (below_step HS2.out h4)
        clear h4
        go_wp2_with fail
        go_ret
        exact ⟨rfl, H4.out⟩
      · have hd1 : decide (k < len) = false := decide_eq_false hk1
        clear HS HA hkl
        go_wp2_with fail
        refine (qworks_any _).mono ?_
        rintro r3 w4 ⟨rfl, h4⟩
        have H4 := Lib.hid (below_step HS2.out h4)
        clear h4
        go_wp2_with fail
        go_ret
        exact ⟨rfl, H4.out⟩
end Go.Proofs.Ytidbniigfkocpaa
