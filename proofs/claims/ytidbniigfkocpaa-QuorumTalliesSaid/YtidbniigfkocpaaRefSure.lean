/- The document's Sure. -/
import Derived.Test.YtidbniigfkocpaaRefAcks
namespace Go.Proofs.Ytidbniigfkocpaa
open Go.RowKit
set_option linter.unusedVariables false
set_option linter.unusedSimpArgs false
/-- The greatest so far of those that enough have reached. -/
structure Best (n : Nat) (A : List Int) (j : Nat) (b : Int) : Prop where
  pos : 0 ≤ b
  is : b = 0 ∨ n / 2 + 1 ≤ geC (A.take n) b
  all : ∀ i (h : i < A.length), i < j → n / 2 + 1 ≤ geC (A.take n) A[i] → A[i] ≤ b
theorem best_sure {n : Nat} {A : List Int} {b : Int} (h : Best n A n b) (hA : A.length = 15) (hn : n ≤ 15) (hodd : n % 2 = 1) (hp : ∀ x ∈ A, 0 ≤ x) : sureOf n A = b := by
  obtain ⟨h1, h2, h3⟩ := sure_spec hA hn hodd
  obtain ⟨i, hi⟩ := List.mem_iff_getElem?.1 h3
  rw [List.getElem?_take] at hi
  split at hi
  · rename_i hin
    obtain ⟨hiA, hie⟩ := List.getElem?_eq_some_iff.1 hi
    have h4 : sureOf n A ≤ b := by
      have := h.all i hiA hin (by rw [hie]; exact h1)
      rwa [hie] at this
    have h5 : 0 ≤ sureOf n A := hp _ (List.mem_of_mem_take h3)
    rcases Int.lt_or_le (sureOf n A) b with h6 | h6
    · rcases h.is with h7 | h7
      · omega
      · have := gt_ge (l := A.take n) h6
        omega
    · omega
  · cases hi
theorem best_next {n j : Nat} {A : List Int} {b : Int} (h : Best n A j b) (hj : j < A.length) (hp : ∀ x ∈ A, 0 ≤ x) : Best n A (j + 1) (if n / 2 + 1 ≤ geC (A.take n) A[j] then max b A[j] else b) := by
  have h0 := h.pos
  split
  · rename_i hc
    refine ⟨by omega, ?_, fun i hi hij hic => ?_⟩
    · rcases Int.lt_or_le b A[j] with h1 | h1
      · rw [show max b A[j] = A[j] by omega]; exact .inr hc
      · rw [show max b A[j] = b by omega]; exact h.is
    · by_cases he : i = j
      · subst he; omega
      · have := h.all i hi (by omega) hic; omega
  · rename_i hc
    refine ⟨h0, h.is, fun i hi hij hic => ?_⟩
    by_cases he : i = j
    · subst he; exact absurd hic hc
    · exact h.all i hi (by omega) hic
set_option maxRecDepth 100000 in
set_option maxHeartbeats 4000000 in
theorem rsure_any {w0 w : World} {g n : Nat} {A : List Int} {L : List Thing} (h : Sep w0 (RAckT g n A :: L) w) (hn : enough n ≠ 0) (hA : A.length = 15) (hp : ∀ x ∈ A, 0 ≤ x) :
    Calls Try.prog 26 #[.pointer (some ⟨g, 0, none⟩)] w fun e w' => e = .returned (.int .i64 (sureOf n A)) ∧ Sep w0 (RAckT g n A :: L) w' := by
  obtain ⟨hen, hodd, h3, h15⟩ := enough_odd hn
  obtain ⟨e, he⟩ : ∃ e : Nat, e = n / 2 + 1 := ⟨_, rfl⟩
  have hE : ∀ wx : World, Calls Try.prog 11 #[.int .i64 n] wx fun e' w' => e' = .returned (.int .i64 (e : Nat)) ∧ wx = w' := fun wx => by
    have h1 := renough_any n wx (by unfold I64; omega)
    rw [hen, ← he] at h1
    exact h1
  have HE := Lib.hid hE
  have HX := Lib.hid (show n % 2 = 1 ∧ A.length = 15 ∧ (∀ x ∈ A, 0 ≤ x) ∧ e = n / 2 + 1 from ⟨hodd, hA, hp, he⟩)
  have H := Lib.hid h
  clear hE he hA hp hodd hen hn
  have c0 := h.rackN
  clear h
  go_enter Try.func26, Try.ntmps26
  go_wp2_with fail
  clear c0
  go_loopw [3, 4] (fun b i wz => ∃ (j : Nat) (bb : Int), j ≤ n ∧ b = .int .i64 bb ∧ i = .int .i64 j ∧ Best n A j bb ∧ Sep w0 (RAckT g n A :: L) wz) (fun _ i _ => n - (intOf i).toNat)
  case atStart => exact ⟨0, 0, by omega, rfl, rfl, ⟨Int.le_refl _, .inl rfl, fun i _ hi => by omega⟩, H.out⟩
  case round =>
    obtain ⟨j, bb, hj, rfl, rfl, hb, hs⟩ := hrel
    clear H
    have c0 := hs.rackN
    have j0 : (0 : Int) ≤ (j : Int) := by omega
    by_cases hjn : j < n
    · have hd : decide (j < n) = true := decide_eq_true hjn
      have hjA : j < A.length := by have := HX.out.2.1; omega
      have HB := Lib.hid (best_next hb hjA HX.out.2.2.1)
      have HS := Lib.hid hs
      have HV : Hid (∃ v, A[j]? = some v ∧ A[j] = v) := Lib.hid ⟨A[j], List.getElem?_eq_getElem hjA, rfl⟩
      obtain ⟨v, hv1, hv2⟩ := HV.out
      rw [hv2] at HB
      have HV1 := Lib.hid hv1
      have j1 : (j : Int) < 15 := by omega
      have j2 : (j : Int) < (n : Int) := by omega
      clear hs hb hjA hjn HV hv1 hv2
      go_wp2_with fail
      clear c0
      go_loopw [5, 6] (fun m i wz => ∃ k : Nat, k ≤ n ∧ m = .int .i64 (geC (A.take k) v : Nat) ∧ i = .int .i64 k ∧ Sep w0 (RAckT g n A :: L) wz) (fun _ i _ => n - (intOf i).toNat)
      case atStart => exact ⟨0, by omega, rfl, rfl, HS.out⟩
      case round =>
        obtain ⟨k, hk, rfl, rfl, hs⟩ := hrel
        clear HS
        have c0 := hs.rackN
        have k0 : (0 : Int) ≤ (k : Int) := by omega
        have hcl := (cnt_le A k v).1
        by_cases hkn : k < n
        · have hdk : decide (k < n) = true := decide_eq_true hkn
          have hkA : k < A.length := by have := HX.out.2.1; omega
          have c1 := hs.rackAt k hkA
          have hjA : j < A.length := (List.getElem?_eq_some_iff.1 HV1.out).1
          have c2 := hs.rackAt j hjA
          rw [(List.getElem?_eq_some_iff.1 HV1.out).2] at c2
          have e1 := geC_take v hkA
          have k1 : (k : Int) < 15 := by omega
          have n1 : ((geC (A.take k) v : Nat) : Int) ≤ 15 := by omega
          generalize A[k] = z at *
          generalize geC (A.take k) v = n1 at *
          have HE1 := Lib.hid e1
          have HS := Lib.hid hs
          clear hs e1 hcl hkA hkn hjA
          by_cases s1 : v ≤ z
          · have t1 : decide (v ≤ z) = true := decide_eq_true s1
            go_wp2_with fail
            go_quiet (fail)
            go_wp2_with fail
            go_roundw
            case rel => exact ⟨k + 1, of_decide_eq_true hdk, by rw [HE1.out, if_pos s1]; go_num, by go_num, HS.out.drewN nq⟩
            case measure => have hkn := of_decide_eq_true hdk; simp [intOf]; omega
          · have t1 : decide (v ≤ z) = false := decide_eq_false s1
            go_wp2_with fail
            go_quiet (fail)
            go_wp2_with fail
            go_roundw
            case rel => exact ⟨k + 1, of_decide_eq_true hdk, by rw [HE1.out, if_neg (show ¬ v ≤ z by omega)]; go_num, by go_num, HS.out.drewN nq⟩
            case measure => have hkn := of_decide_eq_true hdk; simp [intOf]; omega
        · have hdk : decide (k < n) = false := decide_eq_false hkn
          obtain rfl : k = n := by omega
          have hjA : j < A.length := (List.getElem?_eq_some_iff.1 HV1.out).1
          have c2 := hs.rackAt j hjA
          rw [(List.getElem?_eq_some_iff.1 HV1.out).2] at c2
          have HS := Lib.hid hs
          have he := HX.out.2.2.2
          have hB := HB.out
          rw [← he] at hB
          generalize geC (A.take k) v = n1 at *
          by_cases hq : e ≤ n1
          · rw [if_pos hq] at hB
            have hdq : decide (e ≤ n1) = true := decide_eq_true hq
            have HB2 := Lib.hid hB
            have hmx : (if bb < v then v else bb) = max bb v := by
              by_cases hv : bb < v
              · rw [if_pos hv]; omega
              · rw [if_neg hv]; omega
            clear hs he hcl hkn hjA hq hB
            go_wp2_with fail
            refine (HE.out _).mono ?_
            rintro r3 w4 ⟨rfl, rfl⟩
            go_wp2_with fail
            go_roundw
            case rel => exact ⟨j + 1, _, of_decide_eq_true hd, rfl, by go_num, HB2.out, HS.out⟩
            case measure => have hjn := of_decide_eq_true hd; simp [intOf]; omega
          · rw [if_neg hq] at hB
            have hdq : decide (e ≤ n1) = false := decide_eq_false hq
            have HB2 := Lib.hid hB
            clear hs he hcl hkn hjA hq hB
            go_wp2_with fail
            refine (HE.out _).mono ?_
            rintro r3 w4 ⟨rfl, rfl⟩
            go_wp2_with fail
            go_roundw
            case rel => exact ⟨j + 1, _, of_decide_eq_true hd, rfl, by go_num, HB2.out, HS.out⟩
            case measure => have hjn := of_decide_eq_true hd; simp [intOf]; omega
    · have hd : decide (j < n) = false := decide_eq_false hjn
      obtain rfl : j = n := by omega
      have HR := Lib.hid (best_sure hb HX.out.2.1 h15 HX.out.1 HX.out.2.2.1)
      have HS := Lib.hid hs
      clear hs hb hjn
      go_wp2_with fail
      go_ret
      exact ⟨congrArg (fun z => Ending.returned (.int .i64 z)) HR.out.symm, HS.out⟩
end Go.Proofs.Ytidbniigfkocpaa
