/- The document's own item: lines, sameness. -/
import Derived.Test.YtfjodadmcfdlpaaDoorRefI1
import Derived.Test.YtfjodadmcfdlpaaDoorItem6
namespace Go.Proofs.YtfjodadmcfdlpaaDoor
open Go.RowKit
set_option linter.unusedVariables false
set_option linter.unusedSimpArgs false
theorem linesB_eq (ls : List Ln) : linesB ls = (wthB (ls.length : Int) 1 4 && ls.all lineB && decide ((ls.map (·.1)).Nodup)) := by
  unfold linesB wthB
  have a1 : decide ((1 : Int) ≤ (ls.length : Int)) = decide (1 ≤ ls.length) := by rw [decide_eq_decide]; omega
  have a2 : decide ((ls.length : Int) ≤ 4) = decide (ls.length ≤ 4) := by rw [decide_eq_decide]; omega
  rw [a1, a2]
theorem ks_ne {a b : KS} (h : ¬ a = b) : (a.1.toList == b.1.toList) = false := str_ne fun e => h (Subtype.ext e)
theorem take_nd {ls : List Ln} {k : Nat} (hk : k < ls.length) (h : ((ls.take k).map (·.1)).Nodup) (hn : ∀ i (hi : i < k), ls[i].1 ≠ ls[k].1) : ((ls.take (k + 1)).map (·.1)).Nodup := by
  rw [List.take_succ_eq_append_getElem hk, List.map_append, List.nodup_append]
  refine ⟨h, by simp, fun a ha b hb => ?_⟩
  simp at hb
  subst hb
  obtain ⟨l, hl, rfl⟩ := List.mem_map.1 ha
  obtain ⟨i, hi, rfl⟩ := List.getElem_of_mem hl
  have hi2 : i < k := by rw [List.length_take] at hi; omega
  rw [List.getElem_take]
  exact hn i hi2
theorem not_nd {ls : List Ln} {i k : Nat} (hik : i < k) (hk : k < ls.length) (h : ls[i].1 = ls[k].1) : ¬ (ls.map (·.1)).Nodup := by
  intro hn
  rw [List.nodup_iff_pairwise_ne, List.pairwise_iff_getElem] at hn
  exact hn i k (by simp; omega) (by simp; omega) hik (by simpa using h)
set_option maxRecDepth 100000 in
set_option maxHeartbeats 16000000 in
theorem rlines_any {w0 w : World} {L : List Thing} (v : Value) (ls : List Ln) (hs : Sep w0 L w) (hv : LnS w v ls) (hl : ls.length ≤ 140737488355327) :
    Calls Tryd.prog 46 #[v] w fun e w' => e = .returned (.bool (linesB ls)) ∧ Sep w0 L w' := by
  obtain ⟨a, c, rfl⟩ := hv.len
  have HV := Lib.hid hv
  have HS := Lib.hid hs
  obtain ⟨r, hr⟩ : ∃ r : Bool, r = linesB ls := ⟨_, rfl⟩
  rw [← hr]
  have HR : Hid (r = (wthB (ls.length : Int) 1 4 && ls.all lineB && decide ((ls.map (·.1)).Nodup))) := Lib.hid (hr.trans (linesB_eq ls))
  clear hv hs hr
  go_enter Tryd.func46, Tryd.ntmps46
  go_wp2_with fail
  go_loopw [3] (fun i wr => ∃ k m : Nat, k ≤ ls.length ∧ i = .int .i64 k ∧ (ls.take k).all lineB = true ∧ ((ls.take k).map (·.1)).Nodup ∧ wr = w.drewN m) (fun i _ => ls.length - (intOf i).toNat)
  case atStart => exact ⟨0, 0, by omega, rfl, by simp, by simp, rfl⟩
  case round =>
    obtain ⟨k, m, hk, rfl, ht, hnd, rfl⟩ := hrel
    have k0 : (0 : Int) ≤ (k : Int) := by omega
    have kb : (k : Int) ≤ 140737488355327 := by omega
    have HT := Lib.hid ht
    have HND := Lib.hid hnd
    clear ht hnd
    by_cases hkn : k < ls.length
    · have hd : decide (k < ls.length) = true := decide_eq_true hkn
      have k1 : (k : Int) < (ls.length : Int) := by omega
      obtain ⟨-, -, -, b1, o1, rfl, -, hc1⟩ := HV.out.at hkn
      obtain ⟨c0, c1⟩ := hc1 w (Below.refl _ w)
      obtain ⟨z, hz⟩ : ∃ z, z = ls[k] := ⟨_, rfl⟩
      rw [← hz] at c0 c1
      have HZ : Hid (∀ h : k < ls.length, z = ls[k]'h) := Lib.hid (fun _ => hz)
      have HN := Lib.hid (fun wx => rname_any z.1.1 wx z.1.2)
      have HW := Lib.hid (fun wx => within_any z.2 1 2147483647 wx)
      have HK := Lib.hid hkn
      cases h1 : nameB z.1.1 with
      | false =>
        have HF : Hid (r = false) := Lib.hid (by
          rw [HR.out]
          have : ls.all lineB = false := by
            rw [List.all_eq_false]
            exact ⟨z, by rw [hz]; exact List.getElem_mem hkn, by unfold lineB; rw [h1]; simp⟩
          rw [this]; simp)
        rw [h1] at HN
        clear h1 HW hz hc1 hkn
        go_wp2_with (refine (HN.out _).mono ?_; rintro r9 w9 ⟨rfl, rfl⟩)
        go_ret
        rw [HF.out]
        exact ⟨rfl, HS.out.drewN m⟩
      | true =>
        cases h2 : qtyB z.2 with
        | false =>
          have HF : Hid (r = false) := Lib.hid (by
            rw [HR.out]
            have : ls.all lineB = false := by
              rw [List.all_eq_false]
              exact ⟨z, by rw [hz]; exact List.getElem_mem hkn, by unfold lineB; rw [h2]; simp⟩
            rw [this]; simp)
          rw [h1] at HN
          rw [wthB_qty, h2] at HW
          clear h1 h2 hz hc1 hkn
          go_wp2_with (first | (refine (HN.out _).mono ?_; rintro r9 w9 ⟨rfl, rfl⟩) | (refine (HW.out _).mono ?_; rintro r9 w9 ⟨rfl, rfl⟩))
          go_ret
          rw [HF.out]
          exact ⟨rfl, HS.out.drewN m⟩
        | true =>
          have HT2 : Hid ((ls.take (k + 1)).all lineB = true) := Lib.hid (by rw [List.take_succ_eq_append_getElem hkn, List.all_append, HT.out, ← hz]; simp [lineB, h1, h2])
          rw [h1] at HN
          rw [wthB_qty, h2] at HW
          clear h1 h2 hz hc1 hkn
          go_wp2_with (first | (refine (HN.out _).mono ?_; rintro r9 w9 ⟨rfl, rfl⟩) | (refine (HW.out _).mono ?_; rintro r9 w9 ⟨rfl, rfl⟩))
          clear HN HW
          go_loopw [4] (fun i wr => ∃ j q : Nat, j ≤ k ∧ i = .int .i64 j ∧ (∀ i (hi : i < j) (hk : k < ls.length) (hik : i < ls.length), ls[i].1 ≠ ls[k].1) ∧ wr = w.drewN q) (fun i _ => k - (intOf i).toNat)
          case atStart => exact ⟨0, m, by omega, rfl, fun i hi => by omega, rfl⟩
          case round =>
            obtain ⟨j, q, hj, rfl, hdiff, rfl⟩ := hrel
            have j0 : (0 : Int) ≤ (j : Int) := by omega
            have HD := Lib.hid hdiff
            clear hdiff
            by_cases hjk : j < k
            · have hd2 : decide (j < k) = true := decide_eq_true hjk
              have hjl : j < ls.length := by have := HK.out; omega
              have j1 : (j : Int) < (ls.length : Int) := by omega
              obtain ⟨-, -, -, b2, o2, he, -, hc2⟩ := HV.out.at hjl
              simp only [Option.some.injEq, Addr.mk.injEq, and_true] at he
              obtain ⟨rfl, rfl⟩ := he
              obtain ⟨d0, d1⟩ := hc2 w (Below.refl _ w)
              by_cases he : ls[j].1 = z.1
              · have HF : Hid (r = false) := Lib.hid (by
                  rw [HR.out, decide_eq_false (not_nd hjk HK.out (by rw [he, HZ.out HK.out])), Bool.and_false])
                have d0' : w.cell? ⟨b1, o1 + j * 2, none⟩ = some (.string z.1.1) := by rw [d0, he]
                clear d0 d1 hc2 he hjk hjl
                go_wp2_with fail
                go_quiet (fail)
                go_wp2_with fail
                go_ret
                rw [HF.out]
                exact ⟨rfl, (HS.out.drewN q).drewN nq⟩
              · have e3 : (ls[j].1.1.toList == z.1.1.toList) = false := ks_ne he
                have HD2 : Hid (∀ i (hi : i < j + 1) (hk : k < ls.length) (hik : i < ls.length), ls[i].1 ≠ ls[k].1) := Lib.hid (fun i hi hk hik => by
                  rcases Nat.lt_or_ge i j with h | h
                  · exact HD.out i h hk hik
                  · obtain rfl : i = j := by omega
                    intro e
                    exact he (by rw [e, HZ.out HK.out]))
                generalize ls[j] = y at *
                clear hc2 he hjk hjl
                go_wp2_with fail
                go_quiet (fail)
                go_wp2_with fail
                go_roundw
                case rel => exact ⟨j + 1, q + nq, of_decide_eq_true hd2, by go_num, HD2.out, by simp [World.drewN, Nat.add_assoc]⟩
                case measure => have := of_decide_eq_true hd2; simp [intOf]; omega
            · have hd2 : decide (j < k) = false := decide_eq_false hjk
              have HND2 : Hid (((ls.take (k + 1)).map (·.1)).Nodup) := Lib.hid (take_nd HK.out HND.out fun i hi => HD.out i (by omega) HK.out (by have := HK.out; omega))
              clear hjk
              go_wp2_with fail
              go_roundw
              case rel => exact ⟨k + 1, q, HK.out, by go_num, HT2.out, HND2.out, rfl⟩
              case measure => have := HK.out; simp [intOf]; omega
    · have hd : decide (k < ls.length) = false := decide_eq_false hkn
      have HF : Hid (r = wthB (ls.length : Int) 1 4) := Lib.hid (by
        have hkl : k = ls.length := by omega
        have h1 := HT.out
        have h2 := HND.out
        rw [hkl, List.take_length] at h1 h2
        rw [HR.out, h1, decide_eq_true h2, Bool.and_true, Bool.and_true])
      have HW := Lib.hid (within_any (ls.length : Int) 1 4 (w.drewN m))
      rw [← HF.out] at HW
      clear hkn
      go_wp2_with (refine HW.out.mono ?_; rintro r9 w9 ⟨rfl, rfl⟩)
      go_ret
      exact ⟨rfl, HS.out.drewN m⟩
end Go.Proofs.YtfjodadmcfdlpaaDoor
