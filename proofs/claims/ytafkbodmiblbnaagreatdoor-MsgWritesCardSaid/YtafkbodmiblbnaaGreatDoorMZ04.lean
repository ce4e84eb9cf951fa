/- Package item: Same. -/
import Derived.Lib.ConvBytes
import Derived.Lib.AppendZeros
import Derived.Test.YtafkbodmiblbnaaGreatDoorMZ03
import Derived.Test.YtafkbodmiblbnaaGreatDoorMZ01
import Derived.Test.YtafkbodmiblbnaaGreatDoorMKit
namespace Go.Proofs.YtafkbodmiblbnaaGreatDoor
open Go.RowKit
set_option linter.unusedVariables false
set_option linter.unusedSimpArgs false
theorem str_ne {x y : ByteArray} (h : ¬ x = y) : (x.toList == y.toList) = false := by
  rw [beq_eq_false_iff_ne, ByteArray.toList_eq, ByteArray.toList_eq]
  exact fun e => h (ByteArray.ext (Array.toList_inj.mp e))
theorem takeL_succ {la lb : List Ln} {k : Nat} (h : la.take k = lb.take k) (ha : k < la.length) (hb : k < lb.length) (he : la[k] = lb[k]) : la.take (k + 1) = lb.take (k + 1) := by
  rw [List.take_succ_eq_append_getElem ha, List.take_succ_eq_append_getElem hb, h, he]
set_option maxRecDepth 100000 in
set_option maxHeartbeats 2000000 in
theorem equalL_any {w0 w : World} {L : List Thing} (va vb : Value) (la lb : List Ln) (hs : Sep w0 L w) (ha : LnS w va la) (hb : LnS w vb lb) (hl : la.length ≤ 9223372036854775807) :
    Calls Tryz.prog 122 #[va, vb] w fun e w' => e = .returned (.bool (decide (la = lb))) ∧ Sep w0 L w' := by
  obtain ⟨aa, ca, rfl⟩ := ha.len
  obtain ⟨ab, cb, rfl⟩ := hb.len
  have HA := Lib.hid ha
  have HB := Lib.hid hb
  have HS := Lib.hid hs
  clear ha hb hs
  by_cases hne : la.length = lb.length
  · have hn : (((la.length : Nat) : Int) != ((lb.length : Nat) : Int)) = false := by simp [hne]
    have hn' : (la.length != lb.length) = false := by simp [hne]
    have HN := Lib.hid hne
    obtain ⟨r, hr⟩ : ∃ r : Bool, r = decide (la = lb) := ⟨_, rfl⟩
    rw [← hr]
    have HR := Lib.hid hr
    clear hne hr
    go_enter Tryz.func122, Tryz.ntmps122
    go_wp2_with fail
    go_loopw [13] (fun i wr => ∃ k m : Nat, k ≤ la.length ∧ i = .int .i64 k ∧ la.take k = lb.take k ∧ wr = w.drewN m) (fun i _ => la.length - (intOf i).toNat)
    case atStart => exact ⟨0, 0, by omega, rfl, rfl, rfl⟩
    case round =>
      obtain ⟨k, m, hk, rfl, ht, rfl⟩ := hrel
      have k0 : (0 : Int) ≤ (k : Int) := by omega
      have kb : (k : Int) ≤ 9223372036854775807 := by omega
      by_cases hkn : k < la.length
      · have hd : decide (k < la.length) = true := decide_eq_true hkn
        have hkb : k < lb.length := by have := HN.out; omega
        have k1 : (k : Int) < (la.length : Int) := by omega
        have k2 : (k : Int) < (lb.length : Int) := by omega
        obtain ⟨-, -, -, b1, o1, rfl, -, hc1⟩ := HA.out.at hkn
        obtain ⟨-, -, -, b2, o2, rfl, -, hc2⟩ := HB.out.at hkb
        obtain ⟨c0, c1⟩ := hc1 w (Below.refl _ w)
        obtain ⟨d0, d1⟩ := hc2 w (Below.refl _ w)
        by_cases he : la[k] = lb[k]
        · have HT := Lib.hid (takeL_succ ht hkn hkb he)
          rw [← he] at d0 d1
          generalize la[k] = z at *
          clear ht hc1 hc2 hkn hkb he
          go_wp2_with fail
          go_quiet (fail)
          go_wp2_with fail
          go_roundw
          case rel => exact ⟨k + 1, m + nq, of_decide_eq_true hd, by go_num, HT.out, by simp [World.drewN, Nat.add_assoc]⟩
          case measure => have hkn := of_decide_eq_true hd; simp [intOf]; omega
        · have HF : Hid (r = false) := Lib.hid (by
            rw [HR.out]
            exact decide_eq_false fun e => by subst e; exact he rfl)
          generalize la[k] = z at *
          generalize lb[k] = z' at *
          by_cases hs : z.1.1 = z'.1.1
          · have e2 : (z.2 == z'.2) = false := by
              rw [beq_eq_false_iff_ne]
              exact fun h => he (Prod.ext (Subtype.ext hs) h)
            rw [← hs] at d0
            clear ht hc1 hc2 hkn hkb he hs
            go_wp2_with fail
            go_quiet (fail)
            go_wp2_with fail
            go_ret
            rw [HF.out]
            exact ⟨rfl, (HS.out.drewN m).drewN nq⟩
          · have e3 : (z.1.1.toList == z'.1.1.toList) = false := str_ne hs
            have e4 : (z.1.1.toList != z'.1.1.toList) = true := by rw [bne, e3]; rfl
            clear ht hc1 hc2 hkn hkb he hs
            go_wp2_with fail
            go_quiet (fail)
            go_wp2_with fail
            go_ret
            rw [HF.out]
            exact ⟨rfl, (HS.out.drewN m).drewN nq⟩
      · have hd : decide (k < la.length) = false := decide_eq_false hkn
        have HF : Hid (r = true) := Lib.hid (by
          rw [HR.out]
          have hkl : k = la.length := by omega
          rw [hkl, List.take_length, HN.out, List.take_length] at ht
          exact decide_eq_true ht)
        clear ht hkn
        go_wp2_with fail
        go_ret
        rw [HF.out]
        exact ⟨rfl, HS.out.drewN m⟩
  · have hn : (((la.length : Nat) : Int) != ((lb.length : Nat) : Int)) = true := by rw [bne_iff_ne]; omega
    have hn' : (la.length != lb.length) = true := by rw [bne_iff_ne]; exact hne
    have hx : decide (la = lb) = false := decide_eq_false fun e => hne (by rw [e])
    rw [hx]
    clear hne hx
    go_enter Tryz.func122, Tryz.ntmps122
    go_wp2_with fail
    go_ret
    exact ⟨rfl, HS.out⟩
def sameB (k : Int) (s : KS) (o n : Int) (ls : List Ln) (k' : Int) (s' : KS) (o' n' : Int) (ls' : List Ln) : Bool := decide (k = k') && decide (s.1 = s'.1) && decide (o = o') && decide (n = n') && decide (ls = ls')
set_option maxRecDepth 100000 in
set_option maxHeartbeats 4000000 in
theorem same_any {w0 w : World} {L : List Thing} (k : Int) (s : KS) (o n : Int) (v : Value) (ls : List Ln) (k' : Int) (s' : KS) (o' n' : Int) (v' : Value) (ls' : List Ln) (h : Sep w0 L w) (hv : LnS w v ls) (hv' : LnS w v' ls') (hl : ls.length ≤ 9223372036854775807) :
    Calls Tryz.prog 87 #[.agg #[.int .i64 k, .string s.1, .int .i64 o, .int .i64 n, v], .agg #[.int .i64 k', .string s'.1, .int .i64 o', .int .i64 n', v']] w fun e w' => e = .returned (.bool (sameB k s o n ls k' s' o' n' ls')) ∧ Sep w0 L w' := by
  suffices hh : Calls Tryz.prog 87 #[.agg #[.int .i64 k, .string s.1, .int .i64 o, .int .i64 n, v], .agg #[.int .i64 k', .string s'.1, .int .i64 o', .int .i64 n', v']] w fun e w' => e = .returned (.bool (sameB k s o n ls k' s' o' n' ls')) ∧ Sep w [] w' from hh.mono fun e w' ⟨h1, h2⟩ => ⟨h1, h.below h2.low⟩
  clear h
  obtain ⟨a, c, rfl⟩ := hv.len
  obtain ⟨a', c', rfl⟩ := hv'.len
  obtain ⟨wa, hwa⟩ : ∃ z, z = (w.alloc (.cells (opCells k s o n (.slice a ls.length c)) 24)).alloc (.cells (opCells k' s' o' n' (.slice a' ls'.length c')) 24) := ⟨_, rfl⟩
  have h1 := ((Sep.start w).alloc (.cells (opCells k s o n (.slice a ls.length c)) 24)).alloc (.cells (opCells k' s' o' n' (.slice a' ls'.length c')) 24)
  rw [← hwa] at h1
  rw [show (w.alloc (.cells (opCells k s o n (.slice a ls.length c)) 24)).heap.size = w.heap.size + 1 by simp] at h1
  have HE := Lib.hid (equalL_any _ _ ls ls' (Sep.start wa) (hv.below h1.low) (hv'.below h1.low) hl)
  obtain ⟨c0, c1, c2, c3, c4⟩ := op_cells h1.sw2
  obtain ⟨d0, d1, d2, d3, d4⟩ := op_cells h1
  have HL := Lib.hid h1.low
  unfold opCells at hwa
  clear h1 hv hv'
  unfold sameB
  by_cases e0 : k = k'
  · subst e0
    rw [decide_eq_true rfl, Bool.true_and]
    by_cases e1 : s.1 = s'.1
    · rw [decide_eq_true e1, Bool.true_and]
      rw [← e1] at d1 hwa ⊢
      clear e1
      by_cases e2 : o = o'
      · subst e2
        rw [decide_eq_true rfl, Bool.true_and]
        by_cases e3 : n = n'
        · subst e3
          rw [decide_eq_true rfl, Bool.true_and]
          generalize decide (ls = ls') = r at *
          go_enter Tryz.func87, Tryz.ntmps87
          go_wp2_with fail
          rw [← hwa]
          clear hwa
          go_wp2_with fail
          refine HE.out.mono ?_
          rintro r0 w1 ⟨rfl, h2⟩
          have H2 := Lib.hid (HL.out.trans (h2.low.mono HL.out.size))
          clear h2
          go_wp2_with fail
          go_ret
          exact ⟨rfl, Sep.nil H2.out⟩
        · rw [decide_eq_false e3, Bool.false_and]
          have f : (n == n') = false := beq_eq_false_iff_ne.2 e3
          clear e3
          go_enter Tryz.func87, Tryz.ntmps87
          go_wp2_with fail
          rw [← hwa]
          clear hwa
          go_wp2_with fail
          go_ret
          exact ⟨rfl, Sep.nil HL.out⟩
      · rw [decide_eq_false e2, Bool.false_and, Bool.false_and]
        have f : (o == o') = false := beq_eq_false_iff_ne.2 e2
        clear e2
        go_enter Tryz.func87, Tryz.ntmps87
        go_wp2_with fail
        rw [← hwa]
        clear hwa
        go_wp2_with fail
        go_ret
        exact ⟨rfl, Sep.nil HL.out⟩
    · rw [decide_eq_false e1, Bool.false_and, Bool.false_and, Bool.false_and]
      have f := str_ne e1
      clear e1
      go_enter Tryz.func87, Tryz.ntmps87
      go_wp2_with fail
      rw [← hwa]
      clear hwa
      go_wp2_with fail
      go_ret
      exact ⟨rfl, Sep.nil HL.out⟩
  · rw [decide_eq_false e0, Bool.false_and, Bool.false_and, Bool.false_and, Bool.false_and]
    have f : (k == k') = false := beq_eq_false_iff_ne.2 e0
    clear e0
    go_enter Tryz.func87, Tryz.ntmps87
    go_wp2_with fail
    rw [← hwa]
    clear hwa
    go_wp2_with fail
    go_ret
    exact ⟨rfl, Sep.nil HL.out⟩
end Go.Proofs.YtafkbodmiblbnaaGreatDoor
/- The document's own item: lines, sameness. -/
namespace Go.Proofs.YtafkbodmiblbnaaGreatDoor
open Go.RowKit
set_option linter.unusedVariables false
set_option linter.unusedSimpArgs false
theorem linesB_eq (ls : List Ln) : linesB ls = (wthB (ls.length : Int) 1 4 && ls.all lineB && decide ((ls.map (·.1)).Nodup)) := by
  unfold linesB wthB
  have a1 : decide ((1 : Int) ≤ (ls.length : Int)) = decide (1 ≤ ls.length) := by rw [decide_eq_decide]; omega
  have a2 : decide ((ls.length : Int) ≤ 4) = decide (ls.length ≤ 4) := by rw [decide_eq_decide]; omega
  rw [a1, a2]
theorem ks_ne {a b : KS} (h : ¬ a = b) : (a.1.toList == b.1.toList) = false := str_ne fun e => h (Subtype.ext e)
theorem take_nd {ls : List Ln} {k : Nat} (hk : k < ls.length) (h : ((ls.take k).map (·.1)).Nodup) (hn : ∀ i (hi : i < k), ls[i].1 ≠ ls[k].1) : ((ls.take (k + 1)).map (·.1)).Nodup := by
  rw [List.take_succ_eq_append_getElem hk, List.map_append, List.nodup_append]
  refine ⟨h, by simp, fun a ha b hb => ?_⟩
  simp at hb
  subst hb
  obtain ⟨l, hl, rfl⟩ := List.mem_map.1 ha
  obtain ⟨i, hi, rfl⟩ := List.getElem_of_mem hl
  have hi2 : i < k := by rw [List.length_take] at hi; omega
  rw [List.getElem_take]
  exact hn i hi2
theorem not_nd {ls : List Ln} {i k : Nat} (hik : i < k) (hk : k < ls.length) (h : ls[i].1 = ls[k].1) : ¬ (ls.map (·.1)).Nodup := by
  intro hn
  rw [List.nodup_iff_pairwise_ne, List.pairwise_iff_getElem] at hn
  exact hn i k (by simp; omega) (by simp; omega) hik (by simpa using h)
set_option maxRecDepth 100000 in
set_option maxHeartbeats 16000000 in
theorem rlines_any {w0 w : World} {L : List Thing} (v : Value) (ls : List Ln) (hs : Sep w0 L w) (hv : LnS w v ls) (hl : ls.length ≤ 9223372036854775807) :
    Calls Tryz.prog 128 #[v] w fun e w' => e = .returned (.bool (linesB ls)) ∧ Sep w0 L w' := by
  obtain ⟨a, c, rfl⟩ := hv.len
  have HV := Lib.hid hv
  have HS := Lib.hid hs
  obtain ⟨r, hr⟩ : ∃ r : Bool, r = linesB ls := ⟨_, rfl⟩
  rw [← hr]
  have HR : Hid (r = (wthB (ls.length : Int) 1 4 && ls.all lineB && decide ((ls.map (·.1)).Nodup))) := Lib.hid (hr.trans (linesB_eq ls))
  clear hv hs hr
  go_enter Tryz.func128, Tryz.ntmps128
  go_wp2_with fail
  go_loopw [3] (fun i wr => ∃ k m : Nat, k ≤ ls.length ∧ i = .int .i64 k ∧ (ls.take k).all lineB = true ∧ ((ls.take k).map (·.1)).Nodup ∧ wr = w.drewN m) (fun i _ => ls.length - (intOf i).toNat)
  case atStart => exact ⟨0, 0, by omega, rfl, by simp, by simp, rfl⟩
  case round =>
    obtain ⟨k, m, hk, rfl, ht, hnd, rfl⟩ := hrel
    have k0 : (0 : Int) ≤ (k : Int) := by omega
    have kb : (k : Int) ≤ 9223372036854775807 := by omega
    have HT := Lib.hid ht
    have HND := Lib.hid hnd
    clear ht hnd
    by_cases hkn : k < ls.length
    · have hd : decide (k < ls.length) = true := decide_eq_true hkn
      have k1 : (k : Int) < (ls.length : Int) := by omega
      obtain ⟨-, -, -, b1, o1, rfl, -, hc1⟩ := HV.out.at hkn
      obtain ⟨c0, c1⟩ := hc1 w (Below.refl _ w)
      obtain ⟨z, hz⟩ : ∃ z, z = ls[k] := ⟨_, rfl⟩
      rw [← hz] at c0 c1
      have HZ : Hid (∀ h : k < ls.length, z = ls[k]'h) := Lib.hid (fun _ => hz)
      have HN := Lib.hid (fun wx => rname_any z.1.1 wx z.1.2)
      have HW := Lib.hid (fun wx => within_any z.2 1 2147483647 wx)
      have HK := Lib.hid hkn
      cases h1 : nameB z.1.1 with
      | false =>
        have HF : Hid (r = false) := Lib.hid (by
          rw [HR.out]
          have : ls.all lineB = false := by
            rw [List.all_eq_false]
            exact ⟨z, by rw [hz]; exact List.getElem_mem hkn, by unfold lineB; rw [h1]; simp⟩
          rw [this]; simp)
        rw [h1] at HN
        clear h1 HW hz hc1 hkn
        go_wp2_with (refine (HN.out _).mono ?_; rintro r9 w9 ⟨rfl, rfl⟩)
        go_ret
        rw [HF.out]
        exact ⟨rfl, HS.out.drewN m⟩
      | true =>
        cases h2 : qtyB z.2 with
        | false =>
          have HF : Hid (r = false) := Lib.hid (by
            rw [HR.out]
            have : ls.all lineB = false := by
              rw [List.all_eq_false]
              exact ⟨z, by rw [hz]; exact List.getElem_mem hkn, by unfold lineB; rw [h2]; simp⟩
            rw [this]; simp)
          rw [h1] at HN
          rw [wthB_qty, h2] at HW
          clear h1 h2 hz hc1 hkn
          go_wp2_with (first | (refine (HN.out _).mono ?_; rintro r9 w9 ⟨rfl, rfl⟩) | (refine (HW.out _).mono ?_; rintro r9 w9 ⟨rfl, rfl⟩))
          go_ret
          rw [HF.out]
          exact ⟨rfl, HS.out.drewN m⟩
        | true =>
          have HT2 : Hid ((ls.take (k + 1)).all lineB = true) := Lib.hid (by rw [List.take_succ_eq_append_getElem hkn, List.all_append, HT.out, ← hz]; simp [lineB, h1, h2])
          rw [h1] at HN
          rw [wthB_qty, h2] at HW
          clear h1 h2 hz hc1 hkn
          go_wp2_with (first | (refine (HN.out _).mono ?_; rintro r9 w9 ⟨rfl, rfl⟩) | (refine (HW.out _).mono ?_; rintro r9 w9 ⟨rfl, rfl⟩))
          clear HN HW
          go_loopw [4] (fun i wr => ∃ j q : Nat, j ≤ k ∧ i = .int .i64 j ∧ (∀ i (hi : i < j) (hk : k < ls.length) (hik : i < ls.length), ls[i].1 ≠ ls[k].1) ∧ wr = w.drewN q) (fun i _ => k - (intOf i).toNat)
          case atStart => exact ⟨0, m, by omega, rfl, fun i hi => by omega, rfl⟩
          case round =>
            obtain ⟨j, q, hj, rfl, hdiff, rfl⟩ := hrel
            have j0 : (0 : Int) ≤ (j : Int) := by omega
            have HD := Lib.hid hdiff
            clear hdiff
            by_cases hjk : j < k
            · have hd2 : decide (j < k) = true := decide_eq_true hjk
              have hjl : j < ls.length := by have := HK.out; omega
              have j1 : (j : Int) < (ls.length : Int) := by omega
              obtain ⟨-, -, -, b2, o2, he, -, hc2⟩ := HV.out.at hjl
              simp only [Option.some.injEq, Addr.mk.injEq, and_true] at he
              obtain ⟨rfl, rfl⟩ := he
              obtain ⟨d0, d1⟩ := hc2 w (Below.refl _ w)
              by_cases he : ls[j].1 = z.1
              · have HF : Hid (r = false) := Lib.hid (by
                  rw [HR.out, decide_eq_false (not_nd hjk HK.out (by rw [he, HZ.out HK.out])), Bool.and_false])
                have d0' : w.cell? ⟨b1, o1 + j * 2, none⟩ = some (.string z.1.1) := by rw [d0, he]
                clear d0 d1 hc2 he hjk hjl
                go_wp2_with fail
                go_quiet (fail)
                go_wp2_with fail
                go_ret
                rw [HF.out]
                exact ⟨rfl, (HS.out.drewN q).drewN nq⟩
              · have e3 : (ls[j].1.1.toList == z.1.1.toList) = false := ks_ne he
                have HD2 : Hid (∀ i (hi : i < j + 1) (hk : k < ls.length) (hik : i < ls.length), ls[i].1 ≠ ls[k].1) := Lib.hid (fun i hi hk hik => by
                  rcases Nat.lt_or_ge i j with h | h
                  · exact HD.out i h hk hik
                  · obtain rfl : i = j := by omega
                    intro e
                    exact he (by rw [e, HZ.out HK.out]))
                generalize ls[j] = y at *
                clear hc2 he hjk hjl
                go_wp2_with fail
                go_quiet (fail)
                go_wp2_with fail
                go_roundw
                case rel => exact ⟨j + 1, q + nq, of_decide_eq_true hd2, by go_num, HD2.out, by simp [World.drewN, Nat.add_assoc]⟩
                case measure => have := of_decide_eq_true hd2; simp [intOf]; omega
            · have hd2 : decide (j < k) = false := decide_eq_false hjk
              have HND2 : Hid (((ls.take (k + 1)).map (·.1)).Nodup) := Lib.hid (take_nd HK.out HND.out fun i hi => HD.out i (by omega) HK.out (by have := HK.out; omega))
              clear hjk
              go_wp2_with fail
              go_roundw
              case rel => exact ⟨k + 1, q, HK.out, by go_num, HT2.out, HND2.out, rfl⟩
              case measure => have := HK.out; simp [intOf]; omega
    · have hd : decide (k < ls.length) = false := decide_eq_false hkn
      have HF : Hid (r = wthB (ls.length : Int) 1 4) := Lib.hid (by
        have hkl : k = ls.length := by omega
        have h1 := HT.out
        have h2 := HND.out
        rw [hkl, List.take_length] at h1 h2
        rw [HR.out, h1, decide_eq_true h2, Bool.and_true, Bool.and_true])
      have HW := Lib.hid (within_any (ls.length : Int) 1 4 (w.drewN m))
      rw [← HF.out] at HW
      clear hkn
      go_wp2_with (refine HW.out.mono ?_; rintro r9 w9 ⟨rfl, rfl⟩)
      go_ret
      exact ⟨rfl, HS.out.drewN m⟩
end Go.Proofs.YtafkbodmiblbnaaGreatDoor
/- Texts turned into bytes. -/
namespace Go.Proofs.YtafkbodmiblbnaaGreatDoor
open Go.RowKit
set_option linter.unusedVariables false
theorem conv_str (w : World) (s : ByteArray) (hs : s.size ≤ maxLen) : ∃ (b c : Nat) (w' : World), (convert 9 29 (.string s)).run Tryz.prog w = .ok (.slice (some ⟨b, 0, none⟩) s.size c) w' ∧ Below w.heap.size w w' ∧ Sl w' (.slice (some ⟨b, 0, none⟩) s.size c) (bv s.data.toList) := by
  have hsz : s.data.toList.length = s.size := rfl
  refine ⟨_, _, _, Lib.run_convert_string_bytes (P := Tryz.prog) w _ _ 5 s Tryz.underlying9 Tryz.underlying29 Tryz.underlying5, ⟨rfl, rfl, rfl, ?_, fun k hk => Lib.bytesWorld_at_old w _ s k hk⟩, .inl (.inr ⟨_, 0, _, by rw [bv_length, hsz], ?_, grownCap_le_maxLen _ _ _ _ hs, ?_, fun j u hj => ?_⟩)⟩
  · rw [Lib.bytesWorld_size]; omega
  · rw [bv_length, hsz]; exact grownCap_ge _ _ _ _
  · rw [Lib.bytesWorld_size]; omega
  · have hj2 : j < s.size := by
      rcases Nat.lt_or_ge j s.size with h | h
      · exact h
      · rw [List.getElem?_eq_none (by rw [bv_length, hsz]; exact h)] at hj; cases hj
    rw [Nat.zero_add, Lib.bytesWorld_cell w _ s j hj2, ← hj, bv_get _ j (by rw [hsz]; exact hj2)]
    simp [List.getD, hj2]
end Go.Proofs.YtafkbodmiblbnaaGreatDoor
/- Contracts of the small functions on bytes: EqBytes, CopyBytes, slices.Grow, slices.Concat, slices.Clone. -/
namespace Go.Proofs.YtafkbodmiblbnaaGreatDoor
open Go.RowKit
set_option linter.unusedVariables false

theorem info8 : (Tryz.prog.info? 5).map (fun i => (i.zero, i.size, i.bytes)) = some (some (.int .u8 0), 1, 1) := by kernel_rfl

theorem eqBytes_any (a b : Value) (la lb : List UInt8) (w : World) (ha : Sl w a (bv la)) (hb : Sl w b (bv lb)) :
    Calls Tryz.prog 12 #[a, b] w fun e w' => e = .returned (.bool (la == lb)) ∧ w = w' := by
  have ca := conv_bytes (P := Tryz.prog) Tryz.underlying29 Tryz.underlying5 Tryz.underlying9 ha
  have cb := conv_bytes (P := Tryz.prog) Tryz.underlying29 Tryz.underlying5 Tryz.underlying9 hb
  clear ha hb
  go_enter Tryz.func12, Tryz.ntmps12
  go_wp2
  go_ret
  exact ⟨rfl, rfl⟩

/-- One append of what reads as bytes. -/
theorem append8 {w : World} {ty : TypeId} {base : Nat} {v x : Value} {xs ys : List UInt8} (hown : Own w base 5 v (bv xs)) (hx : Sl w x (bv ys)) (hlen : xs.length + ys.length ≤ 2199023255552) (hbase : base ≤ w.heap.size) :
    ∃ v' w', (Builtin.append_ #[29, 29] ty #[v, x]).run Tryz.prog w = .ok v' w' ∧ Own w' base 5 v' (bv (xs ++ ys)) ∧ w.grownBy w' v.ownBlock ∧ (v' = .slice none 0 0 → v = .slice none 0 0) := by
  obtain ⟨i0, hi, hz0, hz1, hz2⟩ := info_parts info8
  rw [bv_append]
  exact run_append_sl (P := Tryz.prog) Tryz.underlying29 hi hz0 hz1 (by omega) rfl hown hx (bv_one ys) (by rw [bv_length, bv_length]; exact hlen) hbase

theorem own_nil (w : World) (base : Nat) : Own w base 5 (.slice none 0 0) (bv []) := World.ownsRow_nil w base 5 1

theorem copyBytes_any (v : Value) (l : List UInt8) (w : World) (h : Sl w v (bv l)) (hlen : l.length ≤ 2199023255552) :
    Calls Tryz.prog 76 #[v] w fun e w' => (∃ v', e = .returned v' ∧ Own w' w.heap.size 5 v' (bv l)) ∧ Below w.heap.size w w' := by
  obtain ⟨v', w', hr, ho, hg, _⟩ := append8 (ty := 29) (own_nil w w.heap.size) h (by simpa using hlen) (Nat.le_refl _)
  have hb := below_grown hg (Nat.le_refl _) (by intro k hk; cases hk)
  rw [List.nil_append] at ho
  have Hr := Lib.hid hr
  clear h hg hr
  go_enter Tryz.func76, Tryz.ntmps76
  go_wp2_with (at_builtin; refine wpList_append_run rfl _ _ _ _ rfl rfl rfl Hr.out ?_)
  go_ret
  exact ⟨⟨v', rfl, ho⟩, hb⟩

theorem clone_any (v : Value) (l : List UInt8) (w : World) (h : Sl w v (bv l)) (hlen : l.length ≤ 2199023255552) :
    Calls Tryz.prog 64 #[v] w fun e w' => (∃ v', e = .returned v' ∧ Own w' w.heap.size 5 v' (bv l)) ∧ Below w.heap.size w w' := by
  have h' := Lib.hid h
  have hL := h.len
  rw [bv_length] at hL
  obtain ⟨a, c, rfl⟩ := hL
  cases a with
  | none =>
    have hx : l = [] ∧ c = 0 := by
      rcases h with (⟨hv, hx⟩ | ⟨b, off, cap, hv, _⟩) | ⟨x, c, hv, hx⟩
      · simp only [Value.slice.injEq] at hv
        exact ⟨(bv_nil_iff l).1 hx, hv.2.2⟩
      · simp at hv
      · simp at hv
    obtain ⟨rfl, rfl⟩ := hx
    rw [List.length_nil]
    have e1 := fun w => Lib.run_eql_slice_nil (P := Tryz.prog) w 29 5 none 0 0 0 0 Tryz.underlying29
    go_enter Tryz.func64, Tryz.ntmps64
    go_wp2
    go_ret
    exact ⟨⟨_, rfl, own_nil w _⟩, Below.refl _ _⟩
  | some x =>
    have e1 := fun w => Lib.run_eql_slice_nil (P := Tryz.prog) w 29 5 (some x) l.length c 0 0 Tryz.underlying29
    clear h
    have h0 : Own (w.alloc (.cells #[] 5)) w.heap.size 5 (.slice (some ⟨w.heap.size, 0, none⟩) 0 0) (bv []) := World.ownsRow_lit w #[] 0 (Nat.le_refl _) (by simp) rfl
    obtain ⟨v', w', hr, ho, hg, _⟩ := append8 (ty := 29) h0 (h'.out.below ((Below.refl w.heap.size w).alloc (Nat.le_refl _) _)) (by simpa using hlen) (by simp)
    have hb : Below w.heap.size w w' := ((Below.refl w.heap.size w).alloc (Nat.le_refl _) _).trans (below_grown hg (by simp) (by intro k hk; simp [Value.ownBlock] at hk; omega))
    rw [List.nil_append] at ho
    have H1 := Lib.hid hr
    clear hr hg h' h0
    go_enter Tryz.func64, Tryz.ntmps64
    go_wp2_with (at_builtin; refine wpList_append_run rfl _ _ _ _ rfl rfl rfl H1.out ?_)
    go_ret
    exact ⟨⟨v', rfl, ho⟩, hb⟩

end Go.Proofs.YtafkbodmiblbnaaGreatDoor
/- Contract of slices.Grow at bytes. -/
namespace Go.Proofs.YtafkbodmiblbnaaGreatDoor
open Go.RowKit
set_option linter.unusedVariables false
theorem grow_zero (w : World) :
    Calls Tryz.prog 111 #[.slice none 0 0, .int .i64 0] w fun e w' => (∃ v', e = .returned v' ∧ Own w' w.heap.size 5 v' (bv [])) ∧ Below w.heap.size w w' := by
  go_enter Tryz.func111, Tryz.ntmps111
  go_wp2
  go_ret
  exact ⟨⟨_, rfl, own_nil w _⟩, Below.refl _ _⟩

theorem own_grown (w : World) (n : Nat) (hn : n ≤ 2199023255552) :
    Own (w.drew.alloc (.cells (Builtin.zeroCells (Value.int .u8 0).cells n ++ Builtin.zeroCells (Value.int .u8 0).cells (grownCap w n 0 5 - n)) 5)) w.heap.size 5
      (.slice (some ⟨w.heap.size, 0, none⟩) 0 (grownCap w n 0 5)) (bv []) := by
  have hge := grownCap_ge w n 0 5
  have hcm := grownCap_le_maxLen w n 0 5 (by unfold maxLen; omega)
  refine World.ownsRow_made w.drew _ _ (Nat.le_refl _) hcm ?_
  simp only [Array.size_append, size_zeroCells]
  show n * 1 + _ * 1 = _
  omega

set_option maxRecDepth 100000 in
theorem grow_pos (n : Nat) (h0 : 0 < n) (hn : n ≤ 2199023255552) (w : World) :
    Calls Tryz.prog 111 #[.slice none 0 0, .int .i64 n] w fun e w' => (∃ v', e = .returned v' ∧ Own w' w.heap.size 5 v' (bv [])) ∧ Below w.heap.size w w' := by
  obtain ⟨i0, hi, hz0, hz1, hz2⟩ := info_parts info8
  have hr := Lib.run_append_nil_zeros (P := Tryz.prog) w 29 3 29 5 i0 _ .i64 .i64 Tryz.underlying29 Tryz.underlying3 hi hz0 n h0 (by omega) (by omega) (by rw [hz2]; omega)
  have ho := own_grown w n hn
  have hb : Below w.heap.size w (w.drew.alloc (.cells (Builtin.zeroCells (Value.int .u8 0).cells n ++ Builtin.zeroCells (Value.int .u8 0).cells (grownCap w n 0 5 - n)) 5)) := ((Below.refl _ w).drew).alloc (Nat.le_refl _) _
  generalize (w.drew.alloc (.cells (Builtin.zeroCells (Value.int .u8 0).cells n ++ Builtin.zeroCells (Value.int .u8 0).cells (grownCap w n 0 5 - n)) 5)) = w1 at *
  have hge := grownCap_ge w n 0 5
  generalize grownCap w n 0 5 = cap at *
  have H := Lib.hid hr
  clear hi hz0 hz1 hz2 hr
  go_enter Tryz.func111, Tryz.ntmps111
  go_wp2_with (at_builtin; refine wpList_append_run rfl _ _ _ _ rfl rfl rfl H.out ?_)
  go_ret
  exact ⟨⟨_, rfl, ho⟩, hb⟩

theorem grow_any (n : Nat) (hn : n ≤ 2199023255552) (w : World) :
    Calls Tryz.prog 111 #[.slice none 0 0, .int .i64 n] w fun e w' => (∃ v', e = .returned v' ∧ Own w' w.heap.size 5 v' (bv [])) ∧ Below w.heap.size w w' := by
  by_cases h : n = 0
  · subst h; exact grow_zero w
  · exact grow_pos n (by omega) hn w
end Go.Proofs.YtafkbodmiblbnaaGreatDoor
/- Contract of slices.Concat at []byte: the bytes of all of its arguments, one behind the other, in new memory. -/
namespace Go.Proofs.YtafkbodmiblbnaaGreatDoor
open Go.RowKit
set_option linter.unusedVariables false

/-- How many bytes the first k have. -/
def sumLen (ls : List (List UInt8)) : Nat := ls.flatten.length
theorem take_succ_flat (ls : List (List UInt8)) (k : Nat) (h : k < ls.length) : (ls.take (k + 1)).flatten = (ls.take k).flatten ++ ls[k] := by
  rw [List.take_succ_eq_append_getElem h, List.flatten_append]; simp
theorem sumLen_succ (ls : List (List UInt8)) (k : Nat) (h : k < ls.length) : sumLen (ls.take (k + 1)) = sumLen (ls.take k) + ls[k].length := by
  unfold sumLen; rw [take_succ_flat ls k h, List.length_append]
theorem sumLen_take (ls : List (List UInt8)) (k : Nat) : sumLen (ls.take k) ≤ sumLen ls := by
  unfold sumLen
  conv => rhs; rw [← List.take_append_drop k ls, List.flatten_append, List.length_append]
  omega

/-- The slices, each of which reads as bytes. -/
def Sls (w : World) (vs : List Value) (ls : List (List UInt8)) : Prop := vs.length = ls.length ∧ ∀ k (h : k < ls.length) v, vs[k]? = some v → Sl w v (bv ls[k])

set_option maxHeartbeats 400000 in
theorem concat_any (b off cap : Nat) (vs : List Value) (ls : List (List UInt8)) (w : World) (hc : ∀ j u, vs[j]? = some u → w.cell? ⟨b, off + j, none⟩ = some u) (hs : Sls w vs ls) (hn : ls.length ≤ 1000) (hlen : sumLen ls ≤ 2199023255552) :
    Calls Tryz.prog 79 #[.slice (some ⟨b, off, none⟩) ls.length cap] w fun e w' => (∃ v', e = .returned v' ∧ Own w' w.heap.size 5 v' (bv ls.flatten)) ∧ Below w.heap.size w w' := by
  obtain ⟨hvl, hsl⟩ := hs
  have Hc := Lib.hid hc
  have Hs := Lib.hid hsl
  have Hvl := Lib.hid hvl
  have Hlen := Lib.hid hlen
  clear hc hsl hvl hlen
  go_enter Tryz.func79, Tryz.ntmps79
  go_wp2_with fail
  go_loop [3, 11] (fun s i => ∃ k : Nat, k ≤ ls.length ∧ i = .int .i64 k ∧ s = .int .i64 (sumLen (ls.take k) : Nat)) (fun _ i => ls.length - (intOf i).toNat)
  case atStart => exact ⟨0, Nat.zero_le _, rfl, rfl⟩
  case round =>
    obtain ⟨k, hk, rfl, rfl⟩ := hrel
    by_cases hlt : k < ls.length
    · obtain ⟨u, hu⟩ : ∃ u, vs[k]? = some u := ⟨_, List.getElem?_eq_getElem (by rw [Hvl.out]; exact hlt)⟩
      have hcell := Hc.out k u hu
      obtain ⟨a, c, rfl⟩ := (Hs.out k hlt u hu).len
      clear hu
      have h1 := sumLen_succ ls k hlt
      have h2 := sumLen_take ls (k + 1)
      have h3 := Hlen.out
      rw [bv_length] at hcell
      generalize ls[k].length = m at *
      have HS := Lib.hid h1
      have hb1 : sumLen (ls.take k) + m ≤ 2199023255552 := by omega
      clear h1 h2 h3
      generalize sumLen (ls.take k) = s at *
      go_wp2
      go_round
      case rel => exact ⟨k + 1, by omega, by go_num, by rw [HS.out]; go_num⟩
      case measure => simp [intOf]; omega
    · have hs0 : sumLen (ls.take k) ≤ 2199023255552 := Nat.le_trans (sumLen_take ls k) Hlen.out
      generalize sumLen (ls.take k) = s at *
      go_wp2_with (go_at_call 111; refine (grow_any s hs0 _).mono ?_; rintro e w1 ⟨⟨v1, rfl, ho1⟩, hb1⟩)
      go_loopw [6, 27] (fun v i wr => ∃ k : Nat, k ≤ ls.length ∧ i = .int .i64 k ∧ Own wr w.heap.size 5 v (bv (ls.take k).flatten) ∧ Below w.heap.size w wr) (fun _ i _ => ls.length - (intOf i).toNat)
      case atStart => exact ⟨0, Nat.zero_le _, rfl, ho1, hb1⟩
      case round =>
        clear ho1 hb1
        obtain ⟨k, hk, rfl, ho, hbl⟩ := hrel
        by_cases hlt : k < ls.length
        · obtain ⟨u, hu⟩ : ∃ u, vs[k]? = some u := ⟨_, List.getElem?_eq_getElem (by rw [Hvl.out]; exact hlt)⟩
          have hcell := cell_later hbl (Hc.out k u hu)
          have hsl := (Hs.out k hlt u hu).below hbl
          have h1 := take_succ_flat ls k hlt
          have h2 : (ls.take k).flatten.length + ls[k].length ≤ 2199023255552 := by
            have := sumLen_succ ls k hlt
            have := sumLen_take ls (k + 1)
            have := Hlen.out
            unfold sumLen at *; omega
          obtain ⟨v', w', hr, ho', hg, _⟩ := append8 (ty := 29) ho hsl h2 hbl.size
          have hbl' := hbl.grown hg hbl.size (fun g hg' => (ho.lt g hg').1)
          rw [← h1] at ho'
          have H := Lib.hid hr
          clear hr hg h1 h2 hsl ho hbl hu
          go_wp2_with (at_builtin; refine wpList_append_run rfl _ _ _ _ rfl rfl rfl H.out ?_)
          go_roundw
          case rel => exact ⟨k + 1, by omega, by go_num, ho', hbl'⟩
          case measure => simp [intOf]; omega
        · have : k = ls.length := by omega
          rw [List.take_of_length_le (by omega)] at ho
          clear this
          go_wp2
          go_ret
          exact ⟨⟨_, rfl, ho⟩, hbl⟩
end Go.Proofs.YtafkbodmiblbnaaGreatDoor
