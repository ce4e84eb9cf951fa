/- Package item: Same. -/
import Derived.Test.YtcnbmeiielkigaaDoorItem4
import Derived.Test.YtcnbmeiielkigaaDoorSepPick
namespace Go.Proofs.YtcnbmeiielkigaaDoor
open Go.RowKit
set_option linter.unusedVariables false
set_option linter.unusedSimpArgs false
theorem str_ne {x y : ByteArray} (h : ¬ x = y) : (x.toList == y.toList) = false := by
  rw [beq_eq_false_iff_ne, ByteArray.toList_eq, ByteArray.toList_eq]
  exact fun e => h (ByteArray.ext (Array.toList_inj.mp e))
theorem takeL_succ {la lb : List Ln} {k : Nat} (h : la.take k = lb.take k) (ha : k < la.length) (hb : k < lb.length) (he : la[k] = lb[k]) : la.take (k + 1) = lb.take (k + 1) := by
  rw [List.take_succ_eq_append_getElem ha, List.take_succ_eq_append_getElem hb, h, he]
set_option maxRecDepth 100000 in
set_option maxHeartbeats 2000000 in
theorem equalL_any {w0 w : World} {L : List Thing} (va vb : Value) (la lb : List Ln) (hs : Sep w0 L w) (ha : LnS w va la) (hb : LnS w vb lb) (hl : la.length ≤ 9223372036854775807) :
    Calls Tryd.prog 53 #[va, vb] w fun e w' => e = .returned (.bool (decide (la = lb))) ∧ Sep w0 L w' := by
  obtain ⟨aa, ca, rfl⟩ := ha.len
  obtain ⟨ab, cb, rfl⟩ := hb.len
  have HA := Lib.hid ha
  have HB := Lib.hid hb
  have HS := Lib.hid hs
  clear ha hb hs
  by_cases hne : la.length = lb.length
  · have hn : (((la.length : Nat) : Int) != ((lb.length : Nat) : Int)) = false := by simp [hne]
    have hn' : (la.length != lb.length) = false := by simp [hne]
    have HN := Lib.hid hne
    obtain ⟨r, hr⟩ : ∃ r : Bool, r = decide (la = lb) := ⟨_, rfl⟩
    rw [← hr]
    have HR := Lib.hid hr
    clear hne hr
    go_enter Tryd.func53, Tryd.ntmps53
    go_wp2_with fail
    go_loopw [13] (fun i wr => ∃ k m : Nat, k ≤ la.length ∧ i = .int .i64 k ∧ la.take k = lb.take k ∧ wr = w.drewN m) (fun i _ => la.length - (intOf i).toNat)
    case atStart => exact ⟨0, 0, by omega, rfl, rfl, rfl⟩
    case round =>
      obtain ⟨k, m, hk, rfl, ht, rfl⟩ := hrel
      have k0 : (0 : Int) ≤ (k : Int) := by omega
      have kb : (k : Int) ≤ 9223372036854775807 := by omega
      by_cases hkn : k < la.length
      · have hd : decide (k < la.length) = true := decide_eq_true hkn
        have hkb : k < lb.length := by have := HN.out; omega
        have k1 : (k : Int) < (la.length : Int) := by omega
        have k2 : (k : Int) < (lb.length : Int) := by omega
        obtain ⟨-, -, -, b1, o1, rfl, -, hc1⟩ := HA.out.at hkn
        obtain ⟨-, -, -, b2, o2, rfl, -, hc2⟩ := HB.out.at hkb
        obtain ⟨c0, c1⟩ := hc1 w (Below.refl _ w)
        obtain ⟨d0, d1⟩ := hc2 w (Below.refl _ w)
        by_cases he : la[k] = lb[k]
        · have HT := Lib.hid (takeL_succ ht hkn hkb he)
          rw [← he] at d0 d1
          generalize la[k] = z at *
          clear ht hc1 hc2 hkn hkb he
          go_wp2_with fail
          go_quiet (fail)
          go_wp2_with fail
          go_roundw
          case rel => exact ⟨k + 1, m + nq, of_decide_eq_true hd, by go_num, HT.out, by simp [World.drewN, Nat.add_assoc]⟩
          case measure => have hkn := of_decide_eq_true hd; simp [intOf]; omega
        · have HF : Hid (r = false) := Lib.hid (by
            rw [HR.out]
            exact decide_eq_false fun e => by subst e; exact he rfl)
          generalize la[k] = z at *
          generalize lb[k] = z' at *
          by_cases hs : z.1.1 = z'.1.1
          · have e2 : (z.2 == z'.2) = false := by
              rw [beq_eq_false_iff_ne]
              exact fun h => he (Prod.ext (Subtype.ext hs) h)
            rw [← hs] at d0
            clear ht hc1 hc2 hkn hkb he hs
            go_wp2_with fail
            go_quiet (fail)
            go_wp2_with fail
            go_ret
            rw [HF.out]
            exact ⟨rfl, (HS.out.drewN m).drewN nq⟩
          · have e3 : (z.1.1.toList == z'.1.1.toList) = false := str_ne hs
            have e4 : (z.1.1.toList != z'.1.1.toList) = true := by rw [bne, e3]; rfl
            clear ht hc1 hc2 hkn hkb he hs
            go_wp2_with fail
            go_quiet (fail)
            go_wp2_with fail
            go_ret
            rw [HF.out]
            exact ⟨rfl, (HS.out.drewN m).drewN nq⟩
      · have hd : decide (k < la.length) = false := decide_eq_false hkn
        have HF : Hid (r = true) := Lib.hid (by
          rw [HR.out]
          have hkl : k = la.length := by omega
          rw [hkl, List.take_length, HN.out, List.take_length] at ht
          exact decide_eq_true ht)
        clear ht hkn
        go_wp2_with fail
        go_ret
        rw [HF.out]
        exact ⟨rfl, HS.out.drewN m⟩
  · have hn : (((la.length : Nat) : Int) != ((lb.length : Nat) : Int)) = true := by rw [bne_iff_ne]; omega
    have hn' : (la.length != lb.length) = true := by rw [bne_iff_ne]; exact hne
    have hx : decide (la = lb) = false := decide_eq_false fun e => hne (by rw [e])
    rw [hx]
    clear hne hx
    go_enter Tryd.func53, Tryd.ntmps53
    go_wp2_with fail
    go_ret
    exact ⟨rfl, HS.out⟩
def sameB (k : Int) (s : KS) (o n : Int) (ls : List Ln) (k' : Int) (s' : KS) (o' n' : Int) (ls' : List Ln) : Bool := decide (k = k') && decide (s.1 = s'.1) && decide (o = o') && decide (n = n') && decide (ls = ls')
set_option maxRecDepth 100000 in
set_option maxHeartbeats 4000000 in
theorem same_any {w0 w : World} {L : List Thing} (k : Int) (s : KS) (o n : Int) (v : Value) (ls : List Ln) (k' : Int) (s' : KS) (o' n' : Int) (v' : Value) (ls' : List Ln) (h : Sep w0 L w) (hv : LnS w v ls) (hv' : LnS w v' ls') (hl : ls.length ≤ 9223372036854775807) :
    Calls Tryd.prog 44 #[.agg #[.int .i64 k, .string s.1, .int .i64 o, .int .i64 n, v], .agg #[.int .i64 k', .string s'.1, .int .i64 o', .int .i64 n', v']] w fun e w' => e = .returned (.bool (sameB k s o n ls k' s' o' n' ls')) ∧ Sep w0 L w' := by
  suffices hh : Calls Tryd.prog 44 #[.agg #[.int .i64 k, .string s.1, .int .i64 o, .int .i64 n, v], .agg #[.int .i64 k', .string s'.1, .int .i64 o', .int .i64 n', v']] w fun e w' => e = .returned (.bool (sameB k s o n ls k' s' o' n' ls')) ∧ Sep w [] w' from hh.mono fun e w' ⟨h1, h2⟩ => ⟨h1, h.below h2.low⟩
  clear h
  obtain ⟨a, c, rfl⟩ := hv.len
  obtain ⟨a', c', rfl⟩ := hv'.len
  obtain ⟨wa, hwa⟩ : ∃ z, z = (w.alloc (.cells (opCells k s o n (.slice a ls.length c)) 33)).alloc (.cells (opCells k' s' o' n' (.slice a' ls'.length c')) 33) := ⟨_, rfl⟩
  have h1 := ((Sep.start w).alloc (.cells (opCells k s o n (.slice a ls.length c)) 33)).alloc (.cells (opCells k' s' o' n' (.slice a' ls'.length c')) 33)
  rw [← hwa] at h1
  rw [show (w.alloc (.cells (opCells k s o n (.slice a ls.length c)) 33)).heap.size = w.heap.size + 1 by simp] at h1
  have HE := Lib.hid (equalL_any _ _ ls ls' (Sep.start wa) (hv.below h1.low) (hv'.below h1.low) hl)
  obtain ⟨c0, c1, c2, c3, c4⟩ := op_cells h1.sw2
  obtain ⟨d0, d1, d2, d3, d4⟩ := op_cells h1
  have HL := Lib.hid h1.low
  unfold opCells at hwa
  clear h1 hv hv'
  unfold sameB
  by_cases e0 : k = k'
  · subst e0
    rw [decide_eq_true rfl, Bool.true_and]
    by_cases e1 : s.1 = s'.1
    · rw [decide_eq_true e1, Bool.true_and]
      rw [← e1] at d1 hwa ⊢
      clear e1
      by_cases e2 : o = o'
      · subst e2
        rw [decide_eq_true rfl, Bool.true_and]
        by_cases e3 : n = n'
        · subst e3
          rw [decide_eq_true rfl, Bool.true_and]
          generalize decide (ls = ls') = r at *
          go_enter Tryd.func44, Tryd.ntmps44
          go_wp2_with fail
          rw [← hwa]
          clear hwa
          go_wp2_with fail
          refine HE.out.mono ?_
          rintro r0 w1 ⟨rfl, h2⟩
          have H2 := Lib.hid (HL.out.trans (h2.low.mono HL.out.size))
          clear h2
          go_wp2_with fail
          go_ret
          exact ⟨rfl, Sep.nil H2.out⟩
        · rw [decide_eq_false e3, Bool.false_and]
          have f : (n == n') = false := beq_eq_false_iff_ne.2 e3
          clear e3
          go_enter Tryd.func44, Tryd.ntmps44
          go_wp2_with fail
          rw [← hwa]
          clear hwa
          go_wp2_with fail
          go_ret
          exact ⟨rfl, Sep.nil HL.out⟩
      · rw [decide_eq_false e2, Bool.false_and, Bool.false_and]
        have f : (o == o') = false := beq_eq_false_iff_ne.2 e2
        clear e2
        go_enter Tryd.func44, Tryd.ntmps44
        go_wp2_with fail
        rw [← hwa]
        clear hwa
        go_wp2_with fail
        go_ret
        exact ⟨rfl, Sep.nil HL.out⟩
    · rw [decide_eq_false e1, Bool.false_and, Bool.false_and, Bool.false_and]
      have f := str_ne e1
      clear e1
      go_enter Tryd.func44, Tryd.ntmps44
      go_wp2_with fail
      rw [← hwa]
      clear hwa
      go_wp2_with fail
      go_ret
      exact ⟨rfl, Sep.nil HL.out⟩
  · rw [decide_eq_false e0, Bool.false_and, Bool.false_and, Bool.false_and, Bool.false_and]
    have f : (k == k') = false := beq_eq_false_iff_ne.2 e0
    clear e0
    go_enter Tryd.func44, Tryd.ntmps44
    go_wp2_with fail
    rw [← hwa]
    clear hwa
    go_wp2_with fail
    go_ret
    exact ⟨rfl, Sep.nil HL.out⟩
end Go.Proofs.YtcnbmeiielkigaaDoor
