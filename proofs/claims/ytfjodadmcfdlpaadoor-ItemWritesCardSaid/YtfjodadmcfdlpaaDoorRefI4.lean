/- The document's own item: Same. -/
import Derived.Test.YtfjodadmcfdlpaaDoorRefI2
import Derived.Test.YtfjodadmcfdlpaaDoorItem5
import Derived.Test.YtfjodadmcfdlpaaDoorItem7
namespace Go.Proofs.YtfjodadmcfdlpaaDoor
open Go.RowKit
set_option linter.unusedVariables false
set_option linter.unusedSimpArgs false
theorem sameB_split (k : Int) (s : KS) (o n : Int) (ls : List Ln) (k' : Int) (s' : KS) (o' n' : Int) (ls' : List Ln) :
    (k ≠ k' ∧ sameB k s o n ls k' s' o' n' ls' = false) ∨ (k = k' ∧ s.1 ≠ s'.1 ∧ sameB k s o n ls k' s' o' n' ls' = false) ∨ (k = k' ∧ s.1 = s'.1 ∧ o ≠ o' ∧ sameB k s o n ls k' s' o' n' ls' = false) ∨
    (k = k' ∧ s.1 = s'.1 ∧ o = o' ∧ n ≠ n' ∧ sameB k s o n ls k' s' o' n' ls' = false) ∨ (k = k' ∧ s.1 = s'.1 ∧ o = o' ∧ n = n' ∧ ls.length ≠ ls'.length ∧ sameB k s o n ls k' s' o' n' ls' = false) ∨
    (k = k' ∧ s.1 = s'.1 ∧ o = o' ∧ n = n' ∧ ls.length = ls'.length ∧ sameB k s o n ls k' s' o' n' ls' = decide (ls = ls')) := by
  by_cases h1 : k = k'
  · by_cases h2 : s.1 = s'.1
    · by_cases h3 : o = o'
      · by_cases h4 : n = n'
        · by_cases h5 : ls.length = ls'.length
          · exact .inr (.inr (.inr (.inr (.inr ⟨h1, h2, h3, h4, h5, by simp [sameB, h1, h2, h3, h4]⟩))))
          · exact .inr (.inr (.inr (.inr (.inl ⟨h1, h2, h3, h4, h5, by
              have : decide (ls = ls') = false := decide_eq_false fun e => h5 (by rw [e])
              unfold sameB; rw [this]; simp⟩))))
        · exact .inr (.inr (.inr (.inl ⟨h1, h2, h3, h4, by simp [sameB, h4]⟩)))
      · exact .inr (.inr (.inl ⟨h1, h2, h3, by simp [sameB, h3]⟩))
    · exact .inr (.inl ⟨h1, h2, by simp [sameB, h2]⟩)
  · exact .inl ⟨h1, by simp [sameB, h1]⟩
set_option maxRecDepth 100000 in
set_option maxHeartbeats 16000000 in
theorem rsame_any {w0 w : World} {L : List Thing} (k : Int) (s : KS) (o n : Int) (v : Value) (la : List Ln) (k' : Int) (s' : KS) (o' n' : Int) (v' : Value) (lb : List Ln) (h : Sep w0 L w) (ha : LnS w v la) (hb : LnS w v' lb) (hl : la.length ≤ 140737488355327) :
    Calls Tryd.prog 20 #[.agg #[.int .i64 k, .string s.1, .int .i64 o, .int .i64 n, v], .agg #[.int .i64 k', .string s'.1, .int .i64 o', .int .i64 n', v']] w fun e w' => e = .returned (.bool (sameB k s o n la k' s' o' n' lb)) ∧ Sep w0 L w' := by
  suffices hh : Calls Tryd.prog 20 #[.agg #[.int .i64 k, .string s.1, .int .i64 o, .int .i64 n, v], .agg #[.int .i64 k', .string s'.1, .int .i64 o', .int .i64 n', v']] w fun e w' => e = .returned (.bool (sameB k s o n la k' s' o' n' lb)) ∧ Sep w [] w' from hh.mono fun e w' ⟨h1, h2⟩ => ⟨h1, h.below h2.low⟩
  clear h
  obtain ⟨aa, ca, rfl⟩ := ha.len
  obtain ⟨ab, cb, rfl⟩ := hb.len
  obtain ⟨wa, hwa⟩ : ∃ z, z = (w.alloc (.cells (opCells k s o n (.slice aa la.length ca)) 24)).alloc (.cells (opCells k' s' o' n' (.slice ab lb.length cb)) 24) := ⟨_, rfl⟩
  have h1 := ((Sep.start w).alloc (.cells (opCells k s o n (.slice aa la.length ca)) 24)).alloc (.cells (opCells k' s' o' n' (.slice ab lb.length cb)) 24)
  rw [← hwa] at h1
  rw [show (w.alloc (.cells (opCells k s o n (.slice aa la.length ca)) 24)).heap.size = w.heap.size + 1 by simp] at h1
  obtain ⟨b1, hb1⟩ : ∃ z, z = w.heap.size := ⟨_, rfl⟩
  obtain ⟨b2, hb2⟩ : ∃ z, z = w.heap.size + 1 := ⟨_, rfl⟩
  rw [← hb2, ← hb1] at h1
  have HA := Lib.hid (ha.below h1.low)
  have HB := Lib.hid (hb.below h1.low)
  have HS := Lib.hid h1
  obtain ⟨p0, p1, p2, p3, p4⟩ := op_cells h1.sw2
  obtain ⟨q0, q1, q2, q3, q4⟩ := op_cells h1
  unfold opCells at hwa
  clear ha hb h1
  rcases sameB_split k s o n la k' s' o' n' lb with ⟨e1, er⟩ | ⟨rfl, e1, er⟩ | ⟨rfl, e2, e1, er⟩ | ⟨rfl, e2, rfl, e1, er⟩ | ⟨rfl, e2, rfl, rfl, e1, er⟩ | ⟨rfl, e2, rfl, rfl, hne, er⟩
  · rw [er]
    have x1 : (k != k') = true := by rw [bne_iff_ne]; exact e1
    clear er e1
    go_enter Tryd.func20, Tryd.ntmps20
    go_wp2_with fail
    go_ret
    exact ⟨rfl, by first | exact .nil HS.out.low | (rw [← hwa]; exact .nil HS.out.low)⟩
  · rw [er]
    have x1 : (s.1.toList != s'.1.toList) = true := by rw [bne, str_ne e1]; rfl
    have x0 : (s.1.toList == s'.1.toList) = false := str_ne e1
    clear er e1
    go_enter Tryd.func20, Tryd.ntmps20
    go_wp2_with fail
    go_ret
    exact ⟨rfl, by first | exact .nil HS.out.low | (rw [← hwa]; exact .nil HS.out.low)⟩
  · rw [er]
    have x1 : (o != o') = true := by rw [bne_iff_ne]; exact e1
    obtain rfl : s = s' := Subtype.ext e2
    clear er e1 e2
    go_enter Tryd.func20, Tryd.ntmps20
    go_wp2_with fail
    go_ret
    exact ⟨rfl, by first | exact .nil HS.out.low | (rw [← hwa]; exact .nil HS.out.low)⟩
  · rw [er]
    have x1 : (n != n') = true := by rw [bne_iff_ne]; exact e1
    obtain rfl : s = s' := Subtype.ext e2
    clear er e1 e2
    go_enter Tryd.func20, Tryd.ntmps20
    go_wp2_with fail
    go_ret
    exact ⟨rfl, by first | exact .nil HS.out.low | (rw [← hwa]; exact .nil HS.out.low)⟩
  · rw [er]
    have x1 : (((la.length : Nat) : Int) != ((lb.length : Nat) : Int)) = true := by rw [bne_iff_ne]; omega
    have x2 : (la.length != lb.length) = true := by rw [bne_iff_ne]; exact e1
    obtain rfl : s = s' := Subtype.ext e2
    clear er e1 e2
    go_enter Tryd.func20, Tryd.ntmps20
    go_wp2_with fail
    go_ret
    exact ⟨rfl, by first | exact .nil HS.out.low | (rw [← hwa]; exact .nil HS.out.low)⟩
  · rw [er]
    clear er
    obtain rfl : s = s' := Subtype.ext e2
    have hn : (((la.length : Nat) : Int) != ((lb.length : Nat) : Int)) = false := by simp [hne]
    have hn' : (la.length != lb.length) = false := by simp [hne]
    have HN := Lib.hid hne
    obtain ⟨r, hr⟩ : ∃ r : Bool, r = decide (la = lb) := ⟨_, rfl⟩
    rw [← hr]
    have HR := Lib.hid hr
    clear hne hr
    go_enter Tryd.func20, Tryd.ntmps20
    go_wp2_with fail
    rw [← hwa]
    rw [← hb2]
    rw [← hb1]
    clear hwa hb1 hb2
    go_wp2_with fail
    go_loopw [5] (fun i wr => ∃ k m : Nat, k ≤ la.length ∧ i = .int .i64 k ∧ la.take k = lb.take k ∧ wr = wa.drewN m) (fun i _ => la.length - (intOf i).toNat)
    case atStart => exact ⟨0, 0, by omega, rfl, rfl, rfl⟩
    case round =>
      obtain ⟨j, m, hk, rfl, ht, rfl⟩ := hrel
      have k0 : (0 : Int) ≤ (j : Int) := by omega
      have kb : (j : Int) ≤ 140737488355327 := by omega
      by_cases hkn : j < la.length
      · have hd : decide (j < la.length) = true := decide_eq_true hkn
        have hkb : j < lb.length := by have := HN.out; omega
        have k1 : (j : Int) < (la.length : Int) := by omega
        have k2 : (j : Int) < (lb.length : Int) := by omega
        obtain ⟨-, -, -, b3, o3, rfl, -, hc1⟩ := HA.out.at hkn
        obtain ⟨-, -, -, b4, o4, rfl, -, hc2⟩ := HB.out.at hkb
        obtain ⟨c0, c1⟩ := hc1 wa (Below.refl _ wa)
        obtain ⟨d0, d1⟩ := hc2 wa (Below.refl _ wa)
        by_cases he : la[j] = lb[j]
        · have HT := Lib.hid (takeL_succ ht hkn hkb he)
          rw [← he] at d0 d1
          generalize la[j] = z at *
          clear ht hc1 hc2 hkn hkb he
          go_wp2_with fail
          go_quiet (fail)
          go_wp2_with fail
          go_roundw
          case rel => exact ⟨j + 1, m + nq, of_decide_eq_true hd, by go_num, HT.out, by simp [World.drewN, Nat.add_assoc]⟩
          case measure => have hkn := of_decide_eq_true hd; simp [intOf]; omega
        · have HF : Hid (r = false) := Lib.hid (by
            rw [HR.out]
            exact decide_eq_false fun e => by subst e; exact he rfl)
          generalize la[j] = z at *
          generalize lb[j] = z' at *
          by_cases hs : z.1.1 = z'.1.1
          · have e2 : (z.2 == z'.2) = false := by
              rw [beq_eq_false_iff_ne]
              exact fun h => he (Prod.ext (Subtype.ext hs) h)
            rw [← hs] at d0
            clear ht hc1 hc2 hkn hkb he hs
            go_wp2_with fail
            go_quiet (fail)
            go_wp2_with fail
            go_ret
            rw [HF.out]
            exact ⟨rfl, .nil ((HS.out.drewN m).drewN nq).low⟩
          · have e3 : (z.1.1.toList == z'.1.1.toList) = false := str_ne hs
            have e4 : (z.1.1.toList != z'.1.1.toList) = true := by rw [bne, e3]; rfl
            clear ht hc1 hc2 hkn hkb he hs
            go_wp2_with fail
            go_quiet (fail)
            go_wp2_with fail
            go_ret
            rw [HF.out]
            exact ⟨rfl, .nil ((HS.out.drewN m).drewN nq).low⟩
      · have hd : decide (j < la.length) = false := decide_eq_false hkn
        have HF : Hid (r = true) := Lib.hid (by
          rw [HR.out]
          have hkl : j = la.length := by omega
          rw [hkl, List.take_length, HN.out, List.take_length] at ht
          exact decide_eq_true ht)
        clear ht hkn
        go_wp2_with fail
        go_ret
        rw [HF.out]
        exact ⟨rfl, .nil (HS.out.drewN m).low⟩
end Go.Proofs.YtfjodadmcfdlpaaDoor
