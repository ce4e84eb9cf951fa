/- Two lists of ints held against each other (without sorting). -/
import Derived.Test.YtcnbmeiielkigaaDoorIntsI
import Derived.Deep.QuietTactic
import Derived.BigQuiet
namespace Go.Proofs.YtcnbmeiielkigaaDoor
open Go.RowKit
set_option linter.unusedVariables false
set_option linter.unusedSimpArgs false
theorem take_succ_eq {la lb : List Int} {k : Nat} (h : la.take k = lb.take k) (ha : k < la.length) (hb : k < lb.length) (he : la[k] = lb[k]) : la.take (k + 1) = lb.take (k + 1) := by
  rw [List.take_succ_eq_append_getElem ha, List.take_succ_eq_append_getElem hb, h, he]
set_option maxRecDepth 100000 in
set_option maxHeartbeats 1000000 in
theorem eqInts_sep {w0 w : World} {L : List Thing} (va vb : Value) (la lb : List Int) (hs : Sep w0 L w) (ha : Sl w va (iv .i64 la)) (hb : Sl w vb (iv .i64 lb)) (hl : la.length ≤ 1000000) :
    Calls Tryd.prog 22 #[va, vb] w fun e w' => e = .returned (.bool (la == lb)) ∧ Sep w0 L w' := by
  obtain ⟨aa, ca, rfl⟩ := ha.len
  obtain ⟨ab, cb, rfl⟩ := hb.len
  rw [iv_length] at ha hb ⊢
  rw [iv_length]
  have HA := Lib.hid ha
  have HB := Lib.hid hb
  have HS := Lib.hid hs
  clear ha hb hs
  by_cases hne : la.length = lb.length
  · have hn : (((la.length : Nat) : Int) != ((lb.length : Nat) : Int)) = false := by simp [hne]
    have hn' : (la.length != lb.length) = false := by simp [hne]
    have HN := Lib.hid hne
    clear hne
    go_enter Tryd.func22, Tryd.ntmps22
    go_wp2_with fail
    go_loopw [5] (fun i wr => ∃ k m : Nat, k ≤ la.length ∧ i = .int .i64 k ∧ la.take k = lb.take k ∧ wr = w.drewN m) (fun i _ => la.length - (intOf i).toNat)
    case atStart => exact ⟨0, 0, by omega, rfl, rfl, rfl⟩
    case round =>
      obtain ⟨k, m, hk, rfl, ht, rfl⟩ := hrel
      have k0 : (0 : Int) ≤ (k : Int) := by omega
      have kb : (k : Int) ≤ 1000000 := by omega
      by_cases hkn : k < la.length
      · have hd : decide (k < la.length) = true := decide_eq_true hkn
        have hkb : k < lb.length := by have := HN.out; omega
        have hd2 : decide (k < lb.length) = true := decide_eq_true hkb
        obtain ⟨b1, o1, rfl, _, hc1⟩ := HA.out.at (by omega)
        obtain ⟨b2, o2, rfl, _, hc2⟩ := HB.out.at (by omega)
        have c1 := hc1 k _ (iv_get _ la k hkn)
        have c2 := hc2 k _ (iv_get _ lb k hkb)
        have k1 : (k : Int) < (la.length : Int) := by omega
        have k2 : (k : Int) < (lb.length : Int) := by omega
        by_cases he : la[k] = lb[k]
        · have HT := Lib.hid (take_succ_eq ht hkn hkb he)
          rw [← he] at c2
          have heq : (la[k] != la[k]) = false := by simp
          generalize la[k] = z at c1 c2 heq
          clear ht hc1 hc2 hkn hkb he
          go_wp2_with fail
          go_quiet (fail)
          go_wp2_with fail
          go_roundw
          case rel => exact ⟨k + 1, m + nq, of_decide_eq_true hd, by go_num, HT.out, by simp [World.drewN, Nat.add_assoc]⟩
          case measure => have hkn := of_decide_eq_true hd; simp [intOf]; omega
        · have hx : (la == lb) = false := by
            rw [beq_eq_false_iff_ne]
            intro e
            subst e
            exact he rfl
          have HX := Lib.hid hx
          have heq : (la[k] != lb[k]) = true := by rw [bne_iff_ne]; exact he
          generalize la[k] = z at c1 heq
          generalize lb[k] = z' at c2 heq
          clear ht hc1 hc2 hkn hkb he hx
          go_wp2_with fail
          go_quiet (fail)
          go_wp2_with fail
          go_ret
          rw [HX.out]
          exact ⟨rfl, (HS.out.drewN m).drewN nq⟩
      · have hd : decide (k < la.length) = false := decide_eq_false hkn
        have hkl : k = la.length := by omega
        have hx : (la == lb) = true := by
          rw [beq_iff_eq]
          rw [hkl, List.take_length] at ht
          rw [ht, HN.out, List.take_length]
        have HX := Lib.hid hx
        clear ht hkl hkn hx
        go_wp2_with fail
        go_ret
        rw [HX.out]
        exact ⟨rfl, HS.out.drewN m⟩
  · have hn : (((la.length : Nat) : Int) != ((lb.length : Nat) : Int)) = true := by rw [bne_iff_ne]; omega
    have hn' : (la.length != lb.length) = true := by rw [bne_iff_ne]; exact hne
    have hx : (la == lb) = false := by
      rw [beq_eq_false_iff_ne]
      intro e
      exact hne (by rw [e])
    rw [hx]
    clear hne hx
    go_enter Tryd.func22, Tryd.ntmps22
    go_wp2_with fail
    go_ret
    exact ⟨rfl, HS.out⟩
end Go.Proofs.YtcnbmeiielkigaaDoor
