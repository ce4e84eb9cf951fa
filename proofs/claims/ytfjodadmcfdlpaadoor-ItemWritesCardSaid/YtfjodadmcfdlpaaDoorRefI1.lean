/- The document's own item: names, kinds. -/
import Derived.Test.YtfjodadmcfdlpaaDoorItem
import Derived.Test.YtfjodadmcfdlpaaDoorItem2
import Derived.Test.YtfjodadmcfdlpaaDoorItem3
namespace Go.Proofs.YtfjodadmcfdlpaaDoor
open Go.RowKit
set_option linter.unusedVariables false
set_option linter.unusedSimpArgs false
def wthB (n a b : Int) : Bool := decide (a ≤ n) && decide (n ≤ b)
theorem within_any (n a b : Int) (w : World) : Calls Tryd.prog 45 #[.int .i64 n, .int .i64 a, .int .i64 b] w fun e w' => e = .returned (.bool (wthB n a b)) ∧ w = w' := by
  by_cases h1 : a ≤ n
  · by_cases h2 : n ≤ b
    · rw [show wthB n a b = true by simp [wthB, h1, h2]]
      go_enter Tryd.func45, Tryd.ntmps45
      go_wp2
      go_ret
      exact ⟨rfl, rfl⟩
    · rw [show wthB n a b = false by simp [wthB, h2]]
      go_enter Tryd.func45, Tryd.ntmps45
      go_wp2
      go_ret
      exact ⟨rfl, rfl⟩
  · rw [show wthB n a b = false by simp [wthB, h1]]
    go_enter Tryd.func45, Tryd.ntmps45
    go_wp2
    go_ret
    exact ⟨rfl, rfl⟩
theorem wthB_qty (n : Int) : wthB n 1 2147483647 = qtyB n := rfl
def skuK (k : Int) : Bool := (k == 1) || (k == 2) || (k == 8)
def ordK (k : Int) : Bool := (decide (3 ≤ k) && decide (k ≤ 6)) || (k == 9)
def numK (k : Int) : Bool := (decide (1 ≤ k) && decide (k ≤ 3)) || (k == 7)
theorem hasSku_any (k : Int) (w : World) : Calls Tryd.prog 36 #[.int .i64 k] w fun e w' => e = .returned (.bool (skuK k)) ∧ w = w' := by
  by_cases h1 : k = 1
  · subst h1
    go_enter Tryd.func36, Tryd.ntmps36
    go_wp2
    go_ret
    exact ⟨rfl, rfl⟩
  · by_cases h2 : k = 2
    · subst h2
      go_enter Tryd.func36, Tryd.ntmps36
      go_wp2
      go_ret
      exact ⟨rfl, rfl⟩
    · have e1 : (k == 1) = false := by rw [beq_eq_false_iff_ne]; exact h1
      have e2 : (k == 2) = false := by rw [beq_eq_false_iff_ne]; exact h2
      rw [show skuK k = (k == 8) by simp [skuK, e1, e2]]
      clear h1 h2
      go_enter Tryd.func36, Tryd.ntmps36
      go_wp2
      go_ret
      exact ⟨rfl, rfl⟩
theorem hasOrder_any (k : Int) (w : World) : Calls Tryd.prog 38 #[.int .i64 k] w fun e w' => e = .returned (.bool (ordK k)) ∧ w = w' := by
  by_cases h1 : 3 ≤ k
  · by_cases h2 : k ≤ 6
    · rw [show ordK k = true by simp [ordK, h1, h2]]
      go_enter Tryd.func38, Tryd.ntmps38
      go_wp2
      go_ret
      exact ⟨rfl, rfl⟩
    · rw [show ordK k = (k == 9) by simp [ordK, h2]]
      go_enter Tryd.func38, Tryd.ntmps38
      go_wp2
      go_ret
      exact ⟨rfl, rfl⟩
  · rw [show ordK k = (k == 9) by simp [ordK, h1]]
    go_enter Tryd.func38, Tryd.ntmps38
    go_wp2
    go_ret
    exact ⟨rfl, rfl⟩
theorem hasN_any (k : Int) (w : World) : Calls Tryd.prog 41 #[.int .i64 k] w fun e w' => e = .returned (.bool (numK k)) ∧ w = w' := by
  by_cases h1 : 1 ≤ k
  · by_cases h2 : k ≤ 3
    · rw [show numK k = true by simp [numK, h1, h2]]
      go_enter Tryd.func41, Tryd.ntmps41
      go_wp2
      go_ret
      exact ⟨rfl, rfl⟩
    · rw [show numK k = (k == 7) by simp [numK, h2]]
      go_enter Tryd.func41, Tryd.ntmps41
      go_wp2
      go_ret
      exact ⟨rfl, rfl⟩
  · rw [show numK k = (k == 7) by simp [numK, h1]]
    go_enter Tryd.func41, Tryd.ntmps41
    go_wp2
    go_ret
    exact ⟨rfl, rfl⟩
set_option maxHeartbeats 1000000 in
theorem rname_any (s : ByteArray) (w : World) (hs : s.size ≤ maxLen) : Calls Tryd.prog 23 #[.string s] w fun e w' => e = .returned (.bool (nameB s)) ∧ w = w' := by
  unfold maxLen at hs
  obtain ⟨r, hr⟩ : ∃ r, r = nameB s := ⟨_, rfl⟩
  rw [← hr]
  have HR : Hid (r = (decide (1 ≤ s.size) && decide (s.size ≤ 8) && s.data.toList.all goodC)) := Lib.hid hr
  clear hr
  go_enter Tryd.func23, Tryd.ntmps23
  go_wp2
  go_loop [3] (fun i => ∃ k : Nat, k ≤ s.size ∧ i = .int .i64 k ∧ (s.data.toList.take k).all goodC = true) (fun i => s.size - (intOf i).toNat)
  case atStart => exact ⟨0, Nat.zero_le _, rfl, by simp⟩
  case round =>
    obtain ⟨k, hk, rfl, ht⟩ := hrel
    have k0 : (0 : Int) ≤ (k : Int) := by omega
    by_cases hlt : k < s.size
    · have hd : decide (k < s.size) = true := decide_eq_true hlt
      have hts := take_snoc s k hlt
      have hb8 : s[k].toNat < 256 := s[k].toNat_lt
      cases hg : goodC s[k] with
      | true =>
        have HT : Hid ((s.data.toList.take (k + 1)).all goodC = true) := Lib.hid (by rw [hts, List.all_append, ht]; simp [hg])
        have hok := goodC_ok hg
        clear hg hts ht
        by_cases a1 : 97 ≤ (s[k].toNat : Int)
        · by_cases a2 : (s[k].toNat : Int) ≤ 122
          · clear hok
            go_wp2
            go_round
            case rel => exact ⟨k + 1, hlt, by go_num, HT.out⟩
            case measure => simp [intOf]; omega
          · exfalso; omega
        · have a3 : 48 ≤ (s[k].toNat : Int) := by omega
          have a4 : (s[k].toNat : Int) ≤ 57 := by omega
          clear hok
          go_wp2
          go_round
          case rel => exact ⟨k + 1, hlt, by go_num, HT.out⟩
          case measure => simp [intOf]; omega
      | false =>
        have HF : Hid (r = false) := Lib.hid (by
          rw [HR.out]
          rw [Bool.and_eq_false_iff]
          right
          rw [List.all_eq_false]
          exact ⟨s[k], by
            have : s[k] ∈ s.data.toList := by simp [ByteArray.getElem_eq_getElem_data]
            exact this, by rw [hg]; simp⟩)
        have hbad := goodC_bad hg
        clear hg hts ht HR
        obtain ⟨b1, b2⟩ := hbad
        rcases b1 with b1 | b1 <;> rcases b2 with b2 | b2
        all_goals first | (exfalso; omega) | skip
        all_goals
          try have p1 : (48 : Int) ≤ (s[k].toNat : Int) := by omega
          try have p3 : decide ((s[k].toNat : Int) ≤ 57) = false := decide_eq_false (by omega)
          try have p4 : decide ((s[k].toNat : Int) ≤ 122) = false := decide_eq_false (by omega)
          try have p2 : (97 : Int) ≤ (s[k].toNat : Int) := by omega
          go_wp2
          go_ret
          first | exact ⟨congrArg (fun z => Ending.returned (.bool z)) HF.out.symm, rfl⟩ | (rw [HF.out]; exact ⟨rfl, rfl⟩)
    · have hd : decide (k < s.size) = false := decide_eq_false hlt
      have hall : s.data.toList.all goodC = true := by rw [← ht, List.take_of_length_le (by simp; omega)]
      have HF : Hid (r = (decide (1 ≤ s.size) && decide (s.size ≤ 8))) := Lib.hid (by rw [HR.out, hall, Bool.and_true])
      clear ht HR hall
      by_cases h1 : 1 ≤ s.size
      · by_cases h2 : s.size ≤ 8
        · have g1 : (1 : Int) ≤ (s.size : Int) := by omega
          have g2 : (s.size : Int) ≤ 8 := by omega
          go_wp2
          go_ret
          rw [HF.out]
          simp [h1, h2]
        · have g1 : (1 : Int) ≤ (s.size : Int) := by omega
          have g2 : ¬ (s.size : Int) ≤ 8 := by omega
          go_wp2
          go_ret
          rw [HF.out]
          simp [h1, h2]
      · have g1 : ¬ (1 : Int) ≤ (s.size : Int) := by omega
        go_wp2
        go_ret
        rw [HF.out]
        simp [h1]
end Go.Proofs.YtfjodadmcfdlpaaDoor
