/- Package item: numbers, names, kinds. -/
import Derived.Test.YtcnbmeiielkigaaDoorSep
import Derived.Test.YtcnbmeiielkigaaDoorBring
import Derived.Deep.QuietTactic
import Derived.BigQuiet
namespace Go.Proofs.YtcnbmeiielkigaaDoor
open Go.RowKit
set_option linter.unusedVariables false
set_option linter.unusedSimpArgs false
def qtyB (n : Int) : Bool := decide (1 ≤ n) && decide (n ≤ 2147483647)
def chgB (n : Int) : Bool := decide (n ≠ 0) && decide (-2147483647 ≤ n) && decide (n ≤ 2147483647)
theorem isQty_any (n : Int) (w : World) : Calls Tryd.prog 59 #[.int .i64 n] w fun e w' => e = .returned (.bool (qtyB n)) ∧ w = w' := by
  by_cases h1 : 1 ≤ n
  · by_cases h2 : n ≤ 2147483647
    · have hq : qtyB n = true := by simp [qtyB, h1, h2]
      rw [hq]
      go_enter Tryd.func59, Tryd.ntmps59
      go_wp2
      go_ret
      exact ⟨rfl, rfl⟩
    · have hq : qtyB n = false := by simp [qtyB, h2]
      rw [hq]
      go_enter Tryd.func59, Tryd.ntmps59
      go_wp2
      go_ret
      exact ⟨rfl, rfl⟩
  · have hq : qtyB n = false := by simp [qtyB, h1]
    rw [hq]
    go_enter Tryd.func59, Tryd.ntmps59
    go_wp2
    go_ret
    exact ⟨rfl, rfl⟩
theorem isChange_any (n : Int) (w : World) : Calls Tryd.prog 62 #[.int .i64 n] w fun e w' => e = .returned (.bool (chgB n)) ∧ w = w' := by
  by_cases h0 : n = 0
  · subst h0
    have hq : chgB 0 = false := rfl
    rw [hq]
    go_enter Tryd.func62, Tryd.ntmps62
    go_wp2
    go_ret
    exact ⟨rfl, rfl⟩
  · have hn : (n != 0) = true := by rw [bne_iff_ne]; exact h0
    by_cases h1 : -2147483647 ≤ n
    · by_cases h2 : n ≤ 2147483647
      · have hq : chgB n = true := by simp [chgB, h0, h1, h2]
        rw [hq]
        clear h0
        go_enter Tryd.func62, Tryd.ntmps62
        go_wp2
        go_ret
        exact ⟨rfl, rfl⟩
      · have hq : chgB n = false := by simp [chgB, h2]
        rw [hq]
        clear h0
        go_enter Tryd.func62, Tryd.ntmps62
        go_wp2
        go_ret
        exact ⟨rfl, rfl⟩
    · have hq : chgB n = false := by simp [chgB, h1]
      rw [hq]
      clear h0
      go_enter Tryd.func62, Tryd.ntmps62
      go_wp2
      go_ret
      exact ⟨rfl, rfl⟩
/-- Letters and digits. -/
def goodC (c : UInt8) : Bool := (decide (97 ≤ c.toNat) && decide (c.toNat ≤ 122)) || (decide (48 ≤ c.toNat) && decide (c.toNat ≤ 57))
def nameB (s : ByteArray) : Bool := decide (1 ≤ s.size) && decide (s.size ≤ 8) && s.data.toList.all goodC
theorem take_snoc (s : ByteArray) (k : Nat) (h : k < s.size) : s.data.toList.take (k + 1) = s.data.toList.take k ++ [s[k]] := by
  rw [List.take_succ_eq_append_getElem (by simpa using h)]; rfl
theorem goodC_bad {c : UInt8} (h : goodC c = false) : ((c.toNat : Int) < 97 ∨ 122 < (c.toNat : Int)) ∧ ((c.toNat : Int) < 48 ∨ 57 < (c.toNat : Int)) := by
  simp [goodC] at h
  omega
theorem goodC_ok {c : UInt8} (h : goodC c = true) : (97 ≤ (c.toNat : Int) ∧ (c.toNat : Int) ≤ 122) ∨ (48 ≤ (c.toNat : Int) ∧ (c.toNat : Int) ≤ 57) := by
  simp [goodC] at h
  omega
set_option maxHeartbeats 1000000 in
theorem name_any (s : ByteArray) (w : World) (hs : s.size ≤ maxLen) : Calls Tryd.prog 58 #[.string s] w fun e w' => e = .returned (.bool (nameB s)) ∧ w = w' := by
  unfold maxLen at hs
  by_cases h1 : 1 ≤ s.size
  · by_cases h2 : s.size ≤ 8
    · obtain ⟨r, hr⟩ : ∃ r, r = nameB s := ⟨_, rfl⟩
      rw [← hr]
      have HR : Hid (r = s.data.toList.all goodC) := Lib.hid (by rw [hr]; simp [nameB, h1, h2])
      clear hr
      have d1 : ¬ (s.size : Int) < 1 := by omega
      have d2 : ¬ (8 : Int) < (s.size : Int) := by omega
      go_enter Tryd.func58, Tryd.ntmps58
      go_wp2
      go_loop [15] (fun i => ∃ k : Nat, k ≤ s.size ∧ i = .int .i64 k ∧ (s.data.toList.take k).all goodC = true) (fun i => s.size - (intOf i).toNat)
      case atStart => exact ⟨0, Nat.zero_le _, rfl, by simp⟩
      case round =>
        obtain ⟨k, hk, rfl, ht⟩ := hrel
        have k0 : (0 : Int) ≤ (k : Int) := by omega
        by_cases hlt : k < s.size
        · have hd : decide (k < s.size) = true := decide_eq_true hlt
          have hts := take_snoc s k hlt
          have hb8 : s[k].toNat < 256 := s[k].toNat_lt
          cases hg : goodC s[k] with
          | true =>
            have HT : Hid ((s.data.toList.take (k + 1)).all goodC = true) := Lib.hid (by rw [hts, List.all_append, ht]; simp [hg])
            have hok := goodC_ok hg
            clear hg hts ht
            rcases hok with ⟨a1, a2⟩ | ⟨a1, a2⟩
            · have a3 : ¬ (s[k].toNat : Int) < 97 := by omega
              have a4 : ¬ (122 : Int) < (s[k].toNat : Int) := by omega
              go_wp2
              go_round
              case rel => exact ⟨k + 1, hlt, by go_num, HT.out⟩
              case measure => simp [intOf]; omega
            · have a3 : (s[k].toNat : Int) < 97 := by omega
              have a4 : ¬ (s[k].toNat : Int) < 48 := by omega
              have a5 : ¬ (57 : Int) < (s[k].toNat : Int) := by omega
              go_wp2
              go_round
              case rel => exact ⟨k + 1, hlt, by go_num, HT.out⟩
              case measure => simp [intOf]; omega
          | false =>
            have HF : Hid (r = false) := Lib.hid (by
              rw [HR.out]
              rw [List.all_eq_false]
              exact ⟨s[k], by
                have : s[k] ∈ s.data.toList := by simp [ByteArray.getElem_eq_getElem_data]
                exact this, by rw [hg]; simp⟩)
            have hbad := goodC_bad hg
            clear hg hts ht HR
            obtain ⟨b1, b2⟩ := hbad
            rcases b1 with b1 | b1 <;> rcases b2 with b2 | b2
            all_goals first | (exfalso; omega) | skip
            all_goals
              go_wp2
              go_ret
              first | exact ⟨congrArg (fun z => Ending.returned (.bool z)) HF.out.symm, rfl⟩ | (rw [HF.out]; exact ⟨rfl, rfl⟩)
        · have hd : decide (k < s.size) = false := decide_eq_false hlt
          have HF : Hid (r = true) := Lib.hid (by rw [HR.out, ← ht, List.take_of_length_le (by simp; omega)])
          clear ht HR
          go_wp2
          go_ret
          rw [HF.out]
          exact ⟨rfl, rfl⟩
    · have hq : nameB s = false := by simp [nameB, h2]
      rw [hq]
      have d1 : ¬ (s.size : Int) < 1 := by omega
      have d2 : (8 : Int) < (s.size : Int) := by omega
      go_enter Tryd.func58, Tryd.ntmps58
      go_wp2
      go_ret
      exact ⟨rfl, rfl⟩
  · have hq : nameB s = false := by simp [nameB, h1]
    rw [hq]
    have d1 : (s.size : Int) < 1 := by omega
    go_enter Tryd.func58, Tryd.ntmps58
    go_wp2
    go_ret
    exact ⟨rfl, rfl⟩
end Go.Proofs.YtcnbmeiielkigaaDoor
