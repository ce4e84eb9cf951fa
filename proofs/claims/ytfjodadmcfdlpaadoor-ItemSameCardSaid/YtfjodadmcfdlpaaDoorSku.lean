/- sku: a name, out of a number. -/
import Derived.Test.YtfjodadmcfdlpaaDoorItem2
import Derived.WalkSpells
namespace Go.Proofs.YtfjodadmcfdlpaaDoor
open Go.RowKit
set_option linter.unusedVariables false
set_option linter.unusedSimpArgs false
def abcS : ByteArray := ⟨#[97, 98, 99, 100, 101, 102, 103, 104, 105, 106, 107, 108, 109, 110, 111, 112, 113, 114, 115, 116, 117, 118, 119, 120, 121, 122, 48, 49, 50, 51, 52, 53, 54, 55, 56, 57]⟩
def sku1 (m : Nat) : ByteArray := abcS.extract (m % 36) (m % 36 + 1)
def sku3 (m : Nat) : ByteArray := abcS.extract (m % 36) (m % 36 + 1) ++ abcS.extract (m / 36) (m / 36 + 1) ++ (⟨#[120, 121, 122]⟩ : ByteArray).extract 0 (m % 4)
def skuN (m : Nat) : ByteArray := if m % 3 = 0 then sku1 m else sku3 m
theorem skuN_all : (List.range 1296).all (fun m => nameB (skuN m)) = true := by kernel_rfl
theorem skuN_name {m : Nat} (h : m < 1296) : nameB (skuN m) = true := List.all_eq_true.1 skuN_all m (List.mem_range.2 h)
theorem nameB_size {s : ByteArray} (h : nameB s = true) : s.size ≤ maxLen := by
  unfold nameB at h; simp at h; unfold maxLen; omega
set_option maxRecDepth 100000 in
set_option maxHeartbeats 2000000 in
theorem sku_any {w0 w : World} {L : List Thing} (n : Int) (h : Sep w0 L w) :
    Calls Tryd.prog 65 #[.int .i64 n] w fun e w' => ∃ s : KS, e = .returned (.string s.1) ∧ nameB s.1 = true ∧ Sep w0 L w' := by
  have HB := Lib.hid (bring_any n 1296 w (by unfold Sm; omega))
  obtain ⟨m, hm, hlt⟩ : ∃ m : Nat, n % 1296 = (m : Int) ∧ m < 1296 := ⟨(n % 1296).toNat, by omega, by omega⟩
  rw [hm] at HB
  clear hm
  have m0 : (0 : Int) ≤ (m : Int) := by omega
  have m1 : (m : Int) ≤ 1295 := by omega
  have e36 : ((m : Int).tmod 36) = ((m % 36 : Nat) : Int) := by rw [Int.tmod_eq_emod_of_nonneg m0]; rfl
  have e3 : ((m : Int).tmod 3) = ((m % 3 : Nat) : Int) := by rw [Int.tmod_eq_emod_of_nonneg m0]; rfl
  have e4 : ((m : Int).tmod 4) = ((m % 4 : Nat) : Int) := by rw [Int.tmod_eq_emod_of_nonneg m0]; rfl
  have d36 : ((m : Int).tdiv 36) = ((m / 36 : Nat) : Int) := by rw [Int.tdiv_eq_ediv_of_nonneg m0]; rfl
  have H := Lib.hid h
  have hn := skuN_name hlt
  have HS : Hid (nameB (skuN m) = true) := Lib.hid hn
  have hz := nameB_size hn
  clear h hn
  by_cases h3 : m % 3 = 0
  · have hs : skuN m = sku1 m := if_pos h3
    have b3 : ((m % 3 : Nat) : Int) = 0 := by omega
    go_enter Tryd.func65, Tryd.ntmps65
    go_wp2_with fail
    refine HB.out.mono ?_
    rintro r0 w1 ⟨rfl, rfl⟩
    go_wp2_with fail
    go_ret
    exact ⟨⟨sku1 m, by rw [← hs]; exact hz⟩, rfl, by have h := HS.out; rw [hs] at h; exact h, H.out⟩
  · have hs : skuN m = sku3 m := if_neg h3
    have b3 : ¬ ((m % 3 : Nat) : Int) = 0 := by omega
    have b3' : ¬ ((m : Int) % 3) = 0 := by omega
    go_enter Tryd.func65, Tryd.ntmps65
    go_wp2_with fail
    refine HB.out.mono ?_
    rintro r0 w1 ⟨rfl, rfl⟩
    go_wp2_with fail
    go_big_quiet (fail)
    go_wp2_with fail
    go_ret
    exact ⟨⟨sku3 m, by rw [← hs]; exact hz⟩, rfl, by have h := HS.out; rw [hs] at h; exact h, H.out.drewN nq⟩
end Go.Proofs.YtfjodadmcfdlpaaDoor
