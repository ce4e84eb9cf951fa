/- Stage 18's laws: offers of a literal row of one or two. -/
import Derived.Test.YthgndegjiodopaaDoorCho15
namespace Go.Proofs.YthgndegjiodopaaDoor
open Go Go.RowKit
set_option linter.unusedVariables false
set_option linter.unusedSimpArgs false
theorem mk1 {w0 w : World} {g1 : Nat} {L : List Thing} (x : OvM) (m : Nat) (view : Int) (h : Sep w0 (Cl g1 (ovC x) 33 :: enP x :: L) w) (hm : m ≤ 15) (he : enough m ≠ 0) (hv1 : 1 ≤ view) (hv2 : view ≤ 9007199254740991) (hadd : AddO m view x) (hk : KindsAt w0) :
    Calls Tryd.prog 11 #[.int .i64 m, .int .i64 view, .slice (some ⟨g1, 0, none⟩) 1 1] w fun e w' => ∃ g b xs, e = .returned (.pointer (some ⟨g, 0, none⟩)) ∧ xs.map OvM.pr = [x].map OvM.pr ∧ Sep w0 (OffT g b m view xs :: Cl g1 (ovC x) 33 :: enP x :: L) w' :=
  offers_any m view _ 1 1 [x] h hm he hv1 hv2 rfl (fun i hi => ⟨g1, 0, rfl, fun wx hx => by
    have hi0 : i = 0 := by have : i < 1 := hi; omega
    subst hi0
    exact hx.loadW 33 Tryd.underlying33 rfl (by kernel_rfl)⟩) (by omega) (fun wx hx y hy => by
      obtain rfl : y = x := by simpa using hy
      exact (hx.sw2.enS)) (fun y hy => by obtain rfl : y = x := by simpa using hy
                                          exact hadd) (by simp) hk
theorem mk2 {w0 w : World} {g1 : Nat} {L : List Thing} (x y : OvM) (m : Nat) (view : Int) (h : Sep w0 (Cl g1 (ovC x ++ ovC y) 33 :: enP x :: enP y :: L) w) (hm : m ≤ 15) (he : enough m ≠ 0) (hv1 : 1 ≤ view) (hv2 : view ≤ 9007199254740991) (hx : AddO m view x) (hy : AddO m view y) (hxy : x.fr ≠ y.fr) (hk : KindsAt w0) :
    Calls Tryd.prog 11 #[.int .i64 m, .int .i64 view, .slice (some ⟨g1, 0, none⟩) 2 2] w fun e w' => ∃ g b xs, e = .returned (.pointer (some ⟨g, 0, none⟩)) ∧ xs.map OvM.pr = [x, y].map OvM.pr ∧ Sep w0 (OffT g b m view xs :: Cl g1 (ovC x ++ ovC y) 33 :: enP x :: enP y :: L) w' :=
  offers_any m view _ 2 2 [x, y] h hm he hv1 hv2 rfl (fun i hi => ⟨g1, 0, rfl, fun wx hw => by
    rcases (show i = 0 ∨ i = 1 by have : i < 2 := hi; omega) with rfl | rfl
    · exact hw.loadO 33 0 (ovC x) (fun j v hj => by
        have hj6 : j < 6 := (List.getElem?_eq_some_iff.1 hj).1
        rw [Nat.zero_add, Array.getElem?_append_left hj6]; simpa using hj) Tryd.underlying33 rfl (by kernel_rfl)
    · exact hw.loadO 33 6 (ovC y) (fun j v hj => by
        rw [Array.getElem?_append_right (by show 6 ≤ 6 + j; omega), show 6 + j - (ovC x).size = j by show 6 + j - 6 = j; omega]; simpa using hj) Tryd.underlying33 rfl (by kernel_rfl)⟩) (by omega) (fun wx hw z hz => by
      rcases (show z = x ∨ z = y by simpa using hz) with rfl | rfl
      · exact hw.sw2.enS
      · exact hw.sw3.enS) (fun z hz => by
        rcases (show z = x ∨ z = y by simpa using hz) with rfl | rfl
        · exact hx
        · exact hy) (by simp [hxy]) hk
theorem lAdd (m : Nat) (view fr la : Int) (k : Nat) (co : Int) (a : Option Addr) (c : Nat) (hk : k ≤ 24) (h0 : 0 ≤ fr) (h1 : fr < m) (h2 : 0 ≤ la) (h3 : la < view) (h4 : 0 ≤ co) (h5 : (k : Int) - 8 ≤ co) (h6 : co ≤ k) : AddO m view ⟨fr, la, 0, co, .slice a k c, rowP k⟩ := by
  refine ⟨⟨⟨a, c, by show _ = Value.slice a (rowP k).length c; rw [rowP_len]⟩, by show (0 : Int) ≤ 0; omega, by show (0 : Int) ≤ 9007199254740991; omega, by show (rowP k).length ≤ 24; rw [rowP_len]; exact hk, fun e he => ?_⟩, h0, h1, h2, h3, fun e he => ?_, by show (0 : Int) ≤ co; exact h4, by show 0 + ((rowP k).length : Int) - 8 ≤ co; rw [rowP_len]; omega, by show co ≤ 0 + ((rowP k).length : Int); rw [rowP_len]; omega⟩
  · obtain ⟨i, -, rfl⟩ := List.mem_map.1 (show e ∈ (List.range k).map _ from he)
    exact Nat.zero_le _
  · obtain ⟨i, hi, rfl⟩ := List.mem_map.1 (show e ∈ (List.range k).map _ from he)
    have := List.mem_range.1 hi
    exact skE_ok _ (by omega) (by omega)
end Go.Proofs.YthgndegjiodopaaDoor
