/- Things beside each other, picked by number: in another order, some left out. -/
import Derived.Test.YtcnbmeiielkigaaDoorSep
namespace Go.Proofs.YtcnbmeiielkigaaDoor
open Go.RowKit
set_option linter.unusedVariables false
theorem Beside.perm {B : Nat} {w : World} {L M : List Thing} (hp : L.Perm M) : ∀ {G : Nat → Prop}, Beside B L w G → Beside B M w G := by
  induction hp with
  | nil => intro G h; exact h
  | cons A _ ih => intro G h; exact h.under fun _ h => ih h
  | swap A A' L => intro G h; exact h.swap
  | trans _ _ ih1 ih2 => intro G h; exact ih2 (ih1 h)
theorem Sep.perm {w0 w : World} {L M : List Thing} (h : Sep w0 L w) (hp : L.Perm M) : Sep w0 M w :=
  ⟨h.low, fun X hX => h.loc X (hp.mem_iff.2 hX), h.all.perm hp⟩
theorem Sep.left {w0 w : World} {L M : List Thing} (h : Sep w0 (L ++ M) w) : Sep w0 M w := by
  induction L with
  | nil => exact h
  | cons A L ih => exact ih h.drop
/-- The things of M with the numbers is. -/
abbrev picks (M : List Thing) (is : List Nat) : List Thing := is.map fun i => M.getD i (Fact True)
/-- Those left out. -/
def rest (M : List Thing) (is : List Nat) : List Thing := ((List.range M.length).filter fun i => !is.contains i).map fun i => M.getD i (Fact True)
theorem range_picks (M : List Thing) : (List.range M.length).map (fun i => M.getD i (Fact True)) = M := by
  apply List.ext_getElem
  · simp
  · intro i h1 h2
    simp at h1
    simp [List.getD_eq_getElem?_getD, h1]
def nodupB : List Nat → Bool
  | [] => true
  | a :: l => !l.contains a && nodupB l
theorem nodupB_spec {l : List Nat} (h : nodupB l = true) : l.Nodup := by
  induction l with
  | nil => exact List.nodup_nil
  | cons a l ih =>
    simp only [nodupB, Bool.and_eq_true, Bool.not_eq_true'] at h
    refine List.nodup_cons.2 ⟨fun hm => ?_, ih h.2⟩
    have := h.1
    simp [hm] at this
/-- Each number of is is below n, and stands there once. -/
def okPick (n : Nat) (is : List Nat) : Bool := is.all (fun i => decide (i < n)) && nodupB is
theorem perm_of_pick {n : Nat} {is : List Nat} (h : okPick n is = true) : (List.range n).Perm (is ++ (List.range n).filter fun i => !is.contains i) := by
  simp only [okPick, Bool.and_eq_true, List.all_eq_true, decide_eq_true_eq] at h
  have hnd := nodupB_spec h.2
  have h1 : ((List.range n).filter fun i => is.contains i).Perm is := by
    rw [List.perm_ext_iff_of_nodup (List.nodup_range.filter _) hnd]
    intro a
    simp only [List.mem_filter, List.mem_range, List.contains_iff_mem]
    exact ⟨fun ha => ha.2, fun ha => ⟨h.1 a ha, ha⟩⟩
  exact (List.filter_append_perm (fun i => is.contains i) (List.range n)).symm.trans (h1.append_right _)
theorem Sep.pickL {w0 w : World} {M L : List Thing} (h : Sep w0 (M ++ L) w) (is : List Nat) (hk : okPick M.length is = true) : Sep w0 (picks M is ++ L) w := by
  have h1 : M.Perm (picks M is ++ rest M is) := by
    have h2 := (perm_of_pick hk).map (fun i => M.getD i (Fact True))
    rw [range_picks, List.map_append] at h2
    exact h2
  have h3 : (M ++ L).Perm (rest M is ++ (picks M is ++ L)) := by
    refine (h1.append_right L).trans ?_
    rw [← List.append_assoc]
    exact (List.perm_append_comm).append_right L
  exact (h.perm h3).left
theorem Sep.pick {w0 w : World} {M : List Thing} (h : Sep w0 M w) (is : List Nat) (hk : okPick M.length is = true) : Sep w0 (picks M is) w := by
  have h1 : Sep w0 (M ++ []) w := by rw [List.append_nil]; exact h
  have h2 := h1.pickL is hk
  rwa [List.append_nil] at h2
end Go.Proofs.YtcnbmeiielkigaaDoor
