/- Stage 18's laws: what is known of group's offers. -/
import Derived.Test.YthgndegjiodopaaDoorCho20
namespace Go.Proofs.YthgndegjiodopaaDoor
open Go Go.RowKit
set_option linter.unusedVariables false
set_option linter.unusedSimpArgs false
theorem pr_at {xs l : List OvM} (h : xs.map OvM.pr = l.map OvM.pr) (i : Nat) (h1 : i < xs.length) (h2 : i < l.length) : xs[i].pr = l[i].pr := by
  have e1 : (xs.map OvM.pr)[i]? = some xs[i].pr := by rw [List.getElem?_map, List.getElem?_eq_getElem h1]; rfl
  have e2 : (l.map OvM.pr)[i]? = some l[i].pr := by rw [List.getElem?_map, List.getElem?_eq_getElem h2]; rfl
  rw [h, e2] at e1
  exact (Option.some.inj e1).symm
theorem grp_get (sh : Nat) (le : Int) (ls : List Lg) (n i : Nat) (h : i < (grp sh le ls n).length) : (grp sh le ls n)[i] = gO sh le ls i := by simp [grp]
theorem grp_take (sh : Nat) (le : Int) (ls : List Lg) (n k : Nat) (h : k ≤ n) : (grp sh le ls n).take k = grp sh le ls k := by
  unfold grp
  rw [← List.map_take, List.take_range, Nat.min_eq_left h]
theorem pr_take {xs l : List OvM} (h : xs.map OvM.pr = l.map OvM.pr) (k : Nat) : (xs.take k).map OvM.pr = (l.take k).map OvM.pr := by
  rw [List.map_take, List.map_take, h]
theorem getO_grp (sh : Nat) (le : Int) (ls : List Lg) (i : Nat) : ∀ k, getO (grp sh le ls k) (i : Int) = if i < k then some (gO sh le ls i) else none
  | 0 => rfl
  | k + 1 => by
    have ih := getO_grp sh le ls i k
    unfold getO at *
    rw [grp_succ, List.find?_append, ih]
    by_cases h1 : i < k
    · rw [if_pos h1, if_pos (by omega)]; rfl
    · rw [if_neg h1]
      by_cases h2 : i = k
      · subst h2
        rw [if_pos (by omega)]
        rw [Option.none_or]
        rw [List.find?_cons, show decide ((gO sh le ls i).fr = (i : Int)) = true from decide_eq_true rfl]
      · rw [if_neg (by omega)]
        rw [Option.none_or]
        rw [List.find?_cons, show decide ((gO sh le ls k).fr = (i : Int)) = false from decide_eq_false (by show ¬ (k : Int) = i; omega)]
        rfl
theorem byFr_grp (sh : Nat) (le : Int) (ls : List Lg) (k : Nat) : ∀ n, byFr (grp sh le ls k) n = grp sh le ls (min k n)
  | 0 => by rw [Nat.min_zero]; rfl
  | n + 1 => by
    rw [byFr_succ, byFr_grp sh le ls k n, getO_grp]
    by_cases h : n < k
    · rw [if_pos h, show min k (n + 1) = n + 1 by omega, show min k n = n by omega, grp_succ]; rfl
    · rw [if_neg h, show min k (n + 1) = k by omega, show min k n = k by omega]; simp
theorem gCo_bd (sh : Nat) (le : Int) (x : Lg) : 0 ≤ gCo sh le x ∧ (gMa sh le x : Nat) - (8 : Int) ≤ gCo sh le x ∧ gCo sh le x ≤ (gMa sh le x : Nat) := by
  unfold gCo
  have hq := Int.emod_nonneg x.2.2 (show ((gMa sh le x : Nat) + 1 : Int) ≠ 0 by omega)
  generalize x.2.2 % ((gMa sh le x : Nat) + 1) = q at *
  generalize gMa sh le x = m at *
  unfold minI maxI
  repeat' split
  all_goals omega
theorem gEn_ok (sh i m k : Nat) (hi : i ≤ 15) (hm : m ≤ 24) : ∀ e ∈ gEn sh i m k, e.1.ok = true ∧ e.1.p.ls.length = 0 := by
  intro e he
  obtain ⟨j, hj, rfl⟩ := List.mem_map.1 he
  have := List.mem_range.1 hj
  refine ⟨?_, rfl⟩
  split
  · exact skE_ok _ (by omega) (by omega)
  · exact skE_ok _ (by omega) (by omega)
/-- What AddO asks, said of what is said of an offer. -/
def AddP (n view : Int) (y : OvM) : Prop := 0 ≤ y.ba ∧ y.ba ≤ 9007199254740991 ∧ y.ps.length ≤ 24 ∧ (∀ e ∈ y.ps.map (·.1), e.ok = true ∧ e.p.ls.length ≤ 1000) ∧ 0 ≤ y.fr ∧ y.fr < n ∧ 0 ≤ y.la ∧ y.la < view ∧ y.ba ≤ y.co ∧ y.ba + y.ps.length - 8 ≤ y.co ∧ y.co ≤ y.ba + y.ps.length
theorem addO_of {n view : Int} {x y : OvM} (hv : VsO x) (hp : x.pr = y.pr) (h : AddP n view y) : AddO n view x := by
  obtain ⟨p1, p2, p3, p4, p5⟩ := pr_parts hp
  have pl := pr_len hp
  obtain ⟨a1, a2, a3, a4, a5, a6, a7, a8, a9, a10, a11⟩ := h
  refine ⟨⟨hv, by omega, by omega, by omega, fun e he => ?_⟩, by omega, by omega, by omega, by omega, fun e he => ?_, by omega, by omega, by omega⟩
  · exact (a4 e.1 (by rw [← p5]; exact List.mem_map_of_mem he)).2
  · exact (a4 e.1 (by rw [← p5]; exact List.mem_map_of_mem he)).1
theorem gO_addP (sh : Nat) (le : Int) (ls : List Lg) (n i : Nat) (hsh : sh ≤ 12) (hi : i < n) (hn : n ≤ 15) : AddP n 100 (gO sh le ls i) := by
  have h1 := gMa_le sh le (lgAt ls i) hsh
  obtain ⟨c0, c1, c2⟩ := gCo_bd sh le (lgAt ls i)
  have l0 : 0 ≤ gLa (lgAt ls i) ∧ gLa (lgAt ls i) < 100 := by unfold gLa; omega
  refine ⟨by show (0 : Int) ≤ 0; omega, by show (0 : Int) ≤ 9007199254740991; omega, ?_, fun e he => ?_, by show (0 : Int) ≤ (i : Int); omega, by show (i : Int) < n; omega, l0.1, l0.2, c0, ?_, ?_⟩
  · show (gEn _ _ _ _).length ≤ 24
    rw [gEn_len]; omega
  · obtain ⟨q, hq, rfl⟩ := List.mem_map.1 he
    have := gEn_ok _ _ _ _ (by omega) (by omega) q hq
    exact ⟨this.1, by omega⟩
  · show 0 + (((gEn _ _ _ _).length : Nat) : Int) - 8 ≤ gCo _ _ _
    rw [gEn_len]; omega
  · show gCo _ _ _ ≤ 0 + (((gEn _ _ _ _).length : Nat) : Int)
    rw [gEn_len]; omega
theorem bdL_of {n view : Int} {l : List OvM} (hn : n ≤ 15) (h : ∀ y ∈ l, AddP n view y) : BdL l := by
  refine ⟨fun y hy => ?_, fun y hy => ?_⟩
  · obtain ⟨a1, a2, a3, a4, a5, a6, a7, a8, a9, a10, a11⟩ := h y hy
    exact ⟨by omega, by omega⟩
  · obtain ⟨a1, a2, a3, a4, a5, a6, a7, a8, a9, a10, a11⟩ := h y hy
    exact ⟨a1, a2, a3, fun e he => (a4 e he).2⟩
theorem grp_addP (sh : Nat) (le : Int) (ls : List Lg) (n k : Nat) (hsh : sh ≤ 12) (hk : k ≤ n) (hn : n ≤ 15) : ∀ y ∈ grp sh le ls k, AddP n 100 y := by
  intro y hy
  obtain ⟨i, hi, rfl⟩ := List.mem_map.1 hy
  have := List.mem_range.1 hi
  exact gO_addP sh le ls n i hsh (by omega) hn
theorem grp_fr (sh : Nat) (le : Int) (ls : List Lg) (k : Nat) : (grp sh le ls k).map (·.fr) = (List.range k).map fun (i : Nat) => (i : Int) := by
  unfold grp; rw [List.map_map]; rfl
theorem range_nodup (k : Nat) : ((List.range k).map fun (i : Nat) => (i : Int)).Nodup := by
  refine List.Pairwise.map _ (fun a b hab h => hab ?_) List.nodup_range
  exact Int.ofNat.inj h
theorem maxI_eq (a b : Int) : maxI a b = max a b := by unfold maxI; split <;> omega
theorem maxCo_ge : ∀ (l : List OvM) (c : Int), c ≤ maxCo l c ∧ ∀ y ∈ l, y.co ≤ maxCo l c
  | [], c => ⟨Int.le_refl _, fun y hy => by cases hy⟩
  | x :: l, c => by
    have h1 := maxCo_ge l (maxI c x.co)
    unfold maxCo at *
    rw [List.foldl_cons]
    rw [maxI_eq] at *
    refine ⟨by omega, fun y hy => ?_⟩
    rcases List.mem_cons.1 hy with rfl | hy
    · omega
    · exact h1.2 y hy
theorem maxCo_in : ∀ (l : List OvM) (c : Int), maxCo l c = c ∨ ∃ y ∈ l, maxCo l c = y.co
  | [], c => .inl rfl
  | x :: l, c => by
    have h1 := maxCo_in l (maxI c x.co)
    unfold maxCo at *
    rw [List.foldl_cons]
    rcases h1 with h1 | ⟨y, hy, h1⟩
    · rw [h1]
      unfold maxI
      split
      · exact .inr ⟨x, List.mem_cons_self .., rfl⟩
      · exact .inl rfl
    · exact .inr ⟨y, List.mem_cons_of_mem _ hy, h1⟩
theorem maxCo_from {l : List OvM} {y : OvM} (hy : y ∈ l) (h0 : 0 ≤ y.co) : maxCo l y.co = maxCo l 0 := by
  have h1 := maxCo_ge l y.co
  have h2 := maxCo_ge l 0
  have h3 := h2.2 y hy
  rcases maxCo_in l y.co with h4 | ⟨z, hz, h4⟩ <;> rcases maxCo_in l 0 with h5 | ⟨u, hu, h5⟩
  · omega
  · have := h1.2 u hu; omega
  · have := h2.2 z hz; omega
  · have := h1.2 u hu; have := h2.2 z hz; omega
end Go.Proofs.YthgndegjiodopaaDoor
