/- Package choose: what is answered goes by what is said of the offers (pr), not by where their entries lie. -/
import Derived.Test.YthgndegjiodopaaDoorCho13
namespace Go.Proofs.YthgndegjiodopaaDoor
open Go Go.RowKit
set_option linter.unusedVariables false
set_option linter.unusedSimpArgs false
theorem pr_parts {x y : OvM} (h : x.pr = y.pr) : x.fr = y.fr ∧ x.la = y.la ∧ x.ba = y.ba ∧ x.co = y.co ∧ x.ps.map (·.1) = y.ps.map (·.1) := by
  simp only [OvM.pr, Prod.mk.injEq] at h
  exact h
theorem pr_len {x y : OvM} (h : x.pr = y.pr) : x.ps.length = y.ps.length := by
  have := congrArg List.length (pr_parts h).2.2.2.2
  simpa using this
theorem pr_top {x y : OvM} (h : x.pr = y.pr) : x.top = y.top := by
  unfold OvM.top; rw [pr_len h, (pr_parts h).2.2.1]
theorem cmpO_pr {x x' y y' : OvM} (h : x.pr = x'.pr) (h' : y.pr = y'.pr) : cmpO x y = cmpO x' y' := by
  unfold cmpO
  rw [pr_top h, pr_top h', (pr_parts h).1, (pr_parts h').1, (pr_parts h).2.1, (pr_parts h').2.1]
theorem getO_pr : ∀ {xs l : List OvM}, xs.map OvM.pr = l.map OvM.pr → ∀ i, (getO xs i).map OvM.pr = (getO l i).map OvM.pr
  | [], [], _, _ => rfl
  | [], y :: l, h, _ => by simp at h
  | x :: xs, [], h, _ => by simp at h
  | x :: xs, y :: l, h, i => by
    rw [List.map_cons, List.map_cons, List.cons.injEq] at h
    have ih := getO_pr h.2 i
    have e := (pr_parts h.1).1
    unfold getO at *
    rw [List.find?_cons, List.find?_cons, e]
    cases decide (y.fr = i)
    · exact ih
    · show some x.pr = some y.pr; rw [h.1]
theorem byFr_pr {xs l : List OvM} (h : xs.map OvM.pr = l.map OvM.pr) : ∀ k, (byFr xs k).map OvM.pr = (byFr l k).map OvM.pr
  | 0 => rfl
  | k + 1 => by
    rw [byFr_succ, byFr_succ, List.map_append, List.map_append, byFr_pr h k]
    congr 1
    have := getO_pr h (k : Int)
    cases h1 : getO xs (k : Int) <;> cases h2 : getO l (k : Int) <;> rw [h1, h2] at this <;> simp at this ⊢
    exact this
theorem minF_pr : ∀ {ys zs : List OvM} {m m' : OvM}, ys.map OvM.pr = zs.map OvM.pr → m.pr = m'.pr → (ys.foldl (fun m x => if cmpO x m < 0 then x else m) m).pr = (zs.foldl (fun m x => if cmpO x m < 0 then x else m) m').pr
  | [], [], _, _, _, h => h
  | [], y :: l, _, _, h, _ => by simp at h
  | x :: xs, [], _, _, h, _ => by simp at h
  | x :: xs, y :: l, m, m', h, hm => by
    rw [List.map_cons, List.map_cons, List.cons.injEq] at h
    rw [List.foldl_cons, List.foldl_cons]
    refine minF_pr h.2 ?_
    rw [cmpO_pr h.1 hm]
    split
    · exact h.1
    · exact hm
theorem minO_pr {ys zs : List OvM} (h : ys.map OvM.pr = zs.map OvM.pr) : (minO ys).pr = (minO zs).pr := by
  match ys, zs, h with
  | [], [], _ => rfl
  | [], y :: l, h => simp at h
  | x :: xs, [], h => simp at h
  | x :: xs, y :: l, h =>
    rw [List.map_cons, List.map_cons, List.cons.injEq] at h
    exact minF_pr h.2 h.1
theorem maxCo_pr : ∀ {ys zs : List OvM} (c : Int), ys.map OvM.pr = zs.map OvM.pr → maxCo ys c = maxCo zs c
  | [], [], _, _ => rfl
  | [], y :: l, _, h => by simp at h
  | x :: xs, [], _, h => by simp at h
  | x :: xs, y :: l, c, h => by
    rw [List.map_cons, List.map_cons, List.cons.injEq] at h
    have ih := maxCo_pr (ys := xs) (zs := l) (maxI c y.co) h.2
    unfold maxCo at *
    rw [List.foldl_cons, List.foldl_cons, (pr_parts h.1).2.2.2.1]
    exact ih
theorem choAns_pr {x y : OvM} (h : x.pr = y.pr) (c : Int) (a : Option Addr) (k : Nat) : choAns x c a k = choAns y c a k := by
  unfold choAns
  rw [pr_top h, pr_len h, (pr_parts h).1, (pr_parts h).2.2.1]
theorem pr_length {xs l : List OvM} (h : xs.map OvM.pr = l.map OvM.pr) : xs.length = l.length := by
  have := congrArg List.length h
  simpa using this
/-- What every offer that lies there is. -/
theorem Sep.offOk {w0 w : World} {g b : Nat} {n view : Int} {xs l : List OvM} {L : List Thing} (h : Sep w0 (OffT g b n view xs :: L) w) (hp : xs.map OvM.pr = l.map OvM.pr) (hl : ∀ x ∈ l, 0 ≤ x.ba ∧ x.ba ≤ 9007199254740991 ∧ x.ps.length ≤ 24 ∧ ∀ e ∈ x.ps.map (·.1), e.p.ls.length ≤ 1000) : ∀ x ∈ xs, OkO x := by
  intro x hx
  obtain ⟨M, hM⟩ := h.offOpen.memT (A := enP x) (List.mem_cons_of_mem _ (List.mem_cons_of_mem _ (List.mem_append_left _ (List.mem_map_of_mem hx))))
  obtain ⟨a, c, e, -, -⟩ := hM.enForm
  have h1 : x.pr ∈ l.map OvM.pr := by rw [← hp]; exact List.mem_map_of_mem hx
  obtain ⟨y, hy, hyx⟩ := List.mem_map.1 h1
  obtain ⟨k0, k1, k2, k3⟩ := hl y hy
  refine ⟨⟨a, c, e⟩, by rw [← (pr_parts hyx).2.2.1]; exact k0, by rw [← (pr_parts hyx).2.2.1]; exact k1, by rw [← pr_len hyx]; exact k2, fun q hq => ?_⟩
  exact k3 q.1 (by rw [(pr_parts hyx).2.2.2.2]; exact List.mem_map_of_mem hq)
end Go.Proofs.YthgndegjiodopaaDoor
