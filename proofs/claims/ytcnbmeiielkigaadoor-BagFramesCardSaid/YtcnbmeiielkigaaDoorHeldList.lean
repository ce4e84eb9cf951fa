/- A region that draws its order, walked by number: several conditions on the world, each of which holds till an operation of its own has come up. -/
import Derived.Test.YtcnbmeiielkigaaDoorHeldTwo
namespace Go.Proofs.YtcnbmeiielkigaaDoor
open Go
set_option linter.unusedVariables false
section
variable {P : Program} {ops : Array Oper} {Q : Exit → Act → World → Prop} {md : Region.Mode} {C : List (Nat × (World → Prop))}
def CondH (C : List (Nat × (World → Prop))) (listed : Array Bool) (w : World) : Prop := ∀ p ∈ C, listed.getD p.1 true = false → p.2 w
/-- Whatever order is picked from here on; each condition of C holds till its own operation has come up. -/
def wpAnyH (P : Program) (md : Region.Mode) (ops : Array Oper) (Q : Exit → Act → World → Prop) (C : List (Nat × (World → Prop))) : Nat → Array Bool → Act → World → Prop
  | 0, listed, a, w => Region.ready md ops listed = [] ∧ Q .normal a w
  | fuel + 1, listed, a, w =>
    (Region.ready md ops listed = [] → Q .normal a w) ∧
    ∀ i ∈ Region.ready md ops listed, wpOp P ops Q i (fun a' w' => CondH C (listed.setIfInBounds i true) w' ∧ wpAnyH P md ops Q C fuel (listed.setIfInBounds i true) a' w') a w
theorem wpAny_of_H : ∀ (fuel : Nat) (listed : Array Bool) (a : Act) (w : World), wpAnyH P md ops Q C fuel listed a w → wpAny P md ops Q fuel listed a w
  | 0, _, _, _, h => h
  | fuel + 1, _, _, _, h => ⟨h.1, fun i hi => wpOp_mono (fun a' w' h' => wpAny_of_H fuel _ a' w' h'.2) (h.2 i hi)⟩
theorem CondH.put {listed : Array Bool} {w : World} {i : Nat} (hi : ∀ p ∈ C, p.1 ≠ i) (h : CondH C listed w) : CondH C (listed.setIfInBounds i true) w := fun p hp hl => h p hp (by rw [getD_set_ne true (Ne.symm (hi p hp))] at hl; exact hl)
theorem CondH.back {listed : Array Bool} {w : World} {i : Nat} (hi : ∀ p ∈ C, p.1 ≠ i) (h : CondH C (listed.setIfInBounds i true) w) : CondH C listed w := fun p hp hl => h p hp (by rw [getD_set_ne true (Ne.symm (hi p hp))]; exact hl)
theorem wpAnyH_first {V : List Nat} {t : Nat} {S : World → Prop} (hm : (t, S) ∈ C) (hTV : t ∈ V) {i : Nat} (hiC : ∀ p ∈ C, p.1 ≠ i) {oi : Oper} {v : Value} (hi : ops[i]? = some oi) (hsel : ∀ (j : Nat) (o : Oper) cs b, ops[j]? = some o → o.op ≠ .select cs b)
    (hQ : ∀ c a w, Q (.panic c) (a.put oi.dst v) w → Q (.panic c) a w) (hch : chained md ops V i) :
    ∀ (fuel : Nat) (listed : Array Bool) (a : Act) (w : World),
      (∀ j oj, ops[j]? = some oj → j ≠ i → listed.getD j true = false → (∀ e ∈ oj.after, Region.binds md e = true → e.on ≠ i) → oi.apart ops oj = true) →
      i ∈ Region.ready md ops listed → unlisted V listed → YieldsIf P ops S oi v a → CondH C listed w →
      wpAnyH P md ops Q C fuel (listed.setIfInBounds i true) (a.put oi.dst v) w → wpAnyH P md ops Q C (fuel + 1) listed a w := by
  intro fuel
  induction fuel with
  | zero =>
    intro listed a w _ hr hu hy hS H
    refine ⟨fun h => (by rw [h] at hr; cases hr), fun j hj => ?_⟩
    by_cases hji : j = i
    · subst hji; exact hy.wpOp hi (hS _ hm (hu t hTV)) ⟨hS.put hiC, H⟩
    · have := ready_mono hj hji
      rw [H.1] at this
      cases this
  | succ fuel ih =>
    intro listed a w hfree hr hu hy hS H
    refine ⟨fun h => (by rw [h] at hr; cases hr), fun j hj => ?_⟩
    by_cases hji : j = i
    · subst hji; exact hy.wpOp hi (hS _ hm (hu t hTV)) ⟨hS.put hiC, H⟩
    · have h1 := H.2 j (ready_mono hj hji)
      obtain ⟨hjun, oj, hoj, hall⟩ := mem_ready.1 hj
      have hjV := not_mem_of_ready hu hch (mem_ready.1 hr).1 hj
      have hnot : ∀ e ∈ oj.after, Region.binds md e = true → e.on ≠ i := fun e he hb heq => by
        have h1 := hall e he hb
        rw [heq] at h1
        exact getD_false_of_unlisted (mem_ready.1 hr).1 h1
      have h2 := wpOp_putIf hoj (hfree j oj hoj hji hjun hnot) (fun cs b => hsel i oi cs b hi) (fun cs b => hsel j oj cs b hoj) hQ hy h1
      have hfree' : ∀ k ok, ops[k]? = some ok → k ≠ i → (listed.setIfInBounds j true).getD k true = false →
          (∀ e ∈ ok.after, Region.binds md e = true → e.on ≠ i) → oi.apart ops ok = true := fun k ok hk hki hun hno => by
        refine hfree k ok hk hki ?_ hno
        by_cases hjk : j = k
        · subst hjk; exact hjun
        · rw [getD_set_ne true hjk] at hun; exact hun
      have hu' : unlisted V (listed.setIfInBounds j true) := fun t ht => by
        rw [getD_set_ne true (fun e => by subst e; exact hjV ht)]; exact hu t ht
      refine wpOp_mono (fun a' w' h3 => ?_) h2
      have hc : CondH C (listed.setIfInBounds j true) w' := by
        have := h3.2.1
        rw [Array.setIfInBounds_comm _ _ (Ne.symm hji)] at this
        exact this.back hiC
      refine ⟨hc, ih (listed.setIfInBounds j true) a' w' hfree' (ready_mono hr (Ne.symm hji)) hu' h3.1 hc ?_⟩
      rw [Array.setIfInBounds_comm _ _ hji]
      exact h3.2.2
/-- Number i is taken first, by the condition that holds till t, which waits for i. -/
theorem wpAnyH_take {i : Nat} (t : Nat) {S : World → Prop} {oi : Oper} {v : Value} {fuel : Nat} {listed : Array Bool} {a : Act} {w : World} (hm : (t, S) ∈ C) (hiC : (C.all fun p => !(p.1 == i)) = true) (hi : ops[i]? = some oi)
    (hs : Region.noSelect ops = true) (hf : Region.free md ops listed i = true) (hr : (Region.ready md ops listed).contains i = true) (hT : ((after md ops listed i).contains t && waits md ops (after md ops listed i) listed i) = true)
    (hQ : ∀ c a w, Q (.panic c) (a.put oi.dst v) w → Q (.panic c) a w) (hy : YieldsIf P ops S oi v a) (hS : CondH C listed w)
    (h : CondH C (listed.setIfInBounds i true) w → wpAnyH P md ops Q C fuel (listed.setIfInBounds i true) (a.put oi.dst v) w) : wpAnyH P md ops Q C (fuel + 1) listed a w := by
  obtain ⟨h1, h2⟩ := Bool.and_eq_true_iff.1 hT
  have hne : ∀ p ∈ C, p.1 ≠ i := fun p hp => by
    have := List.all_eq_true.1 hiC p hp
    simpa using this
  exact wpAnyH_first (V := after md ops listed i) hm (by simpa using h1) hne hi (Region.noSelect_spec hs) hQ (waits_spec h2).2 fuel listed a w (Region.free_spec hi hf) (by simpa using hr) (waits_spec h2).1 hy hS (h (hS.put hne))
/-- The same, where all the conditions hold yet. -/
theorem wpAnyH_read {i : Nat} (t : Nat) {S : World → Prop} {oi : Oper} {v : Value} {fuel : Nat} {listed : Array Bool} {a : Act} {w : World} (hm : (t, S) ∈ C) (hiC : (C.all fun p => !(p.1 == i)) = true) (hi : ops[i]? = some oi)
    (hs : Region.noSelect ops = true) (hf : Region.free md ops listed i = true) (hr : (Region.ready md ops listed).contains i = true) (hT : ((after md ops listed i).contains t && waits md ops (after md ops listed i) listed i) = true)
    (hQ : ∀ c a w, Q (.panic c) (a.put oi.dst v) w → Q (.panic c) a w) (hy : YieldsIf P ops S oi v a) (hS : ∀ p ∈ C, p.2 w)
    (h : wpAnyH P md ops Q C fuel (listed.setIfInBounds i true) (a.put oi.dst v) w) : wpAnyH P md ops Q C (fuel + 1) listed a w :=
  wpAnyH_take t hm hiC hi hs hf hr hT hQ hy (fun p hp _ => hS p hp) fun _ => h
theorem wpAnyH_one {i : Nat} {o : Oper} {fuel : Nat} {listed : Array Bool} {a : Act} {w : World} (hr : Region.ready md ops listed = [i]) (ho : ops[i]? = some o)
    (h : ∀ K' : Act → World → Prop, Shut (∀ a w, CondH C (listed.setIfInBounds i true) w → wpAnyH P md ops Q C fuel (listed.setIfInBounds i true) a w → K' a w) → if Region.wanted o (yielded ops a.tmps) = true then Oper.wp P o a w K' Q else K' (a.put o.dst undef) w) :
    wpAnyH P md ops Q C (fuel + 1) listed a w := by
  refine ⟨fun h0 => (by rw [hr] at h0; cases h0), fun j hj => ?_⟩
  rw [hr] at hj
  obtain rfl := List.mem_singleton.1 hj
  exact wpOp_step ho fun K' hK => h K' fun a w h1 h2 => hK a w ⟨h1, h2⟩
theorem wpAnyH_done {listed : Array Bool} {a : Act} {w : World} (hr : Region.ready md ops listed = []) (h : Q .normal a w) : ∀ fuel, wpAnyH P md ops Q C fuel listed a w
  | 0 => ⟨hr, h⟩
  | _ + 1 => ⟨fun _ => h, by rw [hr]; simp⟩
theorem wp_region_H (C : List (Nat × (World → Prop))) (l : Array Bool) {id : Nat} {a : Act} {w : World} (hm : P.follows .mixedOrders = true) (hl : Array.replicate ops.size false = l)
    (hS : ∀ p ∈ C, p.2 w.drew) (h : (∀ p ∈ C, p.2 w.drew) → wpAnyH P .any ops Q C ops.size l a w.drew) : (Code.region id ops true).wp P Q a w := by
  subst hl
  exact wp_region_any hm (wpAny_of_H _ _ _ _ (h hS))
end
end Go.Proofs.YtcnbmeiielkigaaDoor
