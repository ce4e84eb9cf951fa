/- Parts of slices of bytes. -/
import Derived.Test.YtcnbmeiielkigaaGreatDoorMZ09
import Derived.Test.YtcnbmeiielkigaaGreatDoorMZ10
import Derived.Test.YtcnbmeiielkigaaGreatDoorMZ00
import Derived.Test.YtcnbmeiielkigaaGreatDoorMZ06
import Derived.Test.YtcnbmeiielkigaaGreatDoorMZ22
namespace Go.Proofs.YtcnbmeiielkigaaGreatDoor
open Go.RowKit
set_option linter.unusedVariables false
end Go.Proofs.YtcnbmeiielkigaaGreatDoor
/- A region that draws its order, walked by number: several conditions on the world, each of which holds till an operation of its own has come up. -/
namespace Go.Proofs.YtcnbmeiielkigaaGreatDoor
open Go
set_option linter.unusedVariables false
section
variable {P : Program} {ops : Array Oper} {Q : Exit → Act → World → Prop} {md : Region.Mode} {C : List (Nat × (World → Prop))}
def CondH (C : List (Nat × (World → Prop))) (listed : Array Bool) (w : World) : Prop := ∀ p ∈ C, listed.getD p.1 true = false → p.2 w
/-- Whatever order is picked from here on; each condition of C holds till its own operation has come up. -/
def wpAnyH (P : Program) (md : Region.Mode) (ops : Array Oper) (Q : Exit → Act → World → Prop) (C : List (Nat × (World → Prop))) : Nat → Array Bool → Act → World → Prop
 | 0, listed, a, w => Region.ready md ops listed = [] ∧ Q .normal a w
 | fuel + 1, listed, a, w =>
  (Region.ready md ops listed = [] → Q .normal a w) ∧
  ∀ i ∈ Region.ready md ops listed, wpOp P ops Q i (fun a' w' => CondH C (listed.setIfInBounds i true) w' ∧ wpAnyH P md ops Q C fuel (listed.setIfInBounds i true) a' w') a w
theorem wpAny_of_H : ∀ (fuel : Nat) (listed : Array Bool) (a : Act) (w : World), wpAnyH P md ops Q C fuel listed a w → wpAny P md ops Q fuel listed a w
 | 0, _, _, _, h => h
 | fuel + 1, _, _, _, h => ⟨h.1, fun i hi => wpOp_mono (fun a' w' h' => wpAny_of_H fuel _ a' w' h'.2) (h.2 i hi)⟩
theorem CondH.put {listed : Array Bool} {w : World} {i : Nat} (hi : ∀ p ∈ C, p.1 ≠ i) (h : CondH C listed w) : CondH C (listed.setIfInBounds i true) w := fun p hp hl => h p hp (by rw [getD_set_ne true (Ne.symm (hi p hp))] at hl; exact hl)
theorem CondH.back {listed : Array Bool} {w : World} {i : Nat} (hi : ∀ p ∈ C, p.1 ≠ i) (h : CondH C (listed.setIfInBounds i true) w) : CondH C listed w := fun p hp hl => h p hp (by rw [getD_set_ne true (Ne.symm (hi p hp))]; exact hl)
theorem wpAnyH_first {V : List Nat} {t : Nat} {S : World → Prop} (hm : (t, S) ∈ C) (hTV : t ∈ V) {i : Nat} (hiC : ∀ p ∈ C, p.1 ≠ i) {oi : Oper} {v : Value} (hi : ops[i]? = some oi) (hsel : ∀ (j : Nat) (o : Oper) cs b, ops[j]? = some o → o.op ≠ .select cs b)
  (hQ : ∀ c a w, Q (.panic c) (a.put oi.dst v) w → Q (.panic c) a w) (hch : chained md ops V i) :
  ∀ (fuel : Nat) (listed : Array Bool) (a : Act) (w : World),
   (∀ j oj, ops[j]? = some oj → j ≠ i → listed.getD j true = false → (∀ e ∈ oj.after, Region.binds md e = true → e.on ≠ i) → oi.apart ops oj = true) →
   i ∈ Region.ready md ops listed → unlisted V listed → YieldsIf P ops S oi v a → CondH C listed w →
   wpAnyH P md ops Q C fuel (listed.setIfInBounds i true) (a.put oi.dst v) w → wpAnyH P md ops Q C (fuel + 1) listed a w := by
 intro fuel
 induction fuel with
 | zero =>
  intro listed a w _ hr hu hy hS H
  refine ⟨fun h => (by rw [h] at hr; cases hr), fun j hj => ?_⟩
  by_cases hji : j = i
  ·subst hji; exact hy.wpOp hi (hS _ hm (hu t hTV)) ⟨hS.put hiC, H⟩
  ·have := ready_mono hj hji
   rw [H.1] at this
   cases this
 | succ fuel ih =>
  intro listed a w hfree hr hu hy hS H
  refine ⟨fun h => (by rw [h] at hr; cases hr), fun j hj => ?_⟩
  by_cases hji : j = i
  ·subst hji; exact hy.wpOp hi (hS _ hm (hu t hTV)) ⟨hS.put hiC, H⟩
  ·have h1 := H.2 j (ready_mono hj hji)
   obtain ⟨hjun, oj, hoj, hall⟩ := mem_ready.1 hj
   have hjV := not_mem_of_ready hu hch (mem_ready.1 hr).1 hj
   have hnot : ∀ e ∈ oj.after, Region.binds md e = true → e.on ≠ i := fun e he hb heq => by
    have h1 := hall e he hb
    rw [heq] at h1
    exact getD_false_of_unlisted (mem_ready.1 hr).1 h1
   have h2 := wpOp_putIf hoj (hfree j oj hoj hji hjun hnot) (fun cs b => hsel i oi cs b hi) (fun cs b => hsel j oj cs b hoj) hQ hy h1
   have hfree' : ∀ k ok, ops[k]? = some ok → k ≠ i → (listed.setIfInBounds j true).getD k true = false →
     (∀ e ∈ ok.after, Region.binds md e = true → e.on ≠ i) → oi.apart ops ok = true := fun k ok hk hki hun hno => by
    refine hfree k ok hk hki ?_ hno
    by_cases hjk : j = k
    ·subst hjk; exact hjun
    ·rw [getD_set_ne true hjk] at hun; exact hun
   have hu' : unlisted V (listed.setIfInBounds j true) := fun t ht => by
    rw [getD_set_ne true (fun e => by subst e; exact hjV ht)]; exact hu t ht
   refine wpOp_mono (fun a' w' h3 => ?_) h2
   have hc : CondH C (listed.setIfInBounds j true) w' := by
    have := h3.2.1
    rw [Array.setIfInBounds_comm _ _ (Ne.symm hji)] at this
    exact this.back hiC
   refine ⟨hc, ih (listed.setIfInBounds j true) a' w' hfree' (ready_mono hr (Ne.symm hji)) hu' h3.1 hc ?_⟩
   rw [Array.setIfInBounds_comm _ _ hji]
   exact h3.2.2
/-- Number i is taken first, by the condition that holds till t, which waits for i. -/
theorem wpAnyH_take {i : Nat} (t : Nat) {S : World → Prop} {oi : Oper} {v : Value} {fuel : Nat} {listed : Array Bool} {a : Act} {w : World} (hm : (t, S) ∈ C) (hiC : (C.all fun p => !(p.1 == i)) = true) (hi : ops[i]? = some oi)
  (hs : Region.noSelect ops = true) (hf : Region.free md ops listed i = true) (hr : (Region.ready md ops listed).contains i = true) (hT : ((after md ops listed i).contains t && waits md ops (after md ops listed i) listed i) = true)
  (hQ : ∀ c a w, Q (.panic c) (a.put oi.dst v) w → Q (.panic c) a w) (hy : YieldsIf P ops S oi v a) (hS : CondH C listed w)
  (h : CondH C (listed.setIfInBounds i true) w → wpAnyH P md ops Q C fuel (listed.setIfInBounds i true) (a.put oi.dst v) w) : wpAnyH P md ops Q C (fuel + 1) listed a w := by
 obtain ⟨h1, h2⟩ := Bool.and_eq_true_iff.1 hT
 have hne : ∀ p ∈ C, p.1 ≠ i := fun p hp => by
  have := List.all_eq_true.1 hiC p hp
  simpa using this
 exact wpAnyH_first (V := after md ops listed i) hm (by simpa using h1) hne hi (Region.noSelect_spec hs) hQ (waits_spec h2).2 fuel listed a w (Region.free_spec hi hf) (by simpa using hr) (waits_spec h2).1 hy hS (h (hS.put hne))
/-- The same, where all the conditions hold yet. -/
theorem wpAnyH_read {i : Nat} (t : Nat) {S : World → Prop} {oi : Oper} {v : Value} {fuel : Nat} {listed : Array Bool} {a : Act} {w : World} (hm : (t, S) ∈ C) (hiC : (C.all fun p => !(p.1 == i)) = true) (hi : ops[i]? = some oi)
  (hs : Region.noSelect ops = true) (hf : Region.free md ops listed i = true) (hr : (Region.ready md ops listed).contains i = true) (hT : ((after md ops listed i).contains t && waits md ops (after md ops listed i) listed i) = true)
  (hQ : ∀ c a w, Q (.panic c) (a.put oi.dst v) w → Q (.panic c) a w) (hy : YieldsIf P ops S oi v a) (hS : ∀ p ∈ C, p.2 w)
  (h : wpAnyH P md ops Q C fuel (listed.setIfInBounds i true) (a.put oi.dst v) w) : wpAnyH P md ops Q C (fuel + 1) listed a w :=
 wpAnyH_take t hm hiC hi hs hf hr hT hQ hy (fun p hp _ => hS p hp) fun _ => h
theorem wpAnyH_one {i : Nat} {o : Oper} {fuel : Nat} {listed : Array Bool} {a : Act} {w : World} (hr : Region.ready md ops listed = [i]) (ho : ops[i]? = some o)
  (h : ∀ K' : Act → World → Prop, Shut (∀ a w, CondH C (listed.setIfInBounds i true) w → wpAnyH P md ops Q C fuel (listed.setIfInBounds i true) a w → K' a w) → if Region.wanted o (yielded ops a.tmps) = true then Oper.wp P o a w K' Q else K' (a.put o.dst undef) w) :
  wpAnyH P md ops Q C (fuel + 1) listed a w := by
 refine ⟨fun h0 => (by rw [hr] at h0; cases h0), fun j hj => ?_⟩
 rw [hr] at hj
 obtain rfl := List.mem_singleton.1 hj
 exact wpOp_step ho fun K' hK => h K' fun a w h1 h2 => hK a w ⟨h1, h2⟩
theorem wpAnyH_done {listed : Array Bool} {a : Act} {w : World} (hr : Region.ready md ops listed = []) (h : Q .normal a w) : ∀ fuel, wpAnyH P md ops Q C fuel listed a w
 | 0 => ⟨hr, h⟩
 | _ + 1 => ⟨fun _ => h, by rw [hr]; simp⟩
theorem wp_region_H (C : List (Nat × (World → Prop))) (l : Array Bool) {id : Nat} {a : Act} {w : World} (hm : P.follows .mixedOrders = true) (hl : Array.replicate ops.size false = l)
  (hS : ∀ p ∈ C, p.2 w.drew) (h : (∀ p ∈ C, p.2 w.drew) → wpAnyH P .any ops Q C ops.size l a w.drew) : (Code.region id ops true).wp P Q a w := by
 subst hl
 exact wp_region_any hm (wpAny_of_H _ _ _ _ (h hS))
end
end Go.Proofs.YtcnbmeiielkigaaGreatDoor
/- Stage 22's laws: cut, of any message. -/
namespace Go.Proofs.YtcnbmeiielkigaaGreatDoor
open Go Go.RowKit
set_option linter.unusedVariables false
set_option linter.unusedSimpArgs false
theorem ens_pre {w : World} {a : Option Addr} {n c : Nat} {xs : List (EnM × Value)} (h : EnS w (.slice a n c) xs) (m : Nat) (hm : m ≤ n) : EnS w (.slice a m c) (xs.take m) ∧ (xs.take m).length = m ∧ m ≤ c := by
 rcases h with ⟨a', c', h1, rfl⟩ | ⟨b, off, c', h1, h2, h3, h4, h5⟩
 ·simp only [Value.slice.injEq] at h1
  obtain ⟨rfl, rfl, rfl⟩ := h1
  obtain rfl : m = 0 := by omega
  exact ⟨.inl ⟨_, _, rfl, rfl⟩, rfl, Nat.zero_le _⟩
 ·simp only [Value.slice.injEq] at h1
  obtain ⟨rfl, rfl, rfl⟩ := h1
  have hl : (xs.take m).length = m := by rw [List.length_take]; omega
  refine ⟨.inr ⟨b, off, c, by rw [hl], by rw [hl]; omega, h3, h4, fun i hi => ?_⟩, hl, by omega⟩
  have := h5 i (by omega)
  rw [List.getElem_take]
  exact this
theorem lns_pre {w : World} {a : Option Addr} {n c : Nat} {ls : List Ln} (h : LnS w (.slice a n c) ls) (m : Nat) (hm : m ≤ n) : LnS w (.slice a m c) (ls.take m) ∧ (ls.take m).length = m ∧ m ≤ c := by
 rcases h with ⟨a', c', he, h1, rfl⟩ | ⟨b, off, c', he, h1, h2, h3, h4⟩
 ·simp only [Value.slice.injEq] at he
  obtain ⟨rfl, rfl, rfl⟩ := he
  obtain rfl : m = 0 := by omega
  exact ⟨.inl ⟨_, _, rfl, h1, rfl⟩, rfl, Nat.zero_le _⟩
 ·simp only [Value.slice.injEq] at he
  obtain ⟨rfl, rfl, rfl⟩ := he
  have hl : (ls.take m).length = m := by rw [List.length_take]; omega
  refine ⟨.inr ⟨b, off, c, by rw [hl], by rw [hl]; omega, h2, h3, fun i hi => ?_⟩, hl, by omega⟩
  have := h4 i (by omega)
  rw [List.getElem_take]
  exact this
theorem bv_cap {w : World} {a : Option Addr} {n c : Nat} {l : List UInt8} (h : Sl w (.slice a n c) (bv l)) : n ≤ c := by
 rcases h with (⟨h1, h2⟩ | ⟨b, off, cap, h1, h2, h3, h4, h5⟩) | ⟨x, c', h1, h2⟩
 ·simp only [Value.slice.injEq] at h1; omega
 ·simp only [Value.slice.injEq] at h1; omega
 ·simp only [Value.slice.injEq] at h1; omega
theorem min_as (n k : Nat) : ∃ m : Nat, m = min n k ∧ (if (k : Int) < (n : Int) then (k : Int) else (n : Int)) = (m : Int) ∧ m ≤ n ∧ m ≤ k := by
 refine ⟨min n k, rfl, ?_, Nat.min_le_left _ _, Nat.min_le_right _ _⟩
 split <;> omega
end Go.Proofs.YtcnbmeiielkigaaGreatDoor
/- When two messages have the same; what one's own has. -/
namespace Go.Proofs.YtcnbmeiielkigaaGreatDoor
open Go Go.RowKit
set_option linter.unusedVariables false
set_option linter.unusedSimpArgs false
theorem ok_len' {x : EnM} (h : x.ok = true) : x.p.ls.length ≤ 1000 := by
 unfold EnM.ok OpM.ok okB at h
 simp only [Bool.and_eq_true] at h
 have h4 := h.2.2
 unfold linB at h4
 split at h4
 ·unfold linesB at h4
  simp only [Bool.and_eq_true] at h4
  have := of_decide_eq_true h4.1.1.2
  omega
 ·have := of_decide_eq_true h4
  omega
theorem chk_ls {g : MgM} (h : chkB g = true) (hx : g.ps.length ≤ 900) : ∀ x ∈ g.ps, x.1.p.ls.length ≤ 1000 := by
 unfold chkB at h
 simp only [Bool.and_eq_true] at h
 have h1 := h.2.2.2.2.2.2.2.2.2
 unfold fIB at h1
 intro x hxm
 split at h1
 ·unfold ckI at h1
  simp only [Bool.and_eq_true] at h1
  have := List.all_eq_true.1 h1.1.2 x hxm
  exact ok_len' this
 ·simp only [Bool.and_eq_true] at h1
  have := of_decide_eq_true h1.2
  rw [List.eq_nil_of_length_eq_zero this] at hxm
  cases hxm
theorem sameP_of {xs ys : List (EnM × Value)} (h : xs.map (·.1) = ys.map (·.1)) : SameP xs ys := by
 have hl : xs.length = ys.length := by have := congrArg List.length h; simpa using this
 refine ⟨hl, fun j h1 h2 => ?_⟩
 have h9 : (xs.map (·.1))[j]? = (ys.map (·.1))[j]? := by rw [h]
 rw [List.getElem?_map, List.getElem?_map, List.getElem?_eq_getElem h1, List.getElem?_eq_getElem h2] at h9
 have : xs[j].1 = ys[j].1 := by simpa using h9
 rw [this]
 simp [enSame, sameB]
theorem gm_things {w0 : World} {g : MgM} {lu cu eu : Value} {qs : List (EnM × Value)} {L : List Thing} {wx : World} (h : Sep w0 (LnR lu g.en.p.ls :: By cu g.ck :: EnT eu qs :: L) wx) : GmS wx { g with lv := lu, cv := cu, ev := eu, ps := qs } := ⟨Sep.lnS h, h.sw2.sl, h.sw3.enS⟩
def SameF (g h : MgM) : Prop := (g.k = h.k ∧ g.f = h.f ∧ g.t = h.t ∧ g.v = h.v ∧ g.o = h.o ∧ g.cm = h.cm ∧ g.la = h.la ∧ g.en = h.en ∧ g.rc = h.rc ∧ g.ra = h.ra ∧ g.rb = h.rb ∧ g.s = h.s ∧ g.ib = h.ib ∧ g.ic = h.ic ∧ g.ck = h.ck) ∧ g.ps.map (·.1) = h.ps.map (·.1)
theorem sameF_with (g : MgM) (lu cu eu : Value) (qs : List (EnM × Value)) (h : qs.map (·.1) = g.ps.map (·.1)) : SameF { g with lv := lu, cv := cu, ev := eu, ps := qs } g := ⟨⟨rfl, rfl, rfl, rfl, rfl, rfl, rfl, rfl, rfl, rfl, rfl, rfl, rfl, rfl, rfl⟩, h⟩
theorem SameF.trans {a b c : MgM} (h : SameF a b) (k : SameF b c) : SameF a c := by
 obtain ⟨⟨h1, h2, h3, h4, h5, h6, h7, h8, h9, h10, h11, h12, h13, h14, h15⟩, hp⟩ := h
 obtain ⟨⟨k1, k2, k3, k4, k5, k6, k7, k8, k9, k10, k11, k12, k13, k14, k15⟩, kp⟩ := k
 exact ⟨⟨h1.trans k1, h2.trans k2, h3.trans k3, h4.trans k4, h5.trans k5, h6.trans k6, h7.trans k7, h8.trans k8, h9.trans k9, h10.trans k10, h11.trans k11, h12.trans k12, h13.trans k13, h14.trans k14, h15.trans k15⟩, hp.trans kp⟩
theorem SameF.ckl {a b : MgM} (h : SameF a b) : a.ck.length = b.ck.length := by rw [h.1.2.2.2.2.2.2.2.2.2.2.2.2.2.2]
theorem SameF.enp {a b : MgM} (h : SameF a b) : a.en = b.en := h.1.2.2.2.2.2.2.2.1
theorem SameF.psl {a b : MgM} (h : SameF a b) : a.ps.length = b.ps.length := by have := congrArg List.length h.2; simpa using this
theorem SameF.pls {a b : MgM} (h : SameF a b) (hb : ∀ x ∈ b.ps, x.1.p.ls.length ≤ 1000) : ∀ x ∈ a.ps, x.1.p.ls.length ≤ 1000 := by
 intro x hx
 have : x.1 ∈ a.ps.map (·.1) := List.mem_map.2 ⟨x, hx, rfl⟩
 rw [h.2] at this
 obtain ⟨y, hy, e⟩ := List.mem_map.1 this
 rw [← e]
 exact hb y hy
theorem gms_one {w : World} {g : MgM} (h : GmS w g) : (mgC g).all (·.oneCell') = true := by
 obtain ⟨x1, x2, e1⟩ := h.1.len
 obtain ⟨x3, x4, e2⟩ := bv_form h.2.1
 obtain ⟨x5, x6, e3⟩ := h.2.2.len
 exact mgC_one g (by rw [e1]; rfl) (by rw [e2]; rfl) (by rw [e3]; rfl)
theorem gm_own {w0 wx : World} {g : MgM} {L : List Thing} (h : Sep w0 (LnR g.lv g.en.p.ls :: By g.cv g.ck :: EnT g.ev g.ps :: L) wx) : GmS wx g := gm_things (g := g) (lu := g.lv) (cu := g.cv) (eu := g.ev) (qs := g.ps) h
end Go.Proofs.YtcnbmeiielkigaaGreatDoor
