/- Package item: what is written is read, and back: plain mathematics. -/
import Derived.Deep.RegionHeld3
import Derived.Test.YtafkbodmiblbnaaGreatDoorMZ13
import Derived.Test.YtafkbodmiblbnaaGreatDoorMZ04
namespace Go.Proofs.YtafkbodmiblbnaaGreatDoor
open Go.RowKit
set_option linter.unusedVariables false
set_option linter.unusedSimpArgs false
theorem qty_of {n : Int} (h : qtyB n = true) : 1 ≤ n ∧ n ≤ 2147483647 := by unfold qtyB at h; simpa using h
theorem name_of {s : ByteArray} (h : nameB s = true) : 1 ≤ s.size ∧ s.size ≤ 8 := by unfold nameB at h; simp at h; exact h.1
theorem sku_empty {s : KS} (h : s.1.toList.isEmpty = true) : s = sZ := by
  apply Subtype.ext
  have h2 : s.1.toList = [] := List.isEmpty_iff.1 h
  unfold sZ
  apply ByteArray.ext
  apply Array.ext'
  have h3 : s.1.toList = s.1.data.toList := ByteArray.toList_eq s.1
  rw [← h3, h2]
/-- What may be, by the class of its kind. -/
theorem ok_parts {k : Int} {s : KS} {o n : Int} {ls : List Ln} (h : okB k s o n ls = true) :
    (1 ≤ k ∧ k ≤ 9) ∧ ((fieldsOf k = 5 ∧ nameB s.1 = true ∧ o = 0 ∧ qtyB n = true ∧ ls = []) ∨ (fieldsOf k = 9 ∧ nameB s.1 = true ∧ o = 0 ∧ chgB n = true ∧ ls = []) ∨ (fieldsOf k = 22 ∧ s = sZ ∧ qtyB o = true ∧ qtyB n = true ∧ linesB ls = true) ∨ (fieldsOf k = 2 ∧ s = sZ ∧ qtyB o = true ∧ n = 0 ∧ ls = []) ∨ (fieldsOf k = 4 ∧ s = sZ ∧ o = 0 ∧ qtyB n = true ∧ ls = []) ∨ (fieldsOf k = 1 ∧ nameB s.1 = true ∧ o = 0 ∧ n = 0 ∧ ls = [])) := by
  unfold okB at h
  simp only [Bool.and_eq_true] at h
  obtain ⟨⟨⟨⟨h0, h1⟩, h2⟩, h3⟩, h4⟩ := h
  have h0' : fieldsOf k ≠ 0 := by simpa using h0
  refine ⟨fields_ne h0', ?_⟩
  rcases fields_cls k with e | hc
  · exact absurd e h0'
  have lnil : ∀ {b : Bool}, ((ls.length : Int) == 0) = true → ls = [] := fun hh => List.eq_nil_of_length_eq_zero (by have := of_decide_eq_true hh; omega)
  have hin : ∀ {x : Int}, (x == 0) = true → x = 0 := fun hh => of_decide_eq_true hh
  rcases hc with e | e | e | e | e | e <;> rw [e] at h1 h2 h3 h4
  · exact .inl ⟨e, h1, hin h2, h3, lnil (b := true) h4⟩
  · exact .inr (.inl ⟨e, h1, hin h2, h3, lnil (b := true) h4⟩)
  · exact .inr (.inr (.inl ⟨e, sku_empty h1, h2, h3, h4⟩))
  · exact .inr (.inr (.inr (.inl ⟨e, sku_empty h1, h2, of_decide_eq_true h3, lnil (b := true) h4⟩)))
  · exact .inr (.inr (.inr (.inr (.inl ⟨e, sku_empty h1, hin h2, h3, lnil (b := true) h4⟩))))
  · exact .inr (.inr (.inr (.inr (.inr ⟨e, h1, hin h2, of_decide_eq_true h3, lnil (b := true) h4⟩))))
theorem chg_of {n : Int} (h : chgB n = true) : n ≠ 0 ∧ -2147483647 ≤ n ∧ n ≤ 2147483647 := by unfold chgB at h; simp at h; omega
theorem lines_of {ls : List Ln} (h : linesB ls = true) : 1 ≤ ls.length ∧ ls.length ≤ 4 ∧ ls.all lineB = true := by
  unfold linesB at h; simp only [Bool.and_eq_true] at h; exact ⟨of_decide_eq_true h.1.1.1, of_decide_eq_true h.1.1.2, h.1.2⟩
end Go.Proofs.YtafkbodmiblbnaaGreatDoor
/- The statement's own: bytes. -/
namespace Go.Proofs.YtafkbodmiblbnaaGreatDoor
open Go.RowKit
set_option linter.unusedVariables false
set_option linter.unusedSimpArgs false
theorem same_self (k : Int) (s : KS) (o n : Int) (ls : List Ln) : sameB k s o n ls k s o n ls = true := by simp [sameB]
theorem ok_len {k : Int} {s : KS} {o n : Int} {ls : List Ln} (h : okB k s o n ls = true) : ls.length ≤ 4 := by
  obtain ⟨_, hp⟩ := ok_parts h
  rcases hp with ⟨e, h1, h2, h3, h4⟩ | ⟨e, h1, h2, h3, h4⟩ | ⟨e, h1, h2, h3, h4⟩ | ⟨e, h1, h2, h3, h4⟩ | ⟨e, h1, h2, h3, h4⟩ | ⟨e, h1, h2, h3, h4⟩
  all_goals first | (have := lines_of h4; omega) | (rw [h4]; simp)
theorem txtB_len (s : KS) (h : s.1.size ≤ 8) : (txtB s).length ≤ 18 := by
  unfold txtB
  rw [List.length_append, show s.1.data.toList.length = s.1.size from rfl]
  have := vint_len s.1.size
  omega
theorem lines_len : ∀ (ls : List Ln), ls.all lineB = true → (ls.flatMap lineBs).length ≤ ls.length * 28
  | [], _ => Nat.le_refl _
  | l :: ls, h => by
    simp only [List.all_cons, Bool.and_eq_true] at h
    have ih := lines_len ls h.2
    have h1 := h.1
    unfold lineB at h1
    simp only [Bool.and_eq_true] at h1
    have hn := (name_of h1.1).2
    have t := txtB_len l.1 hn
    have hv := vint_len l.2.toNat
    have t2 : (lineBs l).length = (txtB l.1).length + (vint l.2.toNat).length := by unfold lineBs; rw [List.length_append]
    rw [List.flatMap_cons, List.length_append, List.length_cons]
    omega
theorem opBs_len {k : Int} {s : KS} {o n : Int} {ls : List Ln} (h : okB k s o n ls = true) : (opBs k s o n ls).length ≤ 200 := by
  obtain ⟨_, hp⟩ := ok_parts h
  have v1 := vint_len o.toNat
  have v2 := vint_len n.toNat
  have v3 := vint_len (zig n)
  have v4 := vint_len ls.length
  rcases hp with ⟨e, h1, h2, h3, h4⟩ | ⟨e, h1, h2, h3, h4⟩ | ⟨e, h1, h2, h3, h4⟩ | ⟨e, h1, h2, h3, h4⟩ | ⟨e, h1, h2, h3, h4⟩ | ⟨e, h1, h2, h3, h4⟩
  · have t := txtB_len s (name_of h1).2
    rw [h4]; unfold opBs cntBs; rw [e]; simp; omega
  · have t := txtB_len s (name_of h1).2
    rw [h4]; unfold opBs cntBs; rw [e]; simp; omega
  · obtain ⟨l1, l4, hall⟩ := lines_of h4
    have t := lines_len ls hall
    unfold opBs cntBs; rw [e]; rw [if_neg (by decide), if_pos (by decide), if_pos (by decide), if_pos (by decide)]; simp only [List.length_append, List.length_singleton, List.length_nil]; omega
  · rw [h4]; unfold opBs cntBs; rw [e]; simp; omega
  · rw [h4]; unfold opBs cntBs; rw [e]; simp; omega
  · have t := txtB_len s (name_of h1).2
    rw [h4]; unfold opBs cntBs; rw [e]; simp; omega
end Go.Proofs.YtafkbodmiblbnaaGreatDoor
/- A region that draws its order, whose loads' cells are written by one of its last operations: the condition on the world holds till one of those in T has come up. -/
namespace Go.Proofs.YtafkbodmiblbnaaGreatDoor
open Go
set_option linter.unusedVariables false
theorem nz0 {α : Type _} {xs : List α} {i : Nat} (h : i < xs.toArray.size) : xs.toArray[i] = xs[i]'(by simpa using h) := List.getElem_toArray h
theorem nz1 {α : Type _} (a : α) (ys : List α) (i : Nat) (h : i + 1 < (a :: ys).length) : (a :: ys)[i + 1] = ys[i]'(by simpa using h) := List.getElem_cons_succ a ys i h
theorem nz2 {α : Type _} (a : α) (ys : List α) (h : 0 < (a :: ys).length) : (a :: ys)[0] = a := List.getElem_cons_zero a ys h
theorem nz3 {α : Type _} (l : List α) (i : Nat) (a : α) : l.toArray.setIfInBounds i a = (l.set i a).toArray := List.setIfInBounds_toArray l i a
theorem nz4 {α : Type _} {x : α} {xs : List α} {a : α} : (x :: xs).set 0 a = a :: xs := List.set_cons_zero
theorem nz5 {α : Type _} {x : α} {xs : List α} {i : Nat} {a : α} : (x :: xs).set (i + 1) a = x :: xs.set i a := List.set_cons_succ
section
variable {P : Program} {ops : Array Oper} {Q : Exit → Act → World → Prop} {md : Region.Mode} {S : World → Prop} {T : List Nat}
/-- Whatever order is picked from here on, and S holds behind every operation that is not in T. -/
def wpAnyG (P : Program) (md : Region.Mode) (ops : Array Oper) (Q : Exit → Act → World → Prop) (S : World → Prop) (T : List Nat) : Nat → Array Bool → Act → World → Prop
  | 0, listed, a, w => Region.ready md ops listed = [] ∧ Q .normal a w
  | fuel + 1, listed, a, w =>
    (Region.ready md ops listed = [] → Q .normal a w) ∧
    ∀ i ∈ Region.ready md ops listed, wpOp P ops Q i (fun a' w' => (T.contains i = false → S w') ∧ wpAnyG P md ops Q S T fuel (listed.setIfInBounds i true) a' w') a w
theorem wpAny_of_G : ∀ (fuel : Nat) (listed : Array Bool) (a : Act) (w : World), wpAnyG P md ops Q S T fuel listed a w → wpAny P md ops Q fuel listed a w
  | 0, _, _, _, h => h
  | fuel + 1, _, _, _, h => ⟨h.1, fun i hi => wpOp_mono (fun a' w' h' => wpAny_of_G fuel _ a' w' h'.2) (h.2 i hi)⟩
/-- All of V have not come up, and each of them waits for i or for another one of V. -/
def waits (md : Region.Mode) (ops : Array Oper) (V : List Nat) (listed : Array Bool) (i : Nat) : Bool :=
  V.all fun t => !listed.getD t true && match ops[t]? with
    | some o => o.after.any fun e => Region.binds md e && (e.on == i || V.contains e.on)
    | none => false
def unlisted (V : List Nat) (listed : Array Bool) : Prop := ∀ t ∈ V, listed.getD t true = false
def chained (md : Region.Mode) (ops : Array Oper) (V : List Nat) (i : Nat) : Prop := ∀ t ∈ V, ∃ o, ops[t]? = some o ∧ ∃ e ∈ o.after, Region.binds md e = true ∧ (e.on = i ∨ e.on ∈ V)
theorem waits_spec {V : List Nat} {listed : Array Bool} {i : Nat} (h : waits md ops V listed i = true) : unlisted V listed ∧ chained md ops V i := by
  constructor
  · intro t ht
    have := List.all_eq_true.1 h t ht
    simp only [Bool.and_eq_true, Bool.not_eq_true'] at this
    exact this.1
  · intro t ht
    have := List.all_eq_true.1 h t ht
    simp only [Bool.and_eq_true, Bool.not_eq_true'] at this
    have h2 := this.2
    cases ho : ops[t]? with
    | none => rw [ho] at h2; cases h2
    | some o =>
      rw [ho] at h2
      obtain ⟨e, he, hb⟩ := Array.any_eq_true'.1 h2
      simp only [Bool.and_eq_true, Bool.or_eq_true, beq_iff_eq, List.contains_iff_mem] at hb
      exact ⟨o, rfl, e, he, hb.1, hb.2⟩
theorem getD_false_of_unlisted {listed : Array Bool} {k : Nat} (h0 : listed.getD k true = false) (h1 : listed.getD k false = true) : False := by
  rcases Nat.lt_or_ge k listed.size with h' | h'
  · simp [h'] at h0 h1; rw [h0] at h1; cases h1
  · simp [Array.getElem?_eq_none h'] at h1
theorem not_mem_of_ready {V : List Nat} {listed : Array Bool} {i j : Nat} (hu : unlisted V listed) (hc : chained md ops V i) (hi : listed.getD i true = false) (hj : j ∈ Region.ready md ops listed) : j ∉ V := by
  intro hm
  obtain ⟨o, ho, e, he, hb, hor⟩ := hc j hm
  obtain ⟨_, o', ho', hall⟩ := mem_ready.1 hj
  rw [ho] at ho'
  cases ho'
  have h1 := hall e he hb
  rcases hor with h2 | h2
  · rw [h2] at h1; exact getD_false_of_unlisted hi h1
  · exact getD_false_of_unlisted (hu _ h2) h1
theorem wpAnyG_first {V : List Nat} (hTV : ∀ t, t ∈ T → t ∈ V) {i : Nat} {oi : Oper} {v : Value} (hi : ops[i]? = some oi) (hsel : ∀ (j : Nat) (o : Oper) cs b, ops[j]? = some o → o.op ≠ .select cs b)
    (hQ : ∀ c a w, Q (.panic c) (a.put oi.dst v) w → Q (.panic c) a w) (hch : chained md ops V i) :
    ∀ (fuel : Nat) (listed : Array Bool) (a : Act) (w : World),
      (∀ j oj, ops[j]? = some oj → j ≠ i → listed.getD j true = false → (∀ e ∈ oj.after, Region.binds md e = true → e.on ≠ i) → oi.apart ops oj = true) →
      i ∈ Region.ready md ops listed → unlisted V listed → YieldsIf P ops S oi v a → S w →
      wpAnyG P md ops Q S T fuel (listed.setIfInBounds i true) (a.put oi.dst v) w → wpAnyG P md ops Q S T (fuel + 1) listed a w := by
  intro fuel
  induction fuel with
  | zero =>
    intro listed a w _ hr hu hy hS H
    refine ⟨fun h => (by rw [h] at hr; cases hr), fun j hj => ?_⟩
    by_cases hji : j = i
    · subst hji; exact hy.wpOp hi hS ⟨fun _ => hS, H⟩
    · have := ready_mono hj hji
      rw [H.1] at this
      cases this
  | succ fuel ih =>
    intro listed a w hfree hr hu hy hS H
    refine ⟨fun h => (by rw [h] at hr; cases hr), fun j hj => ?_⟩
    by_cases hji : j = i
    · subst hji; exact hy.wpOp hi hS ⟨fun _ => hS, H⟩
    · have h1 := H.2 j (ready_mono hj hji)
      obtain ⟨hjun, oj, hoj, hall⟩ := mem_ready.1 hj
      have hjV := not_mem_of_ready hu hch (mem_ready.1 hr).1 hj
      have hjT : T.contains j = false := by
        cases hc : T.contains j
        · rfl
        · exact (hjV (hTV j (by simpa using hc))).elim
      have hnot : ∀ e ∈ oj.after, Region.binds md e = true → e.on ≠ i := fun e he hb heq => by
        have h1 := hall e he hb
        rw [heq] at h1
        exact getD_false_of_unlisted (mem_ready.1 hr).1 h1
      have h2 := wpOp_putIf hoj (hfree j oj hoj hji hjun hnot) (fun cs b => hsel i oi cs b hi) (fun cs b => hsel j oj cs b hoj) hQ hy h1
      have hfree' : ∀ k ok, ops[k]? = some ok → k ≠ i → (listed.setIfInBounds j true).getD k true = false →
          (∀ e ∈ ok.after, Region.binds md e = true → e.on ≠ i) → oi.apart ops ok = true := fun k ok hk hki hun hno => by
        refine hfree k ok hk hki ?_ hno
        by_cases hjk : j = k
        · subst hjk; exact hjun
        · rw [getD_set_ne true hjk] at hun; exact hun
      have hu' : unlisted V (listed.setIfInBounds j true) := fun t ht => by
        rw [getD_set_ne true (fun e => by subst e; exact hjV ht)]; exact hu t ht
      refine wpOp_mono (fun a' w' h3 => ⟨h3.2.1, ih (listed.setIfInBounds j true) a' w' hfree' (ready_mono hr (Ne.symm hji)) hu' h3.1 (h3.2.1 hjT) ?_⟩) h2
      rw [Array.setIfInBounds_comm _ _ hji]
      exact h3.2.2
/-- Number i is taken first: V: what waits for it, T among it. -/
theorem wpAnyG_take {i : Nat} (V : List Nat) {oi : Oper} {v : Value} {fuel : Nat} {listed : Array Bool} {a : Act} {w : World} (hi : ops[i]? = some oi)
    (hs : Region.noSelect ops = true) (hf : Region.free md ops listed i = true) (hr : (Region.ready md ops listed).contains i = true) (hT : (T.all V.contains) = true) (hV : waits md ops V listed i = true)
    (hQ : ∀ c a w, Q (.panic c) (a.put oi.dst v) w → Q (.panic c) a w) (hy : YieldsIf P ops S oi v a) (hS : S w)
    (h : wpAnyG P md ops Q S T fuel (listed.setIfInBounds i true) (a.put oi.dst v) w) : wpAnyG P md ops Q S T (fuel + 1) listed a w :=
  wpAnyG_first (V := V) (fun t ht => by have := List.all_eq_true.1 hT t ht; simpa using this) hi (Region.noSelect_spec hs) hQ (waits_spec hV).2 fuel listed a w (Region.free_spec hi hf) (by simpa using hr) (waits_spec hV).1 hy hS h
/-- One alone may come up; behind it S is to be shown anew, but if it is in T. -/
theorem wpAnyG_one {i : Nat} {o : Oper} {fuel : Nat} {listed : Array Bool} {a : Act} {w : World} (hr : Region.ready md ops listed = [i]) (ho : ops[i]? = some o)
    (h : ∀ K' : Act → World → Prop, Shut (∀ a w, (T.contains i = false → S w) → wpAnyG P md ops Q S T fuel (listed.setIfInBounds i true) a w → K' a w) → if Region.wanted o (yielded ops a.tmps) = true then Oper.wp P o a w K' Q else K' (a.put o.dst undef) w) :
    wpAnyG P md ops Q S T (fuel + 1) listed a w := by
  refine ⟨fun h0 => (by rw [hr] at h0; cases h0), fun j hj => ?_⟩
  rw [hr] at hj
  obtain rfl := List.mem_singleton.1 hj
  exact wpOp_step ho fun K' hK => h K' fun a w h1 h2 => hK a w ⟨h1, h2⟩
/-- All that has not come up and waits for i, directly or not. -/
def after (md : Region.Mode) (ops : Array Oper) (listed : Array Bool) (i : Nat) : List Nat :=
  (List.range ops.size).foldl (fun V t => if !listed.getD t true && (match ops[t]? with | some o => o.after.any fun e => Region.binds md e && (e.on == i || V.contains e.on) | none => false) then V ++ [t] else V) []
/-- The same; what waits for it is found by itself. -/
theorem wpAnyG_take' {i : Nat} {oi : Oper} {v : Value} {fuel : Nat} {listed : Array Bool} {a : Act} {w : World} (hi : ops[i]? = some oi)
    (hs : Region.noSelect ops = true) (hf : Region.free md ops listed i = true) (hr : (Region.ready md ops listed).contains i = true) (hT : (T.all (after md ops listed i).contains && waits md ops (after md ops listed i) listed i) = true)
    (hQ : ∀ c a w, Q (.panic c) (a.put oi.dst v) w → Q (.panic c) a w) (hy : YieldsIf P ops S oi v a) (hS : S w)
    (h : wpAnyG P md ops Q S T fuel (listed.setIfInBounds i true) (a.put oi.dst v) w) : wpAnyG P md ops Q S T (fuel + 1) listed a w :=
  wpAnyG_take _ hi hs hf hr (Bool.and_eq_true_iff.1 hT).1 (Bool.and_eq_true_iff.1 hT).2 hQ hy hS h
theorem wpAnyG_done {listed : Array Bool} {a : Act} {w : World} (hr : Region.ready md ops listed = []) (h : Q .normal a w) : ∀ fuel, wpAnyG P md ops Q S T fuel listed a w
  | 0 => ⟨hr, h⟩
  | _ + 1 => ⟨fun _ => h, by rw [hr]; simp⟩
theorem wp_region_G (S : World → Prop) (T : List Nat) {id : Nat} {a : Act} {w : World} (hm : P.follows .mixedOrders = true)
    (hS : S w.drew) (h : S w.drew → wpAnyG P .any ops Q S T ops.size (Array.replicate ops.size false) a w.drew) : (Code.region id ops true).wp P Q a w :=
  wp_region_any hm (wpAny_of_G _ _ _ _ (h hS))
end
end Go.Proofs.YtafkbodmiblbnaaGreatDoor
/- More of a region that draws its order, walked by number: two may come up. -/
namespace Go.Proofs.YtafkbodmiblbnaaGreatDoor
open Go
set_option linter.unusedVariables false
section
variable {P : Program} {ops : Array Oper} {Q : Exit → Act → World → Prop} {md : Region.Mode} {S : World → Prop} {T : List Nat}
/-- Two may come up. -/
theorem wpAnyG_two {i j : Nat} {o o' : Oper} {fuel : Nat} {listed : Array Bool} {a : Act} {w : World} (hr : Region.ready md ops listed = [i, j]) (ho : ops[i]? = some o) (ho' : ops[j]? = some o')
    (h : ∀ K' : Act → World → Prop, Shut (∀ a w, (T.contains i = false → S w) → wpAnyG P md ops Q S T fuel (listed.setIfInBounds i true) a w → K' a w) → if Region.wanted o (yielded ops a.tmps) = true then Oper.wp P o a w K' Q else K' (a.put o.dst undef) w)
    (h' : ∀ K' : Act → World → Prop, Shut (∀ a w, (T.contains j = false → S w) → wpAnyG P md ops Q S T fuel (listed.setIfInBounds j true) a w → K' a w) → if Region.wanted o' (yielded ops a.tmps) = true then Oper.wp P o' a w K' Q else K' (a.put o'.dst undef) w) :
    wpAnyG P md ops Q S T (fuel + 1) listed a w := by
  refine ⟨fun h0 => (by rw [h0] at hr; cases hr), fun k hk => ?_⟩
  rw [hr] at hk
  rcases List.mem_cons.1 hk with rfl | hk
  · exact wpOp_step ho fun K' hK => h K' fun a w h1 h2 => hK a w ⟨h1, h2⟩
  · obtain rfl := List.mem_singleton.1 hk
    exact wpOp_step ho' fun K' hK => h' K' fun a w h1 h2 => hK a w ⟨h1, h2⟩
end
end Go.Proofs.YtafkbodmiblbnaaGreatDoor
