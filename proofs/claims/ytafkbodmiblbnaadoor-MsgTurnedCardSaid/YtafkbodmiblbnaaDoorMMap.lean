/- A map of the call's own, as a list of keys and elements, whatever the key's type. -/
import Derived.Maps.Keyed
import Derived.Maps.RangeRun
import Derived.WideKeyEntry
import Derived.Test.YtafkbodmiblbnaaDoorMZ01
namespace Go.Proofs.YtafkbodmiblbnaaDoor
open Go.RowKit Go.ChangeMaps Go.ChangeShapes
open Go.Maps (Keyed)
set_option linter.unusedVariables false
set_option linter.unusedSectionVars false
variable {α β : Type} [DecidableEq α]
/-- Keys of the type k, as values of α. -/
structure KeyOk (P : Program) (k : TypeId) (kv : α → Value) : Prop where
  law : Keyed P k
  key : ∀ a, ∃ l, keyOf P k (kv a) = some l
  inj : ∀ a b, kv a = kv b → a = b
theorem nodup_at {γ : Type} {l : List γ} (h : l.Nodup) {i j : Nat} {x : γ} (h1 : l[i]? = some x) (h2 : l[j]? = some x) : i = j :=
  (List.getElem?_inj (List.getElem?_eq_some_iff.1 h1).1 h).1 (h1.trans h2.symm)
def mget (S : List (α × β)) (a : α) : Option β := (S.find? fun p => decide (p.1 = a)).map (·.2)
/-- a's element is there: if it wasn't, it is z. -/
def mens (S : List (α × β)) (a : α) (z : β) : List (α × β) := if (mget S a).isSome then S else S ++ [(a, z)]
def mset (S : List (α × β)) (a : α) (y : β) : List (α × β) := S.map fun p => if p.1 = a then (a, y) else p
theorem mget_mem {S : List (α × β)} (hn : (S.map (·.1)).Nodup) {p : α × β} (h : p ∈ S) : mget S p.1 = some p.2 := by
  induction S with
  | nil => cases h
  | cons q S ih =>
    simp only [List.map_cons, List.nodup_cons] at hn
    unfold mget
    rw [List.find?_cons]
    by_cases hq : q.1 = p.1
    · simp only [hq, decide_true, Option.map_some]
      rcases List.mem_cons.1 h with rfl | h1
      · rfl
      · exact absurd (List.mem_map.2 ⟨p, h1, hq.symm⟩) hn.1
    · rw [show decide (q.1 = p.1) = false from decide_eq_false hq]
      rcases List.mem_cons.1 h with rfl | h1
      · exact absurd rfl hq
      · exact ih hn.2 h1
theorem mget_none {S : List (α × β)} {a : α} (h : ∀ p ∈ S, p.1 ≠ a) : mget S a = none := by
  unfold mget
  rw [List.find?_eq_none.2 fun p hp => by simpa using h p hp]
  rfl
theorem mget_some {S : List (α × β)} {a : α} {y : β} (h : mget S a = some y) : (a, y) ∈ S := by
  unfold mget at h
  rw [Option.map_eq_some_iff] at h
  obtain ⟨p, hp, rfl⟩ := h
  have h1 := List.find?_some hp
  have h2 := List.mem_of_find?_eq_some hp
  simp only [decide_eq_true_eq] at h1
  rw [← h1]
  exact h2
theorem mset_keys (S : List (α × β)) (a : α) (y : β) : (mset S a y).map (·.1) = S.map (·.1) := by
  unfold mset
  rw [List.map_map]
  apply List.map_congr_left
  intro p _
  simp only [Function.comp]
  split
  · rename_i h; exact h.symm
  · rfl
theorem mens_nodup {S : List (α × β)} (hn : (S.map (·.1)).Nodup) (a : α) (z : β) : ((mens S a z).map (·.1)).Nodup := by
  unfold mens
  split
  · exact hn
  · rename_i h
    rw [List.map_append]
    refine List.nodup_append.2 ⟨hn, by simp, fun x hx y hy => ?_⟩
    simp only [List.map_cons, List.map_nil, List.mem_singleton] at hy
    subst hy
    rintro rfl
    obtain ⟨p, hp, rfl⟩ := List.mem_map.1 hx
    rw [mget_mem hn hp] at h
    simp at h
theorem mget_put {S : List (α × β)} (a b : α) (z y : β) : mget (mset (mens S a z) a y) b = if b = a then some y else mget S b := by
  by_cases hb : b = a
  · subst hb
    rw [if_pos rfl]
    have h1 : ∃ p ∈ mens S b z, p.1 = b := by
      unfold mens
      split
      · rename_i h
        obtain ⟨y', hy'⟩ := Option.isSome_iff_exists.1 h
        exact ⟨_, mget_some hy', rfl⟩
      · exact ⟨(b, z), by simp, rfl⟩
    generalize mens S b z = T at h1
    unfold mget mset
    induction T with
    | nil => obtain ⟨p, hp, _⟩ := h1; cases hp
    | cons q T ih =>
      rw [List.map_cons, List.find?_cons]
      by_cases hq : q.1 = b
      · rw [if_pos hq]; simp
      · rw [if_neg hq, show decide (q.1 = b) = false from decide_eq_false hq]
        refine ih ?_
        obtain ⟨p, hp, he⟩ := h1
        rcases List.mem_cons.1 hp with rfl | hp
        · exact absurd he hq
        · exact ⟨p, hp, he⟩
  · rw [if_neg hb]
    have h1 : mget (mens S a z) b = mget S b := by
      unfold mens
      split
      · rfl
      · unfold mget
        rw [List.find?_append]
        have : List.find? (fun p : α × β => decide (p.1 = b)) [(a, z)] = none := by simp [Ne.symm hb]
        rw [this]
        simp
    rw [← h1]
    generalize mens S a z = T
    unfold mget mset
    induction T with
    | nil => rfl
    | cons q T ih =>
      rw [List.map_cons, List.find?_cons, List.find?_cons]
      by_cases hq : q.1 = a
      · rw [if_pos hq, show decide ((a, y).1 = b) = false from decide_eq_false (Ne.symm hb), show decide (q.1 = b) = false from decide_eq_false (by rw [hq]; exact Ne.symm hb)]
        exact ih
      · rw [if_neg hq]
        by_cases hq2 : q.1 = b
        · simp [hq2]
        · simp only [show decide (q.1 = b) = false from decide_eq_false hq2]
          exact ih
theorem mget_mens (S : List (α × β)) (a : α) (z : β) : mget (mens S a z) a = some ((mget S a).getD z) := by
  unfold mens
  cases h : mget S a with
  | some y => simp [h]
  | none =>
    simp only [Option.isSome_none, Bool.false_eq_true, if_false, Option.getD_none]
    unfold mget at h ⊢
    rw [Option.map_eq_none_iff] at h
    rw [List.find?_append, h]
    simp
/-- A map's entries are these. -/
structure IsM (kv : α → Value) (vv : β → Value) (S : List (α × β)) (es : Array MapEntry) (clock : Nat) : Prop where
  maps : es.toList.map (fun e => (e.key, e.val)) = S.map (fun p => (kv p.1, vv p.2))
  below : ∀ x ∈ es.toList, x.born < clock
  apart : (es.toList.map (·.born)).Nodup
  keys : (S.map (·.1)).Nodup
section
variable {P : Program} {k t e : TypeId} {kv : α → Value} {vv : β → Value} {S : List (α × β)} {es : Array MapEntry} {clock : Nat}
theorem IsM.at (M : IsM kv vv S es clock) {j : Nat} {x : MapEntry} (h : es.toList[j]? = some x) : ∃ p, S[j]? = some p ∧ x.key = kv p.1 ∧ x.val = vv p.2 := by
  have h1 : (es.toList.map (fun e => (e.key, e.val)))[j]? = some (x.key, x.val) := by rw [List.getElem?_map, h]; rfl
  rw [M.maps, List.getElem?_map, Option.map_eq_some_iff] at h1
  obtain ⟨p, hp, he⟩ := h1
  simp only [Prod.mk.injEq] at he
  exact ⟨p, hp, he.1.symm, he.2.symm⟩
theorem IsM.back (M : IsM kv vv S es clock) {j : Nat} {p : α × β} (h : S[j]? = some p) : ∃ x, es.toList[j]? = some x ∧ x.key = kv p.1 ∧ x.val = vv p.2 := by
  have h1 : (S.map (fun p => (kv p.1, vv p.2)))[j]? = some (kv p.1, vv p.2) := by rw [List.getElem?_map, h]; rfl
  rw [← M.maps, List.getElem?_map, Option.map_eq_some_iff] at h1
  obtain ⟨x, hx, he⟩ := h1
  simp only [Prod.mk.injEq] at he
  exact ⟨x, hx, he.1, he.2⟩
theorem IsM.len (M : IsM kv vv S es clock) : es.toList.length = S.length := by
  have := congrArg List.length M.maps
  simpa using this
theorem IsM.keyed (K : KeyOk P k kv) (M : IsM kv vv S es clock) : ∀ x ∈ es.toList, ∃ l, keyOf P k x.key = some l := by
  intro x hx
  obtain ⟨j, hj⟩ := List.mem_iff_getElem?.1 hx
  obtain ⟨p, _, hp, _⟩ := M.at hj
  rw [hp]
  exact K.key _
theorem IsM.find (K : KeyOk P k kv) (M : IsM kv vv S es clock) (a : α) (w : World) :
    ((Instr.findKey k (kv a) es.toList).run P w = .ok none w ∧ mget S a = none) ∨
    ∃ j x y, (Instr.findKey k (kv a) es.toList).run P w = .ok (some (j, x.val)) w ∧ es.toList[j]? = some x ∧ x.key = kv a ∧ S[j]? = some (a, y) ∧ mget S a = some y ∧ x.val = vv y := by
  obtain ⟨l, hl⟩ := K.key a
  rcases K.law.find w hl es.toList (M.keyed K) with ⟨h1, h2⟩ | ⟨j, x, h1, h2, h3⟩
  · refine .inl ⟨h1, mget_none fun p hp he => ?_⟩
    obtain ⟨j, hj⟩ := List.mem_iff_getElem?.1 hp
    obtain ⟨x, hx, hk, _⟩ := M.back hj
    exact h2 x (List.mem_of_getElem? hx) (by rw [hk, he])
  · obtain ⟨p, hp, hk, hv⟩ := M.at h2
    have ha : p.1 = a := K.inj _ _ (hk ▸ h3)
    refine .inr ⟨j, x, p.2, h1, h2, h3, by rw [hp, ← ha], ?_, hv⟩
    rw [← ha]
    exact mget_mem M.keys (List.mem_of_getElem? hp)
/-- Block b is a map with these entries. -/
def MapT (kv : α → Value) (vv : β → Value) (b : Nat) (S : List (α × β)) : Thing := fun w F => (∃ es clock, w.heap[b]? = some (.map es clock) ∧ IsM kv vv S es clock) ∧ ∀ k, F k ↔ k = b
/-- .. and the entry of a bears the stamp st. -/
def MapE (kv : α → Value) (vv : β → Value) (b : Nat) (S : List (α × β)) (a : α) (st : Nat) : Thing := fun w F =>
  (∃ es clock, w.heap[b]? = some (.map es clock) ∧ IsM kv vv S es clock ∧ ∃ (j : Nat) (x : MapEntry) (y : β), es.toList[j]? = some x ∧ S[j]? = some (a, y) ∧ x.born = st) ∧ ∀ k, F k ↔ k = b
theorem loc_map (b : Nat) (S : List (α × β)) : Loc (MapT kv vv b S) := fun w w' F ⟨⟨es, c, h, M⟩, hf⟩ _ hk => ⟨⟨es, c, (hk b ((hf b).2 rfl)).trans h, M⟩, hf⟩
theorem loc_mapE (b : Nat) (S : List (α × β)) (a : α) (st : Nat) : Loc (MapE kv vv b S a st) := fun w w' F ⟨⟨es, c, h, M⟩, hf⟩ _ hk => ⟨⟨es, c, (hk b ((hf b).2 rfl)).trans h, M⟩, hf⟩
variable {w0 w : World} {b : Nat} {L : List Thing} {st r : Nat} {done : List α} {last : Option (α × β)}
theorem Sep.mapE {a : α} (h : Sep w0 (MapE kv vv b S a st :: L) w) : Sep w0 (MapT kv vv b S :: L) w := h.imp (loc_map _ _) fun F ⟨⟨es, c, h, M, _⟩, hf⟩ => ⟨⟨es, c, h, M⟩, hf⟩
theorem Sep.newMap (h : Sep w0 L w) : Sep w0 (MapT kv vv w.heap.size [] :: L) (w.alloc (.map #[] 0)) :=
  (h.alloc (.map #[] 0)).imp (loc_map _ _) fun F ⟨h1, h2⟩ => ⟨⟨#[], 0, h1, ⟨rfl, fun x hx => by simp at hx, by simp, by simp⟩⟩, h2⟩
theorem Sep.map_lt (h : Sep w0 (MapT kv vv b S :: L) w) : w0.heap.size ≤ b ∧ b < w.heap.size := by obtain ⟨F, hF, h2⟩ := h.head; exact h2 b ((hF.2 b).2 rfl)
theorem map_look (K : KeyOk P k kv) (ht : P.underlying t = some (.map k e)) {z : Value} (hz : (zeroValue e).run P w = .ok z w) (h : Sep w0 (MapT kv vv b S :: L) w) (a : α) (c : Bool) :
    (Instr.lookup t (.map (some b)) (kv a) c).run P w = .ok (if c then .tuple #[((mget S a).map vv).getD z, .bool (mget S a).isSome] else ((mget S a).map vv).getD z) w := by
  obtain ⟨F, ⟨⟨es, clock, hb, M⟩, _⟩, _⟩ := h.head
  obtain ⟨l, hl⟩ := K.key a
  rcases M.find K a w with ⟨h1, h2⟩ | ⟨j, x, y, h1, h2, h3, h4, h5, h6⟩
  · rw [h2]
    simp [Instr.lookup, run_underlying ht, MapKept.run_getObj_map hb, K.law.check w _ hl, h1, hz, Result.andThen]
  · rw [h5]
    simp [Instr.lookup, run_underlying ht, MapKept.run_getObj_map hb, K.law.check w _ hl, h1, h6, Result.andThen]
theorem map_len (ht : P.underlying t = some (.map k e)) (h : Sep w0 (MapT kv vv b S :: L) w) (ty : TypeId) : (Builtin.len_ #[t] ty #[.map (some b)]).run P w = .ok (.int .i64 (S.length : Nat)) w := by
  obtain ⟨F, ⟨⟨es, clock, hb, M⟩, _⟩, _⟩ := h.head
  have := M.len
  simp only [Array.length_toList] at this
  rw [← this]
  simp [Builtin.len_, run_underlying ht, MapKept.run_getObj_map hb, Result.andThen, goInt]
theorem chg_block {F : Nat → Prop} {w : World} {g : Nat} (hg : F g) (o : Obj) : Chg F w (setBlock w g o) :=
  ⟨rfl, rfl, rfl, by simp [setBlock], fun k hk hn => by
    simp only [setBlock]
    rw [Array.getElem?_setIfInBounds_ne]
    intro e; apply hn; rw [← e]; exact hg⟩
theorem setBlock_at {w : World} {g : Nat} {o' : Obj} (h : w.heap[g]? = some o') (o : Obj) : (setBlock w g o).heap[g]? = some o := by
  have := (Array.getElem?_eq_some_iff.1 h).1
  simp [setBlock, this]
/-- 'm[k] op= v', its first half: the entry is there. -/
theorem map_entry (K : KeyOk P k kv) (ht : P.underlying t = some (.map k e)) {zb : β} (hz : ∀ u : World, (zeroValue e).run P u = .ok (vv zb) u) (h : Sep w0 (MapT kv vv b S :: L) w) (a : α) :
    ∃ st w', (Instr.mapEntry t (.map (some b)) (kv a)).run P w = .ok (.tuple #[vv ((mget S a).getD zb), goInt (st : Nat)]) w' ∧ Sep w0 (MapE kv vv b (mens S a zb) a st :: L) w' := by
  have hh := h.head
  obtain ⟨F, ⟨⟨es, clock, hb, M⟩, hF⟩, _⟩ := hh
  obtain ⟨l, hl⟩ := K.key a
  rcases M.find K a w with ⟨h1, h2⟩ | ⟨j, x, y, h1, h2, h3, h4, h5, h6⟩
  · have h2' := h2
    have hm : mens S a zb = S ++ [(a, zb)] := by unfold mens; rw [h2]; rfl
    refine ⟨clock, setBlock w b (.map (es.push { key := kv a, val := vv zb, born := clock }) (clock + 1)), ?_, ?_⟩
    · rw [h2]
      simp [Instr.mapEntry, run_underlying ht, MapKept.run_getObj_map hb, K.law.check w _ hl, h1, hz, Result.andThen, MapKept.run_setObj_map _ hb, setBlock]
    · rw [hm]
      refine h.change (loc_mapE _ _ _ _) fun F hFF hlt => ⟨F, ⟨⟨_, _, setBlock_at hb _, ⟨?_, ?_, ?_, ?_⟩, es.toList.length, _, zb, by simp; rfl, by rw [M.len]; simp, rfl⟩, hFF.2⟩, fun k hk => ⟨.inl hk, by have := hlt k hk; simpa [setBlock] using this⟩, chg_block ((hFF.2 b).2 rfl) _⟩
      · rw [Array.toList_push, List.map_append, M.maps, List.map_append]; rfl
      · intro x hx
        rw [Array.toList_push, List.mem_append, List.mem_singleton] at hx
        rcases hx with hx | rfl
        · have := M.below x hx; omega
        · exact Nat.lt_succ_self _
      · rw [Array.toList_push, List.map_append]
        refine List.nodup_append.2 ⟨M.apart, by simp, fun x hx y hy => ?_⟩
        simp only [List.map_cons, List.map_nil, List.mem_singleton] at hy
        obtain ⟨z, hz, rfl⟩ := List.mem_map.1 hx
        have := M.below z hz
        omega
      · rw [← hm]; exact mens_nodup M.keys a zb
  · have hm : mens S a zb = S := by unfold mens; rw [h5]; rfl
    have hj : es[j]? = some x := by simpa using h2
    have hsame : es.modify j (fun e => { e with key := kv a }) = es := by
      apply Array.ext'
      rw [Array.toList_modify, modify_eq_set _ _ _ _ h2]
      have : ({ x with key := kv a } : MapEntry) = x := by rw [← h3]
      rw [this]
      exact WideElems.set_self _ _ _ h2
    refine ⟨x.born, setBlock w b (.map es clock), ?_, ?_⟩
    · rw [h5]
      simp [Instr.mapEntry, run_underlying ht, MapKept.run_getObj_map hb, K.law.check w _ hl, h1, hj, h3, K.law.stays w hl, hsame, MapKept.run_setObj_map _ hb, Result.andThen, setBlock, h6]
    · rw [hm]
      exact h.change (loc_mapE _ _ _ _) fun F hFF hlt => ⟨F, ⟨⟨_, _, setBlock_at hb _, M, j, x, y, h2, h4, rfl⟩, hFF.2⟩, fun k hk => ⟨.inl hk, by have := hlt k hk; simpa [setBlock] using this⟩, chg_block ((hFF.2 b).2 rfl) _⟩
/-- .. its second half: the element is stored. -/
theorem map_store {a : α} (h : Sep w0 (MapE kv vv b S a st :: L) w) (y : β) :
    ∃ w', (Instr.entryStore t (.map (some b)) (goInt (st : Nat)) (vv y)).run P w = .ok () w' ∧ Sep w0 (MapT kv vv b (mset S a y) :: L) w' := by
  have hh := h.head
  obtain ⟨F, ⟨⟨es, clock, hb, M, j, x, y0, hx, hS, rfl⟩, hF⟩, _⟩ := hh
  have hidx : es.findIdx? (fun e => ((e.born : Nat) : Int) == ((x.born : Nat) : Int)) = some j := by
    rw [WideElems.findIdx_arr]
    exact WideElems.findIdx_born M.apart hx
  have hl : (es.modify j (fun e => { e with val := vv y })).toList = es.toList.set j { x with val := vv y } := by
    rw [Array.toList_modify, modify_eq_set _ _ _ _ hx]
  have hset : mset S a y = S.set j (a, y) := by
    apply List.ext_getElem?
    intro i
    unfold mset
    rw [List.getElem?_map, List.getElem?_set]
    by_cases hi : j = i
    · subst hi
      rw [if_pos rfl, hS]
      have hlt := (List.getElem?_eq_some_iff.1 hS).1
      simp [hlt]
    · rw [if_neg hi]
      cases hp : S[i]? with
      | none => rfl
      | some p =>
        simp only [Option.map_some]
        rw [if_neg]
        intro he
        have h1 : (S.map (·.1))[i]? = some a := by rw [List.getElem?_map, hp, ← he]; rfl
        have h2 : (S.map (·.1))[j]? = some a := by rw [List.getElem?_map, hS]; rfl
        exact hi (nodup_at M.keys h2 h1)
  refine ⟨setBlock w b (.map (es.modify j fun e => { e with val := vv y }) clock), ?_, ?_⟩
  · simp [Instr.entryStore, MapKept.run_getObj_map hb, asInt, asIntOf, goInt, hidx, MapKept.run_setObj_map _ hb, Result.andThen, setBlock]
  · refine h.change (loc_map _ _) fun F hFF hlt => ⟨F, ⟨⟨_, _, setBlock_at hb _, ⟨?_, ?_, ?_, ?_⟩⟩, hFF.2⟩, fun k hk => ⟨.inl hk, by have := hlt k hk; simpa [setBlock] using this⟩, chg_block ((hFF.2 b).2 rfl) _⟩
    · rw [hl, List.map_set, M.maps, hset, List.map_set]
      obtain ⟨p, hp, hk, _⟩ := M.at hx
      rw [hS] at hp
      cases hp
      rw [hk]
    · intro z hz
      rw [hl] at hz
      rcases List.mem_or_eq_of_mem_set hz with h1 | rfl
      · exact M.below z h1
      · exact M.below x (List.mem_of_getElem? hx)
    · rw [hl, List.map_set]
      have : (es.toList.map (·.born)).set j x.born = es.toList.map (·.born) := by
        apply List.ext_getElem?
        intro i
        rw [List.getElem?_set]
        split
        · rename_i hi; subst hi; simp [hx]; exact (List.getElem?_eq_some_iff.1 hx).1
        · rfl
      show ((es.toList.map (·.born)).set j x.born).Nodup
      rw [this]; exact M.apart
    · rw [mset_keys]; exact M.keys
/-- How many entries are still to come. -/
def mleft (w : World) (b r : Nat) : Nat := match w.heap[b]?, w.heap[r]? with
  | some (.map es _), some (.mapIter _ _ seen _) => (leftOf es seen).size
  | _, _ => 0
theorem left_push {es : Array MapEntry} {seen : Array Nat} {x : MapEntry} (hx : x ∈ es.toList) (hn : seen.contains x.born = false) : (leftOf es (seen.push x.born)).size < (leftOf es seen).size := by
  have e : ∀ sn : Array Nat, (leftOf es sn).size = (es.toList.filter fun e => !sn.contains e.born).length := fun sn => by unfold leftOf; rw [← Array.toList_filter, Array.length_toList]
  rw [e, e]
  have hsub : ∀ l : List MapEntry, (l.filter fun e => !(seen.push x.born).contains e.born).length ≤ (l.filter fun e => !seen.contains e.born).length := by
    intro l
    induction l with
    | nil => simp
    | cons a l ih =>
      rw [List.filter_cons, List.filter_cons]
      by_cases h1 : seen.contains a.born = true
      · have : (seen.push x.born).contains a.born = true := by rw [Array.contains_push, h1, Bool.true_or]
        rw [h1, this]; exact ih
      · rw [Bool.not_eq_true] at h1
        rw [h1]
        simp only [Bool.not_false, if_true, List.length_cons]
        split
        · simp only [List.length_cons]; omega
        · omega
  generalize es.toList = l at hx
  induction l with
  | nil => cases hx
  | cons a l ih =>
    rw [List.filter_cons, List.filter_cons]
    rcases List.mem_cons.1 hx with rfl | hx
    · have h1 : (seen.push x.born).contains x.born = true := by rw [Array.contains_push]; simp
      rw [h1, hn]
      have := hsub l
      simp only [Bool.not_true, Bool.false_eq_true, if_false, Bool.not_false, if_true, List.length_cons]
      omega
    · have := ih hx
      by_cases h1 : seen.contains a.born = true
      · have h2 : (seen.push x.born).contains a.born = true := by rw [Array.contains_push, h1, Bool.true_or]
        rw [h1, h2]; exact this
      · rw [Bool.not_eq_true] at h1
        rw [h1]
        simp only [Bool.not_false, if_true, List.length_cons]
        split
        · simp only [List.length_cons]; omega
        · omega
/-- A map that is gone through, by the iterator at block r; the keys of done have come, the last one was p; cnt are still to come. -/
def IterT (kv : α → Value) (vv : β → Value) (b r : Nat) (S : List (α × β)) (done : List α) (last : Option (α × β)) (cnt : Nat) : Thing := fun w F =>
  (∃ es clock seen c0, w.heap[b]? = some (.map es clock) ∧ IsM kv vv S es clock ∧ w.heap[r]? = some (.mapIter (some b) clock seen c0) ∧ clock ≤ c0 ∧
    (∀ (j : Nat) (x : MapEntry) (p : α × β), es.toList[j]? = some x → S[j]? = some p → (seen.contains x.born = true ↔ p.1 ∈ done)) ∧
    (∀ p, last = some p → ∃ (j : Nat) (x : MapEntry) (sn : Array Nat), es.toList[j]? = some x ∧ S[j]? = some p ∧ seen = sn.push x.born ∧ c0 = clock) ∧ (leftOf es seen).size = cnt) ∧ r ≠ b ∧ ∀ k, F k ↔ k = b ∨ k = r
theorem loc_iter (b r : Nat) (S : List (α × β)) (done : List α) (last : Option (α × β)) (cnt : Nat) : Loc (IterT kv vv b r S done last cnt) := by
  intro w w' F ⟨⟨es, c, sn, c0, h, M, hr, h2⟩, hne, hf⟩ _ hk
  exact ⟨⟨es, c, sn, c0, (hk b ((hf b).2 (.inl rfl))).trans h, M, (hk r ((hf r).2 (.inr rfl))).trans hr, h2⟩, hne, hf⟩
theorem Sep.iterLeft {cnt : Nat} (h : Sep w0 (IterT kv vv b r S done last cnt :: L) w) : mleft w b r = cnt := by
  obtain ⟨F, ⟨⟨es, c, sn, c0, hb, M, hr, _, _, _, hc⟩, hne, hf⟩, _⟩ := h.head
  unfold mleft
  rw [hb, hr]
  exact hc
theorem map_range (ht : P.underlying t = some (.map k e)) (h : Sep w0 (MapT kv vv b S :: L) w) :
    ∃ w', (Instr.range t (.map (some b))).run P w = .ok (.pointer (some ⟨w.heap.size, 0, none⟩)) w' ∧ ∃ cnt, Sep w0 (IterT kv vv b w.heap.size S [] none cnt :: L) w' := by
  have hh := h.head
  obtain ⟨F, ⟨⟨es, clock, hb, M⟩, hF⟩, _⟩ := hh
  refine ⟨w.alloc (.mapIter (some b) clock #[] clock), ?_, ?_⟩
  · simp [Instr.range, run_underlying ht, MapKept.run_getObj_map hb, newObj, Sem.run, Result.andThen]
  · have h1 := (h.alloc (.mapIter (some b) clock #[] clock)).join
    refine ⟨_, h1.imp (loc_iter _ _ _ _ _ (leftOf es #[]).size) fun F' ⟨Fa, Fb, ⟨ha, hfa⟩, ⟨⟨es', c', hb', M'⟩, hfb⟩, hd, hF'⟩ => ?_⟩
    have hlt := (Array.getElem?_eq_some_iff.1 hb).1
    have hb2 : (w.alloc (.mapIter (some b) clock #[] clock)).heap[b]? = some (.map es clock) := by rw [Below.heap_alloc _ _ _ hlt]; exact hb
    exact ⟨⟨es, clock, #[], clock, hb2, M, ha, Nat.le_refl _, fun j x p _ _ => by simp, (fun p hp => by cases hp), rfl⟩, by omega, fun k => by rw [hF', hfa, hfb]; exact Or.comm⟩
/-- One step: either all have come, or one that has not. -/
theorem map_next {cnt : Nat} (h : Sep w0 (IterT kv vv b r S done last cnt :: L) w) (ty : TypeId) :
    ((∀ p ∈ S, p.1 ∈ done) ∧ (Instr.next (.pointer (some ⟨r, 0, none⟩)) false ty).run P w = .ok (.tuple #[.bool false]) w) ∨
    ∃ p ∈ S, p.1 ∉ done ∧ ∃ w', (Instr.next (.pointer (some ⟨r, 0, none⟩)) false ty).run P w = .ok (.tuple #[.bool true, kv p.1, vv p.2]) w' ∧ ∃ cnt', cnt' < cnt ∧ Sep w0 (IterT kv vv b r S (p.1 :: done) (some p) cnt' :: L) w' := by
  have hh := h.head
  obtain ⟨F, ⟨⟨es, clock, seen, c0, hb, M, hr, hc, hseen, hlast, hcnt⟩, hne, hF⟩, _⟩ := hh
  rcases run_next_at (P := P) w ty r b clock c0 seen es clock hr hb M.below hc with ⟨h0, hrun⟩ | ⟨x, hx, w1, hw1, hrun⟩
  · refine .inl ⟨fun p hp => ?_, hrun⟩
    obtain ⟨j, hj⟩ := List.mem_iff_getElem?.1 hp
    obtain ⟨x, hx, _⟩ := M.back hj
    rw [← hseen j x p hx hj]
    have h1 : leftOf es seen = #[] := Array.eq_empty_of_size_eq_zero h0
    unfold leftOf at h1
    rw [Array.filter_eq_empty_iff] at h1
    have := h1 x (by rw [← Array.mem_toList_iff]; exact List.mem_of_getElem? hx)
    simpa using this
  · unfold leftOf at hx
    rw [Array.toList_filter, List.mem_filter] at hx
    obtain ⟨hx1, hx2⟩ := hx
    obtain ⟨j, hj⟩ := List.mem_iff_getElem?.1 hx1
    obtain ⟨p, hp, hk, hv⟩ := M.at hj
    have hpn : p.1 ∉ done := by
      intro hd
      have := (hseen j x p hj hp).2 hd
      rw [this] at hx2
      cases hx2
    have hs1 : Sep w0 (IterT kv vv b r S done last cnt :: L) w1 := by rcases hw1 with rfl | rfl; exact h; exact h.drew
    have hr1 : w1.heap[r]? = some (.mapIter (some b) clock seen c0) := by rcases hw1 with rfl | rfl <;> exact hr
    have hb1 : w1.heap[b]? = some (.map es clock) := by rcases hw1 with rfl | rfl <;> exact hb
    refine .inr ⟨p, List.mem_of_getElem? hp, hpn, _, by rw [hrun, hk, hv], _, hcnt ▸ left_push hx1 (by simpa using hx2), ?_⟩
    refine hs1.change (loc_iter _ _ _ _ _ _) fun F hFF hlt => ⟨F, ⟨⟨es, clock, seen.push x.born, clock, ?_, M, setBlock_at hr1 _, Nat.le_refl _, fun i y q hy hq => ?_, fun q hq => ?_, rfl⟩, hFF.2.1, hFF.2.2⟩, fun k hk => ⟨.inl hk, by have := hlt k hk; simpa [setBlock] using this⟩, chg_block ((hFF.2.2 r).2 (.inr rfl)) _⟩
    · simp only [setBlock]
      rw [Array.getElem?_setIfInBounds_ne (by exact hne)]
      exact hb1
    · simp only [Array.contains_push, Bool.or_eq_true, beq_iff_eq, List.mem_cons]
      rw [hseen i y q hy hq]
      constructor
      · rintro (h1 | h1)
        · exact .inr h1
        · left
          have e1 : (es.toList.map (·.born))[i]? = some y.born := by rw [List.getElem?_map, hy]; rfl
          have e2 : (es.toList.map (·.born))[j]? = some y.born := by rw [List.getElem?_map, hj, h1]; rfl
          have hij := nodup_at M.apart e1 e2
          subst hij
          rw [hp] at hq
          cases hq
          rfl
      · rintro (h1 | h1)
        · right
          have e1 : (S.map (·.1))[i]? = some q.1 := by rw [List.getElem?_map, hq]; rfl
          have e2 : (S.map (·.1))[j]? = some q.1 := by rw [List.getElem?_map, hp, h1]; rfl
          have hij := nodup_at M.keys e1 e2
          subst hij
          rw [hj] at hy
          cases hy
          rfl
        · exact .inl h1
    · cases hq
      exact ⟨j, x, seen, hj, hp, rfl, rfl⟩
theorem map_cur {p : α × β} {cnt : Nat} (h : Sep w0 (IterT kv vv b r S done (some p) cnt :: L) w) : (Instr.entry (.pointer (some ⟨r, 0, none⟩))).run P w = .ok (.tuple #[kv p.1, vv p.2]) w := by
  obtain ⟨F, ⟨⟨es, clock, seen, c0, hb, M, hr, hc, hseen, hlast, hcnt⟩, hne, hF⟩, _⟩ := h.head
  obtain ⟨j, x, sn, hj, hp, rfl, rfl⟩ := hlast p rfl
  obtain ⟨q, hq, hk, hv⟩ := M.at hj
  rw [hp] at hq
  cases hq
  rw [run_entry_at (P := P) w r b _ sn es _ x hr hb (List.mem_of_getElem? hj) M.apart, hk, hv]
/-- The map alone again. -/
theorem Sep.iterMap {cnt : Nat} (h : Sep w0 (IterT kv vv b r S done last cnt :: L) w) : Sep w0 (MapT kv vv b S :: L) w := by
  have h1 : Sep w0 (Both (MapT kv vv b S) (Ex fun o => Blk r o) :: L) w := by
    refine h.imp (loc_both (loc_map _ _) (loc_ex fun o => loc_blk r o)) fun F ⟨⟨es, c, sn, c0, hb, M, hr, _⟩, hne, hF⟩ => ?_
    exact ⟨fun k => k = b, fun k => k = r, ⟨⟨es, c, hb, M⟩, fun _ => Iff.rfl⟩, ⟨_, hr, fun _ => Iff.rfl⟩, fun k h1 h2 => hne (h2.symm.trans h1), hF⟩
  exact (h1.both (loc_map _ _) (loc_ex fun o => loc_blk r o)).sw2.drop
/-- 'm[k] = v'. -/
theorem map_update (K : KeyOk P k kv) (ht : P.underlying t = some (.map k e)) (h : Sep w0 (MapT kv vv b S :: L) w) (a : α) (y : β) :
    ∃ w', (Instr.mapUpdate t (.map (some b)) (kv a) (vv y)).run P w = .ok () w' ∧ Sep w0 (MapT kv vv b (mset (mens S a y) a y) :: L) w' := by
  have hh := h.head
  obtain ⟨F, ⟨⟨es, clock, hb, M⟩, hF⟩, _⟩ := hh
  obtain ⟨l, hl⟩ := K.key a
  rcases M.find K a w with ⟨h1, h2⟩ | ⟨j, x, y0, h1, h2, h3, h4, h5, h6⟩
  · have hm : mens S a y = S ++ [(a, y)] := by unfold mens; rw [h2]; rfl
    have hm2 : mset (S ++ [(a, y)]) a y = S ++ [(a, y)] := by
      unfold mset
      rw [List.map_append]
      congr 1
      · conv => rhs; rw [← List.map_id S]
        apply List.map_congr_left
        intro p hp
        rw [if_neg]; rfl
        intro he
        rw [← he, mget_mem M.keys hp] at h2
        cases h2
      · simp
    refine ⟨setBlock w b (.map (es.push { key := kv a, val := vv y, born := clock }) (clock + 1)), ?_, ?_⟩
    · simp [Instr.mapUpdate, run_underlying ht, MapKept.run_getObj_map hb, K.law.check w _ hl, h1, Result.andThen, MapKept.run_setObj_map _ hb, setBlock]
    · rw [hm, hm2]
      refine h.change (loc_map _ _) fun F hFF hlt => ⟨F, ⟨⟨_, _, setBlock_at hb _, ⟨?_, ?_, ?_, ?_⟩⟩, hFF.2⟩, fun k hk => ⟨.inl hk, by have := hlt k hk; simpa [setBlock] using this⟩, chg_block ((hFF.2 b).2 rfl) _⟩
      · rw [Array.toList_push, List.map_append, M.maps, List.map_append]; rfl
      · intro x hx
        rw [Array.toList_push, List.mem_append, List.mem_singleton] at hx
        rcases hx with hx | rfl
        · have := M.below x hx; omega
        · exact Nat.lt_succ_self _
      · rw [Array.toList_push, List.map_append]
        refine List.nodup_append.2 ⟨M.apart, by simp, fun x hx y hy => ?_⟩
        simp only [List.map_cons, List.map_nil, List.mem_singleton] at hy
        obtain ⟨z, hz, rfl⟩ := List.mem_map.1 hx
        have := M.below z hz
        omega
      · rw [← hm]; exact mens_nodup M.keys a y
  · have hm : mens S a y = S := by unfold mens; rw [h5]; rfl
    have hj : es[j]? = some x := by simpa using h2
    have hhE : Sep w0 (MapE kv vv b S a x.born :: L) w := h.imp (loc_mapE _ _ _ _) fun F ⟨⟨es', c', hb', M'⟩, hf⟩ => by
      rw [hb] at hb'
      cases hb'
      exact ⟨⟨es, clock, hb, M, j, x, y0, h2, h4, rfl⟩, hf⟩
    obtain ⟨w', hrun, hs⟩ := map_store (P := P) (t := t) hhE y
    rw [hm]
    refine ⟨w', ?_, hs⟩
    rw [← hrun]
    have hidx : es.findIdx? (fun e => ((e.born : Nat) : Int) == ((x.born : Nat) : Int)) = some j := by
      rw [WideElems.findIdx_arr]
      exact WideElems.findIdx_born M.apart h2
    have hmod : es.modify j (fun e => { e with val := vv y }) = es.modify j (fun e' => { e' with key := kv a, val := vv y }) := by
      apply Array.ext'
      rw [Array.toList_modify, Array.toList_modify, modify_eq_set _ _ _ _ h2, modify_eq_set _ _ _ _ h2, ← h3]
    simp [Instr.mapUpdate, Instr.entryStore, run_underlying ht, MapKept.run_getObj_map hb, K.law.check w false hl, h1, hj, h3, K.law.stays w hl, asInt, asIntOf, goInt, hidx, hmod, MapKept.run_setObj_map _ hb, Result.andThen]
end
theorem run_eql_map_nil {P : Program} (w : World) {t k e : TypeId} (ht : P.underlying t = some (.map k e)) (b : Nat) : (binOp .eql t (.map (some b)) (.map none)).run P w = .ok (.bool false) w := by
  have h : ∀ d : Nat, (Op.equalIn (d + 1) t (.map (some b)) (.map none)).run P w = .ok false w := fun d => by simp [Op.equalIn, run_underlying ht]
  simp only [binOp]
  simp [Op.equal, Op.maxDepth, h 9999]
theorem run_eql_map_nil_nil {P : Program} (w : World) {t k e : TypeId} (ht : P.underlying t = some (.map k e)) : (binOp .eql t (.map none) (.map none)).run P w = .ok (.bool true) w := by
  have h : ∀ d : Nat, (Op.equalIn (d + 1) t (.map none) (.map none)).run P w = .ok true w := fun d => by simp [Op.equalIn, run_underlying ht]
  simp only [binOp]
  simp [Op.equal, Op.maxDepth, h 9999]
end Go.Proofs.YtafkbodmiblbnaaDoor
