/- Stage 18's theorem (ChooseKeeps): what is pure; a row of offers that is stored to. -/
import Derived.Test.YthgndegjiodopaaDoorCho24
namespace Go.Proofs.YthgndegjiodopaaDoor
open Go Go.RowKit
set_option linter.unusedVariables false
set_option linter.unusedSimpArgs false
def setL (xs : List Value) : Nat → List Value → List Value
  | _, [] => xs
  | o, v :: r => setL (xs.set o v) (o + 1) r
theorem setL_len : ∀ (vs : List Value) (xs : List Value) (o : Nat), (setL xs o vs).length = xs.length
  | [], _, _ => rfl
  | v :: r, xs, o => by rw [setL, setL_len r, List.length_set]
theorem setL_right : ∀ (C A B : List Value) (o : Nat), setL (A ++ B) (A.length + o) C = A ++ setL B o C
  | [], _, _, _ => rfl
  | v :: r, A, B, o => by
    rw [setL, setL, List.set_append_right _ _ (by omega), show A.length + o - A.length = o by omega, Nat.add_assoc, setL_right r A]
theorem setL_left : ∀ (C A B : List Value), A.length = C.length → setL (A ++ B) 0 C = C ++ B
  | [], A, B, h => by rw [List.eq_nil_of_length_eq_zero h]; rfl
  | v :: r, a :: A, B, h => by
    rw [setL, List.cons_append, List.set_cons_zero]
    have h1 := setL_right r [v] (A ++ B) 0
    rw [List.length_singleton, List.singleton_append] at h1
    rw [show 0 + 1 = 1 + 0 from rfl, h1, setL_left r A B (by simpa using h)]
    rfl
theorem setL_rows : ∀ (rows : List (Array Value)) (i : Nat) (hi : i < rows.length) (c : Array Value), Rows6 rows → c.size = 6 → setL (msCs rows) (i * 6) c.toList = msCs (rows.set i c)
  | r :: rows, 0, _, c, h, hc => by
    have hr := h r (List.mem_cons_self ..)
    unfold msCs
    rw [List.flatMap_cons, List.set_cons_zero, List.flatMap_cons, Nat.zero_mul, setL_left _ _ _ (by rw [Array.length_toList, Array.length_toList, hr, hc])]
  | r :: rows, i + 1, hi, c, h, hc => by
    have hr := h r (List.mem_cons_self ..)
    have ih := setL_rows rows i (by simpa using hi) c (fun x hx => h x (List.mem_cons_of_mem _ hx)) hc
    unfold msCs at *
    rw [List.flatMap_cons, List.set_cons_succ, List.flatMap_cons, show (i + 1) * 6 = r.toList.length + i * 6 by rw [Array.length_toList, hr]; omega, setL_right, ih]
theorem Sep.rnSets {w0 : World} {sz n b c : Nat} {e : TypeId} {L : List Thing} : ∀ (vs xs : List Value) (o : Nat) (w : World), Sep w0 (Rn sz e (.slice (some ⟨b, 0, none⟩) n c) n xs :: L) w → 0 < n → o + vs.length ≤ xs.length → Sep w0 (Rn sz e (.slice (some ⟨b, 0, none⟩) n c) n (setL xs o vs) :: L) (w.setCells b o vs)
  | [], _, _, _, h, _, _ => h
  | v :: r, xs, o, w, h, hp, hl => by
    obtain ⟨b', c', e1, -, -, -, -, -, -, hset⟩ := h.rnSet hp
    simp only [Value.slice.injEq, Option.some.injEq, Addr.mk.injEq, and_true, true_and] at e1
    obtain ⟨rfl, rfl⟩ := e1
    have hlt : o < xs.length := by simp at hl; omega
    exact Sep.rnSets r _ (o + 1) _ (hset o v hlt) hp (by rw [List.length_set]; simp at hl; omega)
theorem Sep.ofrSet {w0 w : World} {b n c : Nat} {os : List OvM} {L : List Thing} (h : Sep w0 (OfR (.slice (some ⟨b, 0, none⟩) n c) os :: L) w) (hn : os.length = n) (i : Nat) (hi : i < os.length) :
    w.there b (i * 6) 6 ∧ ∀ y : OvM, Sep w0 (OfR (.slice (some ⟨b, 0, none⟩) n c) (os.set i y) :: L) (w.setCells b (i * 6) (ovC y).toList) := by
  subst hn
  have hlen : (msCs (os.map ovC)).length = os.length * 6 := by rw [msCs_len (rows6 os), List.length_map]
  refine ⟨fun j hj => ?_, fun y => ?_⟩
  · obtain ⟨b', c', e1, -, -, -, -, hcell, hfr, -⟩ := h.rnSet (by omega)
    simp only [Value.slice.injEq, Option.some.injEq, Addr.mk.injEq, and_true, true_and] at e1
    obtain ⟨rfl, rfl⟩ := e1
    refine ⟨?_, hfr _⟩
    rw [hcell _ (by rw [hlen]; omega)]
    rfl
  · have h1 := Sep.rnSets (ovC y).toList _ (i * 6) w h (by omega) (by rw [hlen]; show i * 6 + 6 ≤ _; omega)
    rw [setL_rows _ i (by rw [List.length_map]; exact hi) _ (rows6 os) rfl] at h1
    show Sep w0 (Rn 6 33 _ (os.set i y).length (msCs ((os.set i y).map ovC)) :: L) _
    rw [List.length_set, List.map_set]
    exact h1
theorem Sep.ofrCell {w0 w : World} {a : Option Addr} {n c : Nat} {xs : List OvM} {L : List Thing} (h : Sep w0 (OfR (.slice a n c) xs :: L) w) (k : Nat) (hk : k < xs.length) :
    ∃ g, a = some ⟨g, 0, none⟩ ∧ (∀ j v, (ovC xs[k])[j]? = some v → w.cell? ⟨g, k * 6 + j, none⟩ = some v) ∧ (Instr.loadAt 33 (.pointer (some ⟨g, k * 6, none⟩))).run Tryd.prog w = .ok (.agg (ovC xs[k])) w := by
  obtain ⟨g, e, hl⟩ := h.ofrLoad k hk
  obtain ⟨a1, c', h1, h2, h3, h4, h5⟩ := h.rnForm
  obtain ⟨b, h6, h7, h8⟩ := h5 (by omega)
  simp only [Value.slice.injEq] at h1
  obtain ⟨e1, e2, e3⟩ := h1
  rw [e1, h6] at e
  obtain rfl : b = g := by simpa using e
  have hkm : k < (xs.map ovC).length := by rw [List.length_map]; exact hk
  refine ⟨b, e1.trans h6, fun j v hj => ?_, hl⟩
  have hj6 : j < 6 := (Array.getElem?_eq_some_iff.1 hj).1
  have e := msCs_at (rows6 xs) k hkm j hj6
  rw [List.getElem_map, hj] at e
  obtain ⟨hlt, he⟩ := List.getElem?_eq_some_iff.1 e
  rw [h8 _ hlt, he]
/-- Entries of offers, wherever the offers lie. -/
def PoT (pool : List OvM) : Thing := Grp (pool.map enP)
theorem loc_po (pool : List OvM) : ∀ A ∈ pool.map enP, Loc A := by
  intro A hA
  obtain ⟨q, _, rfl⟩ := List.mem_map.1 hA; exact loc_enT _ _
theorem Sep.poOpen {w0 w : World} {pool : List OvM} {L : List Thing} (h : Sep w0 (PoT pool :: L) w) : Sep w0 (pool.map enP ++ L) w := h.open_ (loc_po pool)
theorem Sep.poClose {w0 w : World} {pool : List OvM} {L : List Thing} (h : Sep w0 (pool.map enP ++ L) w) : Sep w0 (PoT pool :: L) w := Sep.close (M := pool.map enP) h
theorem Sep.poEn {w0 w : World} {pool : List OvM} {L : List Thing} (h : Sep w0 (PoT pool :: L) w) {x : OvM} (hx : x ∈ pool) : EnS w x.v x.ps ∧ VsO x := by
  obtain ⟨M, hM⟩ := h.poOpen.memT (A := enP x) (List.mem_append_left _ (List.mem_map_of_mem hx))
  refine ⟨hM.enS, ?_⟩
  obtain ⟨a, c, e, -, -⟩ := hM.enForm
  exact ⟨a, c, e⟩
/-- A row of offers of one's own: the row, and their entries apart. -/
theorem Sep.ofSplit {w0 w : World} {v : Value} {xs : List OvM} {L : List Thing} (h : Sep w0 (OfT v xs :: L) w) : Sep w0 (OfR v xs :: PoT xs :: L) w := by
  have h1 := h.ofOpen
  have h2 : Sep w0 (xs.map enP ++ (OfR v xs :: L)) w := h1.perm (List.perm_middle (l₁ := xs.map enP) (l₂ := L) (a := OfR v xs)).symm
  exact h2.poClose.sw2
theorem Sep.poJoin {w0 w : World} {p q : List OvM} {L : List Thing} (h : Sep w0 (PoT p :: PoT q :: L) w) : Sep w0 (PoT (p ++ q) :: L) w := by
  have h1 := h.sw2.poOpen
  have h2 : Sep w0 (PoT p :: (q.map enP ++ L)) w := h1.perm List.perm_middle
  have h3 := h2.poOpen
  rw [← List.append_assoc, ← List.map_append] at h3
  exact h3.poClose
/-- Each one's entries lie in the pool. -/
def InP (os pool : List OvM) : Prop := ∀ o ∈ os, ∃ p ∈ pool, p.v = o.v ∧ p.ps = o.ps
theorem InP.en {os pool : List OvM} (h : InP os pool) {w0 w : World} {L : List Thing} (hs : Sep w0 (PoT pool :: L) w) {o : OvM} (ho : o ∈ os) : EnS w o.v o.ps ∧ VsO o := by
  obtain ⟨p, hp, e1, e2⟩ := h o ho
  have := hs.poEn hp
  unfold VsO at *
  rw [← e1, ← e2]
  exact this
theorem InP.set {os pool q : List OvM} (h : InP os pool) (i : Nat) (y : OvM) (hy : ∃ p ∈ q, p.v = y.v ∧ p.ps = y.ps) : InP (os.set i y) (q ++ pool) := by
  intro o ho
  rcases List.mem_or_eq_of_mem_set ho with h1 | rfl
  · obtain ⟨p, hp, e⟩ := h o h1
    exact ⟨p, List.mem_append_right _ hp, e⟩
  · obtain ⟨p, hp, e⟩ := hy
    exact ⟨p, List.mem_append_left _ hp, e⟩
/-- How many were normal last in le, or later. -/
def cntG (le : Int) (l : List OvM) : Nat := l.countP fun o => decide (le ≤ o.la)
theorem cntG_take (le : Int) (l : List OvM) (i : Nat) (h : i < l.length) : cntG le (l.take (i + 1)) = cntG le (l.take i) + if le ≤ l[i].la then 1 else 0 := by
  unfold cntG
  rw [List.take_succ_eq_append_getElem h, List.countP_append]
  congr 1
  by_cases e : le ≤ l[i].la <;> simp [e]
theorem cntG_set (le : Int) (l : List OvM) (i : Nat) (h : i < l.length) (y : OvM) (hb : ¬ le ≤ l[i].la) (hy : le ≤ y.la) : cntG le (l.set i y) = cntG le l + 1 := by
  have e1 : l = l.take i ++ (l[i] :: l.drop (i + 1)) := by rw [List.getElem_cons_drop, List.take_append_drop]
  have e2 : l.set i y = l.take i ++ (y :: l.drop (i + 1)) := List.set_eq_take_append_cons_drop ▸ if_pos h
  unfold cntG
  rw [e2]
  conv => rhs; rw [e1]
  rw [List.countP_append, List.countP_append, List.countP_cons, List.countP_cons, if_pos (decide_eq_true hy), if_neg (by simpa using hb)]
  omega
theorem cntG_all (le : Int) (l : List OvM) (h : ∀ o ∈ l, le ≤ o.la) : cntG le l = l.length := by
  unfold cntG
  rw [List.countP_eq_length]
  exact fun o ho => decide_eq_true (h o ho)
/-- What is known of the j-th one. -/
def OkJ (n : Nat) (sh : Nat) (le : Int) (j : Nat) (o : OvM) : Prop := AddP n 100 o ∧ o.fr = j ∧ (le ≤ o.la → sh ≤ o.ps.length ∧ ∀ k, k < sh → (o.ps[k]?).map (·.1) = some (skE ((k : Int) + 1)))
theorem gO_okJ (n sh : Nat) (le le' : Int) (ls : List Lg) (j : Nat) (hsh : sh ≤ 12) (hj : j < n) (hn : n ≤ 15) (hle : le' ≤ le) : OkJ n sh le j (gO sh le' ls j) := by
  refine ⟨gO_addP sh le' ls n j hsh hj hn, rfl, fun h => ?_⟩
  have hm : sh ≤ gMa sh le' (lgAt ls j) := by
    have h1 : le ≤ gLa (lgAt ls j) := h
    unfold gMa
    rw [if_pos (by omega)]
    omega
  refine ⟨by show sh ≤ (gEn _ _ _ _).length; rw [gEn_len]; exact hm, fun k hk => ?_⟩
  show ((gEn _ _ _ _)[k]?).map _ = _
  rw [List.getElem?_eq_getElem (by rw [gEn_len]; omega), gEn_get, Option.map_some, if_neg (by omega)]
theorem okJ_pr {n sh : Nat} {le : Int} {j : Nat} {x y : OvM} (hp : x.pr = y.pr) (h : OkJ n sh le j y) : OkJ n sh le j x := by
  obtain ⟨p1, p2, p3, p4, p5⟩ := pr_parts hp
  have pl := pr_len hp
  obtain ⟨⟨a1, a2, a3, a4, a5, a6, a7, a8, a9, a10, a11⟩, h2, h3⟩ := h
  refine ⟨⟨by omega, by omega, by omega, by rw [p5]; exact a4, by omega, by omega, by omega, by omega, by omega, by omega, by omega⟩, by omega, fun hl => ?_⟩
  obtain ⟨b1, b2⟩ := h3 (by omega)
  refine ⟨by omega, fun k hk => ?_⟩
  rw [← List.getElem?_map, p5, List.getElem?_map]
  exact b2 k hk
/-- The one that is made to have it. -/
def withLa (x : OvM) (le : Int) : OvM := ⟨x.fr, le, x.ba, x.co, x.v, x.ps⟩
theorem withLa_okJ {n sh : Nat} {le : Int} {j : Nat} (x : OvM) (h0 : 0 ≤ le) (h1 : le < 100) (hx : OkJ n sh 0 j x) : OkJ n sh le j (withLa x le) := by
  obtain ⟨⟨a1, a2, a3, a4, a5, a6, a7, a8, a9, a10, a11⟩, h2, h3⟩ := hx
  exact ⟨⟨a1, a2, a3, a4, a5, a6, h0, h1, a9, a10, a11⟩, h2, fun _ => h3 a7⟩
/-- Whose offers come. -/
def idxK (n s c i : Nat) : Nat := (i * s + c) % n
theorem idxK_inj {n s c i j : Nat} (hn : n % 2 = 1) (hs : s = 1 ∨ s = 2) (hi : i < n) (hj : j < n) (e : idxK n s c i = idxK n s c j) : i = j := by
  unfold idxK at e
  rcases hs with rfl | rfl
  · rw [Nat.mul_one, Nat.mul_one] at e
    exact mod_inj (by omega) hi hj e
  · have h1 := Nat.mod_add_div (i * 2 + c) n
    have h2 := Nat.mod_add_div (j * 2 + c) n
    rw [e] at h1
    generalize (j * 2 + c) % n = r at *
    generalize (i * 2 + c) / n = a at *
    generalize (j * 2 + c) / n = b at *
    rcases Nat.lt_trichotomy a b with h3 | h3 | h3
    · rcases Nat.lt_or_ge (a + 1) b with h4 | h4
      · have : n * (a + 2) ≤ n * b := Nat.mul_le_mul_left _ h4
        rw [Nat.mul_add] at this; omega
      · obtain rfl : b = a + 1 := by omega
        rw [Nat.mul_add] at h2; omega
    · subst h3; omega
    · rcases Nat.lt_or_ge (b + 1) a with h4 | h4
      · have : n * (b + 2) ≤ n * a := Nat.mul_le_mul_left _ h4
        rw [Nat.mul_add] at this; omega
      · obtain rfl : a = b + 1 := by omega
        rw [Nat.mul_add] at h1; omega
theorem nodup_len : ∀ {l m : List Nat}, l.Nodup → (∀ x ∈ l, x ∈ m) → l.length ≤ m.length
  | [], m, _, _ => Nat.zero_le _
  | x :: l, m, h, hs => by
    rw [List.nodup_cons] at h
    have hx := hs x (List.mem_cons_self ..)
    have h1 := nodup_len (m := m.erase x) h.2 fun y hy => (List.mem_erase_of_ne (by rintro rfl; exact h.1 hy)).2 (hs y (List.mem_cons_of_mem _ hy))
    rw [List.length_erase_of_mem hx] at h1
    have := List.length_pos_of_mem hx
    rw [List.length_cons]; omega
theorem idx_nodup (n s c e : Nat) (hn : n % 2 = 1) (hs : s = 1 ∨ s = 2) (he : e ≤ n) : ((List.range e).map (idxK n s c)).Nodup := by
  unfold List.Nodup
  rw [List.pairwise_map]
  refine List.Pairwise.imp_of_mem (fun {a b} ha hb h e => h ?_) List.nodup_range
  have := List.mem_range.1 ha
  have := List.mem_range.1 hb
  exact idxK_inj hn hs (by omega) (by omega) e
/-- One of those that come has it. -/
theorem one_good (n s c e : Nat) (le : Int) (os : List OvM) (hn : n % 2 = 1) (hs : s = 1 ∨ s = 2) (hl : os.length = n) (he : n < 2 * e) (hen : e ≤ n) (hg : e ≤ cntG le os) : ∃ i, i < e ∧ ∃ h : idxK n s c i < os.length, le ≤ os[idxK n s c i].la := by
  by_cases h : ∃ i, i < e ∧ ∃ h : idxK n s c i < os.length, le ≤ os[idxK n s c i].la
  · exact h
  · exfalso
    have hb : ∀ x ∈ (List.range e).map (idxK n s c), x ∈ (List.range n).filter fun j => !(decide (le ≤ (os.getD j ovZ).la)) := by
      intro x hx
      obtain ⟨i, hi, rfl⟩ := List.mem_map.1 hx
      have hlt : idxK n s c i < n := Nat.mod_lt _ (by omega)
      refine List.mem_filter.2 ⟨List.mem_range.2 hlt, ?_⟩
      have h2 : ¬ le ≤ os[idxK n s c i].la := fun h3 => h ⟨i, List.mem_range.1 hi, by omega, h3⟩
      rw [List.getD_eq_getElem?_getD, List.getElem?_eq_getElem (by omega)]
      simpa using h2
    have h1 := nodup_len (idx_nodup n s c e hn hs hen) hb
    rw [List.length_map, List.length_range] at h1
    have h2 : cntG le os = ((List.range n).filter fun j => decide (le ≤ (os.getD j ovZ).la)).length := by
      unfold cntG
      rw [← List.countP_eq_length_filter]
      have e1 : os = (List.range n).map (fun j => os.getD j ovZ) := by
        apply List.ext_getElem
        · simp [hl]
        · intro j h3 h4
          simp [List.getD_eq_getElem?_getD, h3]
      conv => lhs; rw [e1]
      rw [List.countP_map]; rfl
    have h3 : ((List.range n).filter fun j => decide (le ≤ (os.getD j ovZ).la)).length + ((List.range n).filter fun j => !(decide (le ≤ (os.getD j ovZ).la))).length = n := by
      have := List.length_eq_countP_add_countP (fun j => decide (le ≤ (os.getD j ovZ).la)) (l := List.range n)
      rw [List.countP_eq_length_filter, List.countP_eq_length_filter, List.length_range] at this
      have e : (fun j => !(decide (le ≤ (os.getD j ovZ).la))) = fun j => decide (¬ (decide (le ≤ (os.getD j ovZ).la)) = true) := by
        funext j
        by_cases h : le ≤ (os.getD j ovZ).la <;> simp only [h, decide_true, decide_false, Bool.not_true, Bool.not_false] <;> rfl
      rw [e]
      exact this.symm
    omega
/-- Those that come. -/
def chosen (n s c : Nat) (os : List OvM) (i : Nat) : List OvM := (List.range i).map fun t => os.getD (idxK n s c t) ovZ
theorem chosen_succ (n s c : Nat) (os : List OvM) (i : Nat) : chosen n s c os (i + 1) = chosen n s c os i ++ [os.getD (idxK n s c i) ovZ] := by simp [chosen, List.range_succ]
theorem chosen_len (n s c : Nat) (os : List OvM) (i : Nat) : (chosen n s c os i).length = i := by simp [chosen]
theorem chosen_fr (n s c : Nat) (os : List OvM) (i : Nat) (hn : 0 < n) (hl : os.length = n) (hf : ∀ j (h : j < os.length), os[j].fr = (j : Int)) : (chosen n s c os i).map (·.fr) = (List.range i).map fun t => ((idxK n s c t : Nat) : Int) := by
  unfold chosen
  rw [List.map_map]
  refine List.map_congr_left fun t _ => ?_
  have hlt : idxK n s c t < os.length := by rw [hl]; exact Nat.mod_lt _ hn
  show (os.getD _ ovZ).fr = _
  rw [List.getD_eq_getElem?_getD, List.getElem?_eq_getElem hlt]
  exact hf _ hlt
theorem chosen_nodup (n s c : Nat) (os : List OvM) (i : Nat) (hn : n % 2 = 1) (hs : s = 1 ∨ s = 2) (hi : i ≤ n) (hl : os.length = n) (hf : ∀ j (h : j < os.length), os[j].fr = (j : Int)) : ((chosen n s c os i).map (·.fr)).Nodup := by
  rw [chosen_fr n s c os i (by omega) hl hf]
  have h1 := idx_nodup n s c i hn hs hi
  have h2 : ((List.range i).map fun t => ((idxK n s c t : Nat) : Int)) = ((List.range i).map (idxK n s c)).map fun (t : Nat) => (t : Int) := by rw [List.map_map]; rfl
  rw [h2]
  refine List.Pairwise.map _ (fun a b hab h => hab ?_) h1
  exact Int.ofNat.inj h
end Go.Proofs.YthgndegjiodopaaDoor
