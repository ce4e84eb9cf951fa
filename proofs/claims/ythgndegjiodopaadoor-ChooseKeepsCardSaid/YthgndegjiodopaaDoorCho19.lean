/- Stage 18's laws: rows of offers of one's own; what group answers. -/
import Derived.Test.YthgndegjiodopaaDoorCho18
import Derived.Test.YthgndegjiodopaaDoorRnSet
namespace Go.Proofs.YthgndegjiodopaaDoor
open Go Go.RowKit
set_option linter.unusedVariables false
set_option linter.unusedSimpArgs false
abbrev OfR (v : Value) (xs : List OvM) : Thing := Rn 6 33 v xs.length (msCs (xs.map ovC))
/-- Offers of one's own, with their entries. -/
def OfT (v : Value) (xs : List OvM) : Thing := Grp (OfR v xs :: xs.map enP)
theorem loc_ofR (v : Value) (xs : List OvM) : ∀ A ∈ OfR v xs :: xs.map enP, Loc A := by
  intro A hA
  rcases List.mem_cons.1 hA with rfl | hA
  · exact loc_rn _ _ _ _ _
  · obtain ⟨q, _, rfl⟩ := List.mem_map.1 hA; exact loc_enT _ _
theorem Sep.ofOpen {w0 w : World} {v : Value} {xs : List OvM} {L : List Thing} (h : Sep w0 (OfT v xs :: L) w) : Sep w0 (OfR v xs :: (xs.map enP ++ L)) w := h.open_ (loc_ofR v xs)
theorem Sep.ofClose {w0 w : World} {v : Value} {xs : List OvM} {L : List Thing} (h : Sep w0 (OfR v xs :: (xs.map enP ++ L)) w) : Sep w0 (OfT v xs :: L) w := Sep.close (M := OfR v xs :: xs.map enP) h
theorem Sep.ofNil {w0 w : World} {L : List Thing} (h : Sep w0 L w) : Sep w0 (OfT (.slice none 0 0) [] :: L) w := Sep.ofClose (xs := []) (h.rnNil 6 33)
theorem Sep.ofForm {w0 w : World} {v : Value} {xs : List OvM} {L : List Thing} (h : Sep w0 (OfT v xs :: L) w) : ∃ a c, v = .slice a xs.length c ∧ xs.length ≤ c ∧ c ≤ maxLen := by
  obtain ⟨a, c, h1, h2, h3, -⟩ := h.ofOpen.rnForm
  exact ⟨a, c, h1, h2, h3⟩
theorem infoOf : (Tryd.prog.info? 33).map (fun i => (i.size, decide (i.bytes ≤ 256), i.zero.map (fun z => z.cells.size))) = some (6, true, some 6) := by kernel_rfl
theorem append_of {w0 w : World} {v : Value} {xs : List OvM} {x : OvM} {b : Nat} {L : List Thing} (ty : TypeId) (h : Sep w0 (Cl b (ovC x) 33 :: OfT v xs :: enP x :: L) w) (hx : VsO x) (hl : xs.length ≤ 10000000) :
    ∃ a c w', (Builtin.append_ #[26, 26] ty #[v, .slice (some ⟨b, 0, none⟩) 1 1]).run Tryd.prog w = .ok (.slice a (xs.length + 1) c) w' ∧ Sep w0 (OfT (.slice a (xs.length + 1) c) (xs ++ [x]) :: L) w' := by
  obtain ⟨i, hi, he⟩ := Option.map_eq_some_iff.1 infoOf
  simp only [Prod.mk.injEq, decide_eq_true_eq] at he
  obtain ⟨z, hz, hz2⟩ := Option.map_eq_some_iff.1 he.2.2
  have h1 := h.sw2.ofOpen
  have hcs : ∀ j u', (ovC x).toList[j]? = some u' → w.cell? ⟨b, 0 + j, none⟩ = some u' := fun j u' hj => by
    rw [Nat.zero_add]
    exact h.cell (by simpa using hj)
  obtain ⟨v', w', hr, h2⟩ := append_rn (P := Tryd.prog) (ty := ty) (m := 1) (c := 1) Tryd.underlying26 hi hz he.1 he.2.1 hz2 (by decide) h1 (news := (ovC x).toList) (by simp [ovC]) hcs (by
    obtain ⟨a, c, hx⟩ := hx
    intro y hy
    simp only [ovC, List.mem_cons, List.not_mem_nil, or_false] at hy
    rcases hy with rfl | rfl | rfl | rfl | rfl | rfl <;> first | rfl | (rw [hx]; rfl)) (by omega)
  obtain ⟨a, c, rfl, -⟩ := h2.rnForm
  refine ⟨a, c, w', hr, ?_⟩
  have e : msCs (xs.map ovC) ++ (ovC x).toList = msCs ((xs ++ [x]).map ovC) := by rw [List.map_append, msCs_app]; simp [msCs]
  rw [e] at h2
  have h3 : Sep w0 ((OfR (.slice a (xs.length + 1) c) (xs ++ [x]) :: xs.map enP) ++ (Cl b (ovC x) 33 :: enP x :: L)) w' := by
    show Sep w0 (Rn 6 33 (.slice a (xs.length + 1) c) (xs ++ [x]).length (msCs ((xs ++ [x]).map ovC)) :: _) w'
    rw [List.length_append, List.length_singleton]
    exact h2
  have h4 : Sep w0 ((OfR (.slice a (xs.length + 1) c) (xs ++ [x]) :: xs.map enP) ++ (enP x :: L)) w' := by
    have hp : ((OfR (.slice a (xs.length + 1) c) (xs ++ [x]) :: xs.map enP) ++ (Cl b (ovC x) 33 :: enP x :: L)).Perm (Cl b (ovC x) 33 :: ((OfR (.slice a (xs.length + 1) c) (xs ++ [x]) :: xs.map enP) ++ (enP x :: L))) := List.perm_middle
    exact (h3.perm hp).drop
  refine Sep.ofClose ?_
  rw [List.map_append, List.append_assoc]
  exact h4
theorem Sep.ofLoad {w0 w : World} {a : Option Addr} {n c : Nat} {xs : List OvM} {L : List Thing} (h : Sep w0 (OfT (.slice a n c) xs :: L) w) (k : Nat) (hk : k < xs.length) :
    ∃ g, a = some ⟨g, 0, none⟩ ∧ n = xs.length ∧ (∀ j v, (ovC xs[k])[j]? = some v → w.cell? ⟨g, k * 6 + j, none⟩ = some v) ∧ (Instr.loadAt 33 (.pointer (some ⟨g, k * 6, none⟩))).run Tryd.prog w = .ok (.agg (ovC xs[k])) w := by
  obtain ⟨a1, c', h1, h2, h3, h4, h5⟩ := h.ofOpen.rnForm
  obtain ⟨b, h6, h7, h8⟩ := h5 (by omega)
  simp only [Value.slice.injEq] at h1
  obtain ⟨e1, e2, e3⟩ := h1
  subst h6
  have hkm : k < (xs.map ovC).length := by rw [List.length_map]; exact hk
  have hcell : ∀ j v, (ovC xs[k])[j]? = some v → w.cell? ⟨b, k * 6 + j, none⟩ = some v := fun j v hj => by
    have hj6 : j < 6 := (Array.getElem?_eq_some_iff.1 hj).1
    have e := msCs_at (rows6 xs) k hkm j hj6
    rw [List.getElem_map, hj] at e
    obtain ⟨hlt, he⟩ := List.getElem?_eq_some_iff.1 e
    rw [h8 _ hlt, he]
  refine ⟨b, e1, e2, hcell, ?_⟩
  have h9 := run_loadAt_mid (P := Tryd.prog) w b (k * 6) 33 (ovC xs[k]).toList _ (fun j v hj => hcell j v (by simpa using hj)) Tryd.underlying33 rfl (by show _ = some 6; kernel_rfl)
  simpa using h9
theorem Sep.ofEn {w0 w : World} {v : Value} {xs : List OvM} {L : List Thing} (h : Sep w0 (OfT v xs :: L) w) {x : OvM} (hx : x ∈ xs) : EnS w x.v x.ps := by
  obtain ⟨M, hM⟩ := h.ofOpen.memT (A := enP x) (List.mem_cons_of_mem _ (List.mem_append_left _ (List.mem_map_of_mem hx)))
  exact hM.enS
theorem Sep.ofVs {w0 w : World} {v : Value} {xs : List OvM} {L : List Thing} (h : Sep w0 (OfT v xs :: L) w) {x : OvM} (hx : x ∈ xs) : VsO x := by
  obtain ⟨M, hM⟩ := h.ofOpen.memT (A := enP x) (List.mem_cons_of_mem _ (List.mem_append_left _ (List.mem_map_of_mem hx)))
  obtain ⟨a, c, e, -, -⟩ := hM.enForm
  exact ⟨a, c, e⟩
def numE (x : EnM) (z : Int) : EnM := ⟨x.c, z, x.p⟩
theorem enCs_num : ∀ (ps : List (EnM × Value)) (i : Nat) (hi : i < ps.length) (z : Int), enCs (ps.set i (numE ps[i].1 z, ps[i].2)) = (enCs ps).set (i * 7 + 1) (.int .i64 z)
  | q :: ps, 0, _, z => by simp [enCs, enC, numE]
  | q :: ps, i + 1, hi, z => by
    have ih := enCs_num ps i (by simpa using hi) z
    unfold enCs at ih ⊢
    rw [List.set_cons_succ, List.flatMap_cons, List.flatMap_cons, List.getElem_cons_succ, ih, List.set_append_right _ _ (by simp [enC]; omega)]
    rw [show (i + 1) * 7 + 1 - (enC q.1 q.2).toList.length = i * 7 + 1 by simp [enC]; omega]
theorem lnP_num (ps : List (EnM × Value)) (i : Nat) (hi : i < ps.length) (z : Int) : (ps.set i (numE ps[i].1 z, ps[i].2)).map lnP = ps.map lnP := by
  apply List.ext_getElem
  · simp
  · intro j h1 h2
    rw [List.getElem_map, List.getElem_map, List.getElem_set]
    split
    · rename_i e; subst e; rfl
    · rfl
/-- The number of an entry of one's own is stored to. -/
theorem Sep.enNum {w0 w : World} {u : Value} {ps : List (EnM × Value)} {L : List Thing} (h : Sep w0 (EnT u ps :: L) w) (i : Nat) (hi : i < ps.length) :
    ∃ b c, u = .slice (some ⟨b, 0, none⟩) ps.length c ∧ ps.length ≤ c ∧ (∃ x, w.cell? ⟨b, i * 7 + 1, none⟩ = some x) ∧ w.frozen? ⟨b, i * 7 + 1, none⟩ = false ∧
      ∀ z, Sep w0 (EnT u (ps.set i (numE ps[i].1 z, ps[i].2)) :: L) (w.setCell ⟨b, i * 7 + 1, none⟩ (.int .i64 z)) := by
  obtain ⟨b, c, hv, hc, -, -, hl, hcell, hfr, hset⟩ := h.enOpen.rnSet (by omega)
  have hlt : i * 7 + 1 < (enCs ps).length := by rw [enCs_len]; omega
  refine ⟨b, c, hv, hc, ⟨_, hcell _ hlt⟩, hfr _, fun z => Sep.enClose ?_⟩
  have h3 := hset (i * 7 + 1) (.int .i64 z) hlt
  rw [← enCs_num ps i hi z] at h3
  rw [lnP_num ps i hi z]
  show Sep w0 (Rn 7 47 u (ps.set i _).length (enCs (ps.set i _)) :: _) _
  rw [List.length_set]
  exact h3
/-- A law's log: last, many, commit. -/
abbrev Lg := Int × Int × Int
def lgAt (ls : List Lg) (i : Nat) : Lg := ls.getD i (0, 0, 0)
def minI (a b : Int) : Int := if b < a then b else a
theorem min_run (ty : TypeId) (p q : Int) (w : World) : (Builtin.min_ #[3, 3] ty #[.int .i64 p, .int .i64 q]).run Tryd.prog w = .ok (.int .i64 (minI p q)) w := by
  unfold minI
  by_cases h : q < p
  · rw [if_pos h]
    simp [go_sem, h]
  · rw [if_neg h]
    simp [go_sem, h]
theorem wpList_min_r {P : Program} {w : World} {ops : Array Oper} {rest : List Oper} {o : Oper} {a : Act} {Q : Exit → Act → World → Prop} (hgd : o.guard = none) (s x : Operand) (t u : TypeId)
    (ho : o.op = .call { callee := .builtin .min, args := #[s, x], argTypes := #[t, u] }) {v y v' : Value} (hs : a.eval s = v) (hx : a.eval x = y)
    (hr : (Builtin.min_ #[t, u] o.type #[v, y]).run P w = .ok v' w) (h : wpList P ops Q rest (a.put o.dst v') w) : wpList P ops Q (o :: rest) a w := by
  refine wpList_plain hgd fun K hK => ?_
  unfold Oper.wp
  simp [execOp, ho, resolve, invoke, builtin, hs, hx, hr, Result.andThen]
  exact hK _ _ h
def gLa (x : Lg) : Int := x.1 % 100
def gMa (sh : Nat) (le : Int) (x : Lg) : Nat := if le ≤ gLa x then max (x.2.1 % 20).toNat sh else (x.2.1 % 20).toNat
def gCo (sh : Nat) (le : Int) (x : Lg) : Int := minI (maxI (minI (x.2.2 % ((gMa sh le x : Nat) + 1)) sh) ((gMa sh le x : Nat) - 8)) (gMa sh le x : Nat)
/-- The entries of the i-th one, up to k brought to its own numbers. -/
def gEn (sh i m k : Nat) : List (EnM × Value) := (List.range m).map fun j => (skE (if sh ≤ j ∧ j < k then 1000 + 100 * (i : Int) + j else (j : Int) + 1), .slice none 0 0)
theorem gEn_len (sh i m k : Nat) : (gEn sh i m k).length = m := by simp [gEn]
theorem gEn_get (sh i m k j : Nat) (h : j < (gEn sh i m k).length) : (gEn sh i m k)[j] = (skE (if sh ≤ j ∧ j < k then 1000 + 100 * (i : Int) + j else (j : Int) + 1), .slice none 0 0) := by simp [gEn]
theorem gEn_start (sh i m : Nat) : rowP m = gEn sh i m sh := by
  unfold rowP gEn
  refine List.map_congr_left fun j hj => ?_
  rw [if_neg (by omega)]
theorem gEn_end (sh i m k : Nat) (h : m ≤ k) : gEn sh i m k = gEn sh i m m := by
  unfold gEn
  refine List.map_congr_left fun j hj => ?_
  have := List.mem_range.1 hj
  by_cases h1 : sh ≤ j
  · rw [if_pos ⟨h1, by omega⟩, if_pos ⟨h1, by omega⟩]
  · rw [if_neg (by omega), if_neg (by omega)]
theorem gEn_step (sh i m k : Nat) (h1 : sh ≤ k) (h2 : k < (gEn sh i m k).length) : (gEn sh i m k).set k (numE (gEn sh i m k)[k].1 (1000 + 100 * (i : Int) + k), (gEn sh i m k)[k].2) = gEn sh i m (k + 1) := by
  apply List.ext_getElem
  · simp [gEn]
  · intro j h3 h4
    rw [List.getElem_set]
    by_cases e : k = j
    · subst e
      rw [if_pos rfl]
      simp only [gEn_get]
      rw [if_pos (show sh ≤ k ∧ k < k + 1 from ⟨h1, by omega⟩)]
      rfl
    · rw [if_neg e, gEn_get, gEn_get]
      by_cases h5 : sh ≤ j ∧ j < k
      · rw [if_pos h5, if_pos (by omega)]
      · rw [if_neg h5, if_neg (by omega)]
/-- What group says of the i-th one. -/
def gO (sh : Nat) (le : Int) (ls : List Lg) (i : Nat) : OvM := ⟨i, gLa (lgAt ls i), 0, gCo sh le (lgAt ls i), .slice none 0 0, gEn sh i (gMa sh le (lgAt ls i)) (gMa sh le (lgAt ls i))⟩
def grp (sh : Nat) (le : Int) (ls : List Lg) (n : Nat) : List OvM := (List.range n).map (gO sh le ls)
theorem grp_len (sh : Nat) (le : Int) (ls : List Lg) (n : Nat) : (grp sh le ls n).length = n := by simp [grp]
theorem grp_succ (sh : Nat) (le : Int) (ls : List Lg) (k : Nat) : grp sh le ls (k + 1) = grp sh le ls k ++ [gO sh le ls k] := by simp [grp, List.range_succ]
theorem gMa_le (sh : Nat) (le : Int) (x : Lg) (h : sh ≤ 12) : gMa sh le x ≤ 19 := by
  unfold gMa
  have := Int.emod_lt_of_pos x.2.1 (show (0 : Int) < 20 by decide)
  split <;> omega
/-- Logs that came in. -/
def LgS (w : World) (a : Option Addr) (ls : List Lg) : Prop := ∀ i (hi : i < ls.length), ∃ b off, a = some ⟨b, off, none⟩ ∧ b < w.heap.size ∧ w.cell? ⟨b, off + i * 3, none⟩ = some (.int .i64 ls[i].1) ∧ w.cell? ⟨b, off + i * 3 + 1, none⟩ = some (.int .i64 ls[i].2.1) ∧ w.cell? ⟨b, off + i * 3 + 2, none⟩ = some (.int .i64 ls[i].2.2)
theorem LgS.below {w w' : World} {a : Option Addr} {ls : List Lg} (h : LgS w a ls) (hb : Below w.heap.size w w') : LgS w' a ls := fun i hi => by
  obtain ⟨b, off, e, hl, c0, c1, c2⟩ := h i hi
  have k : ∀ o, w'.cell? ⟨b, o, none⟩ = w.cell? ⟨b, o, none⟩ := fun o => hb.cell (p := ⟨b, o, none⟩) hl
  exact ⟨b, off, e, Nat.lt_of_lt_of_le hl hb.size, (k _).trans c0, (k _).trans c1, (k _).trans c2⟩
end Go.Proofs.YthgndegjiodopaaDoor
