/- Stage 18's laws: ChooseTurns. -/
import Derived.Test.YthgndegjiodopaaDoorCho22
namespace Go.Proofs.YthgndegjiodopaaDoor
open Go Go.RowKit
set_option linter.unusedVariables false
set_option linter.unusedSimpArgs false
/-- Where the i-th one of the other order lies. -/
def sgm (n t : Nat) (fl : Bool) (i : Nat) : Nat := if fl then n - 1 - (i + t) % n else (i + t) % n
theorem sgm_lt (n t : Nat) (fl : Bool) (i : Nat) (h : 0 < n) : sgm n t fl i < n := by
  have := Nat.mod_lt (i + t) h
  unfold sgm
  split <;> omega
theorem mod_inj {n t i j : Nat} (h : 0 < n) (hi : i < n) (hj : j < n) (e : (i + t) % n = (j + t) % n) : i = j := by
  have h1 := Nat.mod_add_div (i + t) n
  have h2 := Nat.mod_add_div (j + t) n
  rw [e] at h1
  generalize (i + t) / n = a at *
  generalize (j + t) / n = b at *
  rcases Nat.lt_trichotomy a b with h3 | h3 | h3
  · have : n * (a + 1) ≤ n * b := Nat.mul_le_mul_left _ h3
    rw [Nat.mul_add] at this; omega
  · subst h3; omega
  · have : n * (b + 1) ≤ n * a := Nat.mul_le_mul_left _ h3
    rw [Nat.mul_add] at this; omega
theorem sgm_inj {n t : Nat} {fl : Bool} {i j : Nat} (h : 0 < n) (hi : i < n) (hj : j < n) (e : sgm n t fl i = sgm n t fl j) : i = j := by
  have h1 := Nat.mod_lt (i + t) h
  have h2 := Nat.mod_lt (j + t) h
  unfold sgm at e
  cases fl
  · exact mod_inj h hi hj e
  · exact mod_inj (t := t) h hi hj (by simp at e; omega)
theorem sgm_onto {n t : Nat} {fl : Bool} (ht : t < n) {m : Nat} (hm : m < n) : ∃ i, i < n ∧ sgm n t fl i = m := by
  have key : ∀ m', m' < n → ((m' + (n - t)) % n + t) % n = m' := fun m' h => by
    rw [Nat.mod_add_mod, show m' + (n - t) + t = m' + n by omega, Nat.add_mod_right, Nat.mod_eq_of_lt h]
  cases fl
  · exact ⟨(m + (n - t)) % n, Nat.mod_lt _ (by omega), key m hm⟩
  · refine ⟨(n - 1 - m + (n - t)) % n, Nat.mod_lt _ (by omega), ?_⟩
    show n - 1 - _ = m
    rw [key (n - 1 - m) (by omega)]; omega
theorem sgm_perm (n t : Nat) (fl : Bool) (ht : t < n) : ((List.range n).map (sgm n t fl)).Perm (List.range n) := by
  rw [List.perm_ext_iff_of_nodup ?_ List.nodup_range]
  · intro m
    constructor
    · intro h
      obtain ⟨i, -, rfl⟩ := List.mem_map.1 h
      exact List.mem_range.2 (sgm_lt n t fl i (by omega))
    · intro h
      obtain ⟨i, hi, e⟩ := sgm_onto (fl := fl) ht (List.mem_range.1 h)
      exact List.mem_map.2 ⟨i, List.mem_range.2 hi, e⟩
  · unfold List.Nodup
    rw [List.pairwise_map]
    refine List.Pairwise.imp_of_mem (fun {a b} ha hb h e => h ?_) List.nodup_range
    exact sgm_inj (by omega) (List.mem_range.1 ha) (List.mem_range.1 hb) e
/-- append of an offer that lies elsewhere. -/
theorem append_ofr {w0 w : World} {v : Value} {xs : List OvM} {x : OvM} {b : Nat} {L : List Thing} (ty : TypeId) (h : Sep w0 (Cl b (ovC x) 33 :: OfR v xs :: L) w) (hx : VsO x) (hl : xs.length ≤ 10000000) :
    ∃ a c w', (Builtin.append_ #[26, 26] ty #[v, .slice (some ⟨b, 0, none⟩) 1 1]).run Tryd.prog w = .ok (.slice a (xs.length + 1) c) w' ∧ Sep w0 (OfR (.slice a (xs.length + 1) c) (xs ++ [x]) :: L) w' := by
  obtain ⟨i, hi, he⟩ := Option.map_eq_some_iff.1 infoOf
  simp only [Prod.mk.injEq, decide_eq_true_eq] at he
  obtain ⟨z, hz, hz2⟩ := Option.map_eq_some_iff.1 he.2.2
  have hcs : ∀ j u', (ovC x).toList[j]? = some u' → w.cell? ⟨b, 0 + j, none⟩ = some u' := fun j u' hj => by
    rw [Nat.zero_add]
    exact h.cell (by simpa using hj)
  obtain ⟨v', w', hr, h2⟩ := append_rn (P := Tryd.prog) (ty := ty) (m := 1) (c := 1) Tryd.underlying26 hi hz he.1 he.2.1 hz2 (by decide) h.sw2 (news := (ovC x).toList) (by simp [ovC]) hcs (by
    obtain ⟨a, c, hx⟩ := hx
    intro y hy
    simp only [ovC, List.mem_cons, List.not_mem_nil, or_false] at hy
    rcases hy with rfl | rfl | rfl | rfl | rfl | rfl <;> first | rfl | (rw [hx]; rfl)) (by omega)
  obtain ⟨a, k, rfl, -⟩ := h2.rnForm
  refine ⟨a, k, w', hr, ?_⟩
  have h3 := h2.sw2.drop
  have e : msCs (xs.map ovC) ++ (ovC x).toList = msCs ((xs ++ [x]).map ovC) := by rw [List.map_append, msCs_app]; simp [msCs]
  rw [e] at h3
  show Sep w0 (Rn 6 33 (.slice a (xs.length + 1) k) (xs ++ [x]).length (msCs ((xs ++ [x]).map ovC)) :: _) w'
  rw [List.length_append, List.length_singleton]
  exact h3
theorem Sep.ofrLoad {w0 w : World} {a : Option Addr} {n c : Nat} {xs : List OvM} {L : List Thing} (h : Sep w0 (OfR (.slice a n c) xs :: L) w) (k : Nat) (hk : k < xs.length) :
    ∃ g, a = some ⟨g, 0, none⟩ ∧ (Instr.loadAt 33 (.pointer (some ⟨g, k * 6, none⟩))).run Tryd.prog w = .ok (.agg (ovC xs[k])) w := by
  obtain ⟨a1, c', h1, h2, h3, h4, h5⟩ := h.rnForm
  obtain ⟨b, h6, h7, h8⟩ := h5 (by omega)
  simp only [Value.slice.injEq] at h1
  obtain ⟨e1, e2, e3⟩ := h1
  subst h6
  have hkm : k < (xs.map ovC).length := by rw [List.length_map]; exact hk
  have hcell : ∀ j v, (ovC xs[k])[j]? = some v → w.cell? ⟨b, k * 6 + j, none⟩ = some v := fun j v hj => by
    have hj6 : j < 6 := (Array.getElem?_eq_some_iff.1 hj).1
    have e := msCs_at (rows6 xs) k hkm j hj6
    rw [List.getElem_map, hj] at e
    obtain ⟨hlt, he⟩ := List.getElem?_eq_some_iff.1 e
    rw [h8 _ hlt, he]
  refine ⟨b, e1, ?_⟩
  have h9 := run_loadAt_mid (P := Tryd.prog) w b (k * 6) 33 (ovC xs[k]).toList _ (fun j v hj => hcell j v (by simpa using hj)) Tryd.underlying33 rfl (by show _ = some 6; kernel_rfl)
  simpa using h9
theorem Sep.ofrHrd {w0 : World} {a : Option Addr} {n c : Nat} {xs : List OvM} {L : List Thing} {w : World} (h : Sep w0 (OfR (.slice a n c) xs :: L) w) :
    ∀ i (hi : i < xs.length), ∃ g1 off, a = some ⟨g1, off, none⟩ ∧ ∀ wx, Sep w0 (OfR (.slice a n c) xs :: L) wx → (Instr.loadAt 33 (.pointer (some ⟨g1, off + i * 6, none⟩))).run Tryd.prog wx = .ok (.agg (ovC xs[i])) wx := by
  intro i hi
  obtain ⟨g, e, -⟩ := h.ofrLoad i hi
  refine ⟨g, 0, e, fun wx hx => ?_⟩
  obtain ⟨g', e', h2⟩ := hx.ofrLoad i hi
  rw [e] at e'
  obtain rfl : g = g' := by simpa using e'
  rw [Nat.zero_add, h2]
theorem Sep.ofrNil {w0 w : World} {L : List Thing} (h : Sep w0 L w) : Sep w0 (OfR (.slice none 0 0) [] :: L) w := h.rnNil 6 33
/-- Those of the other order, up to k. -/
def othr (xs : List OvM) (n t : Nat) (fl : Bool) (k : Nat) : List OvM := (List.range k).map fun i => xs.getD (sgm n t fl i) ovZ
theorem othr_succ (xs : List OvM) (n t : Nat) (fl : Bool) (k : Nat) : othr xs n t fl (k + 1) = othr xs n t fl k ++ [xs.getD (sgm n t fl k) ovZ] := by simp [othr, List.range_succ]
theorem othr_len (xs : List OvM) (n t : Nat) (fl : Bool) (k : Nat) : (othr xs n t fl k).length = k := by simp [othr]
theorem othr_perm (xs : List OvM) (n t : Nat) (fl : Bool) (h : t < n) (hl : xs.length = n) : (othr xs n t fl n).Perm xs := by
  have h1 := (sgm_perm n t fl h).map fun i => xs.getD i ovZ
  rw [List.map_map] at h1
  have h2 : (List.range n).map (fun i => xs.getD i ovZ) = xs := by
    apply List.ext_getElem
    · simp [hl]
    · intro i h3 h4
      simp [List.getD_eq_getElem?_getD, h4]
  rw [h2] at h1
  exact h1
end Go.Proofs.YthgndegjiodopaaDoor
