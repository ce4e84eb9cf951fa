/- The document's tally: Add. -/
import Derived.Test.YtidbniigfkocpaaRefWho
import Derived.Test.YtidbniigfkocpaaTalMath
import Derived.Deep.RegionLaw
namespace Go.Proofs.Ytidbniigfkocpaa
open Go.RowKit
set_option linter.unusedVariables false
set_option linter.unusedSimpArgs false
/-- A cell of a slice of structs is stored to. -/
theorem Sep.rnSet {w0 w : World} {sz n b c : Nat} {e : TypeId} {xs : List Value} {L : List Thing} (h : Sep w0 (Rn sz e (.slice (some ⟨b, 0, none⟩) n c) n xs :: L) w) (j : Nat) (u : Value) (hj : j < xs.length) :
    Sep w0 (Rn sz e (.slice (some ⟨b, 0, none⟩) n c) n (xs.set j u) :: L) (w.setCell ⟨b, j, none⟩ u) := by
  have ho := h.rn
  rcases ho.2 with ⟨h0, _⟩ | ⟨g, cap, cur, hv, hb, hh, h1, h2, h3, h4⟩
  · cases h0
  · simp only [Value.slice.injEq, Option.some.injEq, Addr.mk.injEq, and_true, true_and] at hv
    obtain ⟨rfl, rfl⟩ := hv
    refine h.change (loc_rn _ _ _ _ _) fun F hF hlt => ⟨F, ⟨⟨w0.heap.size, ?_, .inr ⟨b, c, cur.setIfInBounds j u, rfl, hb, heap_setCell_at hh u, h1, h2, by simpa using h3, ?_⟩⟩, hF.2⟩, fun k hk => ⟨.inl hk, by have := hlt k hk; simpa [World.setCell] using this⟩, chg_setCell ((hF.2 b).2 rfl) j u⟩
    · rw [List.length_set]; exact ho.1
    · rw [Array.toList_setIfInBounds, List.take_set, h4]
theorem Sep.rnFrozen {w0 w : World} {sz n b c : Nat} {e : TypeId} {xs : List Value} {L : List Thing} (h : Sep w0 (Rn sz e (.slice (some ⟨b, 0, none⟩) n c) n xs :: L) w) (j : Nat) : w.frozen? ⟨b, j, none⟩ = false := by
  rcases h.rn.2 with ⟨h0, _⟩ | ⟨g, cap, cur, hv, hb, hh, h1, h2, h3, h4⟩
  · cases h0
  · simp only [Value.slice.injEq, Option.some.injEq, Addr.mk.injEq, and_true, true_and] at hv
    obtain ⟨rfl, rfl⟩ := hv
    unfold World.frozen?; rw [hh]; simp
theorem blk_ne_rn {w0 w : World} {sz n b c g : Nat} {o : Obj} {e : TypeId} {xs : List Value} {L : List Thing} (h : Sep w0 (Blk g o :: Rn sz e (.slice (some ⟨b, 0, none⟩) n c) n xs :: L) w) : g ≠ b := by
  obtain ⟨_, _, F, hF, hf, F', hF', hf', _⟩ := h
  intro e
  subst e
  exact (hf' _ ((hF'.2 _).2 rfl)).2.2 (.inr ((hF.2 _).2 rfl))
theorem set_same {α : Type} {l : List α} {j : Nat} {u : α} (h : l[j]? = some u) : l.set j u = l := by
  obtain ⟨hj, rfl⟩ := List.getElem?_eq_some_iff.1 h
  exact List.set_getElem_self hj
/-- A row is stored to: its ballot as it was, another slice. -/
theorem row_store {w0 w : World} {b c i : Nat} {S : List (Bal × Nat)} {R : List Value} {u : Value} {L : List Thing} (h : Sep w0 (RRows (.slice (some ⟨b, 0, none⟩) S.length c) S R :: L) w) (hR : R.length = S.length) (hi : i < S.length) {x : Bal} (hx : S[i].1 = x) :
    Sep w0 (RRows (.slice (some ⟨b, 0, none⟩) S.length c) S (R.set i u) :: L) ((((((w.setCell ⟨b, i * 6, none⟩ (.int .i64 x.1.1)).setCell ⟨b, i * 6 + 1, none⟩ (.int .i64 x.1.2.1)).setCell ⟨b, i * 6 + 2, none⟩ (.int .i64 x.1.2.2.1)).setCell ⟨b, i * 6 + 3, none⟩ (.int .i64 x.1.2.2.2.1)).setCell ⟨b, i * 6 + 4, none⟩ (.int .i64 x.1.2.2.2.2)).setCell ⟨b, i * 6 + 5, none⟩ u) := by
  subst hx
  obtain ⟨q0, q1, q2, q3, q4, q5⟩ := rowsC_at (keysS S) R i (by simpa using hi) (by omega)
  simp only [keysS, List.getElem_map] at q0 q1 q2 q3 q4
  have hlen : (rowsC (List.map (fun x => x.1) S) R).length = S.length * 6 := by rw [rowsC_len _ _ (by simpa using hR)]; simp
  have h0 := h.rnSet (i * 6) (.int .i64 S[i].1.1.1) (by show i * 6 < (rowsC (List.map (fun x => x.1) S) R).length; omega)
  rw [set_same q0] at h0
  have h1 := h0.rnSet (i * 6 + 1) (.int .i64 S[i].1.1.2.1) (by omega)
  rw [set_same q1] at h1
  have h2 := h1.rnSet (i * 6 + 2) (.int .i64 S[i].1.1.2.2.1) (by omega)
  rw [set_same q2] at h2
  have h3 := h2.rnSet (i * 6 + 3) (.int .i64 S[i].1.1.2.2.2.1) (by omega)
  rw [set_same q3] at h3
  have h4 := h3.rnSet (i * 6 + 4) (.int .i64 S[i].1.1.2.2.2.2) (by omega)
  rw [set_same q4] at h4
  have h5 := h4.rnSet (i * 6 + 5) u (by omega)
  rw [rowsC_set _ _ _ _ (by simpa using hR) (by simpa using hi)] at h5
  exact h5
/-- What Add reads ahead of put. -/
theorem add_cells {w0 w : World} {bx g n b c b2 cc k : Nat} {x : Bal} {S : List (Bal × Nat)} {R : List Value} {M : List Thing} (h : Sep w0 (Cl bx (cellsB x) 34 :: RTalC g n (.slice (some ⟨b, 0, none⟩) S.length c) :: RRows (.slice (some ⟨b, 0, none⟩) S.length c) S R :: M) w) (hR : R.length = S.length) (hk : k < S.length) {len : Nat} (hv : R[k]'(by omega) = .slice (some ⟨b2, 0, none⟩) len cc) :
    w.cell? ⟨bx, 0, none⟩ = some (.int .i64 x.1.1) ∧ w.cell? ⟨bx, 1, none⟩ = some (.int .i64 x.1.2.1) ∧ w.cell? ⟨bx, 2, none⟩ = some (.int .i64 x.1.2.2.1) ∧ w.cell? ⟨bx, 3, none⟩ = some (.int .i64 x.1.2.2.2.1) ∧ w.cell? ⟨bx, 4, none⟩ = some (.int .i64 x.1.2.2.2.2) ∧
      w.cell? ⟨g, 1, none⟩ = some (.slice (some ⟨b, 0, none⟩) S.length c) ∧ w.cell? ⟨b, k * 6 + 5, none⟩ = some (.slice (some ⟨b2, 0, none⟩) len cc) := by
  obtain ⟨y0, y1, y2, y3, y4⟩ := bal_cells h
  obtain ⟨b', c', hv', _, _, _, _, _, _, _, d5⟩ := h.sw3.rrowAt hR k hk
  simp only [Value.slice.injEq, Option.some.injEq, Addr.mk.injEq, and_true] at hv'
  obtain ⟨rfl, -⟩ := hv'
  rw [hv] at d5
  exact ⟨y0, y1, y2, y3, y4, h.sw2.cell (o := 1) (x := .slice (some ⟨b, 0, none⟩) S.length c) rfl, d5⟩
def oneCells (x : Bal) (u : Value) : Array Value := #[.int .i64 x.1.1, .int .i64 x.1.2.1, .int .i64 x.1.2.2.1, .int .i64 x.1.2.2.2.1, .int .i64 x.1.2.2.2.2, u]
theorem one_facts {w0 w : World} {bq : Nat} {x : Bal} {u : Value} {t : TypeId} {L : List Thing} (h : Sep w0 (Cl bq (oneCells x u) t :: L) w) :
    (w.cell? ⟨bq, 0, none⟩ = some (.int .i64 x.1.1) ∧ w.cell? ⟨bq, 1, none⟩ = some (.int .i64 x.1.2.1) ∧ w.cell? ⟨bq, 2, none⟩ = some (.int .i64 x.1.2.2.1) ∧ w.cell? ⟨bq, 3, none⟩ = some (.int .i64 x.1.2.2.2.1) ∧ w.cell? ⟨bq, 4, none⟩ = some (.int .i64 x.1.2.2.2.2) ∧ w.cell? ⟨bq, 5, none⟩ = some u) ∧
    (w.frozen? ⟨bq, 0, none⟩ = false ∧ w.frozen? ⟨bq, 1, none⟩ = false ∧ w.frozen? ⟨bq, 2, none⟩ = false ∧ w.frozen? ⟨bq, 3, none⟩ = false ∧ w.frozen? ⟨bq, 4, none⟩ = false ∧ w.frozen? ⟨bq, 5, none⟩ = false) :=
  ⟨⟨h.cell rfl, h.cell rfl, h.cell rfl, h.cell rfl, h.cell rfl, h.cell rfl⟩, ⟨h.frozen 0, h.frozen 1, h.frozen 2, h.frozen 3, h.frozen 4, h.frozen 5⟩⟩
theorem one_store {w0 : World} {bq : Nat} {v0 v1 v2 v3 v4 v5 u0 u1 u2 u3 u4 u5 : Value} {t : TypeId} {M : List Thing} {wx : World} (h : Sep w0 (Cl bq #[v0, v1, v2, v3, v4, v5] t :: M) wx) :
    Sep w0 (Cl bq #[u0, u1, u2, u3, u4, u5] t :: M) ((((((wx.setCell ⟨bq, 0, none⟩ u0).setCell ⟨bq, 1, none⟩ u1).setCell ⟨bq, 2, none⟩ u2).setCell ⟨bq, 3, none⟩ u3).setCell ⟨bq, 4, none⟩ u4).setCell ⟨bq, 5, none⟩ u5) :=
  (((((h.setCell 0 _).setCell 1 _).setCell 2 _).setCell 3 _).setCell 4 _).setCell 5 _
theorem one_facts' {w0 w : World} {bq : Nat} {v0 v1 v2 v3 v4 v5 : Value} {t : TypeId} {L : List Thing} (h : Sep w0 (Cl bq #[v0, v1, v2, v3, v4, v5] t :: L) w) :
    (w.cell? ⟨bq, 0, none⟩ = some v0 ∧ w.cell? ⟨bq, 1, none⟩ = some v1 ∧ w.cell? ⟨bq, 2, none⟩ = some v2 ∧ w.cell? ⟨bq, 3, none⟩ = some v3 ∧ w.cell? ⟨bq, 4, none⟩ = some v4 ∧ w.cell? ⟨bq, 5, none⟩ = some v5) ∧
    (w.frozen? ⟨bq, 0, none⟩ = false ∧ w.frozen? ⟨bq, 1, none⟩ = false ∧ w.frozen? ⟨bq, 2, none⟩ = false ∧ w.frozen? ⟨bq, 3, none⟩ = false ∧ w.frozen? ⟨bq, 4, none⟩ = false ∧ w.frozen? ⟨bq, 5, none⟩ = false) :=
  ⟨⟨h.cell rfl, h.cell rfl, h.cell rfl, h.cell rfl, h.cell rfl, h.cell rfl⟩, ⟨h.frozen 0, h.frozen 1, h.frozen 2, h.frozen 3, h.frozen 4, h.frozen 5⟩⟩
/-- What the tally is behind the row's store. -/
theorem add_done {w0 w : World} {bl bx g n b c k who gu q cu : Nat} {x : Bal} {S : List (Bal × Nat)} {R : List Value} {r : List Int} {L : List Thing} (hR : R.length = S.length) (hk : k < S.length) (hx : S[k].1 = x) (hS : (S.map (·.1)).Nodup) (hF : ∀ p ∈ S, Fit n p.2) (hw : who < n) (hn : n ≤ 15)
    (hP : q = r.length ∧ PutOk (whoOf S[k].2 n) who r)
    (h : Sep w0 (Cl bl #[.int .i64 x.1.1, .int .i64 x.1.2.1, .int .i64 x.1.2.2.1, .int .i64 x.1.2.2.2.1, .int .i64 x.1.2.2.2.2, .slice (some ⟨gu, 0, none⟩) q cu] 69 :: Cl bx (cellsB x) 34 :: RTalC g n (.slice (some ⟨b, 0, none⟩) S.length c) :: RRows (.slice (some ⟨b, 0, none⟩) S.length c) S R :: WhosT (setsS n S) R :: Is (.slice (some ⟨gu, 0, none⟩) q cu) r :: L) w) :
    q = popc ((mget S x).getD 0 ||| 2 ^ who) ∧ ∃ R', Sep w0 (RTalC g n (.slice (some ⟨b, 0, none⟩) S.length c) :: RRows (.slice (some ⟨b, 0, none⟩) S.length c) (addS S x who) R' :: WhosT (setsS n (addS S x who)) R' :: L)
      ((((((w.setCell ⟨b, k * 6, none⟩ (.int .i64 x.1.1)).setCell ⟨b, k * 6 + 1, none⟩ (.int .i64 x.1.2.1)).setCell ⟨b, k * 6 + 2, none⟩ (.int .i64 x.1.2.2.1)).setCell ⟨b, k * 6 + 3, none⟩ (.int .i64 x.1.2.2.2.1)).setCell ⟨b, k * 6 + 4, none⟩ (.int .i64 x.1.2.2.2.2)).setCell ⟨b, k * 6 + 5, none⟩ (.slice (some ⟨gu, 0, none⟩) q cu)) := by
  have hg := mget_mem hS (List.getElem_mem hk)
  rw [hx] at hg
  have hr := putOk_who hw hP.2
  have hfit := fit_or (hF _ (List.getElem_mem hk)) hw
  have hlen := whoOf_pop hfit hn
  rw [← hr, ← hP.1] at hlen
  have ha := addS_old (who := who) hS hk hx
  refine ⟨by rw [hg]; exact hlen, R.set k (.slice (some ⟨gu, 0, none⟩) q cu), ?_⟩
  have h1 := row_store (u := .slice (some ⟨gu, 0, none⟩) q cu) h.sw4 hR hk hx
  have h2 := h1.sw6.sw6
  have hq : 0 < r.length := by
    obtain ⟨a, b, _, h8, _⟩ := hP.2
    have h9 := congrArg List.length h8
    simp only [List.length_append, List.length_cons] at h9
    omega
  have h3 : Sep w0 (Is (.slice (some ⟨gu, 0, none⟩) q cu) r :: WhosT (setsS n S) R :: _) _ := h2.sw2
  have h4 := (h3.whosSet k hq).pickL (M := [WhosT ((setsS n S).set k r) (R.set k (.slice (some ⟨gu, 0, none⟩) q cu)), RRows (.slice (some ⟨b, 0, none⟩) S.length c) S (R.set k (.slice (some ⟨gu, 0, none⟩) q cu)), Cl bl #[.int .i64 x.1.1, .int .i64 x.1.2.1, .int .i64 x.1.2.2.1, .int .i64 x.1.2.2.2.1, .int .i64 x.1.2.2.2.2, .slice (some ⟨gu, 0, none⟩) q cu] 69, Cl bx (cellsB x) 34, RTalC g n (.slice (some ⟨b, 0, none⟩) S.length c)]) [4, 1, 0] rfl
  have e1 : (addS S x who).length = S.length := by rw [ha]; simp
  have e2 : keysS (addS S x who) = keysS S := by
    rw [ha]
    unfold keysS
    rw [List.map_set]
    exact set_same (by rw [List.getElem?_map, List.getElem?_eq_getElem hk]; simp [hx])
  have e3 : setsS n (addS S x who) = (setsS n S).set k r := by
    rw [ha, hr]
    unfold setsS
    rw [List.map_set]
  unfold RRows
  rw [e1, e2, e3]
  exact h4
theorem put_any2 (b m c : Nat) (l : List Int) (n : Int) (w : World) (hc : ∀ j (hj : j < l.length), w.cell? ⟨b, j, none⟩ = some (.int .i64 l[j])) (hb : b < w.heap.size) (hl : l.length = m) (hmc : m ≤ c) (hcm : c ≤ maxLen) (hm : m ≤ 1000) :
    Calls Try.prog 32 #[.slice (some ⟨b, 0, none⟩) m c, .int .i64 n] w fun e w' => ∃ gu q cu r, e = .returned (.slice (some ⟨gu, 0, none⟩) q cu) ∧ q = r.length ∧ PutOk l n r ∧ Sep w [Is (.slice (some ⟨gu, 0, none⟩) q cu) r] w' := by
  refine (put_any b m c l n w hc hb hl hmc hcm hm).mono ?_
  rintro e w' ⟨v, r, rfl, hr, h⟩
  rcases h.rw_.2 with ⟨_, h0⟩ | ⟨g, cap, cur, rfl, _⟩
  · obtain ⟨k, k', _, rfl, _⟩ := hr
    rw [iv_length] at h0
    simp at h0
  · rw [iv_length] at h ⊢
    exact ⟨g, _, cap, r, rfl, rfl, hr, h⟩
theorem infoOne : (Try.prog.info? 69).map (fun i => (i.size, decide (i.bytes ≤ 256), i.zero.map (fun z => z.cells.size))) = some (6, true, some 6) := by kernel_rfl
theorem whoOf_one {n who : Nat} (hw : who < n) : whoOf (0 ||| 2 ^ who) n = [(who : Int)] := by
  have h : PutOk (whoOf 0 n) who [(who : Int)] := by
    rw [whoOf_none]
    exact ⟨0, 0, Nat.le_refl _, rfl, (fun x hx => by simp at hx), .inl ⟨rfl, fun h => by simp at h⟩⟩
  exact (putOk_who hw h).symm
/-- A ballot that is new: what append and the store make. -/
theorem add_new {w0 w : World} {g n bi bo bx : Nat} {v : Value} {x : Bal} {S : List (Bal × Nat)} {R : List Value} {L : List Thing} {who : Nat} (ty : TypeId) (hR : R.length = S.length) (hno : ∀ p ∈ S, p.1 ≠ x) (hl : S.length ≤ 1000) (hw : who < n) (hn : n ≤ 15)
    (h : Sep w0 (Cl bo (oneCells x (.slice (some ⟨bi, 0, none⟩) 1 1)) 69 :: Cl bi #[.int .i64 who] 3 :: Cl bx (cellsB x) 34 :: RTalC g n v :: RRows v S R :: WhosT (setsS n S) R :: L) w) :
    popc ((mget S x).getD 0 ||| 2 ^ who) = 1 ∧ ∃ a c w', (Builtin.append_ #[45, 45] ty #[v, .slice (some ⟨bo, 0, none⟩) 1 1]).run Try.prog w = .ok (.slice a (S.length + 1) c) w' ∧ w'.frozen? ⟨g, 1, none⟩ = false ∧ w'.cell? ⟨g, 1, none⟩ = some v ∧
      ∃ R', Sep w0 (RTalC g n (.slice a (S.length + 1) c) :: RRows (.slice a (S.length + 1) c) (addS S x who) R' :: WhosT (setsS n (addS S x who)) R' :: L) (w'.setCell ⟨g, 1, none⟩ (.slice a (S.length + 1) c)) := by
  have hp : popc ((mget S x).getD 0 ||| 2 ^ who) = 1 := by
    rw [mget_none hno]
    have h1 := whoOf_pop (fit_or (fit_zero n) hw) hn
    rw [whoOf_one hw] at h1
    exact h1.symm
  refine ⟨hp, ?_⟩
  obtain ⟨i, hi, he⟩ := Option.map_eq_some_iff.1 infoOne
  simp only [Prod.mk.injEq, decide_eq_true_eq] at he
  obtain ⟨z, hz, hz2⟩ := Option.map_eq_some_iff.1 he.2.2
  have h0 := h.sw5
  obtain ⟨⟨a0, a1, a2, a3, a4, a5⟩, -⟩ := one_facts h
  have hnews : ∀ j u, [Value.int .i64 x.1.1, .int .i64 x.1.2.1, .int .i64 x.1.2.2.1, .int .i64 x.1.2.2.2.1, .int .i64 x.1.2.2.2.2, .slice (some ⟨bi, 0, none⟩) 1 1][j]? = some u → w.cell? ⟨bo, 0 + j, none⟩ = some u := by
    intro j u hj
    rw [Nat.zero_add]
    match j, hj with
    | 0, hj => simp at hj; rw [← hj]; exact a0
    | 1, hj => simp at hj; rw [← hj]; exact a1
    | 2, hj => simp at hj; rw [← hj]; exact a2
    | 3, hj => simp at hj; rw [← hj]; exact a3
    | 4, hj => simp at hj; rw [← hj]; exact a4
    | 5, hj => simp at hj; rw [← hj]; exact a5
    | j + 6, hj => simp at hj
  obtain ⟨v', w', hr, h1⟩ := append_rn (P := Try.prog) (ty := ty) Try.underlying45 hi hz he.1 he.2.1 hz2 (by decide) h0 (m := 1) (c := 1) rfl hnews (fun u hu => by
    simp only [List.mem_cons, List.not_mem_nil, or_false] at hu
    rcases hu with rfl | rfl | rfl | rfl | rfl | rfl <;> rfl) (by omega)
  obtain ⟨a, c, rfl, _⟩ := h1.rnForm
  have h2 := h1.sw5
  refine ⟨a, c, w', hr, h2.frozen 1, h2.cell (o := 1) (x := v) rfl, R ++ [.slice (some ⟨bi, 0, none⟩) 1 1], ?_⟩
  have h3 := (h2.setCell 1 (.slice a (S.length + 1) c)).sw4
  have h4 : Sep w0 (Is (.slice (some ⟨bi, 0, none⟩) 1 1) [(who : Int)] :: _) _ := h3.asRow 1 rfl (by unfold maxLen; omega)
  have h5 := h4.sw6.sw2
  have h6 := h5.whosApp (by simp)
  have h7 := h6.pickL (M := [WhosT (setsS n S ++ [[(who : Int)]]) (R ++ [.slice (some ⟨bi, 0, none⟩) 1 1]), RTalC g n (.slice a (S.length + 1) c), Rn 6 69 (.slice a (S.length + 1) c) (S.length + 1) (rowsC (keysS S) R ++ [.int .i64 x.1.1, .int .i64 x.1.2.1, .int .i64 x.1.2.2.1, .int .i64 x.1.2.2.2.1, .int .i64 x.1.2.2.2.2, .slice (some ⟨bi, 0, none⟩) 1 1]), Cl bo (oneCells x (.slice (some ⟨bi, 0, none⟩) 1 1)) 69, Cl bx (cellsB x) 34]) [1, 2, 0] rfl
  have ha := addS_new (who := who) hno
  have e1 : (addS S x who).length = S.length + 1 := by rw [ha]; simp
  have e2 : keysS (addS S x who) = keysS S ++ [x] := by rw [ha]; simp [keysS]
  have e3 : setsS n (addS S x who) = setsS n S ++ [[(who : Int)]] := by rw [ha]; simp only [setsS, List.map_append, List.map_cons, List.map_nil, whoOf_one hw]
  unfold RRows
  rw [e1, e2, e3, rowsC_app _ _ _ _ (by simpa using hR)]
  exact h7
set_option maxRecDepth 100000 in
set_option maxHeartbeats 2000000 in
theorem radd_any {w0 w : World} {g n : Nat} {v : Value} {S : List (Bal × Nat)} {R : List Value} {L : List Thing} (x : Bal) (who : Nat) (h : Sep w0 (RTalC g n v :: RRows v S R :: WhosT (setsS n S) R :: L) w) (hw : who < n) (hn : n ≤ 15) (hS : (S.map (·.1)).Nodup) (hl : S.length ≤ 1000) (hF : ∀ p ∈ S, Fit n p.2) :
    Calls Try.prog 13 #[.pointer (some ⟨g, 0, none⟩), balV x, .int .i64 who] w fun e w' => ∃ v' R', e = .returned (.tuple #[.int .i64 (popc ((mget S x).getD 0 ||| 2 ^ who) : Nat), .int .i64 0]) ∧ Sep w0 (RTalC g n v' :: RRows v' (addS S x who) R' :: WhosT (setsS n (addS S x who)) R' :: L) w' := by
  have h1 : Sep w0 (Cl w.heap.size (cellsB x) 34 :: RTalC g n v :: RRows v S R :: WhosT (setsS n S) R :: L) (w.alloc (.cells #[.int .i64 x.1.1, .int .i64 x.1.2.1, .int .i64 x.1.2.2.1, .int .i64 x.1.2.2.2.1, .int .i64 x.1.2.2.2.2] 34)) := h.alloc (.cells (cellsB x) 34)
  obtain ⟨y0, y1, y2, y3, y4⟩ := bal_cells h1
  have z0 := h1.sw2.cell (o := 0) (x := .int .i64 n) rfl
  have z1 := h1.sw2.cell (o := 1) (x := v) rfl
  obtain ⟨av, cv, rfl, ha1, ha2, _, _⟩ := h1.sw3.rnForm
  have hR : R.length = S.length := by have := h1.sw4.whos.1; simpa using this
  have H1 := Lib.hid h1
  have HS := Lib.hid hS
  have HR := Lib.hid hR
  have HFI := Lib.hid hF
  have HA := Lib.hid (And.intro ha1 ha2)
  clear h h1 hS hR hF ha1 ha2
  have w0' : (0 : Int) ≤ (who : Int) := by omega
  have w1' : (who : Int) < (n : Int) := by omega
  have w2' : decide (n ≤ who) = false := decide_eq_false (by omega)
  have w3' : decide (who < n) = true := decide_eq_true (by omega)
  unfold balV
  go_enter Try.func13, Try.ntmps13
  go_wp2_with fail
  generalize w.alloc (.cells #[.int .i64 x.1.1, .int .i64 x.1.2.1, .int .i64 x.1.2.2.1, .int .i64 x.1.2.2.2.1, .int .i64 x.1.2.2.2.2] 34) = wa at *
  generalize w.heap.size = bx at *
  go_loopw [8] (fun i wr => ∃ k m : Nat, k ≤ S.length ∧ i = .int .i64 k ∧ (∀ p ∈ S.take k, p.1 ≠ x) ∧ wr = wa.drewN m) (fun i _ => S.length - (intOf i).toNat)
  case atStart => exact ⟨0, 0, by omega, rfl, (fun p hp => by simp at hp), rfl⟩
  case round =>
    obtain ⟨k, m, hk, rfl, ht, rfl⟩ := hrel
    have k0 : (0 : Int) ≤ (k : Int) := by omega
    have k1 : (k : Int) ≤ 1000 := by omega
    have HT := Lib.hid ht
    clear ht
    by_cases hkn : k < S.length
    · have hd : decide (k < S.length) = true := decide_eq_true hkn
      have k2 : (k : Int) < (S.length : Int) := by omega
      obtain ⟨b, c, hv, r1, r2, c0, c1, c2, c3, c4, c5⟩ := H1.out.sw3.rrowAt HR.out k hkn
      simp only [Value.slice.injEq] at hv
      obtain ⟨rfl, -, rfl⟩ := hv
      by_cases hx : S[k].1 = x
      · rw [hx] at c0 c1 c2 c3 c4
        go_wp2_with fail
        go_quiet (fail)
        have HQ := Lib.hid ((H1.out.drewN m).drewN nq)
        generalize (wa.drewN m).drewN nq = wq at *
        clear c0 c1 c2 c3 c4 c5 y0 y1 y2 y3 y4 z0 z1 H1 HT
        obtain ⟨b2, cc, e1, e2, e3, e4, e5⟩ := HQ.out.drew.sw4.whos.2 k (by rw [HR.out]; exact hkn) (by simpa using hkn)
        simp only [setsS, List.getElem_map] at e1 e2 e5
        have HP : Hid (∀ (M : List Thing) (wx : World), Sep w0 (Cl bx (cellsB x) 34 :: RTalC g n (.slice (some ⟨b, 0, none⟩) S.length cv) :: RRows (.slice (some ⟨b, 0, none⟩) S.length cv) S R :: WhosT (setsS n S) R :: M) wx →
            Calls Try.prog 32 #[.slice (some ⟨b2, 0, none⟩) (whoOf S[k].2 n).length cc, .int .i64 who] wx fun e w' => ∃ gu q cu r, e = .returned (.slice (some ⟨gu, 0, none⟩) q cu) ∧ (q = r.length ∧ PutOk (whoOf S[k].2 n) who r) ∧
              Sep w0 (Cl bx (cellsB x) 34 :: RTalC g n (.slice (some ⟨b, 0, none⟩) S.length cv) :: RRows (.slice (some ⟨b, 0, none⟩) S.length cv) S R :: WhosT (setsS n S) R :: Is (.slice (some ⟨gu, 0, none⟩) q cu) r :: M) w') := Lib.hid (by
          intro M wx hx
          obtain ⟨b3, c3, f1, f2, f3, f4, f5⟩ := hx.sw4.whos.2 k (by rw [HR.out]; exact hkn) (by simpa using hkn)
          rw [e1] at f1
          simp only [Value.slice.injEq, Option.some.injEq, Addr.mk.injEq, and_true, setsS, List.getElem_map] at f1 f2 f5
          obtain ⟨rfl, -, rfl⟩ := f1
          refine (put_any2 b2 _ cc (whoOf S[k].2 n) who wx (fun j hj => by have := f5 j (by simpa using hj); simpa using this) f4 rfl f2 f3 (by have := whoOf_len S[k].2 n; omega)).mono ?_
          rintro e w' ⟨gu, q, cu, r, rfl, h1, h2, h3⟩
          exact ⟨gu, q, cu, r, rfl, ⟨h1, h2⟩, (hx.onto h3).to5⟩)
        have HV : Hid (R[k]'(by rw [HR.out]; exact hkn) = _) := Lib.hid e1
        generalize hlen : (whoOf S[k].2 n).length = len at HP HV
        obtain ⟨y0, y1, y2, y3, y4, z1, c5⟩ := add_cells HQ.out HR.out hkn HV.out
        clear e1 e2 e3 e4 e5
        go_wp2_with fail
        go_region_held3 (fun w' => w'.cell? ⟨bx, 0, none⟩ = some (.int .i64 x.1.1) ∧ w'.cell? ⟨bx, 1, none⟩ = some (.int .i64 x.1.2.1) ∧ w'.cell? ⟨bx, 2, none⟩ = some (.int .i64 x.1.2.2.1) ∧ w'.cell? ⟨bx, 3, none⟩ = some (.int .i64 x.1.2.2.2.1) ∧ w'.cell? ⟨bx, 4, none⟩ = some (.int .i64 x.1.2.2.2.2) ∧ w'.cell? ⟨g, 1, none⟩ = some (.slice (some ⟨b, 0, none⟩) S.length cv) ∧ w'.cell? ⟨b, k * 6 + 5, none⟩ = some (.slice (some ⟨b2, 0, none⟩) len cc)) (first | with_reducible exact add_cells H9.out HR.out hkn HV.out | with_reducible exact add_cells (H9.out.alloc0 _) HR.out hkn HV.out | with_reducible exact add_cells (one_store H9.out.sw6).to6 HR.out hkn HV.out | with_reducible exact add_cells (one_store (H9.out.alloc _)).drop HR.out hkn HV.out | go_keep) (first
          | (go_at_call 32; refine Calls.mono (HP.out _ _ (by exact HQ.out.drew)) ?_; rintro r9 w9 ⟨gu, q, cu, r, rfl, hqr, h9⟩; have HPO := Lib.hid hqr; have H9 := Lib.hid h9; obtain ⟨y0, y1, y2, y3, y4, z1, c5⟩ := add_cells h9 HR.out hkn HV.out; clear h9 HP hqr)
          | (go_at_call 32; refine Calls.mono (HP.out _ _ (by exact (HQ.out.alloc (.cells #[.int .i64 0, .int .i64 0, .int .i64 0, .int .i64 0, .int .i64 0, .slice none 0 0] 69)).to5.drew)) ?_; rintro r9 w9 ⟨gu, q, cu, r, rfl, hqr, h9⟩; have HPO := Lib.hid hqr; have H9 := Lib.hid h9; obtain ⟨y0, y1, y2, y3, y4, z1, c5⟩ := add_cells h9 HR.out hkn HV.out; have T9 := one_facts' h9.sw6; obtain ⟨⟨a0, a1, a2, a3, a4, a5⟩, f0, f1, f2, f3, f4, f5⟩ := T9; clear h9 HP hqr))
        all_goals
          first
            | (have HZ := Lib.hid (one_store (u0 := .int .i64 x.1.1) (u1 := .int .i64 x.1.2.1) (u2 := .int .i64 x.1.2.2.1) (u3 := .int .i64 x.1.2.2.2.1) (u4 := .int .i64 x.1.2.2.2.2) (u5 := .slice (some ⟨gu, 0, none⟩) q cu) H9.out.sw6)
               generalize (((((w9.setCell ⟨wq.heap.size, 0, none⟩ (.int .i64 x.1.1)).setCell ⟨wq.heap.size, 1, none⟩ (.int .i64 x.1.2.1)).setCell ⟨wq.heap.size, 2, none⟩ (.int .i64 x.1.2.2.1)).setCell ⟨wq.heap.size, 3, none⟩ (.int .i64 x.1.2.2.2.1)).setCell ⟨wq.heap.size, 4, none⟩ (.int .i64 x.1.2.2.2.2)).setCell ⟨wq.heap.size, 5, none⟩ (.slice (some ⟨gu, 0, none⟩) q cu) = wz at *
               generalize wq.heap.size = bl at *)
            | (have HZ := Lib.hid (H9.out.alloc (.cells #[.int .i64 x.1.1, .int .i64 x.1.2.1, .int .i64 x.1.2.2.1, .int .i64 x.1.2.2.2.1, .int .i64 x.1.2.2.2.2, .slice (some ⟨gu, 0, none⟩) q cu] 69))
               generalize w9.alloc (.cells #[.int .i64 x.1.1, .int .i64 x.1.2.1, .int .i64 x.1.2.2.1, .int .i64 x.1.2.2.2.1, .int .i64 x.1.2.2.2.2, .slice (some ⟨gu, 0, none⟩) q cu] 69) = wz at *
               generalize w9.heap.size = bl at *)
        all_goals
          obtain ⟨hpop, R', HD⟩ := add_done HR.out hkn hx HS.out HFI.out hw hn HPO.out HZ.out
          have HD' := Lib.hid HD
          have HPOP := Lib.hid hpop
          obtain ⟨⟨a0, a1, a2, a3, a4, a5⟩, -⟩ := one_facts' HZ.out
          have z9 := HZ.out.sw3.cell (o := 1) (x := .slice (some ⟨b, 0, none⟩) S.length cv) rfl
          obtain ⟨bb, cb, hvb, _, _, d0, d1, d2, d3, d4, d5⟩ := HZ.out.sw4.rrowAt HR.out k hkn
          simp only [Value.slice.injEq, Option.some.injEq, Addr.mk.injEq, and_true] at hvb
          obtain ⟨rfl, -⟩ := hvb
          have f0 := HZ.out.sw4.rnFrozen (k * 6)
          have f1 := HZ.out.sw4.rnFrozen (k * 6 + 1)
          have f2 := HZ.out.sw4.rnFrozen (k * 6 + 2)
          have f3 := HZ.out.sw4.rnFrozen (k * 6 + 3)
          have f4 := HZ.out.sw4.rnFrozen (k * 6 + 4)
          have f5 := HZ.out.sw4.rnFrozen (k * 6 + 5)
          have g5 := (row_store (u := .slice (some ⟨gu, 0, none⟩) q cu) HZ.out.sw4 HR.out hkn hx).sw2.cell (o := 5) (x := .slice (some ⟨gu, 0, none⟩) q cu) rfl
          have hbb := blk_ne_rn HZ.out.sw4.sw2
          have hbb2 : (bl == b) = false := beq_eq_false_iff_ne.2 hbb
          clear hpop HD H9 HZ HPO HV HQ
          go_wp2_with fail
          go_still_tail 7, (by kernel_rfl)
          change wpList _ _ _ _ _ wz.drew
          go_wp2_with fail
          go_ret2
          rw [← HPOP.out]
          exact ⟨_, _, rfl, HD'.out.drew⟩
      · have hno : ∀ p ∈ S.take (k + 1), p.1 ≠ x := by
          rw [List.take_succ_eq_append_getElem hkn]
          intro p hp
          rcases List.mem_append.1 hp with h | h
          · exact HT.out p h
          · rw [List.mem_singleton.1 h]; exact hx
        have HN := Lib.hid hno
        generalize S[k].1 = y at *
        clear hno HT hkn c5
        rcases bal_ne hx with h | ⟨h0, h⟩ | ⟨h0, h1, h⟩ | ⟨h0, h1, h2, h⟩ | ⟨h0, h1, h2, h3, h⟩
        all_goals
          try rw [h0] at c0
          try rw [h1] at c1
          try rw [h2] at c2
          try rw [h3] at c3
          have hne := beq_eq_false_iff_ne.2 h
          clear h hx
          try clear h0
          try clear h1
          try clear h2
          try clear h3
          go_wp2_with fail
          go_quiet (fail)
          go_wp2_with fail
          go_roundw
          case rel => exact ⟨k + 1, m + nq, of_decide_eq_true hd, by go_num, HN.out, by simp [World.drewN, Nat.add_assoc]⟩
          case measure => have hkn := of_decide_eq_true hd; simp [intOf]; omega
    · have hd : decide (k < S.length) = false := decide_eq_false hkn
      have hkl : k = S.length := by omega
      have hno : ∀ p ∈ S, p.1 ≠ x := fun p hp => HT.out p (by rw [hkl, List.take_length]; exact hp)
      have ha := (H1.out.drewN (m + 1)).alloc (.cells #[.int .i64 who] 3)
      obtain ⟨y0', y1', y2', y3', y4'⟩ := bal_cells ha.sw2
      have z1' := ha.sw3.cell (o := 1) (x := .slice av S.length cv) rfl
      have hb := ha.alloc (.cells (oneCells x (.slice (some ⟨wa.heap.size, 0, none⟩) 1 1)) 69)
      rw [show ((wa.drewN (m + 1)).alloc (.cells #[.int .i64 who] 3)).heap.size = wa.heap.size + 1 by simp [World.drewN]] at hb
      obtain ⟨hpop, a, c, w2, hr2, f1, f2, R', h9⟩ := add_new 45 HR.out hno (by omega) hw hn hb
      have z1'' := hb.sw4.cell (o := 1) (x := .slice av S.length cv) rfl
      unfold oneCells at hr2 z1''
      have Hr := Lib.hid hr2
      have H9 := Lib.hid h9
      have HPOP := Lib.hid hpop
      clear hr2 h9 hpop ha hb hno hkl HT hkn H1 HS HR HFI
      go_wp2_with fail
      go_region_law (first | (refine step_append_run (by rfl) (.tmp 65) (.tmp 70) 45 45 (by rfl) _ _ (by rfl) (by rfl) Hr.out ?_))
      all_goals
        clear Hr f1 f2
        go_wp2_with fail
        go_ret2
        rw [HPOP.out]
        exact ⟨_, _, rfl, H9.out⟩
end Go.Proofs.Ytidbniigfkocpaa
