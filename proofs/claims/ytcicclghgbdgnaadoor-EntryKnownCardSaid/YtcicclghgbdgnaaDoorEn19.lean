/- What EntryKnown stands on. -/
import Derived.Test.YtcicclghgbdgnaaDoorEn8
import Derived.Test.YtcicclghgbdgnaaDoorEnOpen
import Derived.Test.YtcicclghgbdgnaaDoorEn18
import Derived.Test.YtcicclghgbdgnaaDoorBkF
namespace Go.Proofs.YtcicclghgbdgnaaDoor
open Go.RowKit
set_option linter.unusedVariables false
set_option linter.unusedSimpArgs false
def nilV : Value := .slice none 0 0
def shipM : OpM := ⟨6, sZ, 5, 0, []⟩
def lM (z : Int) : List (EnM × Value) := [(⟨z, 1, shipM⟩, nilV), (⟨0, z, shipM⟩, nilV), (⟨0, 1, ⟨z, sZ, 1, 0, []⟩⟩, nilV), (⟨0, 1, ⟨5, sZ, z, 0, []⟩⟩, nilV)]
def l2M : List (EnM × Value) := [(⟨0, 1, shipM⟩, nilV), (⟨7, 9, shipM⟩, nilV)]
theorem lnK (w : World) : LnS w nilV [] := .inl ⟨none, 0, rfl, fun _ => rfl, rfl⟩
theorem Sep.clEn {w0 w : World} {b n : Nat} {ps : List (EnM × Value)} {L : List Thing} (h : Sep w0 (Cl b (enCs ps).toArray 26 :: L) w) (hl : ∀ i (hi : i < ps.length), LnS w ps[i].2 ps[i].1.p.ls) (hn : ps.length = n) (h1 : n ≤ 1000) : EnS w (.slice (some ⟨b, 0, none⟩) n n) ps := by
  subst hn
  refine .inr ⟨b, 0, ps.length, rfl, Nat.le_refl _, by unfold maxLen; omega, h.blk_lt.2, fun i hi => ⟨?_, hl i hi⟩⟩
  have k : ∀ j u, j < 7 → (enC ps[i].1 ps[i].2).toList[j]? = some u → w.cell? ⟨b, 0 + i * 7 + j, none⟩ = some u := fun j u hj hu => by
    rw [Nat.zero_add]
    refine h.cell ?_
    rw [List.getElem?_toArray, enCs_at ps i hi j hj]
    exact hu
  exact ⟨k 0 _ (by omega) rfl, k 1 _ (by omega) rfl, k 2 _ (by omega) rfl, k 3 _ (by omega) rfl, k 4 _ (by omega) rfl, k 5 _ (by omega) rfl, k 6 _ (by omega) rfl⟩
theorem ens_drop {w : World} {b off n c : Nat} {ps : List (EnM × Value)} (h : EnS w (.slice (some ⟨b, off, none⟩) n c) ps) (k : Nat) (hk : k < n) : EnS w (.slice (some ⟨b, off + k * 7, none⟩) (n - k) (c - k)) (ps.drop k) := by
  rcases h with ⟨a, c', h1, rfl⟩ | ⟨b', off', c', h1, h2, h3, h4, h5⟩
  · simp only [Value.slice.injEq] at h1; omega
  · simp only [Value.slice.injEq, Option.some.injEq, Addr.mk.injEq, and_true] at h1
    obtain ⟨⟨rfl, rfl⟩, rfl, rfl⟩ := h1
    refine .inr ⟨b, off + k * 7, c - k, by rw [List.length_drop], by rw [List.length_drop]; omega, by omega, h4, fun i hi => ?_⟩
    rw [List.length_drop] at hi
    have := h5 (k + i) (by omega)
    rw [List.getElem_drop, show off + k * 7 + i * 7 = off + (k + i) * 7 by omega]
    exact this
theorem ens_first {w : World} {b off n c : Nat} {ps : List (EnM × Value)} (h : EnS w (.slice (some ⟨b, off, none⟩) n c) ps) (k : Nat) (hk : k ≤ n) (h0 : 0 < k) : EnS w (.slice (some ⟨b, off, none⟩) k c) (ps.take k) := by
  rcases ens_take h k hk with h1 | h1
  · exact h1.1
  · omega
theorem rows04_s {w0 w : World} {L : List Thing} (v v' : Value) (xs ys : List (EnM × Value)) (h0 : Sep w0 L w) (hx : EnS w v xs) (hy : EnS w v' ys) (hk : KindsAt w) :
    Calls Tryd.prog 4 #[v, v'] w fun e w' => e = .returned (.bool true) ∧ Sep w0 L w' := by
  obtain ⟨a, n, c, m, zs, rfl, x1, x2, x3, x4, x5⟩ := ens_cut hx
  obtain ⟨a', n', c', m', zs', rfl, y1, y2, y3, y4, y5⟩ := ens_cut hy
  exact (rows04 a a' n n' c c' m m' zs zs' w x1 y1 x2 y2 x3 y3 x4 y4 x5 y5 hk).mono fun e w' ⟨h1, h2⟩ => ⟨h1, h0.below h2⟩
theorem writes04_s {w0 w : World} {L : List Thing} (x y : EnM) (u u' : Value) (h0 : Sep w0 L w) (hu : LnS w u x.p.ls) (hu' : LnS w u' y.p.ls) (hk : KindsAt w) :
    Calls Tryd.prog 3 #[enV x u, enV y u'] w fun e w' => e = .returned (.bool true) ∧ Sep w0 L w' :=
  (writes04_in x.c x.m x.p.k x.p.s x.p.o x.p.n u x.p.ls y.c y.m y.p.k y.p.s y.p.o y.p.n u' y.p.ls w hu hu' hk).mono fun e w' ⟨h1, h2⟩ => ⟨h1, h0.below h2⟩
theorem lM_ens {w0 w : World} {b : Nat} {z : Int} {L : List Thing} (h : Sep w0 (Cl b (enCs (lM z)).toArray 26 :: L) w) : EnS w (.slice (some ⟨b, 0, none⟩) 4 4) (lM z) :=
  h.clEn (fun i hi => by
    have h4 : i < 4 := hi
    rcases (show i = 0 ∨ i = 1 ∨ i = 2 ∨ i = 3 by omega) with rfl | rfl | rfl | rfl <;> exact lnK w) rfl (by omega)
theorem getI (l : List Int) (a : Array Value) (h : a.toList = l.map (Value.int .i64)) (i : Nat) (hi : i < l.length) : ∃ z : Int, a[i]? = some (.int .i64 z) := by
  refine ⟨l[i], ?_⟩
  rw [← Array.getElem?_toList, h, List.getElem?_map, List.getElem?_eq_getElem hi]; rfl
theorem Sep.litSl {w0 w : World} {g n : Nat} {xs : Array Value} {L : List Thing} (l : List UInt8) (h : Sep w0 (Cl g xs 5 :: L) w) (hx : xs.toList = bv l) (hn : l.length = n) (h1 : n ≤ 1000) : Sl w (.slice (some ⟨g, 0, none⟩) n n) (bv l) := by
  subst hn
  have hs : xs.size = l.length := by rw [← Array.length_toList, hx, bv_length]
  have h2 := h.asRow l.length hs (by unfold maxLen; omega)
  rw [hx] at h2
  have h3 : Sep w0 (By (.slice (some ⟨g, 0, none⟩) l.length l.length) l :: L) w := h2
  exact h3.sl
theorem opwp_append_run {P : Program} {o : Oper} {a : Act} {w : World} {K : Act → World → Prop} {Q : Exit → Act → World → Prop}
    (d x : Operand) (dT sT : TypeId) (hop : o.op = Op.call { callee := Callee.builtin Builtin.append, args := #[d, x], argTypes := #[dT, sT] })
    (v u : Value) (hd : a.eval d = v) (hx : a.eval x = u) {v' : Value} {w' : World} (hr : (Builtin.append_ #[dT, sT] o.type #[v, u]).run P w = .ok v' w') (hK : K (a.put o.dst v') w') : Oper.wp P o a w K Q := by
  unfold Oper.wp
  simp [execOp, hop, resolve, invoke, builtin, hd, hx, hr, Result.andThen]
  exact hK
def oneBs : List UInt8 := [2, 4, 0, 1, 6, 5, 4, 7, 9, 6, 5]
theorem oneBs_is : rowBs (l2M.map (·.1)) = oneBs := by kernel_rfl
theorem oneOk_is : rowOk l2M = true := by kernel_rfl
theorem buildE4 (w : World) (c0_0 c0_1 c0_2 c0_3 c0_4 c0_5 c0_6 c1_0 c1_1 c1_2 c1_3 c1_4 c1_5 c1_6 c2_0 c2_1 c2_2 c2_3 c2_4 c2_5 c2_6 c3_0 c3_1 c3_2 c3_3 c3_4 c3_5 c3_6 : Value) :
    (Instr.buildSlice 38 4 #[(0, .agg #[c0_0, c0_1, c0_2, c0_3, c0_4, c0_5, c0_6]), (1, .agg #[c1_0, c1_1, c1_2, c1_3, c1_4, c1_5, c1_6]), (2, .agg #[c2_0, c2_1, c2_2, c2_3, c2_4, c2_5, c2_6]), (3, .agg #[c3_0, c3_1, c3_2, c3_3, c3_4, c3_5, c3_6])]).run Tryd.prog w = .ok (.slice (some ⟨w.heap.size, 0, none⟩) 4 4) (w.alloc (.cells #[c0_0, c0_1, c0_2, c0_3, c0_4, c0_5, c0_6, c1_0, c1_1, c1_2, c1_3, c1_4, c1_5, c1_6, c2_0, c2_1, c2_2, c2_3, c2_4, c2_5, c2_6, c3_0, c3_1, c3_2, c3_3, c3_4, c3_5, c3_6] 26)) := by
  simp [go_sem]
theorem wpList_buildE4 {w : World} {ops : Array Oper} {rest : List Oper} {o : Oper} {a : Act} {Q : Exit → Act → World → Prop} (hgd : o.guard = none) (x0 x1 x2 x3 : Operand)
    (ho : o.op = .buildSlice 38 4 #[(0, x0), (1, x1), (2, x2), (3, x3)]) {c0_0 c0_1 c0_2 c0_3 c0_4 c0_5 c0_6 c1_0 c1_1 c1_2 c1_3 c1_4 c1_5 c1_6 c2_0 c2_1 c2_2 c2_3 c2_4 c2_5 c2_6 c3_0 c3_1 c3_2 c3_3 c3_4 c3_5 c3_6 : Value} (h0 : a.eval x0 = .agg #[c0_0, c0_1, c0_2, c0_3, c0_4, c0_5, c0_6]) (h1 : a.eval x1 = .agg #[c1_0, c1_1, c1_2, c1_3, c1_4, c1_5, c1_6]) (h2 : a.eval x2 = .agg #[c2_0, c2_1, c2_2, c2_3, c2_4, c2_5, c2_6]) (h3 : a.eval x3 = .agg #[c3_0, c3_1, c3_2, c3_3, c3_4, c3_5, c3_6]) {l : Array Value} (hl : #[c0_0, c0_1, c0_2, c0_3, c0_4, c0_5, c0_6, c1_0, c1_1, c1_2, c1_3, c1_4, c1_5, c1_6, c2_0, c2_1, c2_2, c2_3, c2_4, c2_5, c2_6, c3_0, c3_1, c3_2, c3_3, c3_4, c3_5, c3_6] = l)
    (h : wpList Tryd.prog ops Q rest (a.put o.dst (.slice (some ⟨w.heap.size, 0, none⟩) 4 4)) (w.alloc (.cells l 26))) : wpList Tryd.prog ops Q (o :: rest) a w := by
  subst hl
  refine wpList_plain hgd fun K hK => ?_
  unfold Oper.wp
  simp [execOp, ho, h0, h1, h2, h3, buildE4, Result.andThen]
  exact hK _ _ h
theorem opwp_buildE4 {w : World} {o : Oper} {a : Act} {K : Act → World → Prop} {Q : Exit → Act → World → Prop} (x0 x1 x2 x3 : Operand)
    (ho : o.op = .buildSlice 38 4 #[(0, x0), (1, x1), (2, x2), (3, x3)]) {c0_0 c0_1 c0_2 c0_3 c0_4 c0_5 c0_6 c1_0 c1_1 c1_2 c1_3 c1_4 c1_5 c1_6 c2_0 c2_1 c2_2 c2_3 c2_4 c2_5 c2_6 c3_0 c3_1 c3_2 c3_3 c3_4 c3_5 c3_6 : Value} (h0 : a.eval x0 = .agg #[c0_0, c0_1, c0_2, c0_3, c0_4, c0_5, c0_6]) (h1 : a.eval x1 = .agg #[c1_0, c1_1, c1_2, c1_3, c1_4, c1_5, c1_6]) (h2 : a.eval x2 = .agg #[c2_0, c2_1, c2_2, c2_3, c2_4, c2_5, c2_6]) (h3 : a.eval x3 = .agg #[c3_0, c3_1, c3_2, c3_3, c3_4, c3_5, c3_6]) {l : Array Value} (hl : #[c0_0, c0_1, c0_2, c0_3, c0_4, c0_5, c0_6, c1_0, c1_1, c1_2, c1_3, c1_4, c1_5, c1_6, c2_0, c2_1, c2_2, c2_3, c2_4, c2_5, c2_6, c3_0, c3_1, c3_2, c3_3, c3_4, c3_5, c3_6] = l)
    (h : K (a.put o.dst (.slice (some ⟨w.heap.size, 0, none⟩) 4 4)) (w.alloc (.cells l 26))) : Oper.wp Tryd.prog o a w K Q := by
  subst hl
  unfold Oper.wp
  simp [execOp, ho, h0, h1, h2, h3, buildE4, Result.andThen]
  exact h
theorem buildE2 (w : World) (c0_0 c0_1 c0_2 c0_3 c0_4 c0_5 c0_6 c1_0 c1_1 c1_2 c1_3 c1_4 c1_5 c1_6 : Value) :
    (Instr.buildSlice 38 2 #[(0, .agg #[c0_0, c0_1, c0_2, c0_3, c0_4, c0_5, c0_6]), (1, .agg #[c1_0, c1_1, c1_2, c1_3, c1_4, c1_5, c1_6])]).run Tryd.prog w = .ok (.slice (some ⟨w.heap.size, 0, none⟩) 2 2) (w.alloc (.cells #[c0_0, c0_1, c0_2, c0_3, c0_4, c0_5, c0_6, c1_0, c1_1, c1_2, c1_3, c1_4, c1_5, c1_6] 26)) := by
  simp [go_sem]
theorem wpList_buildE2 {w : World} {ops : Array Oper} {rest : List Oper} {o : Oper} {a : Act} {Q : Exit → Act → World → Prop} (hgd : o.guard = none) (x0 x1 : Operand)
    (ho : o.op = .buildSlice 38 2 #[(0, x0), (1, x1)]) {c0_0 c0_1 c0_2 c0_3 c0_4 c0_5 c0_6 c1_0 c1_1 c1_2 c1_3 c1_4 c1_5 c1_6 : Value} (h0 : a.eval x0 = .agg #[c0_0, c0_1, c0_2, c0_3, c0_4, c0_5, c0_6]) (h1 : a.eval x1 = .agg #[c1_0, c1_1, c1_2, c1_3, c1_4, c1_5, c1_6]) {l : Array Value} (hl : #[c0_0, c0_1, c0_2, c0_3, c0_4, c0_5, c0_6, c1_0, c1_1, c1_2, c1_3, c1_4, c1_5, c1_6] = l)
    (h : wpList Tryd.prog ops Q rest (a.put o.dst (.slice (some ⟨w.heap.size, 0, none⟩) 2 2)) (w.alloc (.cells l 26))) : wpList Tryd.prog ops Q (o :: rest) a w := by
  subst hl
  refine wpList_plain hgd fun K hK => ?_
  unfold Oper.wp
  simp [execOp, ho, h0, h1, buildE2, Result.andThen]
  exact hK _ _ h
theorem opwp_buildE2 {w : World} {o : Oper} {a : Act} {K : Act → World → Prop} {Q : Exit → Act → World → Prop} (x0 x1 : Operand)
    (ho : o.op = .buildSlice 38 2 #[(0, x0), (1, x1)]) {c0_0 c0_1 c0_2 c0_3 c0_4 c0_5 c0_6 c1_0 c1_1 c1_2 c1_3 c1_4 c1_5 c1_6 : Value} (h0 : a.eval x0 = .agg #[c0_0, c0_1, c0_2, c0_3, c0_4, c0_5, c0_6]) (h1 : a.eval x1 = .agg #[c1_0, c1_1, c1_2, c1_3, c1_4, c1_5, c1_6]) {l : Array Value} (hl : #[c0_0, c0_1, c0_2, c0_3, c0_4, c0_5, c0_6, c1_0, c1_1, c1_2, c1_3, c1_4, c1_5, c1_6] = l)
    (h : K (a.put o.dst (.slice (some ⟨w.heap.size, 0, none⟩) 2 2)) (w.alloc (.cells l 26))) : Oper.wp Tryd.prog o a w K Q := by
  subst hl
  unfold Oper.wp
  simp [execOp, ho, h0, h1, buildE2, Result.andThen]
  exact h
theorem build10 (w : World) (c0_0 c1_0 c2_0 c3_0 c4_0 c5_0 c6_0 c7_0 c8_0 c9_0 : Int) :
    (Instr.buildSlice 27 10 #[(0, (.int .u8 c0_0)), (1, (.int .u8 c1_0)), (2, (.int .u8 c2_0)), (3, (.int .u8 c3_0)), (4, (.int .u8 c4_0)), (5, (.int .u8 c5_0)), (6, (.int .u8 c6_0)), (7, (.int .u8 c7_0)), (8, (.int .u8 c8_0)), (9, (.int .u8 c9_0))]).run Tryd.prog w = .ok (.slice (some ⟨w.heap.size, 0, none⟩) 10 10) (w.alloc (.cells #[.int .u8 c0_0, .int .u8 c1_0, .int .u8 c2_0, .int .u8 c3_0, .int .u8 c4_0, .int .u8 c5_0, .int .u8 c6_0, .int .u8 c7_0, .int .u8 c8_0, .int .u8 c9_0] 5)) := by
  simp [go_sem]
theorem wpList_build10 {w : World} {ops : Array Oper} {rest : List Oper} {o : Oper} {a : Act} {Q : Exit → Act → World → Prop} (hgd : o.guard = none) (x0 x1 x2 x3 x4 x5 x6 x7 x8 x9 : Operand)
    (ho : o.op = .buildSlice 27 10 #[(0, x0), (1, x1), (2, x2), (3, x3), (4, x4), (5, x5), (6, x6), (7, x7), (8, x8), (9, x9)]) {c0_0 c1_0 c2_0 c3_0 c4_0 c5_0 c6_0 c7_0 c8_0 c9_0 : Int} (h0 : a.eval x0 = (.int .u8 c0_0)) (h1 : a.eval x1 = (.int .u8 c1_0)) (h2 : a.eval x2 = (.int .u8 c2_0)) (h3 : a.eval x3 = (.int .u8 c3_0)) (h4 : a.eval x4 = (.int .u8 c4_0)) (h5 : a.eval x5 = (.int .u8 c5_0)) (h6 : a.eval x6 = (.int .u8 c6_0)) (h7 : a.eval x7 = (.int .u8 c7_0)) (h8 : a.eval x8 = (.int .u8 c8_0)) (h9 : a.eval x9 = (.int .u8 c9_0)) {l : Array Value} (hl : #[.int .u8 c0_0, .int .u8 c1_0, .int .u8 c2_0, .int .u8 c3_0, .int .u8 c4_0, .int .u8 c5_0, .int .u8 c6_0, .int .u8 c7_0, .int .u8 c8_0, .int .u8 c9_0] = l)
    (h : wpList Tryd.prog ops Q rest (a.put o.dst (.slice (some ⟨w.heap.size, 0, none⟩) 10 10)) (w.alloc (.cells l 5))) : wpList Tryd.prog ops Q (o :: rest) a w := by
  subst hl
  refine wpList_plain hgd fun K hK => ?_
  unfold Oper.wp
  simp [execOp, ho, h0, h1, h2, h3, h4, h5, h6, h7, h8, h9, build10, Result.andThen]
  exact hK _ _ h
theorem opwp_build10 {w : World} {o : Oper} {a : Act} {K : Act → World → Prop} {Q : Exit → Act → World → Prop} (x0 x1 x2 x3 x4 x5 x6 x7 x8 x9 : Operand)
    (ho : o.op = .buildSlice 27 10 #[(0, x0), (1, x1), (2, x2), (3, x3), (4, x4), (5, x5), (6, x6), (7, x7), (8, x8), (9, x9)]) {c0_0 c1_0 c2_0 c3_0 c4_0 c5_0 c6_0 c7_0 c8_0 c9_0 : Int} (h0 : a.eval x0 = (.int .u8 c0_0)) (h1 : a.eval x1 = (.int .u8 c1_0)) (h2 : a.eval x2 = (.int .u8 c2_0)) (h3 : a.eval x3 = (.int .u8 c3_0)) (h4 : a.eval x4 = (.int .u8 c4_0)) (h5 : a.eval x5 = (.int .u8 c5_0)) (h6 : a.eval x6 = (.int .u8 c6_0)) (h7 : a.eval x7 = (.int .u8 c7_0)) (h8 : a.eval x8 = (.int .u8 c8_0)) (h9 : a.eval x9 = (.int .u8 c9_0)) {l : Array Value} (hl : #[.int .u8 c0_0, .int .u8 c1_0, .int .u8 c2_0, .int .u8 c3_0, .int .u8 c4_0, .int .u8 c5_0, .int .u8 c6_0, .int .u8 c7_0, .int .u8 c8_0, .int .u8 c9_0] = l)
    (h : K (a.put o.dst (.slice (some ⟨w.heap.size, 0, none⟩) 10 10)) (w.alloc (.cells l 5))) : Oper.wp Tryd.prog o a w K Q := by
  subst hl
  unfold Oper.wp
  simp [execOp, ho, h0, h1, h2, h3, h4, h5, h6, h7, h8, h9, build10, Result.andThen]
  exact h
theorem build4 (w : World) (c0_0 c1_0 c2_0 c3_0 : Int) :
    (Instr.buildSlice 27 4 #[(0, (.int .u8 c0_0)), (1, (.int .u8 c1_0)), (2, (.int .u8 c2_0)), (3, (.int .u8 c3_0))]).run Tryd.prog w = .ok (.slice (some ⟨w.heap.size, 0, none⟩) 4 4) (w.alloc (.cells #[.int .u8 c0_0, .int .u8 c1_0, .int .u8 c2_0, .int .u8 c3_0] 5)) := by
  simp [go_sem]
theorem wpList_build4 {w : World} {ops : Array Oper} {rest : List Oper} {o : Oper} {a : Act} {Q : Exit → Act → World → Prop} (hgd : o.guard = none) (x0 x1 x2 x3 : Operand)
    (ho : o.op = .buildSlice 27 4 #[(0, x0), (1, x1), (2, x2), (3, x3)]) {c0_0 c1_0 c2_0 c3_0 : Int} (h0 : a.eval x0 = (.int .u8 c0_0)) (h1 : a.eval x1 = (.int .u8 c1_0)) (h2 : a.eval x2 = (.int .u8 c2_0)) (h3 : a.eval x3 = (.int .u8 c3_0)) {l : Array Value} (hl : #[.int .u8 c0_0, .int .u8 c1_0, .int .u8 c2_0, .int .u8 c3_0] = l)
    (h : wpList Tryd.prog ops Q rest (a.put o.dst (.slice (some ⟨w.heap.size, 0, none⟩) 4 4)) (w.alloc (.cells l 5))) : wpList Tryd.prog ops Q (o :: rest) a w := by
  subst hl
  refine wpList_plain hgd fun K hK => ?_
  unfold Oper.wp
  simp [execOp, ho, h0, h1, h2, h3, build4, Result.andThen]
  exact hK _ _ h
theorem opwp_build4 {w : World} {o : Oper} {a : Act} {K : Act → World → Prop} {Q : Exit → Act → World → Prop} (x0 x1 x2 x3 : Operand)
    (ho : o.op = .buildSlice 27 4 #[(0, x0), (1, x1), (2, x2), (3, x3)]) {c0_0 c1_0 c2_0 c3_0 : Int} (h0 : a.eval x0 = (.int .u8 c0_0)) (h1 : a.eval x1 = (.int .u8 c1_0)) (h2 : a.eval x2 = (.int .u8 c2_0)) (h3 : a.eval x3 = (.int .u8 c3_0)) {l : Array Value} (hl : #[.int .u8 c0_0, .int .u8 c1_0, .int .u8 c2_0, .int .u8 c3_0] = l)
    (h : K (a.put o.dst (.slice (some ⟨w.heap.size, 0, none⟩) 4 4)) (w.alloc (.cells l 5))) : Oper.wp Tryd.prog o a w K Q := by
  subst hl
  unfold Oper.wp
  simp [execOp, ho, h0, h1, h2, h3, build4, Result.andThen]
  exact h
theorem build6 (w : World) (c0_0 c1_0 c2_0 c3_0 c4_0 c5_0 : Int) :
    (Instr.buildSlice 27 6 #[(0, (.int .u8 c0_0)), (1, (.int .u8 c1_0)), (2, (.int .u8 c2_0)), (3, (.int .u8 c3_0)), (4, (.int .u8 c4_0)), (5, (.int .u8 c5_0))]).run Tryd.prog w = .ok (.slice (some ⟨w.heap.size, 0, none⟩) 6 6) (w.alloc (.cells #[.int .u8 c0_0, .int .u8 c1_0, .int .u8 c2_0, .int .u8 c3_0, .int .u8 c4_0, .int .u8 c5_0] 5)) := by
  simp [go_sem]
theorem wpList_build6 {w : World} {ops : Array Oper} {rest : List Oper} {o : Oper} {a : Act} {Q : Exit → Act → World → Prop} (hgd : o.guard = none) (x0 x1 x2 x3 x4 x5 : Operand)
    (ho : o.op = .buildSlice 27 6 #[(0, x0), (1, x1), (2, x2), (3, x3), (4, x4), (5, x5)]) {c0_0 c1_0 c2_0 c3_0 c4_0 c5_0 : Int} (h0 : a.eval x0 = (.int .u8 c0_0)) (h1 : a.eval x1 = (.int .u8 c1_0)) (h2 : a.eval x2 = (.int .u8 c2_0)) (h3 : a.eval x3 = (.int .u8 c3_0)) (h4 : a.eval x4 = (.int .u8 c4_0)) (h5 : a.eval x5 = (.int .u8 c5_0)) {l : Array Value} (hl : #[.int .u8 c0_0, .int .u8 c1_0, .int .u8 c2_0, .int .u8 c3_0, .int .u8 c4_0, .int .u8 c5_0] = l)
    (h : wpList Tryd.prog ops Q rest (a.put o.dst (.slice (some ⟨w.heap.size, 0, none⟩) 6 6)) (w.alloc (.cells l 5))) : wpList Tryd.prog ops Q (o :: rest) a w := by
  subst hl
  refine wpList_plain hgd fun K hK => ?_
  unfold Oper.wp
  simp [execOp, ho, h0, h1, h2, h3, h4, h5, build6, Result.andThen]
  exact hK _ _ h
theorem opwp_build6 {w : World} {o : Oper} {a : Act} {K : Act → World → Prop} {Q : Exit → Act → World → Prop} (x0 x1 x2 x3 x4 x5 : Operand)
    (ho : o.op = .buildSlice 27 6 #[(0, x0), (1, x1), (2, x2), (3, x3), (4, x4), (5, x5)]) {c0_0 c1_0 c2_0 c3_0 c4_0 c5_0 : Int} (h0 : a.eval x0 = (.int .u8 c0_0)) (h1 : a.eval x1 = (.int .u8 c1_0)) (h2 : a.eval x2 = (.int .u8 c2_0)) (h3 : a.eval x3 = (.int .u8 c3_0)) (h4 : a.eval x4 = (.int .u8 c4_0)) (h5 : a.eval x5 = (.int .u8 c5_0)) {l : Array Value} (hl : #[.int .u8 c0_0, .int .u8 c1_0, .int .u8 c2_0, .int .u8 c3_0, .int .u8 c4_0, .int .u8 c5_0] = l)
    (h : K (a.put o.dst (.slice (some ⟨w.heap.size, 0, none⟩) 6 6)) (w.alloc (.cells l 5))) : Oper.wp Tryd.prog o a w K Q := by
  subst hl
  unfold Oper.wp
  simp [execOp, ho, h0, h1, h2, h3, h4, h5, build6, Result.andThen]
  exact h
end Go.Proofs.YtcicclghgbdgnaaDoor
