/- Seats of one's own in a row; package table: collect, List, Copy. -/
import Derived.Test.YtjjjkfdppleagaaTable20
namespace Go.Proofs.Ytjjjkfdppleagaa
open Go Go.RowKit Go.Shelf
set_option linter.unusedVariables false
set_option linter.unusedSimpArgs false
attribute [local go_sem] Oper.semAt_some
def SW.six (s : SW) : List Value := [.int .i64 s.c, .int .i64 s.n, .int .i64 s.o, .int .i64 s.k, .int .i64 s.a, .int .i64 s.b]
def sixes (F : List SW) : List Value := F.flatMap SW.six
theorem sixes_app (F G : List SW) : sixes (F ++ G) = sixes F ++ sixes G := by unfold sixes; rw [List.flatMap_append]
theorem sixes_one (s : SW) : sixes [s] = s.six := by simp [sixes]
theorem sixes_len : ∀ F : List SW, (sixes F).length = F.length * 6
  | [] => rfl
  | s :: F => by have ih := sixes_len F; unfold sixes at *; rw [List.flatMap_cons, List.length_append, ih, List.length_cons]; simp [SW.six]; omega
theorem sixes_get : ∀ (F : List SW) (k : Nat) (hk : k < F.length) (j : Nat) (hj : j < 6), (sixes F)[k * 6 + j]? = (F[k]).six[j]?
  | p :: F, 0, _, j, hj => by
    unfold sixes
    rw [List.flatMap_cons, List.getElem?_append_left (by simp [SW.six]; omega), List.getElem_cons_zero]
    congr 1; omega
  | p :: F, k + 1, hk, j, hj => by
    have ih := sixes_get F k (by simpa using hk) j hj
    unfold sixes at ih ⊢
    rw [List.flatMap_cons, List.getElem?_append_right (by simp [SW.six]; omega), List.getElem_cons_succ, ← ih]
    congr 1
    simp [SW.six]; omega
/-- A row of seats of one's own. -/
def SsT (v : Value) (F : List SW) : Thing := Rn 6 31 v F.length (sixes F)
theorem loc_ss (v : Value) (F : List SW) : Loc (SsT v F) := loc_rn 6 _ _ _ _
theorem infoSeat : (Try.prog.info? 31).map (fun i => (i.size, decide (i.bytes ≤ 256), i.zero.map (·.cells.size))) = some (6, true, some 6) := by kernel_rfl
theorem append_seats {w0 w : World} {ty : TypeId} {v : Value} {n b off c : Nat} {F G : List SW} {L : List Thing} (h : Sep w0 (SsT v F :: L) w) (hc : ∀ j u, (sixes G)[j]? = some u → w.cell? ⟨b, off + j, none⟩ = some u) (hn : F.length + G.length ≤ 1000000) (hm : G.length = n) :
    ∃ a c' w', (Builtin.append_ #[45, 45] ty #[v, .slice (some ⟨b, off, none⟩) n c]).run Try.prog w = .ok (.slice a (F.length + n) c') w' ∧ Sep w0 (SsT (.slice a (F.length + n) c') (F ++ G) :: L) w' := by
  subst hm
  obtain ⟨i, hi, he⟩ := Option.map_eq_some_iff.1 infoSeat
  simp only [Prod.mk.injEq, decide_eq_true_eq] at he
  obtain ⟨z, hz, hz2⟩ := Option.map_eq_some_iff.1 he.2.2
  obtain ⟨v', w', hr, h2⟩ := append_rn (P := Try.prog) (ty := ty) (m := G.length) (c := c) Try.underlying45 hi hz he.1 he.2.1 hz2 (by decide) h (news := sixes G) (sixes_len G) hc (by
    intro y hy
    obtain ⟨s, _, hs⟩ := List.mem_flatMap.1 hy
    simp only [SW.six, List.mem_cons, List.not_mem_nil, or_false] at hs
    rcases hs with rfl | rfl | rfl | rfl | rfl | rfl <;> rfl) (by omega)
  obtain ⟨a, c', rfl, -⟩ := h2.rnForm
  refine ⟨a, c', w', hr, ?_⟩
  unfold SsT
  rw [List.length_append, sixes_app]
  exact h2
theorem append_seat {w0 w : World} {ty : TypeId} {v : Value} {b : Nat} {F : List SW} {L : List Thing} (s : SW) (h : Sep w0 (Cl b #[.int .i64 s.c, .int .i64 s.n, .int .i64 s.o, .int .i64 s.k, .int .i64 s.a, .int .i64 s.b] 31 :: SsT v F :: L) w) (hn : F.length ≤ 100000) :
    ∃ a c' w', (Builtin.append_ #[45, 45] ty #[v, .slice (some ⟨b, 0, none⟩) 1 1]).run Try.prog w = .ok (.slice a (F.length + 1) c') w' ∧ Sep w0 (SsT (.slice a (F.length + 1) c') (F ++ [s]) :: L) w' := by
  obtain ⟨a, c', w', h1, h2⟩ := append_seats (ty := ty) (b := b) (off := 0) (c := 1) (n := 1) (G := [s]) h.sw2 (fun j u hj => by rw [sixes_one] at hj; rw [Nat.zero_add]; exact h.cell (by simpa [SW.six] using hj)) (by simp; omega) rfl
  exact ⟨a, c', w', h1, h2.sw2.drop⟩
theorem buildS (w : World) (v0 v1 v2 v3 v4 v5 : Value) :
    (Instr.buildSlice 45 1 #[(0, .agg #[v0, v1, v2, v3, v4, v5])]).run Try.prog w = .ok (.slice (some ⟨w.heap.size, 0, none⟩) 1 1) (w.alloc (.cells #[v0, v1, v2, v3, v4, v5] 31)) := by
  simp [go_sem]
theorem wpList_buildS {w : World} {ops : Array Oper} {rest : List Oper} {o : Oper} {a : Act} {Q : Exit → Act → World → Prop} (hgd : o.guard = none) (x : Operand)
    (ho : o.op = .buildSlice 45 1 #[(0, x)]) {v0 v1 v2 v3 v4 v5 : Value} (hx : a.eval x = .agg #[v0, v1, v2, v3, v4, v5])
    (h : wpList Try.prog ops Q rest (a.put o.dst (.slice (some ⟨w.heap.size, 0, none⟩) 1 1)) (w.alloc (.cells #[v0, v1, v2, v3, v4, v5] 31))) : wpList Try.prog ops Q (o :: rest) a w := by
  refine wpList_plain hgd fun K hK => ?_
  unfold Oper.wp
  simp [execOp, ho, hx, buildS, Result.andThen]
  exact hK _ _ h
theorem wpListIn_buildS {F : Fence} {n : Nat} {ops : Array Oper} {rest : List Oper} {o : Oper} {a : Act} {w : World} {Q : Exit → Act → World → Prop} (hg : o.guard = none) (x : Operand) (hop : o.op = .buildSlice 45 1 #[(0, x)]) {v0 v1 v2 v3 v4 v5 : Value} (hx : a.eval x = .agg #[v0, v1, v2, v3, v4, v5])
    (hK : wpListIn F n Try.prog ops Q rest (a.put o.dst (.slice (some ⟨w.heap.size, 0, none⟩) 1 1)) (w.alloc (.cells #[v0, v1, v2, v3, v4, v5] 31))) : wpListIn F n Try.prog ops Q (o :: rest) a w := by
  refine wpListIn_plain hg fun K' hK' => ?_
  unfold Oper.wpIn
  refine ⟨by simp [Oper.about, hop], ?_⟩
  rw [Oper.semAt_plain F _ _ (by rw [hop]; intro c hc; cases hc)]
  simp [execOp, hop, hx, buildS, Result.andThen]
  exact hK' _ _ hK
theorem wpListIn_append_run {F : Fence} {n : Nat} {P : Program} {w : World} {ops : Array Oper} {rest : List Oper} {o : Oper} {a : Act} {Q : Exit → Act → World → Prop} (hg : o.guard = none) (s x : Operand) (t u : TypeId)
    (hop : o.op = .call { callee := .builtin .append, args := #[s, x], argTypes := #[t, u] }) {v y v' : Value} {w' : World} (hs : a.eval s = v) (hx : a.eval x = y)
    (hr : (Builtin.append_ #[t, u] o.type #[v, y]).run P w = .ok v' w') (hK : wpListIn F n P ops Q rest (a.put o.dst v') w') : wpListIn F n P ops Q (o :: rest) a w := by
  refine wpListIn_plain hg fun K hK' => ?_
  unfold Oper.wpIn
  refine ⟨?_, ?_⟩
  · simp [Oper.about, hop, resolve, Target.leads, Sem.run_pure]
  · rw [Oper.semAt_plain F _ _ (by rw [hop]; intro c hc'; cases hc')]
    simp [execOp, hop, resolve, invoke, builtin, hs, hx, hr, Result.andThen]
    exact hK' _ _ hK
def BoxS (b : Nat) (F : List SW) : Thing := Ex fun v => Both (Cl b #[v] 45) (SsT v F)
theorem loc_boxS0 (b : Nat) (F : List SW) (v : Value) : Loc (Both (Cl b #[v] 45) (SsT v F)) := loc_both (loc_blk _ _) (loc_ss _ _)
theorem Sep.boxSOpen {w0 w : World} {b : Nat} {F : List SW} {L : List Thing} (h : Sep w0 (BoxS b F :: L) w) : ∃ a c, Sep w0 (Cl b #[.slice a F.length c] 45 :: SsT (.slice a F.length c) F :: L) w := by
  obtain ⟨v, h1⟩ := h.ex (loc_boxS0 b F)
  have h2 := h1.both (loc_blk _ _) (loc_ss _ _)
  obtain ⟨a, c, rfl, -⟩ := Sep.rnForm (h2.sw2 : Sep w0 (Rn 6 31 v F.length (sixes F) :: _) w)
  exact ⟨a, c, h2⟩
theorem Sep.boxSClose {w0 w : World} {b : Nat} {F : List SW} {v : Value} {L : List Thing} (h : Sep w0 (Cl b #[v] 45 :: SsT v F :: L) w) : Sep w0 (BoxS b F :: L) w := Sep.give (A := fun v => Both (Cl b #[v] 45) (SsT v F)) v h.join (loc_boxS0 b F)
set_option maxRecDepth 100000 in
set_option maxHeartbeats 4000000 in
theorem collect_any {w0 w : World} {g : Nat} {T : List SW} {L : List Thing} (h : Sep w0 (TabT g T :: L) w) (hT : T.length = 8) :
    Calls Try.prog 40 #[.func (.func 41) #[.pointer (some ⟨g, 0, none⟩)] #[]] w fun e w' => ∃ a c, e = .returned (.slice a (seatsOf T).length c) ∧ Sep w0 (SsT (.slice a (seatsOf T).length c) (seatsOf T) :: TabT g T :: L) w' := by
  have h1 := ((h.rnNil 6 31).alloc (.cells #[.slice none 0 0] 45))
  obtain ⟨b, hb⟩ : ∃ z, z = w.heap.size := ⟨_, rfl⟩
  obtain ⟨w3, hw3⟩ : ∃ z, z = w.alloc (.cells #[.slice none 0 0] 45) := ⟨_, rfl⟩
  rw [← hb, ← hw3] at h1
  have h2 : Sep w0 (BoxS b [] :: TabT g T :: L) w3 := Sep.boxSClose (F := []) h1
  have hlen : (seatsOf T).length ≤ 8 := by have := List.length_filter_le (·.had) T; unfold seatsOf; omega
  clear h h1
  refine (callsIn_wide (n := 4)).1 ?_
  refine callsIn_of_wp_marks Try.func40 rfl trivial ?_ rfl
  simp only [Try.ntmps40, List.size_toArray, List.length_cons, List.length_nil, Nat.reduceAdd, Nat.reduceSub, Array.replicate_succ, Array.replicate_zero, List.push_toArray, List.append_toArray, List.nil_append, List.cons_append]
  gi_wp2
  rw [← hw3, ← hb]
  clear hw3 hb
  refine range_sepA (P := Try.prog) (gf := 41) (fb := #[.pointer (some ⟨g, 0, none⟩)]) (lb := #[]) rfl (by omega) rfl trivial (enters_of Try.func41 (by kernel_rfl) rfl) (seatsOf T) (fun _ => rfl)
    (fun pre => BoxS b pre :: TabT g T :: L) h2 (each_gives _ g T hT) (fun A B W hs => hs.drop.drop.drop.blk)
    (fun x a' => [Ex fun b4 => Both (Fact (a' = { tmps := #[.func (.func 41) #[.pointer (some ⟨g, 0, none⟩)] #[], undef, .slice none 0 0, .pointer (some ⟨b, 0, none⟩), .pointer (some ⟨b4, 0, none⟩), .func (.func 41) #[.pointer (some ⟨g, 0, none⟩)] #[], x.val, undef, undef, undef, undef, undef], defers := [] })) (Cl b4 #[.int .i64 x.c, .int .i64 x.n, .int .i64 x.o, .int .i64 x.k, .int .i64 x.a, .int .i64 x.b] 31)]) (fun _ _ => True) ?assign ?body ?done
  case assign =>
    intro l x pre A B W K hs hK
    have h8 := hs.alloc (.cells #[.int .i64 x.c, .int .i64 x.n, .int .i64 x.o, .int .i64 x.k, .int .i64 x.a, .int .i64 x.b] 31)
    have H8 := Lib.hid h8
    clear hs h8 h2
    simp only [SW.val, List.zip_toArray, List.zip_cons_cons, List.zip_nil_right, List.foldl_toArray, List.foldl_cons, List.foldl_nil, List.setIfInBounds_toArray, List.set_cons_zero, List.set_cons_succ]
    gi_wp2
    exact hK _ _ trivial (Sep.to3 (Sep.give (A := fun b4 => Both (Fact (_ = _)) (Cl b4 #[.int .i64 x.c, .int .i64 x.n, .int .i64 x.o, .int .i64 x.k, .int .i64 x.a, .int .i64 x.b] 31)) W.heap.size (H8.out.say rfl).join (fun _ => loc_both (loc_fact _) (loc_blk _ _))))
  case body =>
    intro l pre x rest A B a' W hx _ hs
    obtain ⟨b4, h8⟩ := (Sep.sw3 hs).ex (fun _ => loc_both (loc_fact _) (loc_blk _ _))
    have h9 := h8.both (loc_fact _) (loc_blk _ _)
    have ha := h9.fact
    subst ha
    have h10 := h9.drop
    obtain ⟨ba, bc, h11⟩ := Sep.boxSOpen (h10.pickL (M := [_, _, _, _]) [3, 0, 1, 2] rfl)
    have hpl : pre.length ≤ 8 := by have := congrArg List.length hx; rw [List.length_append] at this; omega
    obtain ⟨n, hn⟩ : ∃ z, z = pre.length := ⟨_, rfl⟩
    rw [← hn] at h11
    have x3 := h11.cell (o := 0) rfl
    obtain ⟨s0, s1, s2, s3, s4, s5⟩ := cells6z (h11.pickL (M := [_, _, _]) [2, 0, 1] rfl)
    have h12 := h11.alloc (.cells #[.int .i64 x.c, .int .i64 x.n, .int .i64 x.o, .int .i64 x.k, .int .i64 x.a, .int .i64 x.b] 31)
    obtain ⟨a9, c9, w9, hr9, h13⟩ := append_seat (ty := 45) x (h12.pickL (M := [_, _, _]) [0, 2, 1] rfl) (by omega)
    rw [← hn] at hr9 h13
    have x9 := h13.sw2.cell (o := 0) rfl
    have f9 := h13.sw2.frozen 0
    have h14 := Sep.boxSClose (h13.sw2.setCell 0 (.slice a9 (n + 1) c9))
    have h15 : Sep w0 (A :: B :: BoxS b (pre ++ [x]) :: TabT g T :: L) _ := h14.pickL (M := [_, _, _, _]) [2, 3, 0] rfl
    have H15 := Lib.hid h15
    have HR9 := Lib.hid hr9
    clear hs h8 h9 h10 h11 h12 h13 h14 h15 hx hpl hr9 hn h2
    gi_wp2_with (first | (refine wpListIn_buildS rfl _ rfl rfl ?_) | (gi_at_builtin; refine wpListIn_append_run rfl _ _ _ _ rfl rfl rfl HR9.out ?_; clear HR9))
    exact H15.out
  case done =>
    intro D W hs
    obtain ⟨a, c, hs2⟩ := hs.sw2.boxSOpen
    have c0 := hs2.cell (o := 0) rfl
    have hK := (hs2.sw3).blk
    have HS := Lib.hid hs2
    clear hs hs2
    gi_wp2
    refine ⟨by simp, .inl ⟨_, _, rfl, run_takeDeferred hK, ?_⟩⟩
    exact ⟨_, results_tmp rfl _ _ _, _, _, rfl, ((HS.out.sw3).putObj (.deferred none)).drop.drop⟩
end Go.Proofs.Ytjjjkfdppleagaa
