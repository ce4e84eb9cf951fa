/- More of a region that draws its order, walked by number: two may come up. -/
import Derived.Test.YtcnbmeiielkigaaGreatDoorMZ05
namespace Go.Proofs.YtcnbmeiielkigaaGreatDoor
open Go
set_option linter.unusedVariables false
section
variable {P : Program} {ops : Array Oper} {Q : Exit → Act → World → Prop} {md : Region.Mode} {S : World → Prop} {T : List Nat}
end
end Go.Proofs.YtcnbmeiielkigaaGreatDoor
/- A region that draws its order, walked by number: a call that changes nothing is taken first, wherever it may come up. -/
namespace Go.Proofs.YtcnbmeiielkigaaGreatDoor
open Go
set_option linter.unusedVariables false
section
variable {P : Program} {ops : Array Oper} {Q : Exit → Act → World → Prop} {md : Region.Mode} {S : World → Prop} {T : List Nat}
/-- A call that answers v in every world that meets S, and changes nothing. -/
def AnswersIf (P : Program) (ops : Array Oper) (S : World → Prop) (o : Oper) (v : Value) (a : Act) : Prop :=
 Region.wanted o (yielded ops a.tmps) = true ∧ ∀ w, S w → ∃ f args, (execOp a.eval o).run P w = .ok (.enter f args) w ∧ Calls P f args w fun e w' => e = .returned v ∧ w' = w
theorem AnswersIf.run {i : Nat} {o : Oper} {v : Value} {a : Act} (hi : ops[i]? = some o) (hy : AnswersIf P ops S o v a) {K : Act → World → Prop} {w : World} (hS : S w) (h : K (a.put o.dst v) w) : wpOp P ops Q i K a w := by
 obtain ⟨hw, hc⟩ := hy
 obtain ⟨f, args, hr, hcl⟩ := hc w hS
 unfold Go.wpOp
 rw [hi]
 simp only [hw, if_true]
 left
 unfold Oper.wp
 rw [hr]
 refine Calls.mono hcl ?_
 rintro e w' ⟨rfl, rfl⟩
 exact h
end
end Go.Proofs.YtcnbmeiielkigaaGreatDoor
/- Package bag: what a bag is; New, Len, check, Put. -/
namespace Go.Proofs.YtcnbmeiielkigaaGreatDoor
open Go Go.RowKit
set_option linter.unusedVariables false
set_option linter.unusedSimpArgs false
theorem MsgC.size {c : Array Value} {m : MsM} (h : MsgC c m) : c.size = 22 := by obtain ⟨_, _, _, _, _, _, rfl⟩ := h; rfl
theorem MsgC.one {c : Array Value} {m : MsM} (h : MsgC c m) : ∀ u ∈ c.toList, u.oneCell' = true := by
 obtain ⟨lv, cv, ev, h1, h2, h3, rfl⟩ := h
 intro u hu
 simp only [msC, List.mem_cons, List.not_mem_nil, or_false] at hu
 rcases hu with rfl | rfl | rfl | rfl | rfl | rfl | rfl | rfl | rfl | rfl | rfl | rfl | rfl | rfl | rfl | rfl | rfl | rfl | rfl | rfl | rfl | rfl <;> first | rfl | exact h1.one | exact h2.one | exact h3.one
/-- Rows of cells, as messages. -/
def MsgsC (rows : List (Array Value)) (ms : List MsM) : Prop := rows.length = ms.length ∧ ∀ k (h : k < rows.length) (h' : k < ms.length), MsgC rows[k] ms[k]
theorem MsgsC.nil : MsgsC [] [] := ⟨rfl, fun k h => by simp at h⟩
theorem MsgsC.r22 {rows : List (Array Value)} {ms : List MsM} (h : MsgsC rows ms) : Rows22 rows := by
 intro c hc
 obtain ⟨k, hk, rfl⟩ := List.getElem_of_mem hc
 exact (h.2 k hk (by rw [← h.1]; exact hk)).size
theorem MsgsC.snoc {rows : List (Array Value)} {ms : List MsM} {c : Array Value} {m : MsM} (h : MsgsC rows ms) (hc : MsgC c m) : MsgsC (rows ++ [c]) (ms ++ [m]) := by
 refine ⟨by rw [List.length_append, List.length_append, h.1]; rfl, fun k h1 h2 => ?_⟩
 by_cases hk : k < rows.length
 ·rw [List.getElem_append_left hk, List.getElem_append_left (by rw [← h.1]; exact hk)]
  exact h.2 k hk _
 ·have hk2 : k = rows.length := by rw [List.length_append, List.length_singleton] at h1; omega
  subst hk2
  rw [List.getElem_append_right (Nat.le_refl _), List.getElem_append_right (by rw [h.1]; exact Nat.le_refl _)]
  simpa using hc
def BagB (g : Nat) (ms : List MsM) (p : Value × List (Array Value)) : Thing := Both (Fact (MsgsC p.2 ms)) (Both (Cl g #[.bool true, p.1] 60) (Ro 22 40 p.1 ms.length (msCs p.2)))
theorem loc_bagB (g : Nat) (ms : List MsM) (p : Value × List (Array Value)) : Loc (BagB g ms p) := loc_both (loc_fact _) (loc_both (loc_blk _ _) (loc_ro _ _ _ _ _))
/-- A bag with such messages. -/
def BagT (g : Nat) (ms : List MsM) : Thing := Ex (BagB g ms)
theorem Sep.bagOpen {w0 w : World} {g : Nat} {ms : List MsM} {L : List Thing} (h : Sep w0 (BagT g ms :: L) w) : ∃ a c rows, MsgsC rows ms ∧ Sep w0 (Cl g #[.bool true, .slice a ms.length c] 60 :: Ro 22 40 (.slice a ms.length c) ms.length (msCs rows) :: L) w := by
 obtain ⟨⟨v, rows⟩, h1⟩ := h.ex (loc_bagB g ms)
 have h2 := Sep.both h1 (loc_fact _) (loc_both (loc_blk _ _) (loc_ro _ _ _ _ _))
 have hm := h2.fact
 have h3 := Sep.both h2.drop (loc_blk _ _) (loc_ro _ _ _ _ _)
 obtain ⟨a, c, hv, -⟩ := h3.sw2.roForm
 dsimp only at hm hv h3
 subst hv
 exact ⟨a, c, rows, hm, h3⟩
theorem Sep.bagClose {w0 w : World} {g : Nat} {v : Value} {ms : List MsM} {rows : List (Array Value)} {L : List Thing} (hm : MsgsC rows ms) (h : Sep w0 (Cl g #[.bool true, v] 60 :: Ro 22 40 v ms.length (msCs rows) :: L) w) : Sep w0 (BagT g ms :: L) w :=
 Sep.give (A := BagB g ms) (v, rows) (h.join.say hm).join (loc_bagB g ms)
theorem bnew_any {w0 w : World} {L : List Thing} (h : Sep w0 L w) : Calls Tryz.prog 5 #[] w fun e w' => ∃ g, e = .returned (.pointer (some ⟨g, 0, none⟩)) ∧ Sep w0 (BagT g [] :: L) w' := by
 have h1 : Sep w0 (Cl w.heap.size #[.bool true, .slice none 0 0] 60 :: Ro 22 40 (.slice none 0 0) 0 (msCs []) :: L) _ := ((h.rnNil 22 40).roOf).alloc (.cells #[.bool true, .slice none 0 0] 60)
 have H1 := Lib.hid (Sep.bagClose (ms := []) (rows := []) MsgsC.nil h1)
 clear h h1
 go_enter Tryz.func5, Tryz.ntmps5
 (try dsimp only); repeat' (first | go_values | go_skip | go_guarded | go_step | go_upon | go_back)
 go_ret
 exact ⟨_, rfl, H1.out⟩
theorem bnone_any {g : Nat} {w : World} (h : w.cell? ⟨g, 0, none⟩ = some (.bool true)) : Calls Tryz.prog 34 #[.pointer (some ⟨g, 0, none⟩)] w fun e w' => e = .returned (.bool false) ∧ w = w' := by
 go_enter Tryz.func34, Tryz.ntmps34
 (try dsimp only); repeat' (first | go_values | go_skip | go_guarded | go_step | go_upon | go_back)
 go_ret
 exact ⟨rfl, rfl⟩
theorem blen_any {w0 w : World} {g : Nat} {ms : List MsM} {L : List Thing} (h : Sep w0 (BagT g ms :: L) w) : Calls Tryz.prog 8 #[.pointer (some ⟨g, 0, none⟩)] w fun e w' => e = .returned (.int .i64 (ms.length : Nat)) ∧ w = w' := by
 obtain ⟨a, c, rows, hm, h1⟩ := h.bagOpen
 have HN := Lib.hid (bnone_any (h1.cell (o := 0) rfl))
 have c1 := h1.cell (o := 1) rfl
 clear h h1 hm
 generalize ms.length = n at *
 go_enter Tryz.func8, Tryz.ntmps8
 (try dsimp only); repeat' (first | go_values | go_skip | go_guarded | go_step | go_upon | go_back)
 refine HN.out.mono ?_
 rintro r0 w1 ⟨rfl, rfl⟩
 clear HN
 (try dsimp only); repeat' (first | go_values | go_skip | go_guarded | go_step | go_upon | go_back)
 go_ret
 exact ⟨rfl, rfl⟩
theorem bchk_ok {w0 w : World} {g : Nat} {ms : List MsM} {L : List Thing} (i : Nat) (h : Sep w0 (BagT g ms :: L) w) (hi : i < ms.length) : Calls Tryz.prog 37 #[.pointer (some ⟨g, 0, none⟩), .int .i64 i] w fun e w' => e = .returned (.int .i64 0) ∧ w = w' := by
 obtain ⟨a, c, rows, hm, h1⟩ := h.bagOpen
 have HN := Lib.hid (bnone_any (h1.cell (o := 0) rfl))
 have c1 := h1.cell (o := 1) rfl
 clear h h1 hm
 generalize ms.length = n at *
 have i0 : decide ((i : Int) < 0) = false := decide_eq_false (by omega)
 have i1 : decide ((n : Int) ≤ (i : Int)) = false := decide_eq_false (by omega)
 have i2 : decide (n ≤ i) = false := decide_eq_false (by omega)
 clear hi
 go_enter Tryz.func37, Tryz.ntmps37
 (try dsimp only); repeat' (first | go_values | go_skip | go_guarded | go_step | go_upon | go_back)
 refine HN.out.mono ?_
 rintro r0 w1 ⟨rfl, rfl⟩
 clear HN
 (try dsimp only); repeat' (first | go_values | go_skip | go_guarded | go_step | go_upon | go_back)
 go_ret
 exact ⟨rfl, rfl⟩
theorem bchk_bad {w0 w : World} {g : Nat} {ms : List MsM} {L : List Thing} (i : Nat) (h : Sep w0 (BagT g ms :: L) w) (hi : ms.length ≤ i) : Calls Tryz.prog 37 #[.pointer (some ⟨g, 0, none⟩), .int .i64 i] w fun e w' => e = .returned (.int .i64 9) ∧ w = w' := by
 obtain ⟨a, c, rows, hm, h1⟩ := h.bagOpen
 have HN := Lib.hid (bnone_any (h1.cell (o := 0) rfl))
 have c1 := h1.cell (o := 1) rfl
 clear h h1 hm
 generalize ms.length = n at *
 have i0 : decide ((i : Int) < 0) = false := decide_eq_false (by omega)
 have i1 : decide ((n : Int) ≤ (i : Int)) = true := decide_eq_true (by omega)
 have i2 : decide (n ≤ i) = true := decide_eq_true (by omega)
 clear hi
 go_enter Tryz.func37, Tryz.ntmps37
 (try dsimp only); repeat' (first | go_values | go_skip | go_guarded | go_step | go_upon | go_back)
 refine HN.out.mono ?_
 rintro r0 w1 ⟨rfl, rfl⟩
 clear HN
 (try dsimp only); repeat' (first | go_values | go_skip | go_guarded | go_step | go_upon | go_back)
 go_ret
 exact ⟨rfl, rfl⟩
theorem append_mo {w0 w : World} {v : Value} {n : Nat} {rows : List (Array Value)} {c : Array Value} {b : Nat} {L : List Thing} (ty : TypeId) (h : Sep w0 (Cl b c 40 :: Ro 22 40 v n (msCs rows) :: L) w) (hc : c.size = 22) (h1 : ∀ u ∈ c.toList, u.oneCell' = true) (hl : n ≤ 10000000) :
  ∃ a k w', (Builtin.append_ #[44, 44] ty #[v, .slice (some ⟨b, 0, none⟩) 1 1]).run Tryz.prog w = .ok (.slice a (n + 1) k) w' ∧ Sep w0 (Ro 22 40 (.slice a (n + 1) k) (n + 1) (msCs (rows ++ [c])) :: L) w' := by
 obtain ⟨i, hi, he⟩ := Option.map_eq_some_iff.1 infoMs
 simp only [Prod.mk.injEq, decide_eq_true_eq] at he
 obtain ⟨z, hz, hz2⟩ := Option.map_eq_some_iff.1 he.2.2
 have hcs : ∀ j u', c.toList[j]? = some u' → w.cell? ⟨b, 0 + j, none⟩ = some u' := fun j u' hj => by
  rw [Nat.zero_add]
  exact h.cell (by simpa using hj)
 obtain ⟨v', w', hr, h2⟩ := append_ro (P := Tryz.prog) (ty := ty) (m := 1) (c := 1) Tryz.underlying44 hi hz he.1 he.2.1 hz2 (by decide) h.sw2 (news := c.toList) (by rw [Array.length_toList, hc]) (by decide) hcs h1 (by omega)
 obtain ⟨a, k, rfl, -⟩ := h2.roForm
 refine ⟨a, k, w', hr, ?_⟩
 have h3 := h2.sw2.drop
 have e : msCs rows ++ c.toList = msCs (rows ++ [c]) := by rw [msCs_app]; simp [msCs]
 rw [e] at h3
 exact h3
theorem step_load_run {P : Program} {ops : Array Oper} {o : Oper} {a : Act} {w : World} {K : Act → World → Prop} {Q : Exit → Act → World → Prop} {E : Prop}
  (hg : o.guard = none) (t : TypeId) (x : Operand) (hop : o.op = .load t x) (p v : Value) (hx : a.eval x = p) (hr : (Instr.loadAt t p).run P w = .ok v w) (hK : K (a.put o.dst v) w) :
  if Region.wanted o (yielded ops a.tmps) = true then Oper.wp P o a w K Q else E := by
 have hw : Region.wanted o (yielded ops a.tmps) = true := by simp [Region.wanted, hg]
 rw [if_pos hw]
 exact opwp_load_run t x hop p v hx hr hK
/-- What msg.Check answers of a message that may be. -/
def ChkOk (w0 : World) (m : MsM) : Prop := ∀ (wx : World) (M : List Thing) (c : Array Value), Sep w0 M wx → MsgC c m → Calls Tryz.prog 39 #[.agg c] wx fun e w' => e = .returned (.int .i64 0) ∧ Sep w0 M w'
set_option maxRecDepth 100000 in
set_option maxHeartbeats 16000000 in
theorem bput_any {w0 w : World} {g : Nat} {ms : List MsM} {L : List Thing} (m : MsM) {cm : Array Value} (h : Sep w0 (BagT g ms :: L) w) (hc : MsgC cm m) (hk : ChkOk w0 m) (hl : ms.length < 2000) :
  Calls Tryz.prog 17 #[.pointer (some ⟨g, 0, none⟩), .agg cm] w fun e w' => e = .returned (.int .i64 0) ∧ Sep w0 (BagT g (ms ++ [m]) :: L) w' := by
 obtain ⟨a, c, rows, hm, h1⟩ := h.bagOpen
 have h2 := h1.alloc (.cells cm 40)
 have HN := Lib.hid (bnone_any (h2.sw2.cell (o := 0) rfl))
 have HL := Lib.hid (h2.loadW 40 Tryz.underlying40 rfl (by rw [hc.size]; kernel_rfl))
 have HCK := Lib.hid (hk _ _ cm h2 hc)
 obtain ⟨b3, hb3⟩ : ∃ z, z = w.heap.size := ⟨_, rfl⟩
 obtain ⟨w1, hw1⟩ : ∃ z, z = w.alloc (.cells cm 40) := ⟨_, rfl⟩
 rw [← hw1] at HN HL HCK
 rw [← hb3] at HL HCK
 obtain ⟨n, hn⟩ : ∃ z, z = ms.length := ⟨_, rfl⟩
 have HM := Lib.hid (And.intro hc (And.intro hm hn))
 rw [← hn] at HCK
 have n0 : (0 : Int) ≤ (n : Int) := by omega
 have n1 : ¬ (2000 : Int) ≤ (n : Int) := by omega
 have n2 : decide ((2000 : Int) ≤ (n : Int)) = false := decide_eq_false n1
 have n3 : decide (2000 ≤ n) = false := decide_eq_false (by omega)
 have HNL := Lib.hid (show n < 2000 by omega)
 clear h h1 h2 hc hk hl hm hn
 go_enter Tryz.func17, Tryz.ntmps17
 (try dsimp only); repeat' (first | go_values | go_skip | go_guarded | go_step | go_upon | go_back)
 rw [← hw1, ← hb3]
 clear hw1 hb3
 refine HN.out.mono ?_
 rintro r0 w2 ⟨rfl, rfl⟩
 clear HN
 (try dsimp only); repeat' (first | (with_reducible show wpList _ _ _ (Oper.mk _ (Op.load 40 _) _ _ _ _ :: _) _ _; refine stopP ?_) | go_values | go_skip | go_guarded | go_step | go_upon | go_back)
 unfold StopP
 have hq_ := HL.out
 refine wpList_load_run rfl 40 _ rfl _ _ rfl hq_ ?_
 clear hq_
 (try dsimp only); repeat' (first | go_values | go_skip | go_guarded | go_step | go_upon | go_back)
 refine HCK.out.mono ?_
 rintro r0 w2 ⟨rfl, h3⟩
 have c1 := h3.sw2.cell (o := 1) rfl
 have HMC := Lib.hid (mcopyz_any m h3.drew HM.out.1)
 have hld := h3.drew.loadW 40 Tryz.underlying40 rfl (by rw [HM.out.1.size]; kernel_rfl)
 clear HCK h3
 (try dsimp only); repeat' (first | go_values | go_skip | go_guarded | go_step | go_upon | go_back)
 refine wp_region_G (fun w' => w'.cell? ⟨g, 1, none⟩ = some (.slice a n c)) [11] (by kernel_rfl) c1 (fun hS => ?_)
 try dsimp only at hS
 refine wpAnyG_tk (i := 0) (v := ?v0_1bp) rfl (Or.inl ⟨by rfl, ?a_⟩) hS ?b_
 case a_ => intro w hSw; (try dsimp only at hSw); go_simp; (try with_reducible rfl)
 case b_ =>
 try simp only [nz0, nz1, nz2, Act.put, nz3, nz4, nz5]
 refine wpAnyG_tk (i := 1) (v := ?v1_2bp) rfl (Or.inl ⟨by rfl, ?a_⟩) hS ?b_
 case a_ => intro w hSw; (try dsimp only at hSw); go_simp; (try with_reducible rfl)
 case b_ =>
 try simp only [nz0, nz1, nz2, Act.put, nz3, nz4, nz5]
 refine wpAnyG_tk (i := 2) (v := ?v2_3bp) rfl (Or.inl ⟨by rfl, ?a_⟩) hS ?b_
 case a_ => intro w hSw; (try dsimp only at hSw); go_simp; (try with_reducible rfl)
 case b_ =>
 try simp only [nz0, nz1, nz2, Act.put, nz3, nz4, nz5]
 refine wpAnyG_tk (i := 3) (v := ?v3_4bp) rfl (Or.inl ⟨by rfl, ?a_⟩) hS ?b_
 case a_ => intro w hSw; (try dsimp only at hSw); go_simp; (try with_reducible rfl)
 case b_ =>
 try simp only [nz0, nz1, nz2, Act.put, nz3, nz4, nz5]
 refine wpAnyG_tk (i := 4) (v := ?v4_5bp) rfl (Or.inl ⟨by rfl, ?a_⟩) hS ?b_
 case a_ => intro w hSw; (try dsimp only at hSw); go_simp; (try with_reducible rfl)
 case b_ =>
 try simp only [nz0, nz1, nz2, Act.put, nz3, nz4, nz5]
 refine wpAnyG_one (i := 5) (by kernel_rfl) rfl (fun K hK => ?_)
 refine step_load_run (by rfl) 40 _ (by rfl) _ _ (by rfl) hld ?_
 clear hld
 refine hK.out _ _ (fun _ => ?hS6bp) ?rest6bp
 case hS6bp => exact c1
 clear K hK
 try simp only [nz0, nz1, nz2, Act.put, nz3, nz4, nz5]
 refine wpAnyG_one (i := 6) (by kernel_rfl) rfl (fun K hK => ?_)
 go_simp
 refine Calls.mono HMC.out ?_
 rintro r6 w6 ⟨u, hu, rfl, h6⟩
 have k1 := h6.sw2.cell (o := 1) rfl
 have h7 := h6.alloc (.cells u 40)
 have k2 := h7.sw3.cell (o := 1) rfl
 obtain ⟨a8, c8, w8, hr, h8⟩ := append_mo (ty := 44) (h7.pickL (M := [_, _, _, _]) [0, 3, 2] rfl) hu.size hu.one (by have := HNL.out; omega)
 have k3 := h8.sw2.cell (o := 1) rfl
 have kf := h8.sw2.frozen 1
 have h9 : Sep w0 (Cl g #[.bool true, .slice a8 (n + 1) c8] 60 :: Ro 22 40 (.slice a8 (n + 1) c8) (n + 1) (msCs (rows ++ [u])) :: L) (w8.setCell ⟨g, 1, none⟩ (.slice a8 (n + 1) c8)) := h8.sw2.setCell 1 (.slice a8 (n + 1) c8)
 have hms := HM.out.2.1.snoc hu
 have hnn : n + 1 = (ms ++ [m]).length := by rw [List.length_append, ← HM.out.2.2]; rfl
 have H9 : Hid (Sep w0 (BagT g (ms ++ [m]) :: L) _) := Lib.hid (Sep.bagClose hms (by rw [← hnn]; exact h9))
 have HR := Lib.hid hr
 have HUS := Lib.hid hu.size
 clear h6 h7 h8 h9 hr hu hms hnn HMC HM
 (try dsimp only); repeat' (first | go_values | go_skip | go_guarded | go_step | go_upon | go_back)
 refine hK.out _ _ (fun _ => ?hS7bp) ?rest7bp
 case hS7bp => exact k1
 clear K hK
 try simp only [nz0, nz1, nz2, Act.put, nz3, nz4, nz5]
 refine wpAnyG_one (i := 7) (by kernel_rfl) rfl (fun K hK => ?_)
 refine step_buildM (by rfl) _ (by rfl) HUS.out (by rfl) ?_
 refine hK.out _ _ (fun _ => ?hS8bp) ?rest8bp
 case hS8bp => exact k2
 clear K hK
 try simp only [nz0, nz1, nz2, Act.put, nz3, nz4, nz5]
 refine wpAnyG_one (i := 8) (by kernel_rfl) rfl (fun K hK => ?_)
 refine step_append_run (by rfl) (.tmp 23) (.tmp 26) 44 44 (by rfl) _ _ (by rfl) (by rfl) HR.out ?_
 refine hK.out _ _ (fun _ => ?hS9bp) ?rest9bp
 case hS9bp => exact k3
 clear K hK
 try simp only [nz0, nz1, nz2, Act.put, nz3, nz4, nz5]
 refine wpAnyG_tk (i := 9) (v := ?v9_10bp) rfl (Or.inl ⟨by rfl, ?a_⟩) k3 ?b_
 case a_ => intro w hSw; (try dsimp only at hSw); go_simp; (try with_reducible rfl)
 case b_ =>
 try simp only [nz0, nz1, nz2, Act.put, nz3, nz4, nz5]
 refine wpAnyG_tk (i := 10) (v := ?v10_11bp) rfl (Or.inl ⟨by rfl, ?a_⟩) k3 ?b_
 case a_ => intro w hSw; (try dsimp only at hSw); go_simp; (try with_reducible rfl)
 case b_ =>
 try simp only [nz0, nz1, nz2, Act.put, nz3, nz4, nz5]
 refine wpAnyG_one (i := 11) (by kernel_rfl) rfl (fun K hK => ?_)
 go_simp
 refine hK.out _ _ (fun hno => by cases hno) ?_
 clear K hK
 try simp only [nz0, nz1, nz2, Act.put, nz3, nz4, nz5]
 refine wpAnyG_done (by kernel_rfl) ?_ _
 try simp only [nz0, nz1, nz2, Act.put, nz3, nz4, nz5]
 clear hS
 (try dsimp only); repeat' (first | go_values | go_skip | go_guarded | go_step | go_upon | go_back)
 go_ret
 exact ⟨rfl, H9.out⟩
end Go.Proofs.YtcnbmeiielkigaaGreatDoor
/- slices.Delete of one message. -/
namespace Go.Proofs.YtcnbmeiielkigaaGreatDoor
open Go Go.RowKit
set_option linter.unusedVariables false
set_option linter.unusedSimpArgs false
/-- 'clear(s)', s a slice of n > 0 structs. -/
theorem run_clear_rows {P : Program} (w : World) (t e ty : TypeId) (z : Value) (ht : P.underlying t = some (.slice e)) (hv : ∀ w, (zeroValue e).run P w = .ok z w) (h1 : ∀ u ∈ (Builtin.zeroCells z.cells 1).toList, u.oneCell' = true) (b o c : Nat)
  (hc : ∀ j, j < z.cells.size → (w.cell? ⟨b, o + j, none⟩).isSome = true) (hf : ∀ j, j < z.cells.size → w.frozen? ⟨b, o + j, none⟩ = false) :
  (Builtin.clear_ #[t] ty #[.slice (some ⟨b, o, none⟩) 1 c]).run P w = .ok (.tuple #[]) (w.setCells b o (Builtin.zeroCells z.cells 1).toList) := by
 have hl : (Builtin.zeroCells z.cells 1).toList.length = z.cells.size := by rw [Array.length_toList, size_zeroCells]; omega
 have hst := run_storeCells_cells (P := P) b o (Builtin.zeroCells z.cells 1).toList 0 w (by rw [hl]; simpa using hc) (by rw [hl]; simpa using hf) h1
 simp only [Nat.add_zero] at hst
 simp [Builtin.clear_, run_underlying ht, hv, hst]
theorem zeroMs : ∃ z : Value, (∀ w, (zeroValue 40).run Tryz.prog w = .ok z w) ∧ z.cells.size = 22 ∧ ∀ u ∈ (Builtin.zeroCells z.cells 1).toList, u.oneCell' = true := by
 obtain ⟨i, hi, he⟩ := Option.map_eq_some_iff.1 infoMs
 simp only [Prod.mk.injEq] at he
 obtain ⟨z, hz, hz2⟩ := Option.map_eq_some_iff.1 he.2.2
 have hq : (Tryz.prog.info? 40).bind (fun i => i.zero.map (fun z => (Builtin.zeroCells z.cells 1).all (·.oneCell'))) = some true := by kernel_rfl
 rw [hi] at hq
 simp only [Option.bind_some, hz, Option.map_some, Option.some.injEq] at hq
 refine ⟨z, fun w => by simp [zeroValue, typeInfo, hi, hz], hz2, fun u hu => ?_⟩
 rw [Array.all_eq_true] at hq
 obtain ⟨j, hj, rfl⟩ := List.getElem_of_mem hu
 simpa using hq j (by simpa using hj)
variable {w0 w : World} {g off n c i k p : Nat} {cur : Array Value} {L : List Thing}
/-- What the block holds when one element has been taken out. -/
def Taken (cur cur' : Array Value) (off n i : Nat) : Prop := cur'.size = cur.size ∧ ∀ j, j < (n - 1) * 22 → cur'[off + j]? = if j < i * 22 then cur[off + j]? else cur[off + j + 22]?
theorem taken_of (hp : p + 1 = n) (hip : i ≤ p) (hn : off + n * 22 ≤ cur.size) (news : List Value) (hl : news.length = (p - i) * 22) (hnews : ∀ j, j < (p - i) * 22 → news[j]? = cur[off + (i + 1) * 22 + j]?) (zs : List Value) (hz : zs.length = 22) :
  Taken cur (writeAt (writeAt cur (off + i * 22) news) (off + p * 22) zs) off n i := by
 refine ⟨by rw [writeAt_size, writeAt_size], fun j hj => ?_⟩
 have h1 : n - 1 = p := by omega
 rw [h1] at hj
 rw [writeAt_get, if_neg (by omega), writeAt_get]
 by_cases hji : j < i * 22
 ·rw [if_pos hji, if_neg (by omega)]
 ·rw [if_neg hji, if_pos (by rw [hl]; omega), hnews _ (by omega)]
  congr 1
  omega
set_option maxRecDepth 100000 in
set_option maxHeartbeats 16000000 in
theorem del_any (h : Sep w0 (Cl g cur 40 :: L) w) (hp : p + 1 = n) (hip : i ≤ p) (hk : i + 1 = k) (hnc : n ≤ c) (hcm : c ≤ maxLen) (hsz : off + c * 22 ≤ cur.size) (hone : ∀ j, j < n * 22 → ∀ u, cur[off + j]? = some u → u.oneCell' = true) :
  Calls Tryz.prog 38 #[.slice (some ⟨g, off, none⟩) n c, .int .i64 i, .int .i64 k] w fun e w' => e = .returned (.slice (some ⟨g, off, none⟩) p c) ∧ ∃ cur', Taken cur cur' off n i ∧ Sep w0 (Cl g cur' 40 :: L) w' := by
 replace h := h.drew
 obtain ⟨z, hzv, hzs, hz1⟩ := zeroMs
 obtain ⟨zs, hzz⟩ : ∃ q, q = (Builtin.zeroCells z.cells 1).toList := ⟨_, rfl⟩
 have hzl : zs.length = 22 := by rw [hzz, Array.length_toList, size_zeroCells, hzs]
 obtain ⟨ti, hti, hte⟩ := Option.map_eq_some_iff.1 infoMs
 simp only [Prod.mk.injEq] at hte
 have hts := hte.1
 have hn2 : n * 22 = p * 22 + 22 := by omega
 have hc2 : n * 22 ≤ c * 22 := Nat.mul_le_mul_right _ hnc
 obtain ⟨news, hnw⟩ : ∃ q, q = (cur.toList.drop (off + k * 22)).take ((p - i) * 22) := ⟨_, rfl⟩
 have hkp : k * 22 + (p - i) * 22 = n * 22 := by omega
 have hnl : news.length = (p - i) * 22 := by rw [hnw, List.length_take, List.length_drop, Array.length_toList]; omega
 have hng : ∀ j, j < (p - i) * 22 → news[j]? = cur[off + k * 22 + j]? := fun j hj => by
  rw [hnw, List.getElem?_take, if_pos hj, List.getElem?_drop, Array.getElem?_toList]
 have hno : ∀ u ∈ news, u.oneCell' = true := fun u hu => by
  obtain ⟨j, hj, rfl⟩ := List.getElem_of_mem hu
  have h9 := hng j (by omega)
  rw [List.getElem?_eq_getElem hj] at h9
  exact hone (k * 22 + j) (by omega) _ (by rw [← Nat.add_assoc]; exact h9.symm)
 have hnk : n - k = p - i := by omega
 have hrun : ∀ (aa : Addr) (cc : Nat), (p - i = 0 ∨ aa = ⟨g, off + k * 22, none⟩) → (Builtin.append_ #[44, 44] 44 #[.slice (some ⟨g, off, none⟩) i c, .slice (some aa) (n - k) cc]).run Tryz.prog w.drew = .ok (.slice (some ⟨g, off, none⟩) p c) (w.drew.setCells g (off + i * 22) news) := fun aa cc hq => by
  rw [hnk]
  have h9 := run_append_room_cells (P := Tryz.prog) w.drew 44 44 40 ti Tryz.underlying44 hti g off i c aa (p - i) cc news (by rw [hts]; exact hnl) (fun j u hj => by
   obtain ⟨hj1, hj2⟩ := List.getElem?_eq_some_iff.1 hj
   rcases hq with hq | rfl
   ·rw [hnl, hq] at hj1; omega
   ·rw [Addr.add_mid]
    exact h.cell (by rw [← hng j (by omega), hj])) hno (by omega) (fun j hj => by
   rw [hts, h.cell (x := cur[off + i * 22 + j]'(by omega)) (Array.getElem?_eq_getElem (by omega))]; rfl) (fun j hj => h.frozen _)
  rw [hts, show i + (p - i) = p by omega] at h9
  exact h9
 have h2 := Sep.setCells news cur (off + i * 22) w.drew h
 obtain ⟨w2, hw2⟩ : ∃ q, q = w.drew.setCells g (off + i * 22) news := ⟨_, rfl⟩
 rw [← hw2] at h2 hrun
 have hclr : (Builtin.clear_ #[44] 0 #[.slice (some ⟨g, off + p * 22, none⟩) 1 (c - p)]).run Tryz.prog w2 = .ok (.tuple #[]) (w2.setCells g (off + p * 22) zs) := by
  rw [hzz]
  exact run_clear_rows (P := Tryz.prog) w2 44 40 0 z Tryz.underlying44 hzv hz1 g (off + p * 22) (c - p) (fun j hj => by
   have hj' : off + p * 22 + j < (writeAt cur (off + i * 22) news).size := by rw [writeAt_size]; omega
   rw [h2.cell (Array.getElem?_eq_getElem hj')]; rfl) (fun j hj => h2.frozen _)
 have h3 := Sep.setCells zs _ (off + p * 22) w2 h2
 have htk := taken_of (cur := cur) (off := off) hp hip (by omega) news hnl (by rw [hk]; exact hng) zs hzl
 have HF := Lib.hid (And.intro htk h3)
 have HR := Lib.hid hrun
 have HCL := Lib.hid hclr
 have i0 : (0 : Int) ≤ (i : Int) := by omega
 have ik : (i : Int) ≤ (k : Int) := by omega
 have kn : (k : Int) ≤ (n : Int) := by omega
 have nc : (n : Int) ≤ (c : Int) := by omega
 have ic : (i : Int) ≤ (c : Int) := by omega
 have k0 : (0 : Int) ≤ (k : Int) := by omega
 have n0 : (0 : Int) ≤ (n : Int) := by omega
 have ike : ((i : Int) == (k : Int)) = false := beq_eq_false_iff_ne.2 (by omega)
 have p0 : (0 : Int) ≤ (p : Int) := by omega
 have pn : (p : Int) ≤ (n : Int) := by omega
 have cp : ¬ c = p := by omega
 have np : n - p = 1 := by omega
 have kc : (k : Int) ≤ (c : Int) := by omega
 have ci : ¬ c = i := by omega
 have HPI : Hid (n = k → p - i = 0) := Lib.hid (by omega)
 have HCK : Hid (c = k → p - i = 0) := Lib.hid (by omega)
 clear h h2 h3 htk hrun hclr hw2 hp hip hk hnc hcm hsz hone hzv hzs hz1 hzz hzl hti hte hts hn2 hc2 hnw hkp hnl hng hno hnk
 by_cases hck : c = k
 ·subst hck
  as_aux_lemma =>
  go_enter Tryz.func38, Tryz.ntmps38
  (try dsimp only); repeat' (first | go_values | go_skip | go_guarded | go_step | go_upon | go_back)
  refine wp_region_G (fun w' => True) [6] (by kernel_rfl) trivial (fun hS => ?_)
  try dsimp only at hS
  refine wpAnyG_tk (i := 0) (v := ?v0_1dB) rfl (Or.inl ⟨by rfl, ?a_⟩) hS ?b_
  case a_ => intro w hSw; (try dsimp only at hSw); go_simp; (try with_reducible rfl)
  case b_ =>
  try simp only [nz0, nz1, nz2, Act.put, nz3, nz4, nz5]
  refine wpAnyG_tk (i := 1) (v := ?v1_2dB) rfl (Or.inl ⟨by rfl, ?a_⟩) hS ?b_
  case a_ => intro w hSw; (try dsimp only at hSw); go_simp; (try with_reducible rfl)
  case b_ =>
  try simp only [nz0, nz1, nz2, Act.put, nz3, nz4, nz5]
  refine wpAnyG_tk (i := 2) (v := ?v2_3dB) rfl (Or.inl ⟨by rfl, ?a_⟩) hS ?b_
  case a_ => intro w hSw; (try dsimp only at hSw); go_simp; (try with_reducible rfl)
  case b_ =>
  try simp only [nz0, nz1, nz2, Act.put, nz3, nz4, nz5]
  refine wpAnyG_tk (i := 3) (v := ?v3_4dB) rfl (Or.inl ⟨by rfl, ?a_⟩) hS ?b_
  case a_ => intro w hSw; (try dsimp only at hSw); go_simp; (try with_reducible rfl)
  case b_ =>
  try simp only [nz0, nz1, nz2, Act.put, nz3, nz4, nz5]
  refine wpAnyG_tk (i := 4) (v := ?v4_5dB) rfl (Or.inl ⟨by rfl, ?a_⟩) hS ?b_
  case a_ => intro w hSw; (try dsimp only at hSw); go_simp; (try with_reducible rfl)
  case b_ =>
  try simp only [nz0, nz1, nz2, Act.put, nz3, nz4, nz5]
  refine wpAnyG_tk (i := 5) (v := ?v5_6dB) rfl (Or.inl ⟨by rfl, ?a_⟩) hS ?b_
  case a_ => intro w hSw; (try dsimp only at hSw); go_simp; (try with_reducible rfl)
  case b_ =>
  try simp only [nz0, nz1, nz2, Act.put, nz3, nz4, nz5]
  refine wpAnyG_one (i := 6) (by kernel_rfl) rfl (fun K hK => ?_)
  have hr_ := HR.out ⟨g, off, none⟩ 0 (.inl (HCK.out rfl))
  refine step_append_run (by rfl) (.tmp 22) (.tmp 25) 44 44 (by rfl) _ _ (by rfl) (by rfl) hr_ ?_
  clear hr_
  refine hK.out _ _ (fun _ => ?hS7dB) ?rest7dB
  case hS7dB => exact trivial
  clear K hK
  try simp only [nz0, nz1, nz2, Act.put, nz3, nz4, nz5]
  refine wpAnyG_one (i := 7) (by kernel_rfl) rfl (fun K hK => ?_)
  go_simp
  refine hK.out _ _ (fun _ => ?hS8dB) ?rest8dB
  case hS8dB => exact trivial
  clear K hK
  try simp only [nz0, nz1, nz2, Act.put, nz3, nz4, nz5]
  refine wpAnyG_done (by kernel_rfl) ?_ _
  try simp only [nz0, nz1, nz2, Act.put, nz3, nz4, nz5]
  clear hS
  (try dsimp only); repeat' (first | go_values | go_skip | go_guarded | go_step | go_upon | go_back)
  rw [HCL.out]
  (try dsimp only); repeat' (first | go_values | go_skip | go_guarded | go_step | go_upon | go_back)
  go_ret
  exact ⟨rfl, _, HF.out.1, HF.out.2⟩
 ·as_aux_lemma =>
  go_enter Tryz.func38, Tryz.ntmps38
  (try dsimp only); repeat' (first | go_values | go_skip | go_guarded | go_step | go_upon | go_back)
  refine wp_region_G (fun w' => True) [6] (by kernel_rfl) trivial (fun hS => ?_)
  try dsimp only at hS
  refine wpAnyG_tk (i := 0) (v := ?v0_1dA) rfl (Or.inl ⟨by rfl, ?a_⟩) hS ?b_
  case a_ => intro w hSw; (try dsimp only at hSw); go_simp; (try with_reducible rfl)
  case b_ =>
  try simp only [nz0, nz1, nz2, Act.put, nz3, nz4, nz5]
  refine wpAnyG_tk (i := 1) (v := ?v1_2dA) rfl (Or.inl ⟨by rfl, ?a_⟩) hS ?b_
  case a_ => intro w hSw; (try dsimp only at hSw); go_simp; (try with_reducible rfl)
  case b_ =>
  try simp only [nz0, nz1, nz2, Act.put, nz3, nz4, nz5]
  refine wpAnyG_tk (i := 2) (v := ?v2_3dA) rfl (Or.inl ⟨by rfl, ?a_⟩) hS ?b_
  case a_ => intro w hSw; (try dsimp only at hSw); go_simp; (try with_reducible rfl)
  case b_ =>
  try simp only [nz0, nz1, nz2, Act.put, nz3, nz4, nz5]
  refine wpAnyG_tk (i := 3) (v := ?v3_4dA) rfl (Or.inl ⟨by rfl, ?a_⟩) hS ?b_
  case a_ => intro w hSw; (try dsimp only at hSw); go_simp; (try with_reducible rfl)
  case b_ =>
  try simp only [nz0, nz1, nz2, Act.put, nz3, nz4, nz5]
  refine wpAnyG_tk (i := 4) (v := ?v4_5dA) rfl (Or.inl ⟨by rfl, ?a_⟩) hS ?b_
  case a_ => intro w hSw; (try dsimp only at hSw); go_simp; (try with_reducible rfl)
  case b_ =>
  try simp only [nz0, nz1, nz2, Act.put, nz3, nz4, nz5]
  refine wpAnyG_tk (i := 5) (v := ?v5_6dA) rfl (Or.inl ⟨by rfl, ?a_⟩) hS ?b_
  case a_ => intro w hSw; (try dsimp only at hSw); go_simp; (try with_reducible rfl)
  case b_ =>
  try simp only [nz0, nz1, nz2, Act.put, nz3, nz4, nz5]
  refine wpAnyG_one (i := 6) (by kernel_rfl) rfl (fun K hK => ?_)
  have hr_ := HR.out ⟨g, off + k * 22, none⟩ (c - k) (.inr rfl)
  refine step_append_run (by rfl) (.tmp 22) (.tmp 25) 44 44 (by rfl) _ _ (by rfl) (by rfl) hr_ ?_
  clear hr_
  refine hK.out _ _ (fun _ => ?hS7dA) ?rest7dA
  case hS7dA => exact trivial
  clear K hK
  try simp only [nz0, nz1, nz2, Act.put, nz3, nz4, nz5]
  refine wpAnyG_one (i := 7) (by kernel_rfl) rfl (fun K hK => ?_)
  go_simp
  refine hK.out _ _ (fun _ => ?hS8dA) ?rest8dA
  case hS8dA => exact trivial
  clear K hK
  try simp only [nz0, nz1, nz2, Act.put, nz3, nz4, nz5]
  refine wpAnyG_done (by kernel_rfl) ?_ _
  try simp only [nz0, nz1, nz2, Act.put, nz3, nz4, nz5]
  clear hS
  (try dsimp only); repeat' (first | go_values | go_skip | go_guarded | go_step | go_upon | go_back)
  rw [HCL.out]
  (try dsimp only); repeat' (first | go_values | go_skip | go_guarded | go_step | go_upon | go_back)
  go_ret
  exact ⟨rfl, _, HF.out.1, HF.out.2⟩
end Go.Proofs.YtcnbmeiielkigaaGreatDoor
