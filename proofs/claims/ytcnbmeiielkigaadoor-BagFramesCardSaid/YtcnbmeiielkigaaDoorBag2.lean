/- Package bag: what a bag is; New, Len, check, Put. -/
import Derived.Test.YtcnbmeiielkigaaDoorBag1
import Derived.Test.YtcnbmeiielkigaaDoorHeldTill
import Derived.Test.YtcnbmeiielkigaaDoorHeldTwo
import Derived.Test.YtcnbmeiielkigaaDoorHeldCall
namespace Go.Proofs.YtcnbmeiielkigaaDoor
open Go Go.RowKit
set_option linter.unusedVariables false
set_option linter.unusedSimpArgs false
theorem MsgC.size {c : Array Value} {m : MsM} (h : MsgC c m) : c.size = 22 := by obtain ⟨_, _, _, _, _, _, rfl⟩ := h; rfl
theorem MsgC.one {c : Array Value} {m : MsM} (h : MsgC c m) : ∀ u ∈ c.toList, u.oneCell' = true := by
  obtain ⟨lv, cv, ev, h1, h2, h3, rfl⟩ := h
  intro u hu
  simp only [msC, List.mem_cons, List.not_mem_nil, or_false] at hu
  rcases hu with rfl | rfl | rfl | rfl | rfl | rfl | rfl | rfl | rfl | rfl | rfl | rfl | rfl | rfl | rfl | rfl | rfl | rfl | rfl | rfl | rfl | rfl <;> first | rfl | exact h1.one | exact h2.one | exact h3.one
/-- Rows of cells, as messages. -/
def MsgsC (rows : List (Array Value)) (ms : List MsM) : Prop := rows.length = ms.length ∧ ∀ k (h : k < rows.length) (h' : k < ms.length), MsgC rows[k] ms[k]
theorem MsgsC.nil : MsgsC [] [] := ⟨rfl, fun k h => by simp at h⟩
theorem MsgsC.r22 {rows : List (Array Value)} {ms : List MsM} (h : MsgsC rows ms) : Rows22 rows := by
  intro c hc
  obtain ⟨k, hk, rfl⟩ := List.getElem_of_mem hc
  exact (h.2 k hk (by rw [← h.1]; exact hk)).size
theorem MsgsC.snoc {rows : List (Array Value)} {ms : List MsM} {c : Array Value} {m : MsM} (h : MsgsC rows ms) (hc : MsgC c m) : MsgsC (rows ++ [c]) (ms ++ [m]) := by
  refine ⟨by rw [List.length_append, List.length_append, h.1]; rfl, fun k h1 h2 => ?_⟩
  by_cases hk : k < rows.length
  · rw [List.getElem_append_left hk, List.getElem_append_left (by rw [← h.1]; exact hk)]
    exact h.2 k hk _
  · have hk2 : k = rows.length := by rw [List.length_append, List.length_singleton] at h1; omega
    subst hk2
    rw [List.getElem_append_right (Nat.le_refl _), List.getElem_append_right (by rw [h.1]; exact Nat.le_refl _)]
    simpa using hc
def BagB (g : Nat) (ms : List MsM) (p : Value × List (Array Value)) : Thing := Both (Fact (MsgsC p.2 ms)) (Both (Cl g #[.bool true, p.1] 61) (Ro 22 43 p.1 ms.length (msCs p.2)))
theorem loc_bagB (g : Nat) (ms : List MsM) (p : Value × List (Array Value)) : Loc (BagB g ms p) := loc_both (loc_fact _) (loc_both (loc_blk _ _) (loc_ro _ _ _ _ _))
/-- A bag with such messages. -/
def BagT (g : Nat) (ms : List MsM) : Thing := Ex (BagB g ms)
theorem Sep.bagOpen {w0 w : World} {g : Nat} {ms : List MsM} {L : List Thing} (h : Sep w0 (BagT g ms :: L) w) : ∃ a c rows, MsgsC rows ms ∧ Sep w0 (Cl g #[.bool true, .slice a ms.length c] 61 :: Ro 22 43 (.slice a ms.length c) ms.length (msCs rows) :: L) w := by
  obtain ⟨⟨v, rows⟩, h1⟩ := h.ex (loc_bagB g ms)
  have h2 := Sep.both h1 (loc_fact _) (loc_both (loc_blk _ _) (loc_ro _ _ _ _ _))
  have hm := h2.fact
  have h3 := Sep.both h2.drop (loc_blk _ _) (loc_ro _ _ _ _ _)
  obtain ⟨a, c, hv, -⟩ := h3.sw2.roForm
  dsimp only at hm hv h3
  subst hv
  exact ⟨a, c, rows, hm, h3⟩
theorem Sep.bagClose {w0 w : World} {g : Nat} {v : Value} {ms : List MsM} {rows : List (Array Value)} {L : List Thing} (hm : MsgsC rows ms) (h : Sep w0 (Cl g #[.bool true, v] 61 :: Ro 22 43 v ms.length (msCs rows) :: L) w) : Sep w0 (BagT g ms :: L) w :=
  Sep.give (A := BagB g ms) (v, rows) (h.join.say hm).join (loc_bagB g ms)
theorem bnew_any {w0 w : World} {L : List Thing} (h : Sep w0 L w) : Calls Tryd.prog 8 #[] w fun e w' => ∃ g, e = .returned (.pointer (some ⟨g, 0, none⟩)) ∧ Sep w0 (BagT g [] :: L) w' := by
  have h1 : Sep w0 (Cl w.heap.size #[.bool true, .slice none 0 0] 61 :: Ro 22 43 (.slice none 0 0) 0 (msCs []) :: L) _ := ((h.rnNil 22 43).roOf).alloc (.cells #[.bool true, .slice none 0 0] 61)
  have H1 := Lib.hid (Sep.bagClose (ms := []) (rows := []) MsgsC.nil h1)
  clear h h1
  go_enter Tryd.func8, Tryd.ntmps8
  (try dsimp only); repeat' (first | go_values | go_skip | go_guarded | go_step | go_upon | go_back)
  go_ret
  exact ⟨_, rfl, H1.out⟩
theorem bnone_any {g : Nat} {w : World} (h : w.cell? ⟨g, 0, none⟩ = some (.bool true)) : Calls Tryd.prog 24 #[.pointer (some ⟨g, 0, none⟩)] w fun e w' => e = .returned (.bool false) ∧ w = w' := by
  go_enter Tryd.func24, Tryd.ntmps24
  (try dsimp only); repeat' (first | go_values | go_skip | go_guarded | go_step | go_upon | go_back)
  go_ret
  exact ⟨rfl, rfl⟩
theorem blen_any {w0 w : World} {g : Nat} {ms : List MsM} {L : List Thing} (h : Sep w0 (BagT g ms :: L) w) : Calls Tryd.prog 20 #[.pointer (some ⟨g, 0, none⟩)] w fun e w' => e = .returned (.int .i64 (ms.length : Nat)) ∧ w = w' := by
  obtain ⟨a, c, rows, hm, h1⟩ := h.bagOpen
  have HN := Lib.hid (bnone_any (h1.cell (o := 0) rfl))
  have c1 := h1.cell (o := 1) rfl
  clear h h1 hm
  generalize ms.length = n at *
  go_enter Tryd.func20, Tryd.ntmps20
  (try dsimp only); repeat' (first | go_values | go_skip | go_guarded | go_step | go_upon | go_back)
  refine HN.out.mono ?_
  rintro r0 w1 ⟨rfl, rfl⟩
  clear HN
  (try dsimp only); repeat' (first | go_values | go_skip | go_guarded | go_step | go_upon | go_back)
  go_ret
  exact ⟨rfl, rfl⟩
theorem bchk_ok {w0 w : World} {g : Nat} {ms : List MsM} {L : List Thing} (i : Nat) (h : Sep w0 (BagT g ms :: L) w) (hi : i < ms.length) : Calls Tryd.prog 27 #[.pointer (some ⟨g, 0, none⟩), .int .i64 i] w fun e w' => e = .returned (.int .i64 0) ∧ w = w' := by
  obtain ⟨a, c, rows, hm, h1⟩ := h.bagOpen
  have HN := Lib.hid (bnone_any (h1.cell (o := 0) rfl))
  have c1 := h1.cell (o := 1) rfl
  clear h h1 hm
  generalize ms.length = n at *
  have i0 : decide ((i : Int) < 0) = false := decide_eq_false (by omega)
  have i1 : decide ((n : Int) ≤ (i : Int)) = false := decide_eq_false (by omega)
  have i2 : decide (n ≤ i) = false := decide_eq_false (by omega)
  clear hi
  go_enter Tryd.func27, Tryd.ntmps27
  (try dsimp only); repeat' (first | go_values | go_skip | go_guarded | go_step | go_upon | go_back)
  refine HN.out.mono ?_
  rintro r0 w1 ⟨rfl, rfl⟩
  clear HN
  (try dsimp only); repeat' (first | go_values | go_skip | go_guarded | go_step | go_upon | go_back)
  go_ret
  exact ⟨rfl, rfl⟩
theorem bchk_bad {w0 w : World} {g : Nat} {ms : List MsM} {L : List Thing} (i : Nat) (h : Sep w0 (BagT g ms :: L) w) (hi : ms.length ≤ i) : Calls Tryd.prog 27 #[.pointer (some ⟨g, 0, none⟩), .int .i64 i] w fun e w' => e = .returned (.int .i64 9) ∧ w = w' := by
  obtain ⟨a, c, rows, hm, h1⟩ := h.bagOpen
  have HN := Lib.hid (bnone_any (h1.cell (o := 0) rfl))
  have c1 := h1.cell (o := 1) rfl
  clear h h1 hm
  generalize ms.length = n at *
  have i0 : decide ((i : Int) < 0) = false := decide_eq_false (by omega)
  have i1 : decide ((n : Int) ≤ (i : Int)) = true := decide_eq_true (by omega)
  have i2 : decide (n ≤ i) = true := decide_eq_true (by omega)
  clear hi
  go_enter Tryd.func27, Tryd.ntmps27
  (try dsimp only); repeat' (first | go_values | go_skip | go_guarded | go_step | go_upon | go_back)
  refine HN.out.mono ?_
  rintro r0 w1 ⟨rfl, rfl⟩
  clear HN
  (try dsimp only); repeat' (first | go_values | go_skip | go_guarded | go_step | go_upon | go_back)
  go_ret
  exact ⟨rfl, rfl⟩
theorem append_mo {w0 w : World} {v : Value} {n : Nat} {rows : List (Array Value)} {c : Array Value} {b : Nat} {L : List Thing} (ty : TypeId) (h : Sep w0 (Cl b c 43 :: Ro 22 43 v n (msCs rows) :: L) w) (hc : c.size = 22) (h1 : ∀ u ∈ c.toList, u.oneCell' = true) (hl : n ≤ 10000000) :
    ∃ a k w', (Builtin.append_ #[58, 58] ty #[v, .slice (some ⟨b, 0, none⟩) 1 1]).run Tryd.prog w = .ok (.slice a (n + 1) k) w' ∧ Sep w0 (Ro 22 43 (.slice a (n + 1) k) (n + 1) (msCs (rows ++ [c])) :: L) w' := by
  obtain ⟨i, hi, he⟩ := Option.map_eq_some_iff.1 infoMs
  simp only [Prod.mk.injEq, decide_eq_true_eq] at he
  obtain ⟨z, hz, hz2⟩ := Option.map_eq_some_iff.1 he.2.2
  have hcs : ∀ j u', c.toList[j]? = some u' → w.cell? ⟨b, 0 + j, none⟩ = some u' := fun j u' hj => by
    rw [Nat.zero_add]
    exact h.cell (by simpa using hj)
  obtain ⟨v', w', hr, h2⟩ := append_ro (P := Tryd.prog) (ty := ty) (m := 1) (c := 1) Tryd.underlying58 hi hz he.1 he.2.1 hz2 (by decide) h.sw2 (news := c.toList) (by rw [Array.length_toList, hc]) (by decide) hcs h1 (by omega)
  obtain ⟨a, k, rfl, -⟩ := h2.roForm
  refine ⟨a, k, w', hr, ?_⟩
  have h3 := h2.sw2.drop
  have e : msCs rows ++ c.toList = msCs (rows ++ [c]) := by rw [msCs_app]; simp [msCs]
  rw [e] at h3
  exact h3
theorem step_load_run {P : Program} {ops : Array Oper} {o : Oper} {a : Act} {w : World} {K : Act → World → Prop} {Q : Exit → Act → World → Prop} {E : Prop}
    (hg : o.guard = none) (t : TypeId) (x : Operand) (hop : o.op = .load t x) (p v : Value) (hx : a.eval x = p) (hr : (Instr.loadAt t p).run P w = .ok v w) (hK : K (a.put o.dst v) w) :
    if Region.wanted o (yielded ops a.tmps) = true then Oper.wp P o a w K Q else E := by
  have hw : Region.wanted o (yielded ops a.tmps) = true := by simp [Region.wanted, hg]
  rw [if_pos hw]
  exact opwp_load_run t x hop p v hx hr hK
/-- What msg.Check answers of a message that may be. -/
def ChkOk (w0 : World) (m : MsM) : Prop := ∀ (wx : World) (M : List Thing) (c : Array Value), Sep w0 M wx → MsgC c m → Calls Tryd.prog 19 #[.agg c] wx fun e w' => e = .returned (.int .i64 0) ∧ Sep w0 M w'
set_option maxRecDepth 100000 in
set_option maxHeartbeats 16000000 in
theorem bput_any {w0 w : World} {g : Nat} {ms : List MsM} {L : List Thing} (m : MsM) {cm : Array Value} (h : Sep w0 (BagT g ms :: L) w) (hc : MsgC cm m) (hk : ChkOk w0 m) (hl : ms.length < 2000) :
    Calls Tryd.prog 10 #[.pointer (some ⟨g, 0, none⟩), .agg cm] w fun e w' => e = .returned (.int .i64 0) ∧ Sep w0 (BagT g (ms ++ [m]) :: L) w' := by
  obtain ⟨a, c, rows, hm, h1⟩ := h.bagOpen
  have h2 := h1.alloc (.cells cm 43)
  have HN := Lib.hid (bnone_any (h2.sw2.cell (o := 0) rfl))
  have HL := Lib.hid (h2.loadW 43 Tryd.underlying43 rfl (by rw [hc.size]; kernel_rfl))
  have HCK := Lib.hid (hk _ _ cm h2 hc)
  obtain ⟨b3, hb3⟩ : ∃ z, z = w.heap.size := ⟨_, rfl⟩
  obtain ⟨w1, hw1⟩ : ∃ z, z = w.alloc (.cells cm 43) := ⟨_, rfl⟩
  rw [← hw1] at HN HL HCK
  rw [← hb3] at HL HCK
  obtain ⟨n, hn⟩ : ∃ z, z = ms.length := ⟨_, rfl⟩
  have HM := Lib.hid (And.intro hc (And.intro hm hn))
  rw [← hn] at HCK
  have n0 : (0 : Int) ≤ (n : Int) := by omega
  have n1 : ¬ (2000 : Int) ≤ (n : Int) := by omega
  have n2 : decide ((2000 : Int) ≤ (n : Int)) = false := decide_eq_false n1
  have n3 : decide (2000 ≤ n) = false := decide_eq_false (by omega)
  have HNL := Lib.hid (show n < 2000 by omega)
  clear h h1 h2 hc hk hl hm hn
  go_enter Tryd.func10, Tryd.ntmps10
  (try dsimp only); repeat' (first | go_values | go_skip | go_guarded | go_step | go_upon | go_back)
  rw [← hw1, ← hb3]
  clear hw1 hb3
  refine HN.out.mono ?_
  rintro r0 w2 ⟨rfl, rfl⟩
  clear HN
  (try dsimp only); repeat' (first | (with_reducible show wpList _ _ _ (Oper.mk _ (Op.load 43 _) _ _ _ _ :: _) _ _; refine stopP ?_) | go_values | go_skip | go_guarded | go_step | go_upon | go_back)
  unfold StopP
  have hq_ := HL.out
  refine wpList_load_run rfl 43 _ rfl _ _ rfl hq_ ?_
  clear hq_
  (try dsimp only); repeat' (first | go_values | go_skip | go_guarded | go_step | go_upon | go_back)
  refine HCK.out.mono ?_
  rintro r0 w2 ⟨rfl, h3⟩
  have c1 := h3.sw2.cell (o := 1) rfl
  have HMC := Lib.hid (mcopyz_any m h3.drew HM.out.1)
  have hld := h3.drew.loadW 43 Tryd.underlying43 rfl (by rw [HM.out.1.size]; kernel_rfl)
  clear HCK h3
  (try dsimp only); repeat' (first | go_values | go_skip | go_guarded | go_step | go_upon | go_back)
  refine wp_region_G (fun w' => w'.cell? ⟨g, 1, none⟩ = some (.slice a n c)) [11] (by kernel_rfl) c1 (fun hS => ?_)
  try dsimp only at hS
  refine wpAnyG_take' (i := 0) (v := ?v0_1bp) rfl (by kernel_rfl) (by kernel_rfl) (by kernel_rfl) (by kernel_rfl) (fun _ _ _ h => h) (Or.inl ⟨by rfl, ?hy0_1bp⟩) hS ?rest0_1bp
  case hy0_1bp => intro w hSw; (try dsimp only at hSw); go_simp; (try with_reducible rfl)
  case rest0_1bp =>
  try simp only [List.getElem_toArray, List.getElem_cons_succ, List.getElem_cons_zero, Act.put, List.setIfInBounds_toArray, List.set_cons_zero, List.set_cons_succ]
  refine wpAnyG_take' (i := 1) (v := ?v1_2bp) rfl (by kernel_rfl) (by kernel_rfl) (by kernel_rfl) (by kernel_rfl) (fun _ _ _ h => h) (Or.inl ⟨by rfl, ?hy1_2bp⟩) hS ?rest1_2bp
  case hy1_2bp => intro w hSw; (try dsimp only at hSw); go_simp; (try with_reducible rfl)
  case rest1_2bp =>
  try simp only [List.getElem_toArray, List.getElem_cons_succ, List.getElem_cons_zero, Act.put, List.setIfInBounds_toArray, List.set_cons_zero, List.set_cons_succ]
  refine wpAnyG_take' (i := 2) (v := ?v2_3bp) rfl (by kernel_rfl) (by kernel_rfl) (by kernel_rfl) (by kernel_rfl) (fun _ _ _ h => h) (Or.inl ⟨by rfl, ?hy2_3bp⟩) hS ?rest2_3bp
  case hy2_3bp => intro w hSw; (try dsimp only at hSw); go_simp; (try with_reducible rfl)
  case rest2_3bp =>
  try simp only [List.getElem_toArray, List.getElem_cons_succ, List.getElem_cons_zero, Act.put, List.setIfInBounds_toArray, List.set_cons_zero, List.set_cons_succ]
  refine wpAnyG_take' (i := 3) (v := ?v3_4bp) rfl (by kernel_rfl) (by kernel_rfl) (by kernel_rfl) (by kernel_rfl) (fun _ _ _ h => h) (Or.inl ⟨by rfl, ?hy3_4bp⟩) hS ?rest3_4bp
  case hy3_4bp => intro w hSw; (try dsimp only at hSw); go_simp; (try with_reducible rfl)
  case rest3_4bp =>
  try simp only [List.getElem_toArray, List.getElem_cons_succ, List.getElem_cons_zero, Act.put, List.setIfInBounds_toArray, List.set_cons_zero, List.set_cons_succ]
  refine wpAnyG_take' (i := 4) (v := ?v4_5bp) rfl (by kernel_rfl) (by kernel_rfl) (by kernel_rfl) (by kernel_rfl) (fun _ _ _ h => h) (Or.inl ⟨by rfl, ?hy4_5bp⟩) hS ?rest4_5bp
  case hy4_5bp => intro w hSw; (try dsimp only at hSw); go_simp; (try with_reducible rfl)
  case rest4_5bp =>
  try simp only [List.getElem_toArray, List.getElem_cons_succ, List.getElem_cons_zero, Act.put, List.setIfInBounds_toArray, List.set_cons_zero, List.set_cons_succ]
  refine wpAnyG_one (i := 5) (by kernel_rfl) rfl (fun K hK => ?_)
  refine step_load_run (by rfl) 43 _ (by rfl) _ _ (by rfl) hld ?_
  clear hld
  refine hK.out _ _ (fun _ => ?hS6bp) ?rest6bp
  case hS6bp => exact c1
  clear K hK
  try simp only [List.getElem_toArray, List.getElem_cons_succ, List.getElem_cons_zero, Act.put, List.setIfInBounds_toArray, List.set_cons_zero, List.set_cons_succ]
  refine wpAnyG_one (i := 6) (by kernel_rfl) rfl (fun K hK => ?_)
  go_simp
  refine Calls.mono HMC.out ?_
  rintro r6 w6 ⟨u, hu, rfl, h6⟩
  have k1 := h6.sw2.cell (o := 1) rfl
  have h7 := h6.alloc (.cells u 43)
  have k2 := h7.sw3.cell (o := 1) rfl
  obtain ⟨a8, c8, w8, hr, h8⟩ := append_mo (ty := 58) (h7.pickL (M := [_, _, _, _]) [0, 3, 2] rfl) hu.size hu.one (by have := HNL.out; omega)
  have k3 := h8.sw2.cell (o := 1) rfl
  have kf := h8.sw2.frozen 1
  have h9 : Sep w0 (Cl g #[.bool true, .slice a8 (n + 1) c8] 61 :: Ro 22 43 (.slice a8 (n + 1) c8) (n + 1) (msCs (rows ++ [u])) :: L) (w8.setCell ⟨g, 1, none⟩ (.slice a8 (n + 1) c8)) := h8.sw2.setCell 1 (.slice a8 (n + 1) c8)
  have hms := HM.out.2.1.snoc hu
  have hnn : n + 1 = (ms ++ [m]).length := by rw [List.length_append, ← HM.out.2.2]; rfl
  have H9 : Hid (Sep w0 (BagT g (ms ++ [m]) :: L) _) := Lib.hid (Sep.bagClose hms (by rw [← hnn]; exact h9))
  have HR := Lib.hid hr
  have HUS := Lib.hid hu.size
  clear h6 h7 h8 h9 hr hu hms hnn HMC HM
  (try dsimp only); repeat' (first | go_values | go_skip | go_guarded | go_step | go_upon | go_back)
  refine hK.out _ _ (fun _ => ?hS7bp) ?rest7bp
  case hS7bp => exact k1
  clear K hK
  try simp only [List.getElem_toArray, List.getElem_cons_succ, List.getElem_cons_zero, Act.put, List.setIfInBounds_toArray, List.set_cons_zero, List.set_cons_succ]
  refine wpAnyG_one (i := 7) (by kernel_rfl) rfl (fun K hK => ?_)
  refine step_buildM (by rfl) _ (by rfl) HUS.out (by rfl) ?_
  refine hK.out _ _ (fun _ => ?hS8bp) ?rest8bp
  case hS8bp => exact k2
  clear K hK
  try simp only [List.getElem_toArray, List.getElem_cons_succ, List.getElem_cons_zero, Act.put, List.setIfInBounds_toArray, List.set_cons_zero, List.set_cons_succ]
  refine wpAnyG_one (i := 8) (by kernel_rfl) rfl (fun K hK => ?_)
  refine step_append_run (by rfl) (.tmp 23) (.tmp 26) 58 58 (by rfl) _ _ (by rfl) (by rfl) HR.out ?_
  refine hK.out _ _ (fun _ => ?hS9bp) ?rest9bp
  case hS9bp => exact k3
  clear K hK
  try simp only [List.getElem_toArray, List.getElem_cons_succ, List.getElem_cons_zero, Act.put, List.setIfInBounds_toArray, List.set_cons_zero, List.set_cons_succ]
  refine wpAnyG_take' (i := 9) (v := ?v9_10bp) rfl (by kernel_rfl) (by kernel_rfl) (by kernel_rfl) (by kernel_rfl) (fun _ _ _ h => h) (Or.inl ⟨by rfl, ?hy9_10bp⟩) k3 ?rest9_10bp
  case hy9_10bp => intro w hSw; (try dsimp only at hSw); go_simp; (try with_reducible rfl)
  case rest9_10bp =>
  try simp only [List.getElem_toArray, List.getElem_cons_succ, List.getElem_cons_zero, Act.put, List.setIfInBounds_toArray, List.set_cons_zero, List.set_cons_succ]
  refine wpAnyG_take' (i := 10) (v := ?v10_11bp) rfl (by kernel_rfl) (by kernel_rfl) (by kernel_rfl) (by kernel_rfl) (fun _ _ _ h => h) (Or.inl ⟨by rfl, ?hy10_11bp⟩) k3 ?rest10_11bp
  case hy10_11bp => intro w hSw; (try dsimp only at hSw); go_simp; (try with_reducible rfl)
  case rest10_11bp =>
  try simp only [List.getElem_toArray, List.getElem_cons_succ, List.getElem_cons_zero, Act.put, List.setIfInBounds_toArray, List.set_cons_zero, List.set_cons_succ]
  refine wpAnyG_one (i := 11) (by kernel_rfl) rfl (fun K hK => ?_)
  go_simp
  refine hK.out _ _ (fun hno => by cases hno) ?_
  clear K hK
  try simp only [List.getElem_toArray, List.getElem_cons_succ, List.getElem_cons_zero, Act.put, List.setIfInBounds_toArray, List.set_cons_zero, List.set_cons_succ]
  refine wpAnyG_done (by kernel_rfl) ?_ _
  try simp only [List.getElem_toArray, List.getElem_cons_succ, List.getElem_cons_zero, Act.put, List.setIfInBounds_toArray, List.set_cons_zero, List.set_cons_succ]
  clear hS
  (try dsimp only); repeat' (first | go_values | go_skip | go_guarded | go_step | go_upon | go_back)
  go_ret
  exact ⟨rfl, H9.out⟩
end Go.Proofs.YtcnbmeiielkigaaDoor
