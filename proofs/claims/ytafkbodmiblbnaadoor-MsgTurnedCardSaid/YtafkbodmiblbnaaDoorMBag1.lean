/- Messages without lists, copied. -/
import Derived.Test.YtafkbodmiblbnaaDoorMZ29
namespace Go.Proofs.YtafkbodmiblbnaaDoor
open Go Go.RowKit
set_option linter.unusedVariables false
set_option linter.unusedSimpArgs false
theorem Sep.nilOf {w0 w : World} {sz : Nat} {e : TypeId} {v : Value} {xs : List Value} {L : List Thing} (h : Sep w0 (Rn sz e v 0 xs :: L) w) : NilL v := by
  rcases h.rn.2 with ⟨rfl, _⟩ | ⟨g, c, cur, rfl, _⟩
  · exact nil0
  · exact ⟨_, _, rfl, fun h => by cases h⟩
theorem Sep.thereAt {w0 w : World} {b : Nat} {Z : Array Value} {t : TypeId} {L : List Thing} (h : Sep w0 (Cl b Z t :: L) w) (o n : Nat) (hZ : o + n ≤ Z.size) : w.there b o n := fun j hj => by
  refine ⟨?_, h.frozen _⟩
  rw [h.cell (o := o + j) (Array.getElem?_eq_getElem (by omega))]
  rfl
theorem icopyz_any {w0 w : World} {L : List Thing} {v : Value} (h : Sep w0 L w) (hv : NilL v) : Calls Tryd.prog 65 #[opZV v] w fun e w' => ∃ u, NilL u ∧ e = .returned (opZV u) ∧ Sep w0 L w' :=
  (copy_any 0 zS 0 0 v [] h (hv.ln w) (by simp)).mono fun e w' ⟨u, he, h2⟩ => ⟨u, h2.nilOf, he, h2.drop⟩
set_option maxRecDepth 100000 in
set_option maxHeartbeats 4000000 in
theorem ecopyz_any {w0 w : World} {L : List Thing} {v : Value} (c m : Int) (h : Sep w0 L w) (hv : NilL v) : Calls Tryd.prog 42 #[.agg (enZC c m v)] w fun e w' => ∃ u, NilL u ∧ e = .returned (.agg (enZC c m u)) ∧ Sep w0 L w' := by
  have h1 := (h.alloc (.cells (enZC c m v) 32)).alloc (.cells #[.int .i64 0, .int .i64 0, .int .i64 0, .string ⟨#[]⟩, .int .i64 0, .int .i64 0, .slice none 0 0] 32)
  rw [show (w.alloc (.cells (enZC c m v) 32)).heap.size = w.heap.size + 1 by simp] at h1
  have HC := Lib.hid (icopyz_any h1 hv)
  obtain ⟨b1, hb1⟩ : ∃ z, z = w.heap.size := ⟨_, rfl⟩
  obtain ⟨b2, hb2⟩ : ∃ z, z = w.heap.size + 1 := ⟨_, rfl⟩
  rw [← hb2, ← hb1] at HC
  unfold enZC at *
  obtain ⟨c0, c1, c2, c3, c4, c5, c6⟩ := (show _ ∧ _ ∧ _ ∧ _ ∧ _ ∧ _ ∧ _ from ⟨h1.sw2.cell (o := 0) rfl, h1.sw2.cell (o := 1) rfl, h1.sw2.cell (o := 2) rfl, h1.sw2.cell (o := 3) rfl, h1.sw2.cell (o := 4) rfl, h1.sw2.cell (o := 5) rfl, h1.sw2.cell (o := 6) rfl⟩)
  clear h h1 hv
  go_enter Tryd.func42, Tryd.ntmps42
  (try dsimp only); repeat' (first | go_values | go_skip | go_guarded | go_step | go_upon | go_back)
  rw [← hb2, ← hb1]
  refine HC.out.mono ?_
  rintro r0 w1 ⟨u, hu, rfl, h2⟩
  clear c0 c1 c2 c3 c4 c5 c6 hb1 hb2 HC
  obtain ⟨au, cu, rfl, -⟩ := id hu
  have HTH := Lib.hid (h2.sw2.thereAt 2 5 (by simp))
  have h3 := Sep.setCells [.int .i64 0, .string ⟨#[]⟩, .int .i64 0, .int .i64 0, .slice au 0 cu] _ 2 _ h2.sw2
  rw [show writeAt #[.int .i64 c, .int .i64 m, .int .i64 0, .string ⟨#[]⟩, .int .i64 0, .int .i64 0, v] 2 [.int .i64 0, .string ⟨#[]⟩, .int .i64 0, .int .i64 0, .slice au 0 cu] = #[.int .i64 c, .int .i64 m, .int .i64 0, .string ⟨#[]⟩, .int .i64 0, .int .i64 0, .slice au 0 cu] by simp [writeAt]] at h3
  obtain ⟨w2, hw2⟩ : ∃ z, z = w1.setCells b1 2 [.int .i64 0, .string ⟨#[]⟩, .int .i64 0, .int .i64 0, .slice au 0 cu] := ⟨_, rfl⟩
  rw [← hw2] at h3
  have HL := Lib.hid (h3.loadW 32 Tryd.underlying32 rfl (by kernel_rfl))
  have HT2 := Lib.hid (h3.sw2.thereAt 0 7 (by simp))
  have h4 := h3.sw2.storeW #[.int .i64 c, .int .i64 m, .int .i64 0, .string ⟨#[]⟩, .int .i64 0, .int .i64 0, .slice au 0 cu] rfl
  have HV := Lib.hid (h4.loadV 32 Tryd.underlying32 rfl (by kernel_rfl))
  have H4 := Lib.hid h4.drop.drop
  have HU := Lib.hid hu
  clear h2 h3 h4 hu
  unfold opZV
  (try dsimp only); repeat' (first | (with_reducible show wpList _ _ _ (Oper.mk _ (Op.store 30 _ _) _ _ _ _ :: _) _ _; refine stopP ?_) | go_values | go_skip | go_guarded | go_step | go_upon | go_back)
  unfold StopP
  refine wpList_store_mid rfl 30 (.tmp 6) (.tmp 5) rfl b1 2 #[.int .i64 0, .string ⟨#[]⟩, .int .i64 0, .int .i64 0, .slice au 0 cu] rfl rfl HTH.out (by kernel_rfl) (by first | kernel_rfl | assumption) ?_
  show wpList _ _ _ _ _ (w1.setCells b1 2 [.int .i64 0, .string ⟨#[]⟩, .int .i64 0, .int .i64 0, .slice au 0 cu])
  rw [← hw2]
  clear hw2 HTH
  (try dsimp only); repeat' (first | (with_reducible show wpList _ _ _ (Oper.mk _ (Op.load 32 _) _ _ _ _ :: _) _ _; refine stopP ?_) | go_values | go_skip | go_guarded | go_step | go_upon | go_back)
  unfold StopP
  have hq_ := HL.out
  refine wpList_load_run rfl 32 _ rfl _ _ rfl hq_ ?_
  clear hq_
  (try dsimp only); repeat' (first | (with_reducible show wpList _ _ _ (Oper.mk _ (Op.store 32 _ _) _ _ _ _ :: _) _ _; refine stopP ?_) | go_values | go_skip | go_guarded | go_step | go_upon | go_back)
  unfold StopP
  refine wpList_store_mid rfl 32 (.tmp 2) (.tmp 7) rfl b2 0 #[.int .i64 c, .int .i64 m, .int .i64 0, .string ⟨#[]⟩, .int .i64 0, .int .i64 0, .slice au 0 cu] rfl rfl HT2.out (by kernel_rfl) (by first | kernel_rfl | assumption) ?_
  (try dsimp only); repeat' (first | go_values | go_skip | go_guarded | go_step | go_upon | go_back)
  exact bodyPost_ret (results_cell rfl rfl HV.out) rfl ⟨_, HU.out, rfl, H4.out⟩
theorem infoE7 : (Tryd.prog.info? 32).map (fun i => (i.size, decide (i.bytes ≤ 256), i.zero.map (·.cells.size))) = some (7, true, some 7) := by kernel_rfl
theorem append_zero {P : Program} (w : World) (t ty e : TypeId) (i : TypeInfo) (ht : P.underlying t = some (.slice e)) (hi : P.info? e = some i) (b off n c : Nat) (hn : n ≤ c) (a : Addr) (k : Nat) :
    (Builtin.append_ #[t, t] ty #[.slice (some ⟨b, off, none⟩) n c, .slice (some a) 0 k]).run P w = .ok (.slice (some ⟨b, off, none⟩) n c) w :=
  run_append_room_cells (P := P) w t ty e i ht hi b off n c a 0 k [] (by simp) (fun j u hj => by simp at hj) (fun u hu => by simp at hu) (by omega) (fun j hj => by simp at hj) (fun j hj => by simp at hj)
theorem infoBy1 : (Tryd.prog.info? 5).map (·.size) = some 1 := by kernel_rfl
theorem cloneBz_any {w0 w : World} {L : List Thing} {v : Value} (h : Sep w0 L w) (hv : NilL v) : Calls Tryd.prog 45 #[v] w fun e w' => ∃ u, NilL u ∧ e = .returned u ∧ Sep w0 L w' := by
  obtain ⟨a, c, rfl, hac⟩ := hv
  cases a with
  | none =>
    have e1 := fun w => Lib.run_eql_slice_nil (P := Tryd.prog) w 24 5 none 0 c 0 0 Tryd.underlying24
    have H := Lib.hid h
    clear h hac
    go_enter Tryd.func45, Tryd.ntmps45
    (try dsimp only); repeat' (first | go_values | go_skip | go_guarded | go_step | go_upon | go_back)
    go_ret
    exact ⟨_, nil0, rfl, H.out⟩
  | some x =>
    have e1 := fun w => Lib.run_eql_slice_nil (P := Tryd.prog) w 24 5 (some x) 0 c 0 0 Tryd.underlying24
    obtain ⟨i, hi, -⟩ := Option.map_eq_some_iff.1 infoBy1
    have H1 := Lib.hid (append_zero (P := Tryd.prog) (w.alloc (.cells #[] 5)) 24 24 5 i Tryd.underlying24 hi w.heap.size 0 0 0 (Nat.le_refl _) x c)
    have H := Lib.hid (h.alloc0 (.cells #[] 5))
    clear h hac hi
    go_enter Tryd.func45, Tryd.ntmps45
    (try dsimp only); repeat' (first | (at_builtin; refine stopP ?_) | go_values | go_skip | go_guarded | go_step | go_upon | go_back)
    unfold StopP
    refine wpList_append_r rfl _ _ _ _ rfl rfl rfl H1.out ?_
    (try dsimp only); repeat' (first | go_values | go_skip | go_guarded | go_step | go_upon | go_back)
    go_ret
    exact ⟨_, ⟨_, _, rfl, fun h => by cases h⟩, rfl, H.out⟩
set_option maxRecDepth 100000 in
theorem lcopyz_any {w0 w : World} {L : List Thing} {v : Value} (h : Sep w0 L w) (hv : NilL v) : Calls Tryd.prog 46 #[v, .func (.func 42) #[] #[]] w fun e w' => ∃ u, NilL u ∧ e = .returned u ∧ Sep w0 L w' := by
  obtain ⟨a, c, rfl, hac⟩ := hv
  obtain ⟨i, hi, he⟩ := Option.map_eq_some_iff.1 infoE7
  simp only [Prod.mk.injEq, decide_eq_true_eq] at he
  obtain ⟨z, hz, hz2⟩ := Option.map_eq_some_iff.1 he.2.2
  obtain ⟨w1, hmk, hown, hgr⟩ := run_make_own (P := Tryd.prog) w w.heap.size 35 32 i z 7 Tryd.underlying35 hi hz he.1 .i64 .i64 0 (by omega) (by unfold maxLen; omega) (Nat.le_refl _)
  have HM := Lib.hid hmk
  have H := Lib.hid (h.below (show Below w.heap.size w w1 from ⟨hgr.os, hgr.tape, hgr.output, hgr.size, fun k hk => hgr.block k hk (by simp)⟩))
  clear h hac hi he hz hz2 hmk hown hgr
  go_enter Tryd.func46, Tryd.ntmps46
  (try dsimp only); repeat' (first | go_values | go_skip | go_guarded | go_step | go_upon | go_back)
  rw [show Sem.run Tryd.prog (Instr.makeSlice 35 (Value.int IntKind.i64 0) (Value.int IntKind.i64 0)) w = _ from HM.out]
  clear HM
  (try dsimp only); repeat' (first | go_values | go_skip | go_guarded | go_step | go_upon | go_back)
  go_loopw [5, 13] (fun pv i wr => pv = .slice (some ⟨w.heap.size, 0, none⟩) 0 0 ∧ i = .int .i64 0 ∧ Sep w0 L wr) (fun _ _ _ => 0)
  case atStart => exact ⟨rfl, rfl, H.out⟩
  case round =>
    obtain ⟨rfl, rfl, hs⟩ := hrel
    have HS := Lib.hid hs
    clear hs H
    (try dsimp only); repeat' (first | go_values | go_skip | go_guarded | go_step | go_upon | go_back)
    go_ret
    exact ⟨_, ⟨_, _, rfl, fun h => by cases h⟩, rfl, HS.out⟩
set_option maxRecDepth 100000 in
set_option maxHeartbeats 4000000 in
theorem cimgz_any {w0 w : World} {L : List Thing} {cv ev : Value} (h : Sep w0 L w) (hcv : NilL cv) (hev : NilL ev) : Calls Tryd.prog 14 #[.agg (imgZC cv ev)] w fun e w' => ∃ cu eu, NilL cu ∧ NilL eu ∧ e = .returned (.agg (imgZC cu eu)) ∧ Sep w0 L w' := by
  have h1 := (h.alloc (.cells (imgZC cv ev) 37)).alloc (.cells #[.int .i64 0, .slice none 0 0, .slice none 0 0, .int .i64 0] 37)
  rw [show (w.alloc (.cells (imgZC cv ev) 37)).heap.size = w.heap.size + 1 by simp] at h1
  have HC := Lib.hid (cloneBz_any h1 hcv)
  have HE : Hid (∀ wx M, Sep w0 M wx → Calls Tryd.prog 46 #[ev, .func (.func 42) #[] #[]] wx fun e w' => ∃ u, NilL u ∧ e = .returned u ∧ Sep w0 M w') := Lib.hid fun wx M hx => lcopyz_any hx hev
  obtain ⟨b1, hb1⟩ : ∃ z, z = w.heap.size := ⟨_, rfl⟩
  obtain ⟨b2, hb2⟩ : ∃ z, z = w.heap.size + 1 := ⟨_, rfl⟩
  rw [← hb2, ← hb1] at HC
  unfold imgZC at *
  have c1 := h1.sw2.cell (o := 1) rfl
  obtain ⟨ca, cc, rfl, -⟩ := hcv
  obtain ⟨ea, ec, rfl, -⟩ := hev
  clear h h1
  go_enter Tryd.func14, Tryd.ntmps14
  (try dsimp only); repeat' (first | go_values | go_skip | go_guarded | go_step | go_upon | go_back)
  rw [← hb2, ← hb1]
  refine HC.out.mono ?_
  rintro r0 w1 ⟨cu, hcu, rfl, h2⟩
  clear c1 HC hb1 hb2
  obtain ⟨au, ac, rfl, -⟩ := id hcu
  have d1 := h2.sw2.cell (o := 1) rfl
  have f1 := h2.sw2.frozen 1
  have d2 := h2.sw2.cell (o := 2) rfl
  have h3 : Sep w0 (Cl b1 #[.int .i64 0, .slice au 0 ac, .slice ea 0 ec, .int .i64 0] 37 :: _ :: L) _ := h2.sw2.setCell 1 (.slice au 0 ac)
  obtain ⟨w2, hw2⟩ : ∃ z, z = w1.setCell ⟨b1, 1, none⟩ (.slice au 0 ac) := ⟨_, rfl⟩
  rw [← hw2] at h3
  have HE2 := Lib.hid (HE.out _ _ h3)
  clear h2 h3 HE
  (try dsimp only); repeat' (first | go_values | go_skip | go_guarded | go_step | go_upon | go_back)
  rw [← hw2]
  clear hw2 d1 f1
  refine HE2.out.mono ?_
  rintro r0 w3 ⟨eu, heu, rfl, h4⟩
  clear d2 HE2
  obtain ⟨eau, eac, rfl, -⟩ := id heu
  have d1 := h4.cell (o := 2) rfl
  have f1 := h4.frozen 2
  have h5 : Sep w0 (Cl b1 #[.int .i64 0, .slice au 0 ac, .slice eau 0 eac, .int .i64 0] 37 :: _ :: L) _ := h4.setCell 2 (.slice eau 0 eac)
  obtain ⟨w4, hw4⟩ : ∃ z, z = w3.setCell ⟨b1, 2, none⟩ (.slice eau 0 eac) := ⟨_, rfl⟩
  rw [← hw4] at h5
  have HL := Lib.hid (h5.loadW 37 Tryd.underlying37 rfl (by kernel_rfl))
  have HT2 := Lib.hid (h5.sw2.thereAt 0 4 (by simp))
  have h6 := h5.sw2.storeW #[.int .i64 0, .slice au 0 ac, .slice eau 0 eac, .int .i64 0] rfl
  have HV := Lib.hid (h6.loadV 37 Tryd.underlying37 rfl (by kernel_rfl))
  have H6 := Lib.hid h6.drop.drop
  have HU := Lib.hid (And.intro hcu heu)
  clear h4 h5 h6 hcu heu
  (try dsimp only); repeat' (first | (with_reducible show wpList _ _ _ (Oper.mk _ (Op.load 37 _) _ _ _ _ :: _) _ _; refine stopP ?_) | go_values | go_skip | go_guarded | go_step | go_upon | go_back)
  rw [← hw4]
  clear hw4 d1 f1
  unfold StopP
  have hq_ := HL.out
  refine wpList_load_run rfl 37 _ rfl _ _ rfl hq_ ?_
  clear hq_
  (try dsimp only); repeat' (first | (with_reducible show wpList _ _ _ (Oper.mk _ (Op.store 37 _ _) _ _ _ _ :: _) _ _; refine stopP ?_) | go_values | go_skip | go_guarded | go_step | go_upon | go_back)
  unfold StopP
  refine wpList_store_mid rfl 37 (.tmp 2) (.tmp 11) rfl b2 0 #[.int .i64 0, .slice au 0 ac, .slice eau 0 eac, .int .i64 0] rfl rfl HT2.out (by kernel_rfl) (by first | kernel_rfl | assumption) ?_
  (try dsimp only); repeat' (first | go_values | go_skip | go_guarded | go_step | go_upon | go_back)
  exact bodyPost_ret (results_cell rfl rfl HV.out) rfl ⟨_, _, HU.out.1, HU.out.2, rfl, H6.out⟩
/-- A message's cells. -/
def MsgC (c : Array Value) (m : MsM) : Prop := ∃ lv cv ev, NilL lv ∧ NilL cv ∧ NilL ev ∧ c = msC m lv cv ev
theorem write_en (m : MsM) (lv cv ev u : Value) : writeAt (msC m lv cv ev) 7 [.int .i64 m.ec, .int .i64 m.em, .int .i64 0, .string ⟨#[]⟩, .int .i64 0, .int .i64 0, u] = msC m u cv ev := by simp [msC, writeAt]
theorem write_im (m : MsM) (lv cv ev cu eu : Value) : writeAt (msC m lv cv ev) 18 [.int .i64 0, cu, eu, .int .i64 0] = msC m lv cu eu := by simp [msC, writeAt]
set_option maxRecDepth 100000 in
set_option maxHeartbeats 16000000 in
theorem mcopyz_any {w0 w : World} {L : List Thing} (m : MsM) {c : Array Value} (h : Sep w0 L w) (hc : MsgC c m) : Calls Tryd.prog 12 #[.agg c] w fun e w' => ∃ u, MsgC u m ∧ e = .returned (.agg u) ∧ Sep w0 L w' := by
  obtain ⟨lv, cv, ev, hlv, hcv, hev, rfl⟩ := hc
  have h1 := (h.alloc (.cells (msC m lv cv ev) 39)).alloc (.cells #[.int .i64 0, .int .i64 0, .int .i64 0, .int .i64 0, .int .i64 0, .int .i64 0, .int .i64 0, .int .i64 0, .int .i64 0, .int .i64 0, .string ⟨#[]⟩, .int .i64 0, .int .i64 0, .slice none 0 0, .int .i64 0, .int .i64 0, .int .i64 0, .bool false, .int .i64 0, .slice none 0 0, .slice none 0 0, .int .i64 0] 39)
  rw [show (w.alloc (.cells (msC m lv cv ev) 39)).heap.size = w.heap.size + 1 by simp] at h1
  have HC := Lib.hid (ecopyz_any m.ec m.em h1 hlv)
  have HE : Hid (∀ wx M, Sep w0 M wx → Calls Tryd.prog 14 #[.agg (imgZC cv ev)] wx fun e w' => ∃ cu eu, NilL cu ∧ NilL eu ∧ e = .returned (.agg (imgZC cu eu)) ∧ Sep w0 M w') := Lib.hid fun wx M hx => cimgz_any hx hcv hev
  obtain ⟨b1, hb1⟩ : ∃ z, z = w.heap.size := ⟨_, rfl⟩
  obtain ⟨b2, hb2⟩ : ∃ z, z = w.heap.size + 1 := ⟨_, rfl⟩
  rw [← hb2, ← hb1] at HC
  obtain ⟨la, lc, rfl, -⟩ := hlv
  obtain ⟨ca, cc, rfl, -⟩ := hcv
  obtain ⟨ea, ec, rfl, -⟩ := hev
  unfold enZC at HC
  unfold imgZC at HE
  have d7 := h1.sw2.cell (o := 7) rfl
  have d8 := h1.sw2.cell (o := 8) rfl
  have d9 := h1.sw2.cell (o := 9) rfl
  have d10 := h1.sw2.cell (o := 10) rfl
  have d11 := h1.sw2.cell (o := 11) rfl
  have d12 := h1.sw2.cell (o := 12) rfl
  have d13 := h1.sw2.cell (o := 13) rfl
  clear h
  go_enter Tryd.func12, Tryd.ntmps12
  unfold msC at *
  (try dsimp only); repeat' (first | go_values | go_skip | go_guarded | go_step | go_upon | go_back)
  rw [← hb2, ← hb1]
  refine HC.out.mono ?_
  rintro r0 w1 ⟨u, hu, rfl, h2⟩
  clear HC h1 hb1 hb2 d7 d8 d9 d10 d11 d12 d13
  obtain ⟨au, ac, rfl, -⟩ := id hu
  have HTH := Lib.hid (h2.sw2.thereAt 7 7 (by simp))
  have h3 := Sep.setCells [.int .i64 m.ec, .int .i64 m.em, .int .i64 0, .string ⟨#[]⟩, .int .i64 0, .int .i64 0, .slice au 0 ac] _ 7 _ h2.sw2
  have hwe := write_en m (.slice la 0 lc) (.slice ca 0 cc) (.slice ea 0 ec) (.slice au 0 ac)
  unfold msC at hwe
  rw [hwe] at h3
  obtain ⟨w2, hw2⟩ : ∃ z, z = w1.setCells b1 7 [.int .i64 m.ec, .int .i64 m.em, .int .i64 0, .string ⟨#[]⟩, .int .i64 0, .int .i64 0, .slice au 0 ac] := ⟨_, rfl⟩
  rw [← hw2] at h3
  have HE2 := Lib.hid (HE.out _ _ h3)
  have i18 := h3.cell (o := 18) rfl
  have i19 := h3.cell (o := 19) rfl
  have i20 := h3.cell (o := 20) rfl
  have i21 := h3.cell (o := 21) rfl
  have HU := Lib.hid hu
  clear h2 h3 HE hwe hu
  (try dsimp only); repeat' (first | (with_reducible show wpList _ _ _ (Oper.mk _ (Op.store 32 _ _) _ _ _ _ :: _) _ _; refine stopP ?_) | go_values | go_skip | go_guarded | go_step | go_upon | go_back)
  unfold StopP
  refine wpList_store_mid rfl 32 (.tmp 6) (.tmp 5) rfl b1 7 #[.int .i64 m.ec, .int .i64 m.em, .int .i64 0, .string ⟨#[]⟩, .int .i64 0, .int .i64 0, .slice au 0 ac] rfl rfl HTH.out (by kernel_rfl) (by first | kernel_rfl | assumption) ?_
  show wpList _ _ _ _ _ (w1.setCells b1 7 [.int .i64 m.ec, .int .i64 m.em, .int .i64 0, .string ⟨#[]⟩, .int .i64 0, .int .i64 0, .slice au 0 ac])
  rw [← hw2]
  clear hw2 HTH
  (try dsimp only); repeat' (first | go_values | go_skip | go_guarded | go_step | go_upon | go_back)
  refine HE2.out.mono ?_
  rintro r0 w3 ⟨cu, eu, hcu, heu, rfl, h4⟩
  clear HE2 i18 i19 i20 i21
  obtain ⟨cau, cac, rfl, -⟩ := id hcu
  obtain ⟨eau, eac, rfl, -⟩ := id heu
  have HTH := Lib.hid (h4.thereAt 18 4 (by simp))
  have h5 := Sep.setCells [.int .i64 0, .slice cau 0 cac, .slice eau 0 eac, .int .i64 0] _ 18 _ h4
  have hwe := write_im m (.slice au 0 ac) (.slice ca 0 cc) (.slice ea 0 ec) (.slice cau 0 cac) (.slice eau 0 eac)
  unfold msC at hwe
  rw [hwe] at h5
  obtain ⟨w4, hw4⟩ : ∃ z, z = w3.setCells b1 18 [.int .i64 0, .slice cau 0 cac, .slice eau 0 eac, .int .i64 0] := ⟨_, rfl⟩
  rw [← hw4] at h5
  have h5 : Sep w0 (Cl b1 (msC m (.slice au 0 ac) (.slice cau 0 cac) (.slice eau 0 eac)) 39 :: Cl b2 #[.int .i64 0, .int .i64 0, .int .i64 0, .int .i64 0, .int .i64 0, .int .i64 0, .int .i64 0, .int .i64 0, .int .i64 0, .int .i64 0, .string ⟨#[]⟩, .int .i64 0, .int .i64 0, .slice none 0 0, .int .i64 0, .int .i64 0, .int .i64 0, .bool false, .int .i64 0, .slice none 0 0, .slice none 0 0, .int .i64 0] 39 :: L) w4 := h5
  have HL := Lib.hid (h5.loadW 39 Tryd.underlying39 rfl (by kernel_rfl))
  have HT2 := Lib.hid (h5.sw2.thereAt 0 22 (by simp))
  have h6 := h5.sw2.storeW (msC m (.slice au 0 ac) (.slice cau 0 cac) (.slice eau 0 eac)) rfl
  have HV := Lib.hid (h6.loadV 39 Tryd.underlying39 rfl (by kernel_rfl))
  have H6 := Lib.hid h6.drop.drop
  have HW := Lib.hid (show MsgC (msC m (.slice au 0 ac) (.slice cau 0 cac) (.slice eau 0 eac)) m from ⟨_, _, _, HU.out, hcu, heu, rfl⟩)
  clear h4 h5 h6 hcu heu hwe HU
  (try dsimp only); repeat' (first | (with_reducible show wpList _ _ _ (Oper.mk _ (Op.store 37 _ _) _ _ _ _ :: _) _ _; refine stopP ?_) | go_values | go_skip | go_guarded | go_step | go_upon | go_back)
  unfold StopP
  refine wpList_store_mid rfl 37 (.tmp 10) (.tmp 9) rfl b1 18 #[.int .i64 0, .slice cau 0 cac, .slice eau 0 eac, .int .i64 0] rfl rfl HTH.out (by kernel_rfl) (by first | kernel_rfl | assumption) ?_
  show wpList _ _ _ _ _ (w3.setCells b1 18 [.int .i64 0, .slice cau 0 cac, .slice eau 0 eac, .int .i64 0])
  rw [← hw4]
  clear hw4 HTH
  (try dsimp only); repeat' (first | (with_reducible show wpList _ _ _ (Oper.mk _ (Op.load 39 _) _ _ _ _ :: _) _ _; refine stopP ?_) | go_values | go_skip | go_guarded | go_step | go_upon | go_back)
  unfold StopP
  have hq_ := HL.out
  refine wpList_load_run rfl 39 _ rfl _ _ rfl hq_ ?_
  clear hq_
  (try dsimp only); repeat' (first | (with_reducible show wpList _ _ _ (Oper.mk _ (Op.store 39 _ _) _ _ _ _ :: _) _ _; refine stopP ?_) | go_values | go_skip | go_guarded | go_step | go_upon | go_back)
  unfold StopP
  refine wpList_store_mid rfl 39 (.tmp 2) (.tmp 11) rfl b2 0 (msC m (.slice au 0 ac) (.slice cau 0 cac) (.slice eau 0 eac)) rfl rfl HT2.out (by kernel_rfl) (by first | kernel_rfl | assumption) ?_
  (try dsimp only); repeat' (first | go_values | go_skip | go_guarded | go_step | go_upon | go_back)
  exact bodyPost_ret (results_cell rfl rfl HV.out) rfl ⟨_, HW.out, rfl, H6.out⟩
end Go.Proofs.YtafkbodmiblbnaaDoor
