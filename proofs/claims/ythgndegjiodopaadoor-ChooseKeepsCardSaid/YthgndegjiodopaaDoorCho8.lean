/- Package choose: best, Best. -/
import Derived.Test.YthgndegjiodopaaDoorCho7
namespace Go.Proofs.YthgndegjiodopaaDoor
open Go Go.RowKit
set_option linter.unusedVariables false
set_option linter.unusedSimpArgs false
theorem ov_alls {x : OvM} (h : VsO x) : (ovC x).all (·.oneCell') = true := by
  obtain ⟨a, c, e⟩ := h
  unfold ovC; rw [e]; simp [Value.oneCell']
set_option maxRecDepth 100000 in
set_option maxHeartbeats 4000000 in
theorem obest_any {w0 w : World} {g b : Nat} {view : Int} {m : Nat} {xs : List OvM} {L : List Thing} (h : Sep w0 (OcT g b m view :: OvT b (offS m xs) :: L) w) (hm : m ≤ 15) (hq : FrQ xs) (hvs : ∀ x ∈ xs, VsO x) (hb : ∀ x ∈ xs, BdO x) (hne : 0 < (byFr xs m).length) :
    Calls Tryd.prog 25 #[.pointer (some ⟨g, 0, none⟩)] w fun e w' => e = .returned (ovV (minO (byFr xs m))) ∧ Sep w0 (OcT g b m view :: OvT b (offS m xs) :: L) w' := by
  have h1 := h.alloc (.cells #[.int .i64 0, .int .i64 0, .int .i64 0, .slice none 0 0, .slice none 0 0, .int .i64 0] 68)
  have HA := Lib.hid (oall_any (Sep.pickL (M := [_, _, _]) h1 [1, 2, 0] rfl) hm hq hvs)
  have hmin : minO (byFr xs m) ∈ byFr xs m := by
    have := minO_mem (byFr xs m) (byFr xs m).length hne (Nat.le_refl _)
    rw [List.take_length] at this
    exact this
  have HAL := Lib.hid (ov_alls (hvs _ (byFr_mem hmin)))
  have HM := fun {wx : World} {M : List Thing} (a : Option Addr) (c : Nat) (hx : Sep w0 (MsR (.slice a (byFr xs m).length c) ((byFr xs m).map ovC) :: M) wx) => minF_any (byFr xs m) a _ c hx rfl hne (by have := byFr_len xs m; omega) (fun y hy => hvs y (byFr_mem hy)) (fun y hy => hb y (byFr_mem hy))
  generalize minO (byFr xs m) = y at *
  obtain ⟨b4, hb4⟩ : ∃ q, q = w.heap.size := ⟨_, rfl⟩
  rw [← hb4] at HA
  clear h h1 hm hq hvs hb hne hmin
  go_enter Tryd.func25, Tryd.ntmps25
  (try dsimp only); repeat' (first | go_values | go_skip | go_guarded | go_step | go_upon | go_back)
  rw [← hb4]
  clear hb4
  refine HA.out.mono ?_
  rintro r0 w1 ⟨u, rfl, h2⟩
  obtain ⟨a, c, rfl, -⟩ := h2.rnForm
  rw [List.length_map] at h2 ⊢
  have HMM := Lib.hid (HM a c h2)
  clear HM h2 HA
  (try dsimp only); repeat' (first | go_values | go_skip | go_guarded | go_step | go_upon | go_back)
  refine HMM.out.mono ?_
  rintro r0 w2 ⟨rfl, h3⟩
  have h4 := (Sep.pickL (M := [_, _, _, _]) h3 [3, 1, 2] rfl)
  have HTH := Lib.hid (Sep.thereAt h4 0 6 (Nat.le_refl 6))
  have h5 := Sep.storeW h4 (ovC y) rfl
  have HR := Lib.hid (h5.loadV 68 Tryd.underlying68 rfl (by kernel_rfl))
  have H5 := Lib.hid h5.drop
  clear h3 h4 h5 HMM
  unfold ovV
  (try dsimp only); repeat' (first | (with_reducible show wpList _ _ _ (Oper.mk _ (Op.store 68 _ _) _ _ _ _ :: _) _ _; refine stopP ?_) | go_values | go_skip | go_guarded | go_step | go_upon | go_back)
  unfold StopP
  refine wpList_store_mid rfl 68 (.tmp 2) (.tmp 5) rfl b4 0 (ovC y) rfl rfl HTH.out (by kernel_rfl) HAL.out ?_
  (try dsimp only); repeat' (first | go_values | go_skip | go_guarded | go_step | go_upon | go_back)
  exact bodyPost_ret (results_cell rfl rfl HR.out) rfl ⟨rfl, H5.out⟩
theorem results_cell2 {P : Program} {fn : Func} {t u : Tmp} {ty : TypeId} (h : fn.results = #[.cell t ty, .tmp u]) {tmps : Array Value} {w : World} {ad : Addr} {v x : Value} (ht : tmps.getD t undef = .pointer (some ad)) (hl : (loadVar ty ad).run P w = .ok v w) (hu : tmps.getD u undef = x) : (results fn tmps).run P w = .ok (.tuple #[v, x]) w := by
  rw [Array.getD_eq_getD_getElem?] at ht hu
  simp [results, h, ht, hu, asAddr, hl]
theorem Sep.loadO {w0 w : World} {b : Nat} {cs : Array Value} {t : TypeId} {L : List Thing} {P : Program} {d : TypeDesc} (h : Sep w0 (Cl b cs t :: L) w) (ty : TypeId) (o : Nat) (c : Array Value) (hc : ∀ j v, c.toList[j]? = some v → cs[o + j]? = some v) (hu : P.underlying ty = some d) (hd : d.isRow = true) (hi : (P.info? ty).map (·.size) = some c.size) :
    (Instr.loadAt ty (.pointer (some ⟨b, o, none⟩))).run P w = .ok (.agg c) w := by
  have h1 := run_loadAt_mid (P := P) w b o ty c.toList d (fun j v hj => h.cell (hc j v hj)) hu hd (by simpa using hi)
  simpa using h1
/-- What an offer is that may be added. -/
def OkO (x : OvM) : Prop := VsO x ∧ 0 ≤ x.ba ∧ x.ba ≤ 9007199254740991 ∧ x.ps.length ≤ 24 ∧ ∀ e ∈ x.ps, e.1.p.ls.length ≤ 1000
theorem OkO.bd {x : OvM} (h : OkO x) : BdO x := ⟨h.2.1, h.2.2.1, by have := h.2.2.2.1; omega⟩
theorem minO_in {xs : List OvM} {m : Nat} (hne : 0 < (byFr xs m).length) : minO (byFr xs m) ∈ xs := by
  have := minO_mem (byFr xs m) (byFr xs m).length hne (Nat.le_refl _)
  rw [List.take_length] at this
  exact byFr_mem this
theorem Sep.offEnO {w0 w : World} {g b : Nat} {n view : Int} {xs : List OvM} {L : List Thing} (h : Sep w0 (OcT g b n view :: OvT b (offS n xs) :: (xs.map enP ++ L)) w) {x : OvM} (hx : x ∈ xs) : EnS w x.v x.ps := by
  obtain ⟨M, hM⟩ := h.memT (A := enP x) (List.mem_cons_of_mem _ (List.mem_cons_of_mem _ (List.mem_append_left _ (List.mem_map_of_mem hx))))
  exact hM.enS
theorem Sep.offCloseB {w0 w : World} {g b : Nat} {n view : Int} {xs : List OvM} {A : Thing} {L : List Thing} (h : Sep w0 (A :: OcT g b n view :: OvT b (offS n xs) :: (xs.map enP ++ L)) w) : Sep w0 (A :: OffT g b n view xs :: L) w := by
  have h1 : Sep w0 ((OcT g b n view :: OvT b (offS n xs) :: xs.map enP) ++ A :: L) w := h.perm (List.perm_middle (l₁ := OcT g b n view :: OvT b (offS n xs) :: xs.map enP) (l₂ := L) (a := A)).symm
  exact (Sep.offClose h1).sw2
set_option maxRecDepth 100000 in
set_option maxHeartbeats 8000000 in
theorem oBest_ok {w0 w : World} {g b : Nat} {view : Int} {m : Nat} {xs : List OvM} {L : List Thing} (h : Sep w0 (OffT g b m view xs :: L) w) (hm : m ≤ 15) (hq : FrQ xs) (ho : ∀ x ∈ xs, OkO x) (hne : 0 < (byFr xs m).length) :
    Calls Tryd.prog 13 #[.pointer (some ⟨g, 0, none⟩)] w fun e w' => ∃ a c qs, e = .returned (.tuple #[.agg #[.int .i64 (minO (byFr xs m)).fr, .int .i64 (minO (byFr xs m)).la, .int .i64 (minO (byFr xs m)).ba, .slice none 0 0, .slice a (minO (byFr xs m)).ps.length c, .int .i64 (minO (byFr xs m)).co], .int .i64 0]) ∧ qs.map (·.1) = (minO (byFr xs m)).ps.map (·.1) ∧ Sep w0 (EnT (.slice a (minO (byFr xs m)).ps.length c) qs :: OffT g b m view xs :: L) w' := by
  have hin := minO_in hne
  have h1 := h.offOpen.alloc (.cells #[.int .i64 0, .int .i64 0, .int .i64 0, .slice none 0 0, .slice none 0 0, .int .i64 0] 33)
  have h1' := Sep.pickL (M := [_, _, _]) h1 [1, 2, 0] rfl
  have HN := Lib.hid (onone_any h1.sw2)
  have HL := Lib.hid (olen_any h1')
  have HB := Lib.hid (obest_any h1' hm hq (fun x hx => (ho x hx).1) (fun x hx => (ho x hx).bd) hne)
  have hlen : (offS (m : Int) xs).length ≠ 0 := by
    unfold offS
    rw [List.length_map]
    intro e
    rw [List.length_eq_zero_iff.1 e] at hin
    cases hin
  obtain ⟨N, hN⟩ : ∃ N, N = (offS (m : Int) xs).length := ⟨_, rfl⟩
  rw [← hN] at HL hlen
  have hz : ((N : Int) == 0) = false := beq_false_of_ne (by omega)
  have hok := ho _ hin
  have hES : ∀ (wx : World) (M : List Thing), Sep w0 (OcT g b m view :: OvT b (offS m xs) :: (xs.map enP ++ M)) wx → EnS wx (minO (byFr xs m)).v (minO (byFr xs m)).ps := fun wx M hx => hx.offEnO hin
  generalize minO (byFr xs m) = y at *
  obtain ⟨yf, yl, yb, yc, yv, yp⟩ := y
  obtain ⟨⟨ya, yk, hy⟩, k0, k1, k24, kls⟩ := hok
  dsimp only at hy k0 k1 k24 kls
  subst hy
  dsimp only at hES
  unfold ovV ovC at HB
  dsimp only at HB
  dsimp only
  have HES := Lib.hid hES
  have HK := Lib.hid (And.intro k24 kls)
  obtain ⟨b2, hb2⟩ : ∃ q, q = w.heap.size := ⟨_, rfl⟩
  obtain ⟨W, hW⟩ : ∃ q, q = w.alloc (.cells #[.int .i64 0, .int .i64 0, .int .i64 0, .slice none 0 0, .slice none 0 0, .int .i64 0] 33) := ⟨_, rfl⟩
  rw [← hb2] at HB
  rw [← hW] at HB HN HL
  have hzz : (N == 0) = false := beq_false_of_ne hlen
  clear h h1 h1' hm hq ho hne hin hES k0 k1 k24 kls hN hlen
  go_enter Tryd.func13, Tryd.ntmps13
  (try dsimp only); repeat' (first | go_values | go_skip | go_guarded | go_step | go_upon | go_back)
  rw [← hW, ← hb2]
  clear hW hb2
  refine HN.out.mono ?_
  rintro r0 w1 ⟨rfl, rfl⟩
  (try dsimp only); repeat' (first | go_values | go_skip | go_guarded | go_step | go_upon | go_back)
  refine HL.out.mono ?_
  rintro r0 w1 ⟨rfl, rfl⟩
  (try dsimp only); repeat' (first | go_values | go_skip | go_guarded | go_step | go_upon | go_back)
  refine HB.out.mono ?_
  rintro r0 w2 ⟨rfl, h3⟩
  clear HN HL HB
  have h4 := (Sep.pickL (M := [_, _, _]) h3 [2, 0, 1] rfl)
  have HTH := Lib.hid (Sep.thereAt h4 0 6 (Nat.le_refl 6))
  have h5 : Sep w0 (Cl b2 #[.int .i64 yf, .int .i64 yl, .int .i64 yb, .slice none 0 0, .slice ya yp.length yk, .int .i64 yc] 33 :: OcT g b m view :: OvT b (offS m xs) :: (xs.map enP ++ L)) (w2.setCells b2 0 (Array.toList #[.int .i64 yf, .int .i64 yl, .int .i64 yb, .slice none 0 0, .slice ya yp.length yk, .int .i64 yc])) := Sep.storeW h4 #[.int .i64 yf, .int .i64 yl, .int .i64 yb, .slice none 0 0, .slice ya yp.length yk, .int .i64 yc] rfl
  obtain ⟨w3, hw3⟩ : ∃ q, q = w2.setCells b2 0 (Array.toList #[.int .i64 yf, .int .i64 yl, .int .i64 yb, .slice none 0 0, .slice ya yp.length yk, .int .i64 yc]) := ⟨_, rfl⟩
  rw [← hw3] at h5
  have HLI := Lib.hid (h5.loadO 31 2 #[.int .i64 yb, .slice none 0 0, .slice ya yp.length yk, .int .i64 yc] (fun j v hj => by
    match j, hj with
    | 0, hj => exact hj
    | 1, hj => exact hj
    | 2, hj => exact hj
    | 3, hj => exact hj) Tryd.underlying31 rfl (by kernel_rfl))
  have HC := Lib.hid (clone_any yb yc ya yp.length yk yp h5 (HES.out _ _ h5.drop) rfl HK.out.1 HK.out.2)
  clear h3 h4 h5
  (try dsimp only); repeat' (first | (with_reducible show wpList _ _ _ (Oper.mk _ (Op.store 33 _ _) _ _ _ _ :: _) _ _; refine stopP ?_) | go_values | go_skip | go_guarded | go_step | go_upon | go_back)
  unfold StopP
  refine wpList_store_mid rfl 33 (.tmp 2) (.tmp 12) rfl b2 0 #[.int .i64 yf, .int .i64 yl, .int .i64 yb, .slice none 0 0, .slice ya yp.length yk, .int .i64 yc] rfl rfl HTH.out (by kernel_rfl) (by kernel_rfl) ?_
  rw [← hw3]
  clear hw3 HTH
  (try dsimp only); repeat' (first | (with_reducible show wpList _ _ _ (Oper.mk _ (Op.load 31 _) _ _ _ _ :: _) _ _; refine stopP ?_) | go_values | go_skip | go_guarded | go_step | go_upon | go_back)
  unfold StopP
  have hq_ := HLI.out
  refine wpList_load_run rfl 31 _ rfl _ _ rfl hq_ ?_
  clear hq_ HLI
  (try dsimp only); repeat' (first | go_values | go_skip | go_guarded | go_step | go_upon | go_back)
  refine HC.out.mono ?_
  rintro r0 w4 ⟨a', c', qs, rfl, hqs, h6⟩
  have h7 := h6.sw2
  have HTH := Lib.hid (Sep.thereAt h7 2 4 (Nat.le_refl 6))
  have h8 : Sep w0 (Cl b2 #[.int .i64 yf, .int .i64 yl, .int .i64 yb, .slice none 0 0, .slice a' yp.length c', .int .i64 yc] 33 :: EnT (.slice a' yp.length c') qs :: OcT g b m view :: OvT b (offS m xs) :: (xs.map enP ++ L)) (w4.setCells b2 2 (Array.toList #[.int .i64 yb, .slice none 0 0, .slice a' yp.length c', .int .i64 yc])) := Sep.setCells (Array.toList #[.int .i64 yb, .slice none 0 0, .slice a' yp.length c', .int .i64 yc]) _ 2 _ h7
  obtain ⟨w5, hw5⟩ : ∃ q, q = w4.setCells b2 2 (Array.toList #[.int .i64 yb, .slice none 0 0, .slice a' yp.length c', .int .i64 yc]) := ⟨_, rfl⟩
  rw [← hw5] at h8
  have HLO := Lib.hid (h8.loadW 33 Tryd.underlying33 rfl (by kernel_rfl))
  have HT2 := Lib.hid (Sep.thereAt h8 0 6 (Nat.le_refl 6))
  have h9 := Sep.storeW h8 #[.int .i64 yf, .int .i64 yl, .int .i64 yb, .slice none 0 0, .slice a' yp.length c', .int .i64 yc] rfl
  have HR := Lib.hid (h9.loadV 33 Tryd.underlying33 rfl (by kernel_rfl))
  have h10 : Sep w0 (EnT (.slice a' yp.length c') qs :: OffT g b m view xs :: L) _ := h9.drop.offCloseB
  have HF := Lib.hid (And.intro hqs h10)
  clear h6 h7 h8 h9 h10 hqs HC
  (try dsimp only); repeat' (first | (with_reducible show wpList _ _ _ (Oper.mk _ (Op.store 31 _ _) _ _ _ _ :: _) _ _; refine stopP ?_) | go_values | go_skip | go_guarded | go_step | go_upon | go_back)
  unfold StopP
  refine wpList_store_mid rfl 31 (.tmp 16) (.tmp 15) rfl b2 2 #[.int .i64 yb, .slice none 0 0, .slice a' yp.length c', .int .i64 yc] rfl rfl HTH.out (by kernel_rfl) (by kernel_rfl) ?_
  rw [← hw5]
  clear hw5 HTH
  (try dsimp only); repeat' (first | (with_reducible show wpList _ _ _ (Oper.mk _ (Op.load 33 _) _ _ _ _ :: _) _ _; refine stopP ?_) | go_values | go_skip | go_guarded | go_step | go_upon | go_back)
  unfold StopP
  have hq_ := HLO.out
  refine wpList_load_run rfl 33 _ rfl _ _ rfl hq_ ?_
  clear hq_ HLO
  (try dsimp only); repeat' (first | (with_reducible show wpList _ _ _ (Oper.mk _ (Op.store 33 _ _) _ _ _ _ :: _) _ _; refine stopP ?_) | go_values | go_skip | go_guarded | go_step | go_upon | go_back)
  unfold StopP
  refine wpList_store_mid rfl 33 (.tmp 2) (.tmp 17) rfl b2 0 #[.int .i64 yf, .int .i64 yl, .int .i64 yb, .slice none 0 0, .slice a' yp.length c', .int .i64 yc] rfl rfl HT2.out (by kernel_rfl) (by kernel_rfl) ?_
  (try dsimp only); repeat' (first | go_values | go_skip | go_guarded | go_step | go_upon | go_back)
  exact bodyPost_ret (results_cell2 rfl rfl HR.out rfl) rfl ⟨a', c', qs, rfl, HF.out.1, HF.out.2⟩
end Go.Proofs.YthgndegjiodopaaDoor
