/- Package choose: Choose. -/
import Derived.Test.YthgndegjiodopaaDoorCho8
namespace Go.Proofs.YthgndegjiodopaaDoor
open Go Go.RowKit
set_option linter.unusedVariables false
set_option linter.unusedSimpArgs false
def maxCo (ys : List OvM) (c : Int) : Int := ys.foldl (fun a x => maxI a x.co) c
theorem maxCo_succ (ys : List OvM) (c : Int) (k : Nat) (hk : k < ys.length) : maxCo (ys.take (k + 1)) c = maxI (maxCo (ys.take k) c) ys[k].co := by
  unfold maxCo
  rw [List.take_succ_eq_append_getElem hk, List.foldl_append]
  rfl
theorem results_cell3 {P : Program} {fn : Func} {t u u2 : Tmp} {ty : TypeId} (h : fn.results = #[.cell t ty, .tmp u, .tmp u2]) {tmps : Array Value} {w : World} {ad : Addr} {v x x2 : Value} (ht : tmps.getD t undef = .pointer (some ad)) (hl : (loadVar ty ad).run P w = .ok v w) (hu : tmps.getD u undef = x) (hu2 : tmps.getD u2 undef = x2) : (results fn tmps).run P w = .ok (.tuple #[v, x, x2]) w := by
  rw [Array.getD_eq_getD_getElem?] at ht hu hu2
  simp [results, h, ht, hu, hu2, asAddr, hl]
theorem wpList_max_r {P : Program} {w : World} {ops : Array Oper} {rest : List Oper} {o : Oper} {a : Act} {Q : Exit → Act → World → Prop} (hgd : o.guard = none) (s x : Operand) (t u : TypeId)
    (ho : o.op = .call { callee := .builtin .max, args := #[s, x], argTypes := #[t, u] }) {v y v' : Value} (hs : a.eval s = v) (hx : a.eval x = y)
    (hr : (Builtin.max_ #[t, u] o.type #[v, y]).run P w = .ok v' w) (h : wpList P ops Q rest (a.put o.dst v') w) : wpList P ops Q (o :: rest) a w := by
  refine wpList_plain hgd fun K hK => ?_
  unfold Oper.wp
  simp [execOp, ho, resolve, invoke, builtin, hs, hx, hr, Result.andThen]
  exact hK _ _ h
/-- What Choose answers. -/
def choAns (y : OvM) (c : Int) (a : Option Addr) (k : Nat) : Value := if y.top < c then .tuple #[.agg #[.int .i64 0, .slice none 0 0, .slice none 0 0, .int .i64 0], .int .i64 0, .int .i64 9] else .tuple #[.agg #[.int .i64 y.ba, .slice none 0 0, .slice a y.ps.length k, .int .i64 c], .int .i64 y.fr, .int .i64 0]
set_option maxRecDepth 100000 in
set_option maxHeartbeats 8000000 in
theorem oChoose_ok {w0 w : World} {g b : Nat} {view : Int} {m : Nat} {xs : List OvM} {L : List Thing} (h : Sep w0 (OffT g b m view xs :: L) w) (hm : m ≤ 15) (hq : FrQ xs) (ho : ∀ x ∈ xs, OkO x) (hne : 0 < (byFr xs m).length) (hen : enough m ≤ (xs.length : Nat)) :
    Calls Tryd.prog 17 #[.pointer (some ⟨g, 0, none⟩)] w fun e w' => ∃ a c qs, e = .returned (choAns (minO (byFr xs m)) (maxCo (byFr xs m) (minO (byFr xs m)).co) a c) ∧ qs.map (·.1) = (minO (byFr xs m)).ps.map (·.1) ∧ Sep w0 (EnT (.slice a (minO (byFr xs m)).ps.length c) qs :: OffT g b m view xs :: L) w' := by
  have hin := minO_in hne
  have h1 := h.offOpen.alloc (.cells #[.int .i64 0, .slice none 0 0, .slice none 0 0, .int .i64 0] 31)
  have h1' := Sep.pickL (M := [_, _, _]) h1 [1, 2, 0] rfl
  have HN := Lib.hid (onone_any h1.sw2)
  have hmq : IQ (m : Int) := ⟨by omega, by omega⟩
  have he := oenough_any h1' hmq
  rw [show decide (enough m ≤ ((offS (m : Int) xs).length : Nat)) = true from decide_eq_true (by unfold offS; rw [List.length_map]; exact hen)] at he
  have HE := Lib.hid he
  have HB := fun {wx : World} {M : List Thing} (hx : Sep w0 (OcT g b m view :: OvT b (offS m xs) :: M) wx) => obest_any hx hm hq (fun x hx => (ho x hx).1) (fun x hx => (ho x hx).bd) hne
  have HA := fun {wx : World} {M : List Thing} (hx : Sep w0 (OcT g b m view :: OvT b (offS m xs) :: M) wx) => oall_any hx hm hq (fun x hx => (ho x hx).1)
  have hok := ho _ hin
  have hES : ∀ (wx : World) (M : List Thing), Sep w0 (OcT g b m view :: OvT b (offS m xs) :: (xs.map enP ++ M)) wx → EnS wx (minO (byFr xs m)).v (minO (byFr xs m)).ps := fun wx M hx => hx.offEnO hin
  have hbv : ∀ y ∈ byFr xs m, VsO y := fun y hy => (ho y (byFr_mem hy)).1
  have hbl := byFr_len xs m
  obtain ⟨ys, hys⟩ : ∃ ys, ys = byFr xs m := ⟨_, rfl⟩
  rw [← hys] at hne HB HA hok hES hin hbv hbl ⊢
  clear hys
  generalize minO ys = y at *
  obtain ⟨yf, yl, yb, yc, yv, yp⟩ := y
  obtain ⟨⟨ya, yk, hy⟩, k0, k1, k24, kls⟩ := hok
  dsimp only at hy k0 k1 k24 kls
  subst hy
  dsimp only at hES
  unfold ovV ovC at HB
  dsimp only at HB
  dsimp only
  have HES := Lib.hid hES
  have HK := Lib.hid (And.intro k24 (And.intro kls (And.intro k0 k1)))
  have HBV := Lib.hid hbv
  have HBL := Lib.hid (And.intro hbl hm)
  obtain ⟨b2, hb2⟩ : ∃ q, q = w.heap.size := ⟨_, rfl⟩
  obtain ⟨W, hW⟩ : ∃ q, q = w.alloc (.cells #[.int .i64 0, .slice none 0 0, .slice none 0 0, .int .i64 0] 31) := ⟨_, rfl⟩
  rw [← hW, ← hb2] at HE
  rw [← hW] at HN
  clear h h1 h1' he hm hq ho hne hin hES k0 k1 k24 kls hen hmq hbv hbl
  go_enter Tryd.func17, Tryd.ntmps17
  (try dsimp only); repeat' (first | go_values | go_skip | go_guarded | go_step | go_upon | go_back)
  rw [← hW, ← hb2]
  clear hW hb2
  refine HN.out.mono ?_
  rintro r0 w1 ⟨rfl, rfl⟩
  (try dsimp only); repeat' (first | go_values | go_skip | go_guarded | go_step | go_upon | go_back)
  refine HE.out.mono ?_
  rintro r0 w1 ⟨rfl, h2⟩
  have HB1 := Lib.hid (HB h2)
  clear HB HN HE h2
  (try dsimp only); repeat' (first | go_values | go_skip | go_guarded | go_step | go_upon | go_back)
  refine HB1.out.mono ?_
  rintro r0 w2 ⟨rfl, h3⟩
  clear HB1
  have h4 := h3.alloc (.cells #[.int .i64 0, .int .i64 0, .int .i64 0, .slice none 0 0, .slice none 0 0, .int .i64 0] 68)
  obtain ⟨b5, hb5⟩ : ∃ q, q = w2.heap.size := ⟨_, rfl⟩
  obtain ⟨v2, hv2⟩ : ∃ q, q = w2.alloc (.cells #[.int .i64 0, .int .i64 0, .int .i64 0, .slice none 0 0, .slice none 0 0, .int .i64 0] 68) := ⟨_, rfl⟩
  rw [← hv2, ← hb5] at h4
  have HTH := Lib.hid (Sep.thereAt h4 0 6 (Nat.le_refl 6))
  have h5 := Sep.storeW h4 #[.int .i64 yf, .int .i64 yl, .int .i64 yb, .slice none 0 0, .slice ya yp.length yk, .int .i64 yc] rfl
  obtain ⟨w3, hw3⟩ : ∃ q, q = v2.setCells b5 0 (Array.toList #[.int .i64 yf, .int .i64 yl, .int .i64 yb, .slice none 0 0, .slice ya yp.length yk, .int .i64 yc]) := ⟨_, rfl⟩
  rw [← hw3] at h5
  have HLI := Lib.hid (h5.loadO 31 2 #[.int .i64 yb, .slice none 0 0, .slice ya yp.length yk, .int .i64 yc] (fun j v hj => by
    match j, hj with
    | 0, hj => exact hj
    | 1, hj => exact hj
    | 2, hj => exact hj
    | 3, hj => exact hj) Tryd.underlying31 rfl (by kernel_rfl))
  have hes := HES.out _ _ (Sep.drop (Sep.pickL (M := [_, _, _, _]) h5 [3, 1, 2] rfl))
  have HC := Lib.hid (clone_any yb yc ya yp.length yk yp h5 hes rfl HK.out.1 HK.out.2.1)
  clear h3 h4 h5 hes
  (try dsimp only); repeat' (first | (with_reducible show wpList _ _ _ (Oper.mk _ (Op.store 68 _ _) _ _ _ _ :: _) _ _; refine stopP ?_) | go_values | go_skip | go_guarded | go_step | go_upon | go_back)
  unfold StopP
  rw [← hv2, ← hb5]
  clear hv2 hb5
  refine wpList_store_mid rfl 68 (.tmp 5) (.tmp 16) rfl b5 0 #[.int .i64 yf, .int .i64 yl, .int .i64 yb, .slice none 0 0, .slice ya yp.length yk, .int .i64 yc] rfl rfl HTH.out (by kernel_rfl) (by kernel_rfl) ?_
  rw [← hw3]
  clear hw3 HTH
  (try dsimp only); repeat' (first | (with_reducible show wpList _ _ _ (Oper.mk _ (Op.load 31 _) _ _ _ _ :: _) _ _; refine stopP ?_) | go_values | go_skip | go_guarded | go_step | go_upon | go_back)
  unfold StopP
  have hq_ := HLI.out
  refine wpList_load_run rfl 31 _ rfl _ _ rfl hq_ ?_
  clear hq_ HLI
  (try dsimp only); repeat' (first | go_values | go_skip | go_guarded | go_step | go_upon | go_back)
  refine HC.out.mono ?_
  rintro r0 w4 ⟨a', c', qs, rfl, hqs, h6⟩
  have h7 := (Sep.pickL (M := [_, _, _, _, _]) h6 [4, 2, 3, 0, 1] rfl)
  have HTH := Lib.hid (Sep.thereAt h7 0 4 (Nat.le_refl 4))
  have h8 := Sep.storeW h7 #[.int .i64 yb, .slice none 0 0, .slice a' yp.length c', .int .i64 yc] rfl
  obtain ⟨w5, hw5⟩ : ∃ q, q = w4.setCells b2 0 (Array.toList #[.int .i64 yb, .slice none 0 0, .slice a' yp.length c', .int .i64 yc]) := ⟨_, rfl⟩
  rw [← hw5] at h8
  have HA1 := Lib.hid (HA (Sep.pickL (M := [_, _, _, _, _]) h8 [1, 2, 0, 3, 4] rfl))
  have HQS := Lib.hid hqs
  clear h6 h7 h8 hqs HC HA
  (try dsimp only); repeat' (first | (with_reducible show wpList _ _ _ (Oper.mk _ (Op.store 31 _ _) _ _ _ _ :: _) _ _; refine stopP ?_) | go_values | go_skip | go_guarded | go_step | go_upon | go_back)
  unfold StopP
  refine wpList_store_mid rfl 31 (.tmp 2) (.tmp 19) rfl b2 0 #[.int .i64 yb, .slice none 0 0, .slice a' yp.length c', .int .i64 yc] rfl rfl HTH.out (by kernel_rfl) (by kernel_rfl) ?_
  rw [← hw5]
  clear hw5 HTH
  (try dsimp only); repeat' (first | go_values | go_skip | go_guarded | go_step | go_upon | go_back)
  refine HA1.out.mono ?_
  rintro r0 w6 ⟨u, rfl, h9⟩
  clear HA1
  obtain ⟨ra, rc, rfl, -⟩ := h9.rnForm
  rw [List.length_map] at h9 ⊢
  obtain ⟨n, hn⟩ : ∃ n, n = ys.length := ⟨_, rfl⟩
  rw [← hn] at h9 ⊢
  have HN := Lib.hid hn
  have H9 := Lib.hid h9
  clear h9 hn
  have n15 : (n : Int) ≤ 15 := by have := HBL.out; have := HN.out; omega
  (try dsimp only); repeat' (first | go_values | go_skip | go_guarded | go_step | go_upon | go_back)
  go_loopw [23] (fun i wr => ∃ k : Nat, k ≤ n ∧ i = .int .i64 k ∧ Sep w0 (Cl b2 (#[.int .i64 yb, .slice none 0 0, .slice a' yp.length c', .int .i64 (maxCo (ys.take k) yc)]) 31 :: Cl b5 #[.int .i64 yf, .int .i64 yl, .int .i64 yb, .slice none 0 0, .slice ya yp.length yk, .int .i64 yc] 68 :: MsR (.slice ra n rc) (ys.map ovC) :: EnT (.slice a' yp.length c') qs :: OcT g b m view :: OvT b (offS m xs) :: (xs.map enP ++ L)) wr) (fun i _ => n - (intOf i).toNat)
  case atStart => exact ⟨0, by omega, rfl, Sep.pickL (M := [_, _, _, _, _, _]) H9.out [3, 5, 0, 4, 1, 2] rfl⟩
  case round =>
    obtain ⟨k, hk, rfl, hs⟩ := hrel
    clear H9
    have k0 : (0 : Int) ≤ (k : Int) := by omega
    by_cases hkn : k < n
    · have hkx : k < ys.length := by have := HN.out; omega
      have hkr : k < (ys.map ovC).length := by rw [List.length_map]; exact hkx
      have hd : decide (k < n) = true := decide_eq_true hkn
      have hkc : (k : Int) < (n : Int) := by omega
      have hmc := maxCo_succ ys yc k hkx
      have hxm := List.getElem_mem hkx
      obtain ⟨g1, rfl⟩ : ∃ g1, ra = some ⟨g1, 0, none⟩ := by
        obtain ⟨a9, c9, q1, q2, q3, q4, q5⟩ := hs.sw3.rnForm
        simp only [Value.slice.injEq] at q1
        obtain ⟨b9, q6, -, -⟩ := q5 (by rw [List.length_map]; omega)
        exact ⟨b9, by rw [q1.1, q6]⟩
      have hld := hs.sw3.msLoad (rows6 ys) k hkr
      rw [List.getElem_map] at hld
      obtain ⟨x, hx⟩ : ∃ x, x = ys[k] := ⟨_, rfl⟩
      rw [← hx] at hld hmc hxm
      obtain ⟨ck, hck⟩ : ∃ ck, ck = maxCo (ys.take k) yc := ⟨_, rfl⟩
      rw [← hck] at hs hmc
      have HAL := Lib.hid (ov_alls (HBV.out x hxm))
      have h4 := hs.alloc (.cells #[.int .i64 0, .int .i64 0, .int .i64 0, .slice none 0 0, .slice none 0 0, .int .i64 0] 68)
      obtain ⟨b7, hb7⟩ : ∃ q, q = wr.heap.size := ⟨_, rfl⟩
      obtain ⟨v7, hv7⟩ : ∃ q, q = wr.alloc (.cells #[.int .i64 0, .int .i64 0, .int .i64 0, .slice none 0 0, .slice none 0 0, .int .i64 0] 68) := ⟨_, rfl⟩
      rw [← hv7, ← hb7] at h4
      have HTH := Lib.hid (Sep.thereAt h4 0 6 (Nat.le_refl 6))
      have h5 := Sep.storeW h4 (ovC x) rfl
      obtain ⟨w7, hw7⟩ : ∃ q, q = v7.setCells b7 0 (ovC x).toList := ⟨_, rfl⟩
      rw [← hw7] at h5
      have e0 := h5.sw2.cell (o := 3) rfl
      have e1 := h5.cell (o := 5) (x := .int .i64 x.co) rfl
      have f3 := h5.sw2.frozen 3
      have h6 : Sep w0 (Cl b2 #[.int .i64 yb, .slice none 0 0, .slice a' yp.length c', .int .i64 (maxI ck x.co)] 31 :: Cl b7 (ovC x) 68 :: Cl b5 #[.int .i64 yf, .int .i64 yl, .int .i64 yb, .slice none 0 0, .slice ya yp.length yk, .int .i64 yc] 68 :: MsR (.slice (some ⟨g1, 0, none⟩) n rc) (ys.map ovC) :: EnT (.slice a' yp.length c') qs :: OcT g b m view :: OvT b (offS m xs) :: (xs.map enP ++ L)) (w7.setCell ⟨b2, 3, none⟩ (.int .i64 (maxI ck x.co))) := h5.sw2.setCell 3 (.int .i64 (maxI ck x.co))
      have H6 := Lib.hid (Sep.pickL (M := [_, _, _, _, _, _, _]) h6 [0, 2, 3, 4, 5, 6] rfl)
      have HLD := Lib.hid hld
      have HMX := Lib.hid (max_run 3 ck x.co w7)
      have HMC := Lib.hid hmc
      have HKN := Lib.hid hkn
      obtain ⟨xo, hxo⟩ : ∃ q, q = x.co := ⟨_, rfl⟩
      rw [← hxo] at e1 H6 HMX HMC
      clear hs h4 h5 h6 hld hmc hxm hx hck hk hkn hkx hkr hxo
      (try dsimp only); repeat' (first | (with_reducible show wpList _ _ _ (Oper.mk _ (Op.load 68 _) _ _ _ _ :: _) _ _; refine stopP ?_) | go_values | go_skip | go_guarded | go_step | go_upon | go_back)
      unfold StopP
      have hq_ := HLD.out
      refine wpList_load_run rfl 68 _ rfl _ _ rfl hq_ ?_
      clear hq_ HLD
      (try dsimp only); repeat' (first | (with_reducible show wpList _ _ _ (Oper.mk _ (Op.store 68 _ _) _ _ _ _ :: _) _ _; refine stopP ?_) | go_values | go_skip | go_guarded | go_step | go_upon | go_back)
      unfold StopP
      rw [← hv7, ← hb7]
      clear hv7 hb7
      refine wpList_store_mid rfl 68 (.tmp 7) (.tmp 26) rfl b7 0 (ovC x) rfl rfl HTH.out (by kernel_rfl) HAL.out ?_
      rw [← hw7]
      clear hw7 HTH
      unfold maxI at H6 HMC
      (try dsimp only); repeat' (first | go_values | go_skip | go_guarded | go_step | go_upon | go_back)
      go_roundw
      case rel => exact ⟨k + 1, by have := HKN.out; omega, by go_num, by rw [HMC.out]; exact H6.out⟩
      case measure => have := HKN.out; simp [intOf]; omega
    · have hd : decide (k < n) = false := decide_eq_false hkn
      have hkn' : k = n := by omega
      rw [hkn', List.take_of_length_le (by have := HN.out; omega)] at hs
      obtain ⟨C, hC⟩ : ∃ C, C = maxCo ys yc := ⟨_, rfl⟩
      rw [← hC] at hs
      have HCC := Lib.hid hC
      clear hC
      have HT := Lib.hid (top_any yb C (.slice none 0 0) a' yp.length c' hs.drew HK.out.2.2.1 HK.out.2.2.2 (by have := HK.out.1; omega))
      have g0 : (wr.drew).cell? ⟨b2, 0, none⟩ = some (.int .i64 yb) ∧ (wr.drew).cell? ⟨b2, 1, none⟩ = some (.slice none 0 0) ∧ (wr.drew).cell? ⟨b2, 2, none⟩ = some (.slice a' yp.length c') ∧ (wr.drew).cell? ⟨b2, 3, none⟩ = some (.int .i64 C) ∧ (wr.drew).cell? ⟨b5, 0, none⟩ = some (.int .i64 yf) := by obtain ⟨p0, p1, p2, p3⟩ := cells4 hs.drew; exact ⟨p0, p1, p2, p3, hs.drew.sw2.cell rfl⟩
      clear hs hk hkn hkn'
      (try dsimp only); repeat' (first | go_values | go_skip | go_guarded | go_step | go_upon | go_back)
      refine wp_region_G (fun w' => w'.cell? ⟨b2, 0, none⟩ = some (.int .i64 yb) ∧ w'.cell? ⟨b2, 1, none⟩ = some (.slice none 0 0) ∧ w'.cell? ⟨b2, 2, none⟩ = some (.slice a' yp.length c') ∧ w'.cell? ⟨b2, 3, none⟩ = some (.int .i64 C) ∧ w'.cell? ⟨b5, 0, none⟩ = some (.int .i64 yf)) [] (by kernel_rfl) g0 (fun hS => ?_)
      try dsimp only at hS
      refine wpAnyG_take' (i := 0) (v := ?v0_1p) rfl (by kernel_rfl) (by kernel_rfl) (by kernel_rfl) (by kernel_rfl) (fun _ _ _ h => h) (Or.inl ⟨by rfl, ?hy0_1p⟩) hS ?rest0_1p
      case hy0_1p => intro w hSw; (try dsimp only at hSw); go_simp; (try with_reducible rfl)
      case rest0_1p =>
      try simp only [List.getElem_toArray, List.getElem_cons_succ, List.getElem_cons_zero, Act.put, List.setIfInBounds_toArray, List.set_cons_zero, List.set_cons_succ]
      refine wpAnyG_take' (i := 1) (v := ?v1_2p) rfl (by kernel_rfl) (by kernel_rfl) (by kernel_rfl) (by kernel_rfl) (fun _ _ _ h => h) (Or.inl ⟨by rfl, ?hy1_2p⟩) hS ?rest1_2p
      case hy1_2p => intro w hSw; (try dsimp only at hSw); go_simp; (try with_reducible rfl)
      case rest1_2p =>
      try simp only [List.getElem_toArray, List.getElem_cons_succ, List.getElem_cons_zero, Act.put, List.setIfInBounds_toArray, List.set_cons_zero, List.set_cons_succ]
      refine wpAnyG_take' (i := 2) (v := ?v2_3p) rfl (by kernel_rfl) (by kernel_rfl) (by kernel_rfl) (by kernel_rfl) (fun _ _ _ h => h) (Or.inl ⟨by rfl, ?hy2_3p⟩) hS ?rest2_3p
      case hy2_3p => intro w hSw; (try dsimp only at hSw); go_simp; (try with_reducible rfl)
      case rest2_3p =>
      try simp only [List.getElem_toArray, List.getElem_cons_succ, List.getElem_cons_zero, Act.put, List.setIfInBounds_toArray, List.set_cons_zero, List.set_cons_succ]
      refine wpAnyG_one (i := 3) (by kernel_rfl) rfl (fun K hK => ?_)
      go_simp
      refine Calls.mono HT.out ?_
      rintro r9 w5 ⟨rfl, h5⟩
      have g5 : (w5).cell? ⟨b2, 0, none⟩ = some (.int .i64 yb) ∧ (w5).cell? ⟨b2, 1, none⟩ = some (.slice none 0 0) ∧ (w5).cell? ⟨b2, 2, none⟩ = some (.slice a' yp.length c') ∧ (w5).cell? ⟨b2, 3, none⟩ = some (.int .i64 C) ∧ (w5).cell? ⟨b5, 0, none⟩ = some (.int .i64 yf) := by obtain ⟨p0, p1, p2, p3⟩ := cells4 h5; exact ⟨p0, p1, p2, p3, h5.sw2.cell rfl⟩
      clear g0 HT
      refine hK.out _ _ (fun _ => ?hS4p) ?rest4p
      case hS4p => exact g5
      clear K hK
      try simp only [List.getElem_toArray, List.getElem_cons_succ, List.getElem_cons_zero, Act.put, List.setIfInBounds_toArray, List.set_cons_zero, List.set_cons_succ]
      refine wpAnyG_take' (i := 4) (v := ?v4_5p) rfl (by kernel_rfl) (by kernel_rfl) (by kernel_rfl) (by kernel_rfl) (fun _ _ _ h => h) (Or.inl ⟨by rfl, ?hy4_5p⟩) g5 ?rest4_5p
      case hy4_5p => intro w hSw; (try dsimp only at hSw); go_simp; (try with_reducible rfl)
      case rest4_5p =>
      try simp only [List.getElem_toArray, List.getElem_cons_succ, List.getElem_cons_zero, Act.put, List.setIfInBounds_toArray, List.set_cons_zero, List.set_cons_succ]
      refine wpAnyG_done (by kernel_rfl) ?_ _
      try simp only [List.getElem_toArray, List.getElem_cons_succ, List.getElem_cons_zero, Act.put, List.setIfInBounds_toArray, List.set_cons_zero, List.set_cons_succ]
      have hf := (Sep.pickL (M := [_, _, _, _, _, _]) h5 [3, 4, 5] rfl).offCloseB
      by_cases e : yb + (yp.length : Int) < C
      · have d : decide (yb + (yp.length : Int) < C) = true := decide_eq_true e
        rw [d]
        have HANS : Hid (choAns ⟨yf, yl, yb, yc, .slice ya yp.length yk, yp⟩ C a' c' = .tuple #[.agg #[.int .i64 0, .slice none 0 0, .slice none 0 0, .int .i64 0], .int .i64 0, .int .i64 9]) := Lib.hid (by unfold choAns OvM.top; exact if_pos e)
        have HTH := Lib.hid (Sep.thereAt h5 0 4 (Nat.le_refl 4))
        have h6 := Sep.storeW h5 #[.int .i64 0, .slice none 0 0, .slice none 0 0, .int .i64 0] rfl
        have HR := Lib.hid (h6.loadV 31 Tryd.underlying31 rfl (by kernel_rfl))
        have HF := Lib.hid (Sep.pickL (M := [_, _, _, _, _, _]) h6 [3, 4, 5] rfl).offCloseB
        clear h5 h6 hf g5 e d
        (try dsimp only); repeat' (first | (with_reducible show wpList _ _ _ (Oper.mk _ (Op.store 31 _ _) _ _ _ _ :: _) _ _; refine stopP ?_) | go_values | go_skip | go_guarded | go_step | go_upon | go_back)
        unfold StopP
        refine wpList_store_mid rfl 31 (.tmp 2) (.tmp 40) rfl b2 0 #[.int .i64 0, .slice none 0 0, .slice none 0 0, .int .i64 0] rfl rfl HTH.out (by kernel_rfl) (by kernel_rfl) ?_
        (try dsimp only); repeat' (first | go_values | go_skip | go_guarded | go_step | go_upon | go_back)
        exact bodyPost_ret (results_cell3 (x := .int .i64 0) (x2 := .int .i64 9) rfl rfl HR.out rfl rfl) rfl ⟨a', c', qs, by rw [← HCC.out]; exact congrArg Ending.returned HANS.out.symm, HQS.out, HF.out⟩
      · have d : decide (yb + (yp.length : Int) < C) = false := decide_eq_false e
        rw [d]
        have HANS : Hid (choAns ⟨yf, yl, yb, yc, .slice ya yp.length yk, yp⟩ C a' c' = .tuple #[.agg #[.int .i64 yb, .slice none 0 0, .slice a' yp.length c', .int .i64 C], .int .i64 yf, .int .i64 0]) := Lib.hid (by unfold choAns OvM.top; exact if_neg e)
        have h5d := h5.drew
        have s0 : (w5.drew).cell? ⟨b2, 0, none⟩ = some (.int .i64 yb) ∧ (w5.drew).cell? ⟨b2, 1, none⟩ = some (.slice none 0 0) ∧ (w5.drew).cell? ⟨b2, 2, none⟩ = some (.slice a' yp.length c') ∧ (w5.drew).cell? ⟨b2, 3, none⟩ = some (.int .i64 C) ∧ (w5.drew).cell? ⟨b5, 0, none⟩ = some (.int .i64 yf) := by obtain ⟨p0, p1, p2, p3⟩ := cells4 h5d; exact ⟨p0, p1, p2, p3, h5d.sw2.cell rfl⟩
        have HTH := Lib.hid (Sep.thereAt h5d 0 4 (Nat.le_refl 4))
        have h6 := Sep.storeW h5d #[.int .i64 yb, .slice none 0 0, .slice a' yp.length c', .int .i64 C] rfl
        obtain ⟨w8, hw8⟩ : ∃ q, q = w5.drew.setCells b2 0 (Array.toList #[.int .i64 yb, .slice none 0 0, .slice a' yp.length c', .int .i64 C]) := ⟨_, rfl⟩
        rw [← hw8] at h6
        have s1 : (w8).cell? ⟨b2, 0, none⟩ = some (.int .i64 yb) ∧ (w8).cell? ⟨b2, 1, none⟩ = some (.slice none 0 0) ∧ (w8).cell? ⟨b2, 2, none⟩ = some (.slice a' yp.length c') ∧ (w8).cell? ⟨b2, 3, none⟩ = some (.int .i64 C) ∧ (w8).cell? ⟨b5, 0, none⟩ = some (.int .i64 yf) := by obtain ⟨p0, p1, p2, p3⟩ := cells4 h6; exact ⟨p0, p1, p2, p3, h6.sw2.cell rfl⟩
        have HR := Lib.hid (h6.loadV 31 Tryd.underlying31 rfl (by kernel_rfl))
        have HF := Lib.hid (Sep.pickL (M := [_, _, _, _, _, _]) h6 [3, 4, 5] rfl).offCloseB
        clear h5 h5d h6 hf g5 e d
        (try dsimp only); repeat' (first | go_values | go_skip | go_guarded | go_step | go_upon | go_back)
        refine wp_region_G (fun w' => w'.cell? ⟨b2, 0, none⟩ = some (.int .i64 yb) ∧ w'.cell? ⟨b2, 1, none⟩ = some (.slice none 0 0) ∧ w'.cell? ⟨b2, 2, none⟩ = some (.slice a' yp.length c') ∧ w'.cell? ⟨b2, 3, none⟩ = some (.int .i64 C) ∧ w'.cell? ⟨b5, 0, none⟩ = some (.int .i64 yf)) [] (by kernel_rfl) s0 (fun hS => ?_)
        try dsimp only at hS
        refine wpAnyG_take' (i := 0) (v := ?v0_1s) rfl (by kernel_rfl) (by kernel_rfl) (by kernel_rfl) (by kernel_rfl) (fun _ _ _ h => h) (Or.inl ⟨by rfl, ?hy0_1s⟩) hS ?rest0_1s
        case hy0_1s => intro w hSw; (try dsimp only at hSw); go_simp; (try with_reducible rfl)
        case rest0_1s =>
        try simp only [List.getElem_toArray, List.getElem_cons_succ, List.getElem_cons_zero, Act.put, List.setIfInBounds_toArray, List.set_cons_zero, List.set_cons_succ]
        refine wpAnyG_take' (i := 1) (v := ?v1_2s) rfl (by kernel_rfl) (by kernel_rfl) (by kernel_rfl) (by kernel_rfl) (fun _ _ _ h => h) (Or.inl ⟨by rfl, ?hy1_2s⟩) hS ?rest1_2s
        case hy1_2s => intro w hSw; (try dsimp only at hSw); go_simp; (try with_reducible rfl)
        case rest1_2s =>
        try simp only [List.getElem_toArray, List.getElem_cons_succ, List.getElem_cons_zero, Act.put, List.setIfInBounds_toArray, List.set_cons_zero, List.set_cons_succ]
        refine wpAnyG_take' (i := 2) (v := ?v2_3s) rfl (by kernel_rfl) (by kernel_rfl) (by kernel_rfl) (by kernel_rfl) (fun _ _ _ h => h) (Or.inl ⟨by rfl, ?hy2_3s⟩) hS ?rest2_3s
        case hy2_3s => intro w hSw; (try dsimp only at hSw); go_simp; (try with_reducible rfl)
        case rest2_3s =>
        try simp only [List.getElem_toArray, List.getElem_cons_succ, List.getElem_cons_zero, Act.put, List.setIfInBounds_toArray, List.set_cons_zero, List.set_cons_succ]
        refine wpAnyG_one (i := 3) (by kernel_rfl) rfl (fun K hK => ?_)
        refine step_store_mid (by rfl) 31 (.tmp 2) (.tmp 41) (by rfl) b2 0 #[.int .i64 yb, .slice none 0 0, .slice a' yp.length c', .int .i64 C] (by rfl) (by rfl) HTH.out (by kernel_rfl) (by kernel_rfl) ?_
        rw [← hw8]
        clear hw8
        refine hK.out _ _ (fun _ => ?hS4s) ?rest4s
        case hS4s => exact s1
        clear K hK
        try simp only [List.getElem_toArray, List.getElem_cons_succ, List.getElem_cons_zero, Act.put, List.setIfInBounds_toArray, List.set_cons_zero, List.set_cons_succ]
        refine wpAnyG_take' (i := 4) (v := ?v4_5s) rfl (by kernel_rfl) (by kernel_rfl) (by kernel_rfl) (by kernel_rfl) (fun _ _ _ h => h) (Or.inl ⟨by rfl, ?hy4_5s⟩) s1 ?rest4_5s
        case hy4_5s => intro w hSw; (try dsimp only at hSw); go_simp; (try with_reducible rfl)
        case rest4_5s =>
        try simp only [List.getElem_toArray, List.getElem_cons_succ, List.getElem_cons_zero, Act.put, List.setIfInBounds_toArray, List.set_cons_zero, List.set_cons_succ]
        refine wpAnyG_take' (i := 5) (v := ?v5_6s) rfl (by kernel_rfl) (by kernel_rfl) (by kernel_rfl) (by kernel_rfl) (fun _ _ _ h => h) (Or.inl ⟨by rfl, ?hy5_6s⟩) s1 ?rest5_6s
        case hy5_6s => intro w hSw; (try dsimp only at hSw); go_simp; (try with_reducible rfl)
        case rest5_6s =>
        try simp only [List.getElem_toArray, List.getElem_cons_succ, List.getElem_cons_zero, Act.put, List.setIfInBounds_toArray, List.set_cons_zero, List.set_cons_succ]
        refine wpAnyG_done (by kernel_rfl) ?_ _
        try simp only [List.getElem_toArray, List.getElem_cons_succ, List.getElem_cons_zero, Act.put, List.setIfInBounds_toArray, List.set_cons_zero, List.set_cons_succ]
        (try dsimp only); repeat' (first | go_values | go_skip | go_guarded | go_step | go_upon | go_back)
        exact bodyPost_ret (results_cell3 (x := .int .i64 yf) (x2 := .int .i64 0) rfl rfl HR.out rfl rfl) rfl ⟨a', c', qs, by rw [← HCC.out]; exact congrArg Ending.returned HANS.out.symm, HQS.out, HF.out⟩
end Go.Proofs.YthgndegjiodopaaDoor
