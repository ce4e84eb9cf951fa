/- ProxySends. -/
import Derived.Test.YtdemconpdjgimaaDoorPx12
import Derived.Test.YtdemconpdjgimaaDoorOpenRows
namespace Go.Proofs.YtdemconpdjgimaaDoor
open Go.RowKit
set_option linter.unusedVariables false
set_option linter.unusedSimpArgs false
def bsM (v : Int) : MsM := ⟨10, 1, 17, v, 0, 0, 0, 2, 1, 0, 0, 0, false⟩
theorem chk_b {v : Int} (h0 : 0 ≤ v) (h1 : v ≤ 9007199254740991) : chkM (bsM v) = true := by
  unfold chkM
  rw [if_neg (show ¬ (bsM v).k = 2 from (by decide : ¬ (10 : Int) = 2)), if_pos (show (bsM v).k = 10 from rfl)]
  unfold chk10 bsM
  dsimp only
  rw [holds_t h0 h1]
  rfl
theorem cnt_b {v n : Int} (h0 : 0 ≤ v) (h1 : v ≤ 9007199254740991) (hn : 1 < n) : cntM true n 1 (bsM v) = true := by
  unfold cntM
  rw [chk_b h0 h1]
  unfold cntsB bsM
  dsimp only
  rw [decide_eq_true hn]
  rfl
theorem maxI_0 {v : Int} (h : 0 ≤ v) : maxI 0 v = v := by unfold maxI; split <;> omega
theorem mod_step (j e : Nat) (he : 0 < e) : ((j + 1) % e = 0 ↔ j % e + 1 = e) ∧ ((j + 1) % e ≠ 0 → (j + 1) % e = j % e + 1) := by
  have h1 := Nat.mod_lt j he
  rw [Nat.add_mod]
  by_cases h : j % e + 1 = e
  · have e1 : (j % e + 1 % e) % e = 0 := by
      by_cases h2 : e = 1
      · subst h2; simp [Nat.mod_one]
      · rw [Nat.mod_eq_of_lt (show 1 < e by omega), h, Nat.mod_self]
    exact ⟨⟨fun _ => h, fun _ => e1⟩, fun hn => absurd e1 hn⟩
  · have e1 : (j % e + 1 % e) % e = j % e + 1 := by
      rw [Nat.mod_eq_of_lt (show 1 < e by omega), Nat.mod_eq_of_lt (by omega)]
    exact ⟨⟨fun h0 => by omega, fun h0 => absurd h0 h⟩, fun _ => e1⟩
def rng (n : Nat) : List Int := (List.range n).map Int.ofNat
theorem rng_len (n : Nat) : (rng n).length = n := by simp [rng]
theorem rng_succ (n : Nat) : rng (n + 1) = rng n ++ [(n : Int)] := by unfold rng; rw [List.range_succ, List.map_append]; rfl
set_option maxRecDepth 100000 in
set_option maxHeartbeats 0 in
theorem sends_any (f lim x0 x1 : Int) (w : World) (hKM : KindsAt w ∧ MKindsAt w) : Calls Tryd.prog 5 #[.int .i64 f, .int .i64 lim, .agg #[.int .i64 x0, .int .i64 x1]] w fun e w' => e = .returned (.bool true) ∧ Below w.heap.size w w' := by
  obtain ⟨n, hn⟩ : ∃ n : Nat, (n : Int) = 3 + 2 * (f % 7) := ⟨(3 + 2 * (f % 7)).toNat, by omega⟩
  obtain ⟨e, he⟩ : ∃ e : Nat, (e : Int) = 1 + lim % 30 := ⟨(1 + lim % 30).toNat, by omega⟩
  obtain ⟨vw, hvw⟩ : ∃ vw, vw = x1 % 100 := ⟨_, rfl⟩
  obtain ⟨X0, hX0⟩ : ∃ z, z = x0 % 300 := ⟨_, rfl⟩
  have HBL := Lib.hid (fun wx => bring_any lim 30 wx (by unfold Sm; omega))
  have HBV := Lib.hid (fun wx => bring_any x1 100 wx (by unfold Sm; omega))
  have HBX := Lib.hid (fun wx => bring_any x0 300 wx (by unfold Sm; omega))
  rw [← hvw] at HBV
  rw [← hX0] at HBX
  obtain ⟨l30, hl30⟩ : ∃ z, z = lim % 30 := ⟨_, rfl⟩
  rw [← hl30] at HBL
  have el : IntKind.i64.wrap (1 + l30) = (e : Int) := by rw [he, hl30]; exact IntWalk.i64_in _ (by omega)
  have vw0 : 0 ≤ vw := by omega
  have vw100 : vw < 100 := by omega
  have X0n : 0 ≤ X0 := by omega
  have X300 : X0 < 300 := by omega
  have n0 : (0 : Int) ≤ (n : Int) := by omega
  have n3 : (3 : Int) ≤ (n : Int) := by omega
  have n15 : (n : Int) ≤ 15 := by omega
  have he0 : 0 < e := by omega
  have he30 : e ≤ 30 := by omega
  have h1 := (Sep.start w).alloc (.cells #[.int .i64 x0, .int .i64 x1] 50)
  obtain ⟨bx, hbx⟩ : ∃ z, z = w.heap.size := ⟨_, rfl⟩
  obtain ⟨w1, hw1⟩ : ∃ z, z = w.alloc (.cells #[.int .i64 x0, .int .i64 x1] 50) := ⟨_, rfl⟩
  rw [← hbx, ← hw1] at h1
  have hmd := made_any f lim h1 hKM.1 n hn
  rw [← he] at hmd
  have HMD := Lib.hid hmd
  have HK := Lib.hid hKM
  obtain ⟨rv, hrv⟩ : ∃ z, z = vw % (n : Int) := ⟨_, rfl⟩
  have htv : vw.tmod (n : Int) = rv := by rw [hrv]; exact Int.tmod_eq_emod_of_nonneg vw0
  have nN : ¬ n = 0 := by omega
  have nI : ¬ (n : Int) = 0 := by omega
  have nM : ¬ (n : Int) = -1 := by omega
  have htv2 : vw % (n : Int) = rv := hrv.symm
  clear hn he hvw hX0 hl30 hKM hmd h1 hrv
  go_enter Tryd.func5, Tryd.ntmps5
  (try dsimp only); repeat' (first | go_values | go_skip | go_guarded | go_step | go_upon | go_back)
  rw [← hw1, ← hbx]
  clear hw1 hbx
  refine HMD.out.mono ?_
  rintro r0 w2 ⟨g, gc, gt, b, la, lc, rfl, hla, h2⟩
  have HLA := Lib.hid hla
  have cx1 := h2.sw5.cell (o := 1) (x := .int .i64 x1) rfl
  have hbusy := pxtake_busy (g := g) (gc := gc) (cl := 2) (num := 1) (view := 0) (wt := true) (st := false) (k := 6) (o := 1) (lv := .slice la 0 lc) (tp := .pointer (some ⟨gt, 0, none⟩)) (mf := 1) (mt := 17) (mv := vw) (mo := 0) (mc := 0) (ml := 0) (ec := 2) (em := 1) (rc := 0) (ra := 0) (rb := 0) (ms := false) (la := none) (lc := none) (ea := none) (kl := 0) (kc := 0) (ke := 0) (n := (n : Int)) h2 (by
    have h9 := cnt_10 (g := g) (gc := gc) (n := (n : Int)) (num := 1) (view := 0) (wt := true) (st := false) (k := 6) (o := 1) (lv := .slice la 0 lc) (tp := .pointer (some ⟨gt, 0, none⟩)) HK.out.2 (bsM vw) rfl ⟨rfl, rfl, rfl, rfl⟩
    rw [cnt_b vw0 (by omega) (by omega)] at h9
    exact h9)
  rw [maxI_0 vw0] at hbusy
  unfold msC at hbusy
  dsimp only at hbusy
  have HBS := Lib.hid hbusy
  clear HMD hla h2 hbusy
  (try dsimp only); repeat' (first | go_values | go_skip | go_guarded | go_step | go_upon | go_back)
  refine (HBL.out _).mono ?_
  rintro r0 w3 ⟨rfl, rfl⟩
  clear HBL
  (try dsimp only); repeat' (first | go_values | go_skip | go_guarded | go_step | go_upon | go_back)
  refine (HBV.out _).mono ?_
  rintro r0 w3 ⟨rfl, rfl⟩
  clear HBV
  (try dsimp only); repeat' (first | go_values | go_skip | go_guarded | go_step | go_upon | go_back)
  refine HBS.out.mono ?_
  rintro r0 w3 ⟨rfl, h3⟩
  have h3q : Sep w (PrxC g gc 2 (n : Int) 1 vw true false 6 1 (.slice la 0 lc) (.pointer (some ⟨gt, 0, none⟩)) :: CkT gc (e : Int) 0 :: TalC gt b (n : Int) :: BalM b [] :: [Cl bx #[.int .i64 x0, .int .i64 x1] 50]) w3 := h3
  have H3 := Lib.hid h3q
  clear HBS h3 h3q cx1
  (try dsimp only); repeat' (first | go_values | go_skip | go_guarded | go_step | go_upon | go_back)
  refine wp_region_G (fun _ => True) [] (by kernel_rfl) trivial (fun hS => ?_)
  try dsimp only at hS
  refine wpAnyG_take' (i := 0) (v := ?v0_1sd) rfl (by kernel_rfl) (by kernel_rfl) (by kernel_rfl) (by kernel_rfl) (fun _ _ _ h => h) (Or.inl ⟨by rfl, ?hy0_1sd⟩) hS ?rest0_1sd
  case hy0_1sd => intro w hSw; (try dsimp only at hSw); go_simp; (try with_reducible rfl)
  case rest0_1sd =>
  try simp only [List.getElem_toArray, List.getElem_cons_succ, List.getElem_cons_zero, Act.put, List.setIfInBounds_toArray, List.set_cons_zero, List.set_cons_succ]
  refine wpAnyG_take' (i := 2) (v := ?v2_2sd) rfl (by kernel_rfl) (by kernel_rfl) (by kernel_rfl) (by kernel_rfl) (fun _ _ _ h => h) (Or.inl ⟨by rfl, ?hy2_2sd⟩) hS ?rest2_2sd
  case hy2_2sd => intro w hSw; (try dsimp only at hSw); go_simp; (try with_reducible rfl)
  case rest2_2sd =>
  try simp only [List.getElem_toArray, List.getElem_cons_succ, List.getElem_cons_zero, Act.put, List.setIfInBounds_toArray, List.set_cons_zero, List.set_cons_succ]
  refine wpAnyG_one (i := 1) (by kernel_rfl) rfl (fun K hK => ?_)
  go_simp
  refine Calls.mono (pxview_any H3.out.drew) ?_
  rintro r0 w4 ⟨rfl, rfl⟩
  refine hK.out _ _ (fun _ => ?hS3sd) ?rest3sd
  case hS3sd => exact trivial
  clear K hK
  try simp only [List.getElem_toArray, List.getElem_cons_succ, List.getElem_cons_zero, Act.put, List.setIfInBounds_toArray, List.set_cons_zero, List.set_cons_succ]
  refine wpAnyG_take' (i := 3) (v := ?v3_4sd) rfl (by kernel_rfl) (by kernel_rfl) (by kernel_rfl) (by kernel_rfl) (fun _ _ _ h => h) (Or.inl ⟨by rfl, ?hy3_4sd⟩) hS ?rest3_4sd
  case hy3_4sd => intro w hSw; (try dsimp only at hSw); go_simp; (try with_reducible rfl)
  case rest3_4sd =>
  try simp only [List.getElem_toArray, List.getElem_cons_succ, List.getElem_cons_zero, Act.put, List.setIfInBounds_toArray, List.set_cons_zero, List.set_cons_succ]
  refine wpAnyG_take' (i := 4) (v := ?v4_5sd) rfl (by kernel_rfl) (by kernel_rfl) (by kernel_rfl) (by kernel_rfl) (fun _ _ _ h => h) (Or.inl ⟨by rfl, ?hy4_5sd⟩) hS ?rest4_5sd
  case hy4_5sd => intro w hSw; (try dsimp only at hSw); go_simp; (try with_reducible rfl)
  case rest4_5sd =>
  try simp only [List.getElem_toArray, List.getElem_cons_succ, List.getElem_cons_zero, Act.put, List.setIfInBounds_toArray, List.set_cons_zero, List.set_cons_succ]
  refine wpAnyG_take' (i := 5) (v := ?v5_6sd) rfl (by kernel_rfl) (by kernel_rfl) (by kernel_rfl) (by kernel_rfl) (fun _ _ _ h => h) (Or.inl ⟨by rfl, ?hy5_6sd⟩) hS ?rest5_6sd
  case hy5_6sd => intro w hSw; (try dsimp only at hSw); go_simp; (try with_reducible rfl)
  case rest5_6sd =>
  try simp only [List.getElem_toArray, List.getElem_cons_succ, List.getElem_cons_zero, Act.put, List.setIfInBounds_toArray, List.set_cons_zero, List.set_cons_succ]
  refine wpAnyG_one (i := 6) (by kernel_rfl) rfl (fun K hK => ?_)
  go_simp
  refine Calls.mono (pxwaits_any H3.out.drew) ?_
  rintro r0 w4 ⟨rfl, rfl⟩
  refine hK.out _ _ (fun _ => ?hS7sd) ?rest7sd
  case hS7sd => exact trivial
  clear K hK
  try simp only [List.getElem_toArray, List.getElem_cons_succ, List.getElem_cons_zero, Act.put, List.setIfInBounds_toArray, List.set_cons_zero, List.set_cons_succ]
  refine wpAnyG_take' (i := 7) (v := ?v7_8sd) rfl (by kernel_rfl) (by kernel_rfl) (by kernel_rfl) (by kernel_rfl) (fun _ _ _ h => h) (Or.inl ⟨by rfl, ?hy7_8sd⟩) hS ?rest7_8sd
  case hy7_8sd => intro w hSw; (try dsimp only at hSw); go_simp; (try with_reducible rfl)
  case rest7_8sd =>
  try simp only [List.getElem_toArray, List.getElem_cons_succ, List.getElem_cons_zero, Act.put, List.setIfInBounds_toArray, List.set_cons_zero, List.set_cons_succ]
  refine wpAnyG_take' (i := 8) (v := ?v8_9sd) rfl (by kernel_rfl) (by kernel_rfl) (by kernel_rfl) (by kernel_rfl) (fun _ _ _ h => h) (Or.inl ⟨by rfl, ?hy8_9sd⟩) hS ?rest8_9sd
  case hy8_9sd => intro w hSw; (try dsimp only at hSw); go_simp; (try with_reducible rfl)
  case rest8_9sd =>
  try simp only [List.getElem_toArray, List.getElem_cons_succ, List.getElem_cons_zero, Act.put, List.setIfInBounds_toArray, List.set_cons_zero, List.set_cons_succ]
  refine wpAnyG_take' (i := 9) (v := ?v9_10sd) rfl (by kernel_rfl) (by kernel_rfl) (by kernel_rfl) (by kernel_rfl) (fun _ _ _ h => h) (Or.inl ⟨by rfl, ?hy9_10sd⟩) hS ?rest9_10sd
  case hy9_10sd => intro w hSw; (try dsimp only at hSw); go_simp; (try with_reducible rfl)
  case rest9_10sd =>
  try simp only [List.getElem_toArray, List.getElem_cons_succ, List.getElem_cons_zero, Act.put, List.setIfInBounds_toArray, List.set_cons_zero, List.set_cons_succ]
  refine wpAnyG_take' (i := 10) (v := ?v10_11sd) rfl (by kernel_rfl) (by kernel_rfl) (by kernel_rfl) (by kernel_rfl) (fun _ _ _ h => h) (Or.inl ⟨by rfl, ?hy10_11sd⟩) hS ?rest10_11sd
  case hy10_11sd => intro w hSw; (try dsimp only at hSw); go_simp; (try with_reducible rfl)
  case rest10_11sd =>
  try simp only [List.getElem_toArray, List.getElem_cons_succ, List.getElem_cons_zero, Act.put, List.setIfInBounds_toArray, List.set_cons_zero, List.set_cons_succ]
  refine wpAnyG_take' (i := 12) (v := ?v12_12sd) rfl (by kernel_rfl) (by kernel_rfl) (by kernel_rfl) (by kernel_rfl) (fun _ _ _ h => h) (Or.inl ⟨by rfl, ?hy12_12sd⟩) hS ?rest12_12sd
  case hy12_12sd => intro w hSw; (try dsimp only at hSw); go_simp; (try with_reducible rfl)
  case rest12_12sd =>
  try simp only [List.getElem_toArray, List.getElem_cons_succ, List.getElem_cons_zero, Act.put, List.setIfInBounds_toArray, List.set_cons_zero, List.set_cons_succ]
  refine wpAnyG_take' (i := 13) (v := ?v13_13sd) rfl (by kernel_rfl) (by kernel_rfl) (by kernel_rfl) (by kernel_rfl) (fun _ _ _ h => h) (Or.inl ⟨by rfl, ?hy13_13sd⟩) hS ?rest13_13sd
  case hy13_13sd => intro w hSw; (try dsimp only at hSw); go_simp; (try with_reducible rfl)
  case rest13_13sd =>
  try simp only [List.getElem_toArray, List.getElem_cons_succ, List.getElem_cons_zero, Act.put, List.setIfInBounds_toArray, List.set_cons_zero, List.set_cons_succ]
  refine wpAnyG_take' (i := 14) (v := ?v14_14sd) rfl (by kernel_rfl) (by kernel_rfl) (by kernel_rfl) (by kernel_rfl) (fun _ _ _ h => h) (Or.inl ⟨by rfl, ?hy14_14sd⟩) hS ?rest14_14sd
  case hy14_14sd => intro w hSw; (try dsimp only at hSw); go_simp; (try with_reducible rfl)
  case rest14_14sd =>
  try simp only [List.getElem_toArray, List.getElem_cons_succ, List.getElem_cons_zero, Act.put, List.setIfInBounds_toArray, List.set_cons_zero, List.set_cons_succ]
  refine wpAnyG_two (i := 11) (j := 15) (by kernel_rfl) rfl rfl (fun K hK => ?_) (fun K hK => ?_)
  · go_simp
    refine Calls.mono (pxtick_first H3.out.drew (by decide) (by decide) HLA.out vw0 (by omega) (by omega)) ?_
    rintro r0 w5 ⟨v5, rows5, rfl, -, hr5, h5⟩
    rw [htv2] at hr5
    refine hK.out _ _ (fun _ => ?hS1sda15) ?rest1sda15
    case hS1sda15 => exact trivial
    clear K hK
    try simp only [List.getElem_toArray, List.getElem_cons_succ, List.getElem_cons_zero, Act.put, List.setIfInBounds_toArray, List.set_cons_zero, List.set_cons_succ]
    refine wpAnyG_one (i := 15) (by kernel_rfl) rfl (fun K hK => ?_)
    go_simp
    have h6 := asInts (h5.alloc (.cells #[.int .i64 rv] 3)) [rv] 1 rfl rfl (by decide)
    have HT := Lib.hid (to_any h6.sw2 hr5 (by simp))
    clear h5 h6
    refine hK.out _ _ (fun _ => ?hS2sda15) ?rest2sda15
    case hS2sda15 => exact trivial
    clear K hK
    try simp only [List.getElem_toArray, List.getElem_cons_succ, List.getElem_cons_zero, Act.put, List.setIfInBounds_toArray, List.set_cons_zero, List.set_cons_succ]
    refine wpAnyG_one (i := 16) (by kernel_rfl) rfl (fun K hK => ?_)
    go_simp
    refine Calls.mono HT.out ?_
    rintro r0 w8 ⟨rfl, h8⟩
    have HH := Lib.hid h8.drop.drop
    clear HT h8 H3
    refine hK.out _ _ (fun _ => ?hS3sda15) ?rest3sda15
    case hS3sda15 => exact trivial
    clear K hK
    try simp only [List.getElem_toArray, List.getElem_cons_succ, List.getElem_cons_zero, Act.put, List.setIfInBounds_toArray, List.set_cons_zero, List.set_cons_succ]
    refine wpAnyG_take' (i := 17) (v := ?v17_4sda15) rfl (by kernel_rfl) (by kernel_rfl) (by kernel_rfl) (by kernel_rfl) (fun _ _ _ h => h) (Or.inl ⟨by rfl, ?hy17_4sda15⟩) trivial ?rest17_4sda15
    case hy17_4sda15 => intro w hSw; (try dsimp only at hSw); go_simp; (try with_reducible rfl)
    case rest17_4sda15 =>
    try simp only [List.getElem_toArray, List.getElem_cons_succ, List.getElem_cons_zero, Act.put, List.setIfInBounds_toArray, List.set_cons_zero, List.set_cons_succ]
    refine wpAnyG_take' (i := 18) (v := ?v18_5sda15) rfl (by kernel_rfl) (by kernel_rfl) (by kernel_rfl) (by kernel_rfl) (fun _ _ _ h => h) (Or.inl ⟨by rfl, ?hy18_5sda15⟩) trivial ?rest18_5sda15
    case hy18_5sda15 => intro w hSw; (try dsimp only at hSw); go_simp; (try with_reducible rfl)
    case rest18_5sda15 =>
    try simp only [List.getElem_toArray, List.getElem_cons_succ, List.getElem_cons_zero, Act.put, List.setIfInBounds_toArray, List.set_cons_zero, List.set_cons_succ]
    refine wpAnyG_done (by kernel_rfl) ?_ _
    try simp only [List.getElem_toArray, List.getElem_cons_succ, List.getElem_cons_zero, Act.put, List.setIfInBounds_toArray, List.set_cons_zero, List.set_cons_succ]
    clear hS
    (try dsimp only); repeat' (first | go_values | go_skip | go_guarded | go_step | go_upon | go_back)
    go_loopw [11, 12] (fun v z wr => ∃ j : Nat, j ≤ n ∧ z = .int .i64 j ∧ Sep w (Is v (rng j) :: PrxC g gc 2 (n : Int) 1 vw true true 6 1 (.slice la 0 lc) (.pointer (some ⟨gt, 0, none⟩)) :: CkT gc (e : Int) 0 :: TalC gt b (n : Int) :: BalM b [] :: [Cl bx #[.int .i64 x0, .int .i64 x1] 50]) wr) (fun _ z _ => n - (intOf z).toNat)
    case atStart => exact ⟨0, Nat.zero_le _, rfl, HH.out.rnil 3⟩
    case round =>
      obtain ⟨j, hj, rfl, hs⟩ := hrel
      clear HH
      have j0 : (0 : Int) ≤ (j : Int) := by omega
      by_cases hjn : j < n
      · have dj : decide (j < n) = true := decide_eq_true hjn
        have dji : decide ((j : Int) < (n : Int)) = true := decide_eq_true (by omega)
        have j15 : (j : Int) < 15 := by omega
        have h2 := hs.alloc (.cells #[.int .i64 (j : Int)] 3)
        have h3 := asInts h2 [(j : Int)] 1 rfl rfl (by decide)
        obtain ⟨v', w', hr, h4, -⟩ := appI (ty := 56) h3.sw2 h3.sl (by rw [rng_len]; simp; omega)
        rw [← rng_succ] at h4
        have HAP := Lib.hid hr
        have H4 := Lib.hid (Sep.drop h4.sw2)
        have HJ := Lib.hid hjn
        clear hs h2 h3 hr h4 hj hjn
        (try dsimp only); repeat' (first | (at_builtin; refine stopP ?_) | go_values | go_skip | go_guarded | go_step | go_upon | go_back)
        unfold StopP
        refine wpList_append_r rfl _ _ _ _ rfl rfl rfl HAP.out ?_
        clear HAP
        (try dsimp only); repeat' (first | go_values | go_skip | go_guarded | go_step | go_upon | go_back)
        go_roundw
        case rel => exact ⟨j + 1, by have := HJ.out; omega, by go_num, H4.out⟩
        case measure => have := HJ.out; simp [intOf]; omega
      · have dj : decide (j < n) = false := decide_eq_false hjn
        have dji : decide ((j : Int) < (n : Int)) = false := decide_eq_false (by omega)
        obtain rfl : j = n := by omega
        obtain ⟨ua, uc, rfl⟩ := hs.sl.len
        rw [iv_length, rng_len] at hs
        have HS := Lib.hid hs
        rw [iv_length, rng_len]
        clear hs hj hjn
        (try dsimp only); repeat' (first | go_values | go_skip | go_guarded | go_step | go_upon | go_back)
        go_loopw [13] (fun z wr => ∃ q : Nat, (q : Int) ≤ X0 ∧ z = .int .i64 ((q : Int) + 1) ∧ Sep w (Is (.slice ua j uc) (rng j) :: PrxC g gc 2 (j : Int) 1 vw true true 6 1 (.slice la 0 lc) (.pointer (some ⟨gt, 0, none⟩)) :: CkT gc (e : Int) ((q % e : Nat) : Int) :: TalC gt b (j : Int) :: BalM b [] :: [Cl bx #[.int .i64 x0, .int .i64 x1] 50]) wr) (fun z _ => 302 - (intOf z).toNat)
        case atStart => exact ⟨0, X0n, rfl, by rw [Nat.zero_mod]; exact HS.out⟩
        case round =>
          obtain ⟨q, hq, rfl, hs⟩ := hrel
          clear HS
          have q0 : (0 : Int) ≤ (q : Int) := by omega
          have q300 : (q : Int) < 300 := by omega
          have cx := hs.sw6.cell (o := 0) (x := .int .i64 x0) rfl
          have HS := Lib.hid hs
          clear hs
          (try dsimp only); repeat' (first | go_values | go_skip | go_guarded | go_step | go_upon | go_back)
          refine (HBX.out _).mono ?_
          rintro r0 w12 ⟨rfl, rfl⟩
          by_cases hgo : (q : Int) + 1 ≤ X0
          · have dgo : decide ((q : Int) + 1 ≤ X0) = true := decide_eq_true hgo
            have dgo2 : decide ((q : Int) < X0) = true := decide_eq_true (by omega)
            have hms := mod_step q e he0
            have hpe := Nat.mod_lt q he0
            obtain ⟨rr, hrr⟩ : ∃ z : Nat, z = (q + 1) % e := ⟨_, rfl⟩
            have ht2 : ((q : Int) + 1) % (e : Int) = (rr : Int) := by
              rw [hrr, Int.natCast_emod, show ((q + 1 : Nat) : Int) = (q : Int) + 1 by omega]
            have ht1 : ((q : Int) + 1).tmod (e : Int) = (rr : Int) := by rw [Int.tmod_eq_emod_of_nonneg (by omega), ht2]
            have eN : ¬ e = 0 := by omega
            have eI : ¬ (e : Int) = 0 := by omega
            have eM : ¬ (e : Int) = -1 := by omega
            by_cases hz : rr = 0
            · skip
              have hl : q % e + 1 = e := hms.1.1 (by omega)
              have HTK := Lib.hid (pxtick_all (HS.out.pick [1, 2, 0, 3, 4, 5] rfl) (by omega) (by omega) (by omega) (by decide) (by decide) HLA.out (by omega))
              have HE := Lib.hid (And.intro hgo (show (q + 1) % e = 0 by omega))
              have dz : ((rr : Int) == 0) = true := by rw [beq_iff_eq]; omega
              have dz2 : ((rr : Int) != 0) = false := by rw [bne_eq_false_iff_eq]; omega
              clear HS hgo hms hpe hrr hl hz cx hq
              (try dsimp only); repeat' (first | go_values | go_skip | go_guarded | go_step | go_upon | go_back)
              refine HTK.out.mono ?_
              rintro r0 w13 ⟨v13, rows13, rfl, hl13, hr13, h13⟩
              have h14 : Sep w (MsR v13 rows13 :: Is (.slice ua j uc) (rng j) :: PrxC g gc 2 (j : Int) 1 vw true true 6 1 (.slice la 0 lc) (.pointer (some ⟨gt, 0, none⟩)) :: CkT gc (e : Int) 0 :: TalC gt b (j : Int) :: BalM b [] :: [Cl bx #[.int .i64 x0, .int .i64 x1] 50]) w13 := h13.pick [0, 3, 1, 2, 4, 5, 6] rfl
              have HT := Lib.hid (to_any h14 hr13 (by rw [rng_len]; omega))
              clear HTK h13 h14 hr13 hl13
              (try dsimp only); repeat' (first | go_values | go_skip | go_guarded | go_step | go_upon | go_back)
              refine HT.out.mono ?_
              rintro r0 w15 ⟨rfl, h15⟩
              have H15 := Lib.hid h15.drop
              clear HT h15
              (try dsimp only); repeat' (first | go_values | go_skip | go_guarded | go_step | go_upon | go_back)
              go_roundw
              case rel => exact ⟨q + 1, by have := HE.out.1; omega, by go_num, by rw [HE.out.2]; exact H15.out⟩
              case measure => have := HE.out.1; simp [intOf]; omega
            · skip
              have hl : (q + 1) % e = q % e + 1 := hms.2 (by omega)
              have hl2 : q % e + 1 < e := by have := Nat.mod_lt (q + 1) he0; omega
              have HTK := Lib.hid (pxtick_wait (HS.out.pick [1, 2, 0, 3, 4, 5] rfl) (by omega) (by omega) (by omega) (by omega))
              have HE := Lib.hid (And.intro hgo hl)
              have dz : ((rr : Int) == 0) = false := by rw [beq_eq_false_iff_ne]; omega
              have dz2 : ((rr : Int) != 0) = true := by rw [bne_iff_ne]; omega
              clear HS hgo hms hpe hrr hl hl2 hz cx hq
              (try dsimp only); repeat' (first | go_values | go_skip | go_guarded | go_step | go_upon | go_back)
              refine HTK.out.mono ?_
              rintro r0 w13 ⟨rfl, h13⟩
              have h14 : Sep w (Is (.slice ua j uc) (rng j) :: PrxC g gc 2 (j : Int) 1 vw true true 6 1 (.slice la 0 lc) (.pointer (some ⟨gt, 0, none⟩)) :: CkT gc (e : Int) (((q % e : Nat) : Int) + 1) :: TalC gt b (j : Int) :: BalM b [] :: [Cl bx #[.int .i64 x0, .int .i64 x1] 50]) w13 := h13.pick [2, 0, 1, 3, 4, 5] rfl
              have H14 := Lib.hid h14
              clear HTK h13 h14
              (try dsimp only); repeat' (first | go_values | go_skip | go_guarded | go_step | go_upon | go_back)
              go_roundw
              case rel => exact ⟨q + 1, by have := HE.out.1; omega, by go_num, by rw [HE.out.2]; exact H14.out⟩
              case measure => have := HE.out.1; simp [intOf]; omega
          · have dgo : decide ((q : Int) + 1 ≤ X0) = false := decide_eq_false hgo
            have dgo2 : decide ((q : Int) < X0) = false := decide_eq_false (by omega)
            have HWK := Lib.hid (fun wx M (hx : Sep w M wx) => works21_any hx HK.out.1 HK.out.2)
            have HNM := Lib.hid (pxnum_any HS.out.sw2)
            clear hgo hq cx
            (try dsimp only); repeat' (first | go_values | go_skip | go_guarded | go_step | go_upon | go_back)
            refine HNM.out.mono ?_
            rintro r0 w13 ⟨rfl, rfl⟩
            clear HNM
            (try dsimp only); repeat' (first | go_values | go_skip | go_guarded | go_step | go_upon | go_back)
            refine (HWK.out _ _ HS.out).mono ?_
            rintro r0 w14 ⟨rfl, h14⟩
            have H14 := Lib.hid h14.low
            clear HWK HS h14
            (try dsimp only); repeat' (first | go_values | go_skip | go_guarded | go_step | go_upon | go_back)
            go_ret
            exact ⟨rfl, H14.out⟩
  · go_simp
    have h4 : Sep w (PrxC g gc 2 (n : Int) 1 vw true false 6 1 (.slice la 0 lc) (.pointer (some ⟨gt, 0, none⟩)) :: CkT gc (e : Int) 0 :: TalC gt b (n : Int) :: BalM b [] :: Cl bx #[.int .i64 x0, .int .i64 x1] 50 :: [Is (.slice (some ⟨w3.heap.size, 0, none⟩) 1 1) [rv]]) _ := (asInts (H3.out.drew.alloc (.cells #[.int .i64 rv] 3)) [rv] 1 rfl rfl (by decide)).pick [1, 2, 3, 4, 5, 0] rfl
    refine hK.out _ _ (fun _ => ?hS1sdb15) ?rest1sdb15
    case hS1sdb15 => exact trivial
    clear K hK
    try simp only [List.getElem_toArray, List.getElem_cons_succ, List.getElem_cons_zero, Act.put, List.setIfInBounds_toArray, List.set_cons_zero, List.set_cons_succ]
    refine wpAnyG_one (i := 11) (by kernel_rfl) rfl (fun K hK => ?_)
    go_simp
    refine Calls.mono (pxtick_first h4 (by decide) (by decide) HLA.out vw0 (by omega) (by omega)) ?_
    rintro r0 w5 ⟨v5, rows5, rfl, -, hr5, h5⟩
    rw [htv2] at hr5
    have h5q : Sep w (MsR v5 rows5 :: Is (.slice (some ⟨w3.heap.size, 0, none⟩) 1 1) [rv] :: PrxC g gc 2 (n : Int) 1 vw true true 6 1 (.slice la 0 lc) (.pointer (some ⟨gt, 0, none⟩)) :: CkT gc (e : Int) 0 :: TalC gt b (n : Int) :: BalM b [] :: [Cl bx #[.int .i64 x0, .int .i64 x1] 50]) w5 := h5.pick [0, 6, 1, 2, 3, 4, 5] rfl
    have HT := Lib.hid (to_any h5q hr5 (by simp))
    clear h4 h5 h5q
    refine hK.out _ _ (fun _ => ?hS2sdb15) ?rest2sdb15
    case hS2sdb15 => exact trivial
    clear K hK
    try simp only [List.getElem_toArray, List.getElem_cons_succ, List.getElem_cons_zero, Act.put, List.setIfInBounds_toArray, List.set_cons_zero, List.set_cons_succ]
    refine wpAnyG_one (i := 16) (by kernel_rfl) rfl (fun K hK => ?_)
    go_simp
    refine Calls.mono HT.out ?_
    rintro r0 w8 ⟨rfl, h8⟩
    have HH := Lib.hid h8.drop.drop
    clear HT h8 H3
    refine hK.out _ _ (fun _ => ?hS3sdb15) ?rest3sdb15
    case hS3sdb15 => exact trivial
    clear K hK
    try simp only [List.getElem_toArray, List.getElem_cons_succ, List.getElem_cons_zero, Act.put, List.setIfInBounds_toArray, List.set_cons_zero, List.set_cons_succ]
    refine wpAnyG_take' (i := 17) (v := ?v17_4sdb15) rfl (by kernel_rfl) (by kernel_rfl) (by kernel_rfl) (by kernel_rfl) (fun _ _ _ h => h) (Or.inl ⟨by rfl, ?hy17_4sdb15⟩) trivial ?rest17_4sdb15
    case hy17_4sdb15 => intro w hSw; (try dsimp only at hSw); go_simp; (try with_reducible rfl)
    case rest17_4sdb15 =>
    try simp only [List.getElem_toArray, List.getElem_cons_succ, List.getElem_cons_zero, Act.put, List.setIfInBounds_toArray, List.set_cons_zero, List.set_cons_succ]
    refine wpAnyG_take' (i := 18) (v := ?v18_5sdb15) rfl (by kernel_rfl) (by kernel_rfl) (by kernel_rfl) (by kernel_rfl) (fun _ _ _ h => h) (Or.inl ⟨by rfl, ?hy18_5sdb15⟩) trivial ?rest18_5sdb15
    case hy18_5sdb15 => intro w hSw; (try dsimp only at hSw); go_simp; (try with_reducible rfl)
    case rest18_5sdb15 =>
    try simp only [List.getElem_toArray, List.getElem_cons_succ, List.getElem_cons_zero, Act.put, List.setIfInBounds_toArray, List.set_cons_zero, List.set_cons_succ]
    refine wpAnyG_done (by kernel_rfl) ?_ _
    try simp only [List.getElem_toArray, List.getElem_cons_succ, List.getElem_cons_zero, Act.put, List.setIfInBounds_toArray, List.set_cons_zero, List.set_cons_succ]
    clear hS
    (try dsimp only); repeat' (first | go_values | go_skip | go_guarded | go_step | go_upon | go_back)
    go_loopw [11, 12] (fun v z wr => ∃ j : Nat, j ≤ n ∧ z = .int .i64 j ∧ Sep w (Is v (rng j) :: PrxC g gc 2 (n : Int) 1 vw true true 6 1 (.slice la 0 lc) (.pointer (some ⟨gt, 0, none⟩)) :: CkT gc (e : Int) 0 :: TalC gt b (n : Int) :: BalM b [] :: [Cl bx #[.int .i64 x0, .int .i64 x1] 50]) wr) (fun _ z _ => n - (intOf z).toNat)
    case atStart => exact ⟨0, Nat.zero_le _, rfl, HH.out.rnil 3⟩
    case round =>
      obtain ⟨j, hj, rfl, hs⟩ := hrel
      clear HH
      have j0 : (0 : Int) ≤ (j : Int) := by omega
      by_cases hjn : j < n
      · have dj : decide (j < n) = true := decide_eq_true hjn
        have dji : decide ((j : Int) < (n : Int)) = true := decide_eq_true (by omega)
        have j15 : (j : Int) < 15 := by omega
        have h2 := hs.alloc (.cells #[.int .i64 (j : Int)] 3)
        have h3 := asInts h2 [(j : Int)] 1 rfl rfl (by decide)
        obtain ⟨v', w', hr, h4, -⟩ := appI (ty := 56) h3.sw2 h3.sl (by rw [rng_len]; simp; omega)
        rw [← rng_succ] at h4
        have HAP := Lib.hid hr
        have H4 := Lib.hid (Sep.drop h4.sw2)
        have HJ := Lib.hid hjn
        clear hs h2 h3 hr h4 hj hjn
        (try dsimp only); repeat' (first | (at_builtin; refine stopP ?_) | go_values | go_skip | go_guarded | go_step | go_upon | go_back)
        unfold StopP
        refine wpList_append_r rfl _ _ _ _ rfl rfl rfl HAP.out ?_
        clear HAP
        (try dsimp only); repeat' (first | go_values | go_skip | go_guarded | go_step | go_upon | go_back)
        go_roundw
        case rel => exact ⟨j + 1, by have := HJ.out; omega, by go_num, H4.out⟩
        case measure => have := HJ.out; simp [intOf]; omega
      · have dj : decide (j < n) = false := decide_eq_false hjn
        have dji : decide ((j : Int) < (n : Int)) = false := decide_eq_false (by omega)
        obtain rfl : j = n := by omega
        obtain ⟨ua, uc, rfl⟩ := hs.sl.len
        rw [iv_length, rng_len] at hs
        have HS := Lib.hid hs
        rw [iv_length, rng_len]
        clear hs hj hjn
        (try dsimp only); repeat' (first | go_values | go_skip | go_guarded | go_step | go_upon | go_back)
        go_loopw [13] (fun z wr => ∃ q : Nat, (q : Int) ≤ X0 ∧ z = .int .i64 ((q : Int) + 1) ∧ Sep w (Is (.slice ua j uc) (rng j) :: PrxC g gc 2 (j : Int) 1 vw true true 6 1 (.slice la 0 lc) (.pointer (some ⟨gt, 0, none⟩)) :: CkT gc (e : Int) ((q % e : Nat) : Int) :: TalC gt b (j : Int) :: BalM b [] :: [Cl bx #[.int .i64 x0, .int .i64 x1] 50]) wr) (fun z _ => 302 - (intOf z).toNat)
        case atStart => exact ⟨0, X0n, rfl, by rw [Nat.zero_mod]; exact HS.out⟩
        case round =>
          obtain ⟨q, hq, rfl, hs⟩ := hrel
          clear HS
          have q0 : (0 : Int) ≤ (q : Int) := by omega
          have q300 : (q : Int) < 300 := by omega
          have cx := hs.sw6.cell (o := 0) (x := .int .i64 x0) rfl
          have HS := Lib.hid hs
          clear hs
          (try dsimp only); repeat' (first | go_values | go_skip | go_guarded | go_step | go_upon | go_back)
          refine (HBX.out _).mono ?_
          rintro r0 w12 ⟨rfl, rfl⟩
          by_cases hgo : (q : Int) + 1 ≤ X0
          · have dgo : decide ((q : Int) + 1 ≤ X0) = true := decide_eq_true hgo
            have dgo2 : decide ((q : Int) < X0) = true := decide_eq_true (by omega)
            have hms := mod_step q e he0
            have hpe := Nat.mod_lt q he0
            obtain ⟨rr, hrr⟩ : ∃ z : Nat, z = (q + 1) % e := ⟨_, rfl⟩
            have ht2 : ((q : Int) + 1) % (e : Int) = (rr : Int) := by
              rw [hrr, Int.natCast_emod, show ((q + 1 : Nat) : Int) = (q : Int) + 1 by omega]
            have ht1 : ((q : Int) + 1).tmod (e : Int) = (rr : Int) := by rw [Int.tmod_eq_emod_of_nonneg (by omega), ht2]
            have eN : ¬ e = 0 := by omega
            have eI : ¬ (e : Int) = 0 := by omega
            have eM : ¬ (e : Int) = -1 := by omega
            by_cases hz : rr = 0
            · skip
              have hl : q % e + 1 = e := hms.1.1 (by omega)
              have HTK := Lib.hid (pxtick_all (HS.out.pick [1, 2, 0, 3, 4, 5] rfl) (by omega) (by omega) (by omega) (by decide) (by decide) HLA.out (by omega))
              have HE := Lib.hid (And.intro hgo (show (q + 1) % e = 0 by omega))
              have dz : ((rr : Int) == 0) = true := by rw [beq_iff_eq]; omega
              have dz2 : ((rr : Int) != 0) = false := by rw [bne_eq_false_iff_eq]; omega
              clear HS hgo hms hpe hrr hl hz cx hq
              (try dsimp only); repeat' (first | go_values | go_skip | go_guarded | go_step | go_upon | go_back)
              refine HTK.out.mono ?_
              rintro r0 w13 ⟨v13, rows13, rfl, hl13, hr13, h13⟩
              have h14 : Sep w (MsR v13 rows13 :: Is (.slice ua j uc) (rng j) :: PrxC g gc 2 (j : Int) 1 vw true true 6 1 (.slice la 0 lc) (.pointer (some ⟨gt, 0, none⟩)) :: CkT gc (e : Int) 0 :: TalC gt b (j : Int) :: BalM b [] :: [Cl bx #[.int .i64 x0, .int .i64 x1] 50]) w13 := h13.pick [0, 3, 1, 2, 4, 5, 6] rfl
              have HT := Lib.hid (to_any h14 hr13 (by rw [rng_len]; omega))
              clear HTK h13 h14 hr13 hl13
              (try dsimp only); repeat' (first | go_values | go_skip | go_guarded | go_step | go_upon | go_back)
              refine HT.out.mono ?_
              rintro r0 w15 ⟨rfl, h15⟩
              have H15 := Lib.hid h15.drop
              clear HT h15
              (try dsimp only); repeat' (first | go_values | go_skip | go_guarded | go_step | go_upon | go_back)
              go_roundw
              case rel => exact ⟨q + 1, by have := HE.out.1; omega, by go_num, by rw [HE.out.2]; exact H15.out⟩
              case measure => have := HE.out.1; simp [intOf]; omega
            · skip
              have hl : (q + 1) % e = q % e + 1 := hms.2 (by omega)
              have hl2 : q % e + 1 < e := by have := Nat.mod_lt (q + 1) he0; omega
              have HTK := Lib.hid (pxtick_wait (HS.out.pick [1, 2, 0, 3, 4, 5] rfl) (by omega) (by omega) (by omega) (by omega))
              have HE := Lib.hid (And.intro hgo hl)
              have dz : ((rr : Int) == 0) = false := by rw [beq_eq_false_iff_ne]; omega
              have dz2 : ((rr : Int) != 0) = true := by rw [bne_iff_ne]; omega
              clear HS hgo hms hpe hrr hl hl2 hz cx hq
              (try dsimp only); repeat' (first | go_values | go_skip | go_guarded | go_step | go_upon | go_back)
              refine HTK.out.mono ?_
              rintro r0 w13 ⟨rfl, h13⟩
              have h14 : Sep w (Is (.slice ua j uc) (rng j) :: PrxC g gc 2 (j : Int) 1 vw true true 6 1 (.slice la 0 lc) (.pointer (some ⟨gt, 0, none⟩)) :: CkT gc (e : Int) (((q % e : Nat) : Int) + 1) :: TalC gt b (j : Int) :: BalM b [] :: [Cl bx #[.int .i64 x0, .int .i64 x1] 50]) w13 := h13.pick [2, 0, 1, 3, 4, 5] rfl
              have H14 := Lib.hid h14
              clear HTK h13 h14
              (try dsimp only); repeat' (first | go_values | go_skip | go_guarded | go_step | go_upon | go_back)
              go_roundw
              case rel => exact ⟨q + 1, by have := HE.out.1; omega, by go_num, by rw [HE.out.2]; exact H14.out⟩
              case measure => have := HE.out.1; simp [intOf]; omega
          · have dgo : decide ((q : Int) + 1 ≤ X0) = false := decide_eq_false hgo
            have dgo2 : decide ((q : Int) < X0) = false := decide_eq_false (by omega)
            have HWK := Lib.hid (fun wx M (hx : Sep w M wx) => works21_any hx HK.out.1 HK.out.2)
            have HNM := Lib.hid (pxnum_any HS.out.sw2)
            clear hgo hq cx
            (try dsimp only); repeat' (first | go_values | go_skip | go_guarded | go_step | go_upon | go_back)
            refine HNM.out.mono ?_
            rintro r0 w13 ⟨rfl, rfl⟩
            clear HNM
            (try dsimp only); repeat' (first | go_values | go_skip | go_guarded | go_step | go_upon | go_back)
            refine (HWK.out _ _ HS.out).mono ?_
            rintro r0 w14 ⟨rfl, h14⟩
            have H14 := Lib.hid h14.low
            clear HWK HS h14
            (try dsimp only); repeat' (first | go_values | go_skip | go_guarded | go_step | go_upon | go_back)
            go_ret
            exact ⟨rfl, H14.out⟩
theorem sends_in (f lim : Int) (v : Value) (w : World) (hv : Av Tryd.prog w 50 v) (hKM : KindsAt w ∧ MKindsAt w) : Calls Tryd.prog 5 #[.int .i64 f, .int .i64 lim, v] w fun e w' => e = .returned (.bool true) ∧ Below w.heap.size w w' := by
  obtain ⟨x, y, rfl, -, -⟩ := hv.ints2 Tryd.underlying50 Tryd.underlying3 (by kernel_rfl) (by kernel_rfl)
  exact sends_any f lim x y w hKM
end Go.Proofs.YtdemconpdjgimaaDoor
