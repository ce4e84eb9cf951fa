/- Package choose: Add (of what may be added, of one who has made no offer). -/
import Derived.Test.YthgndegjiodopaaDoorCho9
namespace Go.Proofs.YthgndegjiodopaaDoor
open Go Go.RowKit
set_option linter.unusedVariables false
set_option linter.unusedSimpArgs false
theorem mset_new {α β : Type} [DecidableEq α] (S : List (α × β)) (a : α) (y : β) (h : mget S a = none) : mset (mens S a y) a y = S ++ [(a, y)] := by
  have h1 : ∀ p ∈ S, p.1 ≠ a := by
    unfold mget at h
    rw [Option.map_eq_none_iff, List.find?_eq_none] at h
    intro p hp e
    exact h p hp (decide_eq_true e)
  have h2 : mens S a y = S ++ [(a, y)] := by unfold mens; rw [h]; rfl
  rw [h2]
  unfold mset
  rw [List.map_append]
  congr 1
  · have : ∀ p ∈ S, (if p.1 = a then (a, y) else p) = p := fun p hp => if_neg (h1 p hp)
    rw [List.map_congr_left this, List.map_id']
  · simp
/-- That it may be added in a group of n, for a view. -/
def AddO (n view : Int) (x : OvM) : Prop := OkO x ∧ 0 ≤ x.fr ∧ x.fr < n ∧ 0 ≤ x.la ∧ x.la < view ∧ (∀ e ∈ x.ps, e.1.ok = true) ∧ x.ba ≤ x.co ∧ x.ba + x.ps.length - 8 ≤ x.co ∧ x.co ≤ x.ba + x.ps.length
theorem Sep.offAdd {w0 w : World} {g b : Nat} {n view : Int} {xs : List OvM} {x : OvM} {L : List Thing} (h : Sep w0 (OcT g b n view :: OvT b (offS n xs ++ [(rk n x.fr, x)]) :: enP x :: (xs.map enP ++ L)) w) : Sep w0 (OffT g b n view (xs ++ [x]) :: L) w := by
  refine Sep.offClose ?_
  unfold offS
  rw [List.map_append, List.map_append, List.append_assoc]
  exact h.perm (List.Perm.cons _ (List.Perm.cons _ (List.perm_middle (l₁ := xs.map enP) (l₂ := L) (a := enP x)).symm))
set_option maxRecDepth 100000 in
set_option maxHeartbeats 8000000 in
theorem oadd_ok {w0 w : World} {g b : Nat} {view : Int} {m : Nat} {xs : List OvM} {L : List Thing} (x : OvM) (h : Sep w0 (OffT g b m view xs :: L) w) (hm : m ≤ 15) (hq : FrQ xs) (hx : AddO m view x) (hf : getO xs x.fr = none) (hvi : view ≤ 9007199254740991) (hv : ∀ wx, Sep w0 L wx → EnS wx x.v x.ps) (hk : KindsAt w0) :
    Calls Tryd.prog 12 #[.pointer (some ⟨g, 0, none⟩), ovV x] w fun e w' => ∃ a c qs, e = .returned (.tuple #[.int .i64 ((xs.length + 1 : Nat) : Int), .int .i64 0]) ∧ qs.map (·.1) = x.ps.map (·.1) ∧ Sep w0 (OffT g b m view (xs ++ [⟨x.fr, x.la, x.ba, x.co, .slice a x.ps.length c, qs⟩]) :: L) w' := by
  obtain ⟨xf, xl, xb, xc, xv, xp⟩ := x
  obtain ⟨⟨⟨xa, xk, hy⟩, k0, k1, k24, kls⟩, f0, f1, l0, l1, hok, c0, c1, c2⟩ := hx
  dsimp only at hy k0 k1 k24 kls f0 f1 l0 l1 hok c0 c1 c2 hf hv ⊢
  subst hy
  try dsimp only at hv
  obtain ⟨n, hn⟩ : ∃ n : Int, n = (m : Int) := ⟨_, rfl⟩
  rw [← hn] at h f1 ⊢
  have hnq : IQ n := ⟨by omega, by omega⟩
  have hfq : IQ xf := ⟨by omega, by omega⟩
  have d0 : decide (xf < 0) = false := decide_eq_false (by omega)
  have d1 : decide (n ≤ xf) = false := decide_eq_false (by omega)
  have d2 : decide (xl < 0) = false := decide_eq_false (by omega)
  have d3 : decide (view ≤ xl) = false := decide_eq_false (by omega)
  have lk : ∀ {wx : World} {M : List Thing}, Sep w0 (OvT b (offS n xs) :: M) wx → (Instr.lookup 59 (.map (some b)) (.agg #[.int .i64 n, .int .i64 xf]) true).run Tryd.prog wx = .ok (.tuple #[.agg #[.int .i64 0, .int .i64 0, .int .i64 0, .slice none 0 0, .slice none 0 0, .int .i64 0], .bool false]) wx := fun hx => by
    have := map_look (t := 59) rkOk Tryd.underlying59 (zeroOv _) hx (rk n xf) true
    rw [mget_off hnq hfq hq, hf, rkV_rk hnq hfq] at this
    exact this
  have hup : ∀ {wx : World} {M : List Thing} (y : OvM), Sep w0 (OvT b (offS n xs) :: M) wx → ∃ w', (Instr.mapUpdate 59 (.map (some b)) (.agg #[.int .i64 n, .int .i64 xf]) (ovV y)).run Tryd.prog wx = .ok () w' ∧ Sep w0 (OvT b (offS n xs ++ [(rk n xf, y)]) :: M) w' := fun y hx => by
    obtain ⟨w', h1, h2⟩ := map_update (t := 59) rkOk Tryd.underlying59 hx (rk n xf) y
    rw [rkV_rk hnq hfq] at h1
    rw [mset_new _ _ _ (by rw [mget_off hnq hfq hq]; exact hf)] at h2
    exact ⟨w', h1, h2⟩
  have h1 := h.offOpen.alloc (.cells #[.int .i64 xf, .int .i64 xl, .int .i64 xb, .slice none 0 0, .slice xa xp.length xk, .int .i64 xc] 33)
  have h1' : Sep w0 L (w.alloc (.cells #[.int .i64 xf, .int .i64 xl, .int .i64 xb, .slice none 0 0, .slice xa xp.length xk, .int .i64 xc] 33)) := (Sep.left (L := xs.map enP) h1.drop.drop.drop)
  have HN := Lib.hid (onone_any h1.sw2)
  have hdr := h1.drew
  have HI := Lib.hid (isImg_any xb xc xa xp.length xk xp hdr (hv _ (Sep.left (L := xs.map enP) hdr.drop.drop.drop)) rfl k24 k0 k1 hok c0 c1 c2 (hk.below hdr.low))
  obtain ⟨b3, hb3⟩ : ∃ q, q = w.heap.size := ⟨_, rfl⟩
  obtain ⟨W, hW⟩ : ∃ q, q = w.alloc (.cells #[.int .i64 xf, .int .i64 xl, .int .i64 xb, .slice none 0 0, .slice xa xp.length xk, .int .i64 xc] 33) := ⟨_, rfl⟩
  rw [← hW, ← hb3] at hdr
  rw [← hW, ← hb3] at HI
  rw [← hW] at HN
  have g0 : (W.drew).cell? ⟨b3, 0, none⟩ = some (.int .i64 xf) ∧ (W.drew).cell? ⟨b3, 1, none⟩ = some (.int .i64 xl) ∧ (W.drew).cell? ⟨b3, 2, none⟩ = some (.int .i64 xb) ∧ (W.drew).cell? ⟨b3, 3, none⟩ = some (.slice none 0 0) ∧ (W.drew).cell? ⟨b3, 4, none⟩ = some (.slice xa xp.length xk) ∧ (W.drew).cell? ⟨b3, 5, none⟩ = some (.int .i64 xc) ∧ (W.drew).cell? ⟨g, 0, none⟩ = some (.int .i64 n) ∧ (W.drew).cell? ⟨g, 1, none⟩ = some (.int .i64 view) ∧ (W.drew).cell? ⟨g, 2, none⟩ = some (.map (some b)) := ⟨hdr.cell rfl, hdr.cell rfl, hdr.cell rfl, hdr.cell rfl, hdr.cell rfl, hdr.cell rfl, hdr.sw2.cell rfl, hdr.sw2.cell rfl, hdr.sw2.cell rfl⟩
  have HV := Lib.hid hv
  have HK := Lib.hid (And.intro k24 kls)
  have HQ := Lib.hid (And.intro hnq hfq)
  have HLK := Lib.hid (fun (wx : World) (M : List Thing) => @lk wx M)
  have HUP := Lib.hid (fun (wx : World) (M : List Thing) => @hup wx M)
  have HM := Lib.hid (And.intro hm hn)
  clear h h1 h1' hdr hm hq hf hv hk k0 k1 k24 kls f0 f1 l0 l1 hok c0 c1 c2 hn hnq hfq lk hup
  unfold ovV ovC
  dsimp only
  go_enter Tryd.func12, Tryd.ntmps12
  (try dsimp only); repeat' (first | go_values | go_skip | go_guarded | go_step | go_upon | go_back)
  rw [← hW, ← hb3]
  clear hW hb3
  refine HN.out.mono ?_
  rintro r0 w1 ⟨rfl, rfl⟩
  clear HN
  (try dsimp only); repeat' (first | go_values | go_skip | go_guarded | go_step | go_upon | go_back)
  refine wp_region_G (fun w' => w'.cell? ⟨b3, 0, none⟩ = some (.int .i64 xf) ∧ w'.cell? ⟨b3, 1, none⟩ = some (.int .i64 xl) ∧ w'.cell? ⟨b3, 2, none⟩ = some (.int .i64 xb) ∧ w'.cell? ⟨b3, 3, none⟩ = some (.slice none 0 0) ∧ w'.cell? ⟨b3, 4, none⟩ = some (.slice xa xp.length xk) ∧ w'.cell? ⟨b3, 5, none⟩ = some (.int .i64 xc) ∧ w'.cell? ⟨g, 0, none⟩ = some (.int .i64 n) ∧ w'.cell? ⟨g, 1, none⟩ = some (.int .i64 view) ∧ w'.cell? ⟨g, 2, none⟩ = some (.map (some b))) [] (by kernel_rfl) g0 (fun hS => ?_)
  try dsimp only at hS
  refine wpAnyG_take' (i := 0) (v := ?v0_1r3) rfl (by kernel_rfl) (by kernel_rfl) (by kernel_rfl) (by kernel_rfl) (fun _ _ _ h => h) (Or.inl ⟨by rfl, ?hy0_1r3⟩) hS ?rest0_1r3
  case hy0_1r3 => intro w hSw; (try dsimp only at hSw); go_simp; (try with_reducible rfl)
  case rest0_1r3 =>
  try simp only [List.getElem_toArray, List.getElem_cons_succ, List.getElem_cons_zero, Act.put, List.setIfInBounds_toArray, List.set_cons_zero, List.set_cons_succ]
  refine wpAnyG_take' (i := 1) (v := ?v1_2r3) rfl (by kernel_rfl) (by kernel_rfl) (by kernel_rfl) (by kernel_rfl) (fun _ _ _ h => h) (Or.inl ⟨by rfl, ?hy1_2r3⟩) hS ?rest1_2r3
  case hy1_2r3 => intro w hSw; (try dsimp only at hSw); go_simp; (try with_reducible rfl)
  case rest1_2r3 =>
  try simp only [List.getElem_toArray, List.getElem_cons_succ, List.getElem_cons_zero, Act.put, List.setIfInBounds_toArray, List.set_cons_zero, List.set_cons_succ]
  refine wpAnyG_take' (i := 2) (v := ?v2_3r3) rfl (by kernel_rfl) (by kernel_rfl) (by kernel_rfl) (by kernel_rfl) (fun _ _ _ h => h) (Or.inl ⟨by rfl, ?hy2_3r3⟩) hS ?rest2_3r3
  case hy2_3r3 => intro w hSw; (try dsimp only at hSw); go_simp; (try with_reducible rfl)
  case rest2_3r3 =>
  try simp only [List.getElem_toArray, List.getElem_cons_succ, List.getElem_cons_zero, Act.put, List.setIfInBounds_toArray, List.set_cons_zero, List.set_cons_succ]
  refine wpAnyG_take' (i := 3) (v := ?v3_4r3) rfl (by kernel_rfl) (by kernel_rfl) (by kernel_rfl) (by kernel_rfl) (fun _ _ _ h => h) (Or.inl ⟨by rfl, ?hy3_4r3⟩) hS ?rest3_4r3
  case hy3_4r3 => intro w hSw; (try dsimp only at hSw); go_simp; (try with_reducible rfl)
  case rest3_4r3 =>
  try simp only [List.getElem_toArray, List.getElem_cons_succ, List.getElem_cons_zero, Act.put, List.setIfInBounds_toArray, List.set_cons_zero, List.set_cons_succ]
  refine wpAnyG_take' (i := 4) (v := ?v4_5r3) rfl (by kernel_rfl) (by kernel_rfl) (by kernel_rfl) (by kernel_rfl) (fun _ _ _ h => h) (Or.inl ⟨by rfl, ?hy4_5r3⟩) hS ?rest4_5r3
  case hy4_5r3 => intro w hSw; (try dsimp only at hSw); go_simp; (try with_reducible rfl)
  case rest4_5r3 =>
  try simp only [List.getElem_toArray, List.getElem_cons_succ, List.getElem_cons_zero, Act.put, List.setIfInBounds_toArray, List.set_cons_zero, List.set_cons_succ]
  refine wpAnyG_take' (i := 5) (v := ?v5_6r3) rfl (by kernel_rfl) (by kernel_rfl) (by kernel_rfl) (by kernel_rfl) (fun _ _ _ h => h) (Or.inl ⟨by rfl, ?hy5_6r3⟩) hS ?rest5_6r3
  case hy5_6r3 => intro w hSw; (try dsimp only at hSw); go_simp; (try with_reducible rfl)
  case rest5_6r3 =>
  try simp only [List.getElem_toArray, List.getElem_cons_succ, List.getElem_cons_zero, Act.put, List.setIfInBounds_toArray, List.set_cons_zero, List.set_cons_succ]
  refine wpAnyG_take' (i := 6) (v := ?v6_7r3) rfl (by kernel_rfl) (by kernel_rfl) (by kernel_rfl) (by kernel_rfl) (fun _ _ _ h => h) (Or.inl ⟨by rfl, ?hy6_7r3⟩) hS ?rest6_7r3
  case hy6_7r3 => intro w hSw; (try dsimp only at hSw); go_simp; (try with_reducible rfl)
  case rest6_7r3 =>
  try simp only [List.getElem_toArray, List.getElem_cons_succ, List.getElem_cons_zero, Act.put, List.setIfInBounds_toArray, List.set_cons_zero, List.set_cons_succ]
  refine wpAnyG_take' (i := 7) (v := ?v7_8r3) rfl (by kernel_rfl) (by kernel_rfl) (by kernel_rfl) (by kernel_rfl) (fun _ _ _ h => h) (Or.inl ⟨by rfl, ?hy7_8r3⟩) hS ?rest7_8r3
  case hy7_8r3 => intro w hSw; (try dsimp only at hSw); go_simp; (try with_reducible rfl)
  case rest7_8r3 =>
  try simp only [List.getElem_toArray, List.getElem_cons_succ, List.getElem_cons_zero, Act.put, List.setIfInBounds_toArray, List.set_cons_zero, List.set_cons_succ]
  refine wpAnyG_take' (i := 8) (v := ?v8_9r3) rfl (by kernel_rfl) (by kernel_rfl) (by kernel_rfl) (by kernel_rfl) (fun _ _ _ h => h) (Or.inl ⟨by rfl, ?hy8_9r3⟩) hS ?rest8_9r3
  case hy8_9r3 => intro w hSw; (try dsimp only at hSw); go_simp; (try with_reducible rfl)
  case rest8_9r3 =>
  try simp only [List.getElem_toArray, List.getElem_cons_succ, List.getElem_cons_zero, Act.put, List.setIfInBounds_toArray, List.set_cons_zero, List.set_cons_succ]
  refine wpAnyG_take' (i := 9) (v := ?v9_10r3) rfl (by kernel_rfl) (by kernel_rfl) (by kernel_rfl) (by kernel_rfl) (fun _ _ _ h => h) (Or.inl ⟨by rfl, ?hy9_10r3⟩) hS ?rest9_10r3
  case hy9_10r3 => intro w hSw; (try dsimp only at hSw); go_simp; (try with_reducible rfl)
  case rest9_10r3 =>
  try simp only [List.getElem_toArray, List.getElem_cons_succ, List.getElem_cons_zero, Act.put, List.setIfInBounds_toArray, List.set_cons_zero, List.set_cons_succ]
  refine wpAnyG_take' (i := 10) (v := ?v10_11r3) rfl (by kernel_rfl) (by kernel_rfl) (by kernel_rfl) (by kernel_rfl) (fun _ _ _ h => h) (Or.inl ⟨by rfl, ?hy10_11r3⟩) hS ?rest10_11r3
  case hy10_11r3 => intro w hSw; (try dsimp only at hSw); go_simp; (try with_reducible rfl)
  case rest10_11r3 =>
  try simp only [List.getElem_toArray, List.getElem_cons_succ, List.getElem_cons_zero, Act.put, List.setIfInBounds_toArray, List.set_cons_zero, List.set_cons_succ]
  refine wpAnyG_take' (i := 11) (v := ?v11_12r3) rfl (by kernel_rfl) (by kernel_rfl) (by kernel_rfl) (by kernel_rfl) (fun _ _ _ h => h) (Or.inl ⟨by rfl, ?hy11_12r3⟩) hS ?rest11_12r3
  case hy11_12r3 => intro w hSw; (try dsimp only at hSw); go_simp; (try with_reducible rfl)
  case rest11_12r3 =>
  try simp only [List.getElem_toArray, List.getElem_cons_succ, List.getElem_cons_zero, Act.put, List.setIfInBounds_toArray, List.set_cons_zero, List.set_cons_succ]
  refine wpAnyG_take' (i := 12) (v := ?v12_13r3) rfl (by kernel_rfl) (by kernel_rfl) (by kernel_rfl) (by kernel_rfl) (fun _ _ _ h => h) (Or.inl ⟨by rfl, ?hy12_13r3⟩) hS ?rest12_13r3
  case hy12_13r3 => intro w hSw; (try dsimp only at hSw); go_simp; (try with_reducible rfl)
  case rest12_13r3 =>
  try simp only [List.getElem_toArray, List.getElem_cons_succ, List.getElem_cons_zero, Act.put, List.setIfInBounds_toArray, List.set_cons_zero, List.set_cons_succ]
  refine wpAnyG_take' (i := 13) (v := ?v13_14r3) rfl (by kernel_rfl) (by kernel_rfl) (by kernel_rfl) (by kernel_rfl) (fun _ _ _ h => h) (Or.inl ⟨by rfl, ?hy13_14r3⟩) hS ?rest13_14r3
  case hy13_14r3 => intro w hSw; (try dsimp only at hSw); go_simp; (try with_reducible rfl)
  case rest13_14r3 =>
  try simp only [List.getElem_toArray, List.getElem_cons_succ, List.getElem_cons_zero, Act.put, List.setIfInBounds_toArray, List.set_cons_zero, List.set_cons_succ]
  refine wpAnyG_take' (i := 14) (v := ?v14_15r3) rfl (by kernel_rfl) (by kernel_rfl) (by kernel_rfl) (by kernel_rfl) (fun _ _ _ h => h) (Or.inl ⟨by rfl, ?hy14_15r3⟩) hS ?rest14_15r3
  case hy14_15r3 => intro w hSw; (try dsimp only at hSw); go_simp; (try with_reducible rfl)
  case rest14_15r3 =>
  try simp only [List.getElem_toArray, List.getElem_cons_succ, List.getElem_cons_zero, Act.put, List.setIfInBounds_toArray, List.set_cons_zero, List.set_cons_succ]
  refine wpAnyG_take' (i := 15) (v := ?v15_16r3) rfl (by kernel_rfl) (by kernel_rfl) (by kernel_rfl) (by kernel_rfl) (fun _ _ _ h => h) (Or.inl ⟨by rfl, ?hy15_16r3⟩) hS ?rest15_16r3
  case hy15_16r3 => intro w hSw; (try dsimp only at hSw); go_simp; (try with_reducible rfl)
  case rest15_16r3 =>
  try simp only [List.getElem_toArray, List.getElem_cons_succ, List.getElem_cons_zero, Act.put, List.setIfInBounds_toArray, List.set_cons_zero, List.set_cons_succ]
  refine wpAnyG_take' (i := 16) (v := ?v16_17r3) rfl (by kernel_rfl) (by kernel_rfl) (by kernel_rfl) (by kernel_rfl) (fun _ _ _ h => h) (Or.inl ⟨by rfl, ?hy16_17r3⟩) hS ?rest16_17r3
  case hy16_17r3 => intro w hSw; (try dsimp only at hSw); go_simp; (try with_reducible rfl)
  case rest16_17r3 =>
  try simp only [List.getElem_toArray, List.getElem_cons_succ, List.getElem_cons_zero, Act.put, List.setIfInBounds_toArray, List.set_cons_zero, List.set_cons_succ]
  refine wpAnyG_take' (i := 17) (v := ?v17_18r3) rfl (by kernel_rfl) (by kernel_rfl) (by kernel_rfl) (by kernel_rfl) (fun _ _ _ h => h) (Or.inl ⟨by rfl, ?hy17_18r3⟩) hS ?rest17_18r3
  case hy17_18r3 => intro w hSw; (try dsimp only at hSw); go_simp; (try with_reducible rfl)
  case rest17_18r3 =>
  try simp only [List.getElem_toArray, List.getElem_cons_succ, List.getElem_cons_zero, Act.put, List.setIfInBounds_toArray, List.set_cons_zero, List.set_cons_succ]
  refine wpAnyG_take' (i := 18) (v := ?v18_19r3) rfl (by kernel_rfl) (by kernel_rfl) (by kernel_rfl) (by kernel_rfl) (fun _ _ _ h => h) (Or.inl ⟨by rfl, ?hy18_19r3⟩) hS ?rest18_19r3
  case hy18_19r3 => intro w hSw; (try dsimp only at hSw); go_simp; (try with_reducible rfl)
  case rest18_19r3 =>
  try simp only [List.getElem_toArray, List.getElem_cons_succ, List.getElem_cons_zero, Act.put, List.setIfInBounds_toArray, List.set_cons_zero, List.set_cons_succ]
  refine wpAnyG_take' (i := 19) (v := ?v19_20r3) rfl (by kernel_rfl) (by kernel_rfl) (by kernel_rfl) (by kernel_rfl) (fun _ _ _ h => h) (Or.inl ⟨by rfl, ?hy19_20r3⟩) hS ?rest19_20r3
  case hy19_20r3 => intro w hSw; (try dsimp only at hSw); go_simp; (try with_reducible rfl)
  case rest19_20r3 =>
  try simp only [List.getElem_toArray, List.getElem_cons_succ, List.getElem_cons_zero, Act.put, List.setIfInBounds_toArray, List.set_cons_zero, List.set_cons_succ]
  refine wpAnyG_take' (i := 20) (v := ?v20_21r3) rfl (by kernel_rfl) (by kernel_rfl) (by kernel_rfl) (by kernel_rfl) (fun _ _ _ h => h) (Or.inl ⟨by rfl, ?hy20_21r3⟩) hS ?rest20_21r3
  case hy20_21r3 => intro w hSw; (try dsimp only at hSw); go_simp; (try with_reducible rfl)
  case rest20_21r3 =>
  try simp only [List.getElem_toArray, List.getElem_cons_succ, List.getElem_cons_zero, Act.put, List.setIfInBounds_toArray, List.set_cons_zero, List.set_cons_succ]
  refine wpAnyG_take' (i := 21) (v := ?v21_22r3) rfl (by kernel_rfl) (by kernel_rfl) (by kernel_rfl) (by kernel_rfl) (fun _ _ _ h => h) (Or.inl ⟨by rfl, ?hy21_22r3⟩) hS ?rest21_22r3
  case hy21_22r3 => intro w hSw; (try dsimp only at hSw); go_simp; (try with_reducible rfl)
  case rest21_22r3 =>
  try simp only [List.getElem_toArray, List.getElem_cons_succ, List.getElem_cons_zero, Act.put, List.setIfInBounds_toArray, List.set_cons_zero, List.set_cons_succ]
  refine wpAnyG_take' (i := 22) (v := ?v22_23r3) rfl (by kernel_rfl) (by kernel_rfl) (by kernel_rfl) (by kernel_rfl) (fun _ _ _ h => h) (Or.inl ⟨by rfl, ?hy22_23r3⟩) hS ?rest22_23r3
  case hy22_23r3 => intro w hSw; (try dsimp only at hSw); go_simp; (try with_reducible rfl)
  case rest22_23r3 =>
  try simp only [List.getElem_toArray, List.getElem_cons_succ, List.getElem_cons_zero, Act.put, List.setIfInBounds_toArray, List.set_cons_zero, List.set_cons_succ]
  refine wpAnyG_take' (i := 23) (v := ?v23_24r3) rfl (by kernel_rfl) (by kernel_rfl) (by kernel_rfl) (by kernel_rfl) (fun _ _ _ h => h) (Or.inl ⟨by rfl, ?hy23_24r3⟩) hS ?rest23_24r3
  case hy23_24r3 => intro w hSw; (try dsimp only at hSw); go_simp; (try with_reducible rfl)
  case rest23_24r3 =>
  try simp only [List.getElem_toArray, List.getElem_cons_succ, List.getElem_cons_zero, Act.put, List.setIfInBounds_toArray, List.set_cons_zero, List.set_cons_succ]
  refine wpAnyG_take' (i := 24) (v := ?v24_25r3) rfl (by kernel_rfl) (by kernel_rfl) (by kernel_rfl) (by kernel_rfl) (fun _ _ _ h => h) (Or.inl ⟨by rfl, ?hy24_25r3⟩) hS ?rest24_25r3
  case hy24_25r3 => intro w hSw; (try dsimp only at hSw); go_simp; (try with_reducible rfl)
  case rest24_25r3 =>
  try simp only [List.getElem_toArray, List.getElem_cons_succ, List.getElem_cons_zero, Act.put, List.setIfInBounds_toArray, List.set_cons_zero, List.set_cons_succ]
  refine wpAnyG_take' (i := 25) (v := ?v25_26r3) rfl (by kernel_rfl) (by kernel_rfl) (by kernel_rfl) (by kernel_rfl) (fun _ _ _ h => h) (Or.inl ⟨by rfl, ?hy25_26r3⟩) hS ?rest25_26r3
  case hy25_26r3 => intro w hSw; (try dsimp only at hSw); go_simp; (try with_reducible rfl)
  case rest25_26r3 =>
  try simp only [List.getElem_toArray, List.getElem_cons_succ, List.getElem_cons_zero, Act.put, List.setIfInBounds_toArray, List.set_cons_zero, List.set_cons_succ]
  refine wpAnyG_take' (i := 26) (v := ?v26_27r3) rfl (by kernel_rfl) (by kernel_rfl) (by kernel_rfl) (by kernel_rfl) (fun _ _ _ h => h) (Or.inl ⟨by rfl, ?hy26_27r3⟩) hS ?rest26_27r3
  case hy26_27r3 => intro w hSw; (try dsimp only at hSw); go_simp; (try with_reducible rfl)
  case rest26_27r3 =>
  try simp only [List.getElem_toArray, List.getElem_cons_succ, List.getElem_cons_zero, Act.put, List.setIfInBounds_toArray, List.set_cons_zero, List.set_cons_succ]
  refine wpAnyG_take' (i := 27) (v := ?v27_28r3) rfl (by kernel_rfl) (by kernel_rfl) (by kernel_rfl) (by kernel_rfl) (fun _ _ _ h => h) (Or.inl ⟨by rfl, ?hy27_28r3⟩) hS ?rest27_28r3
  case hy27_28r3 => intro w hSw; (try dsimp only at hSw); go_simp; (try with_reducible rfl)
  case rest27_28r3 =>
  try simp only [List.getElem_toArray, List.getElem_cons_succ, List.getElem_cons_zero, Act.put, List.setIfInBounds_toArray, List.set_cons_zero, List.set_cons_succ]
  refine wpAnyG_take' (i := 28) (v := ?v28_29r3) rfl (by kernel_rfl) (by kernel_rfl) (by kernel_rfl) (by kernel_rfl) (fun _ _ _ h => h) (Or.inl ⟨by rfl, ?hy28_29r3⟩) hS ?rest28_29r3
  case hy28_29r3 => intro w hSw; (try dsimp only at hSw); go_simp; (try with_reducible rfl)
  case rest28_29r3 =>
  try simp only [List.getElem_toArray, List.getElem_cons_succ, List.getElem_cons_zero, Act.put, List.setIfInBounds_toArray, List.set_cons_zero, List.set_cons_succ]
  refine wpAnyG_one (i := 29) (by kernel_rfl) rfl (fun K hK => ?_)
  go_simp
  refine Calls.mono HI.out ?_
  rintro r9 w5 ⟨rfl, h5⟩
  have g5 : (w5).cell? ⟨b3, 0, none⟩ = some (.int .i64 xf) ∧ (w5).cell? ⟨b3, 1, none⟩ = some (.int .i64 xl) ∧ (w5).cell? ⟨b3, 2, none⟩ = some (.int .i64 xb) ∧ (w5).cell? ⟨b3, 3, none⟩ = some (.slice none 0 0) ∧ (w5).cell? ⟨b3, 4, none⟩ = some (.slice xa xp.length xk) ∧ (w5).cell? ⟨b3, 5, none⟩ = some (.int .i64 xc) ∧ (w5).cell? ⟨g, 0, none⟩ = some (.int .i64 n) ∧ (w5).cell? ⟨g, 1, none⟩ = some (.int .i64 view) ∧ (w5).cell? ⟨g, 2, none⟩ = some (.map (some b)) := ⟨h5.cell rfl, h5.cell rfl, h5.cell rfl, h5.cell rfl, h5.cell rfl, h5.cell rfl, h5.sw2.cell rfl, h5.sw2.cell rfl, h5.sw2.cell rfl⟩
  clear g0 HI
  refine hK.out _ _ (fun _ => ?hS30r3) ?rest30r3
  case hS30r3 => exact g5
  clear K hK
  try simp only [List.getElem_toArray, List.getElem_cons_succ, List.getElem_cons_zero, Act.put, List.setIfInBounds_toArray, List.set_cons_zero, List.set_cons_succ]
  refine wpAnyG_take' (i := 30) (v := ?v30_31r3) rfl (by kernel_rfl) (by kernel_rfl) (by kernel_rfl) (by kernel_rfl) (fun _ _ _ h => h) (Or.inl ⟨by rfl, ?hy30_31r3⟩) g5 ?rest30_31r3
  case hy30_31r3 => intro w hSw; (try dsimp only at hSw); go_simp; (try with_reducible rfl)
  case rest30_31r3 =>
  try simp only [List.getElem_toArray, List.getElem_cons_succ, List.getElem_cons_zero, Act.put, List.setIfInBounds_toArray, List.set_cons_zero, List.set_cons_succ]
  refine wpAnyG_take' (i := 31) (v := ?v31_32r3) rfl (by kernel_rfl) (by kernel_rfl) (by kernel_rfl) (by kernel_rfl) (fun _ _ _ h => h) (Or.inl ⟨by rfl, ?hy31_32r3⟩) g5 ?rest31_32r3
  case hy31_32r3 => intro w hSw; (try dsimp only at hSw); go_simp; (try with_reducible rfl)
  case rest31_32r3 =>
  try simp only [List.getElem_toArray, List.getElem_cons_succ, List.getElem_cons_zero, Act.put, List.setIfInBounds_toArray, List.set_cons_zero, List.set_cons_succ]
  refine wpAnyG_done (by kernel_rfl) ?_ _
  try simp only [List.getElem_toArray, List.getElem_cons_succ, List.getElem_cons_zero, Act.put, List.setIfInBounds_toArray, List.set_cons_zero, List.set_cons_succ]
  clear g5
  have h6 := h5.drew
  have s0 : (w5.drew).cell? ⟨b3, 0, none⟩ = some (.int .i64 xf) ∧ (w5.drew).cell? ⟨b3, 1, none⟩ = some (.int .i64 xl) ∧ (w5.drew).cell? ⟨b3, 2, none⟩ = some (.int .i64 xb) ∧ (w5.drew).cell? ⟨b3, 3, none⟩ = some (.slice none 0 0) ∧ (w5.drew).cell? ⟨b3, 4, none⟩ = some (.slice xa xp.length xk) ∧ (w5.drew).cell? ⟨b3, 5, none⟩ = some (.int .i64 xc) ∧ (w5.drew).cell? ⟨g, 0, none⟩ = some (.int .i64 n) ∧ (w5.drew).cell? ⟨g, 1, none⟩ = some (.int .i64 view) ∧ (w5.drew).cell? ⟨g, 2, none⟩ = some (.map (some b)) := ⟨h6.cell rfl, h6.cell rfl, h6.cell rfl, h6.cell rfl, h6.cell rfl, h6.cell rfl, h6.sw2.cell rfl, h6.sw2.cell rfl, h6.sw2.cell rfl⟩
  have h7 : Sep w0 (Cl w5.heap.size #[.int .i64 0, .int .i64 0] 65 :: Cl b3 #[.int .i64 xf, .int .i64 xl, .int .i64 xb, .slice none 0 0, .slice xa xp.length xk, .int .i64 xc] 33 :: OcT g b n view :: OvT b (offS n xs) :: (xs.map enP ++ L)) (w5.alloc (.cells #[.int .i64 0, .int .i64 0] 65)).drew := h6.alloc (.cells #[.int .i64 0, .int .i64 0] 65)
  obtain ⟨b6, hb6⟩ : ∃ z, z = w5.heap.size := ⟨_, rfl⟩
  obtain ⟨W1, hW1⟩ : ∃ z, z = (w5.alloc (.cells #[.int .i64 0, .int .i64 0] 65)).drew := ⟨_, rfl⟩
  rw [← hW1, ← hb6] at h7
  have s1 : (W1).cell? ⟨b3, 0, none⟩ = some (.int .i64 xf) ∧ (W1).cell? ⟨b3, 1, none⟩ = some (.int .i64 xl) ∧ (W1).cell? ⟨b3, 2, none⟩ = some (.int .i64 xb) ∧ (W1).cell? ⟨b3, 3, none⟩ = some (.slice none 0 0) ∧ (W1).cell? ⟨b3, 4, none⟩ = some (.slice xa xp.length xk) ∧ (W1).cell? ⟨b3, 5, none⟩ = some (.int .i64 xc) ∧ (W1).cell? ⟨g, 0, none⟩ = some (.int .i64 n) ∧ (W1).cell? ⟨g, 1, none⟩ = some (.int .i64 view) ∧ (W1).cell? ⟨g, 2, none⟩ = some (.map (some b)) := ⟨h7.sw2.cell rfl, h7.sw2.cell rfl, h7.sw2.cell rfl, h7.sw2.cell rfl, h7.sw2.cell rfl, h7.sw2.cell rfl, h7.sw3.cell rfl, h7.sw3.cell rfl, h7.sw3.cell rfl⟩
  have HTH := Lib.hid (Sep.thereAt h7 0 2 (Nat.le_refl 2))
  have h8 := Sep.storeW h7 #[.int .i64 n, .int .i64 xf] rfl
  obtain ⟨W2, hW2⟩ : ∃ z, z = W1.setCells b6 0 (Array.toList #[.int .i64 n, .int .i64 xf]) := ⟨_, rfl⟩
  rw [← hW2] at h8
  have s2 : (W2).cell? ⟨b3, 0, none⟩ = some (.int .i64 xf) ∧ (W2).cell? ⟨b3, 1, none⟩ = some (.int .i64 xl) ∧ (W2).cell? ⟨b3, 2, none⟩ = some (.int .i64 xb) ∧ (W2).cell? ⟨b3, 3, none⟩ = some (.slice none 0 0) ∧ (W2).cell? ⟨b3, 4, none⟩ = some (.slice xa xp.length xk) ∧ (W2).cell? ⟨b3, 5, none⟩ = some (.int .i64 xc) ∧ (W2).cell? ⟨g, 0, none⟩ = some (.int .i64 n) ∧ (W2).cell? ⟨g, 1, none⟩ = some (.int .i64 view) ∧ (W2).cell? ⟨g, 2, none⟩ = some (.map (some b)) := ⟨h8.sw2.cell rfl, h8.sw2.cell rfl, h8.sw2.cell rfl, h8.sw2.cell rfl, h8.sw2.cell rfl, h8.sw2.cell rfl, h8.sw3.cell rfl, h8.sw3.cell rfl, h8.sw3.cell rfl⟩
  have H8 := Lib.hid h8
  clear h5 h6 h7 h8
  (try dsimp only); repeat' (first | go_values | go_skip | go_guarded | go_step | go_upon | go_back)
  refine wp_region_G (fun w' => w'.cell? ⟨b3, 0, none⟩ = some (.int .i64 xf) ∧ w'.cell? ⟨b3, 1, none⟩ = some (.int .i64 xl) ∧ w'.cell? ⟨b3, 2, none⟩ = some (.int .i64 xb) ∧ w'.cell? ⟨b3, 3, none⟩ = some (.slice none 0 0) ∧ w'.cell? ⟨b3, 4, none⟩ = some (.slice xa xp.length xk) ∧ w'.cell? ⟨b3, 5, none⟩ = some (.int .i64 xc) ∧ w'.cell? ⟨g, 0, none⟩ = some (.int .i64 n) ∧ w'.cell? ⟨g, 1, none⟩ = some (.int .i64 view) ∧ w'.cell? ⟨g, 2, none⟩ = some (.map (some b))) [] (by kernel_rfl) s0 (fun hS => ?_)
  try dsimp only at hS
  refine wpAnyG_take' (i := 0) (v := ?v0_1r5) rfl (by kernel_rfl) (by kernel_rfl) (by kernel_rfl) (by kernel_rfl) (fun _ _ _ h => h) (Or.inl ⟨by rfl, ?hy0_1r5⟩) hS ?rest0_1r5
  case hy0_1r5 => intro w hSw; (try dsimp only at hSw); go_simp; (try with_reducible rfl)
  case rest0_1r5 =>
  try simp only [List.getElem_toArray, List.getElem_cons_succ, List.getElem_cons_zero, Act.put, List.setIfInBounds_toArray, List.set_cons_zero, List.set_cons_succ]
  refine wpAnyG_take' (i := 1) (v := ?v1_2r5) rfl (by kernel_rfl) (by kernel_rfl) (by kernel_rfl) (by kernel_rfl) (fun _ _ _ h => h) (Or.inl ⟨by rfl, ?hy1_2r5⟩) hS ?rest1_2r5
  case hy1_2r5 => intro w hSw; (try dsimp only at hSw); go_simp; (try with_reducible rfl)
  case rest1_2r5 =>
  try simp only [List.getElem_toArray, List.getElem_cons_succ, List.getElem_cons_zero, Act.put, List.setIfInBounds_toArray, List.set_cons_zero, List.set_cons_succ]
  refine wpAnyG_take' (i := 2) (v := ?v2_3r5) rfl (by kernel_rfl) (by kernel_rfl) (by kernel_rfl) (by kernel_rfl) (fun _ _ _ h => h) (Or.inl ⟨by rfl, ?hy2_3r5⟩) hS ?rest2_3r5
  case hy2_3r5 => intro w hSw; (try dsimp only at hSw); go_simp; (try with_reducible rfl)
  case rest2_3r5 =>
  try simp only [List.getElem_toArray, List.getElem_cons_succ, List.getElem_cons_zero, Act.put, List.setIfInBounds_toArray, List.set_cons_zero, List.set_cons_succ]
  refine wpAnyG_take' (i := 3) (v := ?v3_4r5) rfl (by kernel_rfl) (by kernel_rfl) (by kernel_rfl) (by kernel_rfl) (fun _ _ _ h => h) (Or.inl ⟨by rfl, ?hy3_4r5⟩) hS ?rest3_4r5
  case hy3_4r5 => intro w hSw; (try dsimp only at hSw); go_simp; (try with_reducible rfl)
  case rest3_4r5 =>
  try simp only [List.getElem_toArray, List.getElem_cons_succ, List.getElem_cons_zero, Act.put, List.setIfInBounds_toArray, List.set_cons_zero, List.set_cons_succ]
  refine wpAnyG_take' (i := 4) (v := ?v4_5r5) rfl (by kernel_rfl) (by kernel_rfl) (by kernel_rfl) (by kernel_rfl) (fun _ _ _ h => h) (Or.inl ⟨by rfl, ?hy4_5r5⟩) hS ?rest4_5r5
  case hy4_5r5 => intro w hSw; (try dsimp only at hSw); go_simp; (try with_reducible rfl)
  case rest4_5r5 =>
  try simp only [List.getElem_toArray, List.getElem_cons_succ, List.getElem_cons_zero, Act.put, List.setIfInBounds_toArray, List.set_cons_zero, List.set_cons_succ]
  refine wpAnyG_take' (i := 5) (v := ?v5_6r5) rfl (by kernel_rfl) (by kernel_rfl) (by kernel_rfl) (by kernel_rfl) (fun _ _ _ h => h) (Or.inl ⟨by rfl, ?hy5_6r5⟩) hS ?rest5_6r5
  case hy5_6r5 => intro w hSw; (try dsimp only at hSw); go_simp; (try with_reducible rfl)
  case rest5_6r5 =>
  try simp only [List.getElem_toArray, List.getElem_cons_succ, List.getElem_cons_zero, Act.put, List.setIfInBounds_toArray, List.set_cons_zero, List.set_cons_succ]
  refine wpAnyG_take' (i := 6) (v := .agg #[.int .i64 n, .int .i64 xf]) rfl (by kernel_rfl) (by kernel_rfl) (by kernel_rfl) (by kernel_rfl) (fun _ _ _ h => h) (Or.inl ⟨by rfl, ?hy65⟩) hS ?res65
  case hy65 => intro w hSw; exact exec_buildK _ _ rfl n xf rfl rfl
  case res65 =>
  try simp only [List.getElem_toArray, List.getElem_cons_succ, List.getElem_cons_zero, Act.put, List.setIfInBounds_toArray, List.set_cons_zero, List.set_cons_succ]
  refine wpAnyG_one (i := 7) (by kernel_rfl) rfl (fun K hK => ?_)
  go_simp
  rw [← hW1, ← hb6]
  clear hW1 hb6
  refine hK.out _ _ (fun _ => ?hS7r5) ?rest7r5
  case hS7r5 => exact s1
  clear K hK
  try simp only [List.getElem_toArray, List.getElem_cons_succ, List.getElem_cons_zero, Act.put, List.setIfInBounds_toArray, List.set_cons_zero, List.set_cons_succ]
  refine wpAnyG_one (i := 8) (by kernel_rfl) rfl (fun K hK => ?_)
  refine step_store_mid (by rfl) 65 (.tmp 6) (.tmp 49) (by rfl) b6 0 #[.int .i64 n, .int .i64 xf] (by rfl) (by rfl) HTH.out (by kernel_rfl) (by kernel_rfl) ?_
  rw [← hW2]
  clear hW2
  refine hK.out _ _ (fun _ => ?hS8r5) ?rest8r5
  case hS8r5 => exact s2
  clear K hK
  try simp only [List.getElem_toArray, List.getElem_cons_succ, List.getElem_cons_zero, Act.put, List.setIfInBounds_toArray, List.set_cons_zero, List.set_cons_succ]
  refine wpAnyG_done (by kernel_rfl) ?_ _
  try simp only [List.getElem_toArray, List.getElem_cons_succ, List.getElem_cons_zero, Act.put, List.setIfInBounds_toArray, List.set_cons_zero, List.set_cons_succ]
  clear s0 s1 s2 HTH
  have h8 := H8.out
  clear H8
  have h9 := h8.drew
  have s0 : (W2.drew).cell? ⟨g, 0, none⟩ = some (.int .i64 n) ∧ (W2.drew).cell? ⟨g, 1, none⟩ = some (.int .i64 view) ∧ (W2.drew).cell? ⟨g, 2, none⟩ = some (.map (some b)) ∧ (W2.drew).cell? ⟨b6, 0, none⟩ = some (.int .i64 n) ∧ (W2.drew).cell? ⟨b6, 1, none⟩ = some (.int .i64 xf) ∧ (Instr.lookup 59 (.map (some b)) (.agg #[.int .i64 n, .int .i64 xf]) true).run Tryd.prog (W2.drew) = .ok (.tuple #[.agg #[.int .i64 0, .int .i64 0, .int .i64 0, .slice none 0 0, .slice none 0 0, .int .i64 0], .bool false]) (W2.drew) := ⟨h9.sw3.cell rfl, h9.sw3.cell rfl, h9.sw3.cell rfl, h9.cell rfl, h9.cell rfl, HLK.out _ _ h9.sw4⟩
  have h10 : Sep w0 (Cl W2.heap.size #[.int .i64 0, .int .i64 0, .int .i64 0, .slice none 0 0, .slice none 0 0, .int .i64 0] 33 :: Cl b6 #[.int .i64 n, .int .i64 xf] 65 :: Cl b3 #[.int .i64 xf, .int .i64 xl, .int .i64 xb, .slice none 0 0, .slice xa xp.length xk, .int .i64 xc] 33 :: OcT g b n view :: OvT b (offS n xs) :: (xs.map enP ++ L)) (W2.alloc (.cells #[.int .i64 0, .int .i64 0, .int .i64 0, .slice none 0 0, .slice none 0 0, .int .i64 0] 33)).drew := h9.alloc (.cells #[.int .i64 0, .int .i64 0, .int .i64 0, .slice none 0 0, .slice none 0 0, .int .i64 0] 33)
  obtain ⟨b7, hb7⟩ : ∃ z, z = W2.heap.size := ⟨_, rfl⟩
  obtain ⟨W3, hW3⟩ : ∃ z, z = (W2.alloc (.cells #[.int .i64 0, .int .i64 0, .int .i64 0, .slice none 0 0, .slice none 0 0, .int .i64 0] 33)).drew := ⟨_, rfl⟩
  rw [← hW3, ← hb7] at h10
  have s1 : (W3).cell? ⟨g, 0, none⟩ = some (.int .i64 n) ∧ (W3).cell? ⟨g, 1, none⟩ = some (.int .i64 view) ∧ (W3).cell? ⟨g, 2, none⟩ = some (.map (some b)) ∧ (W3).cell? ⟨b6, 0, none⟩ = some (.int .i64 n) ∧ (W3).cell? ⟨b6, 1, none⟩ = some (.int .i64 xf) ∧ (Instr.lookup 59 (.map (some b)) (.agg #[.int .i64 n, .int .i64 xf]) true).run Tryd.prog (W3) = .ok (.tuple #[.agg #[.int .i64 0, .int .i64 0, .int .i64 0, .slice none 0 0, .slice none 0 0, .int .i64 0], .bool false]) (W3) := ⟨h10.sw4.cell rfl, h10.sw4.cell rfl, h10.sw4.cell rfl, h10.sw2.cell rfl, h10.sw2.cell rfl, HLK.out _ _ h10.sw5⟩
  have HTH := Lib.hid (Sep.thereAt h10 0 6 (Nat.le_refl 6))
  have h11 := Sep.storeW h10 #[.int .i64 0, .int .i64 0, .int .i64 0, .slice none 0 0, .slice none 0 0, .int .i64 0] rfl
  obtain ⟨W4, hW4⟩ : ∃ z, z = W3.setCells b7 0 (Array.toList #[.int .i64 0, .int .i64 0, .int .i64 0, .slice none 0 0, .slice none 0 0, .int .i64 0]) := ⟨_, rfl⟩
  rw [← hW4] at h11
  have s2 : (W4).cell? ⟨g, 0, none⟩ = some (.int .i64 n) ∧ (W4).cell? ⟨g, 1, none⟩ = some (.int .i64 view) ∧ (W4).cell? ⟨g, 2, none⟩ = some (.map (some b)) ∧ (W4).cell? ⟨b6, 0, none⟩ = some (.int .i64 n) ∧ (W4).cell? ⟨b6, 1, none⟩ = some (.int .i64 xf) ∧ (Instr.lookup 59 (.map (some b)) (.agg #[.int .i64 n, .int .i64 xf]) true).run Tryd.prog (W4) = .ok (.tuple #[.agg #[.int .i64 0, .int .i64 0, .int .i64 0, .slice none 0 0, .slice none 0 0, .int .i64 0], .bool false]) (W4) := ⟨h11.sw4.cell rfl, h11.sw4.cell rfl, h11.sw4.cell rfl, h11.sw2.cell rfl, h11.sw2.cell rfl, HLK.out _ _ h11.sw5⟩
  have H11 := Lib.hid h11
  clear h8 h9 h10 h11
  (try dsimp only); repeat' (first | go_values | go_skip | go_guarded | go_step | go_upon | go_back)
  refine wp_region_G (fun w' => w'.cell? ⟨g, 0, none⟩ = some (.int .i64 n) ∧ w'.cell? ⟨g, 1, none⟩ = some (.int .i64 view) ∧ w'.cell? ⟨g, 2, none⟩ = some (.map (some b)) ∧ w'.cell? ⟨b6, 0, none⟩ = some (.int .i64 n) ∧ w'.cell? ⟨b6, 1, none⟩ = some (.int .i64 xf) ∧ (Instr.lookup 59 (.map (some b)) (.agg #[.int .i64 n, .int .i64 xf]) true).run Tryd.prog w' = .ok (.tuple #[.agg #[.int .i64 0, .int .i64 0, .int .i64 0, .slice none 0 0, .slice none 0 0, .int .i64 0], .bool false]) w') [] (by kernel_rfl) s0 (fun hS => ?_)
  try dsimp only at hS
  refine wpAnyG_take' (i := 0) (v := ?v0_1r6) rfl (by kernel_rfl) (by kernel_rfl) (by kernel_rfl) (by kernel_rfl) (fun _ _ _ h => h) (Or.inl ⟨by rfl, ?hy0_1r6⟩) hS ?rest0_1r6
  case hy0_1r6 => intro w hSw; (try dsimp only at hSw); go_simp; (try with_reducible rfl)
  case rest0_1r6 =>
  try simp only [List.getElem_toArray, List.getElem_cons_succ, List.getElem_cons_zero, Act.put, List.setIfInBounds_toArray, List.set_cons_zero, List.set_cons_succ]
  refine wpAnyG_take' (i := 1) (v := ?v1_2r6) rfl (by kernel_rfl) (by kernel_rfl) (by kernel_rfl) (by kernel_rfl) (fun _ _ _ h => h) (Or.inl ⟨by rfl, ?hy1_2r6⟩) hS ?rest1_2r6
  case hy1_2r6 => intro w hSw; (try dsimp only at hSw); go_simp; (try with_reducible rfl)
  case rest1_2r6 =>
  try simp only [List.getElem_toArray, List.getElem_cons_succ, List.getElem_cons_zero, Act.put, List.setIfInBounds_toArray, List.set_cons_zero, List.set_cons_succ]
  refine wpAnyG_take' (i := 2) (v := ?v2_3r6) rfl (by kernel_rfl) (by kernel_rfl) (by kernel_rfl) (by kernel_rfl) (fun _ _ _ h => h) (Or.inl ⟨by rfl, ?hy2_3r6⟩) hS ?rest2_3r6
  case hy2_3r6 => intro w hSw; (try dsimp only at hSw); go_simp; (try with_reducible rfl)
  case rest2_3r6 =>
  try simp only [List.getElem_toArray, List.getElem_cons_succ, List.getElem_cons_zero, Act.put, List.setIfInBounds_toArray, List.set_cons_zero, List.set_cons_succ]
  refine wpAnyG_take' (i := 3) (v := ?v3_4r6) rfl (by kernel_rfl) (by kernel_rfl) (by kernel_rfl) (by kernel_rfl) (fun _ _ _ h => h) (Or.inl ⟨by rfl, ?hy3_4r6⟩) hS ?rest3_4r6
  case hy3_4r6 => intro w hSw; (try dsimp only at hSw); go_simp; (try with_reducible rfl)
  case rest3_4r6 =>
  try simp only [List.getElem_toArray, List.getElem_cons_succ, List.getElem_cons_zero, Act.put, List.setIfInBounds_toArray, List.set_cons_zero, List.set_cons_succ]
  refine wpAnyG_take' (i := 4) (v := ?v4_5r6) rfl (by kernel_rfl) (by kernel_rfl) (by kernel_rfl) (by kernel_rfl) (fun _ _ _ h => h) (Or.inl ⟨by rfl, ?hy4_5r6⟩) hS ?rest4_5r6
  case hy4_5r6 => intro w hSw; (try dsimp only at hSw); go_simp; (try with_reducible rfl)
  case rest4_5r6 =>
  try simp only [List.getElem_toArray, List.getElem_cons_succ, List.getElem_cons_zero, Act.put, List.setIfInBounds_toArray, List.set_cons_zero, List.set_cons_succ]
  refine wpAnyG_take' (i := 5) (v := .tuple #[.agg #[.int .i64 0, .int .i64 0, .int .i64 0, .slice none 0 0, .slice none 0 0, .int .i64 0], .bool false]) rfl (by kernel_rfl) (by kernel_rfl) (by kernel_rfl) (by kernel_rfl) (fun _ _ _ h => h) (Or.inl ⟨by rfl, ?hy56⟩) hS ?res56
  case hy56 => intro w hSw; exact exec_lookup _ _ _ _ rfl _ _ rfl rfl hSw.2.2.2.2.2
  case res56 =>
  try simp only [List.getElem_toArray, List.getElem_cons_succ, List.getElem_cons_zero, Act.put, List.setIfInBounds_toArray, List.set_cons_zero, List.set_cons_succ]
  refine wpAnyG_take' (i := 6) (v := ?v6_6r6) rfl (by kernel_rfl) (by kernel_rfl) (by kernel_rfl) (by kernel_rfl) (fun _ _ _ h => h) (Or.inl ⟨by rfl, ?hy6_6r6⟩) hS ?rest6_6r6
  case hy6_6r6 => intro w hSw; (try dsimp only at hSw); go_simp; (try with_reducible rfl)
  case rest6_6r6 =>
  try simp only [List.getElem_toArray, List.getElem_cons_succ, List.getElem_cons_zero, Act.put, List.setIfInBounds_toArray, List.set_cons_zero, List.set_cons_succ]
  refine wpAnyG_take' (i := 7) (v := ?v7_7r6) rfl (by kernel_rfl) (by kernel_rfl) (by kernel_rfl) (by kernel_rfl) (fun _ _ _ h => h) (Or.inl ⟨by rfl, ?hy7_7r6⟩) hS ?rest7_7r6
  case hy7_7r6 => intro w hSw; (try dsimp only at hSw); go_simp; (try with_reducible rfl)
  case rest7_7r6 =>
  try simp only [List.getElem_toArray, List.getElem_cons_succ, List.getElem_cons_zero, Act.put, List.setIfInBounds_toArray, List.set_cons_zero, List.set_cons_succ]
  refine wpAnyG_take' (i := 8) (v := ?v8_8r6) rfl (by kernel_rfl) (by kernel_rfl) (by kernel_rfl) (by kernel_rfl) (fun _ _ _ h => h) (Or.inl ⟨by rfl, ?hy8_8r6⟩) hS ?rest8_8r6
  case hy8_8r6 => intro w hSw; (try dsimp only at hSw); go_simp; (try with_reducible rfl)
  case rest8_8r6 =>
  try simp only [List.getElem_toArray, List.getElem_cons_succ, List.getElem_cons_zero, Act.put, List.setIfInBounds_toArray, List.set_cons_zero, List.set_cons_succ]
  refine wpAnyG_one (i := 9) (by kernel_rfl) rfl (fun K hK => ?_)
  go_simp
  rw [← hW3, ← hb7]
  clear hW3 hb7
  refine hK.out _ _ (fun _ => ?hS9r6) ?rest9r6
  case hS9r6 => exact s1
  clear K hK
  try simp only [List.getElem_toArray, List.getElem_cons_succ, List.getElem_cons_zero, Act.put, List.setIfInBounds_toArray, List.set_cons_zero, List.set_cons_succ]
  refine wpAnyG_one (i := 10) (by kernel_rfl) rfl (fun K hK => ?_)
  refine step_store_mid (by rfl) 33 (.tmp 7) (.tmp 57) (by rfl) b7 0 #[.int .i64 0, .int .i64 0, .int .i64 0, .slice none 0 0, .slice none 0 0, .int .i64 0] (by rfl) (by rfl) HTH.out (by kernel_rfl) (by kernel_rfl) ?_
  rw [← hW4]
  clear hW4
  refine hK.out _ _ (fun _ => ?hS10r6) ?rest10r6
  case hS10r6 => exact s2
  clear K hK
  try simp only [List.getElem_toArray, List.getElem_cons_succ, List.getElem_cons_zero, Act.put, List.setIfInBounds_toArray, List.set_cons_zero, List.set_cons_succ]
  refine wpAnyG_take' (i := 11) (v := ?v11_11r6) rfl (by kernel_rfl) (by kernel_rfl) (by kernel_rfl) (by kernel_rfl) (fun _ _ _ h => h) (Or.inl ⟨by rfl, ?hy11_11r6⟩) s2 ?rest11_11r6
  case hy11_11r6 => intro w hSw; (try dsimp only at hSw); go_simp; (try with_reducible rfl)
  case rest11_11r6 =>
  try simp only [List.getElem_toArray, List.getElem_cons_succ, List.getElem_cons_zero, Act.put, List.setIfInBounds_toArray, List.set_cons_zero, List.set_cons_succ]
  refine wpAnyG_done (by kernel_rfl) ?_ _
  try simp only [List.getElem_toArray, List.getElem_cons_succ, List.getElem_cons_zero, Act.put, List.setIfInBounds_toArray, List.set_cons_zero, List.set_cons_succ]
  clear s0 s1 s2 HTH
  have h12 := Sep.pickL (M := [_, _, _, _, _]) H11.out [2, 0, 1, 3, 4] rfl
  have HLI := Lib.hid (Sep.loadO h12 31 2 #[.int .i64 xb, .slice none 0 0, .slice xa xp.length xk, .int .i64 xc] (fun j v hj => by
    match j, hj with
    | 0, hj => exact hj
    | 1, hj => exact hj
    | 2, hj => exact hj
    | 3, hj => exact hj) Tryd.underlying31 rfl (by kernel_rfl))
  have HC := Lib.hid (clone_any xb xc xa xp.length xk xp h12 (HV.out _ (Sep.left (L := xs.map enP) (Sep.drop (Sep.drop (Sep.drop (Sep.drop (Sep.drop h12))))))) rfl HK.out.1 HK.out.2)
  clear h12 H11
  (try dsimp only); repeat' (first | (with_reducible show wpList _ _ _ (Oper.mk _ (Op.load 31 _) _ _ _ _ :: _) _ _; refine stopP ?_) | go_values | go_skip | go_guarded | go_step | go_upon | go_back)
  unfold StopP
  have hq_ := HLI.out
  refine wpList_load_run rfl 31 _ rfl _ _ rfl hq_ ?_
  clear hq_ HLI
  (try dsimp only); repeat' (first | go_values | go_skip | go_guarded | go_step | go_upon | go_back)
  refine HC.out.mono ?_
  rintro r0 w6 ⟨a', c', qs, rfl, hqs, h13⟩
  have h14 := Sep.pickL (M := [_, _, _, _, _, _]) h13 [1, 0, 2, 3, 4, 5] rfl
  have HTH := Lib.hid (Sep.thereAt h14 2 4 (Nat.le_refl 6))
  have h15 : Sep w0 (Cl b3 #[.int .i64 xf, .int .i64 xl, .int .i64 xb, .slice none 0 0, .slice a' xp.length c', .int .i64 xc] 33 :: EnT (.slice a' xp.length c') qs :: Cl b7 #[.int .i64 0, .int .i64 0, .int .i64 0, .slice none 0 0, .slice none 0 0, .int .i64 0] 33 :: Cl b6 #[.int .i64 n, .int .i64 xf] 65 :: OcT g b n view :: OvT b (offS n xs) :: (xs.map enP ++ L)) (w6.setCells b3 2 (Array.toList #[.int .i64 xb, .slice none 0 0, .slice a' xp.length c', .int .i64 xc])) := Sep.setCells (Array.toList #[.int .i64 xb, .slice none 0 0, .slice a' xp.length c', .int .i64 xc]) _ 2 _ h14
  obtain ⟨W7, hW7⟩ : ∃ q, q = w6.setCells b3 2 (Array.toList #[.int .i64 xb, .slice none 0 0, .slice a' xp.length c', .int .i64 xc]) := ⟨_, rfl⟩
  rw [← hW7] at h15
  have h16 := h15.drew
  have s0 : (W7.drew).cell? ⟨g, 0, none⟩ = some (.int .i64 n) ∧ (W7.drew).cell? ⟨g, 1, none⟩ = some (.int .i64 view) ∧ (W7.drew).cell? ⟨g, 2, none⟩ = some (.map (some b)) ∧ (W7.drew).cell? ⟨b6, 0, none⟩ = some (.int .i64 n) ∧ (W7.drew).cell? ⟨b6, 1, none⟩ = some (.int .i64 xf) ∧ (Instr.loadAt 33 (.pointer (some ⟨b3, 0, none⟩))).run Tryd.prog (W7.drew) = .ok (.agg #[.int .i64 xf, .int .i64 xl, .int .i64 xb, .slice none 0 0, .slice a' xp.length c', .int .i64 xc]) (W7.drew) := ⟨h16.sw5.cell rfl, h16.sw5.cell rfl, h16.sw5.cell rfl, h16.sw4.cell rfl, h16.sw4.cell rfl, h16.loadW 33 Tryd.underlying33 rfl (by kernel_rfl)⟩
  obtain ⟨w9, hu, h17⟩ := HUP.out _ _ ⟨xf, xl, xb, xc, .slice a' xp.length c', qs⟩ h16.sw6
  have HU := Lib.hid hu
  have h18 := (Sep.pickL (M := [_, _, _, _, _, _]) h17 [5, 0, 2] rfl)
  have HL := fun ty => map_len (P := Tryd.prog) (t := 59) Tryd.underlying59 h17 ty
  have c2 := h18.cell (o := 2) (x := .map (some b)) rfl
  have HF := Lib.hid (And.intro hqs h18)
  have hll : (offS n xs ++ [(rk n xf, (⟨xf, xl, xb, xc, .slice a' xp.length c', qs⟩ : OvM))]).length = xs.length + 1 := by unfold offS; rw [List.length_append, List.length_map]; rfl
  rw [hll] at HL
  clear HC h13 h14 h15 h16 h17 h18 hqs hu hll
  (try dsimp only); repeat' (first | (with_reducible show wpList _ _ _ (Oper.mk _ (Op.store 31 _ _) _ _ _ _ :: _) _ _; refine stopP ?_) | go_values | go_skip | go_guarded | go_step | go_upon | go_back)
  unfold StopP
  refine wpList_store_mid rfl 31 (.tmp 64) (.tmp 63) rfl b3 2 #[.int .i64 xb, .slice none 0 0, .slice a' xp.length c', .int .i64 xc] rfl rfl HTH.out (by kernel_rfl) (by kernel_rfl) ?_
  rw [← hW7]
  clear hW7 HTH
  (try dsimp only); repeat' (first | go_values | go_skip | go_guarded | go_step | go_upon | go_back)
  unfold ovV ovC at HU
  dsimp only at HU
  refine wp_region_G (fun w' => w'.cell? ⟨g, 0, none⟩ = some (.int .i64 n) ∧ w'.cell? ⟨g, 1, none⟩ = some (.int .i64 view) ∧ w'.cell? ⟨g, 2, none⟩ = some (.map (some b)) ∧ w'.cell? ⟨b6, 0, none⟩ = some (.int .i64 n) ∧ w'.cell? ⟨b6, 1, none⟩ = some (.int .i64 xf) ∧ (Instr.loadAt 33 (.pointer (some ⟨b3, 0, none⟩))).run Tryd.prog w' = .ok (.agg #[.int .i64 xf, .int .i64 xl, .int .i64 xb, .slice none 0 0, .slice a' xp.length c', .int .i64 xc]) w') [6] (by kernel_rfl) s0 (fun hS => ?_)
  try dsimp only at hS
  refine wpAnyG_take' (i := 0) (v := ?v0_1r9) rfl (by kernel_rfl) (by kernel_rfl) (by kernel_rfl) (by kernel_rfl) (fun _ _ _ h => h) (Or.inl ⟨by rfl, ?hy0_1r9⟩) hS ?rest0_1r9
  case hy0_1r9 => intro w hSw; (try dsimp only at hSw); go_simp; (try with_reducible rfl)
  case rest0_1r9 =>
  try simp only [List.getElem_toArray, List.getElem_cons_succ, List.getElem_cons_zero, Act.put, List.setIfInBounds_toArray, List.set_cons_zero, List.set_cons_succ]
  refine wpAnyG_take' (i := 1) (v := ?v1_2r9) rfl (by kernel_rfl) (by kernel_rfl) (by kernel_rfl) (by kernel_rfl) (fun _ _ _ h => h) (Or.inl ⟨by rfl, ?hy1_2r9⟩) hS ?rest1_2r9
  case hy1_2r9 => intro w hSw; (try dsimp only at hSw); go_simp; (try with_reducible rfl)
  case rest1_2r9 =>
  try simp only [List.getElem_toArray, List.getElem_cons_succ, List.getElem_cons_zero, Act.put, List.setIfInBounds_toArray, List.set_cons_zero, List.set_cons_succ]
  refine wpAnyG_take' (i := 2) (v := ?v2_3r9) rfl (by kernel_rfl) (by kernel_rfl) (by kernel_rfl) (by kernel_rfl) (fun _ _ _ h => h) (Or.inl ⟨by rfl, ?hy2_3r9⟩) hS ?rest2_3r9
  case hy2_3r9 => intro w hSw; (try dsimp only at hSw); go_simp; (try with_reducible rfl)
  case rest2_3r9 =>
  try simp only [List.getElem_toArray, List.getElem_cons_succ, List.getElem_cons_zero, Act.put, List.setIfInBounds_toArray, List.set_cons_zero, List.set_cons_succ]
  refine wpAnyG_take' (i := 3) (v := ?v3_4r9) rfl (by kernel_rfl) (by kernel_rfl) (by kernel_rfl) (by kernel_rfl) (fun _ _ _ h => h) (Or.inl ⟨by rfl, ?hy3_4r9⟩) hS ?rest3_4r9
  case hy3_4r9 => intro w hSw; (try dsimp only at hSw); go_simp; (try with_reducible rfl)
  case rest3_4r9 =>
  try simp only [List.getElem_toArray, List.getElem_cons_succ, List.getElem_cons_zero, Act.put, List.setIfInBounds_toArray, List.set_cons_zero, List.set_cons_succ]
  refine wpAnyG_take' (i := 4) (v := ?v4_5r9) rfl (by kernel_rfl) (by kernel_rfl) (by kernel_rfl) (by kernel_rfl) (fun _ _ _ h => h) (Or.inl ⟨by rfl, ?hy4_5r9⟩) hS ?rest4_5r9
  case hy4_5r9 => intro w hSw; (try dsimp only at hSw); go_simp; (try with_reducible rfl)
  case rest4_5r9 =>
  try simp only [List.getElem_toArray, List.getElem_cons_succ, List.getElem_cons_zero, Act.put, List.setIfInBounds_toArray, List.set_cons_zero, List.set_cons_succ]
  refine wpAnyG_take' (i := 5) (v := .agg #[.int .i64 xf, .int .i64 xl, .int .i64 xb, .slice none 0 0, .slice a' xp.length c', .int .i64 xc]) rfl (by kernel_rfl) (by kernel_rfl) (by kernel_rfl) (by kernel_rfl) (fun _ _ _ h => h) (Or.inl ⟨by rfl, ?hy59⟩) hS ?res59
  case hy59 => intro w hSw; exact exec_load _ _ rfl _ rfl hSw.2.2.2.2.2
  case res59 =>
  try simp only [List.getElem_toArray, List.getElem_cons_succ, List.getElem_cons_zero, Act.put, List.setIfInBounds_toArray, List.set_cons_zero, List.set_cons_succ]
  refine wpAnyG_one (i := 6) (by kernel_rfl) rfl (fun K hK => ?_)
  refine step_update_run (by rfl) 59 _ _ _ (by rfl) _ _ _ (by rfl) (by rfl) (by rfl) HU.out ?_
  refine hK.out _ _ (fun hno => by cases hno) ?_
  clear K hK
  try simp only [List.getElem_toArray, List.getElem_cons_succ, List.getElem_cons_zero, Act.put, List.setIfInBounds_toArray, List.set_cons_zero, List.set_cons_succ]
  refine wpAnyG_done (by kernel_rfl) ?_ _
  try simp only [List.getElem_toArray, List.getElem_cons_succ, List.getElem_cons_zero, Act.put, List.setIfInBounds_toArray, List.set_cons_zero, List.set_cons_succ]
  clear s0 HU
  (try dsimp only); repeat' (first | go_values | go_skip | go_guarded | go_step | go_upon | go_back)
  go_ret2
  exact ⟨a', c', qs, rfl, HF.out.1, HF.out.2.offAdd⟩
end Go.Proofs.YthgndegjiodopaaDoor
