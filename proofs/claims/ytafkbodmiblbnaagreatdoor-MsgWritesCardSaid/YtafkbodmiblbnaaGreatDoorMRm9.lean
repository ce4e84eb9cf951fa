/- The document's Bytes of what is good. -/
import Derived.Test.YtafkbodmiblbnaaGreatDoorMZ36
namespace Go.Proofs.YtafkbodmiblbnaaGreatDoor
open Go Go.RowKit
set_option linter.unusedVariables false
set_option linter.unusedSimpArgs false
theorem putL_le {l : List UInt8} {B : Nat} (t : Bool) (n : Nat) (h : l.length ≤ B) : (putL l t n).length ≤ B + 10 := by
  unfold putL
  have := vint_len n
  cases t <;> simp <;> omega
/-- What region 6 of Bytes loads. -/
def SC8 (b1 : Nat) (v o cm la : Int) (w : World) : Prop :=
  w.cell? ⟨b1, 3, none⟩ = some (.int .i64 v) ∧ w.cell? ⟨b1, 4, none⟩ = some (.int .i64 o) ∧ w.cell? ⟨b1, 5, none⟩ = some (.int .i64 cm) ∧ w.cell? ⟨b1, 6, none⟩ = some (.int .i64 la)
set_option maxRecDepth 100000 in
set_option maxHeartbeats 16000000 in
theorem rbytes05_ok {w : World} (g : MgM) (hg : GmS w g) (hl : g.ck.length ≤ 1000000000) (hx : g.ps.length ≤ 1000000) (hic : g.ic ≤ 9223372036854775807) (hc : chkB g = true) (gv' go' gm' gl' : Nat) (hv1 : g.v = gv') (hv2 : g.o = go') (hv4 : g.cm = gm') (hv8 : g.la = gl') (hvl : gv' < 9223372036854775808 ∧ go' < 9223372036854775808 ∧ gm' < 9223372036854775808 ∧ gl' < 9223372036854775808) :
    Calls Tryz.prog 7 #[.agg (mgC g)] w fun e w' => ∃ u, e = .returned (.tuple #[u, .int .i64 0]) ∧ Sep w [By u (sealL (bodyB g.x))] w' := by
  have h1 := (Sep.start w).alloc (.cells (mgC g) 34)
  obtain ⟨b1, hb1⟩ : ∃ z, z = w.heap.size := ⟨_, rfl⟩
  obtain ⟨w1, hw1⟩ : ∃ z, z = w.alloc (.cells (mgC g) 34) := ⟨_, rfl⟩
  rw [← hw1, ← hb1] at h1
  have HL := Lib.hid (h1.loadW 34 Tryz.underlying34 rfl (by kernel_rfl))
  have hck := rcheck_w (w := w1) g (hg.below h1.low) hl hx hic
  rw [hc] at hck
  have HC := Lib.hid hck
  have HP := Lib.hid (chk_parts hc)
  have HHD : Hid (hdBs g.x = [UInt8.ofNat g.k.toNat, UInt8.ofNat g.f.toNat, UInt8.ofNat g.t.toNat]) := Lib.hid rfl
  obtain ⟨hd, hhd⟩ : ∃ z, z = hdBs g.x := ⟨_, rfl⟩
  have HHL : Hid (hd.length = 3) := Lib.hid (by rw [hhd]; rfl)
  have hnb := nums_put (hdBs g.x) (mfieldsOf g.k) g.x gv' go' gm' gl' hv1 hv2 hv4 hv8
  rw [← hhd] at HHD hnb
  have m0 : (mgC g)[0]? = some (.int .i64 g.k) := rfl
  have m1 : (mgC g)[1]? = some (.int .i64 g.f) := rfl
  have m2 : (mgC g)[2]? = some (.int .i64 g.t) := rfl
  have m3 : (mgC g)[3]? = some (.int .i64 gv') ∧ (mgC g)[4]? = some (.int .i64 go') ∧ (mgC g)[5]? = some (.int .i64 gm') ∧ (mgC g)[6]? = some (.int .i64 gl') := by rw [← hv1, ← hv2, ← hv4, ← hv8]; exact ⟨rfl, rfl, rfl, rfl⟩
  have HM7 : Hid ((mgC g)[7]? = some (.int .i64 g.en.c) ∧ (mgC g)[8]? = some (.int .i64 g.en.m) ∧ (mgC g)[9]? = some (.int .i64 g.en.p.k) ∧ (mgC g)[10]? = some (.string g.en.p.s.1) ∧ (mgC g)[11]? = some (.int .i64 g.en.p.o) ∧ (mgC g)[12]? = some (.int .i64 g.en.p.n) ∧ (mgC g)[13]? = some g.lv) := Lib.hid ⟨rfl, rfl, rfl, rfl, rfl, rfl, rfl⟩
  have HM14 : Hid ((mgC g)[14]? = some (.int .i64 g.rc) ∧ (mgC g)[15]? = some (.int .i64 g.ra) ∧ (mgC g)[16]? = some (.int .i64 g.rb) ∧ (mgC g)[17]? = some (.bool g.s)) := Lib.hid ⟨rfl, rfl, rfl, rfl⟩
  have HM18 : Hid ((mgC g)[18]? = some (.int .i64 g.ib) ∧ (mgC g)[19]? = some g.cv ∧ (mgC g)[20]? = some g.ev ∧ (mgC g)[21]? = some (.int .i64 g.ic)) := Lib.hid ⟨rfl, rfl, rfl, rfl⟩
  obtain ⟨mc, hmc⟩ : ∃ z, z = mgC g := ⟨_, rfl⟩
  rw [← hmc] at HL HC hw1 m0 m1 m2 m3 h1 HM7 HM14 HM18 ⊢
  obtain ⟨k, hk⟩ : ∃ z, z = g.k := ⟨_, rfl⟩
  obtain ⟨f, hf⟩ : ∃ z, z = g.f := ⟨_, rfl⟩
  obtain ⟨t, ht⟩ : ∃ z, z = g.t := ⟨_, rfl⟩
  rw [← hk] at m0 HHD hnb
  have HNB := Lib.hid hnb
  have HBD : Hid (bodyB g.x = hd ++ (numsB (mfieldsOf g.k) g.x 4 ++ (entB g.x ++ (resB' g.x ++ imgB' g.x)))) := Lib.hid (by rw [hhd]; rfl)
  rw [← hf] at m1 HHD
  rw [← ht] at m2 HHD
  have hq : 1 ≤ k ∧ k ≤ 10 ∧ 0 ≤ f ∧ f < 23 ∧ 0 ≤ t ∧ t < 23 := by rw [hk, hf, ht]; exact ⟨HP.out.2.1, HP.out.2.2.1, HP.out.2.2.2.1, HP.out.2.2.2.2.1, HP.out.2.2.2.2.2.1, HP.out.2.2.2.2.2.2.1⟩
  have HQ := Lib.hid hq
  obtain ⟨q1, q2, q3, q4, q5, q6⟩ := hq
  have HM := Lib.hid (And.intro m0 (And.intro m1 (And.intro m2 m3)))
  obtain ⟨gv, hgv⟩ : ∃ z : Int, z = gv' := ⟨_, rfl⟩
  have HSC : Hid (∀ {L : List Thing} wx, Sep w (Cl b1 mc 34 :: L) wx → SC8 b1 gv' go' gm' gl' wx) := Lib.hid fun wx hx => ⟨hx.cell HM.out.2.2.2.1, hx.cell HM.out.2.2.2.2.1, hx.cell HM.out.2.2.2.2.2.1, hx.cell HM.out.2.2.2.2.2.2⟩
  have H1 := Lib.hid h1
  have HPUT : Hid (∀ (t : Bool) (n : Nat), n < 9223372036854775808 → ∀ {L : List Thing} (wx : World) (u : Value) (l : List UInt8), l.length ≤ 1099511627776 → Sep w (By u l :: L) wx → Calls Tryz.prog 35 #[u, .bool t, .int .i64 n] wx fun e w' => ∃ v', e = .returned v' ∧ Sep w (By v' (putL l t n) :: L) w') := Lib.hid fun t n hn L wx u l hl h => rput05_any t n h hn hl
  have HVL := Lib.hid hvl
  have HKE := Lib.hid hk
  have HG := Lib.hid hg
  have HBL := Lib.hid (body_len hc)
  clear h1 hg hl hx hic hc hck hmc hk hf ht hhd hnb hv1 hv2 hv4 hv8 hvl hgv m0 m1 m2 m3
  go_enter Tryz.func7, Tryz.ntmps7
  (try dsimp only); repeat' (first | (with_reducible show wpList _ _ _ (Oper.mk _ (Op.load 34 _) _ _ _ _ :: _) _ _; refine stopP ?_) | go_values | go_skip | go_guarded | go_step | go_upon | go_back)
  unfold StopP
  rw [← hw1, ← hb1]
  have hq_ := HL.out
  refine wpList_load_run rfl 34 _ rfl _ _ rfl hq_ ?_
  clear hq_ hw1 hb1 HL
  (try dsimp only); repeat' (first | go_values | go_skip | go_guarded | go_step | go_upon | go_back)
  refine HC.out.mono ?_
  rintro r0 w2 ⟨rfl, h2⟩
  have h3 := H1.out.below h2.low
  have p0 := h3.cell HM.out.1
  have p1 := h3.cell HM.out.2.1
  have p2 := h3.cell HM.out.2.2.1
  have h4 := h3.alloc (.cells #[.int .u8 k, .int .u8 f, .int .u8 t] 5)
  have h5 := h4.asRow 3 rfl (by unfold maxLen; omega)
  rw [byte3 ⟨by omega, by omega⟩ ⟨by omega, by omega⟩ ⟨by omega, by omega⟩, ← HHD.out] at h5
  have HD := Lib.hid h5.drew
  clear HC h2 h3 h4 h5
  try rw [if_pos rfl]
  (try dsimp only); repeat' (first | go_values | go_skip | go_guarded | go_step | go_upon | go_back)
  refine wp_region_G (SC8 b1 gv' go' gm' gl') [21] (by kernel_rfl) (HSC.out _ HD.out.sw2) (fun hS => ?_)
  try dsimp only at hS
  refine wpAnyG_take' (i := 0) (v := ?v0_1r6) rfl (by kernel_rfl) (by kernel_rfl) (by kernel_rfl) (by kernel_rfl) (fun _ _ _ h => h) (Or.inl ⟨by rfl, ?hy0_1r6⟩) (HSC.out _ HD.out.sw2) ?rest0_1r6
  case hy0_1r6 => intro w hSw; (try dsimp only at hSw); go_simp; (try with_reducible rfl)
  case rest0_1r6 =>
  try simp only [nz0, nz1, nz2, Act.put, nz3, nz4, nz5]
  refine wpAnyG_take' (i := 1) (v := ?v1_2r6) rfl (by kernel_rfl) (by kernel_rfl) (by kernel_rfl) (by kernel_rfl) (fun _ _ _ h => h) (Or.inl ⟨by rfl, ?hy1_2r6⟩) (HSC.out _ HD.out.sw2) ?rest1_2r6
  case hy1_2r6 => intro w hSw; (try dsimp only at hSw); go_simp; (try with_reducible rfl)
  case rest1_2r6 =>
  try simp only [nz0, nz1, nz2, Act.put, nz3, nz4, nz5]
  refine wpAnyG_take' (i := 3) (v := ?v3_3r6) rfl (by kernel_rfl) (by kernel_rfl) (by kernel_rfl) (by kernel_rfl) (fun _ _ _ h => h) (Or.inl ⟨by rfl, ?hy3_3r6⟩) (HSC.out _ HD.out.sw2) ?rest3_3r6
  case hy3_3r6 => intro w hSw; (try dsimp only at hSw); go_simp; (try with_reducible rfl)
  case rest3_3r6 =>
  try simp only [nz0, nz1, nz2, Act.put, nz3, nz4, nz5]
  refine wpAnyG_take' (i := 4) (v := .int .i64 (gv' : Nat)) rfl (by kernel_rfl) (by kernel_rfl) (by kernel_rfl) (by kernel_rfl) (fun _ _ _ h => h) (Or.inl ⟨by rfl, ?hy4_4r6⟩) (HSC.out _ HD.out.sw2) ?rest4_4r6
  case hy4_4r6 => intro w hSw; obtain ⟨s3, s4, s5, s6⟩ := hSw; go_simp; (try with_reducible rfl)
  case rest4_4r6 =>
  try simp only [nz0, nz1, nz2, Act.put, nz3, nz4, nz5]
  refine wpAnyG_take' (i := 6) (v := ?v6_5r6) rfl (by kernel_rfl) (by kernel_rfl) (by kernel_rfl) (by kernel_rfl) (fun _ _ _ h => h) (Or.inl ⟨by rfl, ?hy6_5r6⟩) (HSC.out _ HD.out.sw2) ?rest6_5r6
  case hy6_5r6 => intro w hSw; (try dsimp only at hSw); go_simp; (try with_reducible rfl)
  case rest6_5r6 =>
  try simp only [nz0, nz1, nz2, Act.put, nz3, nz4, nz5]
  refine wpAnyG_take' (i := 8) (v := ?v8_6r6) rfl (by kernel_rfl) (by kernel_rfl) (by kernel_rfl) (by kernel_rfl) (fun _ _ _ h => h) (Or.inl ⟨by rfl, ?hy8_6r6⟩) (HSC.out _ HD.out.sw2) ?rest8_6r6
  case hy8_6r6 => intro w hSw; (try dsimp only at hSw); go_simp; (try with_reducible rfl)
  case rest8_6r6 =>
  try simp only [nz0, nz1, nz2, Act.put, nz3, nz4, nz5]
  refine wpAnyG_take' (i := 9) (v := .int .i64 (go' : Nat)) rfl (by kernel_rfl) (by kernel_rfl) (by kernel_rfl) (by kernel_rfl) (fun _ _ _ h => h) (Or.inl ⟨by rfl, ?hy9_7r6⟩) (HSC.out _ HD.out.sw2) ?rest9_7r6
  case hy9_7r6 => intro w hSw; obtain ⟨s3, s4, s5, s6⟩ := hSw; go_simp; (try with_reducible rfl)
  case rest9_7r6 =>
  try simp only [nz0, nz1, nz2, Act.put, nz3, nz4, nz5]
  refine wpAnyG_take' (i := 11) (v := ?v11_8r6) rfl (by kernel_rfl) (by kernel_rfl) (by kernel_rfl) (by kernel_rfl) (fun _ _ _ h => h) (Or.inl ⟨by rfl, ?hy11_8r6⟩) (HSC.out _ HD.out.sw2) ?rest11_8r6
  case hy11_8r6 => intro w hSw; (try dsimp only at hSw); go_simp; (try with_reducible rfl)
  case rest11_8r6 =>
  try simp only [nz0, nz1, nz2, Act.put, nz3, nz4, nz5]
  refine wpAnyG_take' (i := 13) (v := ?v13_9r6) rfl (by kernel_rfl) (by kernel_rfl) (by kernel_rfl) (by kernel_rfl) (fun _ _ _ h => h) (Or.inl ⟨by rfl, ?hy13_9r6⟩) (HSC.out _ HD.out.sw2) ?rest13_9r6
  case hy13_9r6 => intro w hSw; (try dsimp only at hSw); go_simp; (try with_reducible rfl)
  case rest13_9r6 =>
  try simp only [nz0, nz1, nz2, Act.put, nz3, nz4, nz5]
  refine wpAnyG_take' (i := 14) (v := .int .i64 (gm' : Nat)) rfl (by kernel_rfl) (by kernel_rfl) (by kernel_rfl) (by kernel_rfl) (fun _ _ _ h => h) (Or.inl ⟨by rfl, ?hy14_10r6⟩) (HSC.out _ HD.out.sw2) ?rest14_10r6
  case hy14_10r6 => intro w hSw; obtain ⟨s3, s4, s5, s6⟩ := hSw; go_simp; (try with_reducible rfl)
  case rest14_10r6 =>
  try simp only [nz0, nz1, nz2, Act.put, nz3, nz4, nz5]
  refine wpAnyG_take' (i := 16) (v := ?v16_11r6) rfl (by kernel_rfl) (by kernel_rfl) (by kernel_rfl) (by kernel_rfl) (fun _ _ _ h => h) (Or.inl ⟨by rfl, ?hy16_11r6⟩) (HSC.out _ HD.out.sw2) ?rest16_11r6
  case hy16_11r6 => intro w hSw; (try dsimp only at hSw); go_simp; (try with_reducible rfl)
  case rest16_11r6 =>
  try simp only [nz0, nz1, nz2, Act.put, nz3, nz4, nz5]
  refine wpAnyG_take' (i := 18) (v := ?v18_12r6) rfl (by kernel_rfl) (by kernel_rfl) (by kernel_rfl) (by kernel_rfl) (fun _ _ _ h => h) (Or.inl ⟨by rfl, ?hy18_12r6⟩) (HSC.out _ HD.out.sw2) ?rest18_12r6
  case hy18_12r6 => intro w hSw; (try dsimp only at hSw); go_simp; (try with_reducible rfl)
  case rest18_12r6 =>
  try simp only [nz0, nz1, nz2, Act.put, nz3, nz4, nz5]
  refine wpAnyG_take' (i := 19) (v := .int .i64 (gl' : Nat)) rfl (by kernel_rfl) (by kernel_rfl) (by kernel_rfl) (by kernel_rfl) (fun _ _ _ h => h) (Or.inl ⟨by rfl, ?hy19_13r6⟩) (HSC.out _ HD.out.sw2) ?rest19_13r6
  case hy19_13r6 => intro w hSw; obtain ⟨s3, s4, s5, s6⟩ := hSw; go_simp; (try with_reducible rfl)
  case rest19_13r6 =>
  try simp only [nz0, nz1, nz2, Act.put, nz3, nz4, nz5]
  refine wpAnyG_one (i := 2) (by kernel_rfl) rfl (fun K hK => ?_)
  go_simp
  refine (rhvw_any k _).mono ?_
  rintro r0 wz0 ⟨rfl, rfl⟩
  refine hK.out _ _ (fun _ => ?hS14r6) ?rest14r6
  case hS14r6 => exact (HSC.out _ HD.out.sw2)
  clear K hK
  try simp only [nz0, nz1, nz2, Act.put, nz3, nz4, nz5]
  refine wpAnyG_one (i := 5) (by kernel_rfl) rfl (fun K hK => ?_)
  go_simp
  refine (HPUT.out (bit (mfieldsOf k) 1) gv' HVL.out.1 _ _ _ (by have := HHL.out; omega) HD.out).mono ?_
  rintro r0 wr1 ⟨ur1, rfl, hr1⟩
  have HR1 := Lib.hid hr1
  clear hr1
  refine hK.out _ _ (fun _ => ?hS15r6) ?rest15r6
  case hS15r6 => exact (HSC.out _ HR1.out.sw2)
  clear K hK
  try simp only [nz0, nz1, nz2, Act.put, nz3, nz4, nz5]
  refine wpAnyG_one (i := 7) (by kernel_rfl) rfl (fun K hK => ?_)
  go_simp
  refine (rhop_any k HR1.out).mono ?_
  rintro r0 wr2 ⟨rfl, hr2⟩
  have HR2 := Lib.hid hr2
  clear hr2
  refine hK.out _ _ (fun _ => ?hS16r6) ?rest16r6
  case hS16r6 => exact (HSC.out _ HR2.out.sw2)
  clear K hK
  try simp only [nz0, nz1, nz2, Act.put, nz3, nz4, nz5]
  refine wpAnyG_one (i := 10) (by kernel_rfl) rfl (fun K hK => ?_)
  go_simp
  refine (HPUT.out (bit (mfieldsOf k) 2) go' HVL.out.2.1 _ _ _ (Nat.le_trans (putL_le _ _ (Nat.le_of_eq HHL.out)) (by omega)) HR2.out).mono ?_
  rintro r0 wr3 ⟨ur3, rfl, hr3⟩
  have HR3 := Lib.hid hr3
  clear hr3
  refine hK.out _ _ (fun _ => ?hS17r6) ?rest17r6
  case hS17r6 => exact (HSC.out _ HR3.out.sw2)
  clear K hK
  try simp only [nz0, nz1, nz2, Act.put, nz3, nz4, nz5]
  refine wpAnyG_one (i := 12) (by kernel_rfl) rfl (fun K hK => ?_)
  go_simp
  refine (rhcm_any k HR3.out).mono ?_
  rintro r0 wr4 ⟨rfl, hr4⟩
  have HR4 := Lib.hid hr4
  clear hr4
  refine hK.out _ _ (fun _ => ?hS18r6) ?rest18r6
  case hS18r6 => exact (HSC.out _ HR4.out.sw2)
  clear K hK
  try simp only [nz0, nz1, nz2, Act.put, nz3, nz4, nz5]
  refine wpAnyG_one (i := 15) (by kernel_rfl) rfl (fun K hK => ?_)
  go_simp
  refine (HPUT.out (bit (mfieldsOf k) 4) gm' HVL.out.2.2.1 _ _ _ (Nat.le_trans (putL_le _ _ (putL_le _ _ (Nat.le_of_eq HHL.out))) (by omega)) HR4.out).mono ?_
  rintro r0 wr5 ⟨ur5, rfl, hr5⟩
  have HR5 := Lib.hid hr5
  clear hr5
  refine hK.out _ _ (fun _ => ?hS19r6) ?rest19r6
  case hS19r6 => exact (HSC.out _ HR5.out.sw2)
  clear K hK
  try simp only [nz0, nz1, nz2, Act.put, nz3, nz4, nz5]
  refine wpAnyG_one (i := 17) (by kernel_rfl) rfl (fun K hK => ?_)
  go_simp
  refine (rhla_any k _).mono ?_
  rintro r0 wz5 ⟨rfl, rfl⟩
  refine hK.out _ _ (fun _ => ?hS20r6) ?rest20r6
  case hS20r6 => exact (HSC.out _ HR5.out.sw2)
  clear K hK
  try simp only [nz0, nz1, nz2, Act.put, nz3, nz4, nz5]
  refine wpAnyG_one (i := 20) (by kernel_rfl) rfl (fun K hK => ?_)
  go_simp
  refine (HPUT.out (bit (mfieldsOf k) 8) gl' HVL.out.2.2.2 _ _ _ (Nat.le_trans (putL_le _ _ (putL_le _ _ (putL_le _ _ (Nat.le_of_eq HHL.out)))) (by omega)) HR5.out).mono ?_
  rintro r0 wr6 ⟨ur6, rfl, hr6⟩
  have HR6 := Lib.hid hr6
  clear hr6
  refine hK.out _ _ (fun _ => ?hS21r6) ?rest21r6
  case hS21r6 => exact (HSC.out _ HR6.out.sw2)
  clear K hK
  try simp only [nz0, nz1, nz2, Act.put, nz3, nz4, nz5]
  refine wpAnyG_one (i := 21) (by kernel_rfl) rfl (fun K hK => ?_)
  go_simp
  refine hK.out _ _ (fun hno => by cases hno) ?_
  clear K hK
  try simp only [nz0, nz1, nz2, Act.put, nz3, nz4, nz5]
  refine wpAnyG_done (by kernel_rfl) ?_ _
  try simp only [nz0, nz1, nz2, Act.put, nz3, nz4, nz5]
  have h6 := HR6.out
  rw [HNB.out] at h6
  obtain ⟨pre, hpre⟩ : ∃ z, z = hd ++ numsB (mfieldsOf k) g.x 4 := ⟨_, rfl⟩
  rw [← hpre] at h6
  have H6 := Lib.hid h6
  have HPRE := Lib.hid hpre
  have hpl : pre.length ≤ 100 := by
    have h1 := numsB_len (mfieldsOf k) g.x 4
    have h2 := HHL.out
    rw [hpre, List.length_append]
    omega
  have HPL := Lib.hid hpl
  have hbp : bodyB g.x = pre ++ (entB g.x ++ (resB' g.x ++ imgB' g.x)) := by rw [HBD.out, hpre, HKE.out, List.append_assoc]
  have HBP := Lib.hid hbp
  have HSL : Hid (∀ (M : List Thing) (wx : World) (u : Value) (l : List UInt8), l = bodyB g.x → Sep w (By u l :: M) wx → Calls Tryz.prog 49 #[u] wx fun e w' => ∃ u', e = .returned (.tuple #[u', .int .i64 0]) ∧ Sep w [By u' (sealL (bodyB g.x))] w') := Lib.hid fun M wx u l hb h => by
    subst hb
    refine (rseal_ok _ h h.sl HBL.out).mono ?_
    rintro e w' ⟨u', h1, h2⟩
    exact ⟨u', h1, Sep.left (L := By u (bodyB g.x) :: M) (M := [_]) (h2.perm (List.perm_append_comm (l₁ := [_])))⟩
  clear h6 hpre hpl hbp HR1 HR2 HR3 HR4 HR5 HR6 HNB HD HSC HHD HBD HBL
  rcases has_cases k with h0 | ⟨-, -, -, ⟨k16, k32, k64, k128⟩ | ⟨k16, k32, k64, k128⟩ | ⟨k16, k32, k64, k128⟩ | ⟨k16, k32, k64, k128⟩ | ⟨k16, k32, k64, k128⟩⟩
  · exact absurd h0 (by rw [HKE.out]; exact HP.out.1)
  · have hE : entB g.x = rowTx g.en := by unfold entB; rw [show g.x.k = k from HKE.out.symm, if_pos k16]; try rfl
    have hR : resB' g.x = [] := by unfold resB'; rw [show g.x.k = k from HKE.out.symm, if_neg (by rw [k64]; simp)]; try rfl
    have hI : imgB' g.x = [] := by unfold imgB'; rw [show g.x.k = k from HKE.out.symm, if_neg (by rw [k128]; simp)]; try rfl
    have HE7 := Lib.hid (rhen_any k H6.out)
    rw [k16] at HE7
    (try dsimp only); repeat' (first | go_values | go_skip | go_guarded | go_step | go_upon | go_back)
    refine HE7.out.mono ?_
    rintro r0 w7 ⟨rfl, h7⟩
    have H7 := Lib.hid h7
    clear HE7 h7
    have hok : g.en.ok = true := by
      have := HP.out.2.2.2.2.2.2.2.2.2.2.2.1
      unfold fEB at this
      rw [← HKE.out, if_pos k16] at this
      exact this
    have hbe := rebytes_u g.en g.lv H7.out (HG.out.below H7.out.low).1 (by have := ok_len (EnM.parts hok).2; omega)
    rw [hok] at hbe
    unfold BysE at hbe
    rw [if_pos rfl, show eB true = 0 from rfl] at hbe
    unfold enV at hbe
    have HBE := Lib.hid hbe
    have HEL := Lib.hid (entBs_len hok)
    have c7 := H7.out.sw2.cell HM7.out.1
    have c8 := H7.out.sw2.cell HM7.out.2.1
    have c9 := H7.out.sw2.cell HM7.out.2.2.1
    have c10 := H7.out.sw2.cell HM7.out.2.2.2.1
    have c11 := H7.out.sw2.cell HM7.out.2.2.2.2.1
    have c12 := H7.out.sw2.cell HM7.out.2.2.2.2.2.1
    have c13 := H7.out.sw2.cell HM7.out.2.2.2.2.2.2
    obtain ⟨ea, ec, hlv⟩ := (HG.out.1).len
    clear hbe hok
    rw [hlv] at HBE c13
    (try dsimp only); repeat' (first | go_values | go_skip | go_guarded | go_step | go_upon | go_back)
    refine HBE.out.mono ?_
    rintro r0 w8 ⟨u8, rfl, h8⟩
    obtain ⟨u8a, u8c, rfl⟩ := h8.sl.len
    have HT := Lib.hid (rtext_sepn _ _ pre (entBs g.en) w8 h8 h8.sw2.sl h8.sl (by have := HPL.out; have := HEL.out; omega))
    clear HBE h8 c7 c8 c9 c10 c11 c12 c13 H7 hlv
    (try dsimp only); repeat' (first | go_values | go_skip | go_guarded | go_step | go_upon | go_back)
    refine HT.out.mono ?_
    rintro r0 w9 ⟨u9, rfl, h9⟩
    have HB : Hid (pre ++ vint (entBs g.en).length ++ entBs g.en = bodyB g.x) := Lib.hid (by rw [HBP.out, hE, hR, hI]; unfold rowTx; simp)
    have H9 := Lib.hid (h9.pickL (M := [_, _, _, _]) [0, 3] rfl)
    clear HT h9 hE hR hI
    have HE10 := Lib.hid (rhid_any k H9.out)
    rw [k32] at HE10
    (try dsimp only); repeat' (first | go_values | go_skip | go_guarded | go_step | go_upon | go_back)
    refine HE10.out.mono ?_
    rintro r0 w10 ⟨rfl, h10⟩
    have H10 := Lib.hid h10
    clear HE10 h10
    have HE11 := Lib.hid (rhrs_any k w10)
    rw [k64] at HE11
    (try dsimp only); repeat' (first | go_values | go_skip | go_guarded | go_step | go_upon | go_back)
    refine HE11.out.mono ?_
    rintro r0 w11 ⟨rfl, rfl⟩
    clear HE11
    have HE12 := Lib.hid (rhim_any k H10.out)
    rw [k128] at HE12
    (try dsimp only); repeat' (first | go_values | go_skip | go_guarded | go_step | go_upon | go_back)
    refine HE12.out.mono ?_
    rintro r0 w12 ⟨rfl, h12⟩
    have H12 := Lib.hid h12
    clear HE12 h12
    have HS9 := Lib.hid (HSL.out _ _ _ _ HB.out H12.out)
    (try dsimp only); repeat' (first | go_values | go_skip | go_guarded | go_step | go_upon | go_back)
    refine HS9.out.mono ?_
    rintro r0 w13 ⟨u13, rfl, h13⟩
    have H13 := Lib.hid h13
    clear HS9 h13
    (try dsimp only); repeat' (first | go_values | go_skip | go_guarded | go_step | go_upon | go_back)
    exact bodyPost_ret (results_tmp2 rfl _ _ _) rfl ⟨_, rfl, H13.out⟩
  · have hE : entB g.x = [UInt8.ofNat g.en.c.toNat] ++ vint g.en.m.toNat := by unfold entB; rw [show g.x.k = k from HKE.out.symm, if_neg (by rw [k16]; simp), if_pos k32]; try rfl
    have hR : resB' g.x = wresB g.rc g.ra g.rb g.s := by unfold resB'; rw [show g.x.k = k from HKE.out.symm, if_pos k64]; try rfl
    have hI : imgB' g.x = [] := by unfold imgB'; rw [show g.x.k = k from HKE.out.symm, if_neg (by rw [k128]; simp)]; try rfl
    have HE7 := Lib.hid (rhen_any k H6.out)
    rw [k16] at HE7
    (try dsimp only); repeat' (first | go_values | go_skip | go_guarded | go_step | go_upon | go_back)
    refine HE7.out.mono ?_
    rintro r0 w7 ⟨rfl, h7⟩
    have H7 := Lib.hid h7
    clear HE7 h7
    have HE8 := Lib.hid (rhid_any k H7.out)
    rw [k32] at HE8
    (try dsimp only); repeat' (first | go_values | go_skip | go_guarded | go_step | go_upon | go_back)
    refine HE8.out.mono ?_
    rintro r0 w8 ⟨rfl, h8⟩
    have H8 := Lib.hid h8
    clear HE8 h8
    have hw32 : hdB g.en.c g.en.m = true ∧ opSameZ g.en.p = true := by
      have := HP.out.2.2.2.2.2.2.2.2.2.2.2.1
      unfold fEB at this
      rw [← HKE.out, if_neg (by rw [k16]; simp), if_pos k32, Bool.and_eq_true] at this
      exact this
    have hr32 := of_decide_eq_true hw32.1
    have HC7 : Hid (mc[7]? = some (.int .i64 g.en.c)) := Lib.hid HM7.out.1
    obtain ⟨em, hem⟩ : ∃ z : Nat, g.en.m = z := ⟨g.en.m.toNat, by omega⟩
    have HC8 : Hid (mc[8]? = some (.int .i64 (em : Nat))) := Lib.hid (by rw [← hem]; exact HM7.out.2.1)
    obtain ⟨ec, hec⟩ : ∃ z, z = g.en.c := ⟨_, rfl⟩
    rw [← hec] at HC7 hE hr32
    rw [hem] at hE hr32
    have e1 : IntKind.u8.wrap ec = ec := by rw [IntKind.wrap_u8]; omega
    have e2 : ec % 256 = ec := by omega
    have e3 : IntKind.u64.wrap (em : Int) = em := by rw [IntKind.wrap_u64]; omega
    obtain ⟨rq, hrq⟩ : ∃ z, z = [UInt8.ofNat ec.toNat] ++ vint em := ⟨_, rfl⟩
    rw [Int.toNat_natCast, ← hrq] at hE
    have HRQ := Lib.hid hrq
    have hrl : rq.length ≤ 11 := by rw [hrq]; have := vint_len em; simp; omega
    have h0 := H8.out.drew
    have G0 := Lib.hid (And.intro (h0.sw2.cell HC7.out) (h0.sw2.cell HC8.out))
    have h4 := h0.alloc (.cells #[.int .u8 ec] 5)
    have G1 := Lib.hid (And.intro (h4.sw3.cell HC7.out) (h4.sw3.cell HC8.out))
    have h5 := h4.asRow 1 rfl (by unfold maxLen; omega)
    rw [byte1v hr32.1 (by omega)] at h5
    obtain ⟨v6, wa6, hr6, h6, -⟩ := app8 (ty := 29) h5.sw2 h5.sl (by have := HPL.out; simp only [List.length_cons, List.length_nil]; omega)
    obtain ⟨v6a, v6c, rfl⟩ := h6.sl.len
    have G2 := Lib.hid (And.intro (h6.sw3.cell HC7.out) (h6.sw3.cell HC8.out))
    have HV := Lib.hid (rvarint_sepn _ _ em _ h6 h6.sl (by unfold U64; omega) (by have := HPL.out; rw [List.length_append]; simp only [List.length_cons, List.length_nil]; omega))
    have HR6 := Lib.hid hr6
    have HRL := Lib.hid hrl
    clear h0 h4 h5 h6 hr6 hrq hec hem hr32 hw32 hrl
    (try dsimp only); repeat' (first | go_values | go_skip | go_guarded | go_step | go_upon | go_back)
    refine wp_region_G (fun w' => w'.cell? ⟨b1, 7, none⟩ = some (.int .i64 ec) ∧ w'.cell? ⟨b1, 8, none⟩ = some (.int .i64 (em : Nat))) [] (by kernel_rfl) G0.out (fun hS => ?_)
    try dsimp only at hS
    refine wpAnyG_take' (i := 0) (v := ?v0_1rqa) rfl (by kernel_rfl) (by kernel_rfl) (by kernel_rfl) (by kernel_rfl) (fun _ _ _ h => h) (Or.inl ⟨by rfl, ?hy0_1rqa⟩) hS ?rest0_1rqa
    case hy0_1rqa => intro w hSw; (try dsimp only at hSw); go_simp; (try with_reducible rfl)
    case rest0_1rqa =>
    try simp only [nz0, nz1, nz2, Act.put, nz3, nz4, nz5]
    refine wpAnyG_take' (i := 1) (v := ?v1_2rqa) rfl (by kernel_rfl) (by kernel_rfl) (by kernel_rfl) (by kernel_rfl) (fun _ _ _ h => h) (Or.inl ⟨by rfl, ?hy1_2rqa⟩) hS ?rest1_2rqa
    case hy1_2rqa => intro w hSw; (try dsimp only at hSw); go_simp; (try with_reducible rfl)
    case rest1_2rqa =>
    try simp only [nz0, nz1, nz2, Act.put, nz3, nz4, nz5]
    refine wpAnyG_take' (i := 2) (v := ?v2_3rqa) rfl (by kernel_rfl) (by kernel_rfl) (by kernel_rfl) (by kernel_rfl) (fun _ _ _ h => h) (Or.inl ⟨by rfl, ?hy2_3rqa⟩) hS ?rest2_3rqa
    case hy2_3rqa => intro w hSw; (try dsimp only at hSw); go_simp; (try with_reducible rfl)
    case rest2_3rqa =>
    try simp only [nz0, nz1, nz2, Act.put, nz3, nz4, nz5]
    refine wpAnyG_take' (i := 3) (v := ?v3_4rqa) rfl (by kernel_rfl) (by kernel_rfl) (by kernel_rfl) (by kernel_rfl) (fun _ _ _ h => h) (Or.inl ⟨by rfl, ?hy3_4rqa⟩) hS ?rest3_4rqa
    case hy3_4rqa => intro w hSw; (try dsimp only at hSw); go_simp; (try with_reducible rfl)
    case rest3_4rqa =>
    try simp only [nz0, nz1, nz2, Act.put, nz3, nz4, nz5]
    refine wpAnyG_take' (i := 4) (v := ?v4_5rqa) rfl (by kernel_rfl) (by kernel_rfl) (by kernel_rfl) (by kernel_rfl) (fun _ _ _ h => h) (Or.inl ⟨by rfl, ?hy4_5rqa⟩) hS ?rest4_5rqa
    case hy4_5rqa => intro w hSw; (try dsimp only at hSw); go_simp; (try with_reducible rfl)
    case rest4_5rqa =>
    try simp only [nz0, nz1, nz2, Act.put, nz3, nz4, nz5]
    refine wpAnyG_take' (i := 7) (v := ?v7_6rqa) rfl (by kernel_rfl) (by kernel_rfl) (by kernel_rfl) (by kernel_rfl) (fun _ _ _ h => h) (Or.inl ⟨by rfl, ?hy7_6rqa⟩) hS ?rest7_6rqa
    case hy7_6rqa => intro w hSw; (try dsimp only at hSw); go_simp; (try with_reducible rfl)
    case rest7_6rqa =>
    try simp only [nz0, nz1, nz2, Act.put, nz3, nz4, nz5]
    refine wpAnyG_take' (i := 8) (v := ?v8_7rqa) rfl (by kernel_rfl) (by kernel_rfl) (by kernel_rfl) (by kernel_rfl) (fun _ _ _ h => h) (Or.inl ⟨by rfl, ?hy8_7rqa⟩) hS ?rest8_7rqa
    case hy8_7rqa => intro w hSw; (try dsimp only at hSw); go_simp; (try with_reducible rfl)
    case rest8_7rqa =>
    try simp only [nz0, nz1, nz2, Act.put, nz3, nz4, nz5]
    refine wpAnyG_take' (i := 9) (v := ?v9_8rqa) rfl (by kernel_rfl) (by kernel_rfl) (by kernel_rfl) (by kernel_rfl) (fun _ _ _ h => h) (Or.inl ⟨by rfl, ?hy9_8rqa⟩) hS ?rest9_8rqa
    case hy9_8rqa => intro w hSw; (try dsimp only at hSw); go_simp; (try with_reducible rfl)
    case rest9_8rqa =>
    try simp only [nz0, nz1, nz2, Act.put, nz3, nz4, nz5]
    refine wpAnyG_take' (i := 10) (v := ?v10_9rqa) rfl (by kernel_rfl) (by kernel_rfl) (by kernel_rfl) (by kernel_rfl) (fun _ _ _ h => h) (Or.inl ⟨by rfl, ?hy10_9rqa⟩) hS ?rest10_9rqa
    case hy10_9rqa => intro w hSw; (try dsimp only at hSw); go_simp; (try with_reducible rfl)
    case rest10_9rqa =>
    try simp only [nz0, nz1, nz2, Act.put, nz3, nz4, nz5]
    refine wpAnyG_one (i := 5) (by kernel_rfl) rfl (fun K hK => ?_)
    go_simp
    refine hK.out _ _ (fun _ => ?hS10rqa) ?rest10rqa
    case hS10rqa => exact G1.out
    clear K hK
    try simp only [nz0, nz1, nz2, Act.put, nz3, nz4, nz5]
    refine wpAnyG_one (i := 6) (by kernel_rfl) rfl (fun K hK => ?_)
    refine step_append_run (by rfl) (.tmp 64) (.tmp 69) 29 29 (by rfl) _ _ (by rfl) (by rfl) HR6.out ?_
    refine hK.out _ _ (fun _ => ?hS11rqa) ?rest11rqa
    case hS11rqa => exact G2.out
    clear K hK
    try simp only [nz0, nz1, nz2, Act.put, nz3, nz4, nz5]
    refine wpAnyG_one (i := 11) (by kernel_rfl) rfl (fun K hK => ?_)
    go_simp
    refine HV.out.mono ?_
    rintro r0 w12 ⟨u12, rfl, h12⟩
    have h12q := h12.pickL (M := [_, _, _, _]) [3, 0, 1, 2] rfl
    have G3 := Lib.hid (And.intro (h12q.cell HC7.out) (h12q.cell HC8.out))
    have H12 : Hid (Sep w [By u12 (pre ++ rq), Cl b1 mc 34] w12) := Lib.hid (by rw [HRQ.out, ← List.append_assoc]; exact (h12.pickL (M := [_, _, _, _]) [0, 3] rfl))
    clear HV h12 h12q
    refine hK.out _ _ (fun _ => ?hS12rqa) ?rest12rqa
    case hS12rqa => exact G3.out
    clear K hK
    try simp only [nz0, nz1, nz2, Act.put, nz3, nz4, nz5]
    refine wpAnyG_one (i := 12) (by kernel_rfl) rfl (fun K hK => ?_)
    go_simp
    refine hK.out _ _ (fun _ => ?hS13rqa) ?rest13rqa
    case hS13rqa => exact G3.out
    clear K hK
    try simp only [nz0, nz1, nz2, Act.put, nz3, nz4, nz5]
    refine wpAnyG_done (by kernel_rfl) ?_ _
    try simp only [nz0, nz1, nz2, Act.put, nz3, nz4, nz5]
    clear e1 e2 e3 HR6 G0 G1 G2 G3
    have HE13 := Lib.hid (rhrs_any k w12)
    rw [k64] at HE13
    (try dsimp only); repeat' (first | go_values | go_skip | go_guarded | go_step | go_upon | go_back)
    refine HE13.out.mono ?_
    rintro r0 w13 ⟨rfl, rfl⟩
    clear HE13
    have hrb : resB g.rc g.ra g.rb = true := by
      have := HP.out.2.2.2.2.2.2.2.2.2.2.2.2.1
      unfold fRB at this
      rw [← HKE.out, if_pos k64] at this
      exact this
    have HBR := Lib.hid (rbytesRes_ok g.rc g.ra g.rb H12.out hrb)
    unfold BysP at HBR
    have c14 := H12.out.sw2.cell HM14.out.1
    have c15 := H12.out.sw2.cell HM14.out.2.1
    have c16 := H12.out.sw2.cell HM14.out.2.2.1
    clear hrb
    (try dsimp only); repeat' (first | go_values | go_skip | go_guarded | go_step | go_upon | go_back)
    refine HBR.out.mono ?_
    rintro r0 w14 ⟨u14, rfl, h14⟩
    obtain ⟨u14a, u14c, rfl⟩ := h14.sl.len
    have HRB := Lib.hid (resBs_len g.rc g.ra g.rb)
    have HT := Lib.hid (rtext_sepn _ _ (pre ++ rq) (resBs g.rc g.ra g.rb) w14 h14 h14.sw2.sl h14.sl (by have := HPL.out; have := HRL.out; have := HRB.out; rw [List.length_append]; omega))
    clear HBR h14 c14 c15 c16
    (try dsimp only); repeat' (first | go_values | go_skip | go_guarded | go_step | go_upon | go_back)
    refine HT.out.mono ?_
    rintro r0 w15 ⟨u15, rfl, h15⟩
    have h15 := h15.pickL (M := [_, _, _, _]) [0, 3] rfl
    have c17 := h15.sw2.cell HM14.out.2.2.2
    obtain ⟨sb, hsb⟩ : ∃ z, z = g.s := ⟨_, rfl⟩
    rw [← hsb] at c17 hR
    have HLB : Hid ((pre ++ rq ++ vint (resBs g.rc g.ra g.rb).length ++ resBs g.rc g.ra g.rb).length ≤ 1000) := Lib.hid (by have := HPL.out; have := HRL.out; have := HRB.out; have := vint_len (resBs g.rc g.ra g.rb).length; simp only [List.length_append]; omega)
    have hBD : pre ++ rq ++ vint (resBs g.rc g.ra g.rb).length ++ resBs g.rc g.ra g.rb ++ [if sb then 1 else 0] = bodyB g.x := by rw [HBP.out, hE, hR, hI]; unfold wresB; simp
    obtain ⟨lb, hlb⟩ : ∃ z, z = pre ++ rq ++ vint (resBs g.rc g.ra g.rb).length ++ resBs g.rc g.ra g.rb := ⟨_, rfl⟩
    rw [← hlb] at h15 HLB hBD
    obtain ⟨u15a, u15c, rfl⟩ := h15.sl.len
    have h15 := Lib.hid h15
    clear HT hE hR hI hlb hsb H12 H8
    cases sb with
    | false =>
      have h16 := (h15.out.alloc (.cells #[.int .u8 0] 5)).asRow 1 rfl (by unfold maxLen; omega)
      rw [byte1v (by omega) (by omega)] at h16
      obtain ⟨v17, w17, hr17, h17, -⟩ := app8 (ty := 29) h16.sw2 h16.sl (by have := HLB.out; simp only [List.length_cons, List.length_nil]; omega)
      have HR17 := Lib.hid hr17
      have HB : Hid (lb ++ [UInt8.ofNat (0 : Int).toNat] = bodyB g.x) := Lib.hid hBD
      have H17 := Lib.hid h17
      clear h15 h16 hr17 h17 hBD
      (try dsimp only); repeat' (first | (at_builtin; refine stopP ?_) | go_values | go_skip | go_guarded | go_step | go_upon | go_back)
      unfold StopP
      refine wpList_append_run rfl _ _ _ _ rfl rfl rfl HR17.out ?_
      clear HR17 c17
      have HE18 := Lib.hid (rhim_any k H17.out)
      rw [k128] at HE18
      (try dsimp only); repeat' (first | go_values | go_skip | go_guarded | go_step | go_upon | go_back)
      refine HE18.out.mono ?_
      rintro r0 w18 ⟨rfl, h18⟩
      have H18 := Lib.hid h18
      clear HE18 h18
      have HS9 := Lib.hid (HSL.out _ _ _ _ HB.out H18.out)
      (try dsimp only); repeat' (first | go_values | go_skip | go_guarded | go_step | go_upon | go_back)
      refine HS9.out.mono ?_
      rintro r0 w19 ⟨u19, rfl, h19⟩
      have H19 := Lib.hid h19
      clear HS9 h19
      (try dsimp only); repeat' (first | go_values | go_skip | go_guarded | go_step | go_upon | go_back)
      exact bodyPost_ret (results_tmp2 rfl _ _ _) rfl ⟨_, rfl, H19.out⟩
    | true =>
      have h16 := (h15.out.alloc (.cells #[.int .u8 1] 5)).asRow 1 rfl (by unfold maxLen; omega)
      rw [byte1v (by omega) (by omega)] at h16
      obtain ⟨v17, w17, hr17, h17, -⟩ := app8 (ty := 29) h16.sw2 h16.sl (by have := HLB.out; simp only [List.length_cons, List.length_nil]; omega)
      have HR17 := Lib.hid hr17
      have HB : Hid (lb ++ [UInt8.ofNat (1 : Int).toNat] = bodyB g.x) := Lib.hid hBD
      have H17 := Lib.hid h17
      clear h15 h16 hr17 h17 hBD
      (try dsimp only); repeat' (first | (at_builtin; refine stopP ?_) | go_values | go_skip | go_guarded | go_step | go_upon | go_back)
      unfold StopP
      refine wpList_append_run rfl _ _ _ _ rfl rfl rfl HR17.out ?_
      clear HR17 c17
      have HE18 := Lib.hid (rhim_any k H17.out)
      rw [k128] at HE18
      (try dsimp only); repeat' (first | go_values | go_skip | go_guarded | go_step | go_upon | go_back)
      refine HE18.out.mono ?_
      rintro r0 w18 ⟨rfl, h18⟩
      have H18 := Lib.hid h18
      clear HE18 h18
      have HS9 := Lib.hid (HSL.out _ _ _ _ HB.out H18.out)
      (try dsimp only); repeat' (first | go_values | go_skip | go_guarded | go_step | go_upon | go_back)
      refine HS9.out.mono ?_
      rintro r0 w19 ⟨u19, rfl, h19⟩
      have H19 := Lib.hid h19
      clear HS9 h19
      (try dsimp only); repeat' (first | go_values | go_skip | go_guarded | go_step | go_upon | go_back)
      exact bodyPost_ret (results_tmp2 rfl _ _ _) rfl ⟨_, rfl, H19.out⟩
  · have hE : entB g.x = [UInt8.ofNat g.en.c.toNat] ++ vint g.en.m.toNat := by unfold entB; rw [show g.x.k = k from HKE.out.symm, if_neg (by rw [k16]; simp), if_pos k32]; try rfl
    have hR : resB' g.x = [] := by unfold resB'; rw [show g.x.k = k from HKE.out.symm, if_neg (by rw [k64]; simp)]; try rfl
    have hI : imgB' g.x = [] := by unfold imgB'; rw [show g.x.k = k from HKE.out.symm, if_neg (by rw [k128]; simp)]; try rfl
    have HE7 := Lib.hid (rhen_any k H6.out)
    rw [k16] at HE7
    (try dsimp only); repeat' (first | go_values | go_skip | go_guarded | go_step | go_upon | go_back)
    refine HE7.out.mono ?_
    rintro r0 w7 ⟨rfl, h7⟩
    have H7 := Lib.hid h7
    clear HE7 h7
    have HE8 := Lib.hid (rhid_any k H7.out)
    rw [k32] at HE8
    (try dsimp only); repeat' (first | go_values | go_skip | go_guarded | go_step | go_upon | go_back)
    refine HE8.out.mono ?_
    rintro r0 w8 ⟨rfl, h8⟩
    have H8 := Lib.hid h8
    clear HE8 h8
    have hw32 : hdB g.en.c g.en.m = true ∧ opSameZ g.en.p = true := by
      have := HP.out.2.2.2.2.2.2.2.2.2.2.2.1
      unfold fEB at this
      rw [← HKE.out, if_neg (by rw [k16]; simp), if_pos k32, Bool.and_eq_true] at this
      exact this
    have hr32 := of_decide_eq_true hw32.1
    have HC7 : Hid (mc[7]? = some (.int .i64 g.en.c)) := Lib.hid HM7.out.1
    obtain ⟨em, hem⟩ : ∃ z : Nat, g.en.m = z := ⟨g.en.m.toNat, by omega⟩
    have HC8 : Hid (mc[8]? = some (.int .i64 (em : Nat))) := Lib.hid (by rw [← hem]; exact HM7.out.2.1)
    obtain ⟨ec, hec⟩ : ∃ z, z = g.en.c := ⟨_, rfl⟩
    rw [← hec] at HC7 hE hr32
    rw [hem] at hE hr32
    have e1 : IntKind.u8.wrap ec = ec := by rw [IntKind.wrap_u8]; omega
    have e2 : ec % 256 = ec := by omega
    have e3 : IntKind.u64.wrap (em : Int) = em := by rw [IntKind.wrap_u64]; omega
    obtain ⟨rq, hrq⟩ : ∃ z, z = [UInt8.ofNat ec.toNat] ++ vint em := ⟨_, rfl⟩
    rw [Int.toNat_natCast, ← hrq] at hE
    have HRQ := Lib.hid hrq
    have hrl : rq.length ≤ 11 := by rw [hrq]; have := vint_len em; simp; omega
    have h0 := H8.out.drew
    have G0 := Lib.hid (And.intro (h0.sw2.cell HC7.out) (h0.sw2.cell HC8.out))
    have h4 := h0.alloc (.cells #[.int .u8 ec] 5)
    have G1 := Lib.hid (And.intro (h4.sw3.cell HC7.out) (h4.sw3.cell HC8.out))
    have h5 := h4.asRow 1 rfl (by unfold maxLen; omega)
    rw [byte1v hr32.1 (by omega)] at h5
    obtain ⟨v6, wa6, hr6, h6, -⟩ := app8 (ty := 29) h5.sw2 h5.sl (by have := HPL.out; simp only [List.length_cons, List.length_nil]; omega)
    obtain ⟨v6a, v6c, rfl⟩ := h6.sl.len
    have G2 := Lib.hid (And.intro (h6.sw3.cell HC7.out) (h6.sw3.cell HC8.out))
    have HV := Lib.hid (rvarint_sepn _ _ em _ h6 h6.sl (by unfold U64; omega) (by have := HPL.out; rw [List.length_append]; simp only [List.length_cons, List.length_nil]; omega))
    have HR6 := Lib.hid hr6
    have HRL := Lib.hid hrl
    clear h0 h4 h5 h6 hr6 hrq hec hem hr32 hw32 hrl
    (try dsimp only); repeat' (first | go_values | go_skip | go_guarded | go_step | go_upon | go_back)
    refine wp_region_G (fun w' => w'.cell? ⟨b1, 7, none⟩ = some (.int .i64 ec) ∧ w'.cell? ⟨b1, 8, none⟩ = some (.int .i64 (em : Nat))) [] (by kernel_rfl) G0.out (fun hS => ?_)
    try dsimp only at hS
    refine wpAnyG_take' (i := 0) (v := ?v0_1rqb) rfl (by kernel_rfl) (by kernel_rfl) (by kernel_rfl) (by kernel_rfl) (fun _ _ _ h => h) (Or.inl ⟨by rfl, ?hy0_1rqb⟩) hS ?rest0_1rqb
    case hy0_1rqb => intro w hSw; (try dsimp only at hSw); go_simp; (try with_reducible rfl)
    case rest0_1rqb =>
    try simp only [nz0, nz1, nz2, Act.put, nz3, nz4, nz5]
    refine wpAnyG_take' (i := 1) (v := ?v1_2rqb) rfl (by kernel_rfl) (by kernel_rfl) (by kernel_rfl) (by kernel_rfl) (fun _ _ _ h => h) (Or.inl ⟨by rfl, ?hy1_2rqb⟩) hS ?rest1_2rqb
    case hy1_2rqb => intro w hSw; (try dsimp only at hSw); go_simp; (try with_reducible rfl)
    case rest1_2rqb =>
    try simp only [nz0, nz1, nz2, Act.put, nz3, nz4, nz5]
    refine wpAnyG_take' (i := 2) (v := ?v2_3rqb) rfl (by kernel_rfl) (by kernel_rfl) (by kernel_rfl) (by kernel_rfl) (fun _ _ _ h => h) (Or.inl ⟨by rfl, ?hy2_3rqb⟩) hS ?rest2_3rqb
    case hy2_3rqb => intro w hSw; (try dsimp only at hSw); go_simp; (try with_reducible rfl)
    case rest2_3rqb =>
    try simp only [nz0, nz1, nz2, Act.put, nz3, nz4, nz5]
    refine wpAnyG_take' (i := 3) (v := ?v3_4rqb) rfl (by kernel_rfl) (by kernel_rfl) (by kernel_rfl) (by kernel_rfl) (fun _ _ _ h => h) (Or.inl ⟨by rfl, ?hy3_4rqb⟩) hS ?rest3_4rqb
    case hy3_4rqb => intro w hSw; (try dsimp only at hSw); go_simp; (try with_reducible rfl)
    case rest3_4rqb =>
    try simp only [nz0, nz1, nz2, Act.put, nz3, nz4, nz5]
    refine wpAnyG_take' (i := 4) (v := ?v4_5rqb) rfl (by kernel_rfl) (by kernel_rfl) (by kernel_rfl) (by kernel_rfl) (fun _ _ _ h => h) (Or.inl ⟨by rfl, ?hy4_5rqb⟩) hS ?rest4_5rqb
    case hy4_5rqb => intro w hSw; (try dsimp only at hSw); go_simp; (try with_reducible rfl)
    case rest4_5rqb =>
    try simp only [nz0, nz1, nz2, Act.put, nz3, nz4, nz5]
    refine wpAnyG_take' (i := 7) (v := ?v7_6rqb) rfl (by kernel_rfl) (by kernel_rfl) (by kernel_rfl) (by kernel_rfl) (fun _ _ _ h => h) (Or.inl ⟨by rfl, ?hy7_6rqb⟩) hS ?rest7_6rqb
    case hy7_6rqb => intro w hSw; (try dsimp only at hSw); go_simp; (try with_reducible rfl)
    case rest7_6rqb =>
    try simp only [nz0, nz1, nz2, Act.put, nz3, nz4, nz5]
    refine wpAnyG_take' (i := 8) (v := ?v8_7rqb) rfl (by kernel_rfl) (by kernel_rfl) (by kernel_rfl) (by kernel_rfl) (fun _ _ _ h => h) (Or.inl ⟨by rfl, ?hy8_7rqb⟩) hS ?rest8_7rqb
    case hy8_7rqb => intro w hSw; (try dsimp only at hSw); go_simp; (try with_reducible rfl)
    case rest8_7rqb =>
    try simp only [nz0, nz1, nz2, Act.put, nz3, nz4, nz5]
    refine wpAnyG_take' (i := 9) (v := ?v9_8rqb) rfl (by kernel_rfl) (by kernel_rfl) (by kernel_rfl) (by kernel_rfl) (fun _ _ _ h => h) (Or.inl ⟨by rfl, ?hy9_8rqb⟩) hS ?rest9_8rqb
    case hy9_8rqb => intro w hSw; (try dsimp only at hSw); go_simp; (try with_reducible rfl)
    case rest9_8rqb =>
    try simp only [nz0, nz1, nz2, Act.put, nz3, nz4, nz5]
    refine wpAnyG_take' (i := 10) (v := ?v10_9rqb) rfl (by kernel_rfl) (by kernel_rfl) (by kernel_rfl) (by kernel_rfl) (fun _ _ _ h => h) (Or.inl ⟨by rfl, ?hy10_9rqb⟩) hS ?rest10_9rqb
    case hy10_9rqb => intro w hSw; (try dsimp only at hSw); go_simp; (try with_reducible rfl)
    case rest10_9rqb =>
    try simp only [nz0, nz1, nz2, Act.put, nz3, nz4, nz5]
    refine wpAnyG_one (i := 5) (by kernel_rfl) rfl (fun K hK => ?_)
    go_simp
    refine hK.out _ _ (fun _ => ?hS10rqb) ?rest10rqb
    case hS10rqb => exact G1.out
    clear K hK
    try simp only [nz0, nz1, nz2, Act.put, nz3, nz4, nz5]
    refine wpAnyG_one (i := 6) (by kernel_rfl) rfl (fun K hK => ?_)
    refine step_append_run (by rfl) (.tmp 64) (.tmp 69) 29 29 (by rfl) _ _ (by rfl) (by rfl) HR6.out ?_
    refine hK.out _ _ (fun _ => ?hS11rqb) ?rest11rqb
    case hS11rqb => exact G2.out
    clear K hK
    try simp only [nz0, nz1, nz2, Act.put, nz3, nz4, nz5]
    refine wpAnyG_one (i := 11) (by kernel_rfl) rfl (fun K hK => ?_)
    go_simp
    refine HV.out.mono ?_
    rintro r0 w12 ⟨u12, rfl, h12⟩
    have h12q := h12.pickL (M := [_, _, _, _]) [3, 0, 1, 2] rfl
    have G3 := Lib.hid (And.intro (h12q.cell HC7.out) (h12q.cell HC8.out))
    have H12 : Hid (Sep w [By u12 (pre ++ rq), Cl b1 mc 34] w12) := Lib.hid (by rw [HRQ.out, ← List.append_assoc]; exact (h12.pickL (M := [_, _, _, _]) [0, 3] rfl))
    clear HV h12 h12q
    refine hK.out _ _ (fun _ => ?hS12rqb) ?rest12rqb
    case hS12rqb => exact G3.out
    clear K hK
    try simp only [nz0, nz1, nz2, Act.put, nz3, nz4, nz5]
    refine wpAnyG_one (i := 12) (by kernel_rfl) rfl (fun K hK => ?_)
    go_simp
    refine hK.out _ _ (fun _ => ?hS13rqb) ?rest13rqb
    case hS13rqb => exact G3.out
    clear K hK
    try simp only [nz0, nz1, nz2, Act.put, nz3, nz4, nz5]
    refine wpAnyG_done (by kernel_rfl) ?_ _
    try simp only [nz0, nz1, nz2, Act.put, nz3, nz4, nz5]
    clear e1 e2 e3 HR6 G0 G1 G2 G3
    have HB : Hid (pre ++ rq = bodyB g.x) := Lib.hid (by rw [HBP.out, hE, hR, hI]; simp)
    clear hE hR hI H8
    have HE13 := Lib.hid (rhrs_any k w12)
    rw [k64] at HE13
    (try dsimp only); repeat' (first | go_values | go_skip | go_guarded | go_step | go_upon | go_back)
    refine HE13.out.mono ?_
    rintro r0 w13 ⟨rfl, rfl⟩
    clear HE13
    have HE14 := Lib.hid (rhim_any k H12.out)
    rw [k128] at HE14
    (try dsimp only); repeat' (first | go_values | go_skip | go_guarded | go_step | go_upon | go_back)
    refine HE14.out.mono ?_
    rintro r0 w14 ⟨rfl, h14⟩
    have H14 := Lib.hid h14
    clear HE14 h14
    have HS9 := Lib.hid (HSL.out _ _ _ _ HB.out H14.out)
    (try dsimp only); repeat' (first | go_values | go_skip | go_guarded | go_step | go_upon | go_back)
    refine HS9.out.mono ?_
    rintro r0 w15 ⟨u15, rfl, h15⟩
    have H15 := Lib.hid h15
    clear HS9 h15
    (try dsimp only); repeat' (first | go_values | go_skip | go_guarded | go_step | go_upon | go_back)
    exact bodyPost_ret (results_tmp2 rfl _ _ _) rfl ⟨_, rfl, H15.out⟩
  · have hE : entB g.x = [] := by unfold entB; rw [show g.x.k = k from HKE.out.symm, if_neg (by rw [k16]; simp), if_neg (by rw [k32]; simp)]; try rfl
    have hR : resB' g.x = [] := by unfold resB'; rw [show g.x.k = k from HKE.out.symm, if_neg (by rw [k64]; simp)]; try rfl
    have hI : imgB' g.x = imgBs g.ib g.ic g.ck (g.ps.map (·.1)) := by unfold imgB'; rw [show g.x.k = k from HKE.out.symm, if_pos k128]; try rfl
    have HE7 := Lib.hid (rhen_any k H6.out)
    rw [k16] at HE7
    (try dsimp only); repeat' (first | go_values | go_skip | go_guarded | go_step | go_upon | go_back)
    refine HE7.out.mono ?_
    rintro r0 w7 ⟨rfl, h7⟩
    have H7 := Lib.hid h7
    clear HE7 h7
    have HE8 := Lib.hid (rhid_any k H7.out)
    rw [k32] at HE8
    (try dsimp only); repeat' (first | go_values | go_skip | go_guarded | go_step | go_upon | go_back)
    refine HE8.out.mono ?_
    rintro r0 w8 ⟨rfl, h8⟩
    have H8 := Lib.hid h8
    clear HE8 h8
    have HE9 := Lib.hid (rhrs_any k w8)
    rw [k64] at HE9
    (try dsimp only); repeat' (first | go_values | go_skip | go_guarded | go_step | go_upon | go_back)
    refine HE9.out.mono ?_
    rintro r0 w9 ⟨rfl, rfl⟩
    clear HE9
    have HE10 := Lib.hid (rhim_any k H8.out)
    rw [k128] at HE10
    (try dsimp only); repeat' (first | go_values | go_skip | go_guarded | go_step | go_upon | go_back)
    refine HE10.out.mono ?_
    rintro r0 w10 ⟨rfl, h10⟩
    have H10 := Lib.hid h10
    clear HE10 h10
    have hip := img_parts (show fIB (mfieldsOf k) g.ib g.ck g.ps g.ic = true by rw [HKE.out]; exact HP.out.2.2.2.2.2.2.2.2.2.2.2.2.2) k128
    obtain ⟨i0, i1, i2, i3, i4, i5, i6, i7⟩ := hip
    obtain ⟨ib, hib⟩ : ∃ z : Nat, g.ib = z := ⟨g.ib.toNat, by omega⟩
    obtain ⟨ic, hic⟩ : ∃ z : Nat, g.ic = z := ⟨g.ic.toNat, by omega⟩
    have HC18 : Hid (mc[18]? = some (.int .i64 (ib : Nat))) := Lib.hid (by rw [← hib]; exact HM18.out.1)
    have HC21 : Hid (mc[21]? = some (.int .i64 (ic : Nat))) := Lib.hid (by rw [← hic]; exact HM18.out.2.2.2)
    have HIB : Hid (ib < 9223372036854775808 ∧ ic < 9223372036854775808) := Lib.hid (by omega)
    have G0 := Lib.hid (And.intro (H10.out.drew.sw2.cell HC18.out) (H10.out.drew.sw2.cell HC21.out))
    have HQ1 := Lib.hid (HPUT.out true ib HIB.out.1 _ _ pre (by have := HPL.out; omega) H10.out.drew)
    have HCK := Lib.hid i2
    have HPS := Lib.hid i3
    have HRO := Lib.hid i4
    have HES := Lib.hid i5
    have hI2 : imgB' g.x = vint ib ++ (vint ic ++ ((vint g.ck.length ++ g.ck) ++ (vint (rowBs (g.ps.map (·.1))).length ++ rowBs (g.ps.map (·.1))))) := by rw [hI]; unfold imgBs; rw [hib, hic, Int.toNat_natCast, Int.toNat_natCast]
    have HI2 : Hid (bodyB g.x = pre ++ imgB' g.x) := Lib.hid (by rw [HBP.out, hE, hR]; simp)
    rw [hI2] at HI2
    clear i0 i1 i2 i3 i4 i5 i6 i7 hib hic hE hR hI hI2
    (try dsimp only); repeat' (first | go_values | go_skip | go_guarded | go_step | go_upon | go_back)
    refine wp_region_G (fun w' => w'.cell? ⟨b1, 18, none⟩ = some (.int .i64 (ib : Nat)) ∧ w'.cell? ⟨b1, 21, none⟩ = some (.int .i64 (ic : Nat))) [] (by kernel_rfl) G0.out (fun hS => ?_)
    try dsimp only at hS
    refine wpAnyG_take' (i := 0) (v := ?v0_1rz) rfl (by kernel_rfl) (by kernel_rfl) (by kernel_rfl) (by kernel_rfl) (fun _ _ _ h => h) (Or.inl ⟨by rfl, ?hy0_1rz⟩) G0.out ?rest0_1rz
    case hy0_1rz => intro w hSw; (try dsimp only at hSw); go_simp; (try with_reducible rfl)
    case rest0_1rz =>
    try simp only [nz0, nz1, nz2, Act.put, nz3, nz4, nz5]
    refine wpAnyG_take' (i := 1) (v := ?v1_2rz) rfl (by kernel_rfl) (by kernel_rfl) (by kernel_rfl) (by kernel_rfl) (fun _ _ _ h => h) (Or.inl ⟨by rfl, ?hy1_2rz⟩) G0.out ?rest1_2rz
    case hy1_2rz => intro w hSw; (try dsimp only at hSw); go_simp; (try with_reducible rfl)
    case rest1_2rz =>
    try simp only [nz0, nz1, nz2, Act.put, nz3, nz4, nz5]
    refine wpAnyG_take' (i := 2) (v := ?v2_3rz) rfl (by kernel_rfl) (by kernel_rfl) (by kernel_rfl) (by kernel_rfl) (fun _ _ _ h => h) (Or.inl ⟨by rfl, ?hy2_3rz⟩) G0.out ?rest2_3rz
    case hy2_3rz => intro w hSw; (try dsimp only at hSw); go_simp; (try with_reducible rfl)
    case rest2_3rz =>
    try simp only [nz0, nz1, nz2, Act.put, nz3, nz4, nz5]
    refine wpAnyG_take' (i := 3) (v := .int .i64 (ib : Nat)) rfl (by kernel_rfl) (by kernel_rfl) (by kernel_rfl) (by kernel_rfl) (fun _ _ _ h => h) (Or.inl ⟨by rfl, ?hy3_4rz⟩) G0.out ?rest3_4rz
    case hy3_4rz => intro w hSw; obtain ⟨s3, s4⟩ := hSw; go_simp; (try with_reducible rfl)
    case rest3_4rz =>
    try simp only [nz0, nz1, nz2, Act.put, nz3, nz4, nz5]
    refine wpAnyG_take' (i := 5) (v := ?v5_5rz) rfl (by kernel_rfl) (by kernel_rfl) (by kernel_rfl) (by kernel_rfl) (fun _ _ _ h => h) (Or.inl ⟨by rfl, ?hy5_5rz⟩) G0.out ?rest5_5rz
    case hy5_5rz => intro w hSw; (try dsimp only at hSw); go_simp; (try with_reducible rfl)
    case rest5_5rz =>
    try simp only [nz0, nz1, nz2, Act.put, nz3, nz4, nz5]
    refine wpAnyG_take' (i := 6) (v := ?v6_6rz) rfl (by kernel_rfl) (by kernel_rfl) (by kernel_rfl) (by kernel_rfl) (fun _ _ _ h => h) (Or.inl ⟨by rfl, ?hy6_6rz⟩) G0.out ?rest6_6rz
    case hy6_6rz => intro w hSw; (try dsimp only at hSw); go_simp; (try with_reducible rfl)
    case rest6_6rz =>
    try simp only [nz0, nz1, nz2, Act.put, nz3, nz4, nz5]
    refine wpAnyG_take' (i := 7) (v := .int .i64 (ic : Nat)) rfl (by kernel_rfl) (by kernel_rfl) (by kernel_rfl) (by kernel_rfl) (fun _ _ _ h => h) (Or.inl ⟨by rfl, ?hy7_7rz⟩) G0.out ?rest7_7rz
    case hy7_7rz => intro w hSw; obtain ⟨s3, s4⟩ := hSw; go_simp; (try with_reducible rfl)
    case rest7_7rz =>
    try simp only [nz0, nz1, nz2, Act.put, nz3, nz4, nz5]
    refine wpAnyG_one (i := 4) (by kernel_rfl) rfl (fun K hK => ?_)
    go_simp
    refine HQ1.out.mono ?_
    rintro r0 w11 ⟨u11, rfl, h11⟩
    have G1 := Lib.hid (And.intro (h11.sw2.cell HC18.out) (h11.sw2.cell HC21.out))
    have H11 := Lib.hid h11
    clear h11
    refine hK.out _ _ (fun _ => ?hS8rz) ?rest8rz
    case hS8rz => exact G1.out
    clear K hK
    try simp only [nz0, nz1, nz2, Act.put, nz3, nz4, nz5]
    refine wpAnyG_one (i := 8) (by kernel_rfl) rfl (fun K hK => ?_)
    go_simp
    refine (HPUT.out true ic (by have := HIB.out; omega) w11 u11 _ (Nat.le_trans (putL_le _ _ HPL.out) (by omega)) H11.out).mono ?_
    rintro r0 w12 ⟨u12, rfl, h12⟩
    have G2 := Lib.hid (And.intro (h12.sw2.cell HC18.out) (h12.sw2.cell HC21.out))
    have H12 := Lib.hid h12
    clear h12
    refine hK.out _ _ (fun _ => ?hS9rz) ?rest9rz
    case hS9rz => exact G2.out
    clear K hK
    try simp only [nz0, nz1, nz2, Act.put, nz3, nz4, nz5]
    refine wpAnyG_one (i := 9) (by kernel_rfl) rfl (fun K hK => ?_)
    go_simp
    refine hK.out _ _ (fun _ => ?hS10rz) ?rest10rz
    case hS10rz => exact G2.out
    clear K hK
    try simp only [nz0, nz1, nz2, Act.put, nz3, nz4, nz5]
    refine wpAnyG_done (by kernel_rfl) ?_ _
    try simp only [nz0, nz1, nz2, Act.put, nz3, nz4, nz5]
    clear G0 G1 G2 HQ1
    have hl12 : (putL (putL pre true ib) true ic).length ≤ 120 := putL_le _ _ (putL_le _ _ HPL.out)
    have hp12 : putL (putL pre true ib) true ic = pre ++ vint ib ++ vint ic := rfl
    rw [hp12] at hl12
    have h12 := H12.out
    rw [hp12] at h12
    obtain ⟨p2, hp2⟩ : ∃ z, z = pre ++ vint ib ++ vint ic := ⟨_, rfl⟩
    rw [← hp2] at hl12 h12
    have HL12 := Lib.hid hl12
    have HP2 := Lib.hid hp2
    have H13 := Lib.hid h12
    have hgi := HG.out.below h12.low
    obtain ⟨eva, evc, hev⟩ := hgi.2.2.len
    obtain ⟨cva, cvc, hcv⟩ := bv_form hgi.2.1
    have hq2 := hgi.2.2
    rw [hev] at hq2
    have HRW := Lib.hid (rerow_any eva evc g.ps.length g.ps h12 hq2 rfl (by have := HPS.out; omega))
    unfold BysE at HRW
    rw [HRO.out, if_pos rfl, show eB true = 0 from rfl] at HRW
    have c20 := h12.sw2.cell (x := .slice eva g.ps.length evc) (by rw [← hev]; exact HM18.out.2.2.1)
    have hc19 : mc[19]? = some (.slice cva g.ck.length cvc) := by rw [← hcv]; exact HM18.out.2.1
    have HC19 := Lib.hid hc19
    have HRL := Lib.hid (rowBs_lenM HES.out)
    clear hl12 hp12 hp2 h12 hgi hq2 hev hc19 H12 H11
    (try dsimp only); repeat' (first | go_values | go_skip | go_guarded | go_step | go_upon | go_back)
    refine HRW.out.mono ?_
    rintro r0 w14 ⟨u14, rfl, h14⟩
    obtain ⟨u14a, u14c, rfl⟩ := h14.sl.len
    have hcs := (HG.out.below h14.low).2.1
    rw [hcv] at hcs
    have HT := Lib.hid (rtext_sepn _ _ p2 g.ck w14 h14 h14.sw2.sl hcs (by have := HL12.out; have := HCK.out; omega))
    have c19 := h14.sw3.cell HC19.out
    clear HRW h14 c20 hcs hcv
    (try dsimp only); repeat' (first | go_values | go_skip | go_guarded | go_step | go_upon | go_back)
    refine HT.out.mono ?_
    rintro r0 w15 ⟨u15, rfl, h15⟩
    have HT2 := Lib.hid (rtext_sepn _ _ (p2 ++ vint g.ck.length ++ g.ck) (rowBs (g.ps.map (·.1))) w15 h15 h15.sl h15.sw2.sl (by have h1 := HL12.out; have h2 := HCK.out; have h3 := HRL.out; have h4 := HPS.out; have h5 := vint_len g.ck.length; simp only [List.length_append, List.length_map] at *; omega))
    clear HT h15 c19
    (try dsimp only); repeat' (first | go_values | go_skip | go_guarded | go_step | go_upon | go_back)
    refine HT2.out.mono ?_
    rintro r0 w16 ⟨u16, rfl, h16⟩
    have HB : Hid (p2 ++ vint g.ck.length ++ g.ck ++ vint (rowBs (g.ps.map (·.1))).length ++ rowBs (g.ps.map (·.1)) = bodyB g.x) := Lib.hid (by rw [HI2.out, HP2.out]; simp)
    have H16 := Lib.hid h16
    clear HT2 h16
    have HS9 := Lib.hid (HSL.out _ _ _ _ HB.out H16.out)
    (try dsimp only); repeat' (first | go_values | go_skip | go_guarded | go_step | go_upon | go_back)
    refine HS9.out.mono ?_
    rintro r0 w17 ⟨u17, rfl, h17⟩
    have H17 := Lib.hid h17
    clear HS9 h17
    (try dsimp only); repeat' (first | go_values | go_skip | go_guarded | go_step | go_upon | go_back)
    exact bodyPost_ret (results_tmp2 rfl _ _ _) rfl ⟨_, rfl, H17.out⟩
  · have hE : entB g.x = [] := by unfold entB; rw [show g.x.k = k from HKE.out.symm, if_neg (by rw [k16]; simp), if_neg (by rw [k32]; simp)]; try rfl
    have hR : resB' g.x = [] := by unfold resB'; rw [show g.x.k = k from HKE.out.symm, if_neg (by rw [k64]; simp)]; try rfl
    have hI : imgB' g.x = [] := by unfold imgB'; rw [show g.x.k = k from HKE.out.symm, if_neg (by rw [k128]; simp)]; try rfl
    have HB : Hid (pre = bodyB g.x) := Lib.hid (by rw [HBP.out, hE, hR, hI]; simp)
    clear hE hR hI
    have HE7 := Lib.hid (rhen_any k H6.out)
    rw [k16] at HE7
    (try dsimp only); repeat' (first | go_values | go_skip | go_guarded | go_step | go_upon | go_back)
    refine HE7.out.mono ?_
    rintro r0 w7 ⟨rfl, h7⟩
    have H7 := Lib.hid h7
    clear HE7 h7
    have HE8 := Lib.hid (rhid_any k H7.out)
    rw [k32] at HE8
    (try dsimp only); repeat' (first | go_values | go_skip | go_guarded | go_step | go_upon | go_back)
    refine HE8.out.mono ?_
    rintro r0 w8 ⟨rfl, h8⟩
    have H8 := Lib.hid h8
    clear HE8 h8
    have HE9 := Lib.hid (rhrs_any k w8)
    rw [k64] at HE9
    (try dsimp only); repeat' (first | go_values | go_skip | go_guarded | go_step | go_upon | go_back)
    refine HE9.out.mono ?_
    rintro r0 w9 ⟨rfl, rfl⟩
    clear HE9
    have HE10 := Lib.hid (rhim_any k H8.out)
    rw [k128] at HE10
    (try dsimp only); repeat' (first | go_values | go_skip | go_guarded | go_step | go_upon | go_back)
    refine HE10.out.mono ?_
    rintro r0 w10 ⟨rfl, h10⟩
    have H10 := Lib.hid h10
    clear HE10 h10
    have HS9 := Lib.hid (HSL.out _ _ _ _ HB.out H10.out)
    (try dsimp only); repeat' (first | go_values | go_skip | go_guarded | go_step | go_upon | go_back)
    refine HS9.out.mono ?_
    rintro r0 w11 ⟨u11, rfl, h11⟩
    have H11 := Lib.hid h11
    clear HS9 h11
    (try dsimp only); repeat' (first | go_values | go_skip | go_guarded | go_step | go_upon | go_back)
    exact bodyPost_ret (results_tmp2 rfl _ _ _) rfl ⟨_, rfl, H11.out⟩

end Go.Proofs.YtafkbodmiblbnaaGreatDoor
