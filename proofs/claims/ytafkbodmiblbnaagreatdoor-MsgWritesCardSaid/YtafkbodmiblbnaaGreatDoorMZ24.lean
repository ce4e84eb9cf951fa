/- Package msg, of all messages: CopyImage, Copy. -/
import Derived.Test.YtafkbodmiblbnaaGreatDoorMZ21
import Derived.Test.YtafkbodmiblbnaaGreatDoorMZ23
import Derived.Test.YtafkbodmiblbnaaGreatDoorMZ06
import Derived.Test.YtafkbodmiblbnaaGreatDoorMZ22
import Derived.Test.YtafkbodmiblbnaaGreatDoorMZ14
import Derived.Test.YtafkbodmiblbnaaGreatDoorMZ12
namespace Go.Proofs.YtafkbodmiblbnaaGreatDoor
open Go Go.RowKit
set_option linter.unusedVariables false
set_option linter.unusedSimpArgs false
theorem Sep.onto2 {w0 w w' : World} {A B : Thing} {L : List Thing} (h : Sep w0 L w) (h' : Sep w [A, B] w') : Sep w0 (A :: B :: L) w' :=
  (h.onto1 h'.join).both (h'.loc _ (List.mem_cons_self ..)) (h'.loc _ (List.mem_cons_of_mem _ (List.mem_cons_self ..)))
theorem wr_im (g : MgM) (cu eu : Value) : writeAt (mgC g) 18 [.int .i64 g.ib, cu, eu, .int .i64 g.ic] = mgC { g with cv := cu, ev := eu } := by simp [mgC, writeAt]
theorem mgC_one (g : MgM) (h1 : g.lv.oneCell' = true) (h2 : g.cv.oneCell' = true) (h3 : g.ev.oneCell' = true) : (mgC g).all (·.oneCell') = true := by
  have : ∀ v ∈ (mgC g).toList, v.oneCell' = true := by
    intro v hv
    simp only [mgC, List.mem_cons, List.not_mem_nil, or_false] at hv
    rcases hv with rfl | rfl | rfl | rfl | rfl | rfl | rfl | rfl | rfl | rfl | rfl | rfl | rfl | rfl | rfl | rfl | rfl | rfl | rfl | rfl | rfl | rfl <;> first | rfl | exact h1 | exact h2 | exact h3
  rw [Array.all_eq_true_iff_forall_mem]
  intro v hv
  exact this v (by simpa using hv)
end Go.Proofs.YtafkbodmiblbnaaGreatDoor
/- Package msg: writeRes, writeImage. -/
namespace Go.Proofs.YtafkbodmiblbnaaGreatDoor
open Go Go.RowKit
set_option linter.unusedVariables false
set_option linter.unusedSimpArgs false
theorem vint_int {w0 w : World} {L : List Thing} (v : Value) (l : List UInt8) (n : Int) (h : Sep w0 L w) (hv : Sl w v (bv l)) (h0 : 0 ≤ n) (h1 : n ≤ 10000000000000000) (hl : l.length ≤ 1099511627) :
    Calls Tryz.prog 29 #[v, .int .u64 n] w fun e w' => ∃ v', e = .returned v' ∧ Sep w0 (By v' (l ++ vint n.toNat) :: L) w' := by
  obtain ⟨j, rfl⟩ : ∃ j : Nat, n = j := ⟨n.toNat, by omega⟩
  exact varint_sep v l j w h hv (by unfold U64; omega) (by omega)
set_option maxRecDepth 100000 in
set_option maxHeartbeats 8000000 in
theorem wres_any {w0 w : World} {L : List Thing} {v : Value} (l : List UInt8) (g : MgM) (h : Sep w0 (By v l :: L) w) (hb : resB g.rc g.ra g.rb = true) (hl : l.length ≤ 1000000000) :
    Calls Tryz.prog 32 #[v, .agg (mgC g)] w fun e w' => ∃ u, e = .returned u ∧ Sep w0 (By u (l ++ wresB g.rc g.ra g.rb g.s) :: L) w' := by
  have h1 := h.alloc (.cells (mgC g) 34)
  obtain ⟨b3, hb3⟩ : ∃ z, z = w.heap.size := ⟨_, rfl⟩
  obtain ⟨w1, hw1⟩ : ∃ z, z = w.alloc (.cells (mgC g) 34) := ⟨_, rfl⟩
  rw [← hw1, ← hb3] at h1
  have c14 : w1.cell? ⟨b3, 14, none⟩ = some (.int .i64 g.rc) := h1.cell rfl
  have c15 : w1.cell? ⟨b3, 15, none⟩ = some (.int .i64 g.ra) := h1.cell rfl
  have c16 : w1.cell? ⟨b3, 16, none⟩ = some (.int .i64 g.rb) := h1.cell rfl
  have HR := Lib.hid (bytesRes_ok g.rc g.ra g.rb h1 hb)
  obtain ⟨rc, ra, rb, s, hrc, hra, hrb, hs⟩ : ∃ rc ra rb s, rc = g.rc ∧ ra = g.ra ∧ rb = g.rb ∧ s = g.s := ⟨_, _, _, _, rfl, rfl, rfl, rfl⟩
  have HL := Lib.hid (resBs_len rc ra rb)
  have HLL := Lib.hid hl
  have hc17 : (mgC g)[17]? = some (.bool s) := by rw [hs]; rfl
  rw [← hrc, ← hra, ← hrb] at HR
  rw [← hrc] at c14
  rw [← hra] at c15
  rw [← hrb] at c16
  rw [← hrc, ← hra, ← hrb, ← hs]
  obtain ⟨r, hr⟩ : ∃ r, r = resBs rc ra rb := ⟨_, rfl⟩
  obtain ⟨x, hx⟩ : ∃ x, x = wresB rc ra rb s := ⟨_, rfl⟩
  have HB : Hid (x = vint r.length ++ r ++ [if s then 1 else 0]) := Lib.hid (by rw [hx, hr]; rfl)
  rw [← hr] at HR HL
  rw [← hx]
  obtain ⟨mc, hmc⟩ : ∃ z, z = mgC g := ⟨_, rfl⟩
  rw [← hmc] at hw1 HR hc17 ⊢
  have HC17 := Lib.hid hc17
  clear h h1 hb hl hr hx hs hmc hrc hra hrb hc17
  go_enter Tryz.func32, Tryz.ntmps32
  (try dsimp only); repeat' (first | (with_reducible show wpList _ _ _ (Oper.mk _ (Op.load 28 _) _ _ _ _ :: _) _ _; refine stopP ?_) | go_values | go_skip | go_guarded | go_step | go_upon | go_back)
  unfold StopP
  rw [← hw1, ← hb3]
  clear hw1 hb3
  (try dsimp only); repeat' (first | go_values | go_skip | go_guarded | go_step | go_upon | go_back)
  refine HR.out.mono ?_
  rintro r0 w2 ⟨u1, rfl, h2⟩
  have HT := Lib.hid (text_sep v u1 l r w2 h2 h2.sw3.sl h2.sl (by have := HL.out; have := HLL.out; omega))
  clear HR h2 c14 c15 c16
  (try dsimp only); repeat' (first | go_values | go_skip | go_guarded | go_step | go_upon | go_back)
  refine HT.out.mono ?_
  rintro r0 w3 ⟨u2, rfl, h3⟩
  have c17 : w3.cell? ⟨b3, 17, none⟩ = some (.bool s) := h3.sw3.cell HC17.out
  have H3 : Hid (Sep w0 (By u2 (l ++ vint r.length ++ r) :: L) w3) := Lib.hid (h3.sw4.drop.sw3.drop.sw2.drop)
  have hlr : (l ++ vint r.length ++ r).length ≤ 2000000000 := by
    have := HL.out
    have := HLL.out
    have := vint_len r.length
    simp only [List.length_append]
    omega
  clear HT h3
  cases s with
  | true =>
    have h4 := H3.out.alloc (.cells #[.int .u8 1] 5)
    obtain ⟨v5, w5, hr5, h5, -⟩ := app8 (ty := 29) (xs := l ++ vint r.length ++ r) h4.sw2 (sl_lit1 w3 1 1 rfl 5) (by simp only [List.length_cons, List.length_nil]; omega)
    have HR5 := Lib.hid hr5
    have H5 : Hid (Sep w0 (By v5 (l ++ x) :: L) w5) := Lib.hid (by rw [HB.out, if_pos rfl, ← List.append_assoc, ← List.append_assoc]; exact h5.sw2.drop)
    clear h4 hr5 h5 hlr
    (try dsimp only); repeat' (first | (at_builtin; refine stopP ?_) | go_values | go_skip | go_guarded | go_step | go_upon | go_back)
    unfold StopP
    refine wpList_append_run rfl _ _ _ _ rfl rfl rfl HR5.out ?_
    (try dsimp only); repeat' (first | go_values | go_skip | go_guarded | go_step | go_upon | go_back)
    go_ret
    exact ⟨_, rfl, H5.out⟩
  | false =>
    have h4 := H3.out.alloc (.cells #[.int .u8 0] 5)
    obtain ⟨v5, w5, hr5, h5, -⟩ := app8 (ty := 29) (xs := l ++ vint r.length ++ r) h4.sw2 (sl_lit1 w3 0 0 rfl 5) (by simp only [List.length_cons, List.length_nil]; omega)
    have HR5 := Lib.hid hr5
    have H5 : Hid (Sep w0 (By v5 (l ++ x) :: L) w5) := Lib.hid (by rw [HB.out, if_neg (by simp), ← List.append_assoc, ← List.append_assoc]; exact h5.sw2.drop)
    clear h4 hr5 h5 hlr
    (try dsimp only); repeat' (first | (at_builtin; refine stopP ?_) | go_values | go_skip | go_guarded | go_step | go_upon | go_back)
    unfold StopP
    refine wpList_append_run rfl _ _ _ _ rfl rfl rfl HR5.out ?_
    (try dsimp only); repeat' (first | go_values | go_skip | go_guarded | go_step | go_upon | go_back)
    go_ret
    exact ⟨_, rfl, H5.out⟩
set_option maxRecDepth 100000 in
set_option maxHeartbeats 8000000 in
theorem wimg_any {w0 w : World} {L : List Thing} {v : Value} (l : List UInt8) (ib ic : Int) (ck : List UInt8) (cv ev : Value) (ps : List (EnM × Value)) (h : Sep w0 (By v l :: L) w) (hcv : ∀ wx, Sep w0 L wx → Sl wx cv (bv ck)) (hev : ∀ wx, Sep w0 L wx → EnS wx ev ps) (hk : ∀ wx, Sep w0 L wx → KindsAt wx)
    (hi : 0 ≤ ib ∧ ib ≤ 9007199254740991) (hc : ib ≤ ic ∧ ic ≤ ib + 32) (hck : ck.length ≤ 16384) (hps : ps.length ≤ 32) (hok : rowOk ps = true) (hl : l.length ≤ 1000000) :
    Calls Tryz.prog 33 #[v, .agg (imgC ib cv ev ic)] w fun e w' => ∃ u, e = .returned u ∧ Sep w0 (By u (l ++ imgBs ib ic ck (ps.map (·.1))) :: L) w' := by
  have h1 := h.alloc (.cells (imgC ib cv ev ic) 32)
  obtain ⟨ca, cc, rfl⟩ := bv_form (hcv w h.drop)
  obtain ⟨ea, ec, rfl⟩ := (hev w h.drop).len
  obtain ⟨b3, hb3⟩ : ∃ z, z = w.heap.size := ⟨_, rfl⟩
  obtain ⟨w1, hw1⟩ : ∃ z, z = w.alloc (.cells (imgC ib (.slice ca ck.length cc) (.slice ea ps.length ec) ic) 32) := ⟨_, rfl⟩
  rw [← hw1, ← hb3] at h1
  unfold imgC at *
  have g0 : w1.drew.cell? ⟨b3, 0, none⟩ = some (.int .i64 ib) ∧ w1.drew.cell? ⟨b3, 3, none⟩ = some (.int .i64 ic) := ⟨h1.cell rfl, h1.cell rfl⟩
  have G0 := Lib.hid g0
  have HI : Hid ((0 ≤ ib ∧ ib ≤ 10000000000000000) ∧ 0 ≤ ic ∧ ic ≤ 10000000000000000) := Lib.hid (by omega)
  have HLL := Lib.hid hl
  have HP1 := Lib.hid (vint_int v l ib h1.drew h1.drew.sw2.sl (by omega) (by omega) (by omega))
  have e0 : IntKind.u64.wrap ib = ib := by rw [IntKind.wrap_u64]; omega
  have e1 : IntKind.u64.wrap ic = ic := by rw [IntKind.wrap_u64]; omega
  have HCV := Lib.hid hcv
  have HEV := Lib.hid hev
  have HK := Lib.hid hk
  have HOK := Lib.hid hok
  have HPS := Lib.hid hps
  have HCK := Lib.hid hck
  obtain ⟨n, hn⟩ : ∃ n, n = ps.length := ⟨_, rfl⟩
  have HN := Lib.hid hn
  obtain ⟨m, hm⟩ : ∃ m, m = ck.length := ⟨_, rfl⟩
  have HM := Lib.hid hm
  rw [← hn] at hw1 HEV HP1 ⊢
  rw [← hm] at hw1 HCV HP1 ⊢
  obtain ⟨x, hx⟩ : ∃ x, x = imgBs ib ic ck (ps.map (·.1)) := ⟨_, rfl⟩
  have HX := Lib.hid hx
  rw [← hx]
  clear h h1 hi hc hck hps hok hl hcv hev hk g0 hn hm hx
  go_enter Tryz.func33, Tryz.ntmps33
  (try dsimp only); repeat' (first | go_values | go_skip | go_guarded | go_step | go_upon | go_back)
  (try rw [← hw1])
  (try rw [← hb3])
  clear hw1 hb3
  refine wp_region_G (fun w' => w'.cell? ⟨b3, 0, none⟩ = some (.int .i64 ib) ∧ w'.cell? ⟨b3, 3, none⟩ = some (.int .i64 ic)) [] (by kernel_rfl) G0.out (fun hS => ?_)
  try dsimp only at hS
  refine wpAnyG_take' (i := 0) (v := ?v0_1wi) rfl (by kernel_rfl) (by kernel_rfl) (by kernel_rfl) (by kernel_rfl) (fun _ _ _ h => h) (Or.inl ⟨by rfl, ?hy0_1wi⟩) hS ?rest0_1wi
  case hy0_1wi => intro w hSw; (try dsimp only at hSw); go_simp; (try with_reducible rfl)
  case rest0_1wi =>
  try simp only [nz0, nz1, nz2, Act.put, nz3, nz4, nz5]
  refine wpAnyG_take' (i := 1) (v := ?v1_2wi) rfl (by kernel_rfl) (by kernel_rfl) (by kernel_rfl) (by kernel_rfl) (fun _ _ _ h => h) (Or.inl ⟨by rfl, ?hy1_2wi⟩) hS ?rest1_2wi
  case hy1_2wi => intro w hSw; (try dsimp only at hSw); go_simp; (try with_reducible rfl)
  case rest1_2wi =>
  try simp only [nz0, nz1, nz2, Act.put, nz3, nz4, nz5]
  refine wpAnyG_take' (i := 2) (v := ?v2_3wi) rfl (by kernel_rfl) (by kernel_rfl) (by kernel_rfl) (by kernel_rfl) (fun _ _ _ h => h) (Or.inl ⟨by rfl, ?hy2_3wi⟩) hS ?rest2_3wi
  case hy2_3wi => intro w hSw; (try dsimp only at hSw); go_simp; (try with_reducible rfl)
  case rest2_3wi =>
  try simp only [nz0, nz1, nz2, Act.put, nz3, nz4, nz5]
  refine wpAnyG_take' (i := 3) (v := ?v3_4wi) rfl (by kernel_rfl) (by kernel_rfl) (by kernel_rfl) (by kernel_rfl) (fun _ _ _ h => h) (Or.inl ⟨by rfl, ?hy3_4wi⟩) hS ?rest3_4wi
  case hy3_4wi => intro w hSw; (try dsimp only at hSw); go_simp; (try with_reducible rfl)
  case rest3_4wi =>
  try simp only [nz0, nz1, nz2, Act.put, nz3, nz4, nz5]
  refine wpAnyG_take' (i := 5) (v := ?v5_5wi) rfl (by kernel_rfl) (by kernel_rfl) (by kernel_rfl) (by kernel_rfl) (fun _ _ _ h => h) (Or.inl ⟨by rfl, ?hy5_5wi⟩) hS ?rest5_5wi
  case hy5_5wi => intro w hSw; (try dsimp only at hSw); go_simp; (try with_reducible rfl)
  case rest5_5wi =>
  try simp only [nz0, nz1, nz2, Act.put, nz3, nz4, nz5]
  refine wpAnyG_take' (i := 6) (v := ?v6_6wi) rfl (by kernel_rfl) (by kernel_rfl) (by kernel_rfl) (by kernel_rfl) (fun _ _ _ h => h) (Or.inl ⟨by rfl, ?hy6_6wi⟩) hS ?rest6_6wi
  case hy6_6wi => intro w hSw; (try dsimp only at hSw); go_simp; (try with_reducible rfl)
  case rest6_6wi =>
  try simp only [nz0, nz1, nz2, Act.put, nz3, nz4, nz5]
  refine wpAnyG_take' (i := 7) (v := ?v7_7wi) rfl (by kernel_rfl) (by kernel_rfl) (by kernel_rfl) (by kernel_rfl) (fun _ _ _ h => h) (Or.inl ⟨by rfl, ?hy7_7wi⟩) hS ?rest7_7wi
  case hy7_7wi => intro w hSw; (try dsimp only at hSw); go_simp; (try with_reducible rfl)
  case rest7_7wi =>
  try simp only [nz0, nz1, nz2, Act.put, nz3, nz4, nz5]
  refine wpAnyG_one (i := 4) (by kernel_rfl) rfl (fun K hK => ?_)
  go_simp
  refine HP1.out.mono ?_
  rintro r0 w2 ⟨u1, rfl, h2⟩
  have c20 := h2.sw2.cell (o := 0) (x := .int .i64 ib) rfl
  have c23 := h2.sw2.cell (o := 3) (x := .int .i64 ic) rfl
  have HP2 := Lib.hid (vint_int u1 _ ic h2 h2.sl HI.out.2.1 HI.out.2.2 (by have := vint_len ib.toNat; have := HLL.out; rw [List.length_append]; omega))
  have H2 := Lib.hid h2
  clear HP1 h2
  refine hK.out _ _ (fun _ => ?hS8wi) ?rest8wi
  case hS8wi => exact ⟨c20, c23⟩
  clear K hK
  try simp only [nz0, nz1, nz2, Act.put, nz3, nz4, nz5]
  refine wpAnyG_one (i := 8) (by kernel_rfl) rfl (fun K hK => ?_)
  go_simp
  refine HP2.out.mono ?_
  rintro r0 w3 ⟨u2, rfl, h3⟩
  have c30 := h3.sw3.cell (o := 0) (x := .int .i64 ib) rfl
  have c33 := h3.sw3.cell (o := 3) (x := .int .i64 ic) rfl
  have H3 := Lib.hid (h3.sw3.sw3)
  clear HP2 H2 h3
  refine hK.out _ _ (fun _ => ?hS9wi) ?rest9wi
  case hS9wi => exact ⟨c30, c33⟩
  clear K hK
  try simp only [nz0, nz1, nz2, Act.put, nz3, nz4, nz5]
  refine wpAnyG_one (i := 9) (by kernel_rfl) rfl (fun K hK => ?_)
  go_simp
  refine hK.out _ _ (fun _ => ?hS10wi) ?rest10wi
  case hS10wi => exact ⟨c30, c33⟩
  clear K hK
  try simp only [nz0, nz1, nz2, Act.put, nz3, nz4, nz5]
  refine wpAnyG_done (by kernel_rfl) ?_ _
  try simp only [nz0, nz1, nz2, Act.put, nz3, nz4, nz5]
  have c32 : w3.cell? ⟨b3, 2, none⟩ = some (.slice ea n ec) := H3.out.sw2.cell rfl
  have hl3 := H3.out.drop.drop.drop.drop
  have hrw := row_any ea ec n ps H3.out (HEV.out w3 hl3) (HK.out w3 hl3) HN.out.symm (by have := HPS.out; have := HN.out; omega)
  rw [HOK.out] at hrw
  have HRW := Lib.hid hrw
  clear hrw hl3 c20 c23 c30 c33
  (try dsimp only); repeat' (first | go_values | go_skip | go_guarded | go_step | go_upon | go_back)
  refine HRW.out.mono ?_
  rintro r0 w4 ⟨u3, rfl, h4⟩
  rw [if_pos rfl] at h4
  have c41 : w4.cell? ⟨b3, 1, none⟩ = some (.slice ca m cc) := h4.sw3.cell rfl
  have hl4 : Sep w0 L w4 := h4.drop.drop.drop.drop.drop
  have hlv : (l ++ vint ib.toNat ++ vint ic.toNat).length ≤ 2000000 := by
    have := HLL.out
    have := vint_len ib.toNat
    have := vint_len ic.toNat
    simp only [List.length_append]
    omega
  have HT := Lib.hid (text_sep u2 (.slice ca m cc) _ ck w4 h4 h4.sw4.sl (HCV.out w4 hl4) (by have := HCK.out; omega))
  have HL4 := Lib.hid hlv
  clear HRW h4 hl4 hlv H3 c32
  (try rw [show eB true = 0 from rfl])
  (try dsimp only); repeat' (first | go_values | go_skip | go_guarded | go_step | go_upon | go_back)
  refine HT.out.mono ?_
  rintro r0 w5 ⟨u4, rfl, h5⟩
  have hrl := rowBs_lenM (es := ps.map (·.1)) (by intro x hx; obtain ⟨q, hq, rfl⟩ := List.mem_map.1 hx; exact List.all_eq_true.1 HOK.out q hq)
  have HT2 := Lib.hid (text_sep u4 u3 _ (rowBs (ps.map (·.1))) w5 h5 h5.sl h5.sw2.sl (by have := HCK.out; have := HL4.out; have := vint_len ck.length; have := HPS.out; rw [List.length_map] at hrl; simp only [List.length_append] at *; omega))
  clear HT h5 hrl
  (try dsimp only); repeat' (first | go_values | go_skip | go_guarded | go_step | go_upon | go_back)
  refine HT2.out.mono ?_
  rintro r0 w6 ⟨u5, rfl, h6⟩
  have HF : Hid (Sep w0 (By u5 (l ++ x) :: L) w6) := Lib.hid (by
    have e : l ++ x = l ++ vint ib.toNat ++ vint ic.toNat ++ vint ck.length ++ ck ++ vint (rowBs (ps.map (·.1))).length ++ rowBs (ps.map (·.1)) := by
      rw [HX.out]; unfold imgBs; simp only [List.append_assoc]
    rw [e]
    exact h6.sw2.drop.sw2.drop.sw2.drop.sw2.drop.sw2.drop.sw2.drop)
  clear HT2 h6
  (try dsimp only); repeat' (first | go_values | go_skip | go_guarded | go_step | go_upon | go_back)
  go_ret
  exact ⟨_, rfl, HF.out⟩
end Go.Proofs.YtafkbodmiblbnaaGreatDoor
/- Package sum: crcStep, crcOf. -/
namespace Go.Proofs.YtafkbodmiblbnaaGreatDoor
open Go Go.RowKit
set_option linter.unusedVariables false
set_option linter.unusedSimpArgs false
theorem slB {w : World} {v : Value} {l : List UInt8} (h : Sl w v (bv l)) : ∃ a c, v = .slice a l.length c := by
  obtain ⟨a, c, e⟩ := h.len
  exact ⟨a, c, by rw [e, bv_length]⟩
theorem sl_at {w : World} {a : Option Addr} {n c : Nat} {xs : List Value} (h : Sl w (.slice a n c) xs) (hn : 0 < n) : ∃ b off, a = some ⟨b, off, none⟩ ∧ n = xs.length ∧ ∀ j u, xs[j]? = some u → w.cell? ⟨b, off + j, none⟩ = some u := by
  rcases h with (⟨h1, h2⟩ | ⟨b, off, cap, h1, h2, h3, h4, h5⟩) | ⟨x, c', h1, h2⟩
  · simp only [Value.slice.injEq] at h1; omega
  · simp only [Value.slice.injEq] at h1
    exact ⟨b, off, h1.1, h1.2.1, h5⟩
  · simp only [Value.slice.injEq] at h1; omega
theorem xor_u32 (a b : Nat) (ha : a < 4294967296) (hb : b < 4294967296) : bits .xor .u32 (a : Int) (b : Int) = ((a ^^^ b : Nat) : Int) := by
  have hx : a ^^^ b < 2 ^ 32 := Nat.xor_lt_two_pow (by omega) (by omega)
  have h1 : (BitVec.ofInt 32 (a : Int)).toNat = a := by
    rw [BitVec.ofInt_natCast, BitVec.toNat_ofNat]; exact Nat.mod_eq_of_lt (by omega)
  have h2 : (BitVec.ofInt 32 (b : Int)).toNat = b := by
    rw [BitVec.ofInt_natCast, BitVec.toNat_ofNat]; exact Nat.mod_eq_of_lt (by omega)
  show IntKind.u32.wrap ((BitVec.ofInt 32 (a : Int) ^^^ BitVec.ofInt 32 (b : Int)).toNat : Int) = _
  rw [BitVec.toNat_xor, h1, h2]
  simp [IntKind.wrap, IntKind.bits, IntKind.signed]
  omega
theorem and1_u32 (a : Nat) (ha : a < 4294967296) : bits .and .u32 (a : Int) 1 = ((a % 2 : Nat) : Int) := by
  have h1 : (BitVec.ofInt 32 (a : Int)).toNat = a := by
    rw [BitVec.ofInt_natCast, BitVec.toNat_ofNat]; exact Nat.mod_eq_of_lt (by omega)
  have h2 : (BitVec.ofInt 32 1).toNat = 1 := by decide
  show IntKind.u32.wrap ((BitVec.ofInt 32 (a : Int) &&& BitVec.ofInt 32 1).toNat : Int) = _
  rw [BitVec.toNat_and, h1, h2, Nat.and_one_is_mod]
  simp [IntKind.wrap, IntKind.bits, IntKind.signed]
  omega
def crcB (x : Nat) : Nat := x / 2 ^^^ x % 2 * 3988292384
def crcN : Nat → Nat → Nat
  | 0, x => x
  | k + 1, x => crcN k (crcB x)
theorem crcB_lt (x : Nat) (h : x < 4294967296) : crcB x < 4294967296 := by
  unfold crcB
  exact Nat.xor_lt_two_pow (n := 32) (by omega) (by omega)
theorem crcN_lt : ∀ k x, x < 4294967296 → crcN k x < 4294967296
  | 0, x, h => h
  | k + 1, x, h => crcN_lt k _ (crcB_lt x h)
theorem crcB_eq (x : Nat) (hx : x < 4294967296) : bits BinOp.xor IntKind.u32 ((x : Int) / 2) (bits BinOp.and IntKind.u32 (x : Int) 1 * 3988292384 % 4294967296) = (crcB x : Nat) := by
  rw [and1_u32 x hx, show ((x : Int) / 2) = ((x / 2 : Nat) : Int) by omega, show (((x % 2 : Nat) : Int) * 3988292384 % 4294967296) = ((x % 2 * 3988292384 : Nat) : Int) by omega, xor_u32 _ _ (by omega) (by omega)]
  rfl
theorem crcStep_any (n : Nat) (w : World) (hn : n < 4294967296) : Calls Tryz.prog 147 #[.int .u32 n] w fun e w' => e = .returned (.int .u32 (crcN 8 n : Nat)) ∧ w = w' := by
  have Hn := Lib.hid hn
  clear hn
  go_enter Tryz.func147, Tryz.ntmps147
  go_wp2
  go_loop [0, 4] (fun c i => ∃ (j x : Nat), j ≤ 8 ∧ i = .int .i64 j ∧ c = .int .u32 x ∧ x < 4294967296 ∧ crcN (8 - j) x = crcN 8 n) (fun _ i => 8 - (intOf i).toNat)
  case atStart => exact ⟨0, n, Nat.zero_le _, rfl, rfl, Hn.out, rfl⟩
  case round =>
    obtain ⟨j, x, hj, rfl, rfl, hx, hrv⟩ := hrel
    have HR := Lib.hid hrv
    clear hrv
    by_cases hlt : j < 8
    · go_wp2
      go_round
      case rel => exact ⟨j + 1, crcB x, by omega, by go_num, by rw [crcB_eq x hx], crcB_lt x hx, by
        rw [← HR.out, show 8 - j = (8 - (j + 1)) + 1 by omega]; rfl⟩
      case measure => simp [intOf]; omega
    · have H2 : crcN (8 - j) x = x := by rw [show 8 - j = 0 by omega]; rfl
      have HR2 := HR.out
      rw [H2] at HR2
      have H3 := Lib.hid HR2
      clear H2 HR2 HR
      go_wp2
      go_ret
      exact ⟨by rw [← H3.out]; rfl, rfl⟩
def crcS (c : Nat) (b : UInt8) : Nat := crcN 8 (c ^^^ b.toNat)
def crcL (l : List UInt8) : Nat := 4294967295 - l.foldl crcS 4294967295
theorem crcS_lt (c : Nat) (b : UInt8) (h : c < 4294967296) : crcS c b < 4294967296 := crcN_lt _ _ (Nat.xor_lt_two_pow (n := 32) (by omega) (by have := b.toNat_lt; omega))
theorem crcL_lt (l : List UInt8) : crcL l < 4294967296 := by unfold crcL; omega
theorem crcF_succ (l : List UInt8) (k : Nat) (h : k < l.length) : (l.take (k + 1)).foldl crcS 4294967295 = crcS ((l.take k).foldl crcS 4294967295) l[k] := by
  rw [List.take_succ_eq_append_getElem h, List.foldl_append]; rfl
theorem not_u32 (x : Nat) (hx : x < 4294967296) : bits BinOp.xor IntKind.u32 (if IntKind.u32.signed = true then -1 else IntKind.u32.max) (x : Int) = ((4294967295 - x : Nat) : Int) := by
  have h1 : (BitVec.ofNat 32 x ^^^ BitVec.allOnes 32).toNat = (~~~(BitVec.ofNat 32 x)).toNat := by rw [BitVec.xor_allOnes]
  rw [BitVec.toNat_xor, BitVec.toNat_not, BitVec.toNat_allOnes, BitVec.toNat_ofNat, Nat.mod_eq_of_lt (by omega)] at h1
  have h2 : x ^^^ 4294967295 = 4294967295 - x := h1
  rw [show (if IntKind.u32.signed = true then (-1 : Int) else IntKind.u32.max) = ((4294967295 : Nat) : Int) by decide, xor_u32 4294967295 x (by omega) hx, Nat.xor_comm, h2]
set_option maxHeartbeats 1000000 in
theorem crcOf_any (v : Value) (l : List UInt8) (w : World) (h : Sl w v (bv l)) (hlen : l.length ≤ 1099511627776) : Calls Tryz.prog 116 #[v] w fun e w' => e = .returned (.int .u32 (crcL l : Nat)) ∧ w = w' := by
  obtain ⟨a0, c0, rfl⟩ := slB h
  obtain ⟨n, hn⟩ : ∃ n, n = l.length := ⟨_, rfl⟩
  rw [← hn] at h hlen ⊢
  have n0 : (0 : Int) ≤ (n : Int) := by omega
  have H := Lib.hid h
  have HN := Lib.hid hn
  clear h hn
  go_enter Tryz.func116, Tryz.ntmps116
  (try dsimp only); repeat' (first | go_values | go_skip | go_guarded | go_step | go_upon | go_back)
  go_loop [3, 8] (fun c i => ∃ (j x : Nat), j ≤ n ∧ i = .int .i64 j ∧ c = .int .u32 x ∧ x < 4294967296 ∧ x = (l.take j).foldl crcS 4294967295) (fun _ i => n - (intOf i).toNat)
  case atStart => exact ⟨0, 4294967295, Nat.zero_le _, rfl, rfl, by omega, rfl⟩
  case round =>
    obtain ⟨j, x, hj, rfl, rfl, hx, hrv⟩ := hrel
    have HR := Lib.hid hrv
    have HX := Lib.hid hx
    clear hrv hx
    by_cases hlt : j < n
    · have d0 : decide (j < n) = true := decide_eq_true hlt
      have j0 : (0 : Int) ≤ (j : Int) := by omega
      have j1 : (j : Int) < (n : Int) := by omega
      obtain ⟨b, off, ha, -, hc⟩ := sl_at H.out (by omega)
      subst ha
      have hjl : j < l.length := by rw [← HN.out]; exact hlt
      have e0 : w.cell? ⟨b, off + j, none⟩ = some (.int .u8 (l[j]'hjl).toNat) := hc j _ (bv_get l j hjl)
      have HT := Lib.hid (crcStep_any (x ^^^ (l[j]'hjl).toNat) w (Nat.xor_lt_two_pow (n := 32) (by have := HX.out; omega) (by have := (l[j]'hjl).toNat_lt; omega)))
      have HZ := Lib.hid (xor_u32 x (l[j]'hjl).toNat HX.out (by have := (l[j]'hjl).toNat_lt; omega))
      have HS := Lib.hid (crcF_succ l j hjl)
      have HB := Lib.hid (show (crcS x (l[j]'hjl)) < 4294967296 from crcS_lt _ _ HX.out)
      have HC : Hid (crcN 8 (x ^^^ (l[j]'hjl).toNat) = crcS x (l[j]'hjl)) := Lib.hid rfl
      have HM : Hid (((l[j]'hjl).toNat : Int) % 4294967296 = (l[j]'hjl).toNat) := Lib.hid (by have := (l[j]'hjl).toNat_lt; omega)
      obtain ⟨y, hy⟩ : ∃ y, y = l[j]'hjl := ⟨_, rfl⟩
      rw [← hy] at e0 HT HZ HS HB HC HM
      clear hc hy
      (try dsimp only); repeat' (first | go_values | go_skip | go_guarded | go_step | go_upon | go_back)
      (try rw [HM.out])
      rw [HZ.out]
      refine HT.out.mono ?_
      rintro r0 w1 ⟨rfl, rfl⟩
      rw [HC.out]
      clear HT
      (try dsimp only); repeat' (first | go_values | go_skip | go_guarded | go_step | go_upon | go_back)
      go_round
      case rel => exact ⟨j + 1, crcS x y, by omega, by go_num, rfl, HB.out, by rw [HS.out, ← HR.out]⟩
      case measure => simp [intOf]; omega
    · have hjn : j = n := by omega
      subst hjn
      have d0 : decide (j < j) = false := decide_eq_false (by omega)
      have HE := Lib.hid (not_u32 x HX.out)
      have HF : Hid (crcL l = 4294967295 - x) := Lib.hid (by rw [HR.out, HN.out, List.take_length]; rfl)
      (try dsimp only); repeat' (first | go_values | go_skip | go_guarded | go_step | go_upon | go_back)
      go_ret
      exact ⟨by rw [HF.out, ← HE.out]; rfl, rfl⟩
end Go.Proofs.YtafkbodmiblbnaaGreatDoor
