/- Package msg: Bytes. -/
import Derived.Test.YtafkbodmiblbnaaGreatDoorMZ24
import Derived.Test.YtafkbodmiblbnaaGreatDoorMZ25
import Derived.Test.YtafkbodmiblbnaaGreatDoorMZ14
namespace Go.Proofs.YtafkbodmiblbnaaGreatDoor
open Go Go.RowKit
set_option linter.unusedVariables false
set_option linter.unusedSimpArgs false
theorem byte3 {k f t : Int} (h0 : 0 ≤ k ∧ k ≤ 255) (h1 : 0 ≤ f ∧ f ≤ 255) (h2 : 0 ≤ t ∧ t ≤ 255) : #[Value.int .u8 k, .int .u8 f, .int .u8 t].toList = bv [UInt8.ofNat k.toNat, UInt8.ofNat f.toNat, UInt8.ofNat t.toNat] := by
  obtain ⟨i, rfl⟩ : ∃ i : Nat, k = i := ⟨k.toNat, by omega⟩
  obtain ⟨j, rfl⟩ : ∃ j : Nat, f = j := ⟨f.toNat, by omega⟩
  obtain ⟨n, rfl⟩ : ∃ n : Nat, t = n := ⟨t.toNat, by omega⟩
  simp [bv, UInt8.toNat_ofNat']
  omega
theorem idx4_0 (a b c d : Int) (w : World) : (Instr.index 53 (.agg #[.int .i64 a, .int .i64 b, .int .i64 c, .int .i64 d]) (.int .i64 0)).run Tryz.prog w = .ok (.int .i64 a) w := by
  kernel_rfl
theorem idx4_1 (a b c d : Int) (w : World) : (Instr.index 53 (.agg #[.int .i64 a, .int .i64 b, .int .i64 c, .int .i64 d]) (.int .i64 1)).run Tryz.prog w = .ok (.int .i64 b) w := by
  kernel_rfl
theorem idx4_2 (a b c d : Int) (w : World) : (Instr.index 53 (.agg #[.int .i64 a, .int .i64 b, .int .i64 c, .int .i64 d]) (.int .i64 2)).run Tryz.prog w = .ok (.int .i64 c) w := by
  kernel_rfl
theorem idx4_3 (a b c d : Int) (w : World) : (Instr.index 53 (.agg #[.int .i64 a, .int .i64 b, .int .i64 c, .int .i64 d]) (.int .i64 3)).run Tryz.prog w = .ok (.int .i64 d) w := by
  kernel_rfl
theorem bit_t {has i : Int} (h : bit has i = true) : (bits BinOp.and IntKind.i64 has i == 0) = false := by
  rcases bit_cases has i with ⟨-, h2⟩ | ⟨h1, -⟩
  · exact h2
  · rw [h1] at h; exact absurd h (by simp)
theorem bit_f {has i : Int} (h : bit has i = false) : (bits BinOp.and IntKind.i64 has i == 0) = true := by
  rcases bit_cases has i with ⟨h1, -⟩ | ⟨-, h2⟩
  · rw [h1] at h; exact absurd h (by simp)
  · exact h2
theorem byte1v {k : Int} (h0 : 0 ≤ k) (h9 : k ≤ 255) : #[Value.int .u8 k].toList = bv [UInt8.ofNat k.toNat] := by
  obtain ⟨j, rfl⟩ : ∃ j : Nat, k = j := ⟨k.toNat, by omega⟩
  simp [bv, UInt8.toNat_ofNat']
  omega
theorem mbytes_bad {w0 w : World} {L : List Thing} (g : MgM) (h : Sep w0 L w) (hg : ∀ wx, Sep w0 L wx → GmS wx g) (hk : ∀ wx, Sep w0 L wx → KindsAt wx ∧ MKindsAt wx) (hl : g.ck.length ≤ 1000000000) (hx : g.ps.length ≤ 1000000) (hc : chkB g = false) :
    Calls Tryz.prog 6 #[.agg (mgC g)] w fun e w' => e = .returned (.tuple #[.slice none 0 0, .int .i64 2]) ∧ Sep w0 L w' := by
  have h1 := h.alloc (.cells (mgC g) 34)
  obtain ⟨b1, hb1⟩ : ∃ z, z = w.heap.size := ⟨_, rfl⟩
  obtain ⟨w1, hw1⟩ : ∃ z, z = w.alloc (.cells (mgC g) 34) := ⟨_, rfl⟩
  rw [← hw1, ← hb1] at h1
  have HL := Lib.hid (h1.loadW 34 Tryz.underlying34 rfl (by kernel_rfl))
  have hck := gcheck_w (w := w1) g (hg w1 h1.drop) (hk w1 h1.drop).1 (hk w1 h1.drop).2 hl hx
  rw [hc] at hck
  have HC := Lib.hid hck
  have H1 := Lib.hid h1.drop
  obtain ⟨mc, hmc⟩ : ∃ z, z = mgC g := ⟨_, rfl⟩
  rw [← hmc] at HL HC hw1 ⊢
  clear h h1 hg hk hl hx hc hck hmc
  go_enter Tryz.func6, Tryz.ntmps6
  (try dsimp only); repeat' (first | (with_reducible show wpList _ _ _ (Oper.mk _ (Op.load 34 _) _ _ _ _ :: _) _ _; refine stopP ?_) | go_values | go_skip | go_guarded | go_step | go_upon | go_back)
  unfold StopP
  rw [← hw1, ← hb1]
  have hq_ := HL.out
  refine wpList_load_run rfl 34 _ rfl _ _ rfl hq_ ?_
  clear hq_ hw1 hb1 HL
  (try dsimp only); repeat' (first | go_values | go_skip | go_guarded | go_step | go_upon | go_back)
  refine HC.out.mono ?_
  rintro r0 w2 ⟨rfl, h2⟩
  have H2 := Lib.hid (H1.out.below h2.low)
  clear HC h2
  try rw [if_neg (by simp)]
  (try dsimp only); repeat' (first | go_values | go_skip | go_guarded | go_step | go_upon | go_back)
  exact bodyPost_ret (results_tmp2 rfl _ _ _) rfl ⟨rfl, H2.out⟩
set_option maxRecDepth 100000 in
set_option maxHeartbeats 32000000 in
theorem mbytes_ok {w0 w : World} {L : List Thing} (g : MgM) (h : Sep w0 L w) (hg : ∀ wx, Sep w0 L wx → GmS wx g) (hk : ∀ wx, Sep w0 L wx → KindsAt wx ∧ MKindsAt wx) (hl : g.ck.length ≤ 1000000000) (hx : g.ps.length ≤ 1000000) (hc : chkB g = true) :
    Calls Tryz.prog 6 #[.agg (mgC g)] w fun e w' => ∃ u, e = .returned (.tuple #[u, .int .i64 0]) ∧ Sep w0 (By u (sealL (bodyB g.x)) :: L) w' := by
  have h1 := h.alloc (.cells (mgC g) 34)
  obtain ⟨b1, hb1⟩ : ∃ z, z = w.heap.size := ⟨_, rfl⟩
  obtain ⟨w1, hw1⟩ : ∃ z, z = w.alloc (.cells (mgC g) 34) := ⟨_, rfl⟩
  rw [← hw1, ← hb1] at h1
  have HL := Lib.hid (h1.loadW 34 Tryz.underlying34 rfl (by kernel_rfl))
  have hck := gcheck_w (w := w1) g (hg w1 h1.drop) (hk w1 h1.drop).1 (hk w1 h1.drop).2 hl hx
  rw [hc] at hck
  have HC := Lib.hid hck
  have HG := Lib.hid hg
  have HK := Lib.hid hk
  have hbl := body_len hc
  obtain ⟨p0, p1, p2, p3, p4, p5, p6, n0, n1, n2, n3, pe, pr, pi⟩ := chk_parts hc
  have hcs := has_cases g.k
  have HX : Hid (g.x = g.x) := Lib.hid rfl
  obtain ⟨has, hhas⟩ : ∃ z, z = mfieldsOf g.k := ⟨_, rfl⟩
  have hbd : bodyB g.x = hdBs g.x ++ (numsB has g.x 4 ++ (entB g.x ++ (resB' g.x ++ imgB' g.x))) := by rw [hhas]; rfl
  have hentX : entB g.x = if bit has 16 then rowTx g.en else if bit has 32 then [UInt8.ofNat g.en.c.toNat] ++ vint g.en.m.toNat else [] := by rw [hhas]; rfl
  have hresX : resB' g.x = if bit has 64 then wresB g.rc g.ra g.rb g.s else [] := by rw [hhas]; rfl
  have himgX : imgB' g.x = if bit has 128 then imgBs g.ib g.ic g.ck (g.ps.map (·.1)) else [] := by rw [hhas]; rfl
  rw [← hhas] at p0 n0 n1 n2 n3 pe pr pi hcs
  have hhdX : hdBs g.x = [UInt8.ofNat g.k.toNat, UInt8.ofNat g.f.toNat, UInt8.ofNat g.t.toNat] := rfl
  have hF := mfields_any g.k
  have HPE := Lib.hid pe
  have HPR := Lib.hid pr
  have HPI := Lib.hid pi
  have hnx : numAt g.x 0 = g.v ∧ numAt g.x 1 = g.o ∧ numAt g.x 2 = g.cm ∧ numAt g.x 3 = g.la := ⟨rfl, rfl, rfl, rfl⟩
  have HMS : Hid ((mgC g).size = 22) := Lib.hid rfl
  -- the cells
  have HM0 : Hid ((mgC g)[0]? = some (.int .i64 g.k)) := Lib.hid rfl
  have HM1 : Hid ((mgC g)[1]? = some (.int .i64 g.f)) := Lib.hid rfl
  have HM2 : Hid ((mgC g)[2]? = some (.int .i64 g.t)) := Lib.hid rfl
  have HM3 : Hid ((mgC g)[3]? = some (.int .i64 g.v) ∧ (mgC g)[4]? = some (.int .i64 g.o) ∧ (mgC g)[5]? = some (.int .i64 g.cm) ∧ (mgC g)[6]? = some (.int .i64 g.la)) := Lib.hid ⟨rfl, rfl, rfl, rfl⟩
  have HM7 : Hid ((mgC g)[7]? = some (.int .i64 g.en.c) ∧ (mgC g)[8]? = some (.int .i64 g.en.m) ∧ (mgC g)[9]? = some (.int .i64 g.en.p.k) ∧ (mgC g)[10]? = some (.string g.en.p.s.1) ∧ (mgC g)[11]? = some (.int .i64 g.en.p.o) ∧ (mgC g)[12]? = some (.int .i64 g.en.p.n) ∧ (mgC g)[13]? = some g.lv) := Lib.hid ⟨rfl, rfl, rfl, rfl, rfl, rfl, rfl⟩
  have HM18 : Hid ((mgC g)[18]? = some (.int .i64 g.ib) ∧ (mgC g)[19]? = some g.cv ∧ (mgC g)[20]? = some g.ev ∧ (mgC g)[21]? = some (.int .i64 g.ic)) := Lib.hid ⟨rfl, rfl, rfl, rfl⟩
  have HWR : Hid (∀ {w : World} {M : List Thing} {v : Value} (l : List UInt8), Sep w0 (By v l :: M) w → resB g.rc g.ra g.rb = true → l.length ≤ 1000000000 → Calls Tryz.prog 32 #[v, .agg (mgC g)] w fun e w' => ∃ u, e = .returned u ∧ Sep w0 (By u (l ++ wresB g.rc g.ra g.rb g.s) :: M) w') := Lib.hid fun l hh hb hl => wres_any l g hh hb hl
  have HBD := Lib.hid hbd
  have HBL := Lib.hid hbl
  have HEX := Lib.hid hentX
  have HRX := Lib.hid hresX
  have HIX := Lib.hid himgX
  have HCS := Lib.hid (hcs.resolve_left p0).2.2.2
  obtain ⟨X, hX⟩ : ∃ X, X = g.x := ⟨_, rfl⟩
  rw [← hX] at HBD HBL HEX HRX HIX hnx hhdX ⊢
  obtain ⟨bd, hbd⟩ : ∃ z, z = bodyB X := ⟨_, rfl⟩
  rw [← hbd] at HBD HBL ⊢
  clear hbd
  obtain ⟨gk, hgk⟩ : ∃ z, z = g.k := ⟨_, rfl⟩
  obtain ⟨gf, hgf⟩ : ∃ z, z = g.f := ⟨_, rfl⟩
  obtain ⟨gt, hgt⟩ : ∃ z, z = g.t := ⟨_, rfl⟩
  obtain ⟨gv, hgv⟩ : ∃ z, z = g.v := ⟨_, rfl⟩
  obtain ⟨go, hgo⟩ : ∃ z, z = g.o := ⟨_, rfl⟩
  obtain ⟨gcm, hgcm⟩ : ∃ z, z = g.cm := ⟨_, rfl⟩
  obtain ⟨gla, hgla⟩ : ∃ z, z = g.la := ⟨_, rfl⟩
  rw [← hgk] at HM0 p1 p2 hF hhas hhdX
  rw [← hgf] at HM1 p3 p4 hhdX
  rw [← hgt] at HM2 p5 p6 hhdX
  rw [← hgv, ← hgo, ← hgcm, ← hgla] at HM3 hnx
  rw [← hgv] at n0
  rw [← hgo] at n1
  rw [← hgcm] at n2
  rw [← hgla] at n3
  rw [← hhas] at hF
  have HF := Lib.hid hF
  have HNX := Lib.hid hnx
  have HNB := Lib.hid (And.intro n0 (And.intro n1 (And.intro n2 n3)))
  obtain ⟨hd, hhd⟩ : ∃ z, z = hdBs X := ⟨_, rfl⟩
  rw [← hhd] at hhdX HBD
  have HHD := Lib.hid hhdX
  obtain ⟨mc, hmc⟩ : ∃ z, z = mgC g := ⟨_, rfl⟩
  rw [← hmc] at HMS h1 HL HC HM0 HM1 HM2 HM3 HM7 HM18 HWR hw1 ⊢
  have e0 : IntKind.u8.wrap gk = gk := by rw [IntKind.wrap_u8]; omega
  have e1 : IntKind.u8.wrap gf = gf := by rw [IntKind.wrap_u8]; omega
  have e2 : IntKind.u8.wrap gt = gt := by rw [IntKind.wrap_u8]; omega
  have e0' : gk % 256 = gk := by omega
  have e1' : gf % 256 = gf := by omega
  have e2' : gt % 256 = gt := by omega
  have HQ := Lib.hid (And.intro (And.intro p1 p2) (And.intro (And.intro p3 p4) (And.intro p5 p6)))
  have H1 := Lib.hid h1
  clear h h1 hg hk hl hx hc hck hmc hbd hbl hentX hresX himgX hcs hF hnx n0 n1 n2 n3 p0 p1 p2 p3 p4 p5 p6 pe pr pi hhdX hhd hX hgk hgf hgt hgv hgo hgcm hgla hhas HX
  go_enter Tryz.func6, Tryz.ntmps6
  (try dsimp only); repeat' (first | (with_reducible show wpList _ _ _ (Oper.mk _ (Op.load 34 _) _ _ _ _ :: _) _ _; refine stopP ?_) | go_values | go_skip | go_guarded | go_step | go_upon | go_back)
  unfold StopP
  rw [← hw1, ← hb1]
  have hq_ := HL.out
  refine wpList_load_run rfl 34 _ rfl _ _ rfl hq_ ?_
  clear hq_ hw1 hb1 HL
  (try dsimp only); repeat' (first | go_values | go_skip | go_guarded | go_step | go_upon | go_back)
  refine HC.out.mono ?_
  rintro r0 w2 ⟨rfl, h2⟩
  have h3 := H1.out.below h2.low
  have c0 := h3.cell HM0.out
  have c1 := h3.cell HM1.out
  have c2 := h3.cell HM2.out
  have hmk : MKindsAt w2 := (HK.out w2 h3.drop).2
  have HFk := Lib.hid (HF.out w2 hmk)
  have H3 := Lib.hid h3
  clear HC h2 H1 hmk HF h3
  try rw [if_pos rfl]
  (try dsimp only); repeat' (first | go_values | go_skip | go_guarded | go_step | go_upon | go_back)
  refine HFk.out.mono ?_
  rintro r0 w3 ⟨rfl, rfl⟩
  have h4 := H3.out.alloc (.cells #[.int .u8 gk, .int .u8 gf, .int .u8 gt] 5)
  have h5 := h4.asRow 3 rfl (by unfold maxLen; omega)
  rw [byte3 ⟨by have := HQ.out; omega, by have := HQ.out; omega⟩ ⟨by have := HQ.out; omega, by have := HQ.out; omega⟩ ⟨by have := HQ.out; omega, by have := HQ.out; omega⟩, ← HHD.out] at h5
  have d3 := h5.sw2.cell HM3.out.1
  have d4 := h5.sw2.cell HM3.out.2.1
  have d5 := h5.sw2.cell HM3.out.2.2.1
  have d6 := h5.sw2.cell HM3.out.2.2.2
  have H5 : Hid (Sep w0 (By (.slice (some ⟨w2.heap.size, 0, none⟩) 3 3) (hd ++ numsB has X 0) :: Cl b1 mc 34 :: L) (w2.alloc (.cells #[.int .u8 gk, .int .u8 gf, .int .u8 gt] 5))) := Lib.hid (by rw [show numsB has X 0 = [] from rfl, List.append_nil]; exact h5)
  have hdl : hd.length = 3 := by rw [HHD.out]; rfl
  have HDL := Lib.hid hdl
  clear HFk H3 h4 h5 hdl
  (try dsimp only); repeat' (first | go_values | go_skip | go_guarded | go_step | go_upon | go_back)
  clear e0 e1 e2 e0' e1' e2' c0 c1 c2 d3 d4 d5 d6
  go_loopw [6, 38] (fun b i wr => ∃ j : Nat, j ≤ 4 ∧ i = .int .i64 j ∧ ∃ u, b = u ∧ Sep w0 (By u (hd ++ numsB has X j) :: Cl b1 mc 34 :: L) wr) (fun _ i _ => 4 - (intOf i).toNat)
  case atStart => exact ⟨0, by decide, rfl, _, rfl, H5.out⟩
  case round =>
    obtain ⟨j, hj, rfl, u, rfl, hs⟩ := hrel
    obtain ⟨ua, uc, rfl⟩ := hs.sl.len
    clear H5
    have hj5 : j = 0 ∨ j = 1 ∨ j = 2 ∨ j = 3 ∨ j = 4 := by omega
    rcases hj5 with rfl | rfl | rfl | rfl | rfl
    · rw [show ((0 : Nat) : Int) = 0 from rfl]
      have hsz : numsB has X 1 = numsB has X 0 ++ if bit has 1 then vint (gv).toNat else [] := by rw [← HNX.out.1]; rfl
      have hlj := numsB_len has X 0
      rcases bit_cases has 1 with ⟨k1, k2⟩ | ⟨k1, k2⟩
      · have hn := HNB.out.1 k1
        have hn := numB_iff hn
        have e9 : IntKind.u64.wrap gv = gv := by rw [IntKind.wrap_u64]; omega
        rw [if_pos k1] at hsz
        have HV := Lib.hid (vint_int _ _ gv hs hs.sl hn.1 (by omega) (by have := HDL.out; rw [List.length_append]; omega))
        have HSZ := Lib.hid hsz
        clear hs hn hsz hlj k1
        (try dsimp only); repeat' (first | go_values | go_skip | go_guarded | go_step | go_upon | go_back)
        rw [idx4_0]
        (try dsimp only); repeat' (first | go_values | go_skip | go_guarded | go_step | go_upon | go_back)
        refine HV.out.mono ?_
        rintro r0 w4 ⟨u2, rfl, h4⟩
        have H4 : Hid (Sep w0 (By u2 (hd ++ numsB has X 1) :: Cl b1 mc 34 :: L) w4) := Lib.hid (by rw [HSZ.out, ← List.append_assoc]; exact h4.sw2.drop)
        clear HV h4 e9
        (try dsimp only); repeat' (first | go_values | go_skip | go_guarded | go_step | go_upon | go_back)
        go_roundw
        case rel => exact ⟨1, by decide, rfl, _, rfl, H4.out⟩
        case measure => simp [intOf]
      · rw [if_neg (by rw [k1]; simp), List.append_nil] at hsz
        have H4 : Hid (Sep w0 (By _ (hd ++ numsB has X 1) :: Cl b1 mc 34 :: L) wr) := Lib.hid (by rw [hsz]; exact hs)
        clear hs hsz hlj k1
        (try dsimp only); repeat' (first | go_values | go_skip | go_guarded | go_step | go_upon | go_back)
        rw [idx4_0]
        (try dsimp only); repeat' (first | go_values | go_skip | go_guarded | go_step | go_upon | go_back)
        go_roundw
        case rel => exact ⟨1, by decide, rfl, _, rfl, H4.out⟩
        case measure => simp [intOf]
    · rw [show ((1 : Nat) : Int) = 1 from rfl]
      have hsz : numsB has X 2 = numsB has X 1 ++ if bit has 2 then vint (go).toNat else [] := by rw [← HNX.out.2.1]; rfl
      have hlj := numsB_len has X 1
      rcases bit_cases has 2 with ⟨k1, k2⟩ | ⟨k1, k2⟩
      · have hn := HNB.out.2.1 k1
        have hn := numB_iff hn
        have e9 : IntKind.u64.wrap go = go := by rw [IntKind.wrap_u64]; omega
        rw [if_pos k1] at hsz
        have HV := Lib.hid (vint_int _ _ go hs hs.sl hn.1 (by omega) (by have := HDL.out; rw [List.length_append]; omega))
        have HSZ := Lib.hid hsz
        clear hs hn hsz hlj k1
        (try dsimp only); repeat' (first | go_values | go_skip | go_guarded | go_step | go_upon | go_back)
        rw [idx4_1]
        (try dsimp only); repeat' (first | go_values | go_skip | go_guarded | go_step | go_upon | go_back)
        refine HV.out.mono ?_
        rintro r0 w4 ⟨u2, rfl, h4⟩
        have H4 : Hid (Sep w0 (By u2 (hd ++ numsB has X 2) :: Cl b1 mc 34 :: L) w4) := Lib.hid (by rw [HSZ.out, ← List.append_assoc]; exact h4.sw2.drop)
        clear HV h4 e9
        (try dsimp only); repeat' (first | go_values | go_skip | go_guarded | go_step | go_upon | go_back)
        go_roundw
        case rel => exact ⟨2, by decide, rfl, _, rfl, H4.out⟩
        case measure => simp [intOf]
      · rw [if_neg (by rw [k1]; simp), List.append_nil] at hsz
        have H4 : Hid (Sep w0 (By _ (hd ++ numsB has X 2) :: Cl b1 mc 34 :: L) wr) := Lib.hid (by rw [hsz]; exact hs)
        clear hs hsz hlj k1
        (try dsimp only); repeat' (first | go_values | go_skip | go_guarded | go_step | go_upon | go_back)
        rw [idx4_1]
        (try dsimp only); repeat' (first | go_values | go_skip | go_guarded | go_step | go_upon | go_back)
        go_roundw
        case rel => exact ⟨2, by decide, rfl, _, rfl, H4.out⟩
        case measure => simp [intOf]
    · rw [show ((2 : Nat) : Int) = 2 from rfl]
      have hsz : numsB has X 3 = numsB has X 2 ++ if bit has 4 then vint (gcm).toNat else [] := by rw [← HNX.out.2.2.1]; rfl
      have hlj := numsB_len has X 2
      rcases bit_cases has 4 with ⟨k1, k2⟩ | ⟨k1, k2⟩
      · have hn := HNB.out.2.2.1 k1
        have hn := numB_iff hn
        have e9 : IntKind.u64.wrap gcm = gcm := by rw [IntKind.wrap_u64]; omega
        rw [if_pos k1] at hsz
        have HV := Lib.hid (vint_int _ _ gcm hs hs.sl hn.1 (by omega) (by have := HDL.out; rw [List.length_append]; omega))
        have HSZ := Lib.hid hsz
        clear hs hn hsz hlj k1
        (try dsimp only); repeat' (first | go_values | go_skip | go_guarded | go_step | go_upon | go_back)
        rw [idx4_2]
        (try dsimp only); repeat' (first | go_values | go_skip | go_guarded | go_step | go_upon | go_back)
        refine HV.out.mono ?_
        rintro r0 w4 ⟨u2, rfl, h4⟩
        have H4 : Hid (Sep w0 (By u2 (hd ++ numsB has X 3) :: Cl b1 mc 34 :: L) w4) := Lib.hid (by rw [HSZ.out, ← List.append_assoc]; exact h4.sw2.drop)
        clear HV h4 e9
        (try dsimp only); repeat' (first | go_values | go_skip | go_guarded | go_step | go_upon | go_back)
        go_roundw
        case rel => exact ⟨3, by decide, rfl, _, rfl, H4.out⟩
        case measure => simp [intOf]
      · rw [if_neg (by rw [k1]; simp), List.append_nil] at hsz
        have H4 : Hid (Sep w0 (By _ (hd ++ numsB has X 3) :: Cl b1 mc 34 :: L) wr) := Lib.hid (by rw [hsz]; exact hs)
        clear hs hsz hlj k1
        (try dsimp only); repeat' (first | go_values | go_skip | go_guarded | go_step | go_upon | go_back)
        rw [idx4_2]
        (try dsimp only); repeat' (first | go_values | go_skip | go_guarded | go_step | go_upon | go_back)
        go_roundw
        case rel => exact ⟨3, by decide, rfl, _, rfl, H4.out⟩
        case measure => simp [intOf]
    · rw [show ((3 : Nat) : Int) = 3 from rfl]
      have hsz : numsB has X 4 = numsB has X 3 ++ if bit has 8 then vint (gla).toNat else [] := by rw [← HNX.out.2.2.2]; rfl
      have hlj := numsB_len has X 3
      rcases bit_cases has 8 with ⟨k1, k2⟩ | ⟨k1, k2⟩
      · have hn := HNB.out.2.2.2 k1
        have hn := numB_iff hn
        have e9 : IntKind.u64.wrap gla = gla := by rw [IntKind.wrap_u64]; omega
        rw [if_pos k1] at hsz
        have HV := Lib.hid (vint_int _ _ gla hs hs.sl hn.1 (by omega) (by have := HDL.out; rw [List.length_append]; omega))
        have HSZ := Lib.hid hsz
        clear hs hn hsz hlj k1
        (try dsimp only); repeat' (first | go_values | go_skip | go_guarded | go_step | go_upon | go_back)
        rw [idx4_3]
        (try dsimp only); repeat' (first | go_values | go_skip | go_guarded | go_step | go_upon | go_back)
        refine HV.out.mono ?_
        rintro r0 w4 ⟨u2, rfl, h4⟩
        have H4 : Hid (Sep w0 (By u2 (hd ++ numsB has X 4) :: Cl b1 mc 34 :: L) w4) := Lib.hid (by rw [HSZ.out, ← List.append_assoc]; exact h4.sw2.drop)
        clear HV h4 e9
        (try dsimp only); repeat' (first | go_values | go_skip | go_guarded | go_step | go_upon | go_back)
        go_roundw
        case rel => exact ⟨4, by decide, rfl, _, rfl, H4.out⟩
        case measure => simp [intOf]
      · rw [if_neg (by rw [k1]; simp), List.append_nil] at hsz
        have H4 : Hid (Sep w0 (By _ (hd ++ numsB has X 4) :: Cl b1 mc 34 :: L) wr) := Lib.hid (by rw [hsz]; exact hs)
        clear hs hsz hlj k1
        (try dsimp only); repeat' (first | go_values | go_skip | go_guarded | go_step | go_upon | go_back)
        rw [idx4_3]
        (try dsimp only); repeat' (first | go_values | go_skip | go_guarded | go_step | go_upon | go_back)
        go_roundw
        case rel => exact ⟨4, by decide, rfl, _, rfl, H4.out⟩
        case measure => simp [intOf]
    · rw [show ((4 : Nat) : Int) = 4 from rfl]
      obtain ⟨pre, hpre⟩ : ∃ z, z = hd ++ numsB has X 4 := ⟨_, rfl⟩
      have hpl : pre.length ≤ 100 := by
        have := numsB_len has X 4
        have := HDL.out
        rw [hpre, List.length_append]
        omega
      have hbd2 : bd = pre ++ (entB X ++ (resB' X ++ imgB' X)) := by rw [HBD.out, hpre, List.append_assoc]
      rw [← hpre] at hs ⊢
      obtain ⟨un, hun⟩ : ∃ z, z = (bv pre).length := ⟨_, rfl⟩
      rw [← hun] at hs ⊢
      have HHS := Lib.hid hs
      have HPL := Lib.hid hpl
      clear hs hpl hun hpre HBD
      rcases HCS.out with ⟨k16, k32, k64, k128⟩ | ⟨k16, k32, k64, k128⟩ | ⟨k16, k32, k64, k128⟩ | ⟨k16, k32, k64, k128⟩ | ⟨k16, k32, k64, k128⟩
      · have b16 := bit_t k16
        have b32 := bit_f k32
        have b64 := bit_f k64
        have b128 := bit_f k128
        have hE := HEX.out
        rw [if_pos k16] at hE
        have hR := HRX.out
        rw [if_neg (by rw [k64]; simp)] at hR
        have hI := HIX.out
        rw [if_neg (by rw [k128]; simp)] at hI
        have hok : g.en.ok = true := by
          have := HPE.out
          unfold fEB at this
          rw [if_pos k16] at this
          exact this
        have hL := HHS.out.drop.drop
        have hbe := ebytes_u g.en g.lv HHS.out (HG.out wr hL).1 (HK.out wr hL).1
        rw [hok] at hbe
        unfold BysE at hbe
        rw [if_pos rfl, show eB true = 0 from rfl] at hbe
        unfold enV at hbe
        have HBE := Lib.hid hbe
        have hel := entBs_len hok
        have HEL := Lib.hid hel
        have c7 := HHS.out.sw2.cell HM7.out.1
        have c8 := HHS.out.sw2.cell HM7.out.2.1
        have c9 := HHS.out.sw2.cell HM7.out.2.2.1
        have c10 := HHS.out.sw2.cell HM7.out.2.2.2.1
        have c11 := HHS.out.sw2.cell HM7.out.2.2.2.2.1
        have c12 := HHS.out.sw2.cell HM7.out.2.2.2.2.2.1
        have c13 := HHS.out.sw2.cell HM7.out.2.2.2.2.2.2
        clear hbe hok hL hel
        (try dsimp only); repeat' (first | go_values | go_skip | go_guarded | go_step | go_upon | go_back)
        refine HBE.out.mono ?_
        rintro r0 w4 ⟨u4, rfl, h4⟩
        have HT := Lib.hid (text_sep _ u4 pre (entBs g.en) w4 h4 h4.sw2.sl h4.sl (by have := HPL.out; have := HEL.out; omega))
        clear HBE h4 c7 c8 c9 c10 c11 c12 c13 HHS
        (try dsimp only); repeat' (first | go_values | go_skip | go_guarded | go_step | go_upon | go_back)
        refine HT.out.mono ?_
        rintro r0 w5 ⟨u5, rfl, h5⟩
        have HB8 : Hid (Sep w0 (By u5 bd :: Cl b1 mc 34 :: L) w5) := Lib.hid (by rw [hbd2, hE, hR, hI, List.append_nil, List.append_nil, show rowTx g.en = vint (entBs g.en).length ++ entBs g.en from rfl, ← List.append_assoc]; exact h5.sw2.drop.sw2.drop)
        clear hbd2 hE hR hI k16 k32 k64 k128
        have HSE := Lib.hid (seal_ok bd HB8.out HB8.out.sl HBL.out)
        clear HB8
        (try dsimp only); repeat' (first | go_values | go_skip | go_guarded | go_step | go_upon | go_back)
        refine HSE.out.mono ?_
        rintro r0 w9 ⟨u9, rfl, h9⟩
        have H9 := Lib.hid h9.sw2.drop.sw2.drop
        clear HSE h9
        (try dsimp only); repeat' (first | go_values | go_skip | go_guarded | go_step | go_upon | go_back)
        exact bodyPost_ret (results_tmp2 rfl _ _ _) rfl ⟨_, rfl, H9.out⟩
      · have b16 := bit_f k16
        have b32 := bit_t k32
        have b64 := bit_t k64
        have b128 := bit_f k128
        have hE := HEX.out
        rw [if_neg (by rw [k16]; simp), if_pos k32] at hE
        have hR := HRX.out
        rw [if_pos k64] at hR
        have hI := HIX.out
        rw [if_neg (by rw [k128]; simp)] at hI
        have hw32 : hdB g.en.c g.en.m = true ∧ opSameZ g.en.p = true := by
          have := HPE.out
          unfold fEB at this
          rw [if_neg (by rw [k16]; simp), if_pos k32, Bool.and_eq_true] at this
          exact this
        have hr32 := of_decide_eq_true hw32.1
        have HC7 : Hid (mc[7]? = some (.int .i64 g.en.c)) := Lib.hid HM7.out.1
        have HC8 : Hid (mc[8]? = some (.int .i64 g.en.m)) := Lib.hid HM7.out.2.1
        obtain ⟨ec, hec⟩ : ∃ z, z = g.en.c := ⟨_, rfl⟩
        obtain ⟨em, hem⟩ : ∃ z, z = g.en.m := ⟨_, rfl⟩
        rw [← hec] at HC7 hE hr32
        rw [← hem] at HC8 hE hr32
        have e1 : IntKind.u8.wrap ec = ec := by rw [IntKind.wrap_u8]; omega
        have e2 : ec % 256 = ec := by omega
        have e3 : IntKind.u64.wrap em = em := by rw [IntKind.wrap_u64]; omega
        obtain ⟨rq, hrq⟩ : ∃ z, z = [UInt8.ofNat ec.toNat] ++ vint em.toNat := ⟨_, rfl⟩
        rw [← hrq] at hE
        have HRQ := Lib.hid hrq
        have hrl : rq.length ≤ 11 := by rw [hrq]; have := vint_len em.toNat; simp; omega
        have h0 := HHS.out.drew
        have G0 := Lib.hid (And.intro (h0.sw2.cell HC7.out) (h0.sw2.cell HC8.out))
        have h4 := h0.alloc (.cells #[.int .u8 ec] 5)
        have G1 := Lib.hid (And.intro (h4.sw3.cell HC7.out) (h4.sw3.cell HC8.out))
        have h5 := h4.asRow 1 rfl (by unfold maxLen; omega)
        rw [byte1v hr32.1 (by omega)] at h5
        obtain ⟨v6, w6, hr6, h6, -⟩ := app8 (ty := 29) h5.sw2 h5.sl (by have := HPL.out; simp only [List.length_cons, List.length_nil]; omega)
        obtain ⟨v6a, v6c, rfl⟩ := h6.sl.len
        have G2 := Lib.hid (And.intro (h6.sw3.cell HC7.out) (h6.sw3.cell HC8.out))
        have HV := Lib.hid (vint_int _ _ em h6 h6.sl (by omega) (by omega) (by have := HPL.out; rw [List.length_append]; simp only [List.length_cons, List.length_nil]; omega))
        have HR6 := Lib.hid hr6
        have HRL := Lib.hid hrl
        clear h0 h4 h5 h6 hr6 hrq hec hem hr32 hw32 hrl
        (try dsimp only); repeat' (first | go_values | go_skip | go_guarded | go_step | go_upon | go_back)
        refine wp_region_G (fun w' => w'.cell? ⟨b1, 7, none⟩ = some (.int .i64 ec) ∧ w'.cell? ⟨b1, 8, none⟩ = some (.int .i64 em)) [] (by kernel_rfl) G0.out (fun hS => ?_)
        try dsimp only at hS
        refine wpAnyG_take' (i := 0) (v := ?v0_1rqa) rfl (by kernel_rfl) (by kernel_rfl) (by kernel_rfl) (by kernel_rfl) (fun _ _ _ h => h) (Or.inl ⟨by rfl, ?hy0_1rqa⟩) hS ?rest0_1rqa
        case hy0_1rqa => intro w hSw; (try dsimp only at hSw); go_simp; (try with_reducible rfl)
        case rest0_1rqa =>
        try simp only [nz0, nz1, nz2, Act.put, nz3, nz4, nz5]
        refine wpAnyG_take' (i := 1) (v := ?v1_2rqa) rfl (by kernel_rfl) (by kernel_rfl) (by kernel_rfl) (by kernel_rfl) (fun _ _ _ h => h) (Or.inl ⟨by rfl, ?hy1_2rqa⟩) hS ?rest1_2rqa
        case hy1_2rqa => intro w hSw; (try dsimp only at hSw); go_simp; (try with_reducible rfl)
        case rest1_2rqa =>
        try simp only [nz0, nz1, nz2, Act.put, nz3, nz4, nz5]
        refine wpAnyG_take' (i := 2) (v := ?v2_3rqa) rfl (by kernel_rfl) (by kernel_rfl) (by kernel_rfl) (by kernel_rfl) (fun _ _ _ h => h) (Or.inl ⟨by rfl, ?hy2_3rqa⟩) hS ?rest2_3rqa
        case hy2_3rqa => intro w hSw; (try dsimp only at hSw); go_simp; (try with_reducible rfl)
        case rest2_3rqa =>
        try simp only [nz0, nz1, nz2, Act.put, nz3, nz4, nz5]
        refine wpAnyG_take' (i := 3) (v := ?v3_4rqa) rfl (by kernel_rfl) (by kernel_rfl) (by kernel_rfl) (by kernel_rfl) (fun _ _ _ h => h) (Or.inl ⟨by rfl, ?hy3_4rqa⟩) hS ?rest3_4rqa
        case hy3_4rqa => intro w hSw; (try dsimp only at hSw); go_simp; (try with_reducible rfl)
        case rest3_4rqa =>
        try simp only [nz0, nz1, nz2, Act.put, nz3, nz4, nz5]
        refine wpAnyG_take' (i := 4) (v := ?v4_5rqa) rfl (by kernel_rfl) (by kernel_rfl) (by kernel_rfl) (by kernel_rfl) (fun _ _ _ h => h) (Or.inl ⟨by rfl, ?hy4_5rqa⟩) hS ?rest4_5rqa
        case hy4_5rqa => intro w hSw; (try dsimp only at hSw); go_simp; (try with_reducible rfl)
        case rest4_5rqa =>
        try simp only [nz0, nz1, nz2, Act.put, nz3, nz4, nz5]
        refine wpAnyG_take' (i := 7) (v := ?v7_6rqa) rfl (by kernel_rfl) (by kernel_rfl) (by kernel_rfl) (by kernel_rfl) (fun _ _ _ h => h) (Or.inl ⟨by rfl, ?hy7_6rqa⟩) hS ?rest7_6rqa
        case hy7_6rqa => intro w hSw; (try dsimp only at hSw); go_simp; (try with_reducible rfl)
        case rest7_6rqa =>
        try simp only [nz0, nz1, nz2, Act.put, nz3, nz4, nz5]
        refine wpAnyG_take' (i := 8) (v := ?v8_7rqa) rfl (by kernel_rfl) (by kernel_rfl) (by kernel_rfl) (by kernel_rfl) (fun _ _ _ h => h) (Or.inl ⟨by rfl, ?hy8_7rqa⟩) hS ?rest8_7rqa
        case hy8_7rqa => intro w hSw; (try dsimp only at hSw); go_simp; (try with_reducible rfl)
        case rest8_7rqa =>
        try simp only [nz0, nz1, nz2, Act.put, nz3, nz4, nz5]
        refine wpAnyG_take' (i := 9) (v := ?v9_8rqa) rfl (by kernel_rfl) (by kernel_rfl) (by kernel_rfl) (by kernel_rfl) (fun _ _ _ h => h) (Or.inl ⟨by rfl, ?hy9_8rqa⟩) hS ?rest9_8rqa
        case hy9_8rqa => intro w hSw; (try dsimp only at hSw); go_simp; (try with_reducible rfl)
        case rest9_8rqa =>
        try simp only [nz0, nz1, nz2, Act.put, nz3, nz4, nz5]
        refine wpAnyG_take' (i := 10) (v := ?v10_9rqa) rfl (by kernel_rfl) (by kernel_rfl) (by kernel_rfl) (by kernel_rfl) (fun _ _ _ h => h) (Or.inl ⟨by rfl, ?hy10_9rqa⟩) hS ?rest10_9rqa
        case hy10_9rqa => intro w hSw; (try dsimp only at hSw); go_simp; (try with_reducible rfl)
        case rest10_9rqa =>
        try simp only [nz0, nz1, nz2, Act.put, nz3, nz4, nz5]
        refine wpAnyG_one (i := 5) (by kernel_rfl) rfl (fun K hK => ?_)
        go_simp
        refine hK.out _ _ (fun _ => ?hS10rqa) ?rest10rqa
        case hS10rqa => exact G1.out
        clear K hK
        try simp only [nz0, nz1, nz2, Act.put, nz3, nz4, nz5]
        refine wpAnyG_one (i := 6) (by kernel_rfl) rfl (fun K hK => ?_)
        refine step_append_run (by rfl) (.tmp 67) (.tmp 72) 29 29 (by rfl) _ _ (by rfl) (by rfl) HR6.out ?_
        refine hK.out _ _ (fun _ => ?hS11rqa) ?rest11rqa
        case hS11rqa => exact G2.out
        clear K hK
        try simp only [nz0, nz1, nz2, Act.put, nz3, nz4, nz5]
        refine wpAnyG_one (i := 11) (by kernel_rfl) rfl (fun K hK => ?_)
        go_simp
        refine HV.out.mono ?_
        rintro r0 w8 ⟨u8, rfl, h8⟩
        have h8q := h8.pickL (M := [_, _, _, _]) [3, 0, 1, 2] rfl
        have G3 := Lib.hid (And.intro (h8q.cell HC7.out) (h8q.cell HC8.out))
        have H8 : Hid (Sep w0 (By u8 (pre ++ rq) :: Cl b1 mc 34 :: L) w8) := Lib.hid (by rw [HRQ.out, ← List.append_assoc]; exact (h8.pickL (M := [_, _, _, _]) [0, 3] rfl))
        clear HV h8 h8q
        refine hK.out _ _ (fun _ => ?hS12rqa) ?rest12rqa
        case hS12rqa => exact G3.out
        clear K hK
        try simp only [nz0, nz1, nz2, Act.put, nz3, nz4, nz5]
        refine wpAnyG_one (i := 12) (by kernel_rfl) rfl (fun K hK => ?_)
        go_simp
        refine hK.out _ _ (fun _ => ?hS13rqa) ?rest13rqa
        case hS13rqa => exact G3.out
        clear K hK
        try simp only [nz0, nz1, nz2, Act.put, nz3, nz4, nz5]
        refine wpAnyG_done (by kernel_rfl) ?_ _
        try simp only [nz0, nz1, nz2, Act.put, nz3, nz4, nz5]
        have hLM := H8.out.sw2.loadW 34 Tryz.underlying34 rfl (by rw [HMS.out]; kernel_rfl)
        have HLM := Lib.hid hLM
        have HWR2 := Lib.hid (HWR.out (pre ++ rq) H8.out (by have := HPR.out; unfold fRB at this; rw [if_pos k64] at this; exact this) (by have := HPL.out; have := HRL.out; rw [List.length_append]; omega))
        clear hLM e1 e2 e3 HR6 G0 G1 G2 G3
        (try dsimp only); repeat' (first | (with_reducible show wpList _ _ _ (Oper.mk _ (Op.load 34 _) _ _ _ _ :: _) _ _; refine stopP ?_) | go_values | go_skip | go_guarded | go_step | go_upon | go_back)
        unfold StopP
        have hq_ := HLM.out
        refine wpList_load_run rfl 34 _ rfl _ _ rfl hq_ ?_
        clear hq_ HLM
        (try dsimp only); repeat' (first | go_values | go_skip | go_guarded | go_step | go_upon | go_back)
        refine HWR2.out.mono ?_
        rintro r0 w5 ⟨u5, rfl, h5⟩
        clear HWR2
        have HB8 : Hid (Sep w0 (By u5 bd :: Cl b1 mc 34 :: L) w5) := Lib.hid (by rw [hbd2, hE, hR, hI, List.append_nil, ← List.append_assoc]; exact h5)
        clear hbd2 hE hR hI k16 k32 k64 k128
        have HSE := Lib.hid (seal_ok bd HB8.out HB8.out.sl HBL.out)
        clear HB8
        (try dsimp only); repeat' (first | go_values | go_skip | go_guarded | go_step | go_upon | go_back)
        refine HSE.out.mono ?_
        rintro r0 w9 ⟨u9, rfl, h9⟩
        have H9 := Lib.hid h9.sw2.drop.sw2.drop
        clear HSE h9
        (try dsimp only); repeat' (first | go_values | go_skip | go_guarded | go_step | go_upon | go_back)
        exact bodyPost_ret (results_tmp2 rfl _ _ _) rfl ⟨_, rfl, H9.out⟩
      · have b16 := bit_f k16
        have b32 := bit_t k32
        have b64 := bit_f k64
        have b128 := bit_f k128
        have hE := HEX.out
        rw [if_neg (by rw [k16]; simp), if_pos k32] at hE
        have hR := HRX.out
        rw [if_neg (by rw [k64]; simp)] at hR
        have hI := HIX.out
        rw [if_neg (by rw [k128]; simp)] at hI
        have hw32 : hdB g.en.c g.en.m = true ∧ opSameZ g.en.p = true := by
          have := HPE.out
          unfold fEB at this
          rw [if_neg (by rw [k16]; simp), if_pos k32, Bool.and_eq_true] at this
          exact this
        have hr32 := of_decide_eq_true hw32.1
        have HC7 : Hid (mc[7]? = some (.int .i64 g.en.c)) := Lib.hid HM7.out.1
        have HC8 : Hid (mc[8]? = some (.int .i64 g.en.m)) := Lib.hid HM7.out.2.1
        obtain ⟨ec, hec⟩ : ∃ z, z = g.en.c := ⟨_, rfl⟩
        obtain ⟨em, hem⟩ : ∃ z, z = g.en.m := ⟨_, rfl⟩
        rw [← hec] at HC7 hE hr32
        rw [← hem] at HC8 hE hr32
        have e1 : IntKind.u8.wrap ec = ec := by rw [IntKind.wrap_u8]; omega
        have e2 : ec % 256 = ec := by omega
        have e3 : IntKind.u64.wrap em = em := by rw [IntKind.wrap_u64]; omega
        obtain ⟨rq, hrq⟩ : ∃ z, z = [UInt8.ofNat ec.toNat] ++ vint em.toNat := ⟨_, rfl⟩
        rw [← hrq] at hE
        have HRQ := Lib.hid hrq
        have hrl : rq.length ≤ 11 := by rw [hrq]; have := vint_len em.toNat; simp; omega
        have h0 := HHS.out.drew
        have G0 := Lib.hid (And.intro (h0.sw2.cell HC7.out) (h0.sw2.cell HC8.out))
        have h4 := h0.alloc (.cells #[.int .u8 ec] 5)
        have G1 := Lib.hid (And.intro (h4.sw3.cell HC7.out) (h4.sw3.cell HC8.out))
        have h5 := h4.asRow 1 rfl (by unfold maxLen; omega)
        rw [byte1v hr32.1 (by omega)] at h5
        obtain ⟨v6, w6, hr6, h6, -⟩ := app8 (ty := 29) h5.sw2 h5.sl (by have := HPL.out; simp only [List.length_cons, List.length_nil]; omega)
        obtain ⟨v6a, v6c, rfl⟩ := h6.sl.len
        have G2 := Lib.hid (And.intro (h6.sw3.cell HC7.out) (h6.sw3.cell HC8.out))
        have HV := Lib.hid (vint_int _ _ em h6 h6.sl (by omega) (by omega) (by have := HPL.out; rw [List.length_append]; simp only [List.length_cons, List.length_nil]; omega))
        have HR6 := Lib.hid hr6
        have HRL := Lib.hid hrl
        clear h0 h4 h5 h6 hr6 hrq hec hem hr32 hw32 hrl
        (try dsimp only); repeat' (first | go_values | go_skip | go_guarded | go_step | go_upon | go_back)
        refine wp_region_G (fun w' => w'.cell? ⟨b1, 7, none⟩ = some (.int .i64 ec) ∧ w'.cell? ⟨b1, 8, none⟩ = some (.int .i64 em)) [] (by kernel_rfl) G0.out (fun hS => ?_)
        try dsimp only at hS
        refine wpAnyG_take' (i := 0) (v := ?v0_1rqb) rfl (by kernel_rfl) (by kernel_rfl) (by kernel_rfl) (by kernel_rfl) (fun _ _ _ h => h) (Or.inl ⟨by rfl, ?hy0_1rqb⟩) hS ?rest0_1rqb
        case hy0_1rqb => intro w hSw; (try dsimp only at hSw); go_simp; (try with_reducible rfl)
        case rest0_1rqb =>
        try simp only [nz0, nz1, nz2, Act.put, nz3, nz4, nz5]
        refine wpAnyG_take' (i := 1) (v := ?v1_2rqb) rfl (by kernel_rfl) (by kernel_rfl) (by kernel_rfl) (by kernel_rfl) (fun _ _ _ h => h) (Or.inl ⟨by rfl, ?hy1_2rqb⟩) hS ?rest1_2rqb
        case hy1_2rqb => intro w hSw; (try dsimp only at hSw); go_simp; (try with_reducible rfl)
        case rest1_2rqb =>
        try simp only [nz0, nz1, nz2, Act.put, nz3, nz4, nz5]
        refine wpAnyG_take' (i := 2) (v := ?v2_3rqb) rfl (by kernel_rfl) (by kernel_rfl) (by kernel_rfl) (by kernel_rfl) (fun _ _ _ h => h) (Or.inl ⟨by rfl, ?hy2_3rqb⟩) hS ?rest2_3rqb
        case hy2_3rqb => intro w hSw; (try dsimp only at hSw); go_simp; (try with_reducible rfl)
        case rest2_3rqb =>
        try simp only [nz0, nz1, nz2, Act.put, nz3, nz4, nz5]
        refine wpAnyG_take' (i := 3) (v := ?v3_4rqb) rfl (by kernel_rfl) (by kernel_rfl) (by kernel_rfl) (by kernel_rfl) (fun _ _ _ h => h) (Or.inl ⟨by rfl, ?hy3_4rqb⟩) hS ?rest3_4rqb
        case hy3_4rqb => intro w hSw; (try dsimp only at hSw); go_simp; (try with_reducible rfl)
        case rest3_4rqb =>
        try simp only [nz0, nz1, nz2, Act.put, nz3, nz4, nz5]
        refine wpAnyG_take' (i := 4) (v := ?v4_5rqb) rfl (by kernel_rfl) (by kernel_rfl) (by kernel_rfl) (by kernel_rfl) (fun _ _ _ h => h) (Or.inl ⟨by rfl, ?hy4_5rqb⟩) hS ?rest4_5rqb
        case hy4_5rqb => intro w hSw; (try dsimp only at hSw); go_simp; (try with_reducible rfl)
        case rest4_5rqb =>
        try simp only [nz0, nz1, nz2, Act.put, nz3, nz4, nz5]
        refine wpAnyG_take' (i := 7) (v := ?v7_6rqb) rfl (by kernel_rfl) (by kernel_rfl) (by kernel_rfl) (by kernel_rfl) (fun _ _ _ h => h) (Or.inl ⟨by rfl, ?hy7_6rqb⟩) hS ?rest7_6rqb
        case hy7_6rqb => intro w hSw; (try dsimp only at hSw); go_simp; (try with_reducible rfl)
        case rest7_6rqb =>
        try simp only [nz0, nz1, nz2, Act.put, nz3, nz4, nz5]
        refine wpAnyG_take' (i := 8) (v := ?v8_7rqb) rfl (by kernel_rfl) (by kernel_rfl) (by kernel_rfl) (by kernel_rfl) (fun _ _ _ h => h) (Or.inl ⟨by rfl, ?hy8_7rqb⟩) hS ?rest8_7rqb
        case hy8_7rqb => intro w hSw; (try dsimp only at hSw); go_simp; (try with_reducible rfl)
        case rest8_7rqb =>
        try simp only [nz0, nz1, nz2, Act.put, nz3, nz4, nz5]
        refine wpAnyG_take' (i := 9) (v := ?v9_8rqb) rfl (by kernel_rfl) (by kernel_rfl) (by kernel_rfl) (by kernel_rfl) (fun _ _ _ h => h) (Or.inl ⟨by rfl, ?hy9_8rqb⟩) hS ?rest9_8rqb
        case hy9_8rqb => intro w hSw; (try dsimp only at hSw); go_simp; (try with_reducible rfl)
        case rest9_8rqb =>
        try simp only [nz0, nz1, nz2, Act.put, nz3, nz4, nz5]
        refine wpAnyG_take' (i := 10) (v := ?v10_9rqb) rfl (by kernel_rfl) (by kernel_rfl) (by kernel_rfl) (by kernel_rfl) (fun _ _ _ h => h) (Or.inl ⟨by rfl, ?hy10_9rqb⟩) hS ?rest10_9rqb
        case hy10_9rqb => intro w hSw; (try dsimp only at hSw); go_simp; (try with_reducible rfl)
        case rest10_9rqb =>
        try simp only [nz0, nz1, nz2, Act.put, nz3, nz4, nz5]
        refine wpAnyG_one (i := 5) (by kernel_rfl) rfl (fun K hK => ?_)
        go_simp
        refine hK.out _ _ (fun _ => ?hS10rqb) ?rest10rqb
        case hS10rqb => exact G1.out
        clear K hK
        try simp only [nz0, nz1, nz2, Act.put, nz3, nz4, nz5]
        refine wpAnyG_one (i := 6) (by kernel_rfl) rfl (fun K hK => ?_)
        refine step_append_run (by rfl) (.tmp 67) (.tmp 72) 29 29 (by rfl) _ _ (by rfl) (by rfl) HR6.out ?_
        refine hK.out _ _ (fun _ => ?hS11rqb) ?rest11rqb
        case hS11rqb => exact G2.out
        clear K hK
        try simp only [nz0, nz1, nz2, Act.put, nz3, nz4, nz5]
        refine wpAnyG_one (i := 11) (by kernel_rfl) rfl (fun K hK => ?_)
        go_simp
        refine HV.out.mono ?_
        rintro r0 w8 ⟨u8, rfl, h8⟩
        have h8q := h8.pickL (M := [_, _, _, _]) [3, 0, 1, 2] rfl
        have G3 := Lib.hid (And.intro (h8q.cell HC7.out) (h8q.cell HC8.out))
        have H8 : Hid (Sep w0 (By u8 (pre ++ rq) :: Cl b1 mc 34 :: L) w8) := Lib.hid (by rw [HRQ.out, ← List.append_assoc]; exact (h8.pickL (M := [_, _, _, _]) [0, 3] rfl))
        clear HV h8 h8q
        refine hK.out _ _ (fun _ => ?hS12rqb) ?rest12rqb
        case hS12rqb => exact G3.out
        clear K hK
        try simp only [nz0, nz1, nz2, Act.put, nz3, nz4, nz5]
        refine wpAnyG_one (i := 12) (by kernel_rfl) rfl (fun K hK => ?_)
        go_simp
        refine hK.out _ _ (fun _ => ?hS13rqb) ?rest13rqb
        case hS13rqb => exact G3.out
        clear K hK
        try simp only [nz0, nz1, nz2, Act.put, nz3, nz4, nz5]
        refine wpAnyG_done (by kernel_rfl) ?_ _
        try simp only [nz0, nz1, nz2, Act.put, nz3, nz4, nz5]
        clear e1 e2 e3 HR6 G0 G1 G2 G3
        have HB8 : Hid (Sep w0 (By u8 bd :: Cl b1 mc 34 :: L) w8) := Lib.hid (by rw [hbd2, hE, hR, hI, List.append_nil, List.append_nil]; exact H8.out)
        clear hbd2 hE hR hI k16 k32 k64 k128
        have HSE := Lib.hid (seal_ok bd HB8.out HB8.out.sl HBL.out)
        clear HB8
        (try dsimp only); repeat' (first | go_values | go_skip | go_guarded | go_step | go_upon | go_back)
        refine HSE.out.mono ?_
        rintro r0 w9 ⟨u9, rfl, h9⟩
        have H9 := Lib.hid h9.sw2.drop.sw2.drop
        clear HSE h9
        (try dsimp only); repeat' (first | go_values | go_skip | go_guarded | go_step | go_upon | go_back)
        exact bodyPost_ret (results_tmp2 rfl _ _ _) rfl ⟨_, rfl, H9.out⟩
      · have b16 := bit_f k16
        have b32 := bit_f k32
        have b64 := bit_f k64
        have b128 := bit_t k128
        have hE := HEX.out
        rw [if_neg (by rw [k16]; simp), if_neg (by rw [k32]; simp)] at hE
        have hR := HRX.out
        rw [if_neg (by rw [k64]; simp)] at hR
        have hI := HIX.out
        rw [if_pos k128] at hI
        have hip := img_parts HPI.out k128
        obtain ⟨i0, i1, i2, i3, i4, i5, i6, i7⟩ := hip
        have HWI := Lib.hid (wimg_any pre g.ib g.ic g.ck g.cv g.ev g.ps HHS.out (fun wx hx => (HG.out wx hx.drop).2.1) (fun wx hx => (HG.out wx hx.drop).2.2) (fun wx hx => (HK.out wx hx.drop).1) ⟨i0, i1⟩ ⟨i6, by omega⟩ i2 i3 i4 (by have := HPL.out; omega))
        have c18 := HHS.out.sw2.cell HM18.out.1
        have c19 := HHS.out.sw2.cell HM18.out.2.1
        have c20 := HHS.out.sw2.cell HM18.out.2.2.1
        have c21 := HHS.out.sw2.cell HM18.out.2.2.2
        unfold imgC at HWI
        clear i0 i1 i2 i3 i4 i5 i6 i7
        (try dsimp only); repeat' (first | go_values | go_skip | go_guarded | go_step | go_upon | go_back)
        refine HWI.out.mono ?_
        rintro r0 w5 ⟨u5, rfl, h5⟩
        clear HWI c18 c19 c20 c21 HHS
        have HB8 : Hid (Sep w0 (By u5 bd :: Cl b1 mc 34 :: L) w5) := Lib.hid (by rw [hbd2, hE, hR, hI, List.nil_append, List.nil_append]; exact h5)
        clear hbd2 hE hR hI k16 k32 k64 k128
        have HSE := Lib.hid (seal_ok bd HB8.out HB8.out.sl HBL.out)
        clear HB8
        (try dsimp only); repeat' (first | go_values | go_skip | go_guarded | go_step | go_upon | go_back)
        refine HSE.out.mono ?_
        rintro r0 w9 ⟨u9, rfl, h9⟩
        have H9 := Lib.hid h9.sw2.drop.sw2.drop
        clear HSE h9
        (try dsimp only); repeat' (first | go_values | go_skip | go_guarded | go_step | go_upon | go_back)
        exact bodyPost_ret (results_tmp2 rfl _ _ _) rfl ⟨_, rfl, H9.out⟩
      · have b16 := bit_f k16
        have b32 := bit_f k32
        have b64 := bit_f k64
        have b128 := bit_f k128
        have hE := HEX.out
        rw [if_neg (by rw [k16]; simp), if_neg (by rw [k32]; simp)] at hE
        have hR := HRX.out
        rw [if_neg (by rw [k64]; simp)] at hR
        have hI := HIX.out
        rw [if_neg (by rw [k128]; simp)] at hI
        have HB8 : Hid (Sep w0 (By _ bd :: Cl b1 mc 34 :: L) wr) := Lib.hid (by rw [hbd2, hE, hR, hI, List.append_nil, List.append_nil, List.append_nil]; exact HHS.out)
        clear hbd2 hE hR hI k16 k32 k64 k128
        have HSE := Lib.hid (seal_ok bd HB8.out HB8.out.sl HBL.out)
        clear HB8
        (try dsimp only); repeat' (first | go_values | go_skip | go_guarded | go_step | go_upon | go_back)
        refine HSE.out.mono ?_
        rintro r0 w9 ⟨u9, rfl, h9⟩
        have H9 := Lib.hid h9.sw2.drop.sw2.drop
        clear HSE h9
        (try dsimp only); repeat' (first | go_values | go_skip | go_guarded | go_step | go_upon | go_back)
        exact bodyPost_ret (results_tmp2 rfl _ _ _) rfl ⟨_, rfl, H9.out⟩
end Go.Proofs.YtafkbodmiblbnaaGreatDoor
