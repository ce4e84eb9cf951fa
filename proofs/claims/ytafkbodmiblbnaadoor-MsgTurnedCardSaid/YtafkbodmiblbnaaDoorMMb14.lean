/- Stage 5: MsgBack. -/
import Derived.Test.YtafkbodmiblbnaaDoorMZ42
import Derived.Test.YtafkbodmiblbnaaDoorMMb13
namespace Go.Proofs.YtafkbodmiblbnaaDoor
open Go Go.RowKit
set_option linter.unusedVariables false
set_option linter.unusedSimpArgs false
theorem yld_load {P : Program} {o : Oper} {e : Operand → Value} {t : TypeId} {x : Operand} {p v : Value} {w : World} (hop : o.op = .load t x) (hx : e x = p) (hr : (Instr.loadAt t p).run P w = .ok v w) : (execOp e o).run P w = .ok (.value v) w := by
  simp [execOp, hop, hx, hr]
theorem Sep.loadImg {w0 w : World} {b : Nat} {g : MgM} {L : List Thing} (h : Sep w0 (Cl b (mgC g) 39 :: L) w) : (Instr.loadAt 37 (.pointer (some ⟨b, 18, none⟩))).run Tryd.prog w = .ok (.agg (imgC g.ib g.cv g.ev g.ic)) w := by
  have h1 := run_loadAt_mid (P := Tryd.prog) w b 18 37 [.int .i64 g.ib, g.cv, g.ev, .int .i64 g.ic] _ (fun j v hj => by
    have hj4 : j < 4 := by
      rcases Nat.lt_or_ge j 4 with h4 | h4
      · exact h4
      · rw [List.getElem?_eq_none (by simpa using h4)] at hj; cases hj
    match j, hj4 with
    | 0, _ => cases hj; exact h.cell rfl
    | 1, _ => cases hj; exact h.cell rfl
    | 2, _ => cases hj; exact h.cell rfl
    | 3, _ => cases hj; exact h.cell rfl) Tryd.underlying37 rfl (by kernel_rfl)
  exact h1
/-- What the last region of MsgBack loads. -/
def SB (b3 b6 : Nat) (mg mn im inn : Array Value) (ib : Int) (ev : Value) (w : World) : Prop :=
  (Instr.loadAt 39 (.pointer (some ⟨b3, 0, none⟩))).run Tryd.prog w = .ok (.agg mg) w ∧ (Instr.loadAt 39 (.pointer (some ⟨b6, 0, none⟩))).run Tryd.prog w = .ok (.agg mn) w ∧
  (Instr.loadAt 37 (.pointer (some ⟨b3, 18, none⟩))).run Tryd.prog w = .ok (.agg im) w ∧ (Instr.loadAt 37 (.pointer (some ⟨b6, 18, none⟩))).run Tryd.prog w = .ok (.agg inn) w ∧
  w.cell? ⟨b3, 18, none⟩ = some (.int .i64 ib) ∧ w.cell? ⟨b3, 20, none⟩ = some ev
theorem gm_things5 {w0 : World} {g : MgM} {lu cu eu : Value} {qs : List (EnM × Value)} {L : List Thing} {wx : World} (h : Sep w0 (LnR lu g.en.p.ls :: By cu g.ck :: EnT eu qs :: L) wx) : GmS wx { g with lv := lu, cv := cu, ev := eu, ps := qs } := ⟨Sep.lnS h, h.sw2.sl, h.sw3.enS⟩
theorem sameP_of5 {xs ys : List (EnM × Value)} (h : ys.map (·.1) = xs.map (·.1)) : SameP xs ys := by
  have hl : ys.length = xs.length := by have := congrArg List.length h; simpa using this
  refine ⟨hl.symm, fun j h1 h2 => ?_⟩
  have h3 : (ys.map (·.1))[j]? = (xs.map (·.1))[j]? := by rw [h]
  rw [List.getElem?_map, List.getElem?_map, List.getElem?_eq_getElem h1, List.getElem?_eq_getElem h2] at h3
  simp only [Option.map_some, Option.some.injEq] at h3
  rw [h3]
  exact enSame_self _
theorem chk_ls5 {g : MgM} (h : chkB g = true) : (∀ x ∈ g.ps, x.1.p.ls.length ≤ 1000) ∧ g.en.p.ls.length ≤ 1000 := by
  obtain ⟨-, -, -, -, -, -, -, -, -, -, -, he, -, hi⟩ := chk_parts h
  constructor
  · by_cases hb : bit (mfieldsOf g.k) 128 = true
    · obtain ⟨-, -, -, -, -, h1, -⟩ := img_parts hi hb
      intro x hx
      have := ok_len (EnM.parts (h1 x.1 (List.mem_map_of_mem hx))).2
      omega
    · unfold fIB at hi
      rw [if_neg hb, Bool.and_eq_true] at hi
      have h0 : g.ps = [] := List.length_eq_zero_iff.1 (of_decide_eq_true hi.2)
      rw [h0]
      intro x hx
      cases hx
  · unfold fEB at he
    by_cases h16 : bit (mfieldsOf g.k) 16 = true
    · rw [if_pos h16] at he
      have := ok_len (EnM.parts he).2
      omega
    · rw [if_neg h16] at he
      by_cases h32 : bit (mfieldsOf g.k) 32 = true
      · rw [if_pos h32, Bool.and_eq_true] at he
        have := opZ_of he.2
        rw [this]
        show (0 : Nat) ≤ _
        omega
      · rw [if_neg h32] at he
        have := enZ_of he
        rw [this]
        show (0 : Nat) ≤ _
        omega
theorem gs_true {w : World} (g h : MgM) (hg : GmS w g) (hh : GmS w h) (hl : g.ck.length ≤ 1000000) (hx : g.ps.length ≤ 1000000) (e : h.x = g.x) :
    Calls Tryd.prog 11 #[.agg (mgC g), .agg (mgC h)] w fun e w' => e = .returned (.bool true) ∧ Sep w [] w' := by
  obtain ⟨e1, e2⟩ := x_eq e
  have hck : h.ck = g.ck := congrArg MgX.ck e
  have hps : h.ps.length = g.ps.length := by have := congrArg List.length e2; simpa using this
  exact (gsame_w g h hg hh (by omega) (by rw [hck]; omega) hx (by omega)).mono fun e w' ⟨r, he, hr, hs⟩ => ⟨by
    rw [he, gSame_refl h g (by obtain ⟨a1, a2, a3, a4, a5, a6, a7, a8, a9, a10, a11, a12, a13, a14, a15⟩ := e1; exact ⟨a1.symm, a2.symm, a3.symm, a4.symm, a5.symm, a6.symm, a7.symm, a8.symm, a9.symm, a10.symm, a11.symm, a12.symm, a13.symm, a14.symm, a15.symm⟩), hr.2 (sameP_of5 e2)]; rfl, hs⟩
theorem gi_true {w : World} (ib ic : Int) (cv ev cu eu : Value) (l : List UInt8) (xs ys : List (EnM × Value)) (hcv : Sl w cv (bv l)) (hcu : Sl w cu (bv l)) (hev : EnS w ev xs) (heu : EnS w eu ys) (hl : l.length ≤ 1000000) (hx : xs.length ≤ 1000000) (e : ys.map (·.1) = xs.map (·.1)) :
    Calls Tryd.prog 13 #[.agg (imgC ib cv ev ic), .agg (imgC ib cu eu ic)] w fun e w' => e = .returned (.bool true) ∧ Sep w [] w' := by
  have hy : ys.length = xs.length := by have := congrArg List.length e; simpa using this
  exact (msameimg_w ib ic ib ic cv ev cu eu l l xs ys hcv hcu hev heu (by omega) (by omega) hx (by omega)).mono fun e' w' ⟨r, he, hr, hs⟩ => ⟨by
    rw [he, hr.2 (sameP_of5 e)]; simp [imgSame], hs⟩
set_option maxRecDepth 100000 in
set_option maxHeartbeats 64000000 in
theorem back05_any (s : SdM) (w : World) (hs : SdS w s) (hk : KindsAt w ∧ MKindsAt w) :
    Calls Tryd.prog 3 #[.agg (sdC s)] w fun e w' => e = .returned (.bool true) ∧ Below w.heap.size w w' := by
  have HKX : Hid (∀ {L : List Thing} wx, Sep w L wx → KindsAt wx ∧ MKindsAt wx) := Lib.hid fun wx hx => ⟨hk.1.below hx.low, hk.2.below hx.low⟩
  have HSD : Hid (∀ {L : List Thing} wx, Sep w L wx → SdS wx s) := Lib.hid fun wx hx => hs.below hx.low
  have h1 := (Sep.start w).alloc (.cells (sdC s) 26)
  obtain ⟨b1, hb1⟩ : ∃ z, z = w.heap.size := ⟨_, rfl⟩
  obtain ⟨w1, hw1⟩ : ∃ z, z = w.alloc (.cells (sdC s) 26) := ⟨_, rfl⟩
  rw [← hw1, ← hb1] at h1
  have HW := Lib.hid (works05_any h1 (fun wx hx => HKX.out wx hx))
  have hsz : (sdC s).size = 9 := rfl
  obtain ⟨sdc, hsdc⟩ : ∃ z, z = sdC s := ⟨_, rfl⟩
  have HSC : Hid (sdc.size = 9) := Lib.hid (by rw [hsdc]; rfl)
  have HSD2 := Lib.hid hsdc
  rw [← hsdc] at HW hw1 ⊢
  clear h1 hs hk hsz hsdc
  go_enter Tryd.func3, Tryd.ntmps3
  (try dsimp only); repeat' (first | go_values | go_skip | go_guarded | go_step | go_upon | go_back)
  (try rw [← hw1])
  (try rw [← hb1])
  clear hw1 hb1
  refine HW.out.mono ?_
  rintro r0 w2 ⟨rfl, h2⟩
  have HMD := Lib.hid (made05_any s h2 (fun wx hx => HSD.out wx hx))
  rw [← HSD2.out] at HMD
  have HLS := Lib.hid (h2.loadW 26 Tryd.underlying26 rfl (by rw [HSC.out]; kernel_rfl))
  clear HW h2
  (try dsimp only); repeat' (first | (with_reducible show wpList _ _ _ (Oper.mk _ (Op.load 26 _) _ _ _ _ :: _) _ _; refine stopP ?_) | go_values | go_skip | go_guarded | go_step | go_upon | go_back)
  unfold StopP
  have hq_ := HLS.out
  refine wpList_load_run rfl 26 _ rfl _ _ rfl hq_ ?_
  clear hq_ HLS
  (try dsimp only); repeat' (first | go_values | go_skip | go_guarded | go_step | go_upon | go_back)
  refine HMD.out.mono ?_
  rintro r0 w3 ⟨g, rfl, hc, h3⟩
  have HCH := Lib.hid hc
  have HLEN := Lib.hid (chk_lens hc)
  clear HMD
  have hx3 := h3.alloc (.cells #[.int .i64 0, .int .i64 0, .int .i64 0, .int .i64 0, .int .i64 0, .int .i64 0, .int .i64 0, .int .i64 0, .int .i64 0, .int .i64 0, .string ⟨#[]⟩, .int .i64 0, .int .i64 0, .slice none 0 0, .int .i64 0, .int .i64 0, .int .i64 0, .bool false, .int .i64 0, .slice none 0 0, .slice none 0 0, .int .i64 0] 39)
  obtain ⟨b3, hb3⟩ : ∃ z, z = w3.heap.size := ⟨_, rfl⟩
  obtain ⟨vx3, hvx3⟩ : ∃ z, z = w3.alloc (.cells #[.int .i64 0, .int .i64 0, .int .i64 0, .int .i64 0, .int .i64 0, .int .i64 0, .int .i64 0, .int .i64 0, .int .i64 0, .int .i64 0, .string ⟨#[]⟩, .int .i64 0, .int .i64 0, .slice none 0 0, .int .i64 0, .int .i64 0, .int .i64 0, .bool false, .int .i64 0, .slice none 0 0, .slice none 0 0, .int .i64 0] 39) := ⟨_, rfl⟩
  rw [← hvx3, ← hb3] at hx3
  have HT3 := Lib.hid (hx3.thereAt 0 22 (by show 22 ≤ 22; omega))
  have h4 := hx3.storeW (mgC g) rfl
  obtain ⟨o1, o2, o3⟩ := gm_shape (gm_own0 (g := g) h4.drop)
  have H1C := Lib.hid (mgC_one g o1 o2 o3)
  obtain ⟨mc3, hmc3⟩ : ∃ z, z = mgC g := ⟨_, rfl⟩
  have HMC3 := Lib.hid hmc3
  have HMS3 : Hid (mc3.size = 22) := Lib.hid (by rw [hmc3]; rfl)
  rw [← hmc3] at H1C h4 ⊢
  obtain ⟨w4, hw4⟩ : ∃ z, z = vx3.setCells b3 0 mc3.toList := ⟨_, rfl⟩
  rw [← hw4] at h4
  clear hx3 h3 o1 o2 o3 hmc3
  (try dsimp only); repeat' (first | (with_reducible show wpList _ _ _ (Oper.mk _ (Op.store 39 _ _) _ _ _ _ :: _) _ _; refine stopP ?_) | go_values | go_skip | go_guarded | go_step | go_upon | go_back)
  unfold StopP
  rw [← hvx3, ← hb3]
  refine wpList_store_mid rfl 39 (.tmp 3) (.tmp 11) rfl b3 0 mc3 rfl rfl (by rw [HMS3.out]; exact HT3.out) (by rw [HMS3.out]; kernel_rfl) H1C.out ?_
  rw [← hw4]
  clear hvx3 hb3 hw4 HT3 H1C
  have hby := mbytes_ok g h4 (fun wx hx => gm_own0 hx.drop) (fun wx hx => HKX.out wx hx) (by have := HLEN.out; omega) (by have := HLEN.out; omega) HCH.out
  rw [← HMC3.out] at hby
  have HBY := Lib.hid hby
  have HLM := Lib.hid (h4.loadW 39 Tryd.underlying39 rfl (by rw [HMS3.out]; kernel_rfl))
  clear h4 hby hc
  (try dsimp only); repeat' (first | (with_reducible show wpList _ _ _ (Oper.mk _ (Op.load 39 _) _ _ _ _ :: _) _ _; refine stopP ?_) | go_values | go_skip | go_guarded | go_step | go_upon | go_back)
  unfold StopP
  have hq_ := HLM.out
  refine wpList_load_run rfl 39 _ rfl _ _ rfl hq_ ?_
  clear hq_ HLM
  (try dsimp only); repeat' (first | go_values | go_skip | go_guarded | go_step | go_upon | go_back)
  refine HBY.out.mono ?_
  rintro r0 w5 ⟨u5, rfl, h5⟩
  obtain ⟨ua, uc, rfl⟩ := h5.sl.len
  have hpa := mparse_any (sealL (bodyB g.x)) h5 h5.sl (fun wx hx => HKX.out wx hx)
  rw [prsMsg_back (by rw [chkX_x]; exact HCH.out)] at hpa
  have HPA := Lib.hid hpa
  clear HBY h5 hpa
  (try dsimp only); repeat' (first | go_values | go_skip | go_guarded | go_step | go_upon | go_back)
  refine HPA.out.mono ?_
  rintro r0 w6 ⟨n, rfl, hnx, h6⟩
  have HNX := Lib.hid hnx
  dsimp only
  clear HPA hnx
  have hx6 := h6.alloc (.cells #[.int .i64 0, .int .i64 0, .int .i64 0, .int .i64 0, .int .i64 0, .int .i64 0, .int .i64 0, .int .i64 0, .int .i64 0, .int .i64 0, .string ⟨#[]⟩, .int .i64 0, .int .i64 0, .slice none 0 0, .int .i64 0, .int .i64 0, .int .i64 0, .bool false, .int .i64 0, .slice none 0 0, .slice none 0 0, .int .i64 0] 39)
  obtain ⟨b6, hb6⟩ : ∃ z, z = w6.heap.size := ⟨_, rfl⟩
  obtain ⟨vx6, hvx6⟩ : ∃ z, z = w6.alloc (.cells #[.int .i64 0, .int .i64 0, .int .i64 0, .int .i64 0, .int .i64 0, .int .i64 0, .int .i64 0, .int .i64 0, .int .i64 0, .int .i64 0, .string ⟨#[]⟩, .int .i64 0, .int .i64 0, .slice none 0 0, .int .i64 0, .int .i64 0, .int .i64 0, .bool false, .int .i64 0, .slice none 0 0, .slice none 0 0, .int .i64 0] 39) := ⟨_, rfl⟩
  rw [← hvx6, ← hb6] at hx6
  have HT6 := Lib.hid (hx6.thereAt 0 22 (by show 22 ≤ 22; omega))
  have h7 := hx6.storeW (mgC n) rfl
  obtain ⟨o1, o2, o3⟩ := gm_shape (gm_own0 (g := n) h7.drop)
  have H1C := Lib.hid (mgC_one n o1 o2 o3)
  obtain ⟨mc6, hmc6⟩ : ∃ z, z = mgC n := ⟨_, rfl⟩
  have HMC6 := Lib.hid hmc6
  have HMS6 : Hid (mc6.size = 22) := Lib.hid (by rw [hmc6]; rfl)
  rw [← hmc6] at H1C h7 ⊢
  obtain ⟨w7, hw7⟩ : ∃ z, z = vx6.setCells b6 0 mc6.toList := ⟨_, rfl⟩
  rw [← hw7] at h7
  clear hx6 h6 o1 o2 o3 hmc6
  (try dsimp only); repeat' (first | (with_reducible show wpList _ _ _ (Oper.mk _ (Op.store 39 _ _) _ _ _ _ :: _) _ _; refine stopP ?_) | go_values | go_skip | go_guarded | go_step | go_upon | go_back)
  unfold StopP
  rw [← hvx6, ← hb6]
  refine wpList_store_mid rfl 39 (.tmp 6) (.tmp 20) rfl b6 0 mc6 rfl rfl (by rw [HMS6.out]; exact HT6.out) (by rw [HMS6.out]; kernel_rfl) H1C.out ?_
  rw [← hw7]
  clear hvx6 hb6 hw7 HT6 H1C
  obtain ⟨e1, e2⟩ := x_eq (g := n) (h := g) HNX.out
  have hck : n.ck = g.ck := congrArg MgX.ck HNX.out
  have hib : n.ib = g.ib := congrArg MgX.ib HNX.out
  have hic : n.ic = g.ic := congrArg MgX.ic HNX.out
  have hbo : ∀ wx, Below w7.heap.size w7 wx → GmS wx g ∧ GmS wx n ∧ (KindsAt wx ∧ MKindsAt wx) := fun wx hb => by
    have h8 := h7.below hb
    exact ⟨gm_own0 (h8.pickL (M := [_, _, _, _, _, _, _, _, _, _]) [6, 7, 8] rfl), gm_own0 h8.drop, HKX.out wx h8⟩
  obtain ⟨ea, ec, hev⟩ := (hbo w7 (Below.refl _ _)).1.2.2.len
  obtain ⟨en, hen⟩ : ∃ z, z = g.ps.length := ⟨_, rfl⟩
  rw [← hen] at hev
  obtain ⟨gib, hgib⟩ : ∃ z, z = g.ib := ⟨_, rfl⟩
  obtain ⟨im, him⟩ : ∃ z, z = imgC g.ib g.cv g.ev g.ic := ⟨_, rfl⟩
  obtain ⟨inn, hinn⟩ : ∃ z, z = imgC n.ib n.cv n.ev n.ic := ⟨_, rfl⟩
  have HSB : Hid (∀ wx, Below w7.heap.size w7 wx → SB b3 b6 mc3 mc6 im inn gib (.slice ea en ec) wx) := Lib.hid fun wx hb => by
    have h8 := h7.below hb
    have h9 := h8.pickL (M := [_, _, _, _, _, _, _, _, _, _]) [5, 0] rfl
    rw [HMC3.out, HMC6.out] at h9
    rw [HMC3.out, HMC6.out, him, hinn, hgib, ← hev]
    exact ⟨h9.loadW 39 Tryd.underlying39 rfl (by kernel_rfl), h9.sw2.loadW 39 Tryd.underlying39 rfl (by kernel_rfl), h9.loadImg, h9.sw2.loadImg, h9.cell rfl, h9.cell rfl⟩
  have hl1 := HLEN.out.1
  have hl2 := HLEN.out.2
  obtain ⟨hs1, hs2⟩ := chk_ls5 HCH.out
  have HC1 : Hid (∀ wx, Below w7.heap.size w7 wx → Calls Tryd.prog 10 #[.agg mc3] wx fun e w' => e = .returned (.int .i64 0) ∧ Sep wx [] w') := Lib.hid fun wx hb => by
    have := gcheck_w (w := wx) g (hbo wx hb).1 (hbo wx hb).2.2.1 (hbo wx hb).2.2.2 (by omega) (by omega)
    rwa [HCH.out, if_pos rfl, ← HMC3.out] at this
  have HC2 : Hid (∀ wx, Below w7.heap.size w7 wx → Calls Tryd.prog 11 #[.agg mc3, .agg mc6] wx fun e w' => e = .returned (.bool true) ∧ Sep wx [] w') := Lib.hid fun wx hb => by
    rw [HMC3.out, HMC6.out]
    exact gs_true g n (hbo wx hb).1 (hbo wx hb).2.1 (by omega) (by omega) HNX.out
  have HC3 : Hid (∀ wx, Below w7.heap.size w7 wx → Calls Tryd.prog 12 #[.agg mc3] wx fun e w' => ∃ lu cu eu qs, e = .returned (.agg (mgC { g with lv := lu, cv := cu, ev := eu, ps := qs })) ∧ qs.map (·.1) = g.ps.map (·.1) ∧ Sep wx [LnR lu g.en.p.ls, By cu g.ck, EnT eu qs] w') := Lib.hid fun wx hb => by
    rw [HMC3.out]
    exact gcopy_w g (hbo wx hb).1 (by omega) (by omega) hs1 hs2
  have HSC9 : Hid (∀ wx, Below w7.heap.size w7 wx → ∀ lu cu eu (qs : List (EnM × Value)), qs.map (·.1) = g.ps.map (·.1) → GmS wx { g with lv := lu, cv := cu, ev := eu, ps := qs } → Calls Tryd.prog 11 #[.agg mc6, .agg (mgC { g with lv := lu, cv := cu, ev := eu, ps := qs })] wx fun e w' => e = .returned (.bool true) ∧ Sep wx [] w') := Lib.hid fun wx hb lu cu eu qs hq hg => by
    rw [HMC6.out]
    refine gs_true n { g with lv := lu, cv := cu, ev := eu, ps := qs } (hbo wx hb).2.1 hg (by rw [hck]; omega) (by have := congrArg List.length e2; simp only [List.length_map] at this; omega) ?_
    rw [HNX.out]
    unfold MgM.x
    rw [hq]
  have HC5 : Hid (∀ wx, Below w7.heap.size w7 wx → Calls Tryd.prog 14 #[.agg im] wx fun e w' => ∃ cu eu qs, e = .returned (.agg (imgC g.ib cu eu g.ic)) ∧ qs.map (·.1) = g.ps.map (·.1) ∧ Sep wx [By cu g.ck, EnT eu qs] w') := Lib.hid fun wx hb => by
    rw [him]
    exact gcimg_w g.ib g.ic g.cv g.ev g.ck g.ps (hbo wx hb).1.2.1 (hbo wx hb).1.2.2 (by omega) (by omega) hs1
  have HSI : Hid (∀ wx, Below w7.heap.size w7 wx → ∀ cu eu (qs : List (EnM × Value)), qs.map (·.1) = g.ps.map (·.1) → Sl wx cu (bv g.ck) → EnS wx eu qs → Calls Tryd.prog 13 #[.agg inn, .agg (imgC g.ib cu eu g.ic)] wx fun e w' => e = .returned (.bool true) ∧ Sep wx [] w') := Lib.hid fun wx hb cu eu qs hq h1 h2 => by
    rw [hinn, hib, hic]
    have h3 := (hbo wx hb).2.1
    refine gi_true g.ib g.ic n.cv n.ev cu eu g.ck n.ps qs (by rw [← hck]; exact h3.2.1) h1 h3.2.2 h2 (by omega) (by have := congrArg List.length e2; simp only [List.length_map] at this; omega) (by rw [hq, e2])
  have htop : (0 ≤ g.ib ∧ g.ib ≤ 9007199254740991) := by
    obtain ⟨-, -, -, -, -, -, -, -, -, -, -, -, -, h9⟩ := chk_parts HCH.out
    by_cases hb : bit (mfieldsOf g.k) 128 = true
    · obtain ⟨i0, i1, -⟩ := img_parts h9 hb
      exact ⟨i0, i1⟩
    · unfold fIB at h9
      rw [if_neg hb] at h9
      unfold imgSame at h9
      simp only [Bool.and_eq_true, decide_eq_true_eq] at h9
      omega
  have wt : IntKind.i64.wrap (gib + (en : Int)) = gib + en := by rw [IntKind.wrap_i64]; omega
  have HC7 : Hid (∀ wx, Below w7.heap.size w7 wx → Calls Tryd.prog 15 #[.agg im] wx fun e w' => e = .returned (.int .i64 (gib + en)) ∧ Sep wx [] w') := Lib.hid fun wx hb => by
    rw [him, hev, ← hgib]
    exact mtop_any gib g.ic g.cv ea en ec (Sep.start wx) wt
  have HLO := Lib.hid h7.low
  have n0 : (0 : Int) ≤ (en : Int) := by omega
  have B0 : Below w7.heap.size w7 w7.drew := (Below.refl _ w7).drew
  clear h7 e1 e2 hck hib hic hbo hen him hinn hgib hl1 hl2 hs1 hs2 htop hev
  (try dsimp only); repeat' (first | go_values | go_skip | go_guarded | go_step | go_upon | go_back)
  refine wp_region_G (SB b3 b6 mc3 mc6 im inn gib (.slice ea en ec)) [44] (by kernel_rfl) (HSB.out _ B0) (fun hS => ?_)
  try dsimp only at hS
  refine wpAnyG_take' (i := 0) (v := .agg mc3) rfl (by kernel_rfl) (by kernel_rfl) (by kernel_rfl) (by kernel_rfl) (fun _ _ _ h => h) (Or.inl ⟨by rfl, ?hy0_1bk⟩) hS ?rest0_1bk
  case hy0_1bk => intro w hSw; exact yld_load rfl rfl hSw.1
  case rest0_1bk =>
  try simp only [List.getElem_toArray, List.getElem_cons_succ, List.getElem_cons_zero, Act.put, List.setIfInBounds_toArray, List.set_cons_zero, List.set_cons_succ]
  refine wpAnyG_one (i := 1) (by kernel_rfl) rfl (fun K hK => ?_)
  go_simp
  refine (HC1.out _ B0).mono ?_
  rintro r0 w7 ⟨rfl, h7⟩
  have B7 := B0.trans (h7.low.mono B0.size)
  clear h7
  refine hK.out _ _ (fun _ => ?hS2bk) ?rest2bk
  case hS2bk => exact (HSB.out _ B7)
  clear K hK
  try simp only [List.getElem_toArray, List.getElem_cons_succ, List.getElem_cons_zero, Act.put, List.setIfInBounds_toArray, List.set_cons_zero, List.set_cons_succ]
  refine wpAnyG_take' (i := 2) (v := ?v2_3bk) rfl (by kernel_rfl) (by kernel_rfl) (by kernel_rfl) (by kernel_rfl) (fun _ _ _ h => h) (Or.inl ⟨by rfl, ?hy2_3bk⟩) (HSB.out _ B7) ?rest2_3bk
  case hy2_3bk => intro w hSw; (try dsimp only at hSw); go_simp; (try with_reducible rfl)
  case rest2_3bk =>
  try simp only [List.getElem_toArray, List.getElem_cons_succ, List.getElem_cons_zero, Act.put, List.setIfInBounds_toArray, List.set_cons_zero, List.set_cons_succ]
  refine wpAnyG_take' (i := 3) (v := ?v3_4bk) rfl (by kernel_rfl) (by kernel_rfl) (by kernel_rfl) (by kernel_rfl) (fun _ _ _ h => h) (Or.inl ⟨by rfl, ?hy3_4bk⟩) (HSB.out _ B7) ?rest3_4bk
  case hy3_4bk => intro w hSw; (try dsimp only at hSw); go_simp; (try with_reducible rfl)
  case rest3_4bk =>
  try simp only [List.getElem_toArray, List.getElem_cons_succ, List.getElem_cons_zero, Act.put, List.setIfInBounds_toArray, List.set_cons_zero, List.set_cons_succ]
  refine wpAnyG_take' (i := 4) (v := ?v4_5bk) rfl (by kernel_rfl) (by kernel_rfl) (by kernel_rfl) (by kernel_rfl) (fun _ _ _ h => h) (Or.inl ⟨by rfl, ?hy4_5bk⟩) (HSB.out _ B7) ?rest4_5bk
  case hy4_5bk => intro w hSw; (try dsimp only at hSw); go_simp; (try with_reducible rfl)
  case rest4_5bk =>
  try simp only [List.getElem_toArray, List.getElem_cons_succ, List.getElem_cons_zero, Act.put, List.setIfInBounds_toArray, List.set_cons_zero, List.set_cons_succ]
  refine wpAnyG_take' (i := 5) (v := ?v5_6bk) rfl (by kernel_rfl) (by kernel_rfl) (by kernel_rfl) (by kernel_rfl) (fun _ _ _ h => h) (Or.inl ⟨by rfl, ?hy5_6bk⟩) (HSB.out _ B7) ?rest5_6bk
  case hy5_6bk => intro w hSw; (try dsimp only at hSw); go_simp; (try with_reducible rfl)
  case rest5_6bk =>
  try simp only [List.getElem_toArray, List.getElem_cons_succ, List.getElem_cons_zero, Act.put, List.setIfInBounds_toArray, List.set_cons_zero, List.set_cons_succ]
  refine wpAnyG_take' (i := 6) (v := ?v6_7bk) rfl (by kernel_rfl) (by kernel_rfl) (by kernel_rfl) (by kernel_rfl) (fun _ _ _ h => h) (Or.inl ⟨by rfl, ?hy6_7bk⟩) (HSB.out _ B7) ?rest6_7bk
  case hy6_7bk => intro w hSw; (try dsimp only at hSw); go_simp; (try with_reducible rfl)
  case rest6_7bk =>
  try simp only [List.getElem_toArray, List.getElem_cons_succ, List.getElem_cons_zero, Act.put, List.setIfInBounds_toArray, List.set_cons_zero, List.set_cons_succ]
  refine wpAnyG_take' (i := 7) (v := ?v7_8bk) rfl (by kernel_rfl) (by kernel_rfl) (by kernel_rfl) (by kernel_rfl) (fun _ _ _ h => h) (Or.inl ⟨by rfl, ?hy7_8bk⟩) (HSB.out _ B7) ?rest7_8bk
  case hy7_8bk => intro w hSw; (try dsimp only at hSw); go_simp; (try with_reducible rfl)
  case rest7_8bk =>
  try simp only [List.getElem_toArray, List.getElem_cons_succ, List.getElem_cons_zero, Act.put, List.setIfInBounds_toArray, List.set_cons_zero, List.set_cons_succ]
  refine wpAnyG_take' (i := 8) (v := ?v8_9bk) rfl (by kernel_rfl) (by kernel_rfl) (by kernel_rfl) (by kernel_rfl) (fun _ _ _ h => h) (Or.inl ⟨by rfl, ?hy8_9bk⟩) (HSB.out _ B7) ?rest8_9bk
  case hy8_9bk => intro w hSw; (try dsimp only at hSw); go_simp; (try with_reducible rfl)
  case rest8_9bk =>
  try simp only [List.getElem_toArray, List.getElem_cons_succ, List.getElem_cons_zero, Act.put, List.setIfInBounds_toArray, List.set_cons_zero, List.set_cons_succ]
  refine wpAnyG_take' (i := 9) (v := ?v9_10bk) rfl (by kernel_rfl) (by kernel_rfl) (by kernel_rfl) (by kernel_rfl) (fun _ _ _ h => h) (Or.inl ⟨by rfl, ?hy9_10bk⟩) (HSB.out _ B7) ?rest9_10bk
  case hy9_10bk => intro w hSw; (try dsimp only at hSw); go_simp; (try with_reducible rfl)
  case rest9_10bk =>
  try simp only [List.getElem_toArray, List.getElem_cons_succ, List.getElem_cons_zero, Act.put, List.setIfInBounds_toArray, List.set_cons_zero, List.set_cons_succ]
  refine wpAnyG_take' (i := 10) (v := ?v10_11bk) rfl (by kernel_rfl) (by kernel_rfl) (by kernel_rfl) (by kernel_rfl) (fun _ _ _ h => h) (Or.inl ⟨by rfl, ?hy10_11bk⟩) (HSB.out _ B7) ?rest10_11bk
  case hy10_11bk => intro w hSw; (try dsimp only at hSw); go_simp; (try with_reducible rfl)
  case rest10_11bk =>
  try simp only [List.getElem_toArray, List.getElem_cons_succ, List.getElem_cons_zero, Act.put, List.setIfInBounds_toArray, List.set_cons_zero, List.set_cons_succ]
  refine wpAnyG_take' (i := 11) (v := ?v11_12bk) rfl (by kernel_rfl) (by kernel_rfl) (by kernel_rfl) (by kernel_rfl) (fun _ _ _ h => h) (Or.inl ⟨by rfl, ?hy11_12bk⟩) (HSB.out _ B7) ?rest11_12bk
  case hy11_12bk => intro w hSw; (try dsimp only at hSw); go_simp; (try with_reducible rfl)
  case rest11_12bk =>
  try simp only [List.getElem_toArray, List.getElem_cons_succ, List.getElem_cons_zero, Act.put, List.setIfInBounds_toArray, List.set_cons_zero, List.set_cons_succ]
  refine wpAnyG_take' (i := 12) (v := .agg mc3) rfl (by kernel_rfl) (by kernel_rfl) (by kernel_rfl) (by kernel_rfl) (fun _ _ _ h => h) (Or.inl ⟨by rfl, ?hy12_13bk⟩) (HSB.out _ B7) ?rest12_13bk
  case hy12_13bk => intro w hSw; exact yld_load rfl rfl hSw.1
  case rest12_13bk =>
  try simp only [List.getElem_toArray, List.getElem_cons_succ, List.getElem_cons_zero, Act.put, List.setIfInBounds_toArray, List.set_cons_zero, List.set_cons_succ]
  refine wpAnyG_take' (i := 13) (v := .agg mc6) rfl (by kernel_rfl) (by kernel_rfl) (by kernel_rfl) (by kernel_rfl) (fun _ _ _ h => h) (Or.inl ⟨by rfl, ?hy13_14bk⟩) (HSB.out _ B7) ?rest13_14bk
  case hy13_14bk => intro w hSw; exact yld_load rfl rfl hSw.2.1
  case rest13_14bk =>
  try simp only [List.getElem_toArray, List.getElem_cons_succ, List.getElem_cons_zero, Act.put, List.setIfInBounds_toArray, List.set_cons_zero, List.set_cons_succ]
  refine wpAnyG_one (i := 14) (by kernel_rfl) rfl (fun K hK => ?_)
  go_simp
  refine (HC2.out _ B7).mono ?_
  rintro r0 w8 ⟨rfl, h8⟩
  have B8 := B7.trans (h8.low.mono B7.size)
  clear h8
  refine hK.out _ _ (fun _ => ?hS15bk) ?rest15bk
  case hS15bk => exact (HSB.out _ B8)
  clear K hK
  try simp only [List.getElem_toArray, List.getElem_cons_succ, List.getElem_cons_zero, Act.put, List.setIfInBounds_toArray, List.set_cons_zero, List.set_cons_succ]
  refine wpAnyG_take' (i := 15) (v := ?v15_16bk) rfl (by kernel_rfl) (by kernel_rfl) (by kernel_rfl) (by kernel_rfl) (fun _ _ _ h => h) (Or.inl ⟨by rfl, ?hy15_16bk⟩) (HSB.out _ B8) ?rest15_16bk
  case hy15_16bk => intro w hSw; (try dsimp only at hSw); go_simp; (try with_reducible rfl)
  case rest15_16bk =>
  try simp only [List.getElem_toArray, List.getElem_cons_succ, List.getElem_cons_zero, Act.put, List.setIfInBounds_toArray, List.set_cons_zero, List.set_cons_succ]
  refine wpAnyG_take' (i := 16) (v := ?v16_17bk) rfl (by kernel_rfl) (by kernel_rfl) (by kernel_rfl) (by kernel_rfl) (fun _ _ _ h => h) (Or.inl ⟨by rfl, ?hy16_17bk⟩) (HSB.out _ B8) ?rest16_17bk
  case hy16_17bk => intro w hSw; (try dsimp only at hSw); go_simp; (try with_reducible rfl)
  case rest16_17bk =>
  try simp only [List.getElem_toArray, List.getElem_cons_succ, List.getElem_cons_zero, Act.put, List.setIfInBounds_toArray, List.set_cons_zero, List.set_cons_succ]
  refine wpAnyG_take' (i := 17) (v := .agg mc6) rfl (by kernel_rfl) (by kernel_rfl) (by kernel_rfl) (by kernel_rfl) (fun _ _ _ h => h) (Or.inl ⟨by rfl, ?hy17_18bk⟩) (HSB.out _ B8) ?rest17_18bk
  case hy17_18bk => intro w hSw; exact yld_load rfl rfl hSw.2.1
  case rest17_18bk =>
  try simp only [List.getElem_toArray, List.getElem_cons_succ, List.getElem_cons_zero, Act.put, List.setIfInBounds_toArray, List.set_cons_zero, List.set_cons_succ]
  refine wpAnyG_take' (i := 18) (v := .agg mc3) rfl (by kernel_rfl) (by kernel_rfl) (by kernel_rfl) (by kernel_rfl) (fun _ _ _ h => h) (Or.inl ⟨by rfl, ?hy18_19bk⟩) (HSB.out _ B8) ?rest18_19bk
  case hy18_19bk => intro w hSw; exact yld_load rfl rfl hSw.1
  case rest18_19bk =>
  try simp only [List.getElem_toArray, List.getElem_cons_succ, List.getElem_cons_zero, Act.put, List.setIfInBounds_toArray, List.set_cons_zero, List.set_cons_succ]
  refine wpAnyG_one (i := 19) (by kernel_rfl) rfl (fun K hK => ?_)
  go_simp
  refine (HC3.out _ B8).mono ?_
  rintro r0 w9 ⟨lu, cu, eu, qs, rfl, hqs, h9⟩
  have B9 := B8.trans (h9.low.mono B8.size)
  have HC4 := Lib.hid (HSC9.out _ B9 lu cu eu qs hqs (gm_things5 h9))
  clear h9
  refine hK.out _ _ (fun _ => ?hS20bk) ?rest20bk
  case hS20bk => exact (HSB.out _ B9)
  clear K hK
  try simp only [List.getElem_toArray, List.getElem_cons_succ, List.getElem_cons_zero, Act.put, List.setIfInBounds_toArray, List.set_cons_zero, List.set_cons_succ]
  refine wpAnyG_one (i := 20) (by kernel_rfl) rfl (fun K hK => ?_)
  go_simp
  refine HC4.out.mono ?_
  rintro r0 w10 ⟨rfl, h10⟩
  have B10 := B9.trans (h10.low.mono B9.size)
  clear h10 HC4
  refine hK.out _ _ (fun _ => ?hS21bk) ?rest21bk
  case hS21bk => exact (HSB.out _ B10)
  clear K hK
  try simp only [List.getElem_toArray, List.getElem_cons_succ, List.getElem_cons_zero, Act.put, List.setIfInBounds_toArray, List.set_cons_zero, List.set_cons_succ]
  refine wpAnyG_take' (i := 21) (v := ?v21_22bk) rfl (by kernel_rfl) (by kernel_rfl) (by kernel_rfl) (by kernel_rfl) (fun _ _ _ h => h) (Or.inl ⟨by rfl, ?hy21_22bk⟩) (HSB.out _ B10) ?rest21_22bk
  case hy21_22bk => intro w hSw; (try dsimp only at hSw); go_simp; (try with_reducible rfl)
  case rest21_22bk =>
  try simp only [List.getElem_toArray, List.getElem_cons_succ, List.getElem_cons_zero, Act.put, List.setIfInBounds_toArray, List.set_cons_zero, List.set_cons_succ]
  refine wpAnyG_take' (i := 22) (v := ?v22_23bk) rfl (by kernel_rfl) (by kernel_rfl) (by kernel_rfl) (by kernel_rfl) (fun _ _ _ h => h) (Or.inl ⟨by rfl, ?hy22_23bk⟩) (HSB.out _ B10) ?rest22_23bk
  case hy22_23bk => intro w hSw; (try dsimp only at hSw); go_simp; (try with_reducible rfl)
  case rest22_23bk =>
  try simp only [List.getElem_toArray, List.getElem_cons_succ, List.getElem_cons_zero, Act.put, List.setIfInBounds_toArray, List.set_cons_zero, List.set_cons_succ]
  refine wpAnyG_take' (i := 23) (v := ?v23_24bk) rfl (by kernel_rfl) (by kernel_rfl) (by kernel_rfl) (by kernel_rfl) (fun _ _ _ h => h) (Or.inl ⟨by rfl, ?hy23_24bk⟩) (HSB.out _ B10) ?rest23_24bk
  case hy23_24bk => intro w hSw; (try dsimp only at hSw); go_simp; (try with_reducible rfl)
  case rest23_24bk =>
  try simp only [List.getElem_toArray, List.getElem_cons_succ, List.getElem_cons_zero, Act.put, List.setIfInBounds_toArray, List.set_cons_zero, List.set_cons_succ]
  refine wpAnyG_take' (i := 24) (v := .agg inn) rfl (by kernel_rfl) (by kernel_rfl) (by kernel_rfl) (by kernel_rfl) (fun _ _ _ h => h) (Or.inl ⟨by rfl, ?hy24_25bk⟩) (HSB.out _ B10) ?rest24_25bk
  case hy24_25bk => intro w hSw; exact yld_load rfl rfl hSw.2.2.2.1
  case rest24_25bk =>
  try simp only [List.getElem_toArray, List.getElem_cons_succ, List.getElem_cons_zero, Act.put, List.setIfInBounds_toArray, List.set_cons_zero, List.set_cons_succ]
  refine wpAnyG_take' (i := 25) (v := ?v25_26bk) rfl (by kernel_rfl) (by kernel_rfl) (by kernel_rfl) (by kernel_rfl) (fun _ _ _ h => h) (Or.inl ⟨by rfl, ?hy25_26bk⟩) (HSB.out _ B10) ?rest25_26bk
  case hy25_26bk => intro w hSw; (try dsimp only at hSw); go_simp; (try with_reducible rfl)
  case rest25_26bk =>
  try simp only [List.getElem_toArray, List.getElem_cons_succ, List.getElem_cons_zero, Act.put, List.setIfInBounds_toArray, List.set_cons_zero, List.set_cons_succ]
  refine wpAnyG_take' (i := 26) (v := .agg im) rfl (by kernel_rfl) (by kernel_rfl) (by kernel_rfl) (by kernel_rfl) (fun _ _ _ h => h) (Or.inl ⟨by rfl, ?hy26_27bk⟩) (HSB.out _ B10) ?rest26_27bk
  case hy26_27bk => intro w hSw; exact yld_load rfl rfl hSw.2.2.1
  case rest26_27bk =>
  try simp only [List.getElem_toArray, List.getElem_cons_succ, List.getElem_cons_zero, Act.put, List.setIfInBounds_toArray, List.set_cons_zero, List.set_cons_succ]
  refine wpAnyG_one (i := 27) (by kernel_rfl) rfl (fun K hK => ?_)
  go_simp
  refine (HC5.out _ B10).mono ?_
  rintro r0 w11 ⟨cu2, eu2, qs2, rfl, hqs2, h11⟩
  have B11 := B10.trans (h11.low.mono B10.size)
  have HC6 := Lib.hid (HSI.out _ B11 cu2 eu2 qs2 hqs2 h11.sl h11.sw2.enS)
  clear h11
  refine hK.out _ _ (fun _ => ?hS28bk) ?rest28bk
  case hS28bk => exact (HSB.out _ B11)
  clear K hK
  try simp only [List.getElem_toArray, List.getElem_cons_succ, List.getElem_cons_zero, Act.put, List.setIfInBounds_toArray, List.set_cons_zero, List.set_cons_succ]
  refine wpAnyG_one (i := 28) (by kernel_rfl) rfl (fun K hK => ?_)
  go_simp
  refine HC6.out.mono ?_
  rintro r0 w12 ⟨rfl, h12⟩
  have B12 := B11.trans (h12.low.mono B11.size)
  clear h12 HC6
  refine hK.out _ _ (fun _ => ?hS29bk) ?rest29bk
  case hS29bk => exact (HSB.out _ B12)
  clear K hK
  try simp only [List.getElem_toArray, List.getElem_cons_succ, List.getElem_cons_zero, Act.put, List.setIfInBounds_toArray, List.set_cons_zero, List.set_cons_succ]
  refine wpAnyG_take' (i := 29) (v := ?v29_30bk) rfl (by kernel_rfl) (by kernel_rfl) (by kernel_rfl) (by kernel_rfl) (fun _ _ _ h => h) (Or.inl ⟨by rfl, ?hy29_30bk⟩) (HSB.out _ B12) ?rest29_30bk
  case hy29_30bk => intro w hSw; (try dsimp only at hSw); go_simp; (try with_reducible rfl)
  case rest29_30bk =>
  try simp only [List.getElem_toArray, List.getElem_cons_succ, List.getElem_cons_zero, Act.put, List.setIfInBounds_toArray, List.set_cons_zero, List.set_cons_succ]
  refine wpAnyG_take' (i := 30) (v := ?v30_31bk) rfl (by kernel_rfl) (by kernel_rfl) (by kernel_rfl) (by kernel_rfl) (fun _ _ _ h => h) (Or.inl ⟨by rfl, ?hy30_31bk⟩) (HSB.out _ B12) ?rest30_31bk
  case hy30_31bk => intro w hSw; (try dsimp only at hSw); go_simp; (try with_reducible rfl)
  case rest30_31bk =>
  try simp only [List.getElem_toArray, List.getElem_cons_succ, List.getElem_cons_zero, Act.put, List.setIfInBounds_toArray, List.set_cons_zero, List.set_cons_succ]
  refine wpAnyG_take' (i := 31) (v := ?v31_32bk) rfl (by kernel_rfl) (by kernel_rfl) (by kernel_rfl) (by kernel_rfl) (fun _ _ _ h => h) (Or.inl ⟨by rfl, ?hy31_32bk⟩) (HSB.out _ B12) ?rest31_32bk
  case hy31_32bk => intro w hSw; (try dsimp only at hSw); go_simp; (try with_reducible rfl)
  case rest31_32bk =>
  try simp only [List.getElem_toArray, List.getElem_cons_succ, List.getElem_cons_zero, Act.put, List.setIfInBounds_toArray, List.set_cons_zero, List.set_cons_succ]
  refine wpAnyG_take' (i := 32) (v := .agg im) rfl (by kernel_rfl) (by kernel_rfl) (by kernel_rfl) (by kernel_rfl) (fun _ _ _ h => h) (Or.inl ⟨by rfl, ?hy32_33bk⟩) (HSB.out _ B12) ?rest32_33bk
  case hy32_33bk => intro w hSw; exact yld_load rfl rfl hSw.2.2.1
  case rest32_33bk =>
  try simp only [List.getElem_toArray, List.getElem_cons_succ, List.getElem_cons_zero, Act.put, List.setIfInBounds_toArray, List.set_cons_zero, List.set_cons_succ]
  refine wpAnyG_take' (i := 34) (v := ?v34_34bk) rfl (by kernel_rfl) (by kernel_rfl) (by kernel_rfl) (by kernel_rfl) (fun _ _ _ h => h) (Or.inl ⟨by rfl, ?hy34_34bk⟩) (HSB.out _ B12) ?rest34_34bk
  case hy34_34bk => intro w hSw; (try dsimp only at hSw); go_simp; (try with_reducible rfl)
  case rest34_34bk =>
  try simp only [List.getElem_toArray, List.getElem_cons_succ, List.getElem_cons_zero, Act.put, List.setIfInBounds_toArray, List.set_cons_zero, List.set_cons_succ]
  refine wpAnyG_take' (i := 35) (v := ?v35_35bk) rfl (by kernel_rfl) (by kernel_rfl) (by kernel_rfl) (by kernel_rfl) (fun _ _ _ h => h) (Or.inl ⟨by rfl, ?hy35_35bk⟩) (HSB.out _ B12) ?rest35_35bk
  case hy35_35bk => intro w hSw; (try dsimp only at hSw); go_simp; (try with_reducible rfl)
  case rest35_35bk =>
  try simp only [List.getElem_toArray, List.getElem_cons_succ, List.getElem_cons_zero, Act.put, List.setIfInBounds_toArray, List.set_cons_zero, List.set_cons_succ]
  refine wpAnyG_take' (i := 36) (v := ?v36_36bk) rfl (by kernel_rfl) (by kernel_rfl) (by kernel_rfl) (by kernel_rfl) (fun _ _ _ h => h) (Or.inl ⟨by rfl, ?hy36_36bk⟩) (HSB.out _ B12) ?rest36_36bk
  case hy36_36bk => intro w hSw; obtain ⟨-, -, -, -, hSw⟩ := hSw; go_simp; (try with_reducible rfl)
  case rest36_36bk =>
  try simp only [List.getElem_toArray, List.getElem_cons_succ, List.getElem_cons_zero, Act.put, List.setIfInBounds_toArray, List.set_cons_zero, List.set_cons_succ]
  refine wpAnyG_take' (i := 37) (v := ?v37_37bk) rfl (by kernel_rfl) (by kernel_rfl) (by kernel_rfl) (by kernel_rfl) (fun _ _ _ h => h) (Or.inl ⟨by rfl, ?hy37_37bk⟩) (HSB.out _ B12) ?rest37_37bk
  case hy37_37bk => intro w hSw; (try dsimp only at hSw); go_simp; (try with_reducible rfl)
  case rest37_37bk =>
  try simp only [List.getElem_toArray, List.getElem_cons_succ, List.getElem_cons_zero, Act.put, List.setIfInBounds_toArray, List.set_cons_zero, List.set_cons_succ]
  refine wpAnyG_take' (i := 38) (v := ?v38_38bk) rfl (by kernel_rfl) (by kernel_rfl) (by kernel_rfl) (by kernel_rfl) (fun _ _ _ h => h) (Or.inl ⟨by rfl, ?hy38_38bk⟩) (HSB.out _ B12) ?rest38_38bk
  case hy38_38bk => intro w hSw; (try dsimp only at hSw); go_simp; (try with_reducible rfl)
  case rest38_38bk =>
  try simp only [List.getElem_toArray, List.getElem_cons_succ, List.getElem_cons_zero, Act.put, List.setIfInBounds_toArray, List.set_cons_zero, List.set_cons_succ]
  refine wpAnyG_take' (i := 39) (v := ?v39_39bk) rfl (by kernel_rfl) (by kernel_rfl) (by kernel_rfl) (by kernel_rfl) (fun _ _ _ h => h) (Or.inl ⟨by rfl, ?hy39_39bk⟩) (HSB.out _ B12) ?rest39_39bk
  case hy39_39bk => intro w hSw; obtain ⟨-, -, -, -, hSw⟩ := hSw; go_simp; (try with_reducible rfl)
  case rest39_39bk =>
  try simp only [List.getElem_toArray, List.getElem_cons_succ, List.getElem_cons_zero, Act.put, List.setIfInBounds_toArray, List.set_cons_zero, List.set_cons_succ]
  refine wpAnyG_take' (i := 40) (v := ?v40_40bk) rfl (by kernel_rfl) (by kernel_rfl) (by kernel_rfl) (by kernel_rfl) (fun _ _ _ h => h) (Or.inl ⟨by rfl, ?hy40_40bk⟩) (HSB.out _ B12) ?rest40_40bk
  case hy40_40bk => intro w hSw; (try dsimp only at hSw); go_simp; (try with_reducible rfl)
  case rest40_40bk =>
  try simp only [List.getElem_toArray, List.getElem_cons_succ, List.getElem_cons_zero, Act.put, List.setIfInBounds_toArray, List.set_cons_zero, List.set_cons_succ]
  refine wpAnyG_take' (i := 41) (v := ?v41_41bk) rfl (by kernel_rfl) (by kernel_rfl) (by kernel_rfl) (by kernel_rfl) (fun _ _ _ h => h) (Or.inl ⟨by rfl, ?hy41_41bk⟩) (HSB.out _ B12) ?rest41_41bk
  case hy41_41bk => intro w hSw; (try dsimp only at hSw); go_simp; (try with_reducible rfl)
  case rest41_41bk =>
  try simp only [List.getElem_toArray, List.getElem_cons_succ, List.getElem_cons_zero, Act.put, List.setIfInBounds_toArray, List.set_cons_zero, List.set_cons_succ]
  refine wpAnyG_one (i := 33) (by kernel_rfl) rfl (fun K hK => ?_)
  go_simp
  refine (HC7.out _ B12).mono ?_
  rintro r0 w13 ⟨rfl, h13⟩
  have B13 := B12.trans (h13.low.mono B12.size)
  clear h13
  refine hK.out _ _ (fun _ => ?hS42bk) ?rest42bk
  case hS42bk => exact (HSB.out _ B13)
  clear K hK
  try simp only [List.getElem_toArray, List.getElem_cons_succ, List.getElem_cons_zero, Act.put, List.setIfInBounds_toArray, List.set_cons_zero, List.set_cons_succ]
  refine wpAnyG_take' (i := 42) (v := ?v42_43bk) rfl (by kernel_rfl) (by kernel_rfl) (by kernel_rfl) (by kernel_rfl) (fun _ _ _ h => h) (Or.inl ⟨by rfl, ?hy42_43bk⟩) (HSB.out _ B13) ?rest42_43bk
  case hy42_43bk => intro w hSw; (try dsimp only at hSw); go_simp; (try with_reducible rfl)
  case rest42_43bk =>
  try simp only [List.getElem_toArray, List.getElem_cons_succ, List.getElem_cons_zero, Act.put, List.setIfInBounds_toArray, List.set_cons_zero, List.set_cons_succ]
  refine wpAnyG_take' (i := 43) (v := ?v43_44bk) rfl (by kernel_rfl) (by kernel_rfl) (by kernel_rfl) (by kernel_rfl) (fun _ _ _ h => h) (Or.inl ⟨by rfl, ?hy43_44bk⟩) (HSB.out _ B13) ?rest43_44bk
  case hy43_44bk => intro w hSw; (try dsimp only at hSw); go_simp; (try with_reducible rfl)
  case rest43_44bk =>
  try simp only [List.getElem_toArray, List.getElem_cons_succ, List.getElem_cons_zero, Act.put, List.setIfInBounds_toArray, List.set_cons_zero, List.set_cons_succ]
  refine wpAnyG_one (i := 44) (by kernel_rfl) rfl (fun K hK => ?_)
  go_simp
  refine hK.out _ _ (fun hno => by cases hno) ?_
  clear K hK
  try simp only [List.getElem_toArray, List.getElem_cons_succ, List.getElem_cons_zero, Act.put, List.setIfInBounds_toArray, List.set_cons_zero, List.set_cons_succ]
  refine wpAnyG_done (by kernel_rfl) ?_ _
  try simp only [List.getElem_toArray, List.getElem_cons_succ, List.getElem_cons_zero, Act.put, List.setIfInBounds_toArray, List.set_cons_zero, List.set_cons_succ]
  (try dsimp only); repeat' (first | go_values | go_skip | go_guarded | go_step | go_upon | go_back)
  go_ret
  exact ⟨rfl, HLO.out.trans (B13.mono HLO.out.size)⟩
end Go.Proofs.YtafkbodmiblbnaaDoor
