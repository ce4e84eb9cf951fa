/- Stage 5, MsgWrites: the walk. -/
import Derived.Test.YtafkbodmiblbnaaGreatDoorMMw0
import Derived.Test.YtafkbodmiblbnaaGreatDoorMBigC
namespace Go.Proofs.YtafkbodmiblbnaaGreatDoor
open Go Go.RowKit
set_option linter.unusedVariables false
set_option linter.unusedSimpArgs false
theorem Sep.ontoL {w0 w w' : World} {M L : List Thing} (h : Sep w0 L w) (h' : Sep w M w') : Sep w0 (M ++ L) w' := by
  have h1 : Sep w (Grp M :: []) w' := Sep.close (by rw [List.append_nil]; exact h')
  exact (h.onto1 h1).open_ (fun A hA => h'.loc A hA)
theorem wp_at {P : Program} {c : Code} {Q : Exit → Act → World → Prop} {a : Act} {w : World} (h : ∀ A, A = a → c.wp P Q A w) : c.wp P Q a w := h a rfl
section
open Go.Region
variable {P : Program} {md : Region.Mode} {ops : Array Oper} {Q : Exit → Act → World → Prop} {S : World → Prop} {T : List Nat}
theorem wpAnyG_three {i j k : Nat} {o o' o'' : Oper} {fuel : Nat} {listed : Array Bool} {a : Act} {w : World} (hr : Region.ready md ops listed = [i, j, k]) (ho : ops[i]? = some o) (ho' : ops[j]? = some o') (ho'' : ops[k]? = some o'')
    (h : ∀ K' : Act → World → Prop, Shut (∀ a w, (T.contains i = false → S w) → wpAnyG P md ops Q S T fuel (listed.setIfInBounds i true) a w → K' a w) → if Region.wanted o (yielded ops a.tmps) = true then Oper.wp P o a w K' Q else K' (a.put o.dst undef) w)
    (h' : ∀ K' : Act → World → Prop, Shut (∀ a w, (T.contains j = false → S w) → wpAnyG P md ops Q S T fuel (listed.setIfInBounds j true) a w → K' a w) → if Region.wanted o' (yielded ops a.tmps) = true then Oper.wp P o' a w K' Q else K' (a.put o'.dst undef) w)
    (h'' : ∀ K' : Act → World → Prop, Shut (∀ a w, (T.contains k = false → S w) → wpAnyG P md ops Q S T fuel (listed.setIfInBounds k true) a w → K' a w) → if Region.wanted o'' (yielded ops a.tmps) = true then Oper.wp P o'' a w K' Q else K' (a.put o''.dst undef) w) :
    wpAnyG P md ops Q S T (fuel + 1) listed a w := by
  refine ⟨fun h0 => (by rw [h0] at hr; cases hr), fun x hx => ?_⟩
  rw [hr] at hx
  rcases List.mem_cons.1 hx with rfl | hx
  · exact wpOp_step ho fun K' hK => h K' fun a w h1 h2 => hK a w ⟨h1, h2⟩
  rcases List.mem_cons.1 hx with rfl | hx
  · exact wpOp_step ho' fun K' hK => h' K' fun a w h1 h2 => hK a w ⟨h1, h2⟩
  · obtain rfl := List.mem_singleton.1 hx
    exact wpOp_step ho'' fun K' hK => h'' K' fun a w h1 h2 => hK a w ⟨h1, h2⟩
end
/-- What MsgWrites calls, at one message (cut). -/
structure MW (w : World) (G : MgM) (gc kc im kim : Array Value) (BB : List UInt8) (EA EI TP : Int) (R1 R2 : Bool) : Prop where
  szg : gc.size = 22
  szk : kc.size = 22
  szi : im.size = 4
  eg : gc = mgC G
  ei : im = imgC G.ib G.cv G.ev G.ic
  og : gc.all (·.oneCell') = true
  ok : kc.all (·.oneCell') = true
  bb : BB.length ≤ 70000
  ck : G.ck.length ≤ 20000
  ps : G.ps.length ≤ 40
  ls : G.en.p.ls.length ≤ 8
  ldg : ∀ b M wx, Sep w (Cl b gc 34 :: M) wx → (Instr.loadAt 32 (.pointer (some ⟨b, 18, none⟩))).run Tryz.prog wx = .ok (.agg im) wx
  ldk : ∀ b M wx, Sep w (Cl b kc 34 :: M) wx → (Instr.loadAt 32 (.pointer (some ⟨b, 18, none⟩))).run Tryz.prog wx = .ok (.agg kim) wx
  by_ : ∀ M wx, Sep w M wx → Calls Tryz.prog 6 #[.agg gc] wx fun e w' => ∃ u, e = .returned (.tuple #[u, .int .i64 EA]) ∧ Sep w (By u BB :: M) w'
  rby : ∀ M wx, Sep w M wx → Calls Tryz.prog 7 #[.agg gc] wx fun e w' => ∃ u, e = .returned (.tuple #[u, .int .i64 EA]) ∧ Sep w (By u BB :: M) w'
  chk : ∀ M wx, Sep w M wx → Calls Tryz.prog 8 #[.agg gc] wx fun e w' => e = .returned (.int .i64 EA) ∧ Sep w M w'
  rchk : ∀ M wx, Sep w M wx → Calls Tryz.prog 9 #[.agg gc] wx fun e w' => e = .returned (.int .i64 EA) ∧ Sep w M w'
  cki : ∀ M wx, Sep w M wx → Calls Tryz.prog 10 #[.agg im] wx fun e w' => e = .returned (.int .i64 EI) ∧ Sep w M w'
  rcki : ∀ M wx, Sep w M wx → Calls Tryz.prog 11 #[.agg im] wx fun e w' => e = .returned (.int .i64 EI) ∧ Sep w M w'
  cp : ∀ M wx, Sep w M wx → Calls Tryz.prog 13 #[.agg gc] wx fun e w' => ∃ lu cu eu qs, e = .returned (.agg (mgC { G with lv := lu, cv := cu, ev := eu, ps := qs })) ∧ qs.map (·.1) = G.ps.map (·.1) ∧ Sep w (LnR lu G.en.p.ls :: By cu G.ck :: EnT eu qs :: M) w'
  cpi : ∀ M wx, Sep w M wx → Calls Tryz.prog 14 #[.agg im] wx fun e w' => ∃ cu eu qs, e = .returned (.agg (imgC G.ib cu eu G.ic)) ∧ qs.map (·.1) = G.ps.map (·.1) ∧ Sep w (By cu G.ck :: EnT eu qs :: M) w'
  rcp : ∀ M wx, Sep w M wx → Calls Tryz.prog 21 #[.agg gc] wx fun e w' => ∃ lu cu eu qs, e = .returned (.agg (mgC { G with lv := lu, cv := cu, ev := eu, ps := qs })) ∧ qs.map (·.1) = G.ps.map (·.1) ∧ Sep w (LnR lu G.en.p.ls :: By cu G.ck :: EnT eu qs :: M) w'
  sm : ∀ M wx, Sep w M wx → Calls Tryz.prog 15 #[.agg gc, .agg kc] wx fun e w' => e = .returned (.bool R1) ∧ Sep w M w'
  rsm : ∀ M wx, Sep w M wx → Calls Tryz.prog 16 #[.agg gc, .agg kc] wx fun e w' => e = .returned (.bool R1) ∧ Sep w M w'
  smi : ∀ M wx, Sep w M wx → Calls Tryz.prog 17 #[.agg im, .agg kim] wx fun e w' => e = .returned (.bool R2) ∧ Sep w M w'
  rsmi : ∀ M wx, Sep w M wx → Calls Tryz.prog 18 #[.agg im, .agg kim] wx fun e w' => e = .returned (.bool R2) ∧ Sep w M w'
  sc : ∀ lu cu eu qs M wx, qs.map (·.1) = G.ps.map (·.1) → GmS wx { G with lv := lu, cv := cu, ev := eu, ps := qs } → Sep w M wx → Calls Tryz.prog 16 #[.agg (mgC { G with lv := lu, cv := cu, ev := eu, ps := qs }), .agg gc] wx fun e w' => e = .returned (.bool true) ∧ Sep w M w'
  sw : ∀ lu cu eu qs M wx, qs.map (·.1) = G.ps.map (·.1) → GmS wx { G with lv := lu, cv := cu, ev := eu, ps := qs } → Sep w M wx → Calls Tryz.prog 16 #[.agg gc, .agg (mgC { G with lv := lu, cv := cu, ev := eu, ps := qs })] wx fun e w' => e = .returned (.bool true) ∧ Sep w M w'
  si : ∀ cu eu qs M wx, qs.map (·.1) = G.ps.map (·.1) → Sl wx cu (bv G.ck) → EnS wx eu qs → Sep w M wx → Calls Tryz.prog 18 #[.agg (imgC G.ib cu eu G.ic), .agg im] wx fun e w' => e = .returned (.bool true) ∧ Sep w M w'
  tp : ∀ M wx, Sep w M wx → Calls Tryz.prog 19 #[.agg im] wx fun e w' => e = .returned (.int .i64 TP) ∧ Sep w M w'
  rtp : ∀ M wx, Sep w M wx → Calls Tryz.prog 20 #[.agg im] wx fun e w' => e = .returned (.int .i64 TP) ∧ Sep w M w'
  wk : ∀ M wx, Sep w M wx → Calls Tryz.prog 23 #[] wx fun e w' => e = .returned (.bool true) ∧ Sep w M w'
/-- What the regions of MsgWrites load. -/
def SW1 (b2 b3 : Nat) (gc kc : Array Value) (w : World) : Prop := (Instr.loadAt 34 (.pointer (some ⟨b2, 0, none⟩))).run Tryz.prog w = .ok (.agg gc) w ∧ (Instr.loadAt 34 (.pointer (some ⟨b3, 0, none⟩))).run Tryz.prog w = .ok (.agg kc) w
def SW4 (b2 : Nat) (gc im : Array Value) (w : World) : Prop := (Instr.loadAt 34 (.pointer (some ⟨b2, 0, none⟩))).run Tryz.prog w = .ok (.agg gc) w ∧ (Instr.loadAt 32 (.pointer (some ⟨b2, 18, none⟩))).run Tryz.prog w = .ok (.agg im) w
def SW7 (b2 b3 b9 b10 : Nat) (gc kc im kim cc im2 : Array Value) (w : World) : Prop := SW4 b2 gc im w ∧ SW4 b3 kc kim w ∧ (Instr.loadAt 34 (.pointer (some ⟨b9, 0, none⟩))).run Tryz.prog w = .ok (.agg cc) w ∧ (Instr.loadAt 32 (.pointer (some ⟨b10, 0, none⟩))).run Tryz.prog w = .ok (.agg im2) w
theorem lnput9 : ∀ (ls : List Ln) (i : Nat) (x : Int) (hi : i < ls.length), (lnCells ls).set (i * 2 + 1) (.int .i64 x) = lnCells (ls.set i (ls[i].1, x))
  | l :: ls, 0, x, _ => rfl
  | l :: ls, i + 1, x, hi => by
    have hi' : i < ls.length := by simpa using hi
    have h := lnput9 ls i x hi'
    rw [List.set_cons_succ, List.getElem_cons_succ]
    show (Value.string l.1.1 :: .int .i64 l.2 :: lnCells ls).set ((i + 1) * 2 + 1) _ = Value.string l.1.1 :: .int .i64 l.2 :: lnCells (ls.set i (ls[i].1, x))
    rw [show (i + 1) * 2 + 1 = (i * 2 + 1) + 1 + 1 by omega, List.set_cons_succ, List.set_cons_succ, h]
theorem own_one {w : World} {G : MgM} {lu cu eu : Value} {qs : List (EnM × Value)} {w0 : World} {M : List Thing} (h : Sep w0 (LnR lu G.en.p.ls :: By cu G.ck :: EnT eu qs :: M) w) : (mgC { G with lv := lu, cv := cu, ev := eu, ps := qs }).all (·.oneCell') = true := by
  obtain ⟨a, c, e, -⟩ := h.rnForm
  obtain ⟨a2, c2, e2⟩ := h.sw2.sl.len
  obtain ⟨a3, c3, e3, -⟩ := h.sw3.enForm
  exact mgC_one _ (by rw [e]; rfl) (by rw [e2]; rfl) (by rw [e3]; rfl)
theorem own_one2 {w : World} {G : MgM} {A1 A2 A3 : Thing} {cu2 eu2 : Value} {qs2 : List (EnM × Value)} {w0 : World} {M : List Thing} (h : Sep w0 (A1 :: A2 :: A3 :: By cu2 G.ck :: EnT eu2 qs2 :: M) w) : (imgC G.ib cu2 eu2 G.ic).all (·.oneCell') = true := by
  have h1 := h.pickL (M := [_, _, _, _, _]) [3, 4] rfl
  obtain ⟨a2, c2, e2⟩ := h1.sl.len
  obtain ⟨a3, c3, e3, -⟩ := h1.sw2.enForm
  have hm : ∀ v ∈ (imgC G.ib cu2 eu2 G.ic).toList, v.oneCell' = true := by
    intro v hv
    simp only [imgC, List.mem_cons, List.not_mem_nil, or_false] at hv
    rcases hv with rfl | rfl | rfl | rfl
    · rfl
    · rw [e2]; rfl
    · rw [e3]; rfl
    · rfl
  rw [Array.all_eq_true_iff_forall_mem]
  intro v hv
  exact hm v (by simpa using hv)
set_option maxRecDepth 100000 in
set_option maxHeartbeats 64000000 in
theorem mwrites_walk {w : World} {G : MgM} {gc kc im kim gc0 kc0 : Array Value} {BB : List UInt8} {EA EI TP : Int} {R1 R2 : Bool} (hs : Hid (MW w G gc kc im kim BB EA EI TP R1 R2)) (hz : gc0.size = 22 ∧ kc0.size = 22)
    (hc1 : ∀ M wx, Sep w M wx → Calls Tryz.prog 5 #[.agg gc0] wx fun e w' => e = .returned (.agg gc) ∧ Sep w M w') (hc2 : ∀ M wx, Sep w M wx → Calls Tryz.prog 5 #[.agg kc0] wx fun e w' => e = .returned (.agg kc) ∧ Sep w M w') :
    Calls Tryz.prog 3 #[.agg gc0, .agg kc0] w fun e w' => e = .returned (.bool true) ∧ Below w.heap.size w w' := by
  have h1 := ((Sep.start w).alloc (.cells gc0 34)).alloc (.cells kc0 34)
  rw [show (w.alloc (.cells gc0 34)).heap.size = w.heap.size + 1 by simp] at h1
  obtain ⟨b2, hb2⟩ : ∃ z, z = w.heap.size := ⟨_, rfl⟩
  obtain ⟨b3, hb3⟩ : ∃ z, z = w.heap.size + 1 := ⟨_, rfl⟩
  obtain ⟨w1, hw1⟩ : ∃ z, z = (w.alloc (.cells gc0 34)).alloc (.cells kc0 34) := ⟨_, rfl⟩
  rw [← hw1, ← hb3, ← hb2] at h1
  have H1 := Lib.hid h1.drew
  have Z0 := Lib.hid hz
  have HC1 := Lib.hid hc1
  have HC2 := Lib.hid hc2
  have HSA : Hid (∀ M wx, Sep w (Cl b3 kc0 34 :: Cl b2 gc0 34 :: M) wx → SW1 b2 b3 gc0 kc0 wx) := Lib.hid fun M wx hx => ⟨(hx.sw2.loadW 34 Tryz.underlying34 rfl (by rw [hz.1]; kernel_rfl)), (hx.loadW 34 Tryz.underlying34 rfl (by rw [hz.2]; kernel_rfl))⟩
  clear h1 hz hc1 hc2
  go_enter Tryz.func3, Tryz.ntmps3
  (try dsimp only); repeat' (first | go_values | go_skip | go_guarded | go_step | go_upon | go_back)
  rw [← hw1]
  (try rw [← hb3])
  (try rw [← hb2])
  clear hw1 hb2 hb3
  refine wp_region_G (SW1 b2 b3 gc0 kc0) [4, 5] (by kernel_rfl) (HSA.out _ _ H1.out) (fun hS => ?_)
  try dsimp only at hS
  refine wpAnyG_take' (i := 0) (v := .agg gc0) rfl (by kernel_rfl) (by kernel_rfl) (by kernel_rfl) (by kernel_rfl) (fun _ _ _ h => h) (Or.inl ⟨by rfl, ?hy0_1ra⟩) (HSA.out _ _ H1.out) ?rest0_1ra
  case hy0_1ra => intro w hSw; exact yld_loadw rfl rfl hSw.1
  case rest0_1ra =>
  try simp only [nz0, nz1, nz2, Act.put, nz3, nz4, nz5]
  refine wpAnyG_take' (i := 2) (v := .agg kc0) rfl (by kernel_rfl) (by kernel_rfl) (by kernel_rfl) (by kernel_rfl) (fun _ _ _ h => h) (Or.inl ⟨by rfl, ?hy2_2ra⟩) (HSA.out _ _ H1.out) ?rest2_2ra
  case hy2_2ra => intro w hSw; exact yld_loadw rfl rfl hSw.2
  case rest2_2ra =>
  try simp only [nz0, nz1, nz2, Act.put, nz3, nz4, nz5]
  refine wpAnyG_one (i := 1) (by kernel_rfl) rfl (fun K hK => ?_)
  go_simp
  refine (HC1.out _ _ H1.out).mono ?_
  rintro r0 w2 ⟨rfl, h2⟩
  have H2 := Lib.hid h2
  clear h2
  refine hK.out _ _ (fun _ => ?hS3ra) ?rest3ra
  case hS3ra => exact (HSA.out _ _ H2.out)
  clear K hK
  try simp only [nz0, nz1, nz2, Act.put, nz3, nz4, nz5]
  refine wpAnyG_one (i := 3) (by kernel_rfl) rfl (fun K hK => ?_)
  go_simp
  refine (HC2.out _ _ H2.out).mono ?_
  rintro r0 w3 ⟨rfl, h3⟩
  have H3 := Lib.hid h3
  clear h3
  refine hK.out _ _ (fun _ => ?hS4ra) ?rest4ra
  case hS4ra => exact (HSA.out _ _ H3.out)
  clear K hK
  try simp only [nz0, nz1, nz2, Act.put, nz3, nz4, nz5]
  refine wpAnyG_one (i := 4) (by kernel_rfl) rfl (fun K hK => ?_)
  have HT4 := Lib.hid (H3.out.sw2.thereAt 0 22 (by rw [Z0.out.1]; decide))
  have h4 := H3.out.sw2.storeW gc (by rw [Z0.out.1, hs.out.szg])
  obtain ⟨w4, hw4⟩ : ∃ z, z = w3.setCells b2 0 gc.toList := ⟨_, rfl⟩
  rw [← hw4] at h4
  have H4 := Lib.hid h4
  refine wp_store_mid 34 (.tmp 2) (.tmp 14) rfl b2 0 gc rfl rfl (by rw [hs.out.szg]; exact HT4.out) (by rw [hs.out.szg]; kernel_rfl) hs.out.og ?_
  rw [← hw4]
  clear hw4 h4 HT4
  refine hK.out _ _ (fun hno => by cases hno) ?_
  clear K hK
  try simp only [nz0, nz1, nz2, Act.put, nz3, nz4, nz5]
  refine wpAnyG_one (i := 5) (by kernel_rfl) rfl (fun K hK => ?_)
  have HT5 := Lib.hid (H4.out.sw2.thereAt 0 22 (by rw [Z0.out.2]; decide))
  have h5 := H4.out.sw2.storeW kc (by rw [Z0.out.2, hs.out.szk])
  obtain ⟨w5, hw5⟩ : ∃ z, z = w4.setCells b3 0 kc.toList := ⟨_, rfl⟩
  rw [← hw5] at h5
  have H5 := Lib.hid h5
  refine wp_store_mid 34 (.tmp 3) (.tmp 16) rfl b3 0 kc rfl rfl (by rw [hs.out.szk]; exact HT5.out) (by rw [hs.out.szk]; kernel_rfl) hs.out.ok ?_
  rw [← hw5]
  clear hw5 h5 HT5
  refine hK.out _ _ (fun hno => by cases hno) ?_
  clear K hK
  try simp only [nz0, nz1, nz2, Act.put, nz3, nz4, nz5]
  refine wpAnyG_done (by kernel_rfl) ?_ _
  try simp only [nz0, nz1, nz2, Act.put, nz3, nz4, nz5]
  clear H1 H2 H3 H4 HSA HC1 HC2 Z0 hS
  have h5 := H5.out.sw2
  have HL := Lib.hid (h5.loadW 34 Tryz.underlying34 rfl (by rw [hs.out.szg]; kernel_rfl))
  have HB := Lib.hid (hs.out.by_ _ _ h5)
  clear h5 H5
  (try dsimp only); repeat' (first | (with_reducible show wpList _ _ _ (Oper.mk _ (Op.load 34 _) _ _ _ _ :: _) _ _; refine stopP ?_) | go_values | go_skip | go_guarded | go_step | go_upon | go_back)
  unfold StopP
  have hq_ := HL.out
  refine wpList_load_run rfl 34 _ rfl _ _ rfl hq_ ?_
  clear hq_ HL
  (try dsimp only); repeat' (first | go_values | go_skip | go_guarded | go_step | go_upon | go_back)
  refine HB.out.mono ?_
  rintro r0 w6 ⟨u1, rfl, h6⟩
  obtain ⟨u1a, u1c, rfl⟩ := h6.sl.len
  have HL := Lib.hid (h6.sw2.loadW 34 Tryz.underlying34 rfl (by rw [hs.out.szg]; kernel_rfl))
  have HB2 := Lib.hid (hs.out.rby _ _ h6)
  clear h6 HB
  (try dsimp only); repeat' (first | (with_reducible show wpList _ _ _ (Oper.mk _ (Op.load 34 _) _ _ _ _ :: _) _ _; refine stopP ?_) | go_values | go_skip | go_guarded | go_step | go_upon | go_back)
  unfold StopP
  have hq_ := HL.out
  refine wpList_load_run rfl 34 _ rfl _ _ rfl hq_ ?_
  clear hq_ HL
  (try dsimp only); repeat' (first | go_values | go_skip | go_guarded | go_step | go_upon | go_back)
  refine HB2.out.mono ?_
  rintro r0 w7 ⟨u2, rfl, h7⟩
  obtain ⟨u2a, u2c, rfl⟩ := h7.sl.len
  have H7 := Lib.hid h7.drew
  have HSD : Hid (∀ M wx, Sep w (By (.slice u2a (bv BB).length u2c) BB :: By (.slice u1a (bv BB).length u1c) BB :: Cl b2 gc 34 :: M) wx → SW4 b2 gc im wx) := Lib.hid fun M wx hx => ⟨(hx.sw3.loadW 34 Tryz.underlying34 rfl (by rw [hs.out.szg]; kernel_rfl)), hs.out.ldg _ _ _ (hx.sw3)⟩
  clear h7 HB2
  (try dsimp only); repeat' (first | go_values | go_skip | go_guarded | go_step | go_upon | go_back)
  refine wp_region_G (SW4 b2 gc im) [] (by kernel_rfl) (HSD.out _ _ H7.out) (fun hS => ?_)
  try dsimp only at hS
  refine wpAnyG_take' (i := 0) (v := .agg gc) rfl (by kernel_rfl) (by kernel_rfl) (by kernel_rfl) (by kernel_rfl) (fun _ _ _ h => h) (Or.inl ⟨by rfl, ?hy0_1rd⟩) (HSD.out _ _ H7.out) ?rest0_1rd
  case hy0_1rd => intro w hSw; exact yld_loadw rfl rfl hSw.1
  case rest0_1rd =>
  try simp only [nz0, nz1, nz2, Act.put, nz3, nz4, nz5]
  refine wpAnyG_take' (i := 2) (v := .agg gc) rfl (by kernel_rfl) (by kernel_rfl) (by kernel_rfl) (by kernel_rfl) (fun _ _ _ h => h) (Or.inl ⟨by rfl, ?hy2_2rd⟩) (HSD.out _ _ H7.out) ?rest2_2rd
  case hy2_2rd => intro w hSw; exact yld_loadw rfl rfl hSw.1
  case rest2_2rd =>
  try simp only [nz0, nz1, nz2, Act.put, nz3, nz4, nz5]
  refine wpAnyG_one (i := 1) (by kernel_rfl) rfl (fun K hK => ?_)
  go_simp
  refine (hs.out.chk _ _ H7.out).mono ?_
  rintro r0 w8 ⟨rfl, h8⟩
  have H8 := Lib.hid h8
  clear h8 H7
  refine hK.out _ _ (fun _ => ?hS3rd) ?rest3rd
  case hS3rd => exact (HSD.out _ _ H8.out)
  clear K hK
  try simp only [nz0, nz1, nz2, Act.put, nz3, nz4, nz5]
  refine wpAnyG_one (i := 3) (by kernel_rfl) rfl (fun K hK => ?_)
  go_simp
  refine (hs.out.rchk _ _ H8.out).mono ?_
  rintro r0 w9 ⟨rfl, h9⟩
  have H9 := Lib.hid h9
  clear h9 H8
  refine hK.out _ _ (fun _ => ?hS4rd) ?rest4rd
  case hS4rd => exact (HSD.out _ _ H9.out)
  clear K hK
  try simp only [nz0, nz1, nz2, Act.put, nz3, nz4, nz5]
  refine wpAnyG_take' (i := 4) (v := ?v4_5rd) rfl (by kernel_rfl) (by kernel_rfl) (by kernel_rfl) (by kernel_rfl) (fun _ _ _ h => h) (Or.inl ⟨by rfl, ?hy4_5rd⟩) (HSD.out _ _ H9.out) ?rest4_5rd
  case hy4_5rd => intro w hSw; (try dsimp only at hSw); go_simp; (try with_reducible rfl)
  case rest4_5rd =>
  try simp only [nz0, nz1, nz2, Act.put, nz3, nz4, nz5]
  refine wpAnyG_take' (i := 5) (v := ?v5_6rd) rfl (by kernel_rfl) (by kernel_rfl) (by kernel_rfl) (by kernel_rfl) (fun _ _ _ h => h) (Or.inl ⟨by rfl, ?hy5_6rd⟩) (HSD.out _ _ H9.out) ?rest5_6rd
  case hy5_6rd => intro w hSw; (try dsimp only at hSw); go_simp; (try with_reducible rfl)
  case rest5_6rd =>
  try simp only [nz0, nz1, nz2, Act.put, nz3, nz4, nz5]
  refine wpAnyG_take' (i := 6) (v := ?v6_7rd) rfl (by kernel_rfl) (by kernel_rfl) (by kernel_rfl) (by kernel_rfl) (fun _ _ _ h => h) (Or.inl ⟨by rfl, ?hy6_7rd⟩) (HSD.out _ _ H9.out) ?rest6_7rd
  case hy6_7rd => intro w hSw; (try dsimp only at hSw); go_simp; (try with_reducible rfl)
  case rest6_7rd =>
  try simp only [nz0, nz1, nz2, Act.put, nz3, nz4, nz5]
  refine wpAnyG_take' (i := 7) (v := .agg im) rfl (by kernel_rfl) (by kernel_rfl) (by kernel_rfl) (by kernel_rfl) (fun _ _ _ h => h) (Or.inl ⟨by rfl, ?hy7_8rd⟩) (HSD.out _ _ H9.out) ?rest7_8rd
  case hy7_8rd => intro w hSw; exact yld_loadw rfl rfl hSw.2
  case rest7_8rd =>
  try simp only [nz0, nz1, nz2, Act.put, nz3, nz4, nz5]
  refine wpAnyG_take' (i := 9) (v := ?v9_9rd) rfl (by kernel_rfl) (by kernel_rfl) (by kernel_rfl) (by kernel_rfl) (fun _ _ _ h => h) (Or.inl ⟨by rfl, ?hy9_9rd⟩) (HSD.out _ _ H9.out) ?rest9_9rd
  case hy9_9rd => intro w hSw; (try dsimp only at hSw); go_simp; (try with_reducible rfl)
  case rest9_9rd =>
  try simp only [nz0, nz1, nz2, Act.put, nz3, nz4, nz5]
  refine wpAnyG_take' (i := 10) (v := .agg im) rfl (by kernel_rfl) (by kernel_rfl) (by kernel_rfl) (by kernel_rfl) (fun _ _ _ h => h) (Or.inl ⟨by rfl, ?hy10_10rd⟩) (HSD.out _ _ H9.out) ?rest10_10rd
  case hy10_10rd => intro w hSw; exact yld_loadw rfl rfl hSw.2
  case rest10_10rd =>
  try simp only [nz0, nz1, nz2, Act.put, nz3, nz4, nz5]
  refine wpAnyG_one (i := 8) (by kernel_rfl) rfl (fun K hK => ?_)
  go_simp
  refine (hs.out.cki _ _ H9.out).mono ?_
  rintro r0 w10 ⟨rfl, h10⟩
  have H10 := Lib.hid h10
  clear h10 H9
  refine hK.out _ _ (fun _ => ?hS11rd) ?rest11rd
  case hS11rd => exact (HSD.out _ _ H10.out)
  clear K hK
  try simp only [nz0, nz1, nz2, Act.put, nz3, nz4, nz5]
  refine wpAnyG_one (i := 11) (by kernel_rfl) rfl (fun K hK => ?_)
  go_simp
  refine (hs.out.rcki _ _ H10.out).mono ?_
  rintro r0 w11 ⟨rfl, h11⟩
  have H11 := Lib.hid h11
  clear h11 H10
  refine hK.out _ _ (fun _ => ?hS12rd) ?rest12rd
  case hS12rd => exact (HSD.out _ _ H11.out)
  clear K hK
  try simp only [nz0, nz1, nz2, Act.put, nz3, nz4, nz5]
  refine wpAnyG_take' (i := 12) (v := ?v12_13rd) rfl (by kernel_rfl) (by kernel_rfl) (by kernel_rfl) (by kernel_rfl) (fun _ _ _ h => h) (Or.inl ⟨by rfl, ?hy12_13rd⟩) (HSD.out _ _ H11.out) ?rest12_13rd
  case hy12_13rd => intro w hSw; (try dsimp only at hSw); go_simp; (try with_reducible rfl)
  case rest12_13rd =>
  try simp only [nz0, nz1, nz2, Act.put, nz3, nz4, nz5]
  refine wpAnyG_take' (i := 13) (v := ?v13_14rd) rfl (by kernel_rfl) (by kernel_rfl) (by kernel_rfl) (by kernel_rfl) (fun _ _ _ h => h) (Or.inl ⟨by rfl, ?hy13_14rd⟩) (HSD.out _ _ H11.out) ?rest13_14rd
  case hy13_14rd => intro w hSw; (try dsimp only at hSw); go_simp; (try with_reducible rfl)
  case rest13_14rd =>
  try simp only [nz0, nz1, nz2, Act.put, nz3, nz4, nz5]
  refine wpAnyG_take' (i := 14) (v := ?v14_15rd) rfl (by kernel_rfl) (by kernel_rfl) (by kernel_rfl) (by kernel_rfl) (fun _ _ _ h => h) (Or.inl ⟨by rfl, ?hy14_15rd⟩) (HSD.out _ _ H11.out) ?rest14_15rd
  case hy14_15rd => intro w hSw; (try dsimp only at hSw); go_simp; (try with_reducible rfl)
  case rest14_15rd =>
  try simp only [nz0, nz1, nz2, Act.put, nz3, nz4, nz5]
  refine wpAnyG_take' (i := 15) (v := ?v15_16rd) rfl (by kernel_rfl) (by kernel_rfl) (by kernel_rfl) (by kernel_rfl) (fun _ _ _ h => h) (Or.inl ⟨by rfl, ?hy15_16rd⟩) (HSD.out _ _ H11.out) ?rest15_16rd
  case hy15_16rd => intro w hSw; (try dsimp only at hSw); go_simp; (try with_reducible rfl)
  case rest15_16rd =>
  try simp only [nz0, nz1, nz2, Act.put, nz3, nz4, nz5]
  refine wpAnyG_take' (i := 16) (v := ?v16_17rd) rfl (by kernel_rfl) (by kernel_rfl) (by kernel_rfl) (by kernel_rfl) (fun _ _ _ h => h) (Or.inl ⟨by rfl, ?hy16_17rd⟩) (HSD.out _ _ H11.out) ?rest16_17rd
  case hy16_17rd => intro w hSw; (try dsimp only at hSw); go_simp; (try with_reducible rfl)
  case rest16_17rd =>
  try simp only [nz0, nz1, nz2, Act.put, nz3, nz4, nz5]
  refine wpAnyG_one (i := 17) (by kernel_rfl) rfl (fun K hK => ?_)
  go_simp
  refine (eqBytes_any _ _ BB BB _ H11.out.sw2.sl H11.out.sl).mono ?_
  rintro r0 wq ⟨rfl, rfl⟩
  rw [show (BB == BB) = true from beq_self_eq_true BB]
  refine hK.out _ _ (fun _ => ?hS18rd) ?rest18rd
  case hS18rd => exact (HSD.out _ _ H11.out)
  clear K hK
  try simp only [nz0, nz1, nz2, Act.put, nz3, nz4, nz5]
  refine wpAnyG_take' (i := 18) (v := ?v18_19rd) rfl (by kernel_rfl) (by kernel_rfl) (by kernel_rfl) (by kernel_rfl) (fun _ _ _ h => h) (Or.inl ⟨by rfl, ?hy18_19rd⟩) (HSD.out _ _ H11.out) ?rest18_19rd
  case hy18_19rd => intro w hSw; (try dsimp only at hSw); go_simp; (try with_reducible rfl)
  case rest18_19rd =>
  try simp only [nz0, nz1, nz2, Act.put, nz3, nz4, nz5]
  refine wpAnyG_take' (i := 19) (v := ?v19_20rd) rfl (by kernel_rfl) (by kernel_rfl) (by kernel_rfl) (by kernel_rfl) (fun _ _ _ h => h) (Or.inl ⟨by rfl, ?hy19_20rd⟩) (HSD.out _ _ H11.out) ?rest19_20rd
  case hy19_20rd => intro w hSw; (try dsimp only at hSw); go_simp; (try with_reducible rfl)
  case rest19_20rd =>
  try simp only [nz0, nz1, nz2, Act.put, nz3, nz4, nz5]
  refine wpAnyG_take' (i := 20) (v := ?v20_21rd) rfl (by kernel_rfl) (by kernel_rfl) (by kernel_rfl) (by kernel_rfl) (fun _ _ _ h => h) (Or.inl ⟨by rfl, ?hy20_21rd⟩) (HSD.out _ _ H11.out) ?rest20_21rd
  case hy20_21rd => intro w hSw; (try dsimp only at hSw); go_simp; (try with_reducible rfl)
  case rest20_21rd =>
  try simp only [nz0, nz1, nz2, Act.put, nz3, nz4, nz5]
  refine wpAnyG_take' (i := 21) (v := ?v21_22rd) rfl (by kernel_rfl) (by kernel_rfl) (by kernel_rfl) (by kernel_rfl) (fun _ _ _ h => h) (Or.inl ⟨by rfl, ?hy21_22rd⟩) (HSD.out _ _ H11.out) ?rest21_22rd
  case hy21_22rd => intro w hSw; (try dsimp only at hSw); go_simp; (try with_reducible rfl)
  case rest21_22rd =>
  try simp only [nz0, nz1, nz2, Act.put, nz3, nz4, nz5]
  refine wpAnyG_take' (i := 22) (v := ?v22_23rd) rfl (by kernel_rfl) (by kernel_rfl) (by kernel_rfl) (by kernel_rfl) (fun _ _ _ h => h) (Or.inl ⟨by rfl, ?hy22_23rd⟩) (HSD.out _ _ H11.out) ?rest22_23rd
  case hy22_23rd => intro w hSw; (try dsimp only at hSw); go_simp; (try with_reducible rfl)
  case rest22_23rd =>
  try simp only [nz0, nz1, nz2, Act.put, nz3, nz4, nz5]
  refine wpAnyG_take' (i := 23) (v := ?v23_24rd) rfl (by kernel_rfl) (by kernel_rfl) (by kernel_rfl) (by kernel_rfl) (fun _ _ _ h => h) (Or.inl ⟨by rfl, ?hy23_24rd⟩) (HSD.out _ _ H11.out) ?rest23_24rd
  case hy23_24rd => intro w hSw; (try dsimp only at hSw); go_simp; (try with_reducible rfl)
  case rest23_24rd =>
  try simp only [nz0, nz1, nz2, Act.put, nz3, nz4, nz5]
  refine wpAnyG_one (i := 24) (by kernel_rfl) rfl (fun K hK => ?_)
  go_simp
  refine hK.out _ _ (fun _ => ?hS25rd) ?rest25rd
  case hS25rd => exact (HSD.out _ _ H11.out)
  clear K hK
  try simp only [nz0, nz1, nz2, Act.put, nz3, nz4, nz5]
  refine wpAnyG_done (by kernel_rfl) ?_ _
  try simp only [nz0, nz1, nz2, Act.put, nz3, nz4, nz5]
  clear HSD hS
  have h12 : Sep w [Cl b2 gc 34, Cl b3 kc 34] w11.drew := (Sep.pick H11.out [2, 3] rfl).drew
  obtain ⟨w12, hw12⟩ : ∃ z, z = w11.drew := ⟨_, rfl⟩
  rw [← hw12] at h12
  have H12 := Lib.hid h12
  have HSD0 : Hid (∀ M wx, Sep w (Cl b2 gc 34 :: M) wx → SW4 b2 gc im wx) := Lib.hid fun M wx hx => ⟨(hx.loadW 34 Tryz.underlying34 rfl (by rw [hs.out.szg]; kernel_rfl)), hs.out.ldg _ _ _ hx⟩
  clear h12 H11
  (try dsimp only); repeat' (first | go_values | go_skip | go_guarded | go_step | go_upon | go_back)
  refine wp_at (fun A0 hA0 => ?_)
  refine wp_mono (Q := fun e a' w' => e = .normal ∧ ∃ (b9 b10 : Nat) (x52 x53 x54 x55 x56 lu cu eu : Value) (qs : List (EnM × Value)) (cu2 eu2 : Value) (qs2 : List (EnM × Value)), a' = Act.put (Act.put (Act.put (Act.put (Act.put (Act.put (Act.put A0 (some 52) x52) (some 53) x53) (some 54) x54) (some 55) x55) (some 56) x56) (some 9) (.pointer (some ⟨b9, 0, none⟩))) (some 10) (.pointer (some ⟨b10, 0, none⟩)) ∧ qs.map (·.1) = G.ps.map (·.1) ∧ qs2.map (·.1) = G.ps.map (·.1) ∧
    Sep w (Cl b9 (mgC { G with lv := lu, cv := cu, ev := eu, ps := qs }) 34 :: Cl b10 (imgC G.ib cu2 eu2 G.ic) 32 :: LnR lu G.en.p.ls :: By cu G.ck :: EnT eu qs :: By cu2 G.ck :: EnT eu2 qs2 :: Cl b2 gc 34 :: Cl b3 kc 34 :: []) w') ?_ ?_
  · subst hA0
    refine wp_region_G (SW4 b2 gc im) [7, 8] (by kernel_rfl) (by rw [← hw12]; exact HSD0.out _ _ H12.out) (fun hS => ?_)
    try dsimp only at hS
    rw [← hw12]
    clear hw12
    refine wpAnyG_take' (i := 0) (v := .agg gc) rfl (by kernel_rfl) (by kernel_rfl) (by kernel_rfl) (by kernel_rfl) (fun _ _ _ h => nomatch h.1) (Or.inl ⟨by rfl, ?hy0_1rf⟩) (HSD0.out _ _ H12.out) ?rest0_1rf
    case hy0_1rf => intro w hSw; exact yld_loadw rfl rfl hSw.1
    case rest0_1rf =>
    try simp only [nz0, nz1, nz2, Act.put, nz3, nz4, nz5]
    refine wpAnyG_take' (i := 2) (v := ?v2_2rf) rfl (by kernel_rfl) (by kernel_rfl) (by kernel_rfl) (by kernel_rfl) (fun _ _ _ h => nomatch h.1) (Or.inl ⟨by rfl, ?hy2_2rf⟩) (HSD0.out _ _ H12.out) ?rest2_2rf
    case hy2_2rf => intro w hSw; (try dsimp only at hSw); go_simp; (try with_reducible rfl)
    case rest2_2rf =>
    try simp only [nz0, nz1, nz2, Act.put, nz3, nz4, nz5]
    refine wpAnyG_take' (i := 3) (v := .agg im) rfl (by kernel_rfl) (by kernel_rfl) (by kernel_rfl) (by kernel_rfl) (fun _ _ _ h => nomatch h.1) (Or.inl ⟨by rfl, ?hy3_3rf⟩) (HSD0.out _ _ H12.out) ?rest3_3rf
    case hy3_3rf => intro w hSw; exact yld_loadw rfl rfl hSw.2
    case rest3_3rf =>
    try simp only [nz0, nz1, nz2, Act.put, nz3, nz4, nz5]
    refine wpAnyG_three (i := 1) (j := 5) (k := 6) (by kernel_rfl) rfl rfl rfl (fun K hK => ?_) (fun K hK => ?_) (fun K hK => ?_)
    · go_simp
      refine (hs.out.cp _ _ H12.out).mono ?_
      rintro r0 w13 ⟨lu, cu, eu, qs, rfl, hqs, h13⟩
      have H13 := Lib.hid h13
      have HQS := Lib.hid hqs
      clear h13 hqs
      refine hK.out _ _ (fun _ => ?hS1m13) ?rest1m13
      case hS1m13 => exact (HSD0.out _ _ (Sep.pickL (M := [_, _, _, _]) H13.out [3] rfl))
      clear K hK
      try simp only [nz0, nz1, nz2, Act.put, nz3, nz4, nz5]
      refine wpAnyG_three (i := 4) (j := 5) (k := 6) (by kernel_rfl) rfl rfl rfl (fun K hK => ?_) (fun K hK => ?_) (fun K hK => ?_)
      · go_simp
        refine (hs.out.cpi _ _ H13.out).mono ?_
        rintro r0 w14 ⟨cu2, eu2, qs2, rfl, hqs2, h14⟩
        have H14 := Lib.hid h14
        have HQS2 := Lib.hid hqs2
        clear h14 hqs2
        refine hK.out _ _ (fun _ => ?hS1m14) ?rest1m14
        case hS1m14 => exact (HSD0.out _ _ (Sep.pickL (M := [_, _, _, _, _, _]) H14.out [5] rfl))
        clear K hK
        try simp only [nz0, nz1, nz2, Act.put, nz3, nz4, nz5]
        refine wpAnyG_two (i := 5) (j := 6) (by kernel_rfl) rfl rfl (fun K hK => ?_) (fun K hK => ?_)
        · have h15 := H14.out.alloc (.cells #[.int .i64 0, .int .i64 0, .int .i64 0, .int .i64 0, .int .i64 0, .int .i64 0, .int .i64 0, .int .i64 0, .int .i64 0, .int .i64 0, .string ⟨#[]⟩, .int .i64 0, .int .i64 0, .slice none 0 0, .int .i64 0, .int .i64 0, .int .i64 0, .bool false, .int .i64 0, .slice none 0 0, .slice none 0 0, .int .i64 0] 34)
          go_simp
          obtain ⟨b9, hb9⟩ : ∃ z, z = w14.heap.size := ⟨_, rfl⟩
          obtain ⟨w15, hw15⟩ : ∃ z, z = w14.alloc (.cells #[.int .i64 0, .int .i64 0, .int .i64 0, .int .i64 0, .int .i64 0, .int .i64 0, .int .i64 0, .int .i64 0, .int .i64 0, .int .i64 0, .string ⟨#[]⟩, .int .i64 0, .int .i64 0, .slice none 0 0, .int .i64 0, .int .i64 0, .int .i64 0, .bool false, .int .i64 0, .slice none 0 0, .slice none 0 0, .int .i64 0] 34) := ⟨_, rfl⟩
          rw [← hw15, ← hb9] at h15
          (try rw [← hw15])
          (try rw [← hb9])
          have H15 := Lib.hid h15
          clear h15 hw15 hb9
          refine hK.out _ _ (fun _ => ?hS1m15) ?rest1m15
          case hS1m15 => exact (HSD0.out _ _ (Sep.pickL (M := [_, _, _, _, _, _, _]) H15.out [6] rfl))
          clear K hK
          try simp only [nz0, nz1, nz2, Act.put, nz3, nz4, nz5]
          refine wpAnyG_one (i := 6) (by kernel_rfl) rfl (fun K hK => ?_)
          have h16 := H15.out.alloc (.cells #[.int .i64 0, .slice none 0 0, .slice none 0 0, .int .i64 0] 32)
          go_simp
          obtain ⟨b10, hb10⟩ : ∃ z, z = w15.heap.size := ⟨_, rfl⟩
          obtain ⟨w16, hw16⟩ : ∃ z, z = w15.alloc (.cells #[.int .i64 0, .slice none 0 0, .slice none 0 0, .int .i64 0] 32) := ⟨_, rfl⟩
          rw [← hw16, ← hb10] at h16
          (try rw [← hw16])
          (try rw [← hb10])
          have H16 := Lib.hid h16
          clear h16 hw16 hb10
          refine hK.out _ _ (fun _ => ?hS1n15) ?rest1n15
          case hS1n15 => exact (HSD0.out _ _ (Sep.pickL (M := [_, _, _, _, _, _, _, _]) H16.out [7] rfl))
          clear K hK
          try simp only [nz0, nz1, nz2, Act.put, nz3, nz4, nz5]
          have ha := H16.out.pickL (M := [_, _, _, _, _, _, _]) [1, 0, 4, 5, 6, 2, 3] rfl
          have HT7 := Lib.hid (ha.thereAt 0 22 (by decide))
          have hb := ha.storeW (mgC { G with lv := lu, cv := cu, ev := eu, ps := qs }) rfl
          obtain ⟨wa, hwa⟩ : ∃ z, z = w16.setCells b9 0 (mgC { G with lv := lu, cv := cu, ev := eu, ps := qs }).toList := ⟨_, rfl⟩
          rw [← hwa] at hb
          have HT8 := Lib.hid (hb.sw2.thereAt 0 4 (by decide))
          have hc := hb.sw2.storeW (imgC G.ib cu2 eu2 G.ic) rfl
          obtain ⟨wb, hwb⟩ : ∃ z, z = wa.setCells b10 0 (imgC G.ib cu2 eu2 G.ic).toList := ⟨_, rfl⟩
          rw [← hwb] at hc
          have HZ := Lib.hid hc
          have hul := ha.pickL (M := [_, _, _, _, _, _, _]) [2, 3, 4, 5, 6] rfl
          have HO := Lib.hid (And.intro (own_one hul) (own_one2 hul))
          clear ha hb hc hul
          refine wpAnyG_one (i := 7) (by kernel_rfl) rfl (fun K hK => ?_)
          refine wp_store_mid 34 (.tmp 9) (.tmp 53) rfl b9 0 (mgC { G with lv := lu, cv := cu, ev := eu, ps := qs }) rfl rfl HT7.out (by kernel_rfl) HO.out.1 ?_
          rw [← hwa]
          clear hwa HT7
          refine hK.out _ _ (fun hno => by cases hno) ?_
          clear K hK
          try simp only [nz0, nz1, nz2, Act.put, nz3, nz4, nz5]
          refine wpAnyG_one (i := 8) (by kernel_rfl) rfl (fun K hK => ?_)
          refine wp_store_mid 32 (.tmp 10) (.tmp 56) rfl b10 0 (imgC G.ib cu2 eu2 G.ic) rfl rfl HT8.out (by kernel_rfl) HO.out.2 ?_
          rw [← hwb]
          clear hwb HT8
          refine hK.out _ _ (fun hno => by cases hno) ?_
          clear K hK
          try simp only [nz0, nz1, nz2, Act.put, nz3, nz4, nz5]
          refine wpAnyG_done (by kernel_rfl) ?_ _
          try simp only [nz0, nz1, nz2, Act.put, nz3, nz4, nz5]
          exact ⟨trivial, b9, b10, _, _, _, _, _, lu, cu, eu, qs, cu2, eu2, qs2, rfl, HQS.out, HQS2.out, HZ.out.sw2⟩
        · have h18 := H14.out.alloc (.cells #[.int .i64 0, .slice none 0 0, .slice none 0 0, .int .i64 0] 32)
          go_simp
          obtain ⟨b10, hb10⟩ : ∃ z, z = w14.heap.size := ⟨_, rfl⟩
          obtain ⟨w18, hw18⟩ : ∃ z, z = w14.alloc (.cells #[.int .i64 0, .slice none 0 0, .slice none 0 0, .int .i64 0] 32) := ⟨_, rfl⟩
          rw [← hw18, ← hb10] at h18
          (try rw [← hw18])
          (try rw [← hb10])
          have H18 := Lib.hid h18
          clear h18 hw18 hb10
          refine hK.out _ _ (fun _ => ?hS1m18) ?rest1m18
          case hS1m18 => exact (HSD0.out _ _ (Sep.pickL (M := [_, _, _, _, _, _, _]) H18.out [6] rfl))
          clear K hK
          try simp only [nz0, nz1, nz2, Act.put, nz3, nz4, nz5]
          refine wpAnyG_one (i := 5) (by kernel_rfl) rfl (fun K hK => ?_)
          have h19 := H18.out.alloc (.cells #[.int .i64 0, .int .i64 0, .int .i64 0, .int .i64 0, .int .i64 0, .int .i64 0, .int .i64 0, .int .i64 0, .int .i64 0, .int .i64 0, .string ⟨#[]⟩, .int .i64 0, .int .i64 0, .slice none 0 0, .int .i64 0, .int .i64 0, .int .i64 0, .bool false, .int .i64 0, .slice none 0 0, .slice none 0 0, .int .i64 0] 34)
          go_simp
          obtain ⟨b9, hb9⟩ : ∃ z, z = w18.heap.size := ⟨_, rfl⟩
          obtain ⟨w19, hw19⟩ : ∃ z, z = w18.alloc (.cells #[.int .i64 0, .int .i64 0, .int .i64 0, .int .i64 0, .int .i64 0, .int .i64 0, .int .i64 0, .int .i64 0, .int .i64 0, .int .i64 0, .string ⟨#[]⟩, .int .i64 0, .int .i64 0, .slice none 0 0, .int .i64 0, .int .i64 0, .int .i64 0, .bool false, .int .i64 0, .slice none 0 0, .slice none 0 0, .int .i64 0] 34) := ⟨_, rfl⟩
          rw [← hw19, ← hb9] at h19
          (try rw [← hw19])
          (try rw [← hb9])
          have H19 := Lib.hid h19
          clear h19 hw19 hb9
          refine hK.out _ _ (fun _ => ?hS1n18) ?rest1n18
          case hS1n18 => exact (HSD0.out _ _ (Sep.pickL (M := [_, _, _, _, _, _, _, _]) H19.out [7] rfl))
          clear K hK
          try simp only [nz0, nz1, nz2, Act.put, nz3, nz4, nz5]
          have ha := H19.out.pickL (M := [_, _, _, _, _, _, _]) [0, 1, 4, 5, 6, 2, 3] rfl
          have HT7 := Lib.hid (ha.thereAt 0 22 (by decide))
          have hb := ha.storeW (mgC { G with lv := lu, cv := cu, ev := eu, ps := qs }) rfl
          obtain ⟨wa, hwa⟩ : ∃ z, z = w19.setCells b9 0 (mgC { G with lv := lu, cv := cu, ev := eu, ps := qs }).toList := ⟨_, rfl⟩
          rw [← hwa] at hb
          have HT8 := Lib.hid (hb.sw2.thereAt 0 4 (by decide))
          have hc := hb.sw2.storeW (imgC G.ib cu2 eu2 G.ic) rfl
          obtain ⟨wb, hwb⟩ : ∃ z, z = wa.setCells b10 0 (imgC G.ib cu2 eu2 G.ic).toList := ⟨_, rfl⟩
          rw [← hwb] at hc
          have HZ := Lib.hid hc
          have hul := ha.pickL (M := [_, _, _, _, _, _, _]) [2, 3, 4, 5, 6] rfl
          have HO := Lib.hid (And.intro (own_one hul) (own_one2 hul))
          clear ha hb hc hul
          refine wpAnyG_one (i := 7) (by kernel_rfl) rfl (fun K hK => ?_)
          refine wp_store_mid 34 (.tmp 9) (.tmp 53) rfl b9 0 (mgC { G with lv := lu, cv := cu, ev := eu, ps := qs }) rfl rfl HT7.out (by kernel_rfl) HO.out.1 ?_
          rw [← hwa]
          clear hwa HT7
          refine hK.out _ _ (fun hno => by cases hno) ?_
          clear K hK
          try simp only [nz0, nz1, nz2, Act.put, nz3, nz4, nz5]
          refine wpAnyG_one (i := 8) (by kernel_rfl) rfl (fun K hK => ?_)
          refine wp_store_mid 32 (.tmp 10) (.tmp 56) rfl b10 0 (imgC G.ib cu2 eu2 G.ic) rfl rfl HT8.out (by kernel_rfl) HO.out.2 ?_
          rw [← hwb]
          clear hwb HT8
          refine hK.out _ _ (fun hno => by cases hno) ?_
          clear K hK
          try simp only [nz0, nz1, nz2, Act.put, nz3, nz4, nz5]
          refine wpAnyG_done (by kernel_rfl) ?_ _
          try simp only [nz0, nz1, nz2, Act.put, nz3, nz4, nz5]
          exact ⟨trivial, b9, b10, _, _, _, _, _, lu, cu, eu, qs, cu2, eu2, qs2, rfl, HQS.out, HQS2.out, HZ.out.sw2⟩
      · have h21 := H13.out.alloc (.cells #[.int .i64 0, .int .i64 0, .int .i64 0, .int .i64 0, .int .i64 0, .int .i64 0, .int .i64 0, .int .i64 0, .int .i64 0, .int .i64 0, .string ⟨#[]⟩, .int .i64 0, .int .i64 0, .slice none 0 0, .int .i64 0, .int .i64 0, .int .i64 0, .bool false, .int .i64 0, .slice none 0 0, .slice none 0 0, .int .i64 0] 34)
        go_simp
        obtain ⟨b9, hb9⟩ : ∃ z, z = w13.heap.size := ⟨_, rfl⟩
        obtain ⟨w21, hw21⟩ : ∃ z, z = w13.alloc (.cells #[.int .i64 0, .int .i64 0, .int .i64 0, .int .i64 0, .int .i64 0, .int .i64 0, .int .i64 0, .int .i64 0, .int .i64 0, .int .i64 0, .string ⟨#[]⟩, .int .i64 0, .int .i64 0, .slice none 0 0, .int .i64 0, .int .i64 0, .int .i64 0, .bool false, .int .i64 0, .slice none 0 0, .slice none 0 0, .int .i64 0] 34) := ⟨_, rfl⟩
        rw [← hw21, ← hb9] at h21
        (try rw [← hw21])
        (try rw [← hb9])
        have H21 := Lib.hid h21
        clear h21 hw21 hb9
        refine hK.out _ _ (fun _ => ?hS1m21) ?rest1m21
        case hS1m21 => exact (HSD0.out _ _ (Sep.pickL (M := [_, _, _, _, _]) H21.out [4] rfl))
        clear K hK
        try simp only [nz0, nz1, nz2, Act.put, nz3, nz4, nz5]
        refine wpAnyG_two (i := 4) (j := 6) (by kernel_rfl) rfl rfl (fun K hK => ?_) (fun K hK => ?_)
        · go_simp
          refine (hs.out.cpi _ _ H21.out).mono ?_
          rintro r0 w22 ⟨cu2, eu2, qs2, rfl, hqs2, h22⟩
          have H22 := Lib.hid h22
          have HQS2 := Lib.hid hqs2
          clear h22 hqs2
          refine hK.out _ _ (fun _ => ?hS1m22) ?rest1m22
          case hS1m22 => exact (HSD0.out _ _ (Sep.pickL (M := [_, _, _, _, _, _, _]) H22.out [6] rfl))
          clear K hK
          try simp only [nz0, nz1, nz2, Act.put, nz3, nz4, nz5]
          refine wpAnyG_one (i := 6) (by kernel_rfl) rfl (fun K hK => ?_)
          have h23 := H22.out.alloc (.cells #[.int .i64 0, .slice none 0 0, .slice none 0 0, .int .i64 0] 32)
          go_simp
          obtain ⟨b10, hb10⟩ : ∃ z, z = w22.heap.size := ⟨_, rfl⟩
          obtain ⟨w23, hw23⟩ : ∃ z, z = w22.alloc (.cells #[.int .i64 0, .slice none 0 0, .slice none 0 0, .int .i64 0] 32) := ⟨_, rfl⟩
          rw [← hw23, ← hb10] at h23
          (try rw [← hw23])
          (try rw [← hb10])
          have H23 := Lib.hid h23
          clear h23 hw23 hb10
          refine hK.out _ _ (fun _ => ?hS1n22) ?rest1n22
          case hS1n22 => exact (HSD0.out _ _ (Sep.pickL (M := [_, _, _, _, _, _, _, _]) H23.out [7] rfl))
          clear K hK
          try simp only [nz0, nz1, nz2, Act.put, nz3, nz4, nz5]
          have ha := H23.out.pickL (M := [_, _, _, _, _, _, _]) [3, 0, 4, 5, 6, 1, 2] rfl
          have HT7 := Lib.hid (ha.thereAt 0 22 (by decide))
          have hb := ha.storeW (mgC { G with lv := lu, cv := cu, ev := eu, ps := qs }) rfl
          obtain ⟨wa, hwa⟩ : ∃ z, z = w23.setCells b9 0 (mgC { G with lv := lu, cv := cu, ev := eu, ps := qs }).toList := ⟨_, rfl⟩
          rw [← hwa] at hb
          have HT8 := Lib.hid (hb.sw2.thereAt 0 4 (by decide))
          have hc := hb.sw2.storeW (imgC G.ib cu2 eu2 G.ic) rfl
          obtain ⟨wb, hwb⟩ : ∃ z, z = wa.setCells b10 0 (imgC G.ib cu2 eu2 G.ic).toList := ⟨_, rfl⟩
          rw [← hwb] at hc
          have HZ := Lib.hid hc
          have hul := ha.pickL (M := [_, _, _, _, _, _, _]) [2, 3, 4, 5, 6] rfl
          have HO := Lib.hid (And.intro (own_one hul) (own_one2 hul))
          clear ha hb hc hul
          refine wpAnyG_one (i := 7) (by kernel_rfl) rfl (fun K hK => ?_)
          refine wp_store_mid 34 (.tmp 9) (.tmp 53) rfl b9 0 (mgC { G with lv := lu, cv := cu, ev := eu, ps := qs }) rfl rfl HT7.out (by kernel_rfl) HO.out.1 ?_
          rw [← hwa]
          clear hwa HT7
          refine hK.out _ _ (fun hno => by cases hno) ?_
          clear K hK
          try simp only [nz0, nz1, nz2, Act.put, nz3, nz4, nz5]
          refine wpAnyG_one (i := 8) (by kernel_rfl) rfl (fun K hK => ?_)
          refine wp_store_mid 32 (.tmp 10) (.tmp 56) rfl b10 0 (imgC G.ib cu2 eu2 G.ic) rfl rfl HT8.out (by kernel_rfl) HO.out.2 ?_
          rw [← hwb]
          clear hwb HT8
          refine hK.out _ _ (fun hno => by cases hno) ?_
          clear K hK
          try simp only [nz0, nz1, nz2, Act.put, nz3, nz4, nz5]
          refine wpAnyG_done (by kernel_rfl) ?_ _
          try simp only [nz0, nz1, nz2, Act.put, nz3, nz4, nz5]
          exact ⟨trivial, b9, b10, _, _, _, _, _, lu, cu, eu, qs, cu2, eu2, qs2, rfl, HQS.out, HQS2.out, HZ.out.sw2⟩
        · have h25 := H21.out.alloc (.cells #[.int .i64 0, .slice none 0 0, .slice none 0 0, .int .i64 0] 32)
          go_simp
          obtain ⟨b10, hb10⟩ : ∃ z, z = w21.heap.size := ⟨_, rfl⟩
          obtain ⟨w25, hw25⟩ : ∃ z, z = w21.alloc (.cells #[.int .i64 0, .slice none 0 0, .slice none 0 0, .int .i64 0] 32) := ⟨_, rfl⟩
          rw [← hw25, ← hb10] at h25
          (try rw [← hw25])
          (try rw [← hb10])
          have H25 := Lib.hid h25
          clear h25 hw25 hb10
          refine hK.out _ _ (fun _ => ?hS1m25) ?rest1m25
          case hS1m25 => exact (HSD0.out _ _ (Sep.pickL (M := [_, _, _, _, _, _]) H25.out [5] rfl))
          clear K hK
          try simp only [nz0, nz1, nz2, Act.put, nz3, nz4, nz5]
          refine wpAnyG_one (i := 4) (by kernel_rfl) rfl (fun K hK => ?_)
          go_simp
          refine (hs.out.cpi _ _ H25.out).mono ?_
          rintro r0 w26 ⟨cu2, eu2, qs2, rfl, hqs2, h26⟩
          have H26 := Lib.hid h26
          have HQS2 := Lib.hid hqs2
          clear h26 hqs2
          refine hK.out _ _ (fun _ => ?hS1n25) ?rest1n25
          case hS1n25 => exact (HSD0.out _ _ (Sep.pickL (M := [_, _, _, _, _, _, _, _]) H26.out [7] rfl))
          clear K hK
          try simp only [nz0, nz1, nz2, Act.put, nz3, nz4, nz5]
          have ha := H26.out.pickL (M := [_, _, _, _, _, _, _]) [3, 2, 4, 5, 6, 0, 1] rfl
          have HT7 := Lib.hid (ha.thereAt 0 22 (by decide))
          have hb := ha.storeW (mgC { G with lv := lu, cv := cu, ev := eu, ps := qs }) rfl
          obtain ⟨wa, hwa⟩ : ∃ z, z = w26.setCells b9 0 (mgC { G with lv := lu, cv := cu, ev := eu, ps := qs }).toList := ⟨_, rfl⟩
          rw [← hwa] at hb
          have HT8 := Lib.hid (hb.sw2.thereAt 0 4 (by decide))
          have hc := hb.sw2.storeW (imgC G.ib cu2 eu2 G.ic) rfl
          obtain ⟨wb, hwb⟩ : ∃ z, z = wa.setCells b10 0 (imgC G.ib cu2 eu2 G.ic).toList := ⟨_, rfl⟩
          rw [← hwb] at hc
          have HZ := Lib.hid hc
          have hul := ha.pickL (M := [_, _, _, _, _, _, _]) [2, 3, 4, 5, 6] rfl
          have HO := Lib.hid (And.intro (own_one hul) (own_one2 hul))
          clear ha hb hc hul
          refine wpAnyG_one (i := 7) (by kernel_rfl) rfl (fun K hK => ?_)
          refine wp_store_mid 34 (.tmp 9) (.tmp 53) rfl b9 0 (mgC { G with lv := lu, cv := cu, ev := eu, ps := qs }) rfl rfl HT7.out (by kernel_rfl) HO.out.1 ?_
          rw [← hwa]
          clear hwa HT7
          refine hK.out _ _ (fun hno => by cases hno) ?_
          clear K hK
          try simp only [nz0, nz1, nz2, Act.put, nz3, nz4, nz5]
          refine wpAnyG_one (i := 8) (by kernel_rfl) rfl (fun K hK => ?_)
          refine wp_store_mid 32 (.tmp 10) (.tmp 56) rfl b10 0 (imgC G.ib cu2 eu2 G.ic) rfl rfl HT8.out (by kernel_rfl) HO.out.2 ?_
          rw [← hwb]
          clear hwb HT8
          refine hK.out _ _ (fun hno => by cases hno) ?_
          clear K hK
          try simp only [nz0, nz1, nz2, Act.put, nz3, nz4, nz5]
          refine wpAnyG_done (by kernel_rfl) ?_ _
          try simp only [nz0, nz1, nz2, Act.put, nz3, nz4, nz5]
          exact ⟨trivial, b9, b10, _, _, _, _, _, lu, cu, eu, qs, cu2, eu2, qs2, rfl, HQS.out, HQS2.out, HZ.out.sw2⟩
      · have h28 := H13.out.alloc (.cells #[.int .i64 0, .slice none 0 0, .slice none 0 0, .int .i64 0] 32)
        go_simp
        obtain ⟨b10, hb10⟩ : ∃ z, z = w13.heap.size := ⟨_, rfl⟩
        obtain ⟨w28, hw28⟩ : ∃ z, z = w13.alloc (.cells #[.int .i64 0, .slice none 0 0, .slice none 0 0, .int .i64 0] 32) := ⟨_, rfl⟩
        rw [← hw28, ← hb10] at h28
        (try rw [← hw28])
        (try rw [← hb10])
        have H28 := Lib.hid h28
        clear h28 hw28 hb10
        refine hK.out _ _ (fun _ => ?hS1m28) ?rest1m28
        case hS1m28 => exact (HSD0.out _ _ (Sep.pickL (M := [_, _, _, _, _]) H28.out [4] rfl))
        clear K hK
        try simp only [nz0, nz1, nz2, Act.put, nz3, nz4, nz5]
        refine wpAnyG_two (i := 4) (j := 5) (by kernel_rfl) rfl rfl (fun K hK => ?_) (fun K hK => ?_)
        · go_simp
          refine (hs.out.cpi _ _ H28.out).mono ?_
          rintro r0 w29 ⟨cu2, eu2, qs2, rfl, hqs2, h29⟩
          have H29 := Lib.hid h29
          have HQS2 := Lib.hid hqs2
          clear h29 hqs2
          refine hK.out _ _ (fun _ => ?hS1m29) ?rest1m29
          case hS1m29 => exact (HSD0.out _ _ (Sep.pickL (M := [_, _, _, _, _, _, _]) H29.out [6] rfl))
          clear K hK
          try simp only [nz0, nz1, nz2, Act.put, nz3, nz4, nz5]
          refine wpAnyG_one (i := 5) (by kernel_rfl) rfl (fun K hK => ?_)
          have h30 := H29.out.alloc (.cells #[.int .i64 0, .int .i64 0, .int .i64 0, .int .i64 0, .int .i64 0, .int .i64 0, .int .i64 0, .int .i64 0, .int .i64 0, .int .i64 0, .string ⟨#[]⟩, .int .i64 0, .int .i64 0, .slice none 0 0, .int .i64 0, .int .i64 0, .int .i64 0, .bool false, .int .i64 0, .slice none 0 0, .slice none 0 0, .int .i64 0] 34)
          go_simp
          obtain ⟨b9, hb9⟩ : ∃ z, z = w29.heap.size := ⟨_, rfl⟩
          obtain ⟨w30, hw30⟩ : ∃ z, z = w29.alloc (.cells #[.int .i64 0, .int .i64 0, .int .i64 0, .int .i64 0, .int .i64 0, .int .i64 0, .int .i64 0, .int .i64 0, .int .i64 0, .int .i64 0, .string ⟨#[]⟩, .int .i64 0, .int .i64 0, .slice none 0 0, .int .i64 0, .int .i64 0, .int .i64 0, .bool false, .int .i64 0, .slice none 0 0, .slice none 0 0, .int .i64 0] 34) := ⟨_, rfl⟩
          rw [← hw30, ← hb9] at h30
          (try rw [← hw30])
          (try rw [← hb9])
          have H30 := Lib.hid h30
          clear h30 hw30 hb9
          refine hK.out _ _ (fun _ => ?hS1n29) ?rest1n29
          case hS1n29 => exact (HSD0.out _ _ (Sep.pickL (M := [_, _, _, _, _, _, _, _]) H30.out [7] rfl))
          clear K hK
          try simp only [nz0, nz1, nz2, Act.put, nz3, nz4, nz5]
          have ha := H30.out.pickL (M := [_, _, _, _, _, _, _]) [0, 3, 4, 5, 6, 1, 2] rfl
          have HT7 := Lib.hid (ha.thereAt 0 22 (by decide))
          have hb := ha.storeW (mgC { G with lv := lu, cv := cu, ev := eu, ps := qs }) rfl
          obtain ⟨wa, hwa⟩ : ∃ z, z = w30.setCells b9 0 (mgC { G with lv := lu, cv := cu, ev := eu, ps := qs }).toList := ⟨_, rfl⟩
          rw [← hwa] at hb
          have HT8 := Lib.hid (hb.sw2.thereAt 0 4 (by decide))
          have hc := hb.sw2.storeW (imgC G.ib cu2 eu2 G.ic) rfl
          obtain ⟨wb, hwb⟩ : ∃ z, z = wa.setCells b10 0 (imgC G.ib cu2 eu2 G.ic).toList := ⟨_, rfl⟩
          rw [← hwb] at hc
          have HZ := Lib.hid hc
          have hul := ha.pickL (M := [_, _, _, _, _, _, _]) [2, 3, 4, 5, 6] rfl
          have HO := Lib.hid (And.intro (own_one hul) (own_one2 hul))
          clear ha hb hc hul
          refine wpAnyG_one (i := 7) (by kernel_rfl) rfl (fun K hK => ?_)
          refine wp_store_mid 34 (.tmp 9) (.tmp 53) rfl b9 0 (mgC { G with lv := lu, cv := cu, ev := eu, ps := qs }) rfl rfl HT7.out (by kernel_rfl) HO.out.1 ?_
          rw [← hwa]
          clear hwa HT7
          refine hK.out _ _ (fun hno => by cases hno) ?_
          clear K hK
          try simp only [nz0, nz1, nz2, Act.put, nz3, nz4, nz5]
          refine wpAnyG_one (i := 8) (by kernel_rfl) rfl (fun K hK => ?_)
          refine wp_store_mid 32 (.tmp 10) (.tmp 56) rfl b10 0 (imgC G.ib cu2 eu2 G.ic) rfl rfl HT8.out (by kernel_rfl) HO.out.2 ?_
          rw [← hwb]
          clear hwb HT8
          refine hK.out _ _ (fun hno => by cases hno) ?_
          clear K hK
          try simp only [nz0, nz1, nz2, Act.put, nz3, nz4, nz5]
          refine wpAnyG_done (by kernel_rfl) ?_ _
          try simp only [nz0, nz1, nz2, Act.put, nz3, nz4, nz5]
          exact ⟨trivial, b9, b10, _, _, _, _, _, lu, cu, eu, qs, cu2, eu2, qs2, rfl, HQS.out, HQS2.out, HZ.out.sw2⟩
        · have h32 := H28.out.alloc (.cells #[.int .i64 0, .int .i64 0, .int .i64 0, .int .i64 0, .int .i64 0, .int .i64 0, .int .i64 0, .int .i64 0, .int .i64 0, .int .i64 0, .string ⟨#[]⟩, .int .i64 0, .int .i64 0, .slice none 0 0, .int .i64 0, .int .i64 0, .int .i64 0, .bool false, .int .i64 0, .slice none 0 0, .slice none 0 0, .int .i64 0] 34)
          go_simp
          obtain ⟨b9, hb9⟩ : ∃ z, z = w28.heap.size := ⟨_, rfl⟩
          obtain ⟨w32, hw32⟩ : ∃ z, z = w28.alloc (.cells #[.int .i64 0, .int .i64 0, .int .i64 0, .int .i64 0, .int .i64 0, .int .i64 0, .int .i64 0, .int .i64 0, .int .i64 0, .int .i64 0, .string ⟨#[]⟩, .int .i64 0, .int .i64 0, .slice none 0 0, .int .i64 0, .int .i64 0, .int .i64 0, .bool false, .int .i64 0, .slice none 0 0, .slice none 0 0, .int .i64 0] 34) := ⟨_, rfl⟩
          rw [← hw32, ← hb9] at h32
          (try rw [← hw32])
          (try rw [← hb9])
          have H32 := Lib.hid h32
          clear h32 hw32 hb9
          refine hK.out _ _ (fun _ => ?hS1m32) ?rest1m32
          case hS1m32 => exact (HSD0.out _ _ (Sep.pickL (M := [_, _, _, _, _, _]) H32.out [5] rfl))
          clear K hK
          try simp only [nz0, nz1, nz2, Act.put, nz3, nz4, nz5]
          refine wpAnyG_one (i := 4) (by kernel_rfl) rfl (fun K hK => ?_)
          go_simp
          refine (hs.out.cpi _ _ H32.out).mono ?_
          rintro r0 w33 ⟨cu2, eu2, qs2, rfl, hqs2, h33⟩
          have H33 := Lib.hid h33
          have HQS2 := Lib.hid hqs2
          clear h33 hqs2
          refine hK.out _ _ (fun _ => ?hS1n32) ?rest1n32
          case hS1n32 => exact (HSD0.out _ _ (Sep.pickL (M := [_, _, _, _, _, _, _, _]) H33.out [7] rfl))
          clear K hK
          try simp only [nz0, nz1, nz2, Act.put, nz3, nz4, nz5]
          have ha := H33.out.pickL (M := [_, _, _, _, _, _, _]) [2, 3, 4, 5, 6, 0, 1] rfl
          have HT7 := Lib.hid (ha.thereAt 0 22 (by decide))
          have hb := ha.storeW (mgC { G with lv := lu, cv := cu, ev := eu, ps := qs }) rfl
          obtain ⟨wa, hwa⟩ : ∃ z, z = w33.setCells b9 0 (mgC { G with lv := lu, cv := cu, ev := eu, ps := qs }).toList := ⟨_, rfl⟩
          rw [← hwa] at hb
          have HT8 := Lib.hid (hb.sw2.thereAt 0 4 (by decide))
          have hc := hb.sw2.storeW (imgC G.ib cu2 eu2 G.ic) rfl
          obtain ⟨wb, hwb⟩ : ∃ z, z = wa.setCells b10 0 (imgC G.ib cu2 eu2 G.ic).toList := ⟨_, rfl⟩
          rw [← hwb] at hc
          have HZ := Lib.hid hc
          have hul := ha.pickL (M := [_, _, _, _, _, _, _]) [2, 3, 4, 5, 6] rfl
          have HO := Lib.hid (And.intro (own_one hul) (own_one2 hul))
          clear ha hb hc hul
          refine wpAnyG_one (i := 7) (by kernel_rfl) rfl (fun K hK => ?_)
          refine wp_store_mid 34 (.tmp 9) (.tmp 53) rfl b9 0 (mgC { G with lv := lu, cv := cu, ev := eu, ps := qs }) rfl rfl HT7.out (by kernel_rfl) HO.out.1 ?_
          rw [← hwa]
          clear hwa HT7
          refine hK.out _ _ (fun hno => by cases hno) ?_
          clear K hK
          try simp only [nz0, nz1, nz2, Act.put, nz3, nz4, nz5]
          refine wpAnyG_one (i := 8) (by kernel_rfl) rfl (fun K hK => ?_)
          refine wp_store_mid 32 (.tmp 10) (.tmp 56) rfl b10 0 (imgC G.ib cu2 eu2 G.ic) rfl rfl HT8.out (by kernel_rfl) HO.out.2 ?_
          rw [← hwb]
          clear hwb HT8
          refine hK.out _ _ (fun hno => by cases hno) ?_
          clear K hK
          try simp only [nz0, nz1, nz2, Act.put, nz3, nz4, nz5]
          refine wpAnyG_done (by kernel_rfl) ?_ _
          try simp only [nz0, nz1, nz2, Act.put, nz3, nz4, nz5]
          exact ⟨trivial, b9, b10, _, _, _, _, _, lu, cu, eu, qs, cu2, eu2, qs2, rfl, HQS.out, HQS2.out, HZ.out.sw2⟩
    · have h35 := H12.out.alloc (.cells #[.int .i64 0, .int .i64 0, .int .i64 0, .int .i64 0, .int .i64 0, .int .i64 0, .int .i64 0, .int .i64 0, .int .i64 0, .int .i64 0, .string ⟨#[]⟩, .int .i64 0, .int .i64 0, .slice none 0 0, .int .i64 0, .int .i64 0, .int .i64 0, .bool false, .int .i64 0, .slice none 0 0, .slice none 0 0, .int .i64 0] 34)
      go_simp
      obtain ⟨b9, hb9⟩ : ∃ z, z = w12.heap.size := ⟨_, rfl⟩
      obtain ⟨w35, hw35⟩ : ∃ z, z = w12.alloc (.cells #[.int .i64 0, .int .i64 0, .int .i64 0, .int .i64 0, .int .i64 0, .int .i64 0, .int .i64 0, .int .i64 0, .int .i64 0, .int .i64 0, .string ⟨#[]⟩, .int .i64 0, .int .i64 0, .slice none 0 0, .int .i64 0, .int .i64 0, .int .i64 0, .bool false, .int .i64 0, .slice none 0 0, .slice none 0 0, .int .i64 0] 34) := ⟨_, rfl⟩
      rw [← hw35, ← hb9] at h35
      (try rw [← hw35])
      (try rw [← hb9])
      have H35 := Lib.hid h35
      clear h35 hw35 hb9
      refine hK.out _ _ (fun _ => ?hS1m35) ?rest1m35
      case hS1m35 => exact (HSD0.out _ _ (Sep.pickL (M := [_, _]) H35.out [1] rfl))
      clear K hK
      try simp only [nz0, nz1, nz2, Act.put, nz3, nz4, nz5]
      refine wpAnyG_two (i := 1) (j := 6) (by kernel_rfl) rfl rfl (fun K hK => ?_) (fun K hK => ?_)
      · go_simp
        refine (hs.out.cp _ _ H35.out).mono ?_
        rintro r0 w36 ⟨lu, cu, eu, qs, rfl, hqs, h36⟩
        have H36 := Lib.hid h36
        have HQS := Lib.hid hqs
        clear h36 hqs
        refine hK.out _ _ (fun _ => ?hS1m36) ?rest1m36
        case hS1m36 => exact (HSD0.out _ _ (Sep.pickL (M := [_, _, _, _, _]) H36.out [4] rfl))
        clear K hK
        try simp only [nz0, nz1, nz2, Act.put, nz3, nz4, nz5]
        refine wpAnyG_two (i := 4) (j := 6) (by kernel_rfl) rfl rfl (fun K hK => ?_) (fun K hK => ?_)
        · go_simp
          refine (hs.out.cpi _ _ H36.out).mono ?_
          rintro r0 w37 ⟨cu2, eu2, qs2, rfl, hqs2, h37⟩
          have H37 := Lib.hid h37
          have HQS2 := Lib.hid hqs2
          clear h37 hqs2
          refine hK.out _ _ (fun _ => ?hS1m37) ?rest1m37
          case hS1m37 => exact (HSD0.out _ _ (Sep.pickL (M := [_, _, _, _, _, _, _]) H37.out [6] rfl))
          clear K hK
          try simp only [nz0, nz1, nz2, Act.put, nz3, nz4, nz5]
          refine wpAnyG_one (i := 6) (by kernel_rfl) rfl (fun K hK => ?_)
          have h38 := H37.out.alloc (.cells #[.int .i64 0, .slice none 0 0, .slice none 0 0, .int .i64 0] 32)
          go_simp
          obtain ⟨b10, hb10⟩ : ∃ z, z = w37.heap.size := ⟨_, rfl⟩
          obtain ⟨w38, hw38⟩ : ∃ z, z = w37.alloc (.cells #[.int .i64 0, .slice none 0 0, .slice none 0 0, .int .i64 0] 32) := ⟨_, rfl⟩
          rw [← hw38, ← hb10] at h38
          (try rw [← hw38])
          (try rw [← hb10])
          have H38 := Lib.hid h38
          clear h38 hw38 hb10
          refine hK.out _ _ (fun _ => ?hS1n37) ?rest1n37
          case hS1n37 => exact (HSD0.out _ _ (Sep.pickL (M := [_, _, _, _, _, _, _, _]) H38.out [7] rfl))
          clear K hK
          try simp only [nz0, nz1, nz2, Act.put, nz3, nz4, nz5]
          have ha := H38.out.pickL (M := [_, _, _, _, _, _, _]) [6, 0, 3, 4, 5, 1, 2] rfl
          have HT7 := Lib.hid (ha.thereAt 0 22 (by decide))
          have hb := ha.storeW (mgC { G with lv := lu, cv := cu, ev := eu, ps := qs }) rfl
          obtain ⟨wa, hwa⟩ : ∃ z, z = w38.setCells b9 0 (mgC { G with lv := lu, cv := cu, ev := eu, ps := qs }).toList := ⟨_, rfl⟩
          rw [← hwa] at hb
          have HT8 := Lib.hid (hb.sw2.thereAt 0 4 (by decide))
          have hc := hb.sw2.storeW (imgC G.ib cu2 eu2 G.ic) rfl
          obtain ⟨wb, hwb⟩ : ∃ z, z = wa.setCells b10 0 (imgC G.ib cu2 eu2 G.ic).toList := ⟨_, rfl⟩
          rw [← hwb] at hc
          have HZ := Lib.hid hc
          have hul := ha.pickL (M := [_, _, _, _, _, _, _]) [2, 3, 4, 5, 6] rfl
          have HO := Lib.hid (And.intro (own_one hul) (own_one2 hul))
          clear ha hb hc hul
          refine wpAnyG_one (i := 7) (by kernel_rfl) rfl (fun K hK => ?_)
          refine wp_store_mid 34 (.tmp 9) (.tmp 53) rfl b9 0 (mgC { G with lv := lu, cv := cu, ev := eu, ps := qs }) rfl rfl HT7.out (by kernel_rfl) HO.out.1 ?_
          rw [← hwa]
          clear hwa HT7
          refine hK.out _ _ (fun hno => by cases hno) ?_
          clear K hK
          try simp only [nz0, nz1, nz2, Act.put, nz3, nz4, nz5]
          refine wpAnyG_one (i := 8) (by kernel_rfl) rfl (fun K hK => ?_)
          refine wp_store_mid 32 (.tmp 10) (.tmp 56) rfl b10 0 (imgC G.ib cu2 eu2 G.ic) rfl rfl HT8.out (by kernel_rfl) HO.out.2 ?_
          rw [← hwb]
          clear hwb HT8
          refine hK.out _ _ (fun hno => by cases hno) ?_
          clear K hK
          try simp only [nz0, nz1, nz2, Act.put, nz3, nz4, nz5]
          refine wpAnyG_done (by kernel_rfl) ?_ _
          try simp only [nz0, nz1, nz2, Act.put, nz3, nz4, nz5]
          exact ⟨trivial, b9, b10, _, _, _, _, _, lu, cu, eu, qs, cu2, eu2, qs2, rfl, HQS.out, HQS2.out, HZ.out.sw2⟩
        · have h40 := H36.out.alloc (.cells #[.int .i64 0, .slice none 0 0, .slice none 0 0, .int .i64 0] 32)
          go_simp
          obtain ⟨b10, hb10⟩ : ∃ z, z = w36.heap.size := ⟨_, rfl⟩
          obtain ⟨w40, hw40⟩ : ∃ z, z = w36.alloc (.cells #[.int .i64 0, .slice none 0 0, .slice none 0 0, .int .i64 0] 32) := ⟨_, rfl⟩
          rw [← hw40, ← hb10] at h40
          (try rw [← hw40])
          (try rw [← hb10])
          have H40 := Lib.hid h40
          clear h40 hw40 hb10
          refine hK.out _ _ (fun _ => ?hS1m40) ?rest1m40
          case hS1m40 => exact (HSD0.out _ _ (Sep.pickL (M := [_, _, _, _, _, _]) H40.out [5] rfl))
          clear K hK
          try simp only [nz0, nz1, nz2, Act.put, nz3, nz4, nz5]
          refine wpAnyG_one (i := 4) (by kernel_rfl) rfl (fun K hK => ?_)
          go_simp
          refine (hs.out.cpi _ _ H40.out).mono ?_
          rintro r0 w41 ⟨cu2, eu2, qs2, rfl, hqs2, h41⟩
          have H41 := Lib.hid h41
          have HQS2 := Lib.hid hqs2
          clear h41 hqs2
          refine hK.out _ _ (fun _ => ?hS1n40) ?rest1n40
          case hS1n40 => exact (HSD0.out _ _ (Sep.pickL (M := [_, _, _, _, _, _, _, _]) H41.out [7] rfl))
          clear K hK
          try simp only [nz0, nz1, nz2, Act.put, nz3, nz4, nz5]
          have ha := H41.out.pickL (M := [_, _, _, _, _, _, _]) [6, 2, 3, 4, 5, 0, 1] rfl
          have HT7 := Lib.hid (ha.thereAt 0 22 (by decide))
          have hb := ha.storeW (mgC { G with lv := lu, cv := cu, ev := eu, ps := qs }) rfl
          obtain ⟨wa, hwa⟩ : ∃ z, z = w41.setCells b9 0 (mgC { G with lv := lu, cv := cu, ev := eu, ps := qs }).toList := ⟨_, rfl⟩
          rw [← hwa] at hb
          have HT8 := Lib.hid (hb.sw2.thereAt 0 4 (by decide))
          have hc := hb.sw2.storeW (imgC G.ib cu2 eu2 G.ic) rfl
          obtain ⟨wb, hwb⟩ : ∃ z, z = wa.setCells b10 0 (imgC G.ib cu2 eu2 G.ic).toList := ⟨_, rfl⟩
          rw [← hwb] at hc
          have HZ := Lib.hid hc
          have hul := ha.pickL (M := [_, _, _, _, _, _, _]) [2, 3, 4, 5, 6] rfl
          have HO := Lib.hid (And.intro (own_one hul) (own_one2 hul))
          clear ha hb hc hul
          refine wpAnyG_one (i := 7) (by kernel_rfl) rfl (fun K hK => ?_)
          refine wp_store_mid 34 (.tmp 9) (.tmp 53) rfl b9 0 (mgC { G with lv := lu, cv := cu, ev := eu, ps := qs }) rfl rfl HT7.out (by kernel_rfl) HO.out.1 ?_
          rw [← hwa]
          clear hwa HT7
          refine hK.out _ _ (fun hno => by cases hno) ?_
          clear K hK
          try simp only [nz0, nz1, nz2, Act.put, nz3, nz4, nz5]
          refine wpAnyG_one (i := 8) (by kernel_rfl) rfl (fun K hK => ?_)
          refine wp_store_mid 32 (.tmp 10) (.tmp 56) rfl b10 0 (imgC G.ib cu2 eu2 G.ic) rfl rfl HT8.out (by kernel_rfl) HO.out.2 ?_
          rw [← hwb]
          clear hwb HT8
          refine hK.out _ _ (fun hno => by cases hno) ?_
          clear K hK
          try simp only [nz0, nz1, nz2, Act.put, nz3, nz4, nz5]
          refine wpAnyG_done (by kernel_rfl) ?_ _
          try simp only [nz0, nz1, nz2, Act.put, nz3, nz4, nz5]
          exact ⟨trivial, b9, b10, _, _, _, _, _, lu, cu, eu, qs, cu2, eu2, qs2, rfl, HQS.out, HQS2.out, HZ.out.sw2⟩
      · have h43 := H35.out.alloc (.cells #[.int .i64 0, .slice none 0 0, .slice none 0 0, .int .i64 0] 32)
        go_simp
        obtain ⟨b10, hb10⟩ : ∃ z, z = w35.heap.size := ⟨_, rfl⟩
        obtain ⟨w43, hw43⟩ : ∃ z, z = w35.alloc (.cells #[.int .i64 0, .slice none 0 0, .slice none 0 0, .int .i64 0] 32) := ⟨_, rfl⟩
        rw [← hw43, ← hb10] at h43
        (try rw [← hw43])
        (try rw [← hb10])
        have H43 := Lib.hid h43
        clear h43 hw43 hb10
        refine hK.out _ _ (fun _ => ?hS1m43) ?rest1m43
        case hS1m43 => exact (HSD0.out _ _ (Sep.pickL (M := [_, _, _]) H43.out [2] rfl))
        clear K hK
        try simp only [nz0, nz1, nz2, Act.put, nz3, nz4, nz5]
        refine wpAnyG_one (i := 1) (by kernel_rfl) rfl (fun K hK => ?_)
        go_simp
        refine (hs.out.cp _ _ H43.out).mono ?_
        rintro r0 w44 ⟨lu, cu, eu, qs, rfl, hqs, h44⟩
        have H44 := Lib.hid h44
        have HQS := Lib.hid hqs
        clear h44 hqs
        refine hK.out _ _ (fun _ => ?hS1n43) ?rest1n43
        case hS1n43 => exact (HSD0.out _ _ (Sep.pickL (M := [_, _, _, _, _, _]) H44.out [5] rfl))
        clear K hK
        try simp only [nz0, nz1, nz2, Act.put, nz3, nz4, nz5]
        refine wpAnyG_one (i := 4) (by kernel_rfl) rfl (fun K hK => ?_)
        go_simp
        refine (hs.out.cpi _ _ H44.out).mono ?_
        rintro r0 w45 ⟨cu2, eu2, qs2, rfl, hqs2, h45⟩
        have H45 := Lib.hid h45
        have HQS2 := Lib.hid hqs2
        clear h45 hqs2
        refine hK.out _ _ (fun _ => ?hS1n44) ?rest1n44
        case hS1n44 => exact (HSD0.out _ _ (Sep.pickL (M := [_, _, _, _, _, _, _, _]) H45.out [7] rfl))
        clear K hK
        try simp only [nz0, nz1, nz2, Act.put, nz3, nz4, nz5]
        have ha := H45.out.pickL (M := [_, _, _, _, _, _, _]) [6, 5, 2, 3, 4, 0, 1] rfl
        have HT7 := Lib.hid (ha.thereAt 0 22 (by decide))
        have hb := ha.storeW (mgC { G with lv := lu, cv := cu, ev := eu, ps := qs }) rfl
        obtain ⟨wa, hwa⟩ : ∃ z, z = w45.setCells b9 0 (mgC { G with lv := lu, cv := cu, ev := eu, ps := qs }).toList := ⟨_, rfl⟩
        rw [← hwa] at hb
        have HT8 := Lib.hid (hb.sw2.thereAt 0 4 (by decide))
        have hc := hb.sw2.storeW (imgC G.ib cu2 eu2 G.ic) rfl
        obtain ⟨wb, hwb⟩ : ∃ z, z = wa.setCells b10 0 (imgC G.ib cu2 eu2 G.ic).toList := ⟨_, rfl⟩
        rw [← hwb] at hc
        have HZ := Lib.hid hc
        have hul := ha.pickL (M := [_, _, _, _, _, _, _]) [2, 3, 4, 5, 6] rfl
        have HO := Lib.hid (And.intro (own_one hul) (own_one2 hul))
        clear ha hb hc hul
        refine wpAnyG_one (i := 7) (by kernel_rfl) rfl (fun K hK => ?_)
        refine wp_store_mid 34 (.tmp 9) (.tmp 53) rfl b9 0 (mgC { G with lv := lu, cv := cu, ev := eu, ps := qs }) rfl rfl HT7.out (by kernel_rfl) HO.out.1 ?_
        rw [← hwa]
        clear hwa HT7
        refine hK.out _ _ (fun hno => by cases hno) ?_
        clear K hK
        try simp only [nz0, nz1, nz2, Act.put, nz3, nz4, nz5]
        refine wpAnyG_one (i := 8) (by kernel_rfl) rfl (fun K hK => ?_)
        refine wp_store_mid 32 (.tmp 10) (.tmp 56) rfl b10 0 (imgC G.ib cu2 eu2 G.ic) rfl rfl HT8.out (by kernel_rfl) HO.out.2 ?_
        rw [← hwb]
        clear hwb HT8
        refine hK.out _ _ (fun hno => by cases hno) ?_
        clear K hK
        try simp only [nz0, nz1, nz2, Act.put, nz3, nz4, nz5]
        refine wpAnyG_done (by kernel_rfl) ?_ _
        try simp only [nz0, nz1, nz2, Act.put, nz3, nz4, nz5]
        exact ⟨trivial, b9, b10, _, _, _, _, _, lu, cu, eu, qs, cu2, eu2, qs2, rfl, HQS.out, HQS2.out, HZ.out.sw2⟩
    · have h47 := H12.out.alloc (.cells #[.int .i64 0, .slice none 0 0, .slice none 0 0, .int .i64 0] 32)
      go_simp
      obtain ⟨b10, hb10⟩ : ∃ z, z = w12.heap.size := ⟨_, rfl⟩
      obtain ⟨w47, hw47⟩ : ∃ z, z = w12.alloc (.cells #[.int .i64 0, .slice none 0 0, .slice none 0 0, .int .i64 0] 32) := ⟨_, rfl⟩
      rw [← hw47, ← hb10] at h47
      (try rw [← hw47])
      (try rw [← hb10])
      have H47 := Lib.hid h47
      clear h47 hw47 hb10
      refine hK.out _ _ (fun _ => ?hS1m47) ?rest1m47
      case hS1m47 => exact (HSD0.out _ _ (Sep.pickL (M := [_, _]) H47.out [1] rfl))
      clear K hK
      try simp only [nz0, nz1, nz2, Act.put, nz3, nz4, nz5]
      refine wpAnyG_two (i := 1) (j := 5) (by kernel_rfl) rfl rfl (fun K hK => ?_) (fun K hK => ?_)
      · go_simp
        refine (hs.out.cp _ _ H47.out).mono ?_
        rintro r0 w48 ⟨lu, cu, eu, qs, rfl, hqs, h48⟩
        have H48 := Lib.hid h48
        have HQS := Lib.hid hqs
        clear h48 hqs
        refine hK.out _ _ (fun _ => ?hS1m48) ?rest1m48
        case hS1m48 => exact (HSD0.out _ _ (Sep.pickL (M := [_, _, _, _, _]) H48.out [4] rfl))
        clear K hK
        try simp only [nz0, nz1, nz2, Act.put, nz3, nz4, nz5]
        refine wpAnyG_two (i := 4) (j := 5) (by kernel_rfl) rfl rfl (fun K hK => ?_) (fun K hK => ?_)
        · go_simp
          refine (hs.out.cpi _ _ H48.out).mono ?_
          rintro r0 w49 ⟨cu2, eu2, qs2, rfl, hqs2, h49⟩
          have H49 := Lib.hid h49
          have HQS2 := Lib.hid hqs2
          clear h49 hqs2
          refine hK.out _ _ (fun _ => ?hS1m49) ?rest1m49
          case hS1m49 => exact (HSD0.out _ _ (Sep.pickL (M := [_, _, _, _, _, _, _]) H49.out [6] rfl))
          clear K hK
          try simp only [nz0, nz1, nz2, Act.put, nz3, nz4, nz5]
          refine wpAnyG_one (i := 5) (by kernel_rfl) rfl (fun K hK => ?_)
          have h50 := H49.out.alloc (.cells #[.int .i64 0, .int .i64 0, .int .i64 0, .int .i64 0, .int .i64 0, .int .i64 0, .int .i64 0, .int .i64 0, .int .i64 0, .int .i64 0, .string ⟨#[]⟩, .int .i64 0, .int .i64 0, .slice none 0 0, .int .i64 0, .int .i64 0, .int .i64 0, .bool false, .int .i64 0, .slice none 0 0, .slice none 0 0, .int .i64 0] 34)
          go_simp
          obtain ⟨b9, hb9⟩ : ∃ z, z = w49.heap.size := ⟨_, rfl⟩
          obtain ⟨w50, hw50⟩ : ∃ z, z = w49.alloc (.cells #[.int .i64 0, .int .i64 0, .int .i64 0, .int .i64 0, .int .i64 0, .int .i64 0, .int .i64 0, .int .i64 0, .int .i64 0, .int .i64 0, .string ⟨#[]⟩, .int .i64 0, .int .i64 0, .slice none 0 0, .int .i64 0, .int .i64 0, .int .i64 0, .bool false, .int .i64 0, .slice none 0 0, .slice none 0 0, .int .i64 0] 34) := ⟨_, rfl⟩
          rw [← hw50, ← hb9] at h50
          (try rw [← hw50])
          (try rw [← hb9])
          have H50 := Lib.hid h50
          clear h50 hw50 hb9
          refine hK.out _ _ (fun _ => ?hS1n49) ?rest1n49
          case hS1n49 => exact (HSD0.out _ _ (Sep.pickL (M := [_, _, _, _, _, _, _, _]) H50.out [7] rfl))
          clear K hK
          try simp only [nz0, nz1, nz2, Act.put, nz3, nz4, nz5]
          have ha := H50.out.pickL (M := [_, _, _, _, _, _, _]) [0, 6, 3, 4, 5, 1, 2] rfl
          have HT7 := Lib.hid (ha.thereAt 0 22 (by decide))
          have hb := ha.storeW (mgC { G with lv := lu, cv := cu, ev := eu, ps := qs }) rfl
          obtain ⟨wa, hwa⟩ : ∃ z, z = w50.setCells b9 0 (mgC { G with lv := lu, cv := cu, ev := eu, ps := qs }).toList := ⟨_, rfl⟩
          rw [← hwa] at hb
          have HT8 := Lib.hid (hb.sw2.thereAt 0 4 (by decide))
          have hc := hb.sw2.storeW (imgC G.ib cu2 eu2 G.ic) rfl
          obtain ⟨wb, hwb⟩ : ∃ z, z = wa.setCells b10 0 (imgC G.ib cu2 eu2 G.ic).toList := ⟨_, rfl⟩
          rw [← hwb] at hc
          have HZ := Lib.hid hc
          have hul := ha.pickL (M := [_, _, _, _, _, _, _]) [2, 3, 4, 5, 6] rfl
          have HO := Lib.hid (And.intro (own_one hul) (own_one2 hul))
          clear ha hb hc hul
          refine wpAnyG_one (i := 7) (by kernel_rfl) rfl (fun K hK => ?_)
          refine wp_store_mid 34 (.tmp 9) (.tmp 53) rfl b9 0 (mgC { G with lv := lu, cv := cu, ev := eu, ps := qs }) rfl rfl HT7.out (by kernel_rfl) HO.out.1 ?_
          rw [← hwa]
          clear hwa HT7
          refine hK.out _ _ (fun hno => by cases hno) ?_
          clear K hK
          try simp only [nz0, nz1, nz2, Act.put, nz3, nz4, nz5]
          refine wpAnyG_one (i := 8) (by kernel_rfl) rfl (fun K hK => ?_)
          refine wp_store_mid 32 (.tmp 10) (.tmp 56) rfl b10 0 (imgC G.ib cu2 eu2 G.ic) rfl rfl HT8.out (by kernel_rfl) HO.out.2 ?_
          rw [← hwb]
          clear hwb HT8
          refine hK.out _ _ (fun hno => by cases hno) ?_
          clear K hK
          try simp only [nz0, nz1, nz2, Act.put, nz3, nz4, nz5]
          refine wpAnyG_done (by kernel_rfl) ?_ _
          try simp only [nz0, nz1, nz2, Act.put, nz3, nz4, nz5]
          exact ⟨trivial, b9, b10, _, _, _, _, _, lu, cu, eu, qs, cu2, eu2, qs2, rfl, HQS.out, HQS2.out, HZ.out.sw2⟩
        · have h52 := H48.out.alloc (.cells #[.int .i64 0, .int .i64 0, .int .i64 0, .int .i64 0, .int .i64 0, .int .i64 0, .int .i64 0, .int .i64 0, .int .i64 0, .int .i64 0, .string ⟨#[]⟩, .int .i64 0, .int .i64 0, .slice none 0 0, .int .i64 0, .int .i64 0, .int .i64 0, .bool false, .int .i64 0, .slice none 0 0, .slice none 0 0, .int .i64 0] 34)
          go_simp
          obtain ⟨b9, hb9⟩ : ∃ z, z = w48.heap.size := ⟨_, rfl⟩
          obtain ⟨w52, hw52⟩ : ∃ z, z = w48.alloc (.cells #[.int .i64 0, .int .i64 0, .int .i64 0, .int .i64 0, .int .i64 0, .int .i64 0, .int .i64 0, .int .i64 0, .int .i64 0, .int .i64 0, .string ⟨#[]⟩, .int .i64 0, .int .i64 0, .slice none 0 0, .int .i64 0, .int .i64 0, .int .i64 0, .bool false, .int .i64 0, .slice none 0 0, .slice none 0 0, .int .i64 0] 34) := ⟨_, rfl⟩
          rw [← hw52, ← hb9] at h52
          (try rw [← hw52])
          (try rw [← hb9])
          have H52 := Lib.hid h52
          clear h52 hw52 hb9
          refine hK.out _ _ (fun _ => ?hS1m52) ?rest1m52
          case hS1m52 => exact (HSD0.out _ _ (Sep.pickL (M := [_, _, _, _, _, _]) H52.out [5] rfl))
          clear K hK
          try simp only [nz0, nz1, nz2, Act.put, nz3, nz4, nz5]
          refine wpAnyG_one (i := 4) (by kernel_rfl) rfl (fun K hK => ?_)
          go_simp
          refine (hs.out.cpi _ _ H52.out).mono ?_
          rintro r0 w53 ⟨cu2, eu2, qs2, rfl, hqs2, h53⟩
          have H53 := Lib.hid h53
          have HQS2 := Lib.hid hqs2
          clear h53 hqs2
          refine hK.out _ _ (fun _ => ?hS1n52) ?rest1n52
          case hS1n52 => exact (HSD0.out _ _ (Sep.pickL (M := [_, _, _, _, _, _, _, _]) H53.out [7] rfl))
          clear K hK
          try simp only [nz0, nz1, nz2, Act.put, nz3, nz4, nz5]
          have ha := H53.out.pickL (M := [_, _, _, _, _, _, _]) [2, 6, 3, 4, 5, 0, 1] rfl
          have HT7 := Lib.hid (ha.thereAt 0 22 (by decide))
          have hb := ha.storeW (mgC { G with lv := lu, cv := cu, ev := eu, ps := qs }) rfl
          obtain ⟨wa, hwa⟩ : ∃ z, z = w53.setCells b9 0 (mgC { G with lv := lu, cv := cu, ev := eu, ps := qs }).toList := ⟨_, rfl⟩
          rw [← hwa] at hb
          have HT8 := Lib.hid (hb.sw2.thereAt 0 4 (by decide))
          have hc := hb.sw2.storeW (imgC G.ib cu2 eu2 G.ic) rfl
          obtain ⟨wb, hwb⟩ : ∃ z, z = wa.setCells b10 0 (imgC G.ib cu2 eu2 G.ic).toList := ⟨_, rfl⟩
          rw [← hwb] at hc
          have HZ := Lib.hid hc
          have hul := ha.pickL (M := [_, _, _, _, _, _, _]) [2, 3, 4, 5, 6] rfl
          have HO := Lib.hid (And.intro (own_one hul) (own_one2 hul))
          clear ha hb hc hul
          refine wpAnyG_one (i := 7) (by kernel_rfl) rfl (fun K hK => ?_)
          refine wp_store_mid 34 (.tmp 9) (.tmp 53) rfl b9 0 (mgC { G with lv := lu, cv := cu, ev := eu, ps := qs }) rfl rfl HT7.out (by kernel_rfl) HO.out.1 ?_
          rw [← hwa]
          clear hwa HT7
          refine hK.out _ _ (fun hno => by cases hno) ?_
          clear K hK
          try simp only [nz0, nz1, nz2, Act.put, nz3, nz4, nz5]
          refine wpAnyG_one (i := 8) (by kernel_rfl) rfl (fun K hK => ?_)
          refine wp_store_mid 32 (.tmp 10) (.tmp 56) rfl b10 0 (imgC G.ib cu2 eu2 G.ic) rfl rfl HT8.out (by kernel_rfl) HO.out.2 ?_
          rw [← hwb]
          clear hwb HT8
          refine hK.out _ _ (fun hno => by cases hno) ?_
          clear K hK
          try simp only [nz0, nz1, nz2, Act.put, nz3, nz4, nz5]
          refine wpAnyG_done (by kernel_rfl) ?_ _
          try simp only [nz0, nz1, nz2, Act.put, nz3, nz4, nz5]
          exact ⟨trivial, b9, b10, _, _, _, _, _, lu, cu, eu, qs, cu2, eu2, qs2, rfl, HQS.out, HQS2.out, HZ.out.sw2⟩
      · have h55 := H47.out.alloc (.cells #[.int .i64 0, .int .i64 0, .int .i64 0, .int .i64 0, .int .i64 0, .int .i64 0, .int .i64 0, .int .i64 0, .int .i64 0, .int .i64 0, .string ⟨#[]⟩, .int .i64 0, .int .i64 0, .slice none 0 0, .int .i64 0, .int .i64 0, .int .i64 0, .bool false, .int .i64 0, .slice none 0 0, .slice none 0 0, .int .i64 0] 34)
        go_simp
        obtain ⟨b9, hb9⟩ : ∃ z, z = w47.heap.size := ⟨_, rfl⟩
        obtain ⟨w55, hw55⟩ : ∃ z, z = w47.alloc (.cells #[.int .i64 0, .int .i64 0, .int .i64 0, .int .i64 0, .int .i64 0, .int .i64 0, .int .i64 0, .int .i64 0, .int .i64 0, .int .i64 0, .string ⟨#[]⟩, .int .i64 0, .int .i64 0, .slice none 0 0, .int .i64 0, .int .i64 0, .int .i64 0, .bool false, .int .i64 0, .slice none 0 0, .slice none 0 0, .int .i64 0] 34) := ⟨_, rfl⟩
        rw [← hw55, ← hb9] at h55
        (try rw [← hw55])
        (try rw [← hb9])
        have H55 := Lib.hid h55
        clear h55 hw55 hb9
        refine hK.out _ _ (fun _ => ?hS1m55) ?rest1m55
        case hS1m55 => exact (HSD0.out _ _ (Sep.pickL (M := [_, _, _]) H55.out [2] rfl))
        clear K hK
        try simp only [nz0, nz1, nz2, Act.put, nz3, nz4, nz5]
        refine wpAnyG_one (i := 1) (by kernel_rfl) rfl (fun K hK => ?_)
        go_simp
        refine (hs.out.cp _ _ H55.out).mono ?_
        rintro r0 w56 ⟨lu, cu, eu, qs, rfl, hqs, h56⟩
        have H56 := Lib.hid h56
        have HQS := Lib.hid hqs
        clear h56 hqs
        refine hK.out _ _ (fun _ => ?hS1n55) ?rest1n55
        case hS1n55 => exact (HSD0.out _ _ (Sep.pickL (M := [_, _, _, _, _, _]) H56.out [5] rfl))
        clear K hK
        try simp only [nz0, nz1, nz2, Act.put, nz3, nz4, nz5]
        refine wpAnyG_one (i := 4) (by kernel_rfl) rfl (fun K hK => ?_)
        go_simp
        refine (hs.out.cpi _ _ H56.out).mono ?_
        rintro r0 w57 ⟨cu2, eu2, qs2, rfl, hqs2, h57⟩
        have H57 := Lib.hid h57
        have HQS2 := Lib.hid hqs2
        clear h57 hqs2
        refine hK.out _ _ (fun _ => ?hS1n56) ?rest1n56
        case hS1n56 => exact (HSD0.out _ _ (Sep.pickL (M := [_, _, _, _, _, _, _, _]) H57.out [7] rfl))
        clear K hK
        try simp only [nz0, nz1, nz2, Act.put, nz3, nz4, nz5]
        have ha := H57.out.pickL (M := [_, _, _, _, _, _, _]) [5, 6, 2, 3, 4, 0, 1] rfl
        have HT7 := Lib.hid (ha.thereAt 0 22 (by decide))
        have hb := ha.storeW (mgC { G with lv := lu, cv := cu, ev := eu, ps := qs }) rfl
        obtain ⟨wa, hwa⟩ : ∃ z, z = w57.setCells b9 0 (mgC { G with lv := lu, cv := cu, ev := eu, ps := qs }).toList := ⟨_, rfl⟩
        rw [← hwa] at hb
        have HT8 := Lib.hid (hb.sw2.thereAt 0 4 (by decide))
        have hc := hb.sw2.storeW (imgC G.ib cu2 eu2 G.ic) rfl
        obtain ⟨wb, hwb⟩ : ∃ z, z = wa.setCells b10 0 (imgC G.ib cu2 eu2 G.ic).toList := ⟨_, rfl⟩
        rw [← hwb] at hc
        have HZ := Lib.hid hc
        have hul := ha.pickL (M := [_, _, _, _, _, _, _]) [2, 3, 4, 5, 6] rfl
        have HO := Lib.hid (And.intro (own_one hul) (own_one2 hul))
        clear ha hb hc hul
        refine wpAnyG_one (i := 7) (by kernel_rfl) rfl (fun K hK => ?_)
        refine wp_store_mid 34 (.tmp 9) (.tmp 53) rfl b9 0 (mgC { G with lv := lu, cv := cu, ev := eu, ps := qs }) rfl rfl HT7.out (by kernel_rfl) HO.out.1 ?_
        rw [← hwa]
        clear hwa HT7
        refine hK.out _ _ (fun hno => by cases hno) ?_
        clear K hK
        try simp only [nz0, nz1, nz2, Act.put, nz3, nz4, nz5]
        refine wpAnyG_one (i := 8) (by kernel_rfl) rfl (fun K hK => ?_)
        refine wp_store_mid 32 (.tmp 10) (.tmp 56) rfl b10 0 (imgC G.ib cu2 eu2 G.ic) rfl rfl HT8.out (by kernel_rfl) HO.out.2 ?_
        rw [← hwb]
        clear hwb HT8
        refine hK.out _ _ (fun hno => by cases hno) ?_
        clear K hK
        try simp only [nz0, nz1, nz2, Act.put, nz3, nz4, nz5]
        refine wpAnyG_done (by kernel_rfl) ?_ _
        try simp only [nz0, nz1, nz2, Act.put, nz3, nz4, nz5]
        exact ⟨trivial, b9, b10, _, _, _, _, _, lu, cu, eu, qs, cu2, eu2, qs2, rfl, HQS.out, HQS2.out, HZ.out.sw2⟩
  rintro e a' w29 ⟨rfl, b9, b10, x52, x53, x54, x55, x56, lu, cu, eu, qs, cu2, eu2, qs2, rfl, hqs, hqs2, h29⟩
  subst hA0
  clear hw12
  simp only [Act.put, List.setIfInBounds_toArray, List.set_cons_zero, List.set_cons_succ]
  obtain ⟨cc, hcc⟩ : ∃ z, z = mgC { G with lv := lu, cv := cu, ev := eu, ps := qs } := ⟨_, rfl⟩
  obtain ⟨im2, him2⟩ : ∃ z, z = imgC G.ib cu2 eu2 G.ic := ⟨_, rfl⟩
  have HCL : Hid (∀ b M wx, Sep w (Cl b cc 34 :: M) wx → (Instr.loadAt 32 (.pointer (some ⟨b, 18, none⟩))).run Tryz.prog wx = .ok (.agg (imgC G.ib cu eu G.ic)) wx) := Lib.hid (by rw [hcc]; exact fun b M wx hx => hx.loadImgw)
  have HC13 : Hid (cc[13]? = some lu) := Lib.hid (by rw [hcc]; rfl)
  have HCZ : Hid (cc.size = 22 ∧ im2.size = 4) := Lib.hid (by rw [hcc, him2]; exact ⟨rfl, rfl⟩)
  have HSC : Hid (∀ wx, Sep w ([Cl b9 cc 34, Cl b10 im2 32, LnR lu G.en.p.ls, By cu G.ck, EnT eu qs, By cu2 G.ck, EnT eu2 qs2, Cl b2 gc 34, Cl b3 kc 34]) wx → Calls Tryz.prog 16 #[.agg cc, .agg gc] wx fun e w' => e = .returned (.bool true) ∧ Sep w ([Cl b9 cc 34, Cl b10 im2 32, LnR lu G.en.p.ls, By cu G.ck, EnT eu qs, By cu2 G.ck, EnT eu2 qs2, Cl b2 gc 34, Cl b3 kc 34]) w') := Lib.hid fun wx hx => by
    rw [hcc] at hx ⊢
    exact hs.out.sc lu cu eu qs _ wx hqs (gm_things5w (Sep.pick hx [2, 3, 4] rfl)) hx
  have HSI : Hid (∀ wx, Sep w ([Cl b9 cc 34, Cl b10 im2 32, LnR lu G.en.p.ls, By cu G.ck, EnT eu qs, By cu2 G.ck, EnT eu2 qs2, Cl b2 gc 34, Cl b3 kc 34]) wx → Calls Tryz.prog 18 #[.agg im2, .agg im] wx fun e w' => e = .returned (.bool true) ∧ Sep w ([Cl b9 cc 34, Cl b10 im2 32, LnR lu G.en.p.ls, By cu G.ck, EnT eu qs, By cu2 G.ck, EnT eu2 qs2, Cl b2 gc 34, Cl b3 kc 34]) w') := Lib.hid fun wx hx => by
    rw [him2] at hx ⊢
    exact hs.out.si cu2 eu2 qs2 _ wx hqs2 (Sep.pick hx [5] rfl).sl (Sep.pick hx [6] rfl).enS hx
  have HSG : Hid (∀ wx, Sep w ([Cl b9 cc 34, Cl b10 im2 32, LnR lu G.en.p.ls, By cu G.ck, EnT eu qs, By cu2 G.ck, EnT eu2 qs2, Cl b2 gc 34, Cl b3 kc 34]) wx → SW7 b2 b3 b9 b10 gc kc im kim cc im2 wx) := Lib.hid fun wx hx =>
    ⟨⟨((Sep.pick hx [7] rfl).loadW 34 Tryz.underlying34 rfl (by rw [hs.out.szg]; kernel_rfl)), hs.out.ldg _ _ _ (Sep.pick hx [7] rfl)⟩, ⟨((Sep.pick hx [8] rfl).loadW 34 Tryz.underlying34 rfl (by rw [hs.out.szk]; kernel_rfl)), hs.out.ldk _ _ _ (Sep.pick hx [8] rfl)⟩, hx.loadW 34 Tryz.underlying34 rfl (by rw [HCZ.out.1]; kernel_rfl), hx.sw2.loadW 32 Tryz.underlying32 rfl (by rw [HCZ.out.2]; kernel_rfl)⟩
  rw [← hcc, ← him2] at h29
  have H30 : Hid (Sep w ([Cl b9 cc 34, Cl b10 im2 32, LnR lu G.en.p.ls, By cu G.ck, EnT eu qs, By cu2 G.ck, EnT eu2 qs2, Cl b2 gc 34, Cl b3 kc 34]) w29.drew) := Lib.hid h29.drew
  have HIM2 := Lib.hid him2
  have HQS := Lib.hid hqs
  have HQL : Hid (qs.length ≤ 40 ∧ qs2.length ≤ 40) := Lib.hid (by
    have e1 := congrArg List.length hqs
    have e2 := congrArg List.length hqs2
    rw [List.length_map, List.length_map] at e1 e2
    have := hs.out.ps
    omega)
  clear hcc him2 h29 hqs hqs2 H12 HSD0
  (try dsimp only); repeat' (first | go_values | go_skip | go_guarded | go_step | go_upon | go_back)
  refine wp_region_G (SW7 b2 b3 b9 b10 gc kc im kim cc im2) [] (by kernel_rfl) (HSG.out _ H30.out) (fun hS => ?_)
  try dsimp only at hS
  refine wpAnyG_take' (i := 0) (v := .agg gc) rfl (by kernel_rfl) (by kernel_rfl) (by kernel_rfl) (by kernel_rfl) (fun _ _ _ h => h) (Or.inl ⟨by rfl, ?hy0_1rg⟩) (HSG.out _ H30.out) ?rest0_1rg
  case hy0_1rg => intro w hSw; exact yld_loadw rfl rfl hSw.1.1
  case rest0_1rg =>
  try simp only [nz0, nz1, nz2, Act.put, nz3, nz4, nz5]
  refine wpAnyG_take' (i := 1) (v := .agg kc) rfl (by kernel_rfl) (by kernel_rfl) (by kernel_rfl) (by kernel_rfl) (fun _ _ _ h => h) (Or.inl ⟨by rfl, ?hy1_2rg⟩) (HSG.out _ H30.out) ?rest1_2rg
  case hy1_2rg => intro w hSw; exact yld_loadw rfl rfl hSw.2.1.1
  case rest1_2rg =>
  try simp only [nz0, nz1, nz2, Act.put, nz3, nz4, nz5]
  refine wpAnyG_take' (i := 3) (v := .agg gc) rfl (by kernel_rfl) (by kernel_rfl) (by kernel_rfl) (by kernel_rfl) (fun _ _ _ h => h) (Or.inl ⟨by rfl, ?hy3_3rg⟩) (HSG.out _ H30.out) ?rest3_3rg
  case hy3_3rg => intro w hSw; exact yld_loadw rfl rfl hSw.1.1
  case rest3_3rg =>
  try simp only [nz0, nz1, nz2, Act.put, nz3, nz4, nz5]
  refine wpAnyG_take' (i := 4) (v := .agg kc) rfl (by kernel_rfl) (by kernel_rfl) (by kernel_rfl) (by kernel_rfl) (fun _ _ _ h => h) (Or.inl ⟨by rfl, ?hy4_4rg⟩) (HSG.out _ H30.out) ?rest4_4rg
  case hy4_4rg => intro w hSw; exact yld_loadw rfl rfl hSw.2.1.1
  case rest4_4rg =>
  try simp only [nz0, nz1, nz2, Act.put, nz3, nz4, nz5]
  refine wpAnyG_one (i := 2) (by kernel_rfl) rfl (fun K hK => ?_)
  go_simp
  refine (hs.out.sm _ _ H30.out).mono ?_
  rintro r0 w31 ⟨rfl, h31⟩
  have H31 := Lib.hid h31
  clear h31 H30
  refine hK.out _ _ (fun _ => ?hS5rg) ?rest5rg
  case hS5rg => exact (HSG.out _ H31.out)
  clear K hK
  try simp only [nz0, nz1, nz2, Act.put, nz3, nz4, nz5]
  refine wpAnyG_one (i := 5) (by kernel_rfl) rfl (fun K hK => ?_)
  go_simp
  refine (hs.out.rsm _ _ H31.out).mono ?_
  rintro r0 w32 ⟨rfl, h32⟩
  have H32 := Lib.hid h32
  clear h32 H31
  refine hK.out _ _ (fun _ => ?hS6rg) ?rest6rg
  case hS6rg => exact (HSG.out _ H32.out)
  clear K hK
  try simp only [nz0, nz1, nz2, Act.put, nz3, nz4, nz5]
  refine wpAnyG_take' (i := 6) (v := ?v6_7rg) rfl (by kernel_rfl) (by kernel_rfl) (by kernel_rfl) (by kernel_rfl) (fun _ _ _ h => h) (Or.inl ⟨by rfl, ?hy6_7rg⟩) (HSG.out _ H32.out) ?rest6_7rg
  case hy6_7rg => intro w hSw; (try dsimp only at hSw); go_simp; (try with_reducible rfl)
  case rest6_7rg =>
  try simp only [nz0, nz1, nz2, Act.put, nz3, nz4, nz5]
  refine wpAnyG_take' (i := 7) (v := ?v7_8rg) rfl (by kernel_rfl) (by kernel_rfl) (by kernel_rfl) (by kernel_rfl) (fun _ _ _ h => h) (Or.inl ⟨by rfl, ?hy7_8rg⟩) (HSG.out _ H32.out) ?rest7_8rg
  case hy7_8rg => intro w hSw; (try dsimp only at hSw); go_simp; (try with_reducible rfl)
  case rest7_8rg =>
  try simp only [nz0, nz1, nz2, Act.put, nz3, nz4, nz5]
  refine wpAnyG_take' (i := 8) (v := ?v8_9rg) rfl (by kernel_rfl) (by kernel_rfl) (by kernel_rfl) (by kernel_rfl) (fun _ _ _ h => h) (Or.inl ⟨by rfl, ?hy8_9rg⟩) (HSG.out _ H32.out) ?rest8_9rg
  case hy8_9rg => intro w hSw; (try dsimp only at hSw); go_simp; (try with_reducible rfl)
  case rest8_9rg =>
  try simp only [nz0, nz1, nz2, Act.put, nz3, nz4, nz5]
  refine wpAnyG_take' (i := 9) (v := .agg im) rfl (by kernel_rfl) (by kernel_rfl) (by kernel_rfl) (by kernel_rfl) (fun _ _ _ h => h) (Or.inl ⟨by rfl, ?hy9_10rg⟩) (HSG.out _ H32.out) ?rest9_10rg
  case hy9_10rg => intro w hSw; exact yld_loadw rfl rfl hSw.1.2
  case rest9_10rg =>
  try simp only [nz0, nz1, nz2, Act.put, nz3, nz4, nz5]
  refine wpAnyG_take' (i := 10) (v := ?v10_11rg) rfl (by kernel_rfl) (by kernel_rfl) (by kernel_rfl) (by kernel_rfl) (fun _ _ _ h => h) (Or.inl ⟨by rfl, ?hy10_11rg⟩) (HSG.out _ H32.out) ?rest10_11rg
  case hy10_11rg => intro w hSw; (try dsimp only at hSw); go_simp; (try with_reducible rfl)
  case rest10_11rg =>
  try simp only [nz0, nz1, nz2, Act.put, nz3, nz4, nz5]
  refine wpAnyG_take' (i := 11) (v := .agg kim) rfl (by kernel_rfl) (by kernel_rfl) (by kernel_rfl) (by kernel_rfl) (fun _ _ _ h => h) (Or.inl ⟨by rfl, ?hy11_12rg⟩) (HSG.out _ H32.out) ?rest11_12rg
  case hy11_12rg => intro w hSw; exact yld_loadw rfl rfl hSw.2.1.2
  case rest11_12rg =>
  try simp only [nz0, nz1, nz2, Act.put, nz3, nz4, nz5]
  refine wpAnyG_take' (i := 13) (v := ?v13_13rg) rfl (by kernel_rfl) (by kernel_rfl) (by kernel_rfl) (by kernel_rfl) (fun _ _ _ h => h) (Or.inl ⟨by rfl, ?hy13_13rg⟩) (HSG.out _ H32.out) ?rest13_13rg
  case hy13_13rg => intro w hSw; (try dsimp only at hSw); go_simp; (try with_reducible rfl)
  case rest13_13rg =>
  try simp only [nz0, nz1, nz2, Act.put, nz3, nz4, nz5]
  refine wpAnyG_take' (i := 14) (v := .agg im) rfl (by kernel_rfl) (by kernel_rfl) (by kernel_rfl) (by kernel_rfl) (fun _ _ _ h => h) (Or.inl ⟨by rfl, ?hy14_14rg⟩) (HSG.out _ H32.out) ?rest14_14rg
  case hy14_14rg => intro w hSw; exact yld_loadw rfl rfl hSw.1.2
  case rest14_14rg =>
  try simp only [nz0, nz1, nz2, Act.put, nz3, nz4, nz5]
  refine wpAnyG_take' (i := 15) (v := ?v15_15rg) rfl (by kernel_rfl) (by kernel_rfl) (by kernel_rfl) (by kernel_rfl) (fun _ _ _ h => h) (Or.inl ⟨by rfl, ?hy15_15rg⟩) (HSG.out _ H32.out) ?rest15_15rg
  case hy15_15rg => intro w hSw; (try dsimp only at hSw); go_simp; (try with_reducible rfl)
  case rest15_15rg =>
  try simp only [nz0, nz1, nz2, Act.put, nz3, nz4, nz5]
  refine wpAnyG_take' (i := 16) (v := .agg kim) rfl (by kernel_rfl) (by kernel_rfl) (by kernel_rfl) (by kernel_rfl) (fun _ _ _ h => h) (Or.inl ⟨by rfl, ?hy16_16rg⟩) (HSG.out _ H32.out) ?rest16_16rg
  case hy16_16rg => intro w hSw; exact yld_loadw rfl rfl hSw.2.1.2
  case rest16_16rg =>
  try simp only [nz0, nz1, nz2, Act.put, nz3, nz4, nz5]
  refine wpAnyG_one (i := 12) (by kernel_rfl) rfl (fun K hK => ?_)
  go_simp
  refine (hs.out.smi _ _ H32.out).mono ?_
  rintro r0 w33 ⟨rfl, h33⟩
  have H33 := Lib.hid h33
  clear h33 H32
  refine hK.out _ _ (fun _ => ?hS17rg) ?rest17rg
  case hS17rg => exact (HSG.out _ H33.out)
  clear K hK
  try simp only [nz0, nz1, nz2, Act.put, nz3, nz4, nz5]
  refine wpAnyG_one (i := 17) (by kernel_rfl) rfl (fun K hK => ?_)
  go_simp
  refine (hs.out.rsmi _ _ H33.out).mono ?_
  rintro r0 w34 ⟨rfl, h34⟩
  have H34 := Lib.hid h34
  clear h34 H33
  refine hK.out _ _ (fun _ => ?hS18rg) ?rest18rg
  case hS18rg => exact (HSG.out _ H34.out)
  clear K hK
  try simp only [nz0, nz1, nz2, Act.put, nz3, nz4, nz5]
  refine wpAnyG_take' (i := 18) (v := ?v18_19rg) rfl (by kernel_rfl) (by kernel_rfl) (by kernel_rfl) (by kernel_rfl) (fun _ _ _ h => h) (Or.inl ⟨by rfl, ?hy18_19rg⟩) (HSG.out _ H34.out) ?rest18_19rg
  case hy18_19rg => intro w hSw; (try dsimp only at hSw); go_simp; (try with_reducible rfl)
  case rest18_19rg =>
  try simp only [nz0, nz1, nz2, Act.put, nz3, nz4, nz5]
  refine wpAnyG_take' (i := 19) (v := ?v19_20rg) rfl (by kernel_rfl) (by kernel_rfl) (by kernel_rfl) (by kernel_rfl) (fun _ _ _ h => h) (Or.inl ⟨by rfl, ?hy19_20rg⟩) (HSG.out _ H34.out) ?rest19_20rg
  case hy19_20rg => intro w hSw; (try dsimp only at hSw); go_simp; (try with_reducible rfl)
  case rest19_20rg =>
  try simp only [nz0, nz1, nz2, Act.put, nz3, nz4, nz5]
  refine wpAnyG_take' (i := 20) (v := ?v20_21rg) rfl (by kernel_rfl) (by kernel_rfl) (by kernel_rfl) (by kernel_rfl) (fun _ _ _ h => h) (Or.inl ⟨by rfl, ?hy20_21rg⟩) (HSG.out _ H34.out) ?rest20_21rg
  case hy20_21rg => intro w hSw; (try dsimp only at hSw); go_simp; (try with_reducible rfl)
  case rest20_21rg =>
  try simp only [nz0, nz1, nz2, Act.put, nz3, nz4, nz5]
  refine wpAnyG_take' (i := 21) (v := .agg cc) rfl (by kernel_rfl) (by kernel_rfl) (by kernel_rfl) (by kernel_rfl) (fun _ _ _ h => h) (Or.inl ⟨by rfl, ?hy21_22rg⟩) (HSG.out _ H34.out) ?rest21_22rg
  case hy21_22rg => intro w hSw; exact yld_loadw rfl rfl hSw.2.2.1
  case rest21_22rg =>
  try simp only [nz0, nz1, nz2, Act.put, nz3, nz4, nz5]
  refine wpAnyG_take' (i := 22) (v := .agg gc) rfl (by kernel_rfl) (by kernel_rfl) (by kernel_rfl) (by kernel_rfl) (fun _ _ _ h => h) (Or.inl ⟨by rfl, ?hy22_23rg⟩) (HSG.out _ H34.out) ?rest22_23rg
  case hy22_23rg => intro w hSw; exact yld_loadw rfl rfl hSw.1.1
  case rest22_23rg =>
  try simp only [nz0, nz1, nz2, Act.put, nz3, nz4, nz5]
  refine wpAnyG_one (i := 23) (by kernel_rfl) rfl (fun K hK => ?_)
  go_simp
  refine (HSC.out _ H34.out).mono ?_
  rintro r0 w35 ⟨rfl, h35⟩
  have H35 := Lib.hid h35
  clear h35 H34
  refine hK.out _ _ (fun _ => ?hS24rg) ?rest24rg
  case hS24rg => exact (HSG.out _ H35.out)
  clear K hK
  try simp only [nz0, nz1, nz2, Act.put, nz3, nz4, nz5]
  refine wpAnyG_take' (i := 24) (v := ?v24_25rg) rfl (by kernel_rfl) (by kernel_rfl) (by kernel_rfl) (by kernel_rfl) (fun _ _ _ h => h) (Or.inl ⟨by rfl, ?hy24_25rg⟩) (HSG.out _ H35.out) ?rest24_25rg
  case hy24_25rg => intro w hSw; (try dsimp only at hSw); go_simp; (try with_reducible rfl)
  case rest24_25rg =>
  try simp only [nz0, nz1, nz2, Act.put, nz3, nz4, nz5]
  refine wpAnyG_take' (i := 25) (v := ?v25_26rg) rfl (by kernel_rfl) (by kernel_rfl) (by kernel_rfl) (by kernel_rfl) (fun _ _ _ h => h) (Or.inl ⟨by rfl, ?hy25_26rg⟩) (HSG.out _ H35.out) ?rest25_26rg
  case hy25_26rg => intro w hSw; (try dsimp only at hSw); go_simp; (try with_reducible rfl)
  case rest25_26rg =>
  try simp only [nz0, nz1, nz2, Act.put, nz3, nz4, nz5]
  refine wpAnyG_take' (i := 26) (v := ?v26_27rg) rfl (by kernel_rfl) (by kernel_rfl) (by kernel_rfl) (by kernel_rfl) (fun _ _ _ h => h) (Or.inl ⟨by rfl, ?hy26_27rg⟩) (HSG.out _ H35.out) ?rest26_27rg
  case hy26_27rg => intro w hSw; (try dsimp only at hSw); go_simp; (try with_reducible rfl)
  case rest26_27rg =>
  try simp only [nz0, nz1, nz2, Act.put, nz3, nz4, nz5]
  refine wpAnyG_take' (i := 27) (v := .agg im2) rfl (by kernel_rfl) (by kernel_rfl) (by kernel_rfl) (by kernel_rfl) (fun _ _ _ h => h) (Or.inl ⟨by rfl, ?hy27_28rg⟩) (HSG.out _ H35.out) ?rest27_28rg
  case hy27_28rg => intro w hSw; exact yld_loadw rfl rfl hSw.2.2.2
  case rest27_28rg =>
  try simp only [nz0, nz1, nz2, Act.put, nz3, nz4, nz5]
  refine wpAnyG_take' (i := 28) (v := ?v28_29rg) rfl (by kernel_rfl) (by kernel_rfl) (by kernel_rfl) (by kernel_rfl) (fun _ _ _ h => h) (Or.inl ⟨by rfl, ?hy28_29rg⟩) (HSG.out _ H35.out) ?rest28_29rg
  case hy28_29rg => intro w hSw; (try dsimp only at hSw); go_simp; (try with_reducible rfl)
  case rest28_29rg =>
  try simp only [nz0, nz1, nz2, Act.put, nz3, nz4, nz5]
  refine wpAnyG_take' (i := 29) (v := .agg im) rfl (by kernel_rfl) (by kernel_rfl) (by kernel_rfl) (by kernel_rfl) (fun _ _ _ h => h) (Or.inl ⟨by rfl, ?hy29_30rg⟩) (HSG.out _ H35.out) ?rest29_30rg
  case hy29_30rg => intro w hSw; exact yld_loadw rfl rfl hSw.1.2
  case rest29_30rg =>
  try simp only [nz0, nz1, nz2, Act.put, nz3, nz4, nz5]
  refine wpAnyG_one (i := 30) (by kernel_rfl) rfl (fun K hK => ?_)
  go_simp
  refine (HSI.out _ H35.out).mono ?_
  rintro r0 w36 ⟨rfl, h36⟩
  have H36 := Lib.hid h36
  clear h36 H35
  refine hK.out _ _ (fun _ => ?hS31rg) ?rest31rg
  case hS31rg => exact (HSG.out _ H36.out)
  clear K hK
  try simp only [nz0, nz1, nz2, Act.put, nz3, nz4, nz5]
  refine wpAnyG_take' (i := 31) (v := ?v31_32rg) rfl (by kernel_rfl) (by kernel_rfl) (by kernel_rfl) (by kernel_rfl) (fun _ _ _ h => h) (Or.inl ⟨by rfl, ?hy31_32rg⟩) (HSG.out _ H36.out) ?rest31_32rg
  case hy31_32rg => intro w hSw; (try dsimp only at hSw); go_simp; (try with_reducible rfl)
  case rest31_32rg =>
  try simp only [nz0, nz1, nz2, Act.put, nz3, nz4, nz5]
  refine wpAnyG_take' (i := 32) (v := ?v32_33rg) rfl (by kernel_rfl) (by kernel_rfl) (by kernel_rfl) (by kernel_rfl) (fun _ _ _ h => h) (Or.inl ⟨by rfl, ?hy32_33rg⟩) (HSG.out _ H36.out) ?rest32_33rg
  case hy32_33rg => intro w hSw; (try dsimp only at hSw); go_simp; (try with_reducible rfl)
  case rest32_33rg =>
  try simp only [nz0, nz1, nz2, Act.put, nz3, nz4, nz5]
  refine wpAnyG_take' (i := 33) (v := ?v33_34rg) rfl (by kernel_rfl) (by kernel_rfl) (by kernel_rfl) (by kernel_rfl) (fun _ _ _ h => h) (Or.inl ⟨by rfl, ?hy33_34rg⟩) (HSG.out _ H36.out) ?rest33_34rg
  case hy33_34rg => intro w hSw; (try dsimp only at hSw); go_simp; (try with_reducible rfl)
  case rest33_34rg =>
  try simp only [nz0, nz1, nz2, Act.put, nz3, nz4, nz5]
  refine wpAnyG_take' (i := 34) (v := ?v34_35rg) rfl (by kernel_rfl) (by kernel_rfl) (by kernel_rfl) (by kernel_rfl) (fun _ _ _ h => h) (Or.inl ⟨by rfl, ?hy34_35rg⟩) (HSG.out _ H36.out) ?rest34_35rg
  case hy34_35rg => intro w hSw; (try dsimp only at hSw); go_simp; (try with_reducible rfl)
  case rest34_35rg =>
  try simp only [nz0, nz1, nz2, Act.put, nz3, nz4, nz5]
  refine wpAnyG_take' (i := 35) (v := .agg im) rfl (by kernel_rfl) (by kernel_rfl) (by kernel_rfl) (by kernel_rfl) (fun _ _ _ h => h) (Or.inl ⟨by rfl, ?hy35_36rg⟩) (HSG.out _ H36.out) ?rest35_36rg
  case hy35_36rg => intro w hSw; exact yld_loadw rfl rfl hSw.1.2
  case rest35_36rg =>
  try simp only [nz0, nz1, nz2, Act.put, nz3, nz4, nz5]
  refine wpAnyG_take' (i := 37) (v := ?v37_37rg) rfl (by kernel_rfl) (by kernel_rfl) (by kernel_rfl) (by kernel_rfl) (fun _ _ _ h => h) (Or.inl ⟨by rfl, ?hy37_37rg⟩) (HSG.out _ H36.out) ?rest37_37rg
  case hy37_37rg => intro w hSw; (try dsimp only at hSw); go_simp; (try with_reducible rfl)
  case rest37_37rg =>
  try simp only [nz0, nz1, nz2, Act.put, nz3, nz4, nz5]
  refine wpAnyG_take' (i := 38) (v := .agg im) rfl (by kernel_rfl) (by kernel_rfl) (by kernel_rfl) (by kernel_rfl) (fun _ _ _ h => h) (Or.inl ⟨by rfl, ?hy38_38rg⟩) (HSG.out _ H36.out) ?rest38_38rg
  case hy38_38rg => intro w hSw; exact yld_loadw rfl rfl hSw.1.2
  case rest38_38rg =>
  try simp only [nz0, nz1, nz2, Act.put, nz3, nz4, nz5]
  refine wpAnyG_one (i := 36) (by kernel_rfl) rfl (fun K hK => ?_)
  go_simp
  refine (hs.out.tp _ _ H36.out).mono ?_
  rintro r0 w37 ⟨rfl, h37⟩
  have H37 := Lib.hid h37
  clear h37 H36
  refine hK.out _ _ (fun _ => ?hS39rg) ?rest39rg
  case hS39rg => exact (HSG.out _ H37.out)
  clear K hK
  try simp only [nz0, nz1, nz2, Act.put, nz3, nz4, nz5]
  refine wpAnyG_one (i := 39) (by kernel_rfl) rfl (fun K hK => ?_)
  go_simp
  refine (hs.out.rtp _ _ H37.out).mono ?_
  rintro r0 w38 ⟨rfl, h38⟩
  have H38 := Lib.hid h38
  clear h38 H37
  refine hK.out _ _ (fun _ => ?hS40rg) ?rest40rg
  case hS40rg => exact (HSG.out _ H38.out)
  clear K hK
  try simp only [nz0, nz1, nz2, Act.put, nz3, nz4, nz5]
  refine wpAnyG_take' (i := 40) (v := ?v40_41rg) rfl (by kernel_rfl) (by kernel_rfl) (by kernel_rfl) (by kernel_rfl) (fun _ _ _ h => h) (Or.inl ⟨by rfl, ?hy40_41rg⟩) (HSG.out _ H38.out) ?rest40_41rg
  case hy40_41rg => intro w hSw; (try dsimp only at hSw); go_simp; (try with_reducible rfl)
  case rest40_41rg =>
  try simp only [nz0, nz1, nz2, Act.put, nz3, nz4, nz5]
  refine wpAnyG_one (i := 41) (by kernel_rfl) rfl (fun K hK => ?_)
  go_simp
  refine hK.out _ _ (fun _ => ?hS42rg) ?rest42rg
  case hS42rg => exact (HSG.out _ H38.out)
  clear K hK
  try simp only [nz0, nz1, nz2, Act.put, nz3, nz4, nz5]
  refine wpAnyG_done (by kernel_rfl) ?_ _
  try simp only [nz0, nz1, nz2, Act.put, nz3, nz4, nz5]
  clear hS HSC HSI HSG
  have h38 := H38.out
  have HL := Lib.hid ((Sep.pick h38 [7] rfl).loadW 34 Tryz.underlying34 rfl (by rw [hs.out.szg]; kernel_rfl))
  have HRP := Lib.hid (hs.out.rcp _ _ h38)
  clear h38 H38
  (try dsimp only); repeat' (first | (with_reducible show wpList _ _ _ (Oper.mk _ (Op.load 34 _) _ _ _ _ :: _) _ _; refine stopP ?_) | go_values | go_skip | go_guarded | go_step | go_upon | go_back)
  unfold StopP
  have hq_ := HL.out
  refine wpList_load_run rfl 34 _ rfl _ _ rfl hq_ ?_
  clear hq_ HL
  (try dsimp only); repeat' (first | go_values | go_skip | go_guarded | go_step | go_upon | go_back)
  refine HRP.out.mono ?_
  rintro r0 w39 ⟨lu3, cu3, eu3, qs3, rfl, hqs3, h39⟩
  have h40 := h39.alloc (.cells #[.int .i64 0, .int .i64 0, .int .i64 0, .int .i64 0, .int .i64 0, .int .i64 0, .int .i64 0, .int .i64 0, .int .i64 0, .int .i64 0, .string ⟨#[]⟩, .int .i64 0, .int .i64 0, .slice none 0 0, .int .i64 0, .int .i64 0, .int .i64 0, .bool false, .int .i64 0, .slice none 0 0, .slice none 0 0, .int .i64 0] 34)
  have HT := Lib.hid (h40.thereAt 0 22 (by decide))
  have hone := own_one (h40.pickL (M := [_, _, _, _]) [1, 2, 3, 0] rfl)
  have h41 := h40.storeW (mgC { G with lv := lu3, cv := cu3, ev := eu3, ps := qs3 }) rfl
  obtain ⟨wc, hwc⟩ : ∃ z, z = mgC { G with lv := lu3, cv := cu3, ev := eu3, ps := qs3 } := ⟨_, rfl⟩
  have HWS : Hid (∀ wx M, Sep w (LnR lu3 G.en.p.ls :: By cu3 G.ck :: EnT eu3 qs3 :: M) wx → Calls Tryz.prog 16 #[.agg gc, .agg wc] wx fun e w' => e = .returned (.bool true) ∧ Sep w (LnR lu3 G.en.p.ls :: By cu3 G.ck :: EnT eu3 qs3 :: M) w') := Lib.hid fun wx M hx => by
    rw [hwc]
    exact hs.out.sw lu3 cu3 eu3 qs3 _ wx hqs3 (gm_things5w hx) hx
  have HWZ : Hid (wc.size = 22) := Lib.hid (by rw [hwc]; rfl)
  rw [← hwc] at h41 hone ⊢
  have HON := Lib.hid hone
  obtain ⟨b11, hb11⟩ : ∃ z, z = w39.heap.size := ⟨_, rfl⟩
  obtain ⟨w41, hw41⟩ : ∃ z, z = (w39.alloc (.cells #[.int .i64 0, .int .i64 0, .int .i64 0, .int .i64 0, .int .i64 0, .int .i64 0, .int .i64 0, .int .i64 0, .int .i64 0, .int .i64 0, .string ⟨#[]⟩, .int .i64 0, .int .i64 0, .slice none 0 0, .int .i64 0, .int .i64 0, .int .i64 0, .bool false, .int .i64 0, .slice none 0 0, .slice none 0 0, .int .i64 0] 34)).setCells w39.heap.size 0 wc.toList := ⟨_, rfl⟩
  rw [← hw41, ← hb11] at h41
  have H41 := Lib.hid h41
  clear h39 h40 h41 hone hwc hqs3 HRP
  (try dsimp only); repeat' (first | (with_reducible show wpList _ _ _ (Oper.mk _ (Op.store 34 _ _) _ _ _ _ :: _) _ _; refine stopP ?_) | go_values | go_skip | go_guarded | go_step | go_upon | go_back)
  unfold StopP
  refine wpList_store_mid rfl 34 (.tmp 11) (.tmp 100) rfl w39.heap.size 0 wc rfl rfl (by rw [HWZ.out]; exact HT.out) (by rw [HWZ.out]; kernel_rfl) HON.out ?_
  rw [← hw41]
  (try rw [← hb11])
  clear hw41 hb11 HT HON
  have h41 := H41.out
  have HL := Lib.hid (HCL.out _ _ _ (Sep.pick h41 [4] rfl))
  have HSP := Lib.hid (spoil_any G.ib G.ic cu eu G.ck qs (Sep.pick h41 [7, 8, 0, 1, 2, 3, 4, 5, 6, 9, 10, 11, 12] rfl) hs.out.ck HQL.out.1)
  unfold imgC at HSP HL
  clear h41 H41
  (try dsimp only); repeat' (first | (with_reducible show wpList _ _ _ (Oper.mk _ (Op.load 32 _) _ _ _ _ :: _) _ _; refine stopP ?_) | go_values | go_skip | go_guarded | go_step | go_upon | go_back)
  unfold StopP
  have hq_ := HL.out
  refine wpList_load_run rfl 32 _ rfl _ _ rfl hq_ ?_
  clear hq_ HL
  (try dsimp only); repeat' (first | go_values | go_skip | go_guarded | go_step | go_upon | go_back)
  refine HSP.out.mono ?_
  rintro r0 w42 ⟨rfl, l', ps', hl', hp', h42⟩
  have h42 := Sep.pick h42 [2, 3, 4, 5, 6, 7, 8, 9, 10, 11, 12] rfl
  have HL := Lib.hid ((Sep.pick h42 [5] rfl : Sep w [Cl b10 im2 32] w42).loadW 32 Tryz.underlying32 rfl (by rw [HCZ.out.2]; kernel_rfl))
  have HSP2 := Lib.hid (spoil_any G.ib G.ic cu2 eu2 G.ck qs2 (Sep.pick h42 [7, 8, 0, 1, 2, 3, 4, 5, 6, 9, 10] rfl) hs.out.ck HQL.out.2)
  rw [← HIM2.out] at HSP2
  clear h42 HSP hl' hp'
  (try dsimp only); repeat' (first | (with_reducible show wpList _ _ _ (Oper.mk _ (Op.load 32 _) _ _ _ _ :: _) _ _; refine stopP ?_) | go_values | go_skip | go_guarded | go_step | go_upon | go_back)
  unfold StopP
  have hq_ := HL.out
  refine wpList_load_run rfl 32 _ rfl _ _ rfl hq_ ?_
  clear hq_ HL
  (try dsimp only); repeat' (first | go_values | go_skip | go_guarded | go_step | go_upon | go_back)
  refine HSP2.out.mono ?_
  rintro r0 w43 ⟨rfl, l2, ps2, hl2, hp2, h43⟩
  have H43 : Hid (Sep w [LnR lu G.en.p.ls, LnR lu3 G.en.p.ls, By cu3 G.ck, EnT eu3 qs3, Cl b11 wc 34, Cl b9 cc 34, Cl b2 gc 34] w43) := Lib.hid (Sep.pick h43 [8, 3, 4, 5, 2, 6, 9] rfl)
  clear h43 HSP2 hl2 hp2 HIM2 HQL HCL HQS
  have h44 := H43.out
  obtain ⟨lua, luc, rfl, -⟩ := h44.rnForm
  obtain ⟨m, hm⟩ : ∃ z, z = G.en.p.ls.length := ⟨_, rfl⟩
  have hm8 : m ≤ 8 := by rw [hm]; exact hs.out.ls
  rw [← hm] at HC13 H43 h44
  have HM := Lib.hid hm
  clear hm h44
  obtain ⟨ls0, hls0⟩ : ∃ z, z = G.en.p.ls := ⟨_, rfl⟩
  have H44 : Hid (Sep w [LnR (.slice lua m luc) ls0, LnR lu3 G.en.p.ls, By cu3 G.ck, EnT eu3 qs3, Cl b11 wc 34, Cl b9 cc 34, Cl b2 gc 34] w43) := Lib.hid (by rw [hls0]; exact H43.out)
  have HLL : Hid (ls0.length = m) := Lib.hid (by rw [hls0]; exact HM.out.symm)
  clear H43 hls0 HM
  (try dsimp only); repeat' (first | go_values | go_skip | go_guarded | go_step | go_upon | go_back)
  go_loopw [12] (fun i wr => ∃ (j : Nat) (lx : List Ln), j ≤ m ∧ i = .int .i64 j ∧ lx.length = m ∧ Sep w [LnR (.slice lua m luc) lx, LnR lu3 G.en.p.ls, By cu3 G.ck, EnT eu3 qs3, Cl b11 wc 34, Cl b9 cc 34, Cl b2 gc 34] wr) (fun i _ => m - (intOf i).toNat)
  case atStart => exact ⟨0, ls0, Nat.zero_le _, rfl, HLL.out, H44.out⟩
  case round =>
    obtain ⟨j, lx, hj, rfl, hlx, hsx⟩ := hrel
    clear H44 HLL
    have j0 : (0 : Int) ≤ (j : Int) := by omega
    have j8 : (j : Int) ≤ 8 := by omega
    have c13 := (Sep.pick hsx [5] rfl : Sep w [Cl b9 cc 34] wr).cell HC13.out
    by_cases hjn : j < m
    · have hd : decide (j < m) = true := decide_eq_true hjn
      have j1 : (j : Int) < (m : Int) := by omega
      have hjx : j < lx.length := by omega
      obtain ⟨bx, k5, hv5, hlc, hcm, hb5, hxl, e5, g5, hset⟩ := hsx.rnSet (by omega)
      simp only [Value.slice.injEq] at hv5
      obtain ⟨rfl, -, rfl⟩ := hv5
      have e6 := e5 (j * 2 + 1) (by rw [hxl]; omega)
      have hcl := (lnCells_at lx j hjx).2
      rw [(List.getElem?_eq_some_iff.1 hcl).2] at e6
      have g6 := g5 (j * 2 + 1)
      have hx := hset (j * 2 + 1) (.int .i64 (-9)) (by rw [hxl]; omega)
      rw [lnput9 lx j _ hjx] at hx
      generalize lx[j].2 = yy at *
      generalize lx[j].1 = nm at *
      have HF := Lib.hid (show Sep w [LnR (.slice (some ⟨bx, 0, none⟩) m luc) (lx.set j (nm, -9)), LnR lu3 G.en.p.ls, By cu3 G.ck, EnT eu3 qs3, Cl b11 wc 34, Cl b9 cc 34, Cl b2 gc 34] (wr.setCell ⟨bx, j * 2 + 1, none⟩ (.int .i64 (-9))) from by
        unfold LnR
        rw [List.length_set]
        exact hx)
      have HJ := Lib.hid (And.intro hjn hlx)
      clear hsx hx hset e5 g5 hcl hxl hlc hlx hjx hjn
      (try dsimp only); repeat' (first | go_values | go_skip | go_guarded | go_step | go_upon | go_back)
      go_roundw
      case rel =>
        refine ⟨j + 1, _, by have := HJ.out.1; omega, by go_num, ?_, HF.out⟩
        rw [List.length_set]; exact HJ.out.2
      case measure => have := HJ.out.1; simp [intOf]; omega
    · have hd : decide (j < m) = false := decide_eq_false hjn
      have HL1 := Lib.hid ((Sep.pick hsx [6] rfl).loadW 34 Tryz.underlying34 rfl (by rw [hs.out.szg]; kernel_rfl))
      have HL2 := Lib.hid ((Sep.pick hsx [4] rfl : Sep w [Cl b11 wc 34] wr).loadW 34 Tryz.underlying34 rfl (by rw [HWZ.out]; kernel_rfl))
      have HSM := Lib.hid (HWS.out wr _ (Sep.pick hsx [1, 2, 3] rfl))
      clear hsx hjn hlx hj HWS
      (try dsimp only); repeat' (first | (with_reducible show wpList _ _ _ (Oper.mk _ (Op.load 34 _) _ _ _ _ :: _) _ _; refine stopP ?_) | go_values | go_skip | go_guarded | go_step | go_upon | go_back)
      unfold StopP
      have hq_ := HL1.out
      refine wpList_load_run rfl 34 _ rfl _ _ rfl hq_ ?_
      clear hq_ HL1
      (try dsimp only); repeat' (first | (with_reducible show wpList _ _ _ (Oper.mk _ (Op.load 34 _) _ _ _ _ :: _) _ _; refine stopP ?_) | go_values | go_skip | go_guarded | go_step | go_upon | go_back)
      unfold StopP
      have hq_ := HL2.out
      refine wpList_load_run rfl 34 _ rfl _ _ rfl hq_ ?_
      clear hq_ HL2
      (try dsimp only); repeat' (first | go_values | go_skip | go_guarded | go_step | go_upon | go_back)
      refine HSM.out.mono ?_
      rintro r0 w51 ⟨rfl, h51⟩
      have HW := Lib.hid (hs.out.wk _ _ h51)
      clear h51 HSM
      (try dsimp only); repeat' (first | go_values | go_skip | go_guarded | go_step | go_upon | go_back)
      refine HW.out.mono ?_
      rintro r0 w52 ⟨rfl, h52⟩
      have HLO := Lib.hid h52.low
      clear h52 HW
      (try dsimp only); repeat' (first | go_values | go_skip | go_guarded | go_step | go_upon | go_back)
      go_ret
      exact ⟨rfl, HLO.out⟩
end Go.Proofs.YtafkbodmiblbnaaGreatDoor
