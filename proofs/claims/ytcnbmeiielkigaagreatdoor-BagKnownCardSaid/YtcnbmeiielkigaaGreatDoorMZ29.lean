/- The document's Check, said whole. -/
import Derived.Test.YtcnbmeiielkigaaGreatDoorMRm5
import Derived.Test.YtcnbmeiielkigaaGreatDoorMZ22
import Derived.Test.YtcnbmeiielkigaaGreatDoorMBigC
import Derived.Test.YtcnbmeiielkigaaGreatDoorMZ21
namespace Go.Proofs.YtcnbmeiielkigaaGreatDoor
open Go Go.RowKit
set_option linter.unusedVariables false
set_option linter.unusedSimpArgs false
theorem mf_zero (k : Int) : (!(mfieldsOf k == 0)) = (decide (1 ≤ k) && decide (k ≤ 10)) := by
 by_cases h : 0 ≤ k ∧ k ≤ 10
 ·rcases k_cases h with rfl | rfl | rfl | rfl | rfl | rfl | rfl | rfl | rfl | rfl | rfl <;> decide
 ·rw [has_out h]
  by_cases h1 : 1 ≤ k

  ·rw [decide_eq_false (show ¬ k ≤ 10 by omega), Bool.and_false]; rfl
  ·rw [decide_eq_false h1]; rfl
theorem chk_flat (g : MgM) : chkB g = ((decide (1 ≤ g.k) && decide (g.k ≤ 10) && partB g.f && partB g.t && holdsB (bit (mfieldsOf g.k) 1) g.v && holdsB (bit (mfieldsOf g.k) 2) g.o && holdsB (bit (mfieldsOf g.k) 4) g.cm && holdsB (bit (mfieldsOf g.k) 8) g.la && fEB (mfieldsOf g.k) g.en) &&
  ((if bit (mfieldsOf g.k) 64 = true then resB g.rc g.ra g.rb else decide (g.rc = 0 ∧ g.ra = 0 ∧ g.rb = 0) && !g.s) && (if bit (mfieldsOf g.k) 128 = true then ckI g.ib g.ck g.ps g.ic else imgSame g.ib g.ic g.ck 0 0 [] && decide (g.ps.length = 0)))) := by
 unfold chkB
 rw [mf_zero]
 have e1 : fRB (mfieldsOf g.k) g.rc g.ra g.rb g.s = (if bit (mfieldsOf g.k) 64 = true then resB g.rc g.ra g.rb else decide (g.rc = 0 ∧ g.ra = 0 ∧ g.rb = 0) && !g.s) := rfl
 have e2 : fIB (mfieldsOf g.k) g.ib g.ck g.ps g.ic = (if bit (mfieldsOf g.k) 128 = true then ckI g.ib g.ck g.ps g.ic else imgSame g.ib g.ic g.ck 0 0 [] && decide (g.ps.length = 0)) := rfl
 rw [← e1, ← e2]
 generalize fRB (mfieldsOf g.k) g.rc g.ra g.rb g.s = x1
 generalize fIB (mfieldsOf g.k) g.ib g.ck g.ps g.ic = x2
 generalize fEB (mfieldsOf g.k) g.en = x3
 generalize holdsB (bit (mfieldsOf g.k) 1) g.v = x4
 generalize holdsB (bit (mfieldsOf g.k) 2) g.o = x5
 generalize holdsB (bit (mfieldsOf g.k) 4) g.cm = x6
 generalize holdsB (bit (mfieldsOf g.k) 8) g.la = x7
 generalize partB g.f = x8
 generalize partB g.t = x9
 simp only [Bool.and_assoc]
theorem res_cases (rc ra rb : Int) : (rc = 0 ∧ ra = 0 ∧ rb = 0 ∧ decide (rc = 0 ∧ ra = 0 ∧ rb = 0) = true) ∨ (¬ rc = 0 ∧ decide (rc = 0 ∧ ra = 0 ∧ rb = 0) = false) ∨ (rc = 0 ∧ ¬ ra = 0 ∧ decide (rc = 0 ∧ ra = 0 ∧ rb = 0) = false) ∨ (rc = 0 ∧ ra = 0 ∧ ¬ rb = 0 ∧ decide (rc = 0 ∧ ra = 0 ∧ rb = 0) = false) := by
 by_cases h0 : rc = 0
 ·by_cases h1 : ra = 0
  ·by_cases h2 : rb = 0
   ·exact .inl ⟨h0, h1, h2, decide_eq_true ⟨h0, h1, h2⟩⟩
   ·exact .inr (.inr (.inr ⟨h0, h1, h2, decide_eq_false fun h => h2 h.2.2⟩))
  ·exact .inr (.inr (.inl ⟨h0, h1, decide_eq_false fun h => h1 h.2.1⟩))
 ·exact .inr (.inl ⟨h0, decide_eq_false fun h => h0 h.1⟩)
set_option maxRecDepth 100000 in
set_option maxHeartbeats 16000000 in
/-- The document's Check answers as the program's does. -/
theorem rcheck_w {w : World} (g : MgM) (hg : GmS w g) (hl : g.ck.length ≤ 1000000000) (hx : g.ps.length ≤ 1000000) (hic : g.ic ≤ 9223372036854775807) :
  Calls Tryz.prog 48 #[.agg (mgC g)] w fun e w' => e = .returned (.int .i64 (if chkB g then 0 else 2)) ∧ Sep w [] w' := by
 obtain ⟨hg1, hg2, hg3⟩ := hg
 have h1 := (Sep.start w).alloc (.cells (mgC g) 40)
 have HCK : CkS w w.heap.size (mgC g) g.k g.f g.t g.v g.o g.cm g.la g.rc g.ra g.rb g.s g.ib g.ic g.cv g.ev (bit (mfieldsOf g.k) 1) (bit (mfieldsOf g.k) 2) (bit (mfieldsOf g.k) 4) (bit (mfieldsOf g.k) 8) (bit (mfieldsOf g.k) 64) (bit (mfieldsOf g.k) 128) (partB g.f) (partB g.t) (holdsB (bit (mfieldsOf g.k) 1) g.v) (holdsB (bit (mfieldsOf g.k) 2) g.o) (holdsB (bit (mfieldsOf g.k) 4) g.cm) (holdsB (bit (mfieldsOf g.k) 8) g.la) (fEB (mfieldsOf g.k) g.en) (resB g.rc g.ra g.rb) (ckI g.ib g.ck g.ps g.ic) (imgSame g.ib g.ic g.ck 0 0 [] && decide (g.ps.length = 0)) :=
  {c0 := rfl, c1 := rfl, c2 := rfl, c3 := rfl, c4 := rfl, c5 := rfl, c6 := rfl, c14 := rfl, c15 := rfl, c16 := rfl, c17 := rfl, c18 := rfl, c19 := rfl, c20 := rfl, c21 := rfl
   ld := fun wx hx => hx.loadW 40 Tryz.underlying40 rfl (by kernel_rfl)
   hv := fun wx => rhvw_any g.k wx
   ho := fun wx hx => rhop_any g.k hx
   hc := fun wx hx => rhcm_any g.k hx
   hl := fun wx => rhla_any g.k wx
   hr := fun wx => rhrs_any g.k wx
   hm := fun wx hx => rhim_any g.k hx
   o1 := fun wx => rone_any _ _ wx
   o2 := fun wx => rone_any _ _ wx
   o4 := fun wx => rone_any _ _ wx
   o8 := fun wx => rone_any _ _ wx
   sf := fun wx => rsome_any _ wx
   st := fun wx => rsome_any _ wx
   en := fun wx hx => (rentries_w (w := wx) g (hg1.below hx.low)).mono fun e w' ⟨he, h'⟩ => ⟨he, hx.below h'.low⟩
   cr := fun wx hx => (rres_any g.rc g.ra g.rb hx).mono fun e w' ⟨he, h'⟩ => ⟨by rw [he]; rfl, h'⟩
   ci := fun wx hx' => (rckimg_w (w := wx) g.ib g.ic g.cv g.ev g.ck g.ps (hg2.below hx'.low) (hg3.below hx'.low) hl hx hic).mono fun e w' ⟨he, h'⟩ => ⟨by rw [he]; rfl, hx'.below h'.low⟩
   si := fun wx hx' => (rsameimg_w (w := wx) g.ib g.ic 0 0 g.cv g.ev (.slice none 0 0) (.slice none 0 0) g.ck [] g.ps [] (hg2.below hx'.low) (.inl (.inl ⟨rfl, rfl⟩)) (hg3.below hx'.low) (.inl ⟨none, 0, rfl, rfl⟩) hl (by simp) hx (by simp)).mono fun e w' ⟨r, he, hr, h'⟩ => ⟨by rw [he, sameP_nil g.ps r hr], hx'.below h'.low⟩ }
 exact rcheckS (decide (g.rc = 0 ∧ g.ra = 0 ∧ g.rb = 0)) _ rfl rfl h1 (Lib.hid HCK) (res_cases _ _ _) (Lib.hid (by rw [chk_flat]))
end Go.Proofs.YtcnbmeiielkigaaGreatDoor
/- The document's bag: New, Len, At, Put. -/
namespace Go.Proofs.YtcnbmeiielkigaaGreatDoor
open Go Go.RowKit
set_option linter.unusedVariables false
set_option linter.unusedSimpArgs false
def RBagB (g : Nat) (ms : List (Array Value)) (p : Value × List (Array Value)) : Thing := Both (Fact (MsgsG p.2 ms)) (Both (Cl g #[p.1] 62) (Ro 22 40 p.1 ms.length (msCs p.2)))
theorem loc_rbagB (g : Nat) (ms : List (Array Value)) (p : Value × List (Array Value)) : Loc (RBagB g ms p) := loc_both (loc_fact _) (loc_both (loc_blk _ _) (loc_ro _ _ _ _ _))
/-- The document's bag with such messages. -/
def RBag (g : Nat) (ms : List (Array Value)) : Thing := Ex (RBagB g ms)
theorem Sep.rbagOpen {w0 w : World} {g : Nat} {ms : List (Array Value)} {L : List Thing} (h : Sep w0 (RBag g ms :: L) w) : ∃ a c rows, MsgsG rows ms ∧ Sep w0 (Cl g #[.slice a ms.length c] 62 :: Ro 22 40 (.slice a ms.length c) ms.length (msCs rows) :: L) w := by
 obtain ⟨⟨v, rows⟩, h1⟩ := h.ex (loc_rbagB g ms)
 have h2 := Sep.both h1 (loc_fact _) (loc_both (loc_blk _ _) (loc_ro _ _ _ _ _))
 have hm := h2.fact
 have h3 := Sep.both h2.drop (loc_blk _ _) (loc_ro _ _ _ _ _)
 obtain ⟨a, c, hv, -⟩ := h3.sw2.roForm
 dsimp only at hm hv h3
 subst hv
 exact ⟨a, c, rows, hm, h3⟩
theorem Sep.rbagClose {w0 w : World} {g : Nat} {v : Value} {ms : List (Array Value)} {rows : List (Array Value)} {L : List Thing} (hm : MsgsG rows ms) (h : Sep w0 (Cl g #[v] 62 :: Ro 22 40 v ms.length (msCs rows) :: L) w) : Sep w0 (RBag g ms :: L) w :=
 Sep.give (A := RBagB g ms) (v, rows) (h.join.say hm).join (loc_rbagB g ms)
theorem rbnew_any {w0 w : World} {L : List Thing} (h : Sep w0 L w) : Calls Tryz.prog 6 #[] w fun e w' => ∃ g, e = .returned (.pointer (some ⟨g, 0, none⟩)) ∧ Sep w0 (RBag g [] :: L) w' := by
 have h1 : Sep w0 (Cl w.heap.size #[.slice none 0 0] 62 :: Ro 22 40 (.slice none 0 0) 0 (msCs []) :: L) _ := ((h.rnNil 22 40).roOf).alloc (.cells #[.slice none 0 0] 62)
 have H1 := Lib.hid (Sep.rbagClose (ms := []) (rows := []) MsgsG.nil h1)
 clear h h1
 go_enter Tryz.func6, Tryz.ntmps6
 (try dsimp only); repeat' (first | go_values | go_skip | go_guarded | go_step | go_upon | go_back)
 go_ret
 exact ⟨_, rfl, H1.out⟩
theorem rblen_any {w0 w : World} {g : Nat} {ms : List (Array Value)} {L : List Thing} (h : Sep w0 (RBag g ms :: L) w) : Calls Tryz.prog 9 #[.pointer (some ⟨g, 0, none⟩)] w fun e w' => e = .returned (.int .i64 (ms.length : Nat)) ∧ w = w' := by
 obtain ⟨a, c, rows, hm, h1⟩ := h.rbagOpen
 have c1 := h1.cell (o := 0) rfl
 clear h h1 hm
 generalize ms.length = n at *
 go_enter Tryz.func9, Tryz.ntmps9
 (try dsimp only); repeat' (first | go_values | go_skip | go_guarded | go_step | go_upon | go_back)
 go_ret
 exact ⟨rfl, rfl⟩
set_option maxRecDepth 100000 in
set_option maxHeartbeats 8000000 in
theorem rat_any {w0 w : World} {g : Nat} {ms : List (Array Value)} {L : List Thing} (i : Nat) (m : MgM) (h : Sep w0 (RBag g ms :: L) w) (hi : i < ms.length) (hmi : ms[i] = mgC m) (hg : ∀ wx, Sep w0 L wx → GmS wx m) (hl : m.ck.length ≤ 1000000000) (hx : m.ps.length ≤ 1000000) (hls : (∀ x ∈ m.ps, x.1.p.ls.length ≤ 5864062014805) ∧ m.en.p.ls.length ≤ 5864062014805) :
  Calls Tryz.prog 28 #[.pointer (some ⟨g, 0, none⟩), .int .i64 i] w fun e w' => ∃ lu cu eu qs, e = .returned (.tuple #[.agg (mgC { m with lv := lu, cv := cu, ev := eu, ps := qs }), .int .i64 0]) ∧ qs.map (·.1) = m.ps.map (·.1) ∧ Sep w0 (RBag g ms :: LnR lu m.en.p.ls :: By cu m.ck :: EnT eu qs :: L) w' := by
 have h0 := h.alloc (.cells #[.int .i64 0, .int .i64 0, .int .i64 0, .int .i64 0, .int .i64 0, .int .i64 0, .int .i64 0, .int .i64 0, .int .i64 0, .int .i64 0, .string ⟨#[]⟩, .int .i64 0, .int .i64 0, .slice none 0 0, .int .i64 0, .int .i64 0, .int .i64 0, .bool false, .int .i64 0, .slice none 0 0, .slice none 0 0, .int .i64 0] 40)
 obtain ⟨a, c, rows, hm, h1⟩ := h0.sw2.rbagOpen
 obtain ⟨hi', hmi'⟩ := hm.at i hi
 obtain ⟨b, off, rfl, -, hld, -⟩ := h1.sw2.roMsgG hm i hi' hm.1
 have c1 := h1.cell (o := 0) rfl
 have hcp := rgcopy_wB m (hg _ h0.drop.drop) hl hx hls.1 hls.2
 have HP := Lib.hid hcp
 rw [hmi'.1, hmi] at hld
 have HL := Lib.hid hld
 have i0 : (0 : Int) ≤ (i : Int) := by omega
 have i1 : (i : Int) < ((ms.length : Nat) : Int) := by omega
 obtain ⟨n, hn⟩ : ∃ z, z = ms.length := ⟨_, rfl⟩
 rw [← hn] at c1 i1
 have i2 : decide ((i : Int) < 0) = false := decide_eq_false (by omega)
 have i3 : decide ((n : Int) ≤ (i : Int)) = false := decide_eq_false (by omega)
 have i4 : decide (n ≤ i) = false := decide_eq_false (by omega)
 obtain ⟨b4, hb4⟩ : ∃ z, z = w.heap.size := ⟨_, rfl⟩
 obtain ⟨w1, hw1⟩ : ∃ z, z = w.alloc (.cells #[.int .i64 0, .int .i64 0, .int .i64 0, .int .i64 0, .int .i64 0, .int .i64 0, .int .i64 0, .int .i64 0, .int .i64 0, .int .i64 0, .string ⟨#[]⟩, .int .i64 0, .int .i64 0, .slice none 0 0, .int .i64 0, .int .i64 0, .int .i64 0, .bool false, .int .i64 0, .slice none 0 0, .slice none 0 0, .int .i64 0] 40) := ⟨_, rfl⟩
 rw [← hw1, ← hb4] at h0
 rw [← hw1] at HL HP
 have H0 := Lib.hid h0
 obtain ⟨mc, hmc⟩ : ∃ z, z = mgC m := ⟨_, rfl⟩
 rw [← hmc] at HL
 have HMC := Lib.hid hmc
 clear h h0 h1 hm hmi hmi' hld hi hi' hn hcp hg hl hx hls hmc
 go_enter Tryz.func28, Tryz.ntmps28
 (try dsimp only); repeat' (first | (with_reducible show wpList _ _ _ (Oper.mk _ (Op.load 40 _) _ _ _ _ :: _) _ _; refine stopP ?_) | go_values | go_skip | go_guarded | go_step | go_upon | go_back)
 rw [← hw1, ← hb4]
 clear hw1 hb4
 unfold StopP
 have hq_ := HL.out
 refine wpList_load_run rfl 40 _ rfl _ _ rfl hq_ ?_
 clear hq_
 (try dsimp only); repeat' (first | go_values | go_skip | go_guarded | go_step | go_upon | go_back)
 rw [HMC.out]
 refine HP.out.mono ?_
 rintro r0 w2 ⟨lu, cu, eu, qs, rfl, hqs, h6⟩
 have h2 := H0.out.ontoL h6
 obtain ⟨a61, c61, e61, -⟩ := h2.rnForm
 obtain ⟨a62, c62, e62⟩ := bv_form h2.sw2.sl
 obtain ⟨a63, c63, e63, -⟩ := h2.sw3.enForm
 obtain ⟨u, hu⟩ : ∃ z, z = mgC { m with lv := lu, cv := cu, ev := eu, ps := qs } := ⟨_, rfl⟩
 have hus : u.size = 22 := by rw [hu]; rfl
 have huo : u.all (·.oneCell') = true := by rw [hu]; exact mgC_one { m with lv := lu, cv := cu, ev := eu, ps := qs } (by rw [e61]; rfl) (by rw [e62]; rfl) (by rw [e63]; rfl)
 rw [← hu]
 have h2' : Sep w0 (Cl b4 #[.int .i64 0, .int .i64 0, .int .i64 0, .int .i64 0, .int .i64 0, .int .i64 0, .int .i64 0, .int .i64 0, .int .i64 0, .int .i64 0, .string ⟨#[]⟩, .int .i64 0, .int .i64 0, .slice none 0 0, .int .i64 0, .int .i64 0, .int .i64 0, .bool false, .int .i64 0, .slice none 0 0, .slice none 0 0, .int .i64 0] 40 :: RBag g ms :: ([LnR lu m.en.p.ls, By cu m.ck, EnT eu qs] ++ L)) w2 := h2.perm (List.perm_append_comm (l₁ := [LnR lu m.en.p.ls, By cu m.ck, EnT eu qs]) (l₂ := [Cl b4 #[.int .i64 0, .int .i64 0, .int .i64 0, .int .i64 0, .int .i64 0, .int .i64 0, .int .i64 0, .int .i64 0, .int .i64 0, .int .i64 0, .string ⟨#[]⟩, .int .i64 0, .int .i64 0, .slice none 0 0, .int .i64 0, .int .i64 0, .int .i64 0, .bool false, .int .i64 0, .slice none 0 0, .slice none 0 0, .int .i64 0] 40, RBag g ms]) |>.append_right L)
 have HT := Lib.hid (h2'.thereAt 0 22 (by simp))
 have h3 := h2'.storeW u (by rw [hus]; rfl)
 have HV := Lib.hid (h3.loadV 40 Tryz.underlying40 rfl (by rw [hus]; kernel_rfl))
 have H3 := Lib.hid h3.drop
 have HU := Lib.hid (And.intro hu hqs)
 have HI : Hid ((Tryz.prog.info? 40).map (·.size) = some u.size) := Lib.hid (by rw [hus]; kernel_rfl)
 have HO : Hid (u.all (·.oneCell') = true) := Lib.hid huo
 have HTH : Hid (w2.there b4 0 u.size) := Lib.hid (by rw [hus]; exact HT.out)
 clear HP h2 h2' h3 hu hus huo HT h6 hqs e61 e62 e63 H0 HMC
 (try dsimp only); repeat' (first | (with_reducible show wpList _ _ _ (Oper.mk _ (Op.store 40 _ _) _ _ _ _ :: _) _ _; refine stopP ?_) | go_values | go_skip | go_guarded | go_step | go_upon | go_back)
 unfold StopP
 refine wpList_store_mid rfl 40 (.tmp 4) (.tmp 25) rfl b4 0 u rfl rfl HTH.out HI.out HO.out ?_
 (try dsimp only); repeat' (first | go_values | go_skip | go_guarded | go_step | go_upon | go_back)
 exact bodyPost_ret (results_cell2 rfl rfl HV.out rfl) rfl ⟨lu, cu, eu, qs, by rw [← HU.out.1]; rfl, HU.out.2, H3.out⟩
set_option maxRecDepth 100000 in
set_option maxHeartbeats 4000000 in
theorem rat_bad {w0 w : World} {g : Nat} {ms : List (Array Value)} {L : List Thing} (i : Int) (h : Sep w0 (RBag g ms :: L) w) (hi : i < 0 ∨ (ms.length : Int) ≤ i) :
  Calls Tryz.prog 28 #[.pointer (some ⟨g, 0, none⟩), .int .i64 i] w fun e w' => e = .returned (.tuple #[.agg #[.int .i64 0, .int .i64 0, .int .i64 0, .int .i64 0, .int .i64 0, .int .i64 0, .int .i64 0, .int .i64 0, .int .i64 0, .int .i64 0, .string ⟨#[]⟩, .int .i64 0, .int .i64 0, .slice none 0 0, .int .i64 0, .int .i64 0, .int .i64 0, .bool false, .int .i64 0, .slice none 0 0, .slice none 0 0, .int .i64 0], .int .i64 9]) ∧ Sep w0 (RBag g ms :: L) w' := by
 have h0 := h.alloc (.cells #[.int .i64 0, .int .i64 0, .int .i64 0, .int .i64 0, .int .i64 0, .int .i64 0, .int .i64 0, .int .i64 0, .int .i64 0, .int .i64 0, .string ⟨#[]⟩, .int .i64 0, .int .i64 0, .slice none 0 0, .int .i64 0, .int .i64 0, .int .i64 0, .bool false, .int .i64 0, .slice none 0 0, .slice none 0 0, .int .i64 0] 40)
 obtain ⟨a, c, rows, hm, h1⟩ := h0.sw2.rbagOpen
 have c1 := h1.cell (o := 0) rfl
 obtain ⟨n, hn⟩ : ∃ z, z = ms.length := ⟨_, rfl⟩
 rw [← hn] at c1 hi
 obtain ⟨b4, hb4⟩ : ∃ z, z = w.heap.size := ⟨_, rfl⟩
 obtain ⟨w1, hw1⟩ : ∃ z, z = w.alloc (.cells #[.int .i64 0, .int .i64 0, .int .i64 0, .int .i64 0, .int .i64 0, .int .i64 0, .int .i64 0, .int .i64 0, .int .i64 0, .int .i64 0, .string ⟨#[]⟩, .int .i64 0, .int .i64 0, .slice none 0 0, .int .i64 0, .int .i64 0, .int .i64 0, .bool false, .int .i64 0, .slice none 0 0, .slice none 0 0, .int .i64 0] 40) := ⟨_, rfl⟩
 rw [← hw1] at h0
 rw [← hb4] at h0
 have HT := Lib.hid (h0.thereAt 0 22 (by simp))
 have h3 := h0.storeW #[.int .i64 0, .int .i64 0, .int .i64 0, .int .i64 0, .int .i64 0, .int .i64 0, .int .i64 0, .int .i64 0, .int .i64 0, .int .i64 0, .string ⟨#[]⟩, .int .i64 0, .int .i64 0, .slice none 0 0, .int .i64 0, .int .i64 0, .int .i64 0, .bool false, .int .i64 0, .slice none 0 0, .slice none 0 0, .int .i64 0] rfl
 have HV := Lib.hid (h3.loadV 40 Tryz.underlying40 rfl (by kernel_rfl))
 have H3 := Lib.hid h3.drop
 clear h h0 h1 h3 hm hn
 by_cases hi0 : i < 0
 ·have i2 : decide (i < 0) = true := decide_eq_true hi0
  clear hi
  go_enter Tryz.func28, Tryz.ntmps28
  (try dsimp only); repeat' (first | (with_reducible show wpList _ _ _ (Oper.mk _ (Op.store 40 _ _) _ _ _ _ :: _) _ _; refine stopP ?_) | go_values | go_skip | go_guarded | go_step | go_upon | go_back)
  rw [← hw1, ← hb4]
  clear hw1 hb4
  unfold StopP
  refine wpList_store_mid rfl 40 (.tmp 4) (.tmp 17) rfl b4 0 #[.int .i64 0, .int .i64 0, .int .i64 0, .int .i64 0, .int .i64 0, .int .i64 0, .int .i64 0, .int .i64 0, .int .i64 0, .int .i64 0, .string ⟨#[]⟩, .int .i64 0, .int .i64 0, .slice none 0 0, .int .i64 0, .int .i64 0, .int .i64 0, .bool false, .int .i64 0, .slice none 0 0, .slice none 0 0, .int .i64 0] rfl rfl HT.out (by kernel_rfl) (by kernel_rfl) ?_
  (try dsimp only); repeat' (first | go_values | go_skip | go_guarded | go_step | go_upon | go_back)
  exact bodyPost_ret (results_cell2 rfl rfl HV.out rfl) rfl ⟨rfl, H3.out⟩
 ·have i2 : decide (i < 0) = false := decide_eq_false hi0
  have i3 : decide ((n : Int) ≤ i) = true := decide_eq_true (by omega)
  clear hi
  go_enter Tryz.func28, Tryz.ntmps28
  (try dsimp only); repeat' (first | (with_reducible show wpList _ _ _ (Oper.mk _ (Op.store 40 _ _) _ _ _ _ :: _) _ _; refine stopP ?_) | go_values | go_skip | go_guarded | go_step | go_upon | go_back)
  rw [← hw1, ← hb4]
  clear hw1 hb4
  unfold StopP
  refine wpList_store_mid rfl 40 (.tmp 4) (.tmp 17) rfl b4 0 #[.int .i64 0, .int .i64 0, .int .i64 0, .int .i64 0, .int .i64 0, .int .i64 0, .int .i64 0, .int .i64 0, .int .i64 0, .int .i64 0, .string ⟨#[]⟩, .int .i64 0, .int .i64 0, .slice none 0 0, .int .i64 0, .int .i64 0, .int .i64 0, .bool false, .int .i64 0, .slice none 0 0, .slice none 0 0, .int .i64 0] rfl rfl HT.out (by kernel_rfl) (by kernel_rfl) ?_
  (try dsimp only); repeat' (first | go_values | go_skip | go_guarded | go_step | go_upon | go_back)
  exact bodyPost_ret (results_cell2 rfl rfl HV.out rfl) rfl ⟨rfl, H3.out⟩
set_option maxRecDepth 100000 in
set_option maxHeartbeats 16000000 in
theorem rput_bad {w0 w : World} {g : Nat} {ms : List (Array Value)} {L : List Thing} (m : MgM) (h : Sep w0 (RBag g ms :: L) w) (hg : ∀ wx, Sep w0 L wx → GmS wx m) (hl : m.ck.length ≤ 1000000000) (hx : m.ps.length ≤ 1000000) (hic : m.ic ≤ 9223372036854775807) (hnl : ms.length < 2000) (hchk : chkB m = false) :
  Calls Tryz.prog 33 #[.pointer (some ⟨g, 0, none⟩), .agg (mgC m)] w fun e w' => e = .returned (.int .i64 2) ∧ Sep w0 (RBag g ms :: L) w' := by
 obtain ⟨a, c, rows, hm, h1⟩ := h.rbagOpen
 have hsz : (mgC m).size = 22 := rfl
 have h2 := h1.alloc (.cells (mgC m) 40)
 have HL := Lib.hid (h2.loadW 40 Tryz.underlying40 rfl (by rw [hsz]; kernel_rfl))
 have hgp := hg _ (h2.drop.drop.drop)
 have hck := rcheck_w m hgp hl hx hic
 rw [hchk, if_neg (by simp)] at hck
 have HCK := Lib.hid (hck.mono fun e w' hh => And.intro hh.1 (h2.below hh.2.low))
 obtain ⟨b3, hb3⟩ : ∃ z, z = w.heap.size := ⟨_, rfl⟩
 obtain ⟨w1, hw1⟩ : ∃ z, z = w.alloc (.cells (mgC m) 40) := ⟨_, rfl⟩
 rw [← hw1] at HL HCK
 rw [← hb3] at HL HCK
 obtain ⟨n, hn⟩ : ∃ z, z = ms.length := ⟨_, rfl⟩
 have HM := Lib.hid (And.intro hm hn)
 rw [← hn] at HCK
 have n0 : (0 : Int) ≤ (n : Int) := by omega
 have n1 : ¬ (2000 : Int) ≤ (n : Int) := by omega
 have n2 : decide ((2000 : Int) ≤ (n : Int)) = false := decide_eq_false n1
 have n3 : decide (2000 ≤ n) = false := decide_eq_false (by omega)
 have HNL := Lib.hid (show n < 2000 by omega)
 obtain ⟨mc, hmc⟩ : ∃ z, z = mgC m := ⟨_, rfl⟩
 rw [← hmc] at HL HCK hw1 hsz ⊢
 have HMC := Lib.hid (And.intro hmc hsz)
 clear h h1 h2 hgp hck hg hl hx hm hn hchk hmc hsz hic
 go_enter Tryz.func33, Tryz.ntmps33
 (try dsimp only); repeat' (first | (with_reducible show wpList _ _ _ (Oper.mk _ (Op.load 40 _) _ _ _ _ :: _) _ _; refine stopP ?_) | go_values | go_skip | go_guarded | go_step | go_upon | go_back)
 rw [← hw1, ← hb3]
 clear hw1 hb3
 unfold StopP
 have hq_ := HL.out
 refine wpList_load_run rfl 40 _ rfl _ _ rfl hq_ ?_
 clear hq_
 (try dsimp only); repeat' (first | go_values | go_skip | go_guarded | go_step | go_upon | go_back)
 refine HCK.out.mono ?_
 rintro r0 w2 ⟨rfl, h3⟩
 have HF := Lib.hid (Sep.rbagClose (ms := ms) HM.out.1 (by rw [← HM.out.2]; exact h3.drop))
 clear HCK h3
 (try dsimp only); repeat' (first | go_values | go_skip | go_guarded | go_step | go_upon | go_back)
 go_ret
 exact ⟨rfl, HF.out⟩
set_option maxRecDepth 100000 in
set_option maxHeartbeats 16000000 in
theorem rput_ok {w0 w : World} {g : Nat} {ms : List (Array Value)} {L : List Thing} (m : MgM) (h : Sep w0 (RBag g ms :: L) w) (hg : ∀ wx, Sep w0 L wx → GmS wx m) (hl : m.ck.length ≤ 1000000000) (hx : m.ps.length ≤ 1000000) (hic : m.ic ≤ 9223372036854775807) (hls : (∀ x ∈ m.ps, x.1.p.ls.length ≤ 5864062014805) ∧ m.en.p.ls.length ≤ 5864062014805) (hnl : ms.length < 2000) (hchk : chkB m = true) :
  Calls Tryz.prog 33 #[.pointer (some ⟨g, 0, none⟩), .agg (mgC m)] w fun e w' => e = .returned (.int .i64 0) ∧ ∃ lu cu eu qs, qs.map (·.1) = m.ps.map (·.1) ∧ Sep w0 (RBag g (ms ++ [mgC { m with lv := lu, cv := cu, ev := eu, ps := qs }]) :: LnR lu m.en.p.ls :: By cu m.ck :: EnT eu qs :: L) w' := by
 obtain ⟨a, c, rows, hm, h1⟩ := h.rbagOpen
 have hsz : (mgC m).size = 22 := rfl
 have h2 := h1.alloc (.cells (mgC m) 40)
 have HL := Lib.hid (h2.loadW 40 Tryz.underlying40 rfl (by rw [hsz]; kernel_rfl))
 have hgp := hg _ (h2.drop.drop.drop)
 have hck := rcheck_w m hgp hl hx hic
 rw [hchk, if_pos rfl] at hck
 have HCK := Lib.hid (hck.mono fun e w' hh => And.intro hh.1 (h2.below hh.2.low))
 obtain ⟨b3, hb3⟩ : ∃ z, z = w.heap.size := ⟨_, rfl⟩
 obtain ⟨w1, hw1⟩ : ∃ z, z = w.alloc (.cells (mgC m) 40) := ⟨_, rfl⟩
 rw [← hw1] at HL HCK
 rw [← hb3] at HL HCK
 obtain ⟨n, hn⟩ : ∃ z, z = ms.length := ⟨_, rfl⟩
 have HM := Lib.hid (And.intro hm hn)
 rw [← hn] at HCK
 have n0 : (0 : Int) ≤ (n : Int) := by omega
 have n1 : ¬ (2000 : Int) ≤ (n : Int) := by omega
 have n2 : decide ((2000 : Int) ≤ (n : Int)) = false := decide_eq_false n1
 have n3 : decide (2000 ≤ n) = false := decide_eq_false (by omega)
 have HNL := Lib.hid (show n < 2000 by omega)
 have HG := Lib.hid (And.intro hg (And.intro hl (And.intro hx hls)))
 obtain ⟨mc, hmc⟩ : ∃ z, z = mgC m := ⟨_, rfl⟩
 rw [← hmc] at HL HCK hw1 hsz ⊢
 have HMC := Lib.hid (And.intro hmc hsz)
 clear h h1 h2 hgp hck hg hl hx hls hm hn hchk hmc hsz hic
 go_enter Tryz.func33, Tryz.ntmps33
 (try dsimp only); repeat' (first | (with_reducible show wpList _ _ _ (Oper.mk _ (Op.load 40 _) _ _ _ _ :: _) _ _; refine stopP ?_) | go_values | go_skip | go_guarded | go_step | go_upon | go_back)
 rw [← hw1, ← hb3]
 clear hw1 hb3
 unfold StopP
 have hq_ := HL.out
 refine wpList_load_run rfl 40 _ rfl _ _ rfl hq_ ?_
 clear hq_
 (try dsimp only); repeat' (first | go_values | go_skip | go_guarded | go_step | go_upon | go_back)
 refine HCK.out.mono ?_
 rintro r0 w2 ⟨rfl, h3⟩
 have c1 := h3.sw2.cell (o := 0) rfl
 have HCP := Lib.hid (rgcopy_wB (w := w2.drew) m (HG.out.1 _ h3.drew.drop.drop.drop) HG.out.2.1 HG.out.2.2.1 HG.out.2.2.2.1 HG.out.2.2.2.2)
 have hld := h3.drew.loadW 40 Tryz.underlying40 rfl (by rw [HMC.out.2]; kernel_rfl)
 have H3 := Lib.hid h3.drew
 clear HCK h3
 (try dsimp only); repeat' (first | go_values | go_skip | go_guarded | go_step | go_upon | go_back)
 refine wp_region_G (fun w' => w'.cell? ⟨g, 0, none⟩ = some (.slice a n c)) [11] (by kernel_rfl) c1 (fun hS => ?_)
 try dsimp only at hS
 refine wpAnyG_tk (i := 0) (v := ?v0_1gp) rfl (Or.inl ⟨by rfl, ?a_⟩) hS ?b_
 case a_ => intro w hSw; (try dsimp only at hSw); go_simp; (try with_reducible rfl)
 case b_ =>
 try simp only [nz0, nz1, nz2, Act.put, nz3, nz4, nz5]
 refine wpAnyG_tk (i := 1) (v := ?v1_2gp) rfl (Or.inl ⟨by rfl, ?a_⟩) hS ?b_
 case a_ => intro w hSw; (try dsimp only at hSw); go_simp; (try with_reducible rfl)
 case b_ =>
 try simp only [nz0, nz1, nz2, Act.put, nz3, nz4, nz5]
 refine wpAnyG_tk (i := 2) (v := ?v2_3gp) rfl (Or.inl ⟨by rfl, ?a_⟩) hS ?b_
 case a_ => intro w hSw; (try dsimp only at hSw); go_simp; (try with_reducible rfl)
 case b_ =>
 try simp only [nz0, nz1, nz2, Act.put, nz3, nz4, nz5]
 refine wpAnyG_tk (i := 3) (v := ?v3_4gp) rfl (Or.inl ⟨by rfl, ?a_⟩) hS ?b_
 case a_ => intro w hSw; (try dsimp only at hSw); go_simp; (try with_reducible rfl)
 case b_ =>
 try simp only [nz0, nz1, nz2, Act.put, nz3, nz4, nz5]
 refine wpAnyG_tk (i := 4) (v := ?v4_5gp) rfl (Or.inl ⟨by rfl, ?a_⟩) hS ?b_
 case a_ => intro w hSw; (try dsimp only at hSw); go_simp; (try with_reducible rfl)
 case b_ =>
 try simp only [nz0, nz1, nz2, Act.put, nz3, nz4, nz5]
 refine wpAnyG_one (i := 5) (by kernel_rfl) rfl (fun K hK => ?_)
 refine step_load_run (by rfl) 40 _ (by rfl) _ _ (by rfl) hld ?_
 clear hld
 refine hK.out _ _ (fun _ => ?hS6gp) ?rest6gp
 case hS6gp => exact c1
 clear K hK
 try simp only [nz0, nz1, nz2, Act.put, nz3, nz4, nz5]
 refine wpAnyG_one (i := 6) (by kernel_rfl) rfl (fun K hK => ?_)
 go_simp
 rw [HMC.out.1]
 refine Calls.mono HCP.out ?_
 rintro r6 w6 ⟨lu, cu, eu, qs, rfl, hqs, h6⟩
 have h6a := H3.out.ontoL h6
 obtain ⟨uc, huc⟩ : ∃ z, z = mgC { m with lv := lu, cv := cu, ev := eu, ps := qs } := ⟨_, rfl⟩
 have hus : uc.size = 22 := by rw [huc]; rfl
 have huo : ∀ u ∈ uc.toList, u.oneCell' = true := by
  rw [huc]
  have h61 := h6a.rnForm
  have h62 := bv_form h6a.sw2.sl
  have h63 := h6a.sw3.enForm
  obtain ⟨a61, c61, e61, -⟩ := h61
  obtain ⟨a62, c62, e62⟩ := h62
  obtain ⟨a63, c63, e63, -⟩ := h63
  have := mgC_one { m with lv := lu, cv := cu, ev := eu, ps := qs } (by rw [e61]; rfl) (by rw [e62]; rfl) (by rw [e63]; rfl)
  rw [Array.all_eq_true_iff_forall_mem] at this
  exact fun u hu => this u (by simpa using hu)
 rw [← huc]
 have h6b : Sep w0 (Cl b3 mc 40 :: Cl g #[.slice a n c] 62 :: Ro 22 40 (.slice a n c) n (msCs rows) :: ([LnR lu m.en.p.ls, By cu m.ck, EnT eu qs] ++ L)) w6 := h6a.perm (List.perm_append_comm (l₁ := [LnR lu m.en.p.ls, By cu m.ck, EnT eu qs]) (l₂ := [Cl b3 mc 40, Cl g #[.slice a n c] 62, Ro 22 40 (.slice a n c) n (msCs rows)]) |>.append_right L)
 have k1 := h6b.sw2.cell (o := 0) rfl
 have h7 := h6b.alloc (.cells uc 40)
 have k2 := h7.sw3.cell (o := 0) rfl
 obtain ⟨a8, c8, w8, hr, h8⟩ := append_mo (ty := 44) (h7.pickL (M := [_, _, _, _]) [0, 3, 2] rfl) hus huo (by have := HNL.out; omega)
 have k3 := h8.sw2.cell (o := 0) rfl
 have kf := h8.sw2.frozen 0
 have h9 : Sep w0 (Cl g #[.slice a8 (n + 1) c8] 62 :: Ro 22 40 (.slice a8 (n + 1) c8) (n + 1) (msCs (rows ++ [uc])) :: ([LnR lu m.en.p.ls, By cu m.ck, EnT eu qs] ++ L)) (w8.setCell ⟨g, 0, none⟩ (.slice a8 (n + 1) c8)) := h8.sw2.setCell 0 (.slice a8 (n + 1) c8)
 have hms := HM.out.1.snoc (c := uc) (m := uc) ⟨rfl, hus, huo⟩
 have hnn : n + 1 = (ms ++ [uc]).length := by rw [List.length_append, ← HM.out.2]; rfl
 have h10 : Sep w0 (RBag g (ms ++ [uc]) :: ([LnR lu m.en.p.ls, By cu m.ck, EnT eu qs] ++ L)) (w8.setCell ⟨g, 0, none⟩ (.slice a8 (n + 1) c8)) := Sep.rbagClose hms (by rw [← hnn]; exact h9)
 have H9 : Hid (∃ lu cu eu qs, qs.map (·.1) = m.ps.map (·.1) ∧ Sep w0 (RBag g (ms ++ [mgC { m with lv := lu, cv := cu, ev := eu, ps := qs }]) :: LnR lu m.en.p.ls :: By cu m.ck :: EnT eu qs :: L) (w8.setCell ⟨g, 0, none⟩ (.slice a8 (n + 1) c8))) := Lib.hid ⟨lu, cu, eu, qs, hqs, by rw [← huc]; exact h10⟩
 have HR := Lib.hid hr
 have HUS := Lib.hid hus
 clear h6 h6a h6b h7 h8 h9 h10 hr hqs hus huo huc hms hnn HCP HM H3
 (try dsimp only); repeat' (first | go_values | go_skip | go_guarded | go_step | go_upon | go_back)
 refine hK.out _ _ (fun _ => ?hS7gp) ?rest7gp
 case hS7gp => exact k1
 clear K hK
 try simp only [nz0, nz1, nz2, Act.put, nz3, nz4, nz5]
 refine wpAnyG_one (i := 7) (by kernel_rfl) rfl (fun K hK => ?_)
 refine step_buildM (by rfl) _ (by rfl) HUS.out (by rfl) ?_
 refine hK.out _ _ (fun _ => ?hS8gp) ?rest8gp
 case hS8gp => exact k2
 clear K hK
 try simp only [nz0, nz1, nz2, Act.put, nz3, nz4, nz5]
 refine wpAnyG_one (i := 8) (by kernel_rfl) rfl (fun K hK => ?_)
 refine step_append_run (by rfl) (.tmp 21) (.tmp 24) 44 44 (by rfl) _ _ (by rfl) (by rfl) HR.out ?_
 refine hK.out _ _ (fun _ => ?hS9gp) ?rest9gp
 case hS9gp => exact k3
 clear K hK
 try simp only [nz0, nz1, nz2, Act.put, nz3, nz4, nz5]
 refine wpAnyG_tk (i := 9) (v := ?v9_10gp) rfl (Or.inl ⟨by rfl, ?a_⟩) k3 ?b_
 case a_ => intro w hSw; (try dsimp only at hSw); go_simp; (try with_reducible rfl)
 case b_ =>
 try simp only [nz0, nz1, nz2, Act.put, nz3, nz4, nz5]
 refine wpAnyG_tk (i := 10) (v := ?v10_11gp) rfl (Or.inl ⟨by rfl, ?a_⟩) k3 ?b_
 case a_ => intro w hSw; (try dsimp only at hSw); go_simp; (try with_reducible rfl)
 case b_ =>
 try simp only [nz0, nz1, nz2, Act.put, nz3, nz4, nz5]
 refine wpAnyG_one (i := 11) (by kernel_rfl) rfl (fun K hK => ?_)
 go_simp
 refine hK.out _ _ (fun hno => by cases hno) ?_
 clear K hK
 try simp only [nz0, nz1, nz2, Act.put, nz3, nz4, nz5]
 refine wpAnyG_done (by kernel_rfl) ?_ _
 try simp only [nz0, nz1, nz2, Act.put, nz3, nz4, nz5]
 clear hS
 (try dsimp only); repeat' (first | go_values | go_skip | go_guarded | go_step | go_upon | go_back)
 go_ret
 exact ⟨rfl, H9.out⟩
end Go.Proofs.YtcnbmeiielkigaaGreatDoor
/- Package msg, of all messages: Same. -/
namespace Go.Proofs.YtcnbmeiielkigaaGreatDoor
open Go Go.RowKit
set_option linter.unusedVariables false
set_option linter.unusedSimpArgs false
/-- Whether two messages are the same, but for their entries. -/
def gSame (g h : MgM) : Bool := decide (g.k = h.k) && (decide (g.f = h.f) && (decide (g.t = h.t) && (decide (g.v = h.v) && (decide (g.o = h.o) && (decide (g.cm = h.cm) && (decide (g.la = h.la) && (enSame g.en h.en && (decide (g.rc = h.rc) && (decide (g.ra = h.ra) && (decide (g.rb = h.rb) && (decide (g.s = h.s) && imgSame g.ib g.ic g.ck h.ib h.ic h.ck)))))))))))
theorem gSame_refl (g h : MgM) (h1 : h.k = g.k ∧ h.f = g.f ∧ h.t = g.t ∧ h.v = g.v ∧ h.o = g.o ∧ h.cm = g.cm ∧ h.la = g.la ∧ h.en = g.en ∧ h.rc = g.rc ∧ h.ra = g.ra ∧ h.rb = g.rb ∧ h.s = g.s ∧ h.ib = g.ib ∧ h.ic = g.ic ∧ h.ck = g.ck) : gSame h g = true := by
 obtain ⟨a1, a2, a3, a4, a5, a6, a7, a8, a9, a10, a11, a12, a13, a14, a15⟩ := h1
 unfold gSame imgSame
 rw [a1, a2, a3, a4, a5, a6, a7, a8, a9, a10, a11, a12, a13, a14, a15]
 simp [enSame, sameB]
set_option maxRecDepth 100000 in
set_option maxHeartbeats 16000000 in
theorem gsame_w {w : World} (g h : MgM) (hg : GmS w g) (hh : GmS w h) (hl : g.ck.length ≤ 1000000000) (hm : h.ck.length ≤ 1000000000) (hx : g.ps.length ≤ 1000000) (hy : h.ps.length ≤ 1000000) :
  Calls Tryz.prog 22 #[.agg (mgC g), .agg (mgC h)] w fun e w' => ∃ r, e = .returned (.bool (gSame g h && r)) ∧ (r = true ↔ SameP g.ps h.ps) ∧ Sep w [] w' := by
 obtain ⟨hg1, hg2, hg3⟩ := hg
 obtain ⟨hh1, hh2, hh3⟩ := hh
 have h1 := ((Sep.start w).alloc (.cells (mgC g) 40)).alloc (.cells (mgC h) 40)
 rw [show (w.alloc (.cells (mgC g) 40)).heap.size = w.heap.size + 1 by simp] at h1
 obtain ⟨wa, hwa⟩ : ∃ z, z = (w.alloc (.cells (mgC g) 40)).alloc (.cells (mgC h) 40) := ⟨_, rfl⟩
 obtain ⟨b1, hb1⟩ : ∃ z, z = w.heap.size := ⟨_, rfl⟩
 obtain ⟨b2, hb2⟩ : ∃ z, z = w.heap.size + 1 := ⟨_, rfl⟩
 rw [← hwa, ← hb2, ← hb1] at h1
 have HE := Lib.hid (esame_any g.en h.en g.lv h.lv h1 (hg1.below h1.low) (hh1.below h1.low) (lns_maxl hg1))
 have HI := Lib.hid (fun (wx : World) (hb : Below w.heap.size w wx) => msameimg_w (w := wx) g.ib g.ic h.ib h.ic g.cv g.ev h.cv h.ev g.ck h.ck g.ps h.ps (hg2.below hb) (hh2.below hb) (hg3.below hb) (hh3.below hb) hl hm hx hy)
 obtain ⟨R, hR⟩ := some_r (SameP g.ps h.ps)
 obtain ⟨xlva, xlvc, hlv⟩ := hg1.len
 obtain ⟨xca, xcc, hcv⟩ := bv_form hg2
 obtain ⟨xea, xec2, hev⟩ := hg3.len
 obtain ⟨ylva, ylvc, ilv⟩ := hh1.len
 obtain ⟨yca, ycc, icv⟩ := bv_form hh2
 obtain ⟨yea, yec2, iev⟩ := hh3.len
 unfold gSame
 obtain ⟨xk, xf, xt, xv, xo, xcm, xla, ⟨xec, xem, ⟨xpk, xpx, xpo, xpn, xpls⟩⟩, xlv, xrc, xra, xrb, xs, xib, xck, xcv, xps, xev, xic⟩ := g
 obtain ⟨yk, yf, yt, yv, yo, ycm, yla, ⟨yec, yem, ⟨ypk, ypx, ypo, ypn, ypls⟩⟩, ylv, yrc, yra, yrb, ys, yib, yck, ycv, yps, yev, yic⟩ := h
 dsimp only at *
 subst hlv hcv hev ilv icv iev
 unfold enV at HE
 unfold imgC at HI
 unfold mgC at *
 dsimp only at *
 have HRR := Lib.hid hR
 obtain ⟨eS, heS⟩ : ∃ q, q = enSame ⟨xec, xem, ⟨xpk, xpx, xpo, xpn, xpls⟩⟩ ⟨yec, yem, ⟨ypk, ypx, ypo, ypn, ypls⟩⟩ := ⟨_, rfl⟩
 rw [← heS] at HE ⊢
 obtain ⟨iS, hiS⟩ : ∃ q, q = imgSame xib xic xck yib yic yck := ⟨_, rfl⟩
 rw [← hiS] at HI ⊢
 generalize xck.length = xnck at *
 generalize yck.length = ynck at *
 generalize xpls.length = xnls at *
 generalize ypls.length = ynls at *
 generalize xps.length = xnps at *
 generalize yps.length = ynps at *
 have x0 := h1.sw2.cell (o := 0) rfl
 have y0 := h1.cell (o := 0) rfl
 have x1 := h1.sw2.cell (o := 1) rfl
 have y1 := h1.cell (o := 1) rfl
 have x2 := h1.sw2.cell (o := 2) rfl
 have y2 := h1.cell (o := 2) rfl
 have x3 := h1.sw2.cell (o := 3) rfl
 have y3 := h1.cell (o := 3) rfl
 have x4 := h1.sw2.cell (o := 4) rfl
 have y4 := h1.cell (o := 4) rfl
 have x5 := h1.sw2.cell (o := 5) rfl
 have y5 := h1.cell (o := 5) rfl
 have x6 := h1.sw2.cell (o := 6) rfl
 have y6 := h1.cell (o := 6) rfl
 have x7 := h1.sw2.cell (o := 7) rfl
 have y7 := h1.cell (o := 7) rfl
 have x8 := h1.sw2.cell (o := 8) rfl
 have y8 := h1.cell (o := 8) rfl
 have x9 := h1.sw2.cell (o := 9) rfl
 have y9 := h1.cell (o := 9) rfl
 have x10 := h1.sw2.cell (o := 10) rfl
 have y10 := h1.cell (o := 10) rfl
 have x11 := h1.sw2.cell (o := 11) rfl
 have y11 := h1.cell (o := 11) rfl
 have x12 := h1.sw2.cell (o := 12) rfl
 have y12 := h1.cell (o := 12) rfl
 have x13 := h1.sw2.cell (o := 13) rfl
 have y13 := h1.cell (o := 13) rfl
 have H1 := Lib.hid h1
 clear h1 hg1 hg2 hg3 hh1 hh2 hh3 hl hm hx hy hR heS hiS
 by_cases zk : xk = yk
 ·subst zk
  by_cases zf : xf = yf
  ·subst zf
   by_cases zt : xt = yt
   ·subst zt
    by_cases zv : xv = yv
    ·subst zv
     by_cases zo : xo = yo
     ·subst zo
      by_cases zcm : xcm = ycm
      ·subst zcm
       by_cases zla : xla = yla
       ·subst zla
        go_enter Tryz.func22, Tryz.ntmps22
        (try dsimp only); repeat' (first | go_values | go_skip | go_guarded | go_step | go_upon | go_back)
        (try rw [← hwa])
        (try rw [← hb2])
        (try rw [← hb1])
        clear hwa hb1 hb2
        refine HE.out.mono ?_
        rintro rE wE ⟨rfl, hE⟩
        have HsE := Lib.hid hE
        clear hE HE H1 x0 y0 x1 y1 x2 y2 x3 y3 x4 y4 x5 y5 x6 y6 x7 y7 x8 y8 x9 y9 x10 y10 x11 y11 x12 y12 x13 y13
        cases eS with
        | false =>
         as_aux_lemma =>
          (try dsimp only); repeat' (first | go_values | go_skip | go_guarded | go_step | go_upon | go_back)
          go_ret
          exact ⟨R, by show Ending.returned (Value.bool false) = _; simp, HRR.out, HsE.out.drop.drop⟩
        | true =>
         have x14 := HsE.out.sw2.cell (o := 14) rfl
         have y14 := HsE.out.cell (o := 14) rfl
         have x15 := HsE.out.sw2.cell (o := 15) rfl
         have y15 := HsE.out.cell (o := 15) rfl
         have x16 := HsE.out.sw2.cell (o := 16) rfl
         have y16 := HsE.out.cell (o := 16) rfl
         have x17 := HsE.out.sw2.cell (o := 17) rfl
         have y17 := HsE.out.cell (o := 17) rfl
         have x18 := HsE.out.sw2.cell (o := 18) rfl
         have y18 := HsE.out.cell (o := 18) rfl
         have x19 := HsE.out.sw2.cell (o := 19) rfl
         have y19 := HsE.out.cell (o := 19) rfl
         have x20 := HsE.out.sw2.cell (o := 20) rfl
         have y20 := HsE.out.cell (o := 20) rfl
         have x21 := HsE.out.sw2.cell (o := 21) rfl
         have y21 := HsE.out.cell (o := 21) rfl
         by_cases zrc : xrc = yrc
         ·subst zrc
          by_cases zra : xra = yra
          ·subst zra
           by_cases zrb : xrb = yrb
           ·subst zrb
            by_cases zs : xs = ys
            ·subst zs
             have zss : (xs == xs) = true := by simp
             (try dsimp only); repeat' (first | go_values | go_skip | go_guarded | go_step | go_upon | go_back)
             refine (HI.out _ HsE.out.low).mono ?_
             rintro rI wI ⟨r, rfl, hr, hI⟩
             have HsI := Lib.hid (And.intro hr (HsE.out.below hI.low))
             clear hI hr HI HsE x14 y14 x15 y15 x16 y16 x17 y17 x18 y18 x19 y19 x20 y20 x21 y21
             (try dsimp only); repeat' (first | go_values | go_skip | go_guarded | go_step | go_upon | go_back)
             go_ret
             exact ⟨r, by show Ending.returned (Value.bool (iS && r)) = _; simp, HsI.out.1, HsI.out.2.drop.drop⟩
            ·as_aux_lemma =>
              have d1 : (xs == ys) = false := beq_eq_false_iff_ne.2 zs
              (try dsimp only); repeat' (first | go_values | go_skip | go_guarded | go_step | go_upon | go_back)
              go_ret
              exact ⟨R, by show Ending.returned (Value.bool false) = _; simp [zs], HRR.out, HsE.out.drop.drop⟩
           ·as_aux_lemma =>
             have d1 : (xrb == yrb) = false := beq_eq_false_iff_ne.2 zrb
             (try dsimp only); repeat' (first | go_values | go_skip | go_guarded | go_step | go_upon | go_back)
             go_ret
             exact ⟨R, by show Ending.returned (Value.bool false) = _; simp [zrb], HRR.out, HsE.out.drop.drop⟩
          ·as_aux_lemma =>
            have d1 : (xra == yra) = false := beq_eq_false_iff_ne.2 zra
            (try dsimp only); repeat' (first | go_values | go_skip | go_guarded | go_step | go_upon | go_back)
            go_ret
            exact ⟨R, by show Ending.returned (Value.bool false) = _; simp [zra], HRR.out, HsE.out.drop.drop⟩
         ·as_aux_lemma =>
           have d1 : (xrc == yrc) = false := beq_eq_false_iff_ne.2 zrc
           (try dsimp only); repeat' (first | go_values | go_skip | go_guarded | go_step | go_upon | go_back)
           go_ret
           exact ⟨R, by show Ending.returned (Value.bool false) = _; simp [zrc], HRR.out, HsE.out.drop.drop⟩
       ·skip
        ·have d1 : (xla == yla) = false := beq_eq_false_iff_ne.2 zla
         clear HE HI
         go_enter Tryz.func22, Tryz.ntmps22
         (try dsimp only); repeat' (first | go_values | go_skip | go_guarded | go_step | go_upon | go_back)
         (try rw [← hwa])
         go_ret
         exact ⟨R, by show Ending.returned (Value.bool false) = _; simp [zla], HRR.out, H1.out.drop.drop⟩
      ·skip
       ·have d1 : (xcm == ycm) = false := beq_eq_false_iff_ne.2 zcm
        clear HE HI
        go_enter Tryz.func22, Tryz.ntmps22
        (try dsimp only); repeat' (first | go_values | go_skip | go_guarded | go_step | go_upon | go_back)
        (try rw [← hwa])
        go_ret
        exact ⟨R, by show Ending.returned (Value.bool false) = _; simp [zcm], HRR.out, H1.out.drop.drop⟩
     ·skip
      ·have d1 : (xo == yo) = false := beq_eq_false_iff_ne.2 zo
       clear HE HI
       go_enter Tryz.func22, Tryz.ntmps22
       (try dsimp only); repeat' (first | go_values | go_skip | go_guarded | go_step | go_upon | go_back)
       (try rw [← hwa])
       go_ret
       exact ⟨R, by show Ending.returned (Value.bool false) = _; simp [zo], HRR.out, H1.out.drop.drop⟩
    ·skip
     ·have d1 : (xv == yv) = false := beq_eq_false_iff_ne.2 zv
      clear HE HI
      go_enter Tryz.func22, Tryz.ntmps22
      (try dsimp only); repeat' (first | go_values | go_skip | go_guarded | go_step | go_upon | go_back)
      (try rw [← hwa])
      go_ret
      exact ⟨R, by show Ending.returned (Value.bool false) = _; simp [zv], HRR.out, H1.out.drop.drop⟩
   ·skip
    ·have d1 : (xt == yt) = false := beq_eq_false_iff_ne.2 zt
     clear HE HI
     go_enter Tryz.func22, Tryz.ntmps22
     (try dsimp only); repeat' (first | go_values | go_skip | go_guarded | go_step | go_upon | go_back)
     (try rw [← hwa])
     go_ret
     exact ⟨R, by show Ending.returned (Value.bool false) = _; simp [zt], HRR.out, H1.out.drop.drop⟩
  ·skip
   ·have d1 : (xf == yf) = false := beq_eq_false_iff_ne.2 zf
    clear HE HI
    go_enter Tryz.func22, Tryz.ntmps22
    (try dsimp only); repeat' (first | go_values | go_skip | go_guarded | go_step | go_upon | go_back)
    (try rw [← hwa])
    go_ret
    exact ⟨R, by show Ending.returned (Value.bool false) = _; simp [zf], HRR.out, H1.out.drop.drop⟩
 ·skip
  ·have d1 : (xk == yk) = false := beq_eq_false_iff_ne.2 zk
   clear HE HI
   go_enter Tryz.func22, Tryz.ntmps22
   (try dsimp only); repeat' (first | go_values | go_skip | go_guarded | go_step | go_upon | go_back)
   (try rw [← hwa])
   go_ret
   exact ⟨R, by show Ending.returned (Value.bool false) = _; simp [zk], HRR.out, H1.out.drop.drop⟩
end Go.Proofs.YtcnbmeiielkigaaGreatDoor
