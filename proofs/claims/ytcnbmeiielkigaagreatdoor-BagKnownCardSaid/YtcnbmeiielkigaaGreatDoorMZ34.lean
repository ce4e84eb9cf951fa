/- Stage 22's laws: cut, by a function. -/
import Derived.Deep.QuietTactic
import Derived.BigQuiet
import Derived.Test.YtcnbmeiielkigaaGreatDoorMZ23
import Derived.Test.YtcnbmeiielkigaaGreatDoorMZ02
import Derived.Test.YtcnbmeiielkigaaGreatDoorMZ30
import Derived.Test.YtcnbmeiielkigaaGreatDoorMZ08
import Derived.Test.YtcnbmeiielkigaaGreatDoorMZ31
namespace Go.Proofs.YtcnbmeiielkigaaGreatDoor
open Go Go.RowKit
set_option linter.unusedVariables false
set_option linter.unusedSimpArgs false
def cutW (v : Value) (k : Nat) : Value := match v with | .slice a n c => .slice a (min n k) c | v => v
def cutF (g : MgM) : MgM := { g with lv := cutW g.lv 8, cv := cutW g.cv 50, ev := cutW g.ev 8, ck := g.ck.take 50, ps := g.ps.take 8, en := { g.en with p := { g.en.p with ls := g.en.p.ls.take 8 } } }
theorem take_minq {α : Type} (l : List α) (k : Nat) : l.take k = l.take (min l.length k) := by
 by_cases h : k ≤ l.length
 ·rw [Nat.min_eq_right h]
 ·rw [Nat.min_eq_left (by omega), List.take_of_length_le (by omega), List.take_of_length_le (Nat.le_refl _)]
set_option maxRecDepth 100000 in
set_option maxHeartbeats 16000000 in
theorem cut22F {w : World} (g : MgM) (hg : GmS w g) (hb1 : g.ck.length ≤ 9223372036854775807 ∧ g.ps.length ≤ 9223372036854775807) :
  Calls Tryz.prog 32 #[.agg (mgC g)] w fun e w' => ∃ g', g' = cutF g ∧ e = .returned (.agg (mgC g')) ∧ GmS w g' ∧ g'.ck.length ≤ 50 ∧ g'.ps.length ≤ 8 ∧ g'.en.p.ls.length ≤ 8 ∧ (∀ w9, GmS w9 g → GmS w9 g') ∧ Sep w [] w' := by
 obtain ⟨hg1, hg2, hg3⟩ := hg
 have hlm := lns_maxl hg1
 obtain ⟨la, lc, hlv⟩ := hg1.len
 obtain ⟨ca, cc, hcv⟩ := bv_form hg2
 obtain ⟨ea, ec, hev⟩ := hg3.len
 obtain ⟨gk, gf, gt, gv, go, gcm, gla, ⟨enc, enm, ⟨pk, psx, po, pn, pls⟩⟩, glv, rc, ra, rb, s, ib, ck, cv, ps, ev, ic⟩ := g
 dsimp only at *
 subst hlv hcv hev
 obtain ⟨nl, hnl⟩ : ∃ q, pls.length = q := ⟨_, rfl⟩
 obtain ⟨nk, hnk⟩ : ∃ q, ck.length = q := ⟨_, rfl⟩
 obtain ⟨ne, hne⟩ : ∃ q, ps.length = q := ⟨_, rfl⟩
 rw [hnl] at hg1 hlm ⊢
 rw [hne] at hg3 hb1 ⊢
 obtain ⟨ml, hmlq, hml, hml1, hml2⟩ := min_as nl 8
 obtain ⟨mk, hmkq, hmk, hmk1, hmk2⟩ := min_as nk 50
 obtain ⟨me, hmeq, hme, hme1, hme2⟩ := min_as ne 8
 rw [show ((8 : Nat) : Int) = 8 from rfl] at hml hme
 rw [show ((50 : Nat) : Int) = 50 from rfl] at hmk
 obtain ⟨pl1, pl2, pl3⟩ := lns_pre hg1 ml hml1
 have pk1 := sl_pre hg2 (u := mk) (by rw [hnk]; exact hmk1)
 obtain ⟨pe1, pe2, pe3⟩ := ens_pre hg3 me hme1
 rw [hnk] at hg2 hb1 ⊢
 have pk3 := bv_cap pk1
 have HCF := Lib.hid (show (⟨gk, gf, gt, gv, go, gcm, gla, ⟨enc, enm, ⟨pk, psx, po, pn, pls.take ml⟩⟩, .slice la ml lc, rc, ra, rb, s, ib, ck.take mk, .slice ca mk cc, ps.take me, .slice ea me ec, ic⟩ : MgM) = cutF ⟨gk, gf, gt, gv, go, gcm, gla, ⟨enc, enm, ⟨pk, psx, po, pn, pls⟩⟩, .slice la nl lc, rc, ra, rb, s, ib, ck, .slice ca nk cc, ps, .slice ea ne ec, ic⟩ by
  unfold cutF cutW
  dsimp only
  rw [take_minq pls 8, take_minq ck 50, take_minq ps 8, hnl, hnk, hne, ← hmlq, ← hmkq, ← hmeq])
 clear hmlq hmkq hmeq
 have HG := Lib.hid (show GmS w ⟨gk, gf, gt, gv, go, gcm, gla, ⟨enc, enm, ⟨pk, psx, po, pn, pls.take ml⟩⟩, .slice la ml lc, rc, ra, rb, s, ib, ck.take mk, .slice ca mk cc, ps.take me, .slice ea me ec, ic⟩ ∧ (ck.take mk).length ≤ 50 ∧ (ps.take me).length ≤ 8 ∧ (pls.take ml).length ≤ 8 ∧ (∀ w9, GmS w9 ⟨gk, gf, gt, gv, go, gcm, gla, ⟨enc, enm, ⟨pk, psx, po, pn, pls⟩⟩, .slice la nl lc, rc, ra, rb, s, ib, ck, .slice ca nk cc, ps, .slice ea ne ec, ic⟩ → GmS w9 ⟨gk, gf, gt, gv, go, gcm, gla, ⟨enc, enm, ⟨pk, psx, po, pn, pls.take ml⟩⟩, .slice la ml lc, rc, ra, rb, s, ib, ck.take mk, .slice ca mk cc, ps.take me, .slice ea me ec, ic⟩) from ⟨⟨pl1, pk1, pe1⟩, by rw [List.length_take]; omega, by omega, by omega, fun w9 h9 => ⟨(lns_pre h9.1 ml hml1).1, (by have q := h9.2.1; dsimp only at q; rw [← hnk] at q; exact sl_pre q (u := mk) (by rw [hnk]; exact hmk1)), (ens_pre h9.2.2 me hme1).1⟩⟩)
 have h1 := ((Sep.start w).alloc (.cells #[.int .i64 gk, .int .i64 gf, .int .i64 gt, .int .i64 gv, .int .i64 go, .int .i64 gcm, .int .i64 gla, .int .i64 enc, .int .i64 enm, .int .i64 pk, .string psx.1, .int .i64 po, .int .i64 pn, .slice la nl lc, .int .i64 rc, .int .i64 ra, .int .i64 rb, .bool s, .int .i64 ib, .slice ca nk cc, .slice ea ne ec, .int .i64 ic] 40)).alloc (.cells #[.int .i64 0, .int .i64 0, .int .i64 0, .int .i64 0, .int .i64 0, .int .i64 0, .int .i64 0, .int .i64 0, .int .i64 0, .int .i64 0, .string ⟨#[]⟩, .int .i64 0, .int .i64 0, .slice none 0 0, .int .i64 0, .int .i64 0, .int .i64 0, .bool false, .int .i64 0, .slice none 0 0, .slice none 0 0, .int .i64 0] 40)
 rw [show (w.alloc (.cells #[.int .i64 gk, .int .i64 gf, .int .i64 gt, .int .i64 gv, .int .i64 go, .int .i64 gcm, .int .i64 gla, .int .i64 enc, .int .i64 enm, .int .i64 pk, .string psx.1, .int .i64 po, .int .i64 pn, .slice la nl lc, .int .i64 rc, .int .i64 ra, .int .i64 rb, .bool s, .int .i64 ib, .slice ca nk cc, .slice ea ne ec, .int .i64 ic] 40)).heap.size = w.heap.size + 1 by simp] at h1
 obtain ⟨wa, hwa⟩ : ∃ z, z = (w.alloc (.cells #[.int .i64 gk, .int .i64 gf, .int .i64 gt, .int .i64 gv, .int .i64 go, .int .i64 gcm, .int .i64 gla, .int .i64 enc, .int .i64 enm, .int .i64 pk, .string psx.1, .int .i64 po, .int .i64 pn, .slice la nl lc, .int .i64 rc, .int .i64 ra, .int .i64 rb, .bool s, .int .i64 ib, .slice ca nk cc, .slice ea ne ec, .int .i64 ic] 40)).alloc (.cells #[.int .i64 0, .int .i64 0, .int .i64 0, .int .i64 0, .int .i64 0, .int .i64 0, .int .i64 0, .int .i64 0, .int .i64 0, .int .i64 0, .string ⟨#[]⟩, .int .i64 0, .int .i64 0, .slice none 0 0, .int .i64 0, .int .i64 0, .int .i64 0, .bool false, .int .i64 0, .slice none 0 0, .slice none 0 0, .int .i64 0] 40) := ⟨_, rfl⟩
 obtain ⟨b1, hb1'⟩ : ∃ z, z = w.heap.size := ⟨_, rfl⟩
 obtain ⟨b2, hb2⟩ : ∃ z, z = w.heap.size + 1 := ⟨_, rfl⟩
 rw [← hwa, ← hb2, ← hb1'] at h1
 have h2 := h1.sw2
 have D20 := Lib.hid (h2.drew.cell (o := 20) (x := .slice ea ne ec) rfl)
 have D19 := Lib.hid (h2.drew.cell (o := 19) (x := .slice ca nk cc) rfl)
 have f20 := h2.frozen 20
 have d20 := h2.cell (o := 20) (x := .slice ea ne ec) rfl
 have f19 := h2.frozen 19
 have d19 := h2.cell (o := 19) (x := .slice ca nk cc) rfl
 have h3 : Sep w [Cl b1 #[.int .i64 gk, .int .i64 gf, .int .i64 gt, .int .i64 gv, .int .i64 go, .int .i64 gcm, .int .i64 gla, .int .i64 enc, .int .i64 enm, .int .i64 pk, .string psx.1, .int .i64 po, .int .i64 pn, .slice la nl lc, .int .i64 rc, .int .i64 ra, .int .i64 rb, .bool s, .int .i64 ib, .slice ca nk cc, .slice ea me ec, .int .i64 ic] 40, Cl b2 #[.int .i64 0, .int .i64 0, .int .i64 0, .int .i64 0, .int .i64 0, .int .i64 0, .int .i64 0, .int .i64 0, .int .i64 0, .int .i64 0, .string ⟨#[]⟩, .int .i64 0, .int .i64 0, .slice none 0 0, .int .i64 0, .int .i64 0, .int .i64 0, .bool false, .int .i64 0, .slice none 0 0, .slice none 0 0, .int .i64 0] 40] (wa.setCell ⟨b1, 20, none⟩ (.slice ea me ec)) := h2.setCell 20 (.slice ea me ec)
 have D7 := Lib.hid (h3.drew.cell (o := 19) (x := .slice ca nk cc) rfl)
 have h4 : Sep w [Cl b1 #[.int .i64 gk, .int .i64 gf, .int .i64 gt, .int .i64 gv, .int .i64 go, .int .i64 gcm, .int .i64 gla, .int .i64 enc, .int .i64 enm, .int .i64 pk, .string psx.1, .int .i64 po, .int .i64 pn, .slice la nl lc, .int .i64 rc, .int .i64 ra, .int .i64 rb, .bool s, .int .i64 ib, .slice ca mk cc, .slice ea me ec, .int .i64 ic] 40, Cl b2 #[.int .i64 0, .int .i64 0, .int .i64 0, .int .i64 0, .int .i64 0, .int .i64 0, .int .i64 0, .int .i64 0, .int .i64 0, .int .i64 0, .string ⟨#[]⟩, .int .i64 0, .int .i64 0, .slice none 0 0, .int .i64 0, .int .i64 0, .int .i64 0, .bool false, .int .i64 0, .slice none 0 0, .slice none 0 0, .int .i64 0] 40] ((wa.setCell ⟨b1, 20, none⟩ (.slice ea me ec)).setCell ⟨b1, 19, none⟩ (.slice ca mk cc)).drew := (h3.setCell 19 (.slice ca mk cc)).drew
 obtain ⟨w4, hw4⟩ : ∃ z, z = ((wa.setCell ⟨b1, 20, none⟩ (.slice ea me ec)).setCell ⟨b1, 19, none⟩ (.slice ca mk cc)).drew := ⟨_, rfl⟩
 rw [← hw4] at h4
 have e13 := h4.cell (o := 13) (x := .slice la nl lc) rfl
 have g13 := h4.frozen 13
 have h5 : Sep w [Cl b1 #[.int .i64 gk, .int .i64 gf, .int .i64 gt, .int .i64 gv, .int .i64 go, .int .i64 gcm, .int .i64 gla, .int .i64 enc, .int .i64 enm, .int .i64 pk, .string psx.1, .int .i64 po, .int .i64 pn, .slice la ml lc, .int .i64 rc, .int .i64 ra, .int .i64 rb, .bool s, .int .i64 ib, .slice ca mk cc, .slice ea me ec, .int .i64 ic] 40, Cl b2 #[.int .i64 0, .int .i64 0, .int .i64 0, .int .i64 0, .int .i64 0, .int .i64 0, .int .i64 0, .int .i64 0, .int .i64 0, .int .i64 0, .string ⟨#[]⟩, .int .i64 0, .int .i64 0, .slice none 0 0, .int .i64 0, .int .i64 0, .int .i64 0, .bool false, .int .i64 0, .slice none 0 0, .slice none 0 0, .int .i64 0] 40] (w4.setCell ⟨b1, 13, none⟩ (.slice la ml lc)) := h4.setCell 13 (.slice la ml lc)
 obtain ⟨w5, hw5⟩ : ∃ z, z = w4.setCell ⟨b1, 13, none⟩ (.slice la ml lc) := ⟨_, rfl⟩
 rw [← hw5] at h5
 have HL := Lib.hid (h5.loadW 40 Tryz.underlying40 rfl (by kernel_rfl))
 have HT2 := Lib.hid (h5.sw2.thereAt 0 22 (by simp))
 have h6 := h5.sw2.storeW #[.int .i64 gk, .int .i64 gf, .int .i64 gt, .int .i64 gv, .int .i64 go, .int .i64 gcm, .int .i64 gla, .int .i64 enc, .int .i64 enm, .int .i64 pk, .string psx.1, .int .i64 po, .int .i64 pn, .slice la ml lc, .int .i64 rc, .int .i64 ra, .int .i64 rb, .bool s, .int .i64 ib, .slice ca mk cc, .slice ea me ec, .int .i64 ic] rfl
 have HV := Lib.hid (h6.loadV 40 Tryz.underlying40 rfl (by kernel_rfl))
 have H6 := Lib.hid h6.drop.drop
 have ne0 : (0 : Int) ≤ (ne : Int) := by omega
 have nk0 : (0 : Int) ≤ (nk : Int) := by omega
 have nl0 : (0 : Int) ≤ (nl : Int) := by omega
 have me0 : (0 : Int) ≤ (me : Int) := by omega
 have mk0 : (0 : Int) ≤ (mk : Int) := by omega
 have ml0 : (0 : Int) ≤ (ml : Int) := by omega
 have mec : (me : Int) ≤ (ec : Int) := by omega
 have mkc : (mk : Int) ≤ (cc : Int) := by omega
 have mlc : (ml : Int) ≤ (lc : Int) := by omega
 clear h1 h2 h3 h4 h5 h6 hg1 hg2 hg3 pl1 pl2 pk1 pe1 pe2 hnl hnk hne hlm hb1
 unfold mgC
 dsimp only
 go_enter Tryz.func32, Tryz.ntmps32
 (try dsimp only); repeat' (first | go_values | go_skip | go_guarded | go_step | go_upon | go_back)
 rw [← hwa]
 (try rw [← hb2])
 (try rw [← hb1'])
 clear hwa hb2 hb1'
 refine wp_region_H [(20, fun w' => w'.cell? ⟨b1, 20, none⟩ = some (.slice ea ne ec)), (23, fun w' => w'.cell? ⟨b1, 19, none⟩ = some (.slice ca nk cc))] #[false, false, false, false, false, false, false, false, false, false, false, false, false, false, false, false, false, false, false, false, false, false, false, false] (by kernel_rfl) (by kernel_rfl) (by intro p hp; simp only [List.mem_cons, List.not_mem_nil, or_false] at hp; rcases hp with rfl | rfl; exact D20.out; exact D19.out) (fun hS => ?_)
 refine wpAnyH_read (i := 0) (v := ?v0_1cu) 20 (List.mem_cons_self ..) (by kernel_rfl) rfl (by kernel_rfl) (by kernel_rfl) (by kernel_rfl) (by kernel_rfl) (fun _ _ _ h => h) (Or.inl ⟨by rfl, ?hy0_1cu⟩) hS ?rest0_1cu
 case hy0_1cu => intro w hSw; (try dsimp only at hSw); go_simp; (try with_reducible rfl)
 case rest0_1cu =>
 try simp only [nz0, nz1, nz2, Act.put, nz3, nz4, nz5]
 refine wpAnyH_read (i := 1) (v := ?v1_2cu) 20 (List.mem_cons_self ..) (by kernel_rfl) rfl (by kernel_rfl) (by kernel_rfl) (by kernel_rfl) (by kernel_rfl) (fun _ _ _ h => h) (Or.inl ⟨by rfl, ?hy1_2cu⟩) hS ?rest1_2cu
 case hy1_2cu => intro w hSw; (try dsimp only at hSw); go_simp; (try with_reducible rfl)
 case rest1_2cu =>
 try simp only [nz0, nz1, nz2, Act.put, nz3, nz4, nz5]
 refine wpAnyH_read (i := 2) (v := ?v2_3cu) 20 (List.mem_cons_self ..) (by kernel_rfl) rfl (by kernel_rfl) (by kernel_rfl) (by kernel_rfl) (by kernel_rfl) (fun _ _ _ h => h) (Or.inl ⟨by rfl, ?hy2_3cu⟩) hS ?rest2_3cu
 case hy2_3cu => intro w hSw; (try dsimp only at hSw); go_simp; (try with_reducible rfl)
 case rest2_3cu =>
 try simp only [nz0, nz1, nz2, Act.put, nz3, nz4, nz5]
 refine wpAnyH_read (i := 3) (v := ?v3_4cu) 20 (List.mem_cons_self ..) (by kernel_rfl) rfl (by kernel_rfl) (by kernel_rfl) (by kernel_rfl) (by kernel_rfl) (fun _ _ _ h => h) (Or.inl ⟨by rfl, ?hy3_4cu⟩) hS ?rest3_4cu
 case hy3_4cu => intro w hSw; (try dsimp only at hSw); go_simp; (try with_reducible rfl)
 case rest3_4cu =>
 try simp only [nz0, nz1, nz2, Act.put, nz3, nz4, nz5]
 refine wpAnyH_read (i := 4) (v := ?v4_5cu) 20 (List.mem_cons_self ..) (by kernel_rfl) rfl (by kernel_rfl) (by kernel_rfl) (by kernel_rfl) (by kernel_rfl) (fun _ _ _ h => h) (Or.inl ⟨by rfl, ?hy4_5cu⟩) hS ?rest4_5cu
 case hy4_5cu => intro w hSw; (try dsimp only at hSw); go_simp; (try with_reducible rfl)
 case rest4_5cu =>
 try simp only [nz0, nz1, nz2, Act.put, nz3, nz4, nz5]
 refine wpAnyH_read (i := 5) (v := ?v5_6cu) 20 (List.mem_cons_self ..) (by kernel_rfl) rfl (by kernel_rfl) (by kernel_rfl) (by kernel_rfl) (by kernel_rfl) (fun _ _ _ h => h) (Or.inl ⟨by rfl, ?hy5_6cu⟩) hS ?rest5_6cu
 case hy5_6cu => intro w hSw; (try dsimp only at hSw); go_simp; (try with_reducible rfl)
 case rest5_6cu =>
 try simp only [nz0, nz1, nz2, Act.put, nz3, nz4, nz5]
 refine wpAnyH_read (i := 6) (v := ?v6_7cu) 20 (List.mem_cons_self ..) (by kernel_rfl) rfl (by kernel_rfl) (by kernel_rfl) (by kernel_rfl) (by kernel_rfl) (fun _ _ _ h => h) (Or.inl ⟨by rfl, ?hy6_7cu⟩) hS ?rest6_7cu
 case hy6_7cu => intro w hSw; (try dsimp only at hSw); go_simp; (try with_reducible rfl)
 case rest6_7cu =>
 try simp only [nz0, nz1, nz2, Act.put, nz3, nz4, nz5]
 refine wpAnyH_read (i := 7) (v := ?v7_8cu) 20 (List.mem_cons_self ..) (by kernel_rfl) rfl (by kernel_rfl) (by kernel_rfl) (by kernel_rfl) (by kernel_rfl) (fun _ _ _ h => h) (Or.inl ⟨by rfl, ?hy7_8cu⟩) hS ?rest7_8cu
 case hy7_8cu => intro w hSw; (try dsimp only at hSw); go_simp; (try with_reducible rfl)
 case rest7_8cu =>
 try simp only [nz0, nz1, nz2, Act.put, nz3, nz4, nz5]
 refine wpAnyH_read (i := 8) (v := ?v8_9cu) 20 (List.mem_cons_self ..) (by kernel_rfl) rfl (by kernel_rfl) (by kernel_rfl) (by kernel_rfl) (by kernel_rfl) (fun _ _ _ h => h) (Or.inl ⟨by rfl, ?hy8_9cu⟩) hS ?rest8_9cu
 case hy8_9cu => intro w hSw; (try dsimp only at hSw); go_simp; (try with_reducible rfl)
 case rest8_9cu =>
 try simp only [nz0, nz1, nz2, Act.put, nz3, nz4, nz5]
 refine wpAnyH_read (i := 9) (v := ?v9_10cu) 23 (List.mem_cons_of_mem _ (List.mem_cons_self ..)) (by kernel_rfl) rfl (by kernel_rfl) (by kernel_rfl) (by kernel_rfl) (by kernel_rfl) (fun _ _ _ h => h) (Or.inl ⟨by rfl, ?hy9_10cu⟩) hS ?rest9_10cu
 case hy9_10cu => intro w hSw; (try dsimp only at hSw); go_simp; (try with_reducible rfl)
 case rest9_10cu =>
 try simp only [nz0, nz1, nz2, Act.put, nz3, nz4, nz5]
 refine wpAnyH_read (i := 10) (v := ?v10_11cu) 23 (List.mem_cons_of_mem _ (List.mem_cons_self ..)) (by kernel_rfl) rfl (by kernel_rfl) (by kernel_rfl) (by kernel_rfl) (by kernel_rfl) (fun _ _ _ h => h) (Or.inl ⟨by rfl, ?hy10_11cu⟩) hS ?rest10_11cu
 case hy10_11cu => intro w hSw; (try dsimp only at hSw); go_simp; (try with_reducible rfl)
 case rest10_11cu =>
 try simp only [nz0, nz1, nz2, Act.put, nz3, nz4, nz5]
 refine wpAnyH_read (i := 11) (v := ?v11_12cu) 23 (List.mem_cons_of_mem _ (List.mem_cons_self ..)) (by kernel_rfl) rfl (by kernel_rfl) (by kernel_rfl) (by kernel_rfl) (by kernel_rfl) (fun _ _ _ h => h) (Or.inl ⟨by rfl, ?hy11_12cu⟩) hS ?rest11_12cu
 case hy11_12cu => intro w hSw; (try dsimp only at hSw); go_simp; (try with_reducible rfl)
 case rest11_12cu =>
 try simp only [nz0, nz1, nz2, Act.put, nz3, nz4, nz5]
 refine wpAnyH_read (i := 12) (v := ?v12_13cu) 23 (List.mem_cons_of_mem _ (List.mem_cons_self ..)) (by kernel_rfl) rfl (by kernel_rfl) (by kernel_rfl) (by kernel_rfl) (by kernel_rfl) (fun _ _ _ h => h) (Or.inl ⟨by rfl, ?hy12_13cu⟩) hS ?rest12_13cu
 case hy12_13cu => intro w hSw; (try dsimp only at hSw); go_simp; (try with_reducible rfl)
 case rest12_13cu =>
 try simp only [nz0, nz1, nz2, Act.put, nz3, nz4, nz5]
 refine wpAnyH_read (i := 13) (v := ?v13_14cu) 23 (List.mem_cons_of_mem _ (List.mem_cons_self ..)) (by kernel_rfl) rfl (by kernel_rfl) (by kernel_rfl) (by kernel_rfl) (by kernel_rfl) (fun _ _ _ h => h) (Or.inl ⟨by rfl, ?hy13_14cu⟩) hS ?rest13_14cu
 case hy13_14cu => intro w hSw; (try dsimp only at hSw); go_simp; (try with_reducible rfl)
 case rest13_14cu =>
 try simp only [nz0, nz1, nz2, Act.put, nz3, nz4, nz5]
 refine wpAnyH_read (i := 14) (v := ?v14_15cu) 23 (List.mem_cons_of_mem _ (List.mem_cons_self ..)) (by kernel_rfl) rfl (by kernel_rfl) (by kernel_rfl) (by kernel_rfl) (by kernel_rfl) (fun _ _ _ h => h) (Or.inl ⟨by rfl, ?hy14_15cu⟩) hS ?rest14_15cu
 case hy14_15cu => intro w hSw; (try dsimp only at hSw); go_simp; (try with_reducible rfl)
 case rest14_15cu =>
 try simp only [nz0, nz1, nz2, Act.put, nz3, nz4, nz5]
 refine wpAnyH_read (i := 15) (v := ?v15_16cu) 23 (List.mem_cons_of_mem _ (List.mem_cons_self ..)) (by kernel_rfl) rfl (by kernel_rfl) (by kernel_rfl) (by kernel_rfl) (by kernel_rfl) (fun _ _ _ h => h) (Or.inl ⟨by rfl, ?hy15_16cu⟩) hS ?rest15_16cu
 case hy15_16cu => intro w hSw; (try dsimp only at hSw); go_simp; (try with_reducible rfl)
 case rest15_16cu =>
 try simp only [nz0, nz1, nz2, Act.put, nz3, nz4, nz5]
 refine wpAnyH_read (i := 16) (v := ?v16_17cu) 23 (List.mem_cons_of_mem _ (List.mem_cons_self ..)) (by kernel_rfl) rfl (by kernel_rfl) (by kernel_rfl) (by kernel_rfl) (by kernel_rfl) (fun _ _ _ h => h) (Or.inl ⟨by rfl, ?hy16_17cu⟩) hS ?rest16_17cu
 case hy16_17cu => intro w hSw; (try dsimp only at hSw); go_simp; (try with_reducible rfl)
 case rest16_17cu =>
 try simp only [nz0, nz1, nz2, Act.put, nz3, nz4, nz5]
 refine wpAnyH_read (i := 17) (v := ?v17_18cu) 23 (List.mem_cons_of_mem _ (List.mem_cons_self ..)) (by kernel_rfl) rfl (by kernel_rfl) (by kernel_rfl) (by kernel_rfl) (by kernel_rfl) (fun _ _ _ h => h) (Or.inl ⟨by rfl, ?hy17_18cu⟩) hS ?rest17_18cu
 case hy17_18cu => intro w hSw; (try dsimp only at hSw); go_simp; (try with_reducible rfl)
 case rest17_18cu =>
 try simp only [nz0, nz1, nz2, Act.put, nz3, nz4, nz5]
 refine wpAnyH_read (i := 18) (v := ?v18_19cu) 23 (List.mem_cons_of_mem _ (List.mem_cons_self ..)) (by kernel_rfl) rfl (by kernel_rfl) (by kernel_rfl) (by kernel_rfl) (by kernel_rfl) (fun _ _ _ h => h) (Or.inl ⟨by rfl, ?hy18_19cu⟩) hS ?rest18_19cu
 case hy18_19cu => intro w hSw; (try dsimp only at hSw); go_simp; (try with_reducible rfl)
 case rest18_19cu =>
 try simp only [nz0, nz1, nz2, Act.put, nz3, nz4, nz5]
 refine wpAnyH_read (i := 19) (v := ?v19_20cu) 23 (List.mem_cons_of_mem _ (List.mem_cons_self ..)) (by kernel_rfl) rfl (by kernel_rfl) (by kernel_rfl) (by kernel_rfl) (by kernel_rfl) (fun _ _ _ h => h) (Or.inl ⟨by rfl, ?hy19_20cu⟩) hS ?rest19_20cu
 case hy19_20cu => intro w hSw; (try dsimp only at hSw); go_simp; (try with_reducible rfl)
 case rest19_20cu =>
 try simp only [nz0, nz1, nz2, Act.put, nz3, nz4, nz5]
 refine wpAnyH_one (i := 20) (by kernel_rfl) rfl (fun K hK => ?_)
 go_simp
 refine hK.out _ _ ?hS21cu ?rest21cu
 case hS21cu => (intro p hp hl; simp only [List.mem_cons, List.not_mem_nil, or_false] at hp; rcases hp with rfl | rfl; (exact absurd (hl.symm.trans (by kernel_rfl)) Bool.false_ne_true); exact D7.out)
 case rest21cu =>
 clear K hK
 try simp only [nz0, nz1, nz2, Act.put, nz3, nz4, nz5]
 refine wpAnyH_one (i := 21) (by kernel_rfl) rfl (fun K hK => ?_)
 go_simp
 refine hK.out _ _ ?hS22cu ?rest22cu
 case hS22cu => (intro p hp hl; simp only [List.mem_cons, List.not_mem_nil, or_false] at hp; rcases hp with rfl | rfl; (exact absurd (hl.symm.trans (by kernel_rfl)) Bool.false_ne_true); exact D7.out)
 case rest22cu =>
 clear K hK
 try simp only [nz0, nz1, nz2, Act.put, nz3, nz4, nz5]
 refine wpAnyH_one (i := 22) (by kernel_rfl) rfl (fun K hK => ?_)
 go_simp
 refine hK.out _ _ ?hS23cu ?rest23cu
 case hS23cu => (intro p hp hl; simp only [List.mem_cons, List.not_mem_nil, or_false] at hp; rcases hp with rfl | rfl; (exact absurd (hl.symm.trans (by kernel_rfl)) Bool.false_ne_true); exact D7.out)
 case rest23cu =>
 clear K hK
 try simp only [nz0, nz1, nz2, Act.put, nz3, nz4, nz5]
 refine wpAnyH_one (i := 23) (by kernel_rfl) rfl (fun K hK => ?_)
 go_simp
 refine hK.out _ _ ?hS24cu ?rest24cu
 case hS24cu => (intro p hp hl; simp only [List.mem_cons, List.not_mem_nil, or_false] at hp; rcases hp with rfl | rfl; (exact absurd (hl.symm.trans (by kernel_rfl)) Bool.false_ne_true); (exact absurd (hl.symm.trans (by kernel_rfl)) Bool.false_ne_true))
 case rest24cu =>
 clear K hK
 try simp only [nz0, nz1, nz2, Act.put, nz3, nz4, nz5]
 refine wpAnyH_done (by kernel_rfl) ?_ _
 try simp only [nz0, nz1, nz2, Act.put, nz3, nz4, nz5]
 rw [← hw4]
 clear hw4 d20 f20 d19 f19 D7 D19 D20
 (try dsimp only); repeat' (first | (with_reducible show wpList _ _ _ (Oper.mk _ (Op.load 40 _) _ _ _ _ :: _) _ _; refine stopP ?_) | go_values | go_skip | go_guarded | go_step | go_upon | go_back)
 rw [← hw5]
 clear hw5 e13 g13
 unfold StopP
 have hq_ := HL.out
 refine wpList_load_run rfl 40 _ rfl _ _ rfl hq_ ?_
 clear hq_
 (try dsimp only); repeat' (first | (with_reducible show wpList _ _ _ (Oper.mk _ (Op.store 40 _ _) _ _ _ _ :: _) _ _; refine stopP ?_) | go_values | go_skip | go_guarded | go_step | go_upon | go_back)
 unfold StopP
 refine wpList_store_mid rfl 40 (.tmp 2) (.tmp 39) rfl b2 0 #[.int .i64 gk, .int .i64 gf, .int .i64 gt, .int .i64 gv, .int .i64 go, .int .i64 gcm, .int .i64 gla, .int .i64 enc, .int .i64 enm, .int .i64 pk, .string psx.1, .int .i64 po, .int .i64 pn, .slice la ml lc, .int .i64 rc, .int .i64 ra, .int .i64 rb, .bool s, .int .i64 ib, .slice ca mk cc, .slice ea me ec, .int .i64 ic] rfl rfl HT2.out (by kernel_rfl) (by kernel_rfl) ?_
 (try dsimp only); repeat' (first | go_values | go_skip | go_guarded | go_step | go_upon | go_back)
 exact bodyPost_ret (results_cell rfl rfl HV.out) rfl ⟨_, HCF.out, rfl, HG.out.1, HG.out.2.1, HG.out.2.2.1, HG.out.2.2.2.1, HG.out.2.2.2.2, H6.out⟩
end Go.Proofs.YtcnbmeiielkigaaGreatDoor
/- A cell of a row of structs of one's own is stored to. -/
namespace Go.Proofs.YtcnbmeiielkigaaGreatDoor
open Go.RowKit
set_option linter.unusedVariables false
theorem Sep.rnSet {w0 w : World} {sz n : Nat} {e : TypeId} {v : Value} {xs : List Value} {L : List Thing} (h : Sep w0 (Rn sz e v n xs :: L) w) (hp : 0 < n) :
  ∃ b c, v = .slice (some ⟨b, 0, none⟩) n c ∧ n ≤ c ∧ c ≤ maxLen ∧ b < w.heap.size ∧ xs.length = n * sz ∧ (∀ k (hk : k < xs.length), w.cell? ⟨b, k, none⟩ = some xs[k]) ∧ (∀ k, w.frozen? ⟨b, k, none⟩ = false) ∧
   ∀ k x, k < xs.length → Sep w0 (Rn sz e v n (xs.set k x) :: L) (w.setCell ⟨b, k, none⟩ x) := by
 have ho := h.rn
 rcases ho.2 with ⟨_, h0⟩ | ⟨b, c, cur, rfl, hb, hh, h1, h2, h3, h4⟩
 ·omega
 ·refine ⟨b, c, rfl, h1, h2, (ownsRow_lt ho b rfl).2, ho.1, fun k hk => ?_, fun k => ?_, fun k x hk => ?_⟩
  ·have hj2 : k < n * sz := by rw [← ho.1]; exact hk
   unfold World.cell?
   rw [hh]
   have h5 : (cur.toList.take (n * sz))[k]? = some xs[k] := by rw [h4]; exact List.getElem?_eq_getElem hk
   rw [List.getElem?_take, if_pos hj2] at h5
   simpa using h5
  ·unfold World.frozen?; rw [hh]; simp
  ·refine h.change (loc_rn _ _ _ _ _) fun F hF hlt => ⟨F, ⟨⟨w0.heap.size, ?_, .inr ⟨b, c, cur.setIfInBounds k x, rfl, hb, heap_setCell_at hh x, h1, h2, by simpa using h3, ?_⟩⟩, hF.2⟩, fun j hj => ⟨.inl hj, by have := hlt j hj; simpa [World.setCell] using this⟩, chg_setCell ((hF.2 b).2 rfl) k x⟩
   ·rw [List.length_set]; exact ho.1
   ·rw [Array.toList_setIfInBounds, List.take_set]
    exact congrArg (fun l => List.set l k x) h4
end Go.Proofs.YtcnbmeiielkigaaGreatDoor
/- Stage 22's laws: spoil. -/
namespace Go.Proofs.YtcnbmeiielkigaaGreatDoor
open Go Go.RowKit
set_option linter.unusedVariables false
set_option linter.unusedSimpArgs false
theorem bv_set22 (l : List UInt8) (k : Nat) (x : UInt8) : (bv l).set k (.int .u8 x.toNat) = bv (l.set k x) := by unfold bv; rw [List.map_set]
theorem Sep.byForm22 {w0 w : World} {b n c : Nat} {ys : List UInt8} {L : List Thing} (h : Sep w0 (By (.slice (some ⟨b, 0, none⟩) n c) ys :: L) w) (hn : 0 < ys.length) :
  ys.length = n ∧ n ≤ c ∧ (∀ k (hk : k < ys.length), w.cell? ⟨b, k, none⟩ = some (.int .u8 (ys[k]).toNat)) ∧ (∀ k, w.frozen? ⟨b, k, none⟩ = false) ∧ ∀ k x, k < ys.length → Sep w0 (By (.slice (some ⟨b, 0, none⟩) n c) (ys.set k x) :: L) (w.setCell ⟨b, k, none⟩ (.int .u8 x.toNat)) := by
 obtain ⟨b', c', hv, h1, h2, h3, h4, h5⟩ := h.rowForm (by rw [bv_length]; exact hn)
 simp only [Value.slice.injEq, Option.some.injEq, Addr.mk.injEq, and_true] at hv
 obtain ⟨rfl, e2, rfl⟩ := hv
 rw [bv_length] at e2 h1
 refine ⟨e2.symm, by omega, fun k hk => ?_, h4, fun k x hk => ?_⟩
 ·have := h3 k (by rw [bv_length]; exact hk)
  rw [this]
  have h6 := bv_get ys k hk
  rw [List.getElem?_eq_getElem (by rw [bv_length]; exact hk)] at h6
  exact h6
 ·have := h5 k (.int .u8 x.toNat) (by rw [bv_length]; exact hk)
  rw [bv_set22] at this
  exact this
theorem xor_u8v (a b : Nat) (ha : a < 256) (hb : b < 256) : bits .xor .u8 (a : Int) (b : Int) = ((a ^^^ b : Nat) : Int) := by
 have hx : a ^^^ b < 2 ^ 8 := Nat.xor_lt_two_pow (by omega) (by omega)
 have h1 : (BitVec.ofInt 8 (a : Int)).toNat = a := by
  rw [BitVec.ofInt_natCast, BitVec.toNat_ofNat]; exact Nat.mod_eq_of_lt (by omega)
 have h2 : (BitVec.ofInt 8 (b : Int)).toNat = b := by
  rw [BitVec.ofInt_natCast, BitVec.toNat_ofNat]; exact Nat.mod_eq_of_lt (by omega)
 show IntKind.u8.wrap ((BitVec.ofInt 8 (a : Int) ^^^ BitVec.ofInt 8 (b : Int)).toNat : Int) = _
 rw [BitVec.toNat_xor, h1, h2]
 simp [IntKind.wrap, IntKind.bits, IntKind.signed]
 omega
theorem put22 (ps : List (EnM × Value)) (i : Nat) (hi : i < ps.length) : (enCs ps).set (i * 7 + 1) (.int .i64 (-9)) = enCs (ps.set i ({ ps[i].1 with m := -9 }, ps[i].2)) := by
 apply List.ext_getElem?
 intro k
 have hk : k = k / 7 * 7 + k % 7 := by omega
 have h7 : k % 7 < 7 := Nat.mod_lt _ (by decide)
 obtain ⟨q, hq⟩ : ∃ q, q = k / 7 := ⟨_, rfl⟩
 obtain ⟨r, hr⟩ : ∃ r, r = k % 7 := ⟨_, rfl⟩
 rw [← hq, ← hr] at hk
 rw [← hr] at h7
 subst hk
 rw [List.getElem?_set]
 by_cases hql : q < ps.length
 ·have e1 := enCs_at ps q hql r h7
  have e2 := enCs_at (ps.set i ({ ps[i].1 with m := -9 }, ps[i].2)) q (by rw [List.length_set]; exact hql) r h7
  rw [e2, e1]
  by_cases hqi : i = q
  ·subst hqi
   rw [List.getElem_set_self]
   have hll : i * 7 + 1 < (enCs ps).length := by rw [enCs_len]; omega
   match r, h7 with
   | 0, _ => rw [if_neg (by omega)]; rfl
   | 1, _ => rw [if_pos rfl, if_pos hll]; rfl
   | 2, _ => rw [if_neg (by omega)]; rfl
   | 3, _ => rw [if_neg (by omega)]; rfl
   | 4, _ => rw [if_neg (by omega)]; rfl
   | 5, _ => rw [if_neg (by omega)]; rfl
   | 6, _ => rw [if_neg (by omega)]; rfl
  ·rw [if_neg (by omega), List.getElem_set_ne hqi]
 ·rw [if_neg (by omega), List.getElem?_eq_none (by rw [enCs_len]; omega), List.getElem?_eq_none (by rw [enCs_len, List.length_set]; omega)]
theorem map_ln22 (ps : List (EnM × Value)) (i : Nat) (hi : i < ps.length) : (ps.set i ({ ps[i].1 with m := -9 }, ps[i].2)).map lnP = ps.map lnP := by
 apply List.ext_getElem
 ·simp
 ·intro j h1 h2
  rw [List.getElem_map, List.getElem_map, List.getElem_set]
  split
  ·rename_i h; subst h; rfl
  ·rfl
/-- The number of an entry of one's own is stored to. -/
theorem Sep.enNum22 {w0 w : World} {v : Value} {ps : List (EnM × Value)} {L : List Thing} (h : Sep w0 (EnT v ps :: L) w) (i : Nat) (hi : i < ps.length) :
  ∃ b c, v = .slice (some ⟨b, 0, none⟩) ps.length c ∧ ps.length ≤ c ∧ w.cell? ⟨b, i * 7 + 1, none⟩ = some (.int .i64 ps[i].1.m) ∧ w.frozen? ⟨b, i * 7 + 1, none⟩ = false ∧ Sep w0 (EnT v (ps.set i ({ ps[i].1 with m := -9 }, ps[i].2)) :: L) (w.setCell ⟨b, i * 7 + 1, none⟩ (.int .i64 (-9))) := by
 have h0 := h.enOpen
 have hlen : (enCs ps).length = ps.length * 7 := enCs_len ps
 obtain ⟨b, c, rfl, h1, h2, h3, h4, h5, h6, h7⟩ := h0.rnSet (by omega)
 refine ⟨b, c, rfl, h1, ?_, h6 _, Sep.enClose ?_⟩
 ·have e := h5 (i * 7 + 1) (by omega)
  have e1 := enCs_at ps i hi 1 (by decide)
  rw [List.getElem?_eq_getElem (by omega)] at e1
  rw [e, e1]
  rfl
 ·have g := h7 (i * 7 + 1) (.int .i64 (-9)) (by omega)
  rw [put22 ps i hi] at g
  rw [map_ln22 ps i hi]
  show Sep w0 (Rn 7 32 _ (ps.set i ({ ps[i].1 with m := -9 }, ps[i].2)).length (enCs (ps.set i ({ ps[i].1 with m := -9 }, ps[i].2))) :: _) _
  rw [List.length_set]
  exact g
set_option maxRecDepth 100000 in
set_option maxHeartbeats 16000000 in
theorem spoil22_any {w0 w : World} {L : List Thing} {g : MgM} (h : Sep w0 (MT g :: L) w) (hk : g.ck.length ≤ 50 ∧ g.ps.length ≤ 8 ∧ g.en.p.ls.length ≤ 8) :
  Calls Tryz.prog 13 #[.agg (mgC g)] w fun e w' => e = .returned (.tuple #[]) ∧ Sep w0 L w' := by
 have h0 := h.mtOpen
 obtain ⟨ca, cc, hcv⟩ := bv_form h0.sw2.sl
 obtain ⟨ea, ec, hev, -, -⟩ := h0.sw3.enForm
 obtain ⟨la, lc, hlv, -⟩ := h0.rnForm
 obtain ⟨n, hn⟩ : ∃ z, g.ck.length = z := ⟨_, rfl⟩
 obtain ⟨p, hpp⟩ : ∃ z, g.ps.length = z := ⟨_, rfl⟩
 obtain ⟨m, hm⟩ : ∃ z, g.en.p.ls.length = z := ⟨_, rfl⟩
 rw [hn] at hcv hk
 rw [hpp] at hev hk
 rw [hm] at hlv hk
 obtain ⟨mc, hmc⟩ : ∃ z, z = mgC g := ⟨_, rfl⟩
 have m13 : mc[13]? = some (.slice la m lc) := by rw [hmc]; show some g.lv = _; rw [hlv]
 have m19 : mc[19]? = some (.slice ca n cc) := by rw [hmc]; show some g.cv = _; rw [hcv]
 have m20 : mc[20]? = some (.slice ea p ec) := by rw [hmc]; show some g.ev = _; rw [hev]
 have h1 := h0.alloc (.cells mc 40)
 rw [hcv, hev, hlv] at h1
 rw [← hmc]
 obtain ⟨b1, hb1⟩ : ∃ z, z = w.heap.size := ⟨_, rfl⟩
 obtain ⟨w1, hw1⟩ : ∃ z, z = w.alloc (.cells mc 40) := ⟨_, rfl⟩
 rw [← hw1, ← hb1] at h1
 have H1 : Hid (Sep w0 (By (.slice ca n cc) g.ck :: EnT (.slice ea p ec) g.ps :: Rn 2 68 (.slice la m lc) m (lnCells g.en.p.ls) :: Cl b1 mc 40 :: L) w1) := Lib.hid (by rw [← hm]; rw [← hm] at h1; exact h1.pickL (M := [_, _, _, _]) [2, 3, 1, 0] rfl)
 obtain ⟨cl, hcl⟩ : ∃ z, z = g.ck := ⟨_, rfl⟩
 obtain ⟨ps, hps⟩ : ∃ z, z = g.ps := ⟨_, rfl⟩
 obtain ⟨ll, hll⟩ : ∃ z, z = lnCells g.en.p.ls := ⟨_, rfl⟩
 rw [← hcl, ← hps, ← hll] at H1
 rw [← hcl] at hn
 rw [← hps] at hpp
 have HN := Lib.hid hn
 have HP := Lib.hid hpp
 have HM := Lib.hid (And.intro m13 (And.intro m19 m20))
 have n0 : (n : Int) ≤ 50 := by omega
 have p0 : (p : Int) ≤ 8 := by omega
 have q0 : (m : Int) ≤ 8 := by omega
 clear h h0 h1 hn hpp hm hmc hcv hev hlv hk m13 m19 m20 hcl hps hll
 go_enter Tryz.func13, Tryz.ntmps13
 (try dsimp only); repeat' (first | go_values | go_skip | go_guarded | go_step | go_upon | go_back)
 rw [← hw1, ← hb1]
 clear hw1 hb1
 go_loopw [2] (fun i wr => ∃ (j : Nat) (l' : List UInt8), j ≤ n ∧ i = .int .i64 j ∧ l'.length = n ∧ Sep w0 (By (.slice ca n cc) l' :: EnT (.slice ea p ec) ps :: Rn 2 68 (.slice la m lc) m ll :: Cl b1 mc 40 :: L) wr) (fun i _ => n - (intOf i).toNat)
 case atStart => exact ⟨0, cl, Nat.zero_le _, rfl, HN.out, H1.out⟩
 case round =>
  obtain ⟨j, l', hj, rfl, hl', hs⟩ := hrel
  clear H1
  have j0 : (0 : Int) ≤ (j : Int) := by omega
  have j1 : (j : Int) ≤ 50 := by omega
  by_cases hjn : j < n
  ·have hd : decide (j < n) = true := decide_eq_true hjn
   have j2 : (j : Int) < (n : Int) := by omega
   have hca : ∃ bb, ca = some ⟨bb, 0, none⟩ := by
    obtain ⟨b', c', hv, -⟩ := Sep.rowForm hs (by rw [bv_length]; omega)
    simp only [Value.slice.injEq] at hv
    exact ⟨b', hv.1⟩
   obtain ⟨bb, rfl⟩ := hca
   obtain ⟨c, hc⟩ : ∃ z, z = cc := ⟨_, rfl⟩
   subst hc
   have c1a := hs.sw4.cell HM.out.2.1
   have hs := hs.drew
   obtain ⟨-, hncc, hcell, hfr, hset⟩ := hs.byForm22 (by omega)
   have c0 := hcell j (by omega)
   have f0 := hfr j
   have c1 := hs.sw4.cell HM.out.2.1
   have hs2 := hset j (l'[j]'(by omega) ^^^ 90) (by omega)
   have hxl := (l'[j]'(by omega)).toNat_lt
   have hx9 : (l'[j]'(by omega) ^^^ 90).toNat = (l'[j]'(by omega)).toNat ^^^ 90 := by rw [UInt8.toNat_xor]; rfl
   generalize l'[j]'(by omega) = xb at *
   rw [hx9] at hs2
   obtain ⟨x, hx⟩ : ∃ x : Int, x = xb.toNat := ⟨_, rfl⟩
   rw [← hx] at c0
   have HX : Hid (bits .xor .u8 x 90 = ((xb.toNat ^^^ 90 : Nat) : Int)) := Lib.hid (by rw [hx]; exact xor_u8v _ 90 hxl (by decide))
   have HS2 := Lib.hid hs2
   have HJ := Lib.hid (And.intro hjn hl')
   clear hs hcell hfr hset hs2 hxl hx9 hx hl' hjn hj hncc
   (try dsimp only); repeat' (first | go_values | go_skip | go_guarded | go_step | go_upon | go_back)
   refine wp_region_G (fun w' => w'.cell? ⟨b1, 19, none⟩ = some (.slice (some ⟨bb, 0, none⟩) n c) ∧ w'.cell? ⟨bb, j, none⟩ = some (.int .u8 x)) [12] (by kernel_rfl) ⟨c1, c0⟩ (fun hS => ?_)
   try dsimp only at hS
   refine wpAnyG_tk (i := 0) (v := ?v0_1sp) rfl (Or.inl ⟨by rfl, ?a_⟩) hS ?b_
   case a_ => intro w hSw; (try dsimp only at hSw); go_simp; (try with_reducible rfl)
   case b_ =>
   try simp only [nz0, nz1, nz2, Act.put, nz3, nz4, nz5]
   refine wpAnyG_tk (i := 1) (v := ?v1_2sp) rfl (Or.inl ⟨by rfl, ?a_⟩) hS ?b_
   case a_ => intro w hSw; (try dsimp only at hSw); go_simp; (try with_reducible rfl)
   case b_ =>
   try simp only [nz0, nz1, nz2, Act.put, nz3, nz4, nz5]
   refine wpAnyG_tk (i := 2) (v := ?v2_3sp) rfl (Or.inl ⟨by rfl, ?a_⟩) hS ?b_
   case a_ => intro w hSw; (try dsimp only at hSw); go_simp; (try with_reducible rfl)
   case b_ =>
   try simp only [nz0, nz1, nz2, Act.put, nz3, nz4, nz5]
   refine wpAnyG_tk (i := 3) (v := ?v3_4sp) rfl (Or.inl ⟨by rfl, ?a_⟩) hS ?b_
   case a_ => intro w hSw; (try dsimp only at hSw); go_simp; (try with_reducible rfl)
   case b_ =>
   try simp only [nz0, nz1, nz2, Act.put, nz3, nz4, nz5]
   refine wpAnyG_tk (i := 4) (v := ?v4_5sp) rfl (Or.inl ⟨by rfl, ?a_⟩) hS ?b_
   case a_ => intro w hSw; (try dsimp only at hSw); go_simp; (try with_reducible rfl)
   case b_ =>
   try simp only [nz0, nz1, nz2, Act.put, nz3, nz4, nz5]
   refine wpAnyG_tk (i := 5) (v := ?v5_6sp) rfl (Or.inl ⟨by rfl, ?a_⟩) hS ?b_
   case a_ => intro w hSw; (try dsimp only at hSw); go_simp; (try with_reducible rfl)
   case b_ =>
   try simp only [nz0, nz1, nz2, Act.put, nz3, nz4, nz5]
   refine wpAnyG_tk (i := 6) (v := ?v6_7sp) rfl (Or.inl ⟨by rfl, ?a_⟩) hS ?b_
   case a_ => intro w hSw; (try dsimp only at hSw); go_simp; (try with_reducible rfl)
   case b_ =>
   try simp only [nz0, nz1, nz2, Act.put, nz3, nz4, nz5]
   refine wpAnyG_tk (i := 7) (v := ?v7_8sp) rfl (Or.inl ⟨by rfl, ?a_⟩) hS ?b_
   case a_ => intro w hSw; (try dsimp only at hSw); go_simp; (try with_reducible rfl)
   case b_ =>
   try simp only [nz0, nz1, nz2, Act.put, nz3, nz4, nz5]
   refine wpAnyG_tk (i := 8) (v := ?v8_9sp) rfl (Or.inl ⟨by rfl, ?a_⟩) hS ?b_
   case a_ => intro w hSw; (try dsimp only at hSw); go_simp; (try with_reducible rfl)
   case b_ =>
   try simp only [nz0, nz1, nz2, Act.put, nz3, nz4, nz5]
   refine wpAnyG_tk (i := 9) (v := ?v9_10sp) rfl (Or.inl ⟨by rfl, ?a_⟩) hS ?b_
   case a_ => intro w hSw; (try dsimp only at hSw); go_simp; (try with_reducible rfl)
   case b_ =>
   try simp only [nz0, nz1, nz2, Act.put, nz3, nz4, nz5]
   refine wpAnyG_tk (i := 10) (v := ?v10_11sp) rfl (Or.inl ⟨by rfl, ?a_⟩) hS ?b_
   case a_ => intro w hSw; (try dsimp only at hSw); go_simp; (try with_reducible rfl)
   case b_ =>
   try simp only [nz0, nz1, nz2, Act.put, nz3, nz4, nz5]
   refine wpAnyG_tk (i := 11) (v := ?v11_12sp) rfl (Or.inl ⟨by rfl, ?a_⟩) hS ?b_
   case a_ => intro w hSw; (try dsimp only at hSw); go_simp; (try with_reducible rfl)
   case b_ =>
   try simp only [nz0, nz1, nz2, Act.put, nz3, nz4, nz5]
   refine wpAnyG_one (i := 12) (by kernel_rfl) rfl (fun K hK => ?_)
   go_simp
   refine hK.out _ _ (fun hno => by cases hno) ?_
   clear K hK
   try simp only [nz0, nz1, nz2, Act.put, nz3, nz4, nz5]
   refine wpAnyG_done (by kernel_rfl) ?_ _
   try simp only [nz0, nz1, nz2, Act.put, nz3, nz4, nz5]
   (try dsimp only); repeat' (first | go_values | go_skip | go_guarded | go_step | go_upon | go_back)
   rw [HX.out]
   go_roundw
   case rel =>
    refine ⟨j + 1, _, by have := HJ.out.1; omega, by go_num, ?_, HS2.out⟩
    rw [List.length_set]; exact HJ.out.2
   case measure => have := HJ.out.1; simp [intOf]; omega
  ·have hd : decide (j < n) = false := decide_eq_false hjn
   obtain rfl : j = n := by omega
   have c1 := hs.sw4.cell HM.out.2.1
   have HS := Lib.hid (hs.drop)
   clear hs hl' hjn hj
   (try dsimp only); repeat' (first | go_values | go_skip | go_guarded | go_step | go_upon | go_back)
   go_loopw [3] (fun i wr => ∃ (q : Nat) (ps' : List (EnM × Value)), q ≤ p ∧ i = .int .i64 q ∧ ps'.length = p ∧ Sep w0 (EnT (.slice ea p ec) ps' :: Rn 2 68 (.slice la m lc) m ll :: Cl b1 mc 40 :: L) wr) (fun i _ => p - (intOf i).toNat)
   case atStart => exact ⟨0, ps, Nat.zero_le _, rfl, HP.out, HS.out⟩
   case round =>
    obtain ⟨q, ps', hq, rfl, hp', hs⟩ := hrel
    clear HS c1
    have q0 : (0 : Int) ≤ (q : Int) := by omega
    have q1 : (q : Int) ≤ 40 := by omega
    have c2 := hs.sw3.cell HM.out.2.2
    by_cases hqn : q < p
    ·have hd2 : decide (q < p) = true := decide_eq_true hqn
     have q2 : (q : Int) < (p : Int) := by omega
     obtain ⟨bx, kc, hv, hcc, e1, f1, hset⟩ := hs.enNum22 q (by omega)
     simp only [Value.slice.injEq] at hv
     obtain ⟨rfl, -, rfl⟩ := hv
     generalize (ps'[q]'(by omega)) = x9 at *
     have HS2 := Lib.hid hset
     have HJ := Lib.hid (And.intro hqn hp')
     clear hs hset hqn hq hp'
     (try dsimp only); repeat' (first | go_values | go_skip | go_guarded | go_step | go_upon | go_back)
     go_roundw
     case rel =>
      refine ⟨q + 1, _, by have := HJ.out.1; omega, by go_num, ?_, HS2.out⟩
      rw [List.length_set]; exact HJ.out.2
     case measure => have := HJ.out.1; simp [intOf]; omega
    ·have hd2 : decide (q < p) = false := decide_eq_false hqn
     have HS2 := Lib.hid hs.drop
     clear hs hqn hq hp'
     (try dsimp only); repeat' (first | go_values | go_skip | go_guarded | go_step | go_upon | go_back)
     go_loopw [4] (fun i wr => ∃ (y : Nat) (ll' : List Value), y ≤ m ∧ i = .int .i64 y ∧ Sep w0 (Rn 2 68 (.slice la m lc) m ll' :: Cl b1 mc 40 :: L) wr) (fun i _ => m - (intOf i).toNat)
     case atStart => exact ⟨0, ll, Nat.zero_le _, rfl, HS2.out⟩
     case round =>
      obtain ⟨y, ll', hy, rfl, hs⟩ := hrel
      clear HS2 c2
      have y0 : (0 : Int) ≤ (y : Int) := by omega
      have y1 : (y : Int) ≤ 40 := by omega
      have c3 := hs.sw2.cell HM.out.1
      by_cases hyn : y < m
      ·have hd3 : decide (y < m) = true := decide_eq_true hyn
       have y2 : (y : Int) < (m : Int) := by omega
       obtain ⟨bx, kc, hv, hcc, -, -, hxl, hcell, hfr, hset⟩ := hs.rnSet (by omega)
       simp only [Value.slice.injEq] at hv
       obtain ⟨rfl, -, rfl⟩ := hv
       have e1 := hcell (y * 2 + 1) (by omega)
       have f1 := hfr (y * 2 + 1)
       have HS3 := Lib.hid (hset (y * 2 + 1) (.int .i64 (-9)) (by omega))
       generalize (ll'[y * 2 + 1]'(by omega)) = x9 at *
       have HJ := Lib.hid hyn
       clear hs hset hyn hy hxl hcell hfr
       (try dsimp only); repeat' (first | go_values | go_skip | go_guarded | go_step | go_upon | go_back)
       go_roundw
       case rel => exact ⟨y + 1, _, by have := HJ.out; omega, by go_num, HS3.out⟩
       case measure => have := HJ.out; simp [intOf]; omega
      ·have hd3 : decide (y < m) = false := decide_eq_false hyn
       have HS3 := Lib.hid hs.drop.drop
       clear hs hyn hy
       (try dsimp only); repeat' (first | go_values | go_skip | go_guarded | go_step | go_upon | go_back)
       exact bodyPost_end (results_none rfl _ _ _) rfl ⟨rfl, HS3.out⟩
end Go.Proofs.YtcnbmeiielkigaaGreatDoor
/- Two lists of ints held against each other (without sorting). -/
namespace Go.Proofs.YtcnbmeiielkigaaGreatDoor
open Go.RowKit
set_option linter.unusedVariables false
set_option linter.unusedSimpArgs false
theorem take_succ_eq {la lb : List Int} {k : Nat} (h : la.take k = lb.take k) (ha : k < la.length) (hb : k < lb.length) (he : la[k] = lb[k]) : la.take (k + 1) = lb.take (k + 1) := by
 rw [List.take_succ_eq_append_getElem ha, List.take_succ_eq_append_getElem hb, h, he]
set_option maxRecDepth 100000 in
set_option maxHeartbeats 1000000 in
theorem eqInts_sep {w0 w : World} {L : List Thing} (va vb : Value) (la lb : List Int) (hs : Sep w0 L w) (ha : Sl w va (iv .i64 la)) (hb : Sl w vb (iv .i64 lb)) (hl : la.length ≤ 1000000) :
  Calls Tryz.prog 29 #[va, vb] w fun e w' => e = .returned (.bool (la == lb)) ∧ Sep w0 L w' := by
 obtain ⟨aa, ca, rfl⟩ := ha.len
 obtain ⟨ab, cb, rfl⟩ := hb.len
 rw [iv_length] at ha hb ⊢
 rw [iv_length]
 have HA := Lib.hid ha
 have HB := Lib.hid hb
 have HS := Lib.hid hs
 clear ha hb hs
 by_cases hne : la.length = lb.length
 ·have hn : (((la.length : Nat) : Int) != ((lb.length : Nat) : Int)) = false := by simp [hne]
  have hn' : (la.length != lb.length) = false := by simp [hne]
  have HN := Lib.hid hne
  clear hne
  go_enter Tryz.func29, Tryz.ntmps29
  go_wp2_with fail
  go_loopw [5] (fun i wr => ∃ k m : Nat, k ≤ la.length ∧ i = .int .i64 k ∧ la.take k = lb.take k ∧ wr = w.drewN m) (fun i _ => la.length - (intOf i).toNat)
  case atStart => exact ⟨0, 0, by omega, rfl, rfl, rfl⟩
  case round =>
   obtain ⟨k, m, hk, rfl, ht, rfl⟩ := hrel
   have k0 : (0 : Int) ≤ (k : Int) := by omega
   have kb : (k : Int) ≤ 1000000 := by omega
   by_cases hkn : k < la.length
   ·have hd : decide (k < la.length) = true := decide_eq_true hkn
    have hkb : k < lb.length := by have := HN.out; omega
    have hd2 : decide (k < lb.length) = true := decide_eq_true hkb
    obtain ⟨b1, o1, rfl, _, hc1⟩ := HA.out.at (by omega)
    obtain ⟨b2, o2, rfl, _, hc2⟩ := HB.out.at (by omega)
    have c1 := hc1 k _ (iv_get _ la k hkn)
    have c2 := hc2 k _ (iv_get _ lb k hkb)
    have k1 : (k : Int) < (la.length : Int) := by omega
    have k2 : (k : Int) < (lb.length : Int) := by omega
    by_cases he : la[k] = lb[k]
    ·have HT := Lib.hid (take_succ_eq ht hkn hkb he)
     rw [← he] at c2
     have heq : (la[k] != la[k]) = false := by simp
     generalize la[k] = z at c1 c2 heq
     clear ht hc1 hc2 hkn hkb he
     go_wp2_with fail
     go_quiet (fail)
     go_wp2_with fail
     go_roundw
     case rel => exact ⟨k + 1, m + nq, of_decide_eq_true hd, by go_num, HT.out, by simp [World.drewN, Nat.add_assoc]⟩
     case measure => have hkn := of_decide_eq_true hd; simp [intOf]; omega
    ·have hx : (la == lb) = false := by
      rw [beq_eq_false_iff_ne]
      intro e
      subst e
      exact he rfl
     have HX := Lib.hid hx
     have heq : (la[k] != lb[k]) = true := by rw [bne_iff_ne]; exact he
     generalize la[k] = z at c1 heq
     generalize lb[k] = z' at c2 heq
     clear ht hc1 hc2 hkn hkb he hx
     go_wp2_with fail
     go_quiet (fail)
     go_wp2_with fail
     go_ret
     rw [HX.out]
     exact ⟨rfl, (HS.out.drewN m).drewN nq⟩
   ·have hd : decide (k < la.length) = false := decide_eq_false hkn
    have hkl : k = la.length := by omega
    have hx : (la == lb) = true := by
     rw [beq_iff_eq]
     rw [hkl, List.take_length] at ht
     rw [ht, HN.out, List.take_length]
    have HX := Lib.hid hx
    clear ht hkl hkn hx
    go_wp2_with fail
    go_ret
    rw [HX.out]
    exact ⟨rfl, HS.out.drewN m⟩
 ·have hn : (((la.length : Nat) : Int) != ((lb.length : Nat) : Int)) = true := by rw [bne_iff_ne]; omega
  have hn' : (la.length != lb.length) = true := by rw [bne_iff_ne]; exact hne
  have hx : (la == lb) = false := by
   rw [beq_eq_false_iff_ne]
   intro e
   exact hne (by rw [e])
  rw [hx]
  clear hne hx
  go_enter Tryz.func29, Tryz.ntmps29
  go_wp2_with fail
  go_ret
  exact ⟨rfl, HS.out⟩
end Go.Proofs.YtcnbmeiielkigaaGreatDoor
