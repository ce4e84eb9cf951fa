/- Stage 22's laws: cut, of any message. -/
import Derived.Test.YtcnbmeiielkigaaDoorGb2
import Derived.Test.YtcnbmeiielkigaaDoorSlPart
import Derived.Test.YtcnbmeiielkigaaDoorHeldList
namespace Go.Proofs.YtcnbmeiielkigaaDoor
open Go Go.RowKit
set_option linter.unusedVariables false
set_option linter.unusedSimpArgs false
theorem ens_pre {w : World} {a : Option Addr} {n c : Nat} {xs : List (EnM × Value)} (h : EnS w (.slice a n c) xs) (m : Nat) (hm : m ≤ n) : EnS w (.slice a m c) (xs.take m) ∧ (xs.take m).length = m ∧ m ≤ c := by
  rcases h with ⟨a', c', h1, rfl⟩ | ⟨b, off, c', h1, h2, h3, h4, h5⟩
  · simp only [Value.slice.injEq] at h1
    obtain ⟨rfl, rfl, rfl⟩ := h1
    obtain rfl : m = 0 := by omega
    exact ⟨.inl ⟨_, _, rfl, rfl⟩, rfl, Nat.zero_le _⟩
  · simp only [Value.slice.injEq] at h1
    obtain ⟨rfl, rfl, rfl⟩ := h1
    have hl : (xs.take m).length = m := by rw [List.length_take]; omega
    refine ⟨.inr ⟨b, off, c, by rw [hl], by rw [hl]; omega, h3, h4, fun i hi => ?_⟩, hl, by omega⟩
    have := h5 i (by omega)
    rw [List.getElem_take]
    exact this
theorem lns_pre {w : World} {a : Option Addr} {n c : Nat} {ls : List Ln} (h : LnS w (.slice a n c) ls) (m : Nat) (hm : m ≤ n) : LnS w (.slice a m c) (ls.take m) ∧ (ls.take m).length = m ∧ m ≤ c := by
  rcases h with ⟨a', c', he, h1, rfl⟩ | ⟨b, off, c', he, h1, h2, h3, h4⟩
  · simp only [Value.slice.injEq] at he
    obtain ⟨rfl, rfl, rfl⟩ := he
    obtain rfl : m = 0 := by omega
    exact ⟨.inl ⟨_, _, rfl, h1, rfl⟩, rfl, Nat.zero_le _⟩
  · simp only [Value.slice.injEq] at he
    obtain ⟨rfl, rfl, rfl⟩ := he
    have hl : (ls.take m).length = m := by rw [List.length_take]; omega
    refine ⟨.inr ⟨b, off, c, by rw [hl], by rw [hl]; omega, h2, h3, fun i hi => ?_⟩, hl, by omega⟩
    have := h4 i (by omega)
    rw [List.getElem_take]
    exact this
theorem bv_cap {w : World} {a : Option Addr} {n c : Nat} {l : List UInt8} (h : Sl w (.slice a n c) (bv l)) : n ≤ c := by
  rcases h with (⟨h1, h2⟩ | ⟨b, off, cap, h1, h2, h3, h4, h5⟩) | ⟨x, c', h1, h2⟩
  · simp only [Value.slice.injEq] at h1; omega
  · simp only [Value.slice.injEq] at h1; omega
  · simp only [Value.slice.injEq] at h1; omega
theorem min_as (n k : Nat) : ∃ m : Nat, m = min n k ∧ (if (k : Int) < (n : Int) then (k : Int) else (n : Int)) = (m : Int) ∧ m ≤ n ∧ m ≤ k := by
  refine ⟨min n k, rfl, ?_, Nat.min_le_left _ _, Nat.min_le_right _ _⟩
  split <;> omega
set_option maxRecDepth 100000 in
set_option maxHeartbeats 16000000 in
theorem cut22_w {w : World} (g : MgM) (hg : GmS w g) (hb1 : g.ck.length ≤ 9223372036854775807 ∧ g.ps.length ≤ 9223372036854775807) :
    Calls Tryd.prog 18 #[.agg (mgC g)] w fun e w' => ∃ g', e = .returned (.agg (mgC g')) ∧ GmS w g' ∧ g'.ck.length ≤ 50 ∧ g'.ps.length ≤ 8 ∧ g'.en.p.ls.length ≤ 8 ∧ (∀ w9, GmS w9 g → GmS w9 g') ∧ Sep w [] w' := by
  obtain ⟨hg1, hg2, hg3⟩ := hg
  have hlm := lns_maxl hg1
  obtain ⟨la, lc, hlv⟩ := hg1.len
  obtain ⟨ca, cc, hcv⟩ := bv_form hg2
  obtain ⟨ea, ec, hev⟩ := hg3.len
  obtain ⟨gk, gf, gt, gv, go, gcm, gla, ⟨enc, enm, ⟨pk, psx, po, pn, pls⟩⟩, glv, rc, ra, rb, s, ib, ck, cv, ps, ev, ic⟩ := g
  dsimp only at *
  subst hlv hcv hev
  obtain ⟨nl, hnl⟩ : ∃ q, pls.length = q := ⟨_, rfl⟩
  obtain ⟨nk, hnk⟩ : ∃ q, ck.length = q := ⟨_, rfl⟩
  obtain ⟨ne, hne⟩ : ∃ q, ps.length = q := ⟨_, rfl⟩
  rw [hnl] at hg1 hlm ⊢
  rw [hne] at hg3 hb1 ⊢
  obtain ⟨ml, -, hml, hml1, hml2⟩ := min_as nl 8
  obtain ⟨mk, -, hmk, hmk1, hmk2⟩ := min_as nk 50
  obtain ⟨me, -, hme, hme1, hme2⟩ := min_as ne 8
  rw [show ((8 : Nat) : Int) = 8 from rfl] at hml hme
  rw [show ((50 : Nat) : Int) = 50 from rfl] at hmk
  obtain ⟨pl1, pl2, pl3⟩ := lns_pre hg1 ml hml1
  have pk1 := sl_pre hg2 (u := mk) (by rw [hnk]; exact hmk1)
  obtain ⟨pe1, pe2, pe3⟩ := ens_pre hg3 me hme1
  rw [hnk] at hg2 hb1 ⊢
  have pk3 := bv_cap pk1
  have HG := Lib.hid (show GmS w ⟨gk, gf, gt, gv, go, gcm, gla, ⟨enc, enm, ⟨pk, psx, po, pn, pls.take ml⟩⟩, .slice la ml lc, rc, ra, rb, s, ib, ck.take mk, .slice ca mk cc, ps.take me, .slice ea me ec, ic⟩ ∧ (ck.take mk).length ≤ 50 ∧ (ps.take me).length ≤ 8 ∧ (pls.take ml).length ≤ 8 ∧ (∀ w9, GmS w9 ⟨gk, gf, gt, gv, go, gcm, gla, ⟨enc, enm, ⟨pk, psx, po, pn, pls⟩⟩, .slice la nl lc, rc, ra, rb, s, ib, ck, .slice ca nk cc, ps, .slice ea ne ec, ic⟩ → GmS w9 ⟨gk, gf, gt, gv, go, gcm, gla, ⟨enc, enm, ⟨pk, psx, po, pn, pls.take ml⟩⟩, .slice la ml lc, rc, ra, rb, s, ib, ck.take mk, .slice ca mk cc, ps.take me, .slice ea me ec, ic⟩) from ⟨⟨pl1, pk1, pe1⟩, by rw [List.length_take]; omega, by omega, by omega, fun w9 h9 => ⟨(lns_pre h9.1 ml hml1).1, (by have q := h9.2.1; dsimp only at q; rw [← hnk] at q; exact sl_pre q (u := mk) (by rw [hnk]; exact hmk1)), (ens_pre h9.2.2 me hme1).1⟩⟩)
  have h1 := ((Sep.start w).alloc (.cells #[.int .i64 gk, .int .i64 gf, .int .i64 gt, .int .i64 gv, .int .i64 go, .int .i64 gcm, .int .i64 gla, .int .i64 enc, .int .i64 enm, .int .i64 pk, .string psx.1, .int .i64 po, .int .i64 pn, .slice la nl lc, .int .i64 rc, .int .i64 ra, .int .i64 rb, .bool s, .int .i64 ib, .slice ca nk cc, .slice ea ne ec, .int .i64 ic] 43)).alloc (.cells #[.int .i64 0, .int .i64 0, .int .i64 0, .int .i64 0, .int .i64 0, .int .i64 0, .int .i64 0, .int .i64 0, .int .i64 0, .int .i64 0, .string ⟨#[]⟩, .int .i64 0, .int .i64 0, .slice none 0 0, .int .i64 0, .int .i64 0, .int .i64 0, .bool false, .int .i64 0, .slice none 0 0, .slice none 0 0, .int .i64 0] 43)
  rw [show (w.alloc (.cells #[.int .i64 gk, .int .i64 gf, .int .i64 gt, .int .i64 gv, .int .i64 go, .int .i64 gcm, .int .i64 gla, .int .i64 enc, .int .i64 enm, .int .i64 pk, .string psx.1, .int .i64 po, .int .i64 pn, .slice la nl lc, .int .i64 rc, .int .i64 ra, .int .i64 rb, .bool s, .int .i64 ib, .slice ca nk cc, .slice ea ne ec, .int .i64 ic] 43)).heap.size = w.heap.size + 1 by simp] at h1
  obtain ⟨wa, hwa⟩ : ∃ z, z = (w.alloc (.cells #[.int .i64 gk, .int .i64 gf, .int .i64 gt, .int .i64 gv, .int .i64 go, .int .i64 gcm, .int .i64 gla, .int .i64 enc, .int .i64 enm, .int .i64 pk, .string psx.1, .int .i64 po, .int .i64 pn, .slice la nl lc, .int .i64 rc, .int .i64 ra, .int .i64 rb, .bool s, .int .i64 ib, .slice ca nk cc, .slice ea ne ec, .int .i64 ic] 43)).alloc (.cells #[.int .i64 0, .int .i64 0, .int .i64 0, .int .i64 0, .int .i64 0, .int .i64 0, .int .i64 0, .int .i64 0, .int .i64 0, .int .i64 0, .string ⟨#[]⟩, .int .i64 0, .int .i64 0, .slice none 0 0, .int .i64 0, .int .i64 0, .int .i64 0, .bool false, .int .i64 0, .slice none 0 0, .slice none 0 0, .int .i64 0] 43) := ⟨_, rfl⟩
  obtain ⟨b1, hb1'⟩ : ∃ z, z = w.heap.size := ⟨_, rfl⟩
  obtain ⟨b2, hb2⟩ : ∃ z, z = w.heap.size + 1 := ⟨_, rfl⟩
  rw [← hwa, ← hb2, ← hb1'] at h1
  have h2 := h1.sw2
  have D20 := Lib.hid (h2.drew.cell (o := 20) (x := .slice ea ne ec) rfl)
  have D19 := Lib.hid (h2.drew.cell (o := 19) (x := .slice ca nk cc) rfl)
  have f20 := h2.frozen 20
  have d20 := h2.cell (o := 20) (x := .slice ea ne ec) rfl
  have f19 := h2.frozen 19
  have d19 := h2.cell (o := 19) (x := .slice ca nk cc) rfl
  have h3 : Sep w [Cl b1 #[.int .i64 gk, .int .i64 gf, .int .i64 gt, .int .i64 gv, .int .i64 go, .int .i64 gcm, .int .i64 gla, .int .i64 enc, .int .i64 enm, .int .i64 pk, .string psx.1, .int .i64 po, .int .i64 pn, .slice la nl lc, .int .i64 rc, .int .i64 ra, .int .i64 rb, .bool s, .int .i64 ib, .slice ca nk cc, .slice ea me ec, .int .i64 ic] 43, Cl b2 #[.int .i64 0, .int .i64 0, .int .i64 0, .int .i64 0, .int .i64 0, .int .i64 0, .int .i64 0, .int .i64 0, .int .i64 0, .int .i64 0, .string ⟨#[]⟩, .int .i64 0, .int .i64 0, .slice none 0 0, .int .i64 0, .int .i64 0, .int .i64 0, .bool false, .int .i64 0, .slice none 0 0, .slice none 0 0, .int .i64 0] 43] (wa.setCell ⟨b1, 20, none⟩ (.slice ea me ec)) := h2.setCell 20 (.slice ea me ec)
  have D7 := Lib.hid (h3.drew.cell (o := 19) (x := .slice ca nk cc) rfl)
  have h4 : Sep w [Cl b1 #[.int .i64 gk, .int .i64 gf, .int .i64 gt, .int .i64 gv, .int .i64 go, .int .i64 gcm, .int .i64 gla, .int .i64 enc, .int .i64 enm, .int .i64 pk, .string psx.1, .int .i64 po, .int .i64 pn, .slice la nl lc, .int .i64 rc, .int .i64 ra, .int .i64 rb, .bool s, .int .i64 ib, .slice ca mk cc, .slice ea me ec, .int .i64 ic] 43, Cl b2 #[.int .i64 0, .int .i64 0, .int .i64 0, .int .i64 0, .int .i64 0, .int .i64 0, .int .i64 0, .int .i64 0, .int .i64 0, .int .i64 0, .string ⟨#[]⟩, .int .i64 0, .int .i64 0, .slice none 0 0, .int .i64 0, .int .i64 0, .int .i64 0, .bool false, .int .i64 0, .slice none 0 0, .slice none 0 0, .int .i64 0] 43] ((wa.setCell ⟨b1, 20, none⟩ (.slice ea me ec)).setCell ⟨b1, 19, none⟩ (.slice ca mk cc)).drew := (h3.setCell 19 (.slice ca mk cc)).drew
  obtain ⟨w4, hw4⟩ : ∃ z, z = ((wa.setCell ⟨b1, 20, none⟩ (.slice ea me ec)).setCell ⟨b1, 19, none⟩ (.slice ca mk cc)).drew := ⟨_, rfl⟩
  rw [← hw4] at h4
  have e13 := h4.cell (o := 13) (x := .slice la nl lc) rfl
  have g13 := h4.frozen 13
  have h5 : Sep w [Cl b1 #[.int .i64 gk, .int .i64 gf, .int .i64 gt, .int .i64 gv, .int .i64 go, .int .i64 gcm, .int .i64 gla, .int .i64 enc, .int .i64 enm, .int .i64 pk, .string psx.1, .int .i64 po, .int .i64 pn, .slice la ml lc, .int .i64 rc, .int .i64 ra, .int .i64 rb, .bool s, .int .i64 ib, .slice ca mk cc, .slice ea me ec, .int .i64 ic] 43, Cl b2 #[.int .i64 0, .int .i64 0, .int .i64 0, .int .i64 0, .int .i64 0, .int .i64 0, .int .i64 0, .int .i64 0, .int .i64 0, .int .i64 0, .string ⟨#[]⟩, .int .i64 0, .int .i64 0, .slice none 0 0, .int .i64 0, .int .i64 0, .int .i64 0, .bool false, .int .i64 0, .slice none 0 0, .slice none 0 0, .int .i64 0] 43] (w4.setCell ⟨b1, 13, none⟩ (.slice la ml lc)) := h4.setCell 13 (.slice la ml lc)
  obtain ⟨w5, hw5⟩ : ∃ z, z = w4.setCell ⟨b1, 13, none⟩ (.slice la ml lc) := ⟨_, rfl⟩
  rw [← hw5] at h5
  have HL := Lib.hid (h5.loadW 43 Tryd.underlying43 rfl (by kernel_rfl))
  have HT2 := Lib.hid (h5.sw2.thereAt 0 22 (by simp))
  have h6 := h5.sw2.storeW #[.int .i64 gk, .int .i64 gf, .int .i64 gt, .int .i64 gv, .int .i64 go, .int .i64 gcm, .int .i64 gla, .int .i64 enc, .int .i64 enm, .int .i64 pk, .string psx.1, .int .i64 po, .int .i64 pn, .slice la ml lc, .int .i64 rc, .int .i64 ra, .int .i64 rb, .bool s, .int .i64 ib, .slice ca mk cc, .slice ea me ec, .int .i64 ic] rfl
  have HV := Lib.hid (h6.loadV 43 Tryd.underlying43 rfl (by kernel_rfl))
  have H6 := Lib.hid h6.drop.drop
  have ne0 : (0 : Int) ≤ (ne : Int) := by omega
  have nk0 : (0 : Int) ≤ (nk : Int) := by omega
  have nl0 : (0 : Int) ≤ (nl : Int) := by omega
  have me0 : (0 : Int) ≤ (me : Int) := by omega
  have mk0 : (0 : Int) ≤ (mk : Int) := by omega
  have ml0 : (0 : Int) ≤ (ml : Int) := by omega
  have mec : (me : Int) ≤ (ec : Int) := by omega
  have mkc : (mk : Int) ≤ (cc : Int) := by omega
  have mlc : (ml : Int) ≤ (lc : Int) := by omega
  clear h1 h2 h3 h4 h5 h6 hg1 hg2 hg3 pl1 pl2 pk1 pe1 pe2 hnl hnk hne hlm hb1
  unfold mgC
  dsimp only
  go_enter Tryd.func18, Tryd.ntmps18
  (try dsimp only); repeat' (first | go_values | go_skip | go_guarded | go_step | go_upon | go_back)
  rw [← hwa]
  (try rw [← hb2])
  (try rw [← hb1'])
  clear hwa hb2 hb1'
  refine wp_region_H [(20, fun w' => w'.cell? ⟨b1, 20, none⟩ = some (.slice ea ne ec)), (23, fun w' => w'.cell? ⟨b1, 19, none⟩ = some (.slice ca nk cc))] #[false, false, false, false, false, false, false, false, false, false, false, false, false, false, false, false, false, false, false, false, false, false, false, false] (by kernel_rfl) (by kernel_rfl) (by intro p hp; simp only [List.mem_cons, List.not_mem_nil, or_false] at hp; rcases hp with rfl | rfl; exact D20.out; exact D19.out) (fun hS => ?_)
  refine wpAnyH_read (i := 0) (v := ?v0_1cu) 20 (List.mem_cons_self ..) (by kernel_rfl) rfl (by kernel_rfl) (by kernel_rfl) (by kernel_rfl) (by kernel_rfl) (fun _ _ _ h => h) (Or.inl ⟨by rfl, ?hy0_1cu⟩) hS ?rest0_1cu
  case hy0_1cu => intro w hSw; (try dsimp only at hSw); go_simp; (try with_reducible rfl)
  case rest0_1cu =>
  try simp only [List.getElem_toArray, List.getElem_cons_succ, List.getElem_cons_zero, Act.put, List.setIfInBounds_toArray, List.set_cons_zero, List.set_cons_succ]
  refine wpAnyH_read (i := 1) (v := ?v1_2cu) 20 (List.mem_cons_self ..) (by kernel_rfl) rfl (by kernel_rfl) (by kernel_rfl) (by kernel_rfl) (by kernel_rfl) (fun _ _ _ h => h) (Or.inl ⟨by rfl, ?hy1_2cu⟩) hS ?rest1_2cu
  case hy1_2cu => intro w hSw; (try dsimp only at hSw); go_simp; (try with_reducible rfl)
  case rest1_2cu =>
  try simp only [List.getElem_toArray, List.getElem_cons_succ, List.getElem_cons_zero, Act.put, List.setIfInBounds_toArray, List.set_cons_zero, List.set_cons_succ]
  refine wpAnyH_read (i := 2) (v := ?v2_3cu) 20 (List.mem_cons_self ..) (by kernel_rfl) rfl (by kernel_rfl) (by kernel_rfl) (by kernel_rfl) (by kernel_rfl) (fun _ _ _ h => h) (Or.inl ⟨by rfl, ?hy2_3cu⟩) hS ?rest2_3cu
  case hy2_3cu => intro w hSw; (try dsimp only at hSw); go_simp; (try with_reducible rfl)
  case rest2_3cu =>
  try simp only [List.getElem_toArray, List.getElem_cons_succ, List.getElem_cons_zero, Act.put, List.setIfInBounds_toArray, List.set_cons_zero, List.set_cons_succ]
  refine wpAnyH_read (i := 3) (v := ?v3_4cu) 20 (List.mem_cons_self ..) (by kernel_rfl) rfl (by kernel_rfl) (by kernel_rfl) (by kernel_rfl) (by kernel_rfl) (fun _ _ _ h => h) (Or.inl ⟨by rfl, ?hy3_4cu⟩) hS ?rest3_4cu
  case hy3_4cu => intro w hSw; (try dsimp only at hSw); go_simp; (try with_reducible rfl)
  case rest3_4cu =>
  try simp only [List.getElem_toArray, List.getElem_cons_succ, List.getElem_cons_zero, Act.put, List.setIfInBounds_toArray, List.set_cons_zero, List.set_cons_succ]
  refine wpAnyH_read (i := 4) (v := ?v4_5cu) 20 (List.mem_cons_self ..) (by kernel_rfl) rfl (by kernel_rfl) (by kernel_rfl) (by kernel_rfl) (by kernel_rfl) (fun _ _ _ h => h) (Or.inl ⟨by rfl, ?hy4_5cu⟩) hS ?rest4_5cu
  case hy4_5cu => intro w hSw; (try dsimp only at hSw); go_simp; (try with_reducible rfl)
  case rest4_5cu =>
  try simp only [List.getElem_toArray, List.getElem_cons_succ, List.getElem_cons_zero, Act.put, List.setIfInBounds_toArray, List.set_cons_zero, List.set_cons_succ]
  refine wpAnyH_read (i := 5) (v := ?v5_6cu) 20 (List.mem_cons_self ..) (by kernel_rfl) rfl (by kernel_rfl) (by kernel_rfl) (by kernel_rfl) (by kernel_rfl) (fun _ _ _ h => h) (Or.inl ⟨by rfl, ?hy5_6cu⟩) hS ?rest5_6cu
  case hy5_6cu => intro w hSw; (try dsimp only at hSw); go_simp; (try with_reducible rfl)
  case rest5_6cu =>
  try simp only [List.getElem_toArray, List.getElem_cons_succ, List.getElem_cons_zero, Act.put, List.setIfInBounds_toArray, List.set_cons_zero, List.set_cons_succ]
  refine wpAnyH_read (i := 6) (v := ?v6_7cu) 20 (List.mem_cons_self ..) (by kernel_rfl) rfl (by kernel_rfl) (by kernel_rfl) (by kernel_rfl) (by kernel_rfl) (fun _ _ _ h => h) (Or.inl ⟨by rfl, ?hy6_7cu⟩) hS ?rest6_7cu
  case hy6_7cu => intro w hSw; (try dsimp only at hSw); go_simp; (try with_reducible rfl)
  case rest6_7cu =>
  try simp only [List.getElem_toArray, List.getElem_cons_succ, List.getElem_cons_zero, Act.put, List.setIfInBounds_toArray, List.set_cons_zero, List.set_cons_succ]
  refine wpAnyH_read (i := 7) (v := ?v7_8cu) 20 (List.mem_cons_self ..) (by kernel_rfl) rfl (by kernel_rfl) (by kernel_rfl) (by kernel_rfl) (by kernel_rfl) (fun _ _ _ h => h) (Or.inl ⟨by rfl, ?hy7_8cu⟩) hS ?rest7_8cu
  case hy7_8cu => intro w hSw; (try dsimp only at hSw); go_simp; (try with_reducible rfl)
  case rest7_8cu =>
  try simp only [List.getElem_toArray, List.getElem_cons_succ, List.getElem_cons_zero, Act.put, List.setIfInBounds_toArray, List.set_cons_zero, List.set_cons_succ]
  refine wpAnyH_read (i := 8) (v := ?v8_9cu) 20 (List.mem_cons_self ..) (by kernel_rfl) rfl (by kernel_rfl) (by kernel_rfl) (by kernel_rfl) (by kernel_rfl) (fun _ _ _ h => h) (Or.inl ⟨by rfl, ?hy8_9cu⟩) hS ?rest8_9cu
  case hy8_9cu => intro w hSw; (try dsimp only at hSw); go_simp; (try with_reducible rfl)
  case rest8_9cu =>
  try simp only [List.getElem_toArray, List.getElem_cons_succ, List.getElem_cons_zero, Act.put, List.setIfInBounds_toArray, List.set_cons_zero, List.set_cons_succ]
  refine wpAnyH_read (i := 9) (v := ?v9_10cu) 23 (List.mem_cons_of_mem _ (List.mem_cons_self ..)) (by kernel_rfl) rfl (by kernel_rfl) (by kernel_rfl) (by kernel_rfl) (by kernel_rfl) (fun _ _ _ h => h) (Or.inl ⟨by rfl, ?hy9_10cu⟩) hS ?rest9_10cu
  case hy9_10cu => intro w hSw; (try dsimp only at hSw); go_simp; (try with_reducible rfl)
  case rest9_10cu =>
  try simp only [List.getElem_toArray, List.getElem_cons_succ, List.getElem_cons_zero, Act.put, List.setIfInBounds_toArray, List.set_cons_zero, List.set_cons_succ]
  refine wpAnyH_read (i := 10) (v := ?v10_11cu) 23 (List.mem_cons_of_mem _ (List.mem_cons_self ..)) (by kernel_rfl) rfl (by kernel_rfl) (by kernel_rfl) (by kernel_rfl) (by kernel_rfl) (fun _ _ _ h => h) (Or.inl ⟨by rfl, ?hy10_11cu⟩) hS ?rest10_11cu
  case hy10_11cu => intro w hSw; (try dsimp only at hSw); go_simp; (try with_reducible rfl)
  case rest10_11cu =>
  try simp only [List.getElem_toArray, List.getElem_cons_succ, List.getElem_cons_zero, Act.put, List.setIfInBounds_toArray, List.set_cons_zero, List.set_cons_succ]
  refine wpAnyH_read (i := 11) (v := ?v11_12cu) 23 (List.mem_cons_of_mem _ (List.mem_cons_self ..)) (by kernel_rfl) rfl (by kernel_rfl) (by kernel_rfl) (by kernel_rfl) (by kernel_rfl) (fun _ _ _ h => h) (Or.inl ⟨by rfl, ?hy11_12cu⟩) hS ?rest11_12cu
  case hy11_12cu => intro w hSw; (try dsimp only at hSw); go_simp; (try with_reducible rfl)
  case rest11_12cu =>
  try simp only [List.getElem_toArray, List.getElem_cons_succ, List.getElem_cons_zero, Act.put, List.setIfInBounds_toArray, List.set_cons_zero, List.set_cons_succ]
  refine wpAnyH_read (i := 12) (v := ?v12_13cu) 23 (List.mem_cons_of_mem _ (List.mem_cons_self ..)) (by kernel_rfl) rfl (by kernel_rfl) (by kernel_rfl) (by kernel_rfl) (by kernel_rfl) (fun _ _ _ h => h) (Or.inl ⟨by rfl, ?hy12_13cu⟩) hS ?rest12_13cu
  case hy12_13cu => intro w hSw; (try dsimp only at hSw); go_simp; (try with_reducible rfl)
  case rest12_13cu =>
  try simp only [List.getElem_toArray, List.getElem_cons_succ, List.getElem_cons_zero, Act.put, List.setIfInBounds_toArray, List.set_cons_zero, List.set_cons_succ]
  refine wpAnyH_read (i := 13) (v := ?v13_14cu) 23 (List.mem_cons_of_mem _ (List.mem_cons_self ..)) (by kernel_rfl) rfl (by kernel_rfl) (by kernel_rfl) (by kernel_rfl) (by kernel_rfl) (fun _ _ _ h => h) (Or.inl ⟨by rfl, ?hy13_14cu⟩) hS ?rest13_14cu
  case hy13_14cu => intro w hSw; (try dsimp only at hSw); go_simp; (try with_reducible rfl)
  case rest13_14cu =>
  try simp only [List.getElem_toArray, List.getElem_cons_succ, List.getElem_cons_zero, Act.put, List.setIfInBounds_toArray, List.set_cons_zero, List.set_cons_succ]
  refine wpAnyH_read (i := 14) (v := ?v14_15cu) 23 (List.mem_cons_of_mem _ (List.mem_cons_self ..)) (by kernel_rfl) rfl (by kernel_rfl) (by kernel_rfl) (by kernel_rfl) (by kernel_rfl) (fun _ _ _ h => h) (Or.inl ⟨by rfl, ?hy14_15cu⟩) hS ?rest14_15cu
  case hy14_15cu => intro w hSw; (try dsimp only at hSw); go_simp; (try with_reducible rfl)
  case rest14_15cu =>
  try simp only [List.getElem_toArray, List.getElem_cons_succ, List.getElem_cons_zero, Act.put, List.setIfInBounds_toArray, List.set_cons_zero, List.set_cons_succ]
  refine wpAnyH_read (i := 15) (v := ?v15_16cu) 23 (List.mem_cons_of_mem _ (List.mem_cons_self ..)) (by kernel_rfl) rfl (by kernel_rfl) (by kernel_rfl) (by kernel_rfl) (by kernel_rfl) (fun _ _ _ h => h) (Or.inl ⟨by rfl, ?hy15_16cu⟩) hS ?rest15_16cu
  case hy15_16cu => intro w hSw; (try dsimp only at hSw); go_simp; (try with_reducible rfl)
  case rest15_16cu =>
  try simp only [List.getElem_toArray, List.getElem_cons_succ, List.getElem_cons_zero, Act.put, List.setIfInBounds_toArray, List.set_cons_zero, List.set_cons_succ]
  refine wpAnyH_read (i := 16) (v := ?v16_17cu) 23 (List.mem_cons_of_mem _ (List.mem_cons_self ..)) (by kernel_rfl) rfl (by kernel_rfl) (by kernel_rfl) (by kernel_rfl) (by kernel_rfl) (fun _ _ _ h => h) (Or.inl ⟨by rfl, ?hy16_17cu⟩) hS ?rest16_17cu
  case hy16_17cu => intro w hSw; (try dsimp only at hSw); go_simp; (try with_reducible rfl)
  case rest16_17cu =>
  try simp only [List.getElem_toArray, List.getElem_cons_succ, List.getElem_cons_zero, Act.put, List.setIfInBounds_toArray, List.set_cons_zero, List.set_cons_succ]
  refine wpAnyH_read (i := 17) (v := ?v17_18cu) 23 (List.mem_cons_of_mem _ (List.mem_cons_self ..)) (by kernel_rfl) rfl (by kernel_rfl) (by kernel_rfl) (by kernel_rfl) (by kernel_rfl) (fun _ _ _ h => h) (Or.inl ⟨by rfl, ?hy17_18cu⟩) hS ?rest17_18cu
  case hy17_18cu => intro w hSw; (try dsimp only at hSw); go_simp; (try with_reducible rfl)
  case rest17_18cu =>
  try simp only [List.getElem_toArray, List.getElem_cons_succ, List.getElem_cons_zero, Act.put, List.setIfInBounds_toArray, List.set_cons_zero, List.set_cons_succ]
  refine wpAnyH_read (i := 18) (v := ?v18_19cu) 23 (List.mem_cons_of_mem _ (List.mem_cons_self ..)) (by kernel_rfl) rfl (by kernel_rfl) (by kernel_rfl) (by kernel_rfl) (by kernel_rfl) (fun _ _ _ h => h) (Or.inl ⟨by rfl, ?hy18_19cu⟩) hS ?rest18_19cu
  case hy18_19cu => intro w hSw; (try dsimp only at hSw); go_simp; (try with_reducible rfl)
  case rest18_19cu =>
  try simp only [List.getElem_toArray, List.getElem_cons_succ, List.getElem_cons_zero, Act.put, List.setIfInBounds_toArray, List.set_cons_zero, List.set_cons_succ]
  refine wpAnyH_read (i := 19) (v := ?v19_20cu) 23 (List.mem_cons_of_mem _ (List.mem_cons_self ..)) (by kernel_rfl) rfl (by kernel_rfl) (by kernel_rfl) (by kernel_rfl) (by kernel_rfl) (fun _ _ _ h => h) (Or.inl ⟨by rfl, ?hy19_20cu⟩) hS ?rest19_20cu
  case hy19_20cu => intro w hSw; (try dsimp only at hSw); go_simp; (try with_reducible rfl)
  case rest19_20cu =>
  try simp only [List.getElem_toArray, List.getElem_cons_succ, List.getElem_cons_zero, Act.put, List.setIfInBounds_toArray, List.set_cons_zero, List.set_cons_succ]
  refine wpAnyH_one (i := 20) (by kernel_rfl) rfl (fun K hK => ?_)
  go_simp
  refine hK.out _ _ ?hS21cu ?rest21cu
  case hS21cu => (intro p hp hl; simp only [List.mem_cons, List.not_mem_nil, or_false] at hp; rcases hp with rfl | rfl; (exact absurd (hl.symm.trans (by kernel_rfl)) Bool.false_ne_true); exact D7.out)
  case rest21cu =>
  clear K hK
  try simp only [List.getElem_toArray, List.getElem_cons_succ, List.getElem_cons_zero, Act.put, List.setIfInBounds_toArray, List.set_cons_zero, List.set_cons_succ]
  refine wpAnyH_one (i := 21) (by kernel_rfl) rfl (fun K hK => ?_)
  go_simp
  refine hK.out _ _ ?hS22cu ?rest22cu
  case hS22cu => (intro p hp hl; simp only [List.mem_cons, List.not_mem_nil, or_false] at hp; rcases hp with rfl | rfl; (exact absurd (hl.symm.trans (by kernel_rfl)) Bool.false_ne_true); exact D7.out)
  case rest22cu =>
  clear K hK
  try simp only [List.getElem_toArray, List.getElem_cons_succ, List.getElem_cons_zero, Act.put, List.setIfInBounds_toArray, List.set_cons_zero, List.set_cons_succ]
  refine wpAnyH_one (i := 22) (by kernel_rfl) rfl (fun K hK => ?_)
  go_simp
  refine hK.out _ _ ?hS23cu ?rest23cu
  case hS23cu => (intro p hp hl; simp only [List.mem_cons, List.not_mem_nil, or_false] at hp; rcases hp with rfl | rfl; (exact absurd (hl.symm.trans (by kernel_rfl)) Bool.false_ne_true); exact D7.out)
  case rest23cu =>
  clear K hK
  try simp only [List.getElem_toArray, List.getElem_cons_succ, List.getElem_cons_zero, Act.put, List.setIfInBounds_toArray, List.set_cons_zero, List.set_cons_succ]
  refine wpAnyH_one (i := 23) (by kernel_rfl) rfl (fun K hK => ?_)
  go_simp
  refine hK.out _ _ ?hS24cu ?rest24cu
  case hS24cu => (intro p hp hl; simp only [List.mem_cons, List.not_mem_nil, or_false] at hp; rcases hp with rfl | rfl; (exact absurd (hl.symm.trans (by kernel_rfl)) Bool.false_ne_true); (exact absurd (hl.symm.trans (by kernel_rfl)) Bool.false_ne_true))
  case rest24cu =>
  clear K hK
  try simp only [List.getElem_toArray, List.getElem_cons_succ, List.getElem_cons_zero, Act.put, List.setIfInBounds_toArray, List.set_cons_zero, List.set_cons_succ]
  refine wpAnyH_done (by kernel_rfl) ?_ _
  try simp only [List.getElem_toArray, List.getElem_cons_succ, List.getElem_cons_zero, Act.put, List.setIfInBounds_toArray, List.set_cons_zero, List.set_cons_succ]
  rw [← hw4]
  clear hw4 d20 f20 d19 f19 D7 D19 D20
  (try dsimp only); repeat' (first | (with_reducible show wpList _ _ _ (Oper.mk _ (Op.load 43 _) _ _ _ _ :: _) _ _; refine stopP ?_) | go_values | go_skip | go_guarded | go_step | go_upon | go_back)
  rw [← hw5]
  clear hw5 e13 g13
  unfold StopP
  have hq_ := HL.out
  refine wpList_load_run rfl 43 _ rfl _ _ rfl hq_ ?_
  clear hq_
  (try dsimp only); repeat' (first | (with_reducible show wpList _ _ _ (Oper.mk _ (Op.store 43 _ _) _ _ _ _ :: _) _ _; refine stopP ?_) | go_values | go_skip | go_guarded | go_step | go_upon | go_back)
  unfold StopP
  refine wpList_store_mid rfl 43 (.tmp 2) (.tmp 39) rfl b2 0 #[.int .i64 gk, .int .i64 gf, .int .i64 gt, .int .i64 gv, .int .i64 go, .int .i64 gcm, .int .i64 gla, .int .i64 enc, .int .i64 enm, .int .i64 pk, .string psx.1, .int .i64 po, .int .i64 pn, .slice la ml lc, .int .i64 rc, .int .i64 ra, .int .i64 rb, .bool s, .int .i64 ib, .slice ca mk cc, .slice ea me ec, .int .i64 ic] rfl rfl HT2.out (by kernel_rfl) (by kernel_rfl) ?_
  (try dsimp only); repeat' (first | go_values | go_skip | go_guarded | go_step | go_upon | go_back)
  exact bodyPost_ret (results_cell rfl rfl HV.out) rfl ⟨_, rfl, HG.out.1, HG.out.2.1, HG.out.2.2.1, HG.out.2.2.2.1, HG.out.2.2.2.2, H6.out⟩
end Go.Proofs.YtcnbmeiielkigaaDoor
