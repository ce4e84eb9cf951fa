/- Package msg: readRes, readImage. -/
import Derived.Test.YtafkbodmiblbnaaDoorMZ38
namespace Go.Proofs.YtafkbodmiblbnaaDoor
open Go Go.RowKit
set_option linter.unusedVariables false
set_option linter.unusedSimpArgs false
theorem wr_rs (g : MgM) (a b c : Int) : writeAt (mgC g) 14 [.int .i64 a, .int .i64 b, .int .i64 c] = mgC { g with rc := a, ra := b, rb := c } := by
  simp [writeAt, mgC]
set_option maxRecDepth 100000 in
set_option maxHeartbeats 16000000 in
theorem rdres_any {w0 w : World} {L : List Thing} {gr bm : Nat} (s : RS) (h : RdS w0 L gr bm s w) (hk : ∀ wx, Sep w0 L wx → KindsAt wx ∧ MKindsAt wx) (hl : s.r.length ≤ 1000000) :
    Calls Tryd.prog 33 #[.pointer (some ⟨gr, 0, none⟩), .pointer (some ⟨bm, 0, none⟩)] w fun e w' => e = .returned (.int .i64 (stRes s).2) ∧ RdS w0 L gr bm (stRes s).1 w' := by
  obtain ⟨g, hx, h⟩ := h
  obtain ⟨r, e, x⟩ := s
  dsimp only at hx h
  subst hx
  obtain ⟨has, hhas⟩ : ∃ z, z = mfieldsOf g.k := ⟨_, rfl⟩
  have hF := mfields_any g.k w (hk w h.drop.drop.drop.drop.drop).2
  rw [← hhas] at hF
  have HF := Lib.hid hF
  have c0 : w.cell? ⟨bm, 0, none⟩ = some (.int .i64 g.k) := h.sw2.cell rfl
  have hl : r.length ≤ 1000000 := hl
  have HERR : Hid (∀ rx (ex : Int) wx M, Sep w0 (RdrT gr rx ex :: M) wx → Calls Tryd.prog 56 #[.pointer (some ⟨gr, 0, none⟩)] wx fun r w' => r = .returned (.int .i64 ex) ∧ wx = w') := Lib.hid fun rx ex wx M hx => rerr_sep hx
  by_cases k64 : bit has 64 = true
  · have b64 := bit_t k64
    obtain ⟨t, r1, e1, hA⟩ : ∃ t r' e', rdTe r e = (t, r', e') := ⟨_, _, _, rfl⟩
    have HT := Lib.hid (rtxt_of hA h (by omega))
    have htl := (tt_of hA).1
    by_cases he : e1 = 0
    · subst he
      obtain ⟨n1, r2, e2, hB⟩ : ∃ n' r' e', rdNe r1 0 = (n', r', e') := ⟨_, _, _, rfl⟩
      obtain ⟨q, hq⟩ : ∃ q, q = stRes ⟨r, e, g.x⟩ := ⟨_, rfl⟩
      have hq2 : q = if (prsRes t).2 ≠ 0 then (⟨r1, 0, { g.x with rc := (prsRes t).1.1, ra := (prsRes t).1.2.1, rb := (prsRes t).1.2.2 }⟩, (prsRes t).2) else
          if 1 < n1 then (⟨r2, e2, { g.x with rc := (prsRes t).1.1, ra := (prsRes t).1.2.1, rb := (prsRes t).1.2.2 }⟩, 4) else (⟨r2, e2, { g.x with rc := (prsRes t).1.1, ra := (prsRes t).1.2.1, rb := (prsRes t).1.2.2, s := decide (n1 = 1) }⟩, e2) := by
        rw [hq]
        unfold stRes
        dsimp only
        rw [show mfieldsOf g.x.k = has from hhas.symm, if_pos k64, hA]
        dsimp only
        rw [if_neg (by simp)]
        unfold stRes2
        rw [hB]
      have HQ := Lib.hid hq2
      have HTL := Lib.hid (show t.length ≤ 1000000 by omega)
      have HN1 : Hid (∀ M wx, Sep w0 (RdrT gr r1 0 :: M) wx → Calls Tryd.prog 55 #[.pointer (some ⟨gr, 0, none⟩), .int .i64 8] wx fun r w' => r = .returned (.int .u64 n1) ∧ Sep w0 (RdrT gr r2 e2 :: M) w') := Lib.hid fun M wx hx => rnum_of hB hx
      have HNL := Lib.hid (lt_of hB).1
      rw [← hq]
      clear h hk hF hq hq2 hA hB hhas k64 hl htl
      go_enter Tryd.func33, Tryd.ntmps33
      (try dsimp only); repeat' (first | go_values | go_skip | go_guarded | go_step | go_upon | go_back)
      refine HF.out.mono ?_
      rintro r0 w1 ⟨rfl, rfl⟩
      clear HF c0
      (try dsimp only); repeat' (first | go_values | go_skip | go_guarded | go_step | go_upon | go_back)
      refine HT.out.mono ?_
      rintro r0 w2 ⟨v, rfl, h2⟩
      obtain ⟨va, vc, rfl⟩ := h2.sl.len
      have HE1 := Lib.hid (HERR.out _ _ _ _ h2.sw2)
      have H2 := Lib.hid h2
      clear HT h2
      (try dsimp only); repeat' (first | go_values | go_skip | go_guarded | go_step | go_upon | go_back)
      refine HE1.out.mono ?_
      rintro r0 w3 ⟨rfl, rfl⟩
      have HP := Lib.hid (parseRes_any _ t H2.out H2.out.sl HTL.out)
      clear HE1 H2
      (try dsimp only); repeat' (first | go_values | go_skip | go_guarded | go_step | go_upon | go_back)
      refine HP.out.mono ?_
      rintro r0 w4 ⟨⟨pa, pb, pc⟩, er, rfl, hp, h4⟩
      dsimp only
      have h5 : Sep w0 (Cl bm (mgC g) 39 :: RdrT gr r1 0 :: LnR g.lv g.en.p.ls :: By g.cv g.ck :: EnT g.ev g.ps :: L) w4 := h4.pickL (M := [_, _, _, _, _, _]) [2, 1, 3, 4, 5] rfl
      have HTH := Lib.hid (h5.thereAt 14 3 (by show 17 ≤ 22; omega))
      have h6 := Sep.setCells [.int .i64 pa, .int .i64 pb, .int .i64 pc] _ 14 _ h5
      rw [wr_rs] at h6
      obtain ⟨w5, hw5⟩ : ∃ z, z = w4.setCells bm 14 [.int .i64 pa, .int .i64 pb, .int .i64 pc] := ⟨_, rfl⟩
      rw [← hw5] at h6
      have hq3 : q = if er ≠ 0 then (⟨r1, 0, { g.x with rc := pa, ra := pb, rb := pc }⟩, er) else
          if 1 < n1 then (⟨r2, e2, { g.x with rc := pa, ra := pb, rb := pc }⟩, 4) else (⟨r2, e2, { g.x with rc := pa, ra := pb, rb := pc, s := decide (n1 = 1) }⟩, e2) := by
        rw [HQ.out, ← hp]
      have H6 := Lib.hid h6.sw2
      clear HP h4 h5 h6 hp HQ
      (try dsimp only); repeat' (first | (with_reducible show wpList _ _ _ (Oper.mk _ (Op.store 34 _ _) _ _ _ _ :: _) _ _; refine stopP ?_) | go_values | go_skip | go_guarded | go_step | go_upon | go_back)
      unfold StopP
      refine wpList_store_mid rfl 34 (.tmp 28) (.tmp 25) rfl bm 14 #[.int .i64 pa, .int .i64 pb, .int .i64 pc] rfl rfl HTH.out (by kernel_rfl) (by first | kernel_rfl | assumption) ?_
      show wpList _ _ _ _ _ (w4.setCells bm 14 [.int .i64 pa, .int .i64 pb, .int .i64 pc])
      rw [← hw5]
      clear hw5 HTH
      by_cases her : er = 0
      · subst her
        rw [if_neg (by simp)] at hq3
        have HN2 := Lib.hid (HN1.out _ _ H6.out)
        have b0 : (0 : Int) ≤ (n1 : Int) := by omega
        have b1 : (n1 : Int) ≤ 255 := by have := HNL.out; omega
        have HQ3 := Lib.hid hq3
        clear hq3 HN1 H6
        (try dsimp only); repeat' (first | go_values | go_skip | go_guarded | go_step | go_upon | go_back)
        refine HN2.out.mono ?_
        rintro r0 w6 ⟨rfl, h6⟩
        clear HN2
        by_cases hn : 1 < n1
        · have HS : Hid (q.2 = 4 ∧ RdS w0 L gr bm q.1 w6) := Lib.hid (by
            rw [HQ3.out, if_pos hn]
            exact ⟨rfl, { g with rc := pa, ra := pb, rb := pc }, rfl, h6⟩)
          have d0 : decide (1 < (n1 : Int)) = true := decide_eq_true (by omega)
          have d1 : (1 : Int) < (n1 : Int) := by omega
          clear h6 hn HQ3
          (try dsimp only); repeat' (first | go_values | go_skip | go_guarded | go_step | go_upon | go_back)
          go_ret
          exact ⟨congrArg (fun z => Ending.returned (.int .i64 z)) HS.out.1.symm, HS.out.2⟩
        · have x0 : w6.cell? ⟨bm, 17, none⟩ = some (.bool g.s) := h6.sw2.cell rfl
          have f0 := h6.sw2.frozen 17
          have h7 := h6.sw2.setCell 17 (.bool (decide (n1 = 1)))
          rw [show (mgC { g with rc := pa, ra := pb, rb := pc }).setIfInBounds 17 (.bool (decide (n1 = 1))) = mgC { g with rc := pa, ra := pb, rb := pc, s := decide (n1 = 1) } from rfl] at h7
          have HS : Hid (q.2 = e2 ∧ RdS w0 L gr bm q.1 (w6.setCell ⟨bm, 17, none⟩ (.bool (decide (n1 = 1))))) := Lib.hid (by
            rw [HQ3.out, if_neg hn]
            exact ⟨rfl, { g with rc := pa, ra := pb, rb := pc, s := decide (n1 = 1) }, rfl, h7.sw2⟩)
          have HE2 := Lib.hid (HERR.out _ _ _ _ h7.sw2)
          have d0 : decide (1 < (n1 : Int)) = false := decide_eq_false (by omega)
          have d1 : ¬ (1 : Int) < (n1 : Int) := by omega
          have hc : n1 = 0 ∨ n1 = 1 := by omega
          clear h6 h7 hn HQ3
          rcases hc with rfl | rfl
          · rw [show ((0 : Nat) : Int) = 0 from rfl]
            rw [show decide ((0 : Nat) = 1) = false from rfl] at HS HE2
            clear d0 d1
            (try dsimp only); repeat' (first | go_values | go_skip | go_guarded | go_step | go_upon | go_back)
            refine HE2.out.mono ?_
            rintro r0 w7 ⟨rfl, rfl⟩
            clear HE2 x0 f0
            (try dsimp only); repeat' (first | go_values | go_skip | go_guarded | go_step | go_upon | go_back)
            go_ret
            exact ⟨congrArg (fun z => Ending.returned (.int .i64 z)) HS.out.1.symm, HS.out.2⟩
          · rw [show ((1 : Nat) : Int) = 1 from rfl]
            rw [show decide ((1 : Nat) = 1) = true from rfl] at HS HE2
            clear d0 d1
            (try dsimp only); repeat' (first | go_values | go_skip | go_guarded | go_step | go_upon | go_back)
            refine HE2.out.mono ?_
            rintro r0 w7 ⟨rfl, rfl⟩
            clear HE2 x0 f0
            (try dsimp only); repeat' (first | go_values | go_skip | go_guarded | go_step | go_upon | go_back)
            go_ret
            exact ⟨congrArg (fun z => Ending.returned (.int .i64 z)) HS.out.1.symm, HS.out.2⟩
      · have hne : (er != 0) = true := by rw [bne_iff_ne]; exact her
        have hne2 : (er == 0) = false := beq_eq_false_iff_ne.2 her
        have HS : Hid (q.2 = er ∧ RdS w0 L gr bm q.1 w5) := Lib.hid (by
          rw [hq3, if_pos her]
          exact ⟨rfl, { g with rc := pa, ra := pb, rb := pc }, rfl, H6.out⟩)
        clear hq3 her H6 HN1
        (try dsimp only); repeat' (first | go_values | go_skip | go_guarded | go_step | go_upon | go_back)
        go_ret
        exact ⟨congrArg (fun z => Ending.returned (.int .i64 z)) HS.out.1.symm, HS.out.2⟩
    · have hne : (e1 != 0) = true := by rw [bne_iff_ne]; exact he
      have hne2 : (e1 == 0) = false := beq_eq_false_iff_ne.2 he
      have hq : stRes ⟨r, e, g.x⟩ = (⟨r1, e1, g.x⟩, e1) := by
        unfold stRes
        dsimp only
        rw [show mfieldsOf g.x.k = has from hhas.symm, if_pos k64, hA]
        dsimp only
        rw [if_pos he]
      rw [hq]
      dsimp only
      clear h hk hF hq hA hhas k64 hl htl he
      go_enter Tryd.func33, Tryd.ntmps33
      (try dsimp only); repeat' (first | go_values | go_skip | go_guarded | go_step | go_upon | go_back)
      refine HF.out.mono ?_
      rintro r0 w1 ⟨rfl, rfl⟩
      clear HF c0
      (try dsimp only); repeat' (first | go_values | go_skip | go_guarded | go_step | go_upon | go_back)
      refine HT.out.mono ?_
      rintro r0 w2 ⟨v, rfl, h2⟩
      obtain ⟨va, vc, rfl⟩ := h2.sl.len
      have HE1 := Lib.hid (HERR.out _ _ _ _ h2.sw2)
      have HS : Hid (RdS w0 L gr bm ⟨r1, e1, g.x⟩ w2) := Lib.hid ⟨g, rfl, h2.drop⟩
      clear HT h2
      (try dsimp only); repeat' (first | go_values | go_skip | go_guarded | go_step | go_upon | go_back)
      refine HE1.out.mono ?_
      rintro r0 w3 ⟨rfl, rfl⟩
      (try dsimp only); repeat' (first | go_values | go_skip | go_guarded | go_step | go_upon | go_back)
      refine HE1.out.mono ?_
      rintro r0 w4 ⟨rfl, rfl⟩
      clear HE1
      (try dsimp only); repeat' (first | go_values | go_skip | go_guarded | go_step | go_upon | go_back)
      go_ret
      exact ⟨rfl, HS.out⟩
  · have b64 := bit_f (by simpa using k64)
    have hq : stRes ⟨r, e, g.x⟩ = (⟨r, e, g.x⟩, 0) := by
      unfold stRes
      dsimp only
      rw [show mfieldsOf g.x.k = has from hhas.symm, if_neg k64]
    rw [hq]
    dsimp only
    have HS : Hid (RdS w0 L gr bm ⟨r, e, g.x⟩ w) := Lib.hid ⟨g, rfl, h⟩
    clear h hk hF hq hhas k64 hl
    go_enter Tryd.func33, Tryd.ntmps33
    (try dsimp only); repeat' (first | go_values | go_skip | go_guarded | go_step | go_upon | go_back)
    refine HF.out.mono ?_
    rintro r0 w1 ⟨rfl, rfl⟩
    clear HF c0
    (try dsimp only); repeat' (first | go_values | go_skip | go_guarded | go_step | go_upon | go_back)
    go_ret
    exact ⟨rfl, HS.out⟩
set_option maxRecDepth 100000 in
set_option maxHeartbeats 16000000 in
theorem rdimg_any {w0 w : World} {L : List Thing} {gr bm : Nat} (s : RS) (h : RdS w0 L gr bm s w) (hk : ∀ wx, Sep w0 L wx → KindsAt wx ∧ MKindsAt wx) (hl : s.r.length ≤ 1000000) :
    Calls Tryd.prog 34 #[.pointer (some ⟨gr, 0, none⟩), .pointer (some ⟨bm, 0, none⟩)] w fun e w' => e = .returned (.int .i64 (stImage s).2) ∧ RdS w0 L gr bm (stImage s).1 w' := by
  obtain ⟨g, hx, h⟩ := h
  obtain ⟨r, e, x⟩ := s
  dsimp only at hx h
  subst hx
  obtain ⟨has, hhas⟩ : ∃ z, z = mfieldsOf g.k := ⟨_, rfl⟩
  have hF := mfields_any g.k w (hk w h.drop.drop.drop.drop.drop).2
  rw [← hhas] at hF
  have HF := Lib.hid hF
  have c0 : w.cell? ⟨bm, 0, none⟩ = some (.int .i64 g.k) := h.sw2.cell rfl
  have HK := Lib.hid hk
  have hl : r.length ≤ 1000000 := hl
  have HERR : Hid (∀ rx (ex : Int) wx M, Sep w0 (RdrT gr rx ex :: M) wx → Calls Tryd.prog 56 #[.pointer (some ⟨gr, 0, none⟩)] wx fun r w' => r = .returned (.int .i64 ex) ∧ wx = w') := Lib.hid fun rx ex wx M hx => rerr_sep hx
  by_cases k128 : bit has 128 = true
  · have b128 := bit_t k128
    obtain ⟨n1, r1, e1, hA⟩ : ∃ n' r' e', rdVe r e = (n', r', e') := ⟨_, _, _, rfl⟩
    obtain ⟨n2, r2, e2, hB⟩ : ∃ n' r' e', rdVe r1 e1 = (n', r', e') := ⟨_, _, _, rfl⟩
    obtain ⟨t3, r3, e3, hC⟩ : ∃ n' r' e', rdTe r2 e2 = (n', r', e') := ⟨_, _, _, rfl⟩
    obtain ⟨t4, r4, e4, hD⟩ : ∃ n' r' e', rdTe r3 e3 = (n', r', e') := ⟨_, _, _, rfl⟩
    have l1 := (vt_of hA).2
    have l2 := (vt_of hB).2
    have l3 := tt_of hC
    have l4 := tt_of hD
    have a1 := (vt_of hA).1
    have a2 := (vt_of hB).1
    have b1 : (0 : Int) ≤ (n1 : Int) := by omega
    have b2 : (0 : Int) ≤ (n2 : Int) := by omega
    have b3 : (n1 : Int) ≤ 18446744073709551615 := by omega
    have b4 : (n2 : Int) ≤ 18446744073709551615 := by omega
    obtain ⟨q, hq⟩ : ∃ q, q = stImage ⟨r, e, g.x⟩ := ⟨_, rfl⟩
    have hq2 : q = if e4 ≠ 0 then (⟨r4, e4, { g.x with ib := wrap64 n1, ic := wrap64 n2, ck := t3 }⟩, e4) else (⟨r4, e4, { g.x with ib := wrap64 n1, ic := wrap64 n2, ck := t3, es := (rwsOf t4).1 }⟩, (rwsOf t4).2) := by
      rw [hq]
      unfold stImage
      dsimp only
      rw [show mfieldsOf g.x.k = has from hhas.symm, if_pos k128, hA]
      dsimp only
      rw [hB]
      dsimp only
      rw [hC]
      dsimp only
      unfold stImg2
      rw [hD, ← i64w_eq, ← i64w_eq]
    have HQ := Lib.hid hq2
    have HV1 := Lib.hid (rvar_of hA h)
    have HV2 : Hid (∀ M wx, Sep w0 (RdrT gr r1 e1 :: M) wx → Calls Tryd.prog 57 #[.pointer (some ⟨gr, 0, none⟩)] wx fun r w' => r = .returned (.int .u64 n2) ∧ Sep w0 (RdrT gr r2 e2 :: M) w') := Lib.hid fun M wx hx => rvar_of hB hx
    have HT3 : Hid (∀ M wx, Sep w0 (RdrT gr r2 e2 :: M) wx → Calls Tryd.prog 58 #[.pointer (some ⟨gr, 0, none⟩)] wx fun r w' => ∃ v', r = .returned v' ∧ Sep w0 (By v' t3 :: RdrT gr r3 e3 :: M) w') := Lib.hid fun M wx hx => rtxt_of hC hx (by omega)
    have HT4 : Hid (∀ M wx, Sep w0 (RdrT gr r3 e3 :: M) wx → Calls Tryd.prog 58 #[.pointer (some ⟨gr, 0, none⟩)] wx fun r w' => ∃ v', r = .returned v' ∧ Sep w0 (By v' t4 :: RdrT gr r4 e4 :: M) w') := Lib.hid fun M wx hx => rtxt_of hD hx (by omega)
    have HTL := Lib.hid (show t4.length ≤ 1000000 by omega)
    rw [← hq]
    clear h hk hF hq hq2 hA hB hC hD hhas k128 hl l1 l2 l3 l4 a1 a2
    go_enter Tryd.func34, Tryd.ntmps34
    (try dsimp only); repeat' (first | go_values | go_skip | go_guarded | go_step | go_upon | go_back)
    refine HF.out.mono ?_
    rintro r0 w1 ⟨rfl, rfl⟩
    clear HF c0
    (try dsimp only); repeat' (first | go_values | go_skip | go_guarded | go_step | go_upon | go_back)
    refine HV1.out.mono ?_
    rintro r0 w2 ⟨rfl, h2⟩
    have H2 := Lib.hid h2
    clear HV1 h2
    (try dsimp only); repeat' (first | go_values | go_skip | go_guarded | go_step | go_upon | go_back)
    refine (HV2.out _ _ H2.out).mono ?_
    rintro r0 w3 ⟨rfl, h3⟩
    have x0 : w3.cell? ⟨bm, 18, none⟩ = some (.int .i64 g.ib) := h3.sw2.cell rfl
    have x1 : w3.cell? ⟨bm, 21, none⟩ = some (.int .i64 g.ic) := h3.sw2.cell rfl
    have f0 := h3.sw2.frozen 18
    have f1 := h3.sw2.frozen 21
    have h4 := (h3.sw2.setCell 18 (.int .i64 (wrap64 n1))).setCell 21 (.int .i64 (wrap64 n2))
    rw [show ((mgC g).setIfInBounds 18 (.int .i64 (wrap64 n1))).setIfInBounds 21 (.int .i64 (wrap64 n2)) = mgC { g with ib := wrap64 n1, ic := wrap64 n2 } from rfl] at h4
    obtain ⟨w4, hw4⟩ : ∃ z, z = (w3.setCell ⟨bm, 18, none⟩ (.int .i64 (wrap64 n1))).setCell ⟨bm, 21, none⟩ (.int .i64 (wrap64 n2)) := ⟨_, rfl⟩
    rw [← hw4] at h4
    have HT3' := Lib.hid (HT3.out _ _ h4.sw2)
    clear HV2 H2 h3 h4 HT3
    (try dsimp only); repeat' (first | go_values | go_skip | go_guarded | go_step | go_upon | go_back)
    rw [← hw4]
    clear hw4 x0 x1 f0 f1
    generalize wrap64 (n1 : Int) = ra at *
    generalize wrap64 (n2 : Int) = rb at *
    refine HT3'.out.mono ?_
    rintro r0 w5 ⟨v3, rfl, h5⟩
    obtain ⟨va, vc, rfl⟩ := h5.sl.len
    obtain ⟨vn, hvn⟩ : ∃ z, z = (bv t3).length := ⟨_, rfl⟩
    rw [← hvn] at h5 ⊢
    have h5q : Sep w0 (Cl bm (mgC { g with ib := ra, ic := rb }) 39 :: RdrT gr r3 e3 :: LnR g.lv g.en.p.ls :: By (.slice va vn vc) t3 :: EnT g.ev g.ps :: L) w5 := h5.pickL (M := [_, _, _, _, _, _]) [2, 1, 3, 0, 5] rfl
    have hcl := (h5.pickL (M := [_, _, _, _, _, _]) [4, 2, 1] rfl : Sep w0 (By g.cv g.ck :: Cl bm (mgC { g with ib := ra, ic := rb }) 39 :: RdrT gr r3 e3 :: L) w5)
    have x0 : w5.cell? ⟨bm, 19, none⟩ = some g.cv := h5q.cell rfl
    have f0 := h5q.frozen 19
    have h6 := h5q.setCell 19 (.slice va vn vc)
    rw [show (mgC { g with ib := ra, ic := rb }).setIfInBounds 19 (.slice va vn vc) = mgC { g with ib := ra, ic := rb, ck := t3, cv := .slice va vn vc } from rfl] at h6
    obtain ⟨ga, gn, gc, hgcv⟩ : ∃ a n c, g.cv = .slice a n c := by
      obtain ⟨a, c, e⟩ := hcl.sl.len
      exact ⟨_, _, _, e⟩
    rw [hgcv] at x0
    obtain ⟨w6, hw6⟩ : ∃ z, z = w5.setCell ⟨bm, 19, none⟩ (.slice va vn vc) := ⟨_, rfl⟩
    rw [← hw6] at h6
    have HT4' := Lib.hid (HT4.out _ _ h6.sw2)
    clear HT3' h5 h5q hcl h6 hvn hgcv HT4
    (try dsimp only); repeat' (first | go_values | go_skip | go_guarded | go_step | go_upon | go_back)
    rw [← hw6]
    clear hw6 x0 f0
    refine HT4'.out.mono ?_
    rintro r0 w7 ⟨v4, rfl, h7⟩
    obtain ⟨ua, uc, rfl⟩ := h7.sl.len
    have HE := Lib.hid (HERR.out _ _ _ _ h7.sw2)
    have H7 := Lib.hid h7
    clear HT4' h7
    by_cases he : e4 = 0
    · subst he
      have hq3 := HQ.out
      rw [if_neg (by simp)] at hq3
      (try dsimp only); repeat' (first | go_values | go_skip | go_guarded | go_step | go_upon | go_back)
      refine HE.out.mono ?_
      rintro r0 w8 ⟨rfl, rfl⟩
      have HR := Lib.hid (rows_any _ t4 H7.out H7.out.sl (HK.out _ H7.out.drop.drop.drop.drop.drop.drop).1 HTL.out)
      have HQ3 := Lib.hid hq3
      clear HE H7 hq3 HQ
      (try dsimp only); repeat' (first | go_values | go_skip | go_guarded | go_step | go_upon | go_back)
      refine HR.out.mono ?_
      rintro r0 w8 ⟨qs, u, rfl, hqs, h8⟩
      obtain ⟨ea, ec, rfl, -, -⟩ := h8.enForm
      have h9 : Sep w0 (Cl bm (mgC { g with ib := ra, ic := rb, ck := t3, cv := .slice va vn vc }) 39 :: RdrT gr r4 0 :: LnR g.lv g.en.p.ls :: By (.slice va vn vc) t3 :: EnT (.slice ea qs.length ec) qs :: L) w8 := h8.pickL (M := [_, _, _, _, _, _, _]) [3, 2, 4, 5, 0] rfl
      have hev : Sep w0 (EnT g.ev g.ps :: L) w8 := h8.pickL (M := [_, _, _, _, _, _, _]) [6] rfl
      obtain ⟨ga2, gc2, hgev, -, -⟩ := hev.enForm
      have x0 : w8.cell? ⟨bm, 20, none⟩ = some g.ev := h9.cell rfl
      rw [hgev] at x0
      have f0 := h9.frozen 20
      have h10 := h9.setCell 20 (.slice ea qs.length ec)
      rw [show (mgC { g with ib := ra, ic := rb, ck := t3, cv := .slice va vn vc }).setIfInBounds 20 (.slice ea qs.length ec) = mgC { g with ib := ra, ic := rb, ck := t3, cv := .slice va vn vc, ev := .slice ea qs.length ec, ps := qs } from rfl] at h10
      have HS : Hid (q.2 = (rwsOf t4).2 ∧ RdS w0 L gr bm q.1 (w8.setCell ⟨bm, 20, none⟩ (.slice ea qs.length ec))) := Lib.hid (by
        rw [HQ3.out]
        exact ⟨rfl, { g with ib := ra, ic := rb, ck := t3, cv := .slice va vn vc, ev := .slice ea qs.length ec, ps := qs }, by rw [← hqs]; rfl, h10.sw2⟩)
      clear HR h8 h9 h10 hev hgev hqs HQ3
      (try dsimp only); repeat' (first | go_values | go_skip | go_guarded | go_step | go_upon | go_back)
      go_ret
      exact ⟨congrArg (fun z => Ending.returned (.int .i64 z)) HS.out.1.symm, HS.out.2⟩
    · have hne : (e4 != 0) = true := by rw [bne_iff_ne]; exact he
      have hne2 : (e4 == 0) = false := beq_eq_false_iff_ne.2 he
      have HS : Hid (q.2 = e4 ∧ RdS w0 L gr bm q.1 w7) := Lib.hid (by
        rw [HQ.out, if_pos he]
        exact ⟨rfl, { g with ib := ra, ic := rb, ck := t3, cv := .slice va vn vc }, rfl, H7.out.drop⟩)
      clear he H7 HQ
      (try dsimp only); repeat' (first | go_values | go_skip | go_guarded | go_step | go_upon | go_back)
      refine HE.out.mono ?_
      rintro r0 w8 ⟨rfl, rfl⟩
      (try dsimp only); repeat' (first | go_values | go_skip | go_guarded | go_step | go_upon | go_back)
      refine HE.out.mono ?_
      rintro r0 w8 ⟨rfl, rfl⟩
      clear HE
      (try dsimp only); repeat' (first | go_values | go_skip | go_guarded | go_step | go_upon | go_back)
      go_ret
      exact ⟨congrArg (fun z => Ending.returned (.int .i64 z)) HS.out.1.symm, HS.out.2⟩
  · have b128 := bit_f (by simpa using k128)
    have hq : stImage ⟨r, e, g.x⟩ = (⟨r, e, g.x⟩, 0) := by
      unfold stImage
      dsimp only
      rw [show mfieldsOf g.x.k = has from hhas.symm, if_neg k128]
    rw [hq]
    dsimp only
    have HS : Hid (RdS w0 L gr bm ⟨r, e, g.x⟩ w) := Lib.hid ⟨g, rfl, h⟩
    clear h hk hF hq hhas k128 hl
    go_enter Tryd.func34, Tryd.ntmps34
    (try dsimp only); repeat' (first | go_values | go_skip | go_guarded | go_step | go_upon | go_back)
    refine HF.out.mono ?_
    rintro r0 w1 ⟨rfl, rfl⟩
    clear HF c0
    (try dsimp only); repeat' (first | go_values | go_skip | go_guarded | go_step | go_upon | go_back)
    go_ret
    exact ⟨rfl, HS.out⟩
end Go.Proofs.YtafkbodmiblbnaaDoor
