/- Stage 18's theorem: the walk of ChooseKeeps. -/
import Derived.Test.YthgndegjiodopaaDoorCho26
import Derived.Test.YthgndegjiodopaaDoorCho22
import Derived.Test.YthgndegjiodopaaDoorHeldCall
namespace Go.Proofs.YthgndegjiodopaaDoor
open Go Go.RowKit
set_option linter.unusedVariables false
set_option linter.unusedSimpArgs false
theorem cell_below {w w' : World} {p : Addr} {v : Value} (h : w.cell? p = some v) (hb : Below w.heap.size w w') : w'.cell? p = some v := by
  rw [hb.cell (World.block_lt_of_cell? w p h)]; exact h
set_option maxRecDepth 100000 in
set_option maxHeartbeats 0 in
theorem chkeeps_any (f : Int) (va : Option Addr) (ln vc : Nat) (x0 x1 x2 : Int) (ls : List Lg) (w : World) (hK : KindsAt w) (hlen : ls.length = ln) (hls : LgS w va ls) :
    Calls Tryd.prog 3 #[.int .i64 f, .slice va ln vc, .agg #[.int .i64 x0, .int .i64 x1, .int .i64 x2]] w fun e w' => e = .returned (.bool true) ∧ Below w.heap.size w w' := by
  obtain ⟨n, q, hq, hq7, hn, hn3, hn15, hen, hnq⟩ := grpN f
  have HB0 := Lib.hid (fun wx => bring_any f 7 wx (by unfold Sm; omega))
  rw [hq] at HB0
  have HN := Lib.hid hn
  obtain ⟨en, hen2⟩ : ∃ en, en = q + 2 := ⟨_, rfl⟩
  have hen3 : enough n = (en : Int) := by rw [hen, hen2]; omega
  have HF := Lib.hid (fun wx => enough_any n wx ⟨by omega, by omega⟩)
  rw [hen3] at HF
  have HNQ := Lib.hid (And.intro hn3 (And.intro hn15 (And.intro (show n = 2 * en - 1 ∧ 2 ≤ en ∧ en ≤ n by omega) hen3)))
  have n0 : (3 : Int) ≤ (n : Int) := by omega
  have n9 : (n : Int) ≤ 15 := by omega
  have n0' : (0 : Int) ≤ (n : Int) := by omega
  have q0 : (0 : Int) ≤ (q : Int) := by omega
  have q9 : (q : Int) < 7 := by omega
  have en0 : (2 : Int) ≤ (en : Int) := by omega
  have en9 : (en : Int) ≤ (n : Int) := by omega
  obtain ⟨sh, hsh, hsh9⟩ : ∃ t : Nat, x0 % 12 = (t : Int) ∧ t < 12 := ⟨(x0 % 12).toNat, by omega, by omega⟩
  obtain ⟨le, hle⟩ : ∃ le, le = x1 % 100 := ⟨_, rfl⟩
  have B0 := Lib.hid (fun wx => (bring_any x0 12 wx ⟨by decide, by decide⟩).mono fun e w' hh => And.intro hh.1 hh.2.symm)
  have B1 := Lib.hid (fun wx => (bring_any x1 100 wx ⟨by decide, by decide⟩).mono fun e w' hh => And.intro hh.1 hh.2.symm)
  rw [hsh] at B0
  rw [← hle] at B1
  have HSH := Lib.hid (And.intro hsh9 (show 0 ≤ le ∧ le < 100 by omega))
  have sh0 : (0 : Int) ≤ (sh : Int) := by omega
  have sh9 : (sh : Int) < 12 := by omega
  have HK := Lib.hid hK
  have HL := Lib.hid (And.intro hlen hls)
  have hbx := (Sep.start w).alloc (.cells #[.int .i64 x0, .int .i64 x1, .int .i64 x2] 23)
  obtain ⟨bz, hbz⟩ : ∃ q, q = w.heap.size := ⟨_, rfl⟩
  obtain ⟨wb, hwb⟩ : ∃ q, q = w.alloc (.cells #[.int .i64 x0, .int .i64 x1, .int .i64 x2] 23) := ⟨_, rfl⟩
  rw [← hbz, ← hwb] at hbx
  have HW := Lib.hid (works18_any hbx hK)
  clear hq hq7 hn hn3 hn15 hen hnq hen2 hen3 hsh hsh9 hle hlen hls hK hbx
  go_enter Tryd.func3, Tryd.ntmps3
  (try dsimp only); repeat' (first | go_values | go_skip | go_guarded | go_step | go_upon | go_back)
  (try rw [← hbz, ← hwb])
  clear hbz hwb
  refine HW.out.mono ?_
  rintro r0 w1 ⟨rfl, h1⟩
  have H1 := Lib.hid h1
  clear HW h1
  (try dsimp only); repeat' (first | go_values | go_skip | go_guarded | go_step | go_upon | go_back)
  refine (HB0.out _).mono ?_
  rintro r0 w2 ⟨rfl, rfl⟩
  clear HB0
  have g0 := H1.out.cell (o := 0) (x := .int .i64 x0) rfl
  have g1 := H1.out.cell (o := 1) (x := .int .i64 x1) rfl
  (try dsimp only); repeat' (first | go_values | go_skip | go_guarded | go_step | go_upon | go_back)
  simp only [HN.out]
  go_quiet (first | (go_at_call_of 8 (Value.int .i64 x0); exact Calls.quiet_of_same (B0.out _)) | (go_at_call_of 8 (Value.int .i64 x1); exact Calls.quiet_of_same (B1.out _)))
  clear B0 B1 g0 g1
  have HGR := Lib.hid (group_any n sh le va ln vc ls (H1.out.drewN nq) HNQ.out.2.1 (by have := HSH.out.1; omega) HL.out.1 (fun wx hx => HL.out.2.below hx.low))
  (try dsimp only); repeat' (first | go_values | go_skip | go_guarded | go_step | go_upon | go_back)
  refine HGR.out.mono ?_
  rintro r0 w3 ⟨a1, c1, xs, rfl, hxl, hpr, h3⟩
  have h4 := h3.ofSplit
  obtain ⟨gx, ha1, -⟩ := h3.ofLoad 0 (by rw [hxl]; have := HNQ.out.1; omega)
  subst ha1
  have HX := Lib.hid (And.intro hxl hpr)
  have hok : ∀ j (h : j < xs.length), OkJ n sh le j xs[j] := fun j hj => okJ_pr (by have := pr_at hpr j hj (by rw [grp_len]; omega); rwa [grp_get] at this) (gO_okJ n sh le le ls j (by have := HSH.out.1; omega) (by omega) HNQ.out.2.1 (Int.le_refl _))
  have hin : InP xs xs := fun o ho => ⟨o, ho, rfl, rfl⟩
  have HOK := Lib.hid (And.intro hok hin)
  have H4 := Lib.hid h4
  clear HGR h3 h4 hxl hpr hok hin H1 HL HN
  (try dsimp only); repeat' (first | go_values | go_skip | go_guarded | go_step | go_upon | go_back)
  go_loopw [11, 12] (fun hv iv wr => ∃ i : Nat, i ≤ n ∧ iv = .int .i64 i ∧ hv = .int .i64 (cntG le (xs.take i) : Nat) ∧ Sep w [OfR (.slice (some ⟨gx, 0, none⟩) n c1) xs, PoT xs, Cl bz #[.int .i64 x0, .int .i64 x1, .int .i64 x2] 23] wr) (fun _ iv _ => n - (intOf iv).toNat)
  case atStart => exact ⟨0, by omega, rfl, rfl, H4.out⟩
  case round =>
    obtain ⟨i, hi, rfl, rfl, hs⟩ := hrel
    clear H4
    have i0 : (0 : Int) ≤ (i : Int) := by omega
    by_cases hin : i < n
    · have e0 : decide (i < n) = true := decide_eq_true hin
      have e0' : decide ((i : Int) < (n : Int)) = true := decide_eq_true (by omega)
      have i9 : (i : Int) < (n : Int) := by omega
      have hix : i < xs.length := by have := HX.out.1; omega
      obtain ⟨g', e, hcell, -⟩ := hs.ofrCell i hix
      obtain rfl : gx = g' := by simpa using e
      have k1 := hcell 1 (.int .i64 xs[i].la) rfl
      have hstep := cntG_take le xs i hix
      obtain ⟨zl, hzl⟩ : ∃ zl, zl = xs[i].la := ⟨_, rfl⟩
      rw [← hzl] at k1 hstep
      obtain ⟨M, hM⟩ : ∃ M, M = cntG le (xs.take i) := ⟨_, rfl⟩
      rw [← hM] at hstep ⊢
      have M9 : M ≤ 15 := by
        rw [hM]; unfold cntG
        have := List.countP_le_length (p := fun o : OvM => decide (le ≤ o.la)) (l := xs.take i)
        rw [List.length_take] at this
        have := HNQ.out.2.1
        omega
      have m0 : (0 : Int) ≤ (M : Int) := by omega
      have m9 : (M : Int) ≤ 15 := by omega
      have HS := Lib.hid hs
      have HIN := Lib.hid hin
      by_cases hg : le ≤ zl
      · rw [if_pos hg] at hstep
        have d1 : decide (le ≤ zl) = true := decide_eq_true hg
        have d1' : decide (zl < le) = false := decide_eq_false (by omega)
        have HST := Lib.hid hstep
        clear hs hin hi hix hcell hstep hzl hM hg e
        (try dsimp only); repeat' (first | go_values | go_skip | go_guarded | go_step | go_upon | go_back)
        go_roundw
        case rel => exact ⟨i + 1, by have := HIN.out; omega, by go_num, by rw [HST.out]; go_num, HS.out⟩
        case measure => have := HIN.out; simp [intOf]; omega
      · rw [if_neg hg] at hstep
        have d1 : decide (le ≤ zl) = false := decide_eq_false hg
        have d1' : decide (zl < le) = true := decide_eq_true (by omega)
        have HST := Lib.hid hstep
        clear hs hin hi hix hcell hstep hzl hM hg e
        (try dsimp only); repeat' (first | go_values | go_skip | go_guarded | go_step | go_upon | go_back)
        go_roundw
        case rel => exact ⟨i + 1, by have := HIN.out; omega, by go_num, by rw [HST.out]; rfl, HS.out⟩
        case measure => have := HIN.out; simp [intOf]; omega
    · have e0 : decide (i < n) = false := decide_eq_false hin
      have e0' : decide ((i : Int) < (n : Int)) = false := decide_eq_false (by omega)
      obtain rfl : i = n := by omega
      rw [List.take_of_length_le (by have := HX.out.1; omega)]
      have HS := Lib.hid hs
      clear hs hin hi
      (try dsimp only); repeat' (first | go_values | go_skip | go_guarded | go_step | go_upon | go_back)
      clear e0 e0'
      go_loopw [11, 13] (fun hv iv wr => ∃ (k h : Nat) (os pool : List OvM), k ≤ i ∧ iv = .int .i64 k ∧ hv = .int .i64 h ∧ os.length = i ∧ (∀ j (hj : j < os.length), OkJ i sh le j os[j]) ∧ InP os pool ∧ cntG le os = h ∧ ((∀ j (hj : j < os.length), j < k → le ≤ os[j].la) ∨ en ≤ h) ∧ Sep w [OfR (.slice (some ⟨gx, 0, none⟩) i c1) os, PoT pool, Cl bz #[.int .i64 x0, .int .i64 x1, .int .i64 x2] 23] wr) (fun _ iv _ => i - (intOf iv).toNat)
      case atStart => exact ⟨0, _, xs, xs, by omega, rfl, rfl, HX.out.1, HOK.out.1, HOK.out.2, rfl, .inl (fun j _ hj => by omega), HS.out⟩
      case round =>
        obtain ⟨k, h, os, pool, hk, rfl, rfl, hol, hok, hip, hcn, hor, hs⟩ := hrel
        clear HS
        have k0 : (0 : Int) ≤ (k : Int) := by omega
        have h9 : h ≤ 15 := by
          rw [← hcn]; unfold cntG
          have := List.countP_le_length (p := fun o : OvM => decide (le ≤ o.la)) (l := os)
          have := HNQ.out.2.1
          omega
        have h0 : (0 : Int) ≤ (h : Int) := by omega
        have h9' : (h : Int) ≤ 15 := by omega
        by_cases hgo : k < i ∧ h < en
        · have e0 : decide (k < i) = true := decide_eq_true hgo.1
          have e0' : decide ((k : Int) < (i : Int)) = true := decide_eq_true (by omega)
          have e1 : decide (h < en) = true := decide_eq_true hgo.2
          have e1' : decide ((h : Int) < (en : Int)) = true := decide_eq_true (by omega)
          have k9 : (k : Int) < (i : Int) := by omega
          have hkx : k < os.length := by omega
          have hall : ∀ j (hj : j < os.length), j < k → le ≤ os[j].la := hor.resolve_right (by omega)
          obtain ⟨g', e, hcell, -⟩ := hs.ofrCell k hkx
          obtain rfl : gx = g' := by simpa using e
          have c1_ := hcell 1 (.int .i64 os[k].la) rfl
          obtain ⟨zl, hzl⟩ : ∃ zl, zl = os[k].la := ⟨_, rfl⟩
          rw [← hzl] at c1_
          by_cases hg : le ≤ zl
          · have d1 : decide (zl < le) = false := decide_eq_false (by omega)
            have HP := Lib.hid (And.intro hol (And.intro hok (And.intro hip (And.intro hcn (show ∀ j (hj : j < os.length), j < k + 1 → le ≤ os[j].la from fun j hj hj2 => by
              rcases Nat.lt_or_ge j k with h3 | h3
              · exact hall j hj h3
              · obtain rfl : j = k := by omega
                rw [← hzl]; exact hg)))))
            have HS := Lib.hid hs
            have HGO := Lib.hid hgo.1
            clear hs hgo hk hkx hall hcell hzl hg e hol hok hip hcn hor h9
            (try dsimp only); repeat' (first | go_values | go_skip | go_guarded | go_step | go_upon | go_back)
            refine (HF.out _).mono ?_
            rintro r0 w9 ⟨rfl, rfl⟩
            (try dsimp only); repeat' (first | go_values | go_skip | go_guarded | go_step | go_upon | go_back)
            go_roundw
            case rel => exact ⟨k + 1, h, os, pool, by have := HGO.out; omega, by go_num, rfl, HP.out.1, HP.out.2.1, HP.out.2.2.1, HP.out.2.2.2.1, .inl HP.out.2.2.2.2, HS.out⟩
            case measure => have := HGO.out; simp [intOf]; omega
          · have d1 : decide (zl < le) = true := decide_eq_true (by omega)
            have HP := Lib.hid (And.intro hol (And.intro hok (And.intro hip (And.intro hcn (And.intro hall (And.intro (show ∃ h2 : k < os.length, zl = os[k].la from ⟨hkx, hzl⟩) hg))))))
            have HGO := Lib.hid hgo
            have HS := Lib.hid hs
            clear hs hgo hk hkx hall hcell hzl hg e hol hok hip hcn hor h9
            (try dsimp only); repeat' (first | go_values | go_skip | go_guarded | go_step | go_upon | go_back)
            refine (HF.out _).mono ?_
            rintro r0 w9 ⟨rfl, rfl⟩
            have hS0 := HS.out.alloc0 (.cells #[] 63)
            have HGR := Lib.hid (group_any i sh 0 (some ⟨wr.heap.size, 0, none⟩) 0 0 [] hS0 HNQ.out.2.1 (by have := HSH.out.1; omega) rfl (fun wx hx j hj => by cases hj))
            clear hS0 HS
            (try dsimp only); repeat' (first | go_values | go_skip | go_guarded | go_step | go_upon | go_back)
            refine HGR.out.mono ?_
            rintro r0 w10 ⟨a9, c9, zs, rfl, hzl, hzp, h10⟩
            clear HGR
            have hkz : k < zs.length := by rw [hzl]; exact HGO.out.1
            obtain ⟨gy, rfl, -, -, hld⟩ := h10.ofLoad k hkz
            obtain ⟨za, zn, hzv⟩ := h10.ofVs (List.getElem_mem hkz)
            have hzk : OkJ i sh 0 k zs[k] := okJ_pr (by have := pr_at hzp k hkz (by rw [grp_len]; exact HGO.out.1); rwa [grp_get] at this) (gO_okJ i sh 0 0 [] k (by have := HSH.out.1; omega) HGO.out.1 HNQ.out.2.1 (Int.le_refl _))
            have hzm : zs[k] ∈ zs := List.getElem_mem hkz
            obtain ⟨⟨zf, zl', zb, zc, zv, zp⟩, hz⟩ : ∃ z, z = zs[k] := ⟨_, rfl⟩
            rw [← hz] at hld hzv hzk hzm
            dsimp only at hzv
            subst hzv
            have h11 := h10.ofSplit
            have h12 : Sep w [PoT zs, PoT pool, OfR (.slice (some ⟨gx, 0, none⟩) i c1) os, Cl bz #[.int .i64 x0, .int .i64 x1, .int .i64 x2] 23] w10 := Sep.pick h11 [1, 3, 2, 4] rfl
            have h14 := h12.poJoin.sw2.alloc (.cells #[.int .i64 0, .int .i64 0, .int .i64 0, .slice none 0 0, .slice none 0 0, .int .i64 0] 33)
            obtain ⟨b14, hb14⟩ : ∃ q, q = w10.heap.size := ⟨_, rfl⟩
            obtain ⟨v14, hv14⟩ : ∃ q, q = w10.alloc (.cells #[.int .i64 0, .int .i64 0, .int .i64 0, .slice none 0 0, .slice none 0 0, .int .i64 0] 33) := ⟨_, rfl⟩
            rw [← hb14, ← hv14] at h14
            have HT := Lib.hid (Sep.thereAt h14 0 6 (Nat.le_refl 6))
            have h15 := Sep.storeW h14 #[.int .i64 zf, .int .i64 zl', .int .i64 zb, .slice none 0 0, .slice za zp.length zn, .int .i64 zc] rfl
            obtain ⟨v15, hv15⟩ : ∃ q, q = v14.setCells b14 0 (#[.int .i64 zf, .int .i64 zl', .int .i64 zb, .slice none 0 0, .slice za zp.length zn, .int .i64 zc] : Array Value).toList := ⟨_, rfl⟩
            rw [← hv15] at h15
            have g1 := h15.cell (o := 1) (x := .int .i64 zl') rfl
            have f1 := h15.frozen 1
            have h16 : Sep w (Cl b14 (ovC (withLa ⟨zf, zl', zb, zc, .slice za zp.length zn, zp⟩ le)) 33 :: OfR (.slice (some ⟨gx, 0, none⟩) i c1) os :: PoT (zs ++ pool) :: [Cl bz #[.int .i64 x0, .int .i64 x1, .int .i64 x2] 23]) (v15.setCell ⟨b14, 1, none⟩ (.int .i64 le)) := h15.setCell 1 _
            obtain ⟨v16, hv16⟩ : ∃ q, q = v15.setCell ⟨b14, 1, none⟩ (.int .i64 le) := ⟨_, rfl⟩
            rw [← hv16] at h16
            have HL2 := Lib.hid (h16.loadW 33 Tryd.underlying33 rfl (by kernel_rfl))
            obtain ⟨hth, hset⟩ := h16.sw2.ofrSet HP.out.1 k (by rw [HP.out.1]; exact HGO.out.1)
            have HTH := Lib.hid hth
            have h17 := Sep.pick (hset (withLa ⟨zf, zl', zb, zc, .slice za zp.length zn, zp⟩ le)) [0, 2, 3] rfl
            have H17 := Lib.hid h17
            have HLD := Lib.hid hld
            have HZ := Lib.hid (And.intro hzk hzm)
            unfold ovC at HLD HL2
            dsimp only at HLD
            clear hld hzl hzp h10 h11 h12 h14 h15 h16 hth hset h17 hzk hzm hkz hz
            (try dsimp only); repeat' (first | (with_reducible show wpList _ _ _ (Oper.mk _ (Op.load 33 _) _ _ _ _ :: _) _ _; refine stopP ?_) | go_values | go_skip | go_guarded | go_step | go_upon | go_back)
            unfold StopP
            have hq_ := HLD.out
            refine wpList_load_run rfl 33 _ rfl _ _ rfl hq_ ?_
            clear hq_ HLD
            (try dsimp only); repeat' (first | (with_reducible show wpList _ _ _ (Oper.mk _ (Op.store 33 _ _) _ _ _ _ :: _) _ _; refine stopP ?_) | go_values | go_skip | go_guarded | go_step | go_upon | go_back)
            unfold StopP
            rw [← hv14, ← hb14]
            clear hv14 hb14
            refine wpList_store_mid rfl 33 (.tmp 14) (.tmp 78) rfl b14 0 #[.int .i64 zf, .int .i64 zl', .int .i64 zb, .slice none 0 0, .slice za zp.length zn, .int .i64 zc] rfl rfl HT.out (by kernel_rfl) (by kernel_rfl) ?_
            rw [← hv15]
            clear hv15 HT
            (try dsimp only); repeat' (first | (with_reducible show wpList _ _ _ (Oper.mk _ (Op.load 33 _) _ _ _ _ :: _) _ _; refine stopP ?_) | go_values | go_skip | go_guarded | go_step | go_upon | go_back)
            rw [← hv16]
            clear hv16 g1 f1
            unfold StopP
            have hq_ := HL2.out
            refine wpList_load_run rfl 33 _ rfl _ _ rfl hq_ ?_
            clear hq_ HL2
            (try dsimp only); repeat' (first | (with_reducible show wpList _ _ _ (Oper.mk _ (Op.store 33 _ _) _ _ _ _ :: _) _ _; refine stopP ?_) | go_values | go_skip | go_guarded | go_step | go_upon | go_back)
            unfold StopP
            refine wpList_store_mid rfl 33 (.tmp 84) (.tmp 83) rfl gx (k * 6) #[.int .i64 zf, .int .i64 le, .int .i64 zb, .slice none 0 0, .slice za zp.length zn, .int .i64 zc] rfl rfl HTH.out (by kernel_rfl) (by kernel_rfl) ?_
            clear HTH
            (try dsimp only); repeat' (first | go_values | go_skip | go_guarded | go_step | go_upon | go_back)
            go_roundw
            case rel =>
              refine ⟨k + 1, h + 1, os.set k (withLa ⟨zf, zl', zb, zc, .slice za zp.length zn, zp⟩ le), zs ++ pool, by have := HGO.out; omega, by go_num, by go_num, by rw [List.length_set]; exact HP.out.1, fun j hj => ?_, HP.out.2.2.1.set k _ ⟨_, HZ.out.2, rfl, rfl⟩, ?_, .inl fun j hj hj2 => ?_, H17.out⟩
              · rw [List.getElem_set]
                by_cases e : k = j
                · subst e
                  rw [if_pos rfl]
                  exact withLa_okJ _ HSH.out.2.1 HSH.out.2.2 HZ.out.1
                · rw [if_neg e]
                  exact HP.out.2.1 j _
              · obtain ⟨h2, h3⟩ := HP.out.2.2.2.2.2.1
                rw [cntG_set le os k h2 _ (by rw [← h3]; exact HP.out.2.2.2.2.2.2) (Int.le_refl _), HP.out.2.2.2.1]
              · rw [List.getElem_set]
                by_cases e : k = j
                · subst e
                  rw [if_pos rfl]
                  exact Int.le_refl _
                · rw [if_neg e]
                  exact HP.out.2.2.2.2.1 j (by simpa using hj) (by omega)
            case measure => have := HGO.out; simp [intOf]; omega
        · have hgood : en ≤ cntG le os := by
            rcases hor with h1 | h1
            · rcases Nat.lt_or_ge k i with h2 | h2
              · omega
              · rw [cntG_all le os (fun o ho => by
                  obtain ⟨j, hj, rfl⟩ := List.getElem_of_mem ho
                  exact h1 j hj (by omega)), hol]
                have := HNQ.out.2.2.1; omega
            · omega
          have HP := Lib.hid (And.intro hol (And.intro hok (And.intro hip hgood)))
          have HS := Lib.hid hs
          have hex : (decide (k < i) = false ∧ decide ((k : Int) < (i : Int)) = false) ∨ (decide (k < i) = true ∧ decide ((k : Int) < (i : Int)) = true ∧ decide (h < en) = false ∧ decide ((h : Int) < (en : Int)) = false) := by
            by_cases h1 : k < i
            · exact .inr ⟨decide_eq_true h1, decide_eq_true (by omega), decide_eq_false (by omega), decide_eq_false (by omega)⟩
            · exact .inl ⟨decide_eq_false h1, decide_eq_false (by omega)⟩
          clear hs hgo hk hol hok hip hcn hor hgood h9
          rcases hex with ⟨e0, e0'⟩ | ⟨e0, e0', e1, e1'⟩
          · as_aux_lemma =>
              (try dsimp only); repeat' (first | go_values | go_skip | go_guarded | go_step | go_upon | go_back)
              clear e0 e0'
              obtain ⟨s, hs12, hs2⟩ : ∃ s : Nat, (s = 1 ∨ s = 2) ∧ x2 % 2 = (s : Int) - 1 := by
                rcases Int.emod_two_eq x2 with h1 | h1
                · exact ⟨1, .inl rfl, by omega⟩
                · exact ⟨2, .inr rfl, by omega⟩
              obtain ⟨c, hc, hcn⟩ : ∃ c : Nat, x2 % (i : Int) = (c : Int) ∧ c < i := by
                have h1 := Int.emod_nonneg x2 (show ((i : Int)) ≠ 0 by omega)
                have h2 := Int.emod_lt_of_pos x2 (show (0 : Int) < (i : Int) by omega)
                exact ⟨(x2 % (i : Int)).toNat, by omega, by omega⟩
              have HB2 := Lib.hid (fun wx => bring_any x2 2 wx ⟨by decide, by decide⟩)
              have HB3 := Lib.hid (fun wx => bring_any x2 (i : Int) wx (by unfold Sm; omega))
              rw [hs2] at HB2
              rw [hc] at HB3
              have HSC := Lib.hid (And.intro hs12 hcn)
              have c0' : (0 : Int) ≤ (c : Int) := by omega
              have c9' : (c : Int) < (i : Int) := by omega
              have hi0 : ¬ i = 0 := by omega
              have hfr : ∀ j (h : j < os.length), os[j].fr = (j : Int) := fun j hj => (HP.out.2.1 j hj).2.1
              have hodd : i % 2 = 1 := by have := HNQ.out.2.2.1; omega
              have HFR := Lib.hid (And.intro hfr hodd)
              clear hs12 hs2 hc hcn hfr hodd
              have HO := Lib.hid (offers_any i 100 none 0 0 [] HS.out HNQ.out.2.1 (by have := HNQ.out.2.2.2; omega) (by omega) (by omega) rfl (fun k hk => absurd hk (by simp)) (by omega) (fun wx hx x hxm => by cases hxm) (fun x hxm => by cases hxm) List.nodup_nil HK.out)
              clear HS
              refine HO.out.mono ?_
              rintro r0 w11 ⟨g, b, ys0, rfl, hys0, h20⟩
              have H20 := Lib.hid (And.intro hys0 h20)
              clear HO hys0 h20
              (try dsimp only); repeat' (first | go_values | go_skip | go_guarded | go_step | go_upon | go_back)
              go_loopw [16] (fun tv wr => ∃ (t : Nat) (ys : List OvM), t ≤ en ∧ tv = .int .i64 t ∧ ys.map OvM.pr = (chosen i s c os t).map OvM.pr ∧ Sep w [OffT g b i 100 ys, OfR (.slice (some ⟨gx, 0, none⟩) i c1) os, PoT pool, Cl bz #[.int .i64 x0, .int .i64 x1, .int .i64 x2] 23] wr) (fun tv _ => en - (intOf tv).toNat)
              case atStart => exact ⟨0, ys0, by omega, rfl, H20.out.1, H20.out.2⟩
              case round =>
                obtain ⟨t, ys, ht, rfl, hys, hs⟩ := hrel
                clear H20
                have t0 : (0 : Int) ≤ (t : Int) := by omega
                by_cases hte : t < en
                · have e0 : decide (t < en) = true := decide_eq_true hte
                  have e0' : decide ((t : Int) < (en : Int)) = true := decide_eq_true (by omega)
                  have t9 : (t : Int) < (i : Int) := by omega
                  obtain ⟨u, hu⟩ : ∃ u, u = idxK i s c t := ⟨_, rfl⟩
                  have hun : u < i := by rw [hu]; exact Nat.mod_lt _ (by omega)
                  have hux : u < os.length := by have := HP.out.1; omega
                  obtain ⟨g', e, hcell, -⟩ := hs.sw2.ofrCell u hux
                  obtain rfl : gx = g' := by simpa using e
                  have hie := fun (wx : World) (hx : Sep w [OfR (.slice (some ⟨gx, 0, none⟩) i c1) os, PoT pool, Cl bz #[.int .i64 x0, .int .i64 x1, .int .i64 x2] 23] wx) => (HP.out.2.2.1.en hx.sw2 (List.getElem_mem hux)).1
                  obtain ⟨za, zn, hzv⟩ := (HP.out.2.2.1.en (Sep.pick hs [2] rfl : Sep w [PoT pool] wr) (List.getElem_mem hux)).2
                  have hadd : AddO i 100 os[u] := addO_of ⟨za, zn, hzv⟩ rfl (HP.out.2.1 u hux).1
                  have hck := chosen_succ i s c os t
                  rw [← hu, List.getD_eq_getElem?_getD, List.getElem?_eq_getElem hux, Option.getD_some] at hck
                  have hnd := chosen_nodup i s c os (t + 1) HFR.out.2 HSC.out.1 (by have := HNQ.out.2.2.1; omega) HP.out.1 HFR.out.1
                  rw [hck, List.map_append] at hnd
                  have hnone : getO ys os[u].fr = none := getO_none (by
                    rw [pr_fr hys]
                    intro hmem
                    exact (List.nodup_append.1 hnd).2.2 _ hmem _ (List.mem_map.2 ⟨os[u], List.mem_singleton.2 rfl, rfl⟩) rfl)
                  have hfrq : FrQ ys := pr_frq hys fun x hx => by
                    obtain ⟨t', ht', rfl⟩ := List.mem_map.1 (show x ∈ (List.range t).map _ from hx)
                    have hlt : idxK i s c t' < os.length := by rw [HP.out.1]; exact Nat.mod_lt _ (by omega)
                    rw [List.getD_eq_getElem?_getD, List.getElem?_eq_getElem hlt, Option.getD_some, HFR.out.1 _ hlt]
                    have := HP.out.1
                    have := HNQ.out.2.1
                    exact ⟨by omega, by omega⟩
                  obtain ⟨⟨zf, zl, zb, zc, zv, zp⟩, hz⟩ : ∃ z, z = os[u] := ⟨_, rfl⟩
                  rw [← hz] at hcell hzv hadd hnone hck hie
                  dsimp only at hzv hnone
                  subst hzv
                  dsimp only at hie
                  have HAD := Lib.hid (oadd_ok (⟨zf, zl, zb, zc, .slice za zp.length zn, zp⟩ : OvM) hs.drew HNQ.out.2.1 hfrq hadd hnone (by omega) hie HK.out)
                  unfold ovV ovC at HAD
                  dsimp only at HAD
                  have HCELLS := Lib.hid (show ∀ wx, Sep w [OfR (.slice (some ⟨gx, 0, none⟩) i c1) os, PoT pool, Cl bz #[.int .i64 x0, .int .i64 x1, .int .i64 x2] 23] wx → wx.cell? ⟨bz, 2, none⟩ = some (.int .i64 x2) ∧ wx.cell? ⟨gx, u * 6, none⟩ = some (.int .i64 zf) ∧ wx.cell? ⟨gx, u * 6 + 1, none⟩ = some (.int .i64 zl) ∧ wx.cell? ⟨gx, u * 6 + 2, none⟩ = some (.int .i64 zb) ∧ wx.cell? ⟨gx, u * 6 + 3, none⟩ = some (.slice none 0 0) ∧ wx.cell? ⟨gx, u * 6 + 4, none⟩ = some (.slice za zp.length zn) ∧ wx.cell? ⟨gx, u * 6 + 5, none⟩ = some (.int .i64 zc) from fun wx hx => by
                    obtain ⟨g', e, hc, -⟩ := hx.ofrCell u hux
                    obtain rfl : gx = g' := by simpa using e
                    rw [← hz] at hc
                    have hbz : Sep w [Cl bz #[.int .i64 x0, .int .i64 x1, .int .i64 x2] 23] wx := Sep.pick hx [2] rfl
                    exact ⟨hbz.cell (o := 2) (x := .int .i64 x2) rfl, hc 0 (.int .i64 zf) rfl, hc 1 (.int .i64 zl) rfl, hc 2 (.int .i64 zb) rfl, hc 3 (.slice none 0 0) rfl, hc 4 (.slice za zp.length zn) rfl, hc 5 (.int .i64 zc) rfl⟩)
                  have k0_ := hcell 0 (.int .i64 zf) rfl
                  have k1_ := hcell 1 (.int .i64 zl) rfl
                  have k2_ := hcell 2 (.int .i64 zb) rfl
                  have k3_ := hcell 3 (.slice none 0 0) rfl
                  have k4_ := hcell 4 (.slice za zp.length zn) rfl
                  have k5_ := hcell 5 (.int .i64 zc) rfl
                  have hbz : Sep w [Cl bz #[.int .i64 x0, .int .i64 x1, .int .i64 x2] 23] wr := Sep.pick hs [3] rfl
                  have gz := hbz.cell (o := 2) (x := .int .i64 x2) rfl
                  have u0 : (0 : Int) ≤ (u : Int) := by omega
                  have u9 : (u : Int) < (i : Int) := by omega
                  have HTE := Lib.hid (And.intro hte (And.intro hys hck))
                  have B3 := Lib.hid HB3.out
                  clear hs hte ht hux hcell hie hadd hnone hck hnd hfrq hz hbz e
                  rcases HSC.out.1 with rfl | rfl
                  · have W1 : IntKind.i64.wrap 1 = 1 := by kernel_rfl
                    have W2 : IntKind.i64.wrap (t : Int) = (t : Int) := IntWalk.i64_in _ (by omega)
                    have W3 : IntKind.i64.wrap ((t : Int) + (c : Int)) = (t : Int) + (c : Int) := IntWalk.i64_in _ (by omega)
                    have m1 : ((t : Int) + (c : Int)) % (i : Int) = (u : Int) := by rw [hu]; unfold idxK; simp
                    have m2 : ((t : Int) + (c : Int)).tmod (i : Int) = (u : Int) := by rw [Int.tmod_eq_emod_of_nonneg (by omega), m1]
                    have B2 := Lib.hid (show ∀ wx, Calls Tryd.prog 8 #[.int .i64 x2, .int .i64 2] wx fun e w' => e = .returned (.int .i64 0) ∧ wx = w' from HB2.out)
                    clear hu hun
                    (try dsimp only); repeat' (first | go_values | go_skip | go_guarded | go_step | go_upon | go_back)
                    refine (HF.out _).mono ?_
                    rintro r0 w12 ⟨rfl, rfl⟩
                    (try dsimp only); repeat' (first | go_values | go_skip | go_guarded | go_step | go_upon | go_back)
                    refine wp_region_G (fun w' => w'.cell? ⟨bz, 2, none⟩ = some (.int .i64 x2) ∧ w'.cell? ⟨gx, u * 6, none⟩ = some (.int .i64 zf) ∧ w'.cell? ⟨gx, u * 6 + 1, none⟩ = some (.int .i64 zl) ∧ w'.cell? ⟨gx, u * 6 + 2, none⟩ = some (.int .i64 zb) ∧ w'.cell? ⟨gx, u * 6 + 3, none⟩ = some (.slice none 0 0) ∧ w'.cell? ⟨gx, u * 6 + 4, none⟩ = some (.slice za zp.length zn) ∧ w'.cell? ⟨gx, u * 6 + 5, none⟩ = some (.int .i64 zc)) [22] (by kernel_rfl) ⟨gz, k0_, k1_, k2_, k3_, k4_, k5_⟩ (fun hS => ?_)
                    try dsimp only at hS
                    refine wpAnyG_take' (i := 0) (v := ?v0_1qan1) rfl (by kernel_rfl) (by kernel_rfl) (by kernel_rfl) (by kernel_rfl) (fun _ _ _ h => h) (Or.inl ⟨by rfl, ?hy0_1qan1⟩) hS ?rest0_1qan1
                    case hy0_1qan1 => intro w hSw; (try dsimp only at hSw); go_simp; (try with_reducible rfl)
                    case rest0_1qan1 =>
                    try simp only [List.getElem_toArray, List.getElem_cons_succ, List.getElem_cons_zero, Act.put, List.setIfInBounds_toArray, List.set_cons_zero, List.set_cons_succ]
                    refine wpAnyG_take' (i := 1) (v := ?v1_2qan1) rfl (by kernel_rfl) (by kernel_rfl) (by kernel_rfl) (by kernel_rfl) (fun _ _ _ h => h) (Or.inl ⟨by rfl, ?hy1_2qan1⟩) hS ?rest1_2qan1
                    case hy1_2qan1 => intro w hSw; (try dsimp only at hSw); go_simp; (try with_reducible rfl)
                    case rest1_2qan1 =>
                    try simp only [List.getElem_toArray, List.getElem_cons_succ, List.getElem_cons_zero, Act.put, List.setIfInBounds_toArray, List.set_cons_zero, List.set_cons_succ]
                    refine wpAnyG_take' (i := 2) (v := ?v2_3qan1) rfl (by kernel_rfl) (by kernel_rfl) (by kernel_rfl) (by kernel_rfl) (fun _ _ _ h => h) (Or.inl ⟨by rfl, ?hy2_3qan1⟩) hS ?rest2_3qan1
                    case hy2_3qan1 => intro w hSw; (try dsimp only at hSw); go_simp; (try with_reducible rfl)
                    case rest2_3qan1 =>
                    try simp only [List.getElem_toArray, List.getElem_cons_succ, List.getElem_cons_zero, Act.put, List.setIfInBounds_toArray, List.set_cons_zero, List.set_cons_succ]
                    refine wpAnyG_take' (i := 3) (v := ?v3_4qan1) rfl (by kernel_rfl) (by kernel_rfl) (by kernel_rfl) (by kernel_rfl) (fun _ _ _ h => h) (Or.inl ⟨by rfl, ?hy3_4qan1⟩) hS ?rest3_4qan1
                    case hy3_4qan1 => intro w hSw; (try dsimp only at hSw); go_simp; (try with_reducible rfl)
                    case rest3_4qan1 =>
                    try simp only [List.getElem_toArray, List.getElem_cons_succ, List.getElem_cons_zero, Act.put, List.setIfInBounds_toArray, List.set_cons_zero, List.set_cons_succ]
                    refine wpAnyG_take' (i := 4) (v := ?v4_5qan1) rfl (by kernel_rfl) (by kernel_rfl) (by kernel_rfl) (by kernel_rfl) (fun _ _ _ h => h) (Or.inl ⟨by rfl, ?hy4_5qan1⟩) hS ?rest4_5qan1
                    case hy4_5qan1 => intro w hSw; (try dsimp only at hSw); go_simp; (try with_reducible rfl)
                    case rest4_5qan1 =>
                    try simp only [List.getElem_toArray, List.getElem_cons_succ, List.getElem_cons_zero, Act.put, List.setIfInBounds_toArray, List.set_cons_zero, List.set_cons_succ]
                    refine wpAnyG_call (i := 5) (v := .int .i64 (0)) rfl (by kernel_rfl) (by kernel_rfl) (by kernel_rfl) (by kernel_rfl) (fun _ _ _ h => h) ⟨by rfl, fun wx hx => ⟨_, _, ?hr5qan1, (B2.out wx).mono fun e w' hh => ⟨hh.1, hh.2.symm⟩⟩⟩ hS ?rest5qan1
                    case hr5qan1 => go_simp; (try with_reducible rfl)
                    case rest5qan1 =>
                    try simp only [List.getElem_toArray, List.getElem_cons_succ, List.getElem_cons_zero, Act.put, List.setIfInBounds_toArray, List.set_cons_zero, List.set_cons_succ]
                    refine wpAnyG_take' (i := 6) (v := ?v6_6qan1) rfl (by kernel_rfl) (by kernel_rfl) (by kernel_rfl) (by kernel_rfl) (fun _ _ _ h => h) (Or.inl ⟨by rfl, ?hy6_6qan1⟩) hS ?rest6_6qan1
                    case hy6_6qan1 => intro w hSw; (try dsimp only at hSw); go_simp; (try with_reducible rfl)
                    case rest6_6qan1 =>
                    try simp only [List.getElem_toArray, List.getElem_cons_succ, List.getElem_cons_zero, Act.put, List.setIfInBounds_toArray, List.set_cons_zero, List.set_cons_succ]
                    refine wpAnyG_take' (i := 7) (v := ?v7_7qan1) rfl (by kernel_rfl) (by kernel_rfl) (by kernel_rfl) (by kernel_rfl) (fun _ _ _ h => h) (Or.inl ⟨by rfl, ?hy7_7qan1⟩) hS ?rest7_7qan1
                    case hy7_7qan1 => intro w hSw; (try dsimp only at hSw); go_simp; (try with_reducible rfl)
                    case rest7_7qan1 =>
                    try simp only [List.getElem_toArray, List.getElem_cons_succ, List.getElem_cons_zero, Act.put, List.setIfInBounds_toArray, List.set_cons_zero, List.set_cons_succ]
                    refine wpAnyG_take' (i := 8) (v := ?v8_8qan1) rfl (by kernel_rfl) (by kernel_rfl) (by kernel_rfl) (by kernel_rfl) (fun _ _ _ h => h) (Or.inl ⟨by rfl, ?hy8_8qan1⟩) hS ?rest8_8qan1
                    case hy8_8qan1 => intro w hSw; (try dsimp only at hSw); go_simp; (try with_reducible rfl)
                    case rest8_8qan1 =>
                    try simp only [List.getElem_toArray, List.getElem_cons_succ, List.getElem_cons_zero, Act.put, List.setIfInBounds_toArray, List.set_cons_zero, List.set_cons_succ]
                    refine wpAnyG_take' (i := 9) (v := ?v9_9qan1) rfl (by kernel_rfl) (by kernel_rfl) (by kernel_rfl) (by kernel_rfl) (fun _ _ _ h => h) (Or.inl ⟨by rfl, ?hy9_9qan1⟩) hS ?rest9_9qan1
                    case hy9_9qan1 => intro w hSw; (try dsimp only at hSw); go_simp; (try with_reducible rfl)
                    case rest9_9qan1 =>
                    try simp only [List.getElem_toArray, List.getElem_cons_succ, List.getElem_cons_zero, Act.put, List.setIfInBounds_toArray, List.set_cons_zero, List.set_cons_succ]
                    refine wpAnyG_take' (i := 10) (v := ?v10_10qan1) rfl (by kernel_rfl) (by kernel_rfl) (by kernel_rfl) (by kernel_rfl) (fun _ _ _ h => h) (Or.inl ⟨by rfl, ?hy10_10qan1⟩) hS ?rest10_10qan1
                    case hy10_10qan1 => intro w hSw; (try dsimp only at hSw); go_simp; (try with_reducible rfl)
                    case rest10_10qan1 =>
                    try simp only [List.getElem_toArray, List.getElem_cons_succ, List.getElem_cons_zero, Act.put, List.setIfInBounds_toArray, List.set_cons_zero, List.set_cons_succ]
                    refine wpAnyG_call (i := 11) (v := .int .i64 ((c : Int))) rfl (by kernel_rfl) (by kernel_rfl) (by kernel_rfl) (by kernel_rfl) (fun _ _ _ h => h) ⟨by rfl, fun wx hx => ⟨_, _, ?hr11qan1, (B3.out wx).mono fun e w' hh => ⟨hh.1, hh.2.symm⟩⟩⟩ hS ?rest11qan1
                    case hr11qan1 => go_simp; (try with_reducible rfl)
                    case rest11qan1 =>
                    try simp only [List.getElem_toArray, List.getElem_cons_succ, List.getElem_cons_zero, Act.put, List.setIfInBounds_toArray, List.set_cons_zero, List.set_cons_succ]
                    refine wpAnyG_take' (i := 12) (v := ?v12_11qan1) rfl (by kernel_rfl) (by kernel_rfl) (by kernel_rfl) (by kernel_rfl) (fun _ _ _ h => h) (Or.inl ⟨by rfl, ?hy12_11qan1⟩) hS ?rest12_11qan1
                    case hy12_11qan1 => intro w hSw; (try dsimp only at hSw); go_simp; (try with_reducible rfl)
                    case rest12_11qan1 =>
                    try simp only [List.getElem_toArray, List.getElem_cons_succ, List.getElem_cons_zero, Act.put, List.setIfInBounds_toArray, List.set_cons_zero, List.set_cons_succ]
                    refine wpAnyG_take' (i := 13) (v := ?v13_12qan1) rfl (by kernel_rfl) (by kernel_rfl) (by kernel_rfl) (by kernel_rfl) (fun _ _ _ h => h) (Or.inl ⟨by rfl, ?hy13_12qan1⟩) hS ?rest13_12qan1
                    case hy13_12qan1 => intro w hSw; (try dsimp only at hSw); go_simp; (try with_reducible rfl)
                    case rest13_12qan1 =>
                    try simp only [List.getElem_toArray, List.getElem_cons_succ, List.getElem_cons_zero, Act.put, List.setIfInBounds_toArray, List.set_cons_zero, List.set_cons_succ]
                    refine wpAnyG_take' (i := 14) (v := ?v14_13qan1) rfl (by kernel_rfl) (by kernel_rfl) (by kernel_rfl) (by kernel_rfl) (fun _ _ _ h => h) (Or.inl ⟨by rfl, ?hy14_13qan1⟩) hS ?rest14_13qan1
                    case hy14_13qan1 => intro w hSw; (try dsimp only at hSw); go_simp; (try with_reducible rfl)
                    case rest14_13qan1 =>
                    try simp only [List.getElem_toArray, List.getElem_cons_succ, List.getElem_cons_zero, Act.put, List.setIfInBounds_toArray, List.set_cons_zero, List.set_cons_succ]
                    refine wpAnyG_take' (i := 15) (v := ?v15_14qan1) rfl (by kernel_rfl) (by kernel_rfl) (by kernel_rfl) (by kernel_rfl) (fun _ _ _ h => h) (Or.inl ⟨by rfl, ?hy15_14qan1⟩) hS ?rest15_14qan1
                    case hy15_14qan1 => intro w hSw; (try dsimp only at hSw); go_simp; (try with_reducible rfl)
                    case rest15_14qan1 =>
                    try simp only [List.getElem_toArray, List.getElem_cons_succ, List.getElem_cons_zero, Act.put, List.setIfInBounds_toArray, List.set_cons_zero, List.set_cons_succ]
                    refine wpAnyG_take' (i := 16) (v := ?v16_15qan1) rfl (by kernel_rfl) (by kernel_rfl) (by kernel_rfl) (by kernel_rfl) (fun _ _ _ h => h) (Or.inl ⟨by rfl, ?hy16_15qan1⟩) hS ?rest16_15qan1
                    case hy16_15qan1 => intro w hSw; (try dsimp only at hSw); go_simp; (try with_reducible rfl)
                    case rest16_15qan1 =>
                    try simp only [List.getElem_toArray, List.getElem_cons_succ, List.getElem_cons_zero, Act.put, List.setIfInBounds_toArray, List.set_cons_zero, List.set_cons_succ]
                    refine wpAnyG_one (i := 17) (by kernel_rfl) rfl (fun K hK => ?_)
                    go_simp
                    refine Calls.mono HAD.out ?_
                    rintro r8 w8 ⟨a8, c8, q8, rfl, hq8, h6⟩
                    clear gz k0_ k1_ k2_ k3_ k4_ k5_ HAD hS
                    obtain ⟨y9, y0, y1, y2, y3, y4, y5⟩ := HCELLS.out w8 h6.drop
                    have H6 := Lib.hid (And.intro hq8 h6)
                    clear h6 hq8
                    (try dsimp only); repeat' (first | go_values | go_skip | go_guarded | go_step | go_upon | go_back)
                    refine hK.out _ _ (fun _ => ?hS16qan1) ?rest16qan1
                    case hS16qan1 => exact ⟨y9, y0, y1, y2, y3, y4, y5⟩
                    clear K hK
                    try simp only [List.getElem_toArray, List.getElem_cons_succ, List.getElem_cons_zero, Act.put, List.setIfInBounds_toArray, List.set_cons_zero, List.set_cons_succ]
                    refine wpAnyG_one (i := 18) (by kernel_rfl) rfl (fun K hK => ?_)
                    go_simp
                    refine hK.out _ _ (fun _ => ?hS17qan1) ?rest17qan1
                    case hS17qan1 => exact ⟨y9, y0, y1, y2, y3, y4, y5⟩
                    clear K hK
                    try simp only [List.getElem_toArray, List.getElem_cons_succ, List.getElem_cons_zero, Act.put, List.setIfInBounds_toArray, List.set_cons_zero, List.set_cons_succ]
                    refine wpAnyG_take' (i := 19) (v := ?v19_18qan1) rfl (by kernel_rfl) (by kernel_rfl) (by kernel_rfl) (by kernel_rfl) (fun _ _ _ h => h) (Or.inl ⟨by rfl, ?hy19_18qan1⟩) ⟨y9, y0, y1, y2, y3, y4, y5⟩ ?rest19_18qan1
                    case hy19_18qan1 => intro w hSw; (try dsimp only at hSw); go_simp; (try with_reducible rfl)
                    case rest19_18qan1 =>
                    try simp only [List.getElem_toArray, List.getElem_cons_succ, List.getElem_cons_zero, Act.put, List.setIfInBounds_toArray, List.set_cons_zero, List.set_cons_succ]
                    refine wpAnyG_take' (i := 20) (v := ?v20_19qan1) rfl (by kernel_rfl) (by kernel_rfl) (by kernel_rfl) (by kernel_rfl) (fun _ _ _ h => h) (Or.inl ⟨by rfl, ?hy20_19qan1⟩) ⟨y9, y0, y1, y2, y3, y4, y5⟩ ?rest20_19qan1
                    case hy20_19qan1 => intro w hSw; (try dsimp only at hSw); go_simp; (try with_reducible rfl)
                    case rest20_19qan1 =>
                    try simp only [List.getElem_toArray, List.getElem_cons_succ, List.getElem_cons_zero, Act.put, List.setIfInBounds_toArray, List.set_cons_zero, List.set_cons_succ]
                    refine wpAnyG_one (i := 21) (by kernel_rfl) rfl (fun K hK => ?_)
                    go_simp
                    refine hK.out _ _ (fun _ => ?hS20qan1) ?rest20qan1
                    case hS20qan1 => exact ⟨y9, y0, y1, y2, y3, y4, y5⟩
                    clear K hK
                    try simp only [List.getElem_toArray, List.getElem_cons_succ, List.getElem_cons_zero, Act.put, List.setIfInBounds_toArray, List.set_cons_zero, List.set_cons_succ]
                    refine wpAnyG_one (i := 22) (by kernel_rfl) rfl (fun K hK => ?_)
                    go_simp
                    refine hK.out _ _ (fun hno => by cases hno) ?_
                    clear K hK
                    try simp only [List.getElem_toArray, List.getElem_cons_succ, List.getElem_cons_zero, Act.put, List.setIfInBounds_toArray, List.set_cons_zero, List.set_cons_succ]
                    refine wpAnyG_done (by kernel_rfl) ?_ _
                    try simp only [List.getElem_toArray, List.getElem_cons_succ, List.getElem_cons_zero, Act.put, List.setIfInBounds_toArray, List.set_cons_zero, List.set_cons_succ]
                    (try dsimp only); repeat' (first | go_values | go_skip | go_guarded | go_step | go_upon | go_back)
                    go_roundw
                    case rel => exact ⟨t + 1, _, by have := HTE.out.1; omega, by go_num, by rw [HTE.out.2.2, List.map_append, List.map_append, HTE.out.2.1]; simp [OvM.pr, H6.out.1], H6.out.2⟩
                    case measure => have := HTE.out.1; simp [intOf]; omega
                  · have W1 : IntKind.i64.wrap 2 = 2 := by kernel_rfl
                    have W2 : IntKind.i64.wrap ((t : Int) * 2) = (t : Int) * 2 := IntWalk.i64_in _ (by omega)
                    have W3 : IntKind.i64.wrap ((t : Int) * 2 + (c : Int)) = (t : Int) * 2 + (c : Int) := IntWalk.i64_in _ (by omega)
                    have m1 : ((t : Int) * 2 + (c : Int)) % (i : Int) = (u : Int) := by rw [hu]; unfold idxK; simp
                    have m2 : ((t : Int) * 2 + (c : Int)).tmod (i : Int) = (u : Int) := by rw [Int.tmod_eq_emod_of_nonneg (by omega), m1]
                    have B2 := Lib.hid (show ∀ wx, Calls Tryd.prog 8 #[.int .i64 x2, .int .i64 2] wx fun e w' => e = .returned (.int .i64 1) ∧ wx = w' from HB2.out)
                    clear hu hun
                    (try dsimp only); repeat' (first | go_values | go_skip | go_guarded | go_step | go_upon | go_back)
                    refine (HF.out _).mono ?_
                    rintro r0 w12 ⟨rfl, rfl⟩
                    (try dsimp only); repeat' (first | go_values | go_skip | go_guarded | go_step | go_upon | go_back)
                    refine wp_region_G (fun w' => w'.cell? ⟨bz, 2, none⟩ = some (.int .i64 x2) ∧ w'.cell? ⟨gx, u * 6, none⟩ = some (.int .i64 zf) ∧ w'.cell? ⟨gx, u * 6 + 1, none⟩ = some (.int .i64 zl) ∧ w'.cell? ⟨gx, u * 6 + 2, none⟩ = some (.int .i64 zb) ∧ w'.cell? ⟨gx, u * 6 + 3, none⟩ = some (.slice none 0 0) ∧ w'.cell? ⟨gx, u * 6 + 4, none⟩ = some (.slice za zp.length zn) ∧ w'.cell? ⟨gx, u * 6 + 5, none⟩ = some (.int .i64 zc)) [22] (by kernel_rfl) ⟨gz, k0_, k1_, k2_, k3_, k4_, k5_⟩ (fun hS => ?_)
                    try dsimp only at hS
                    refine wpAnyG_take' (i := 0) (v := ?v0_1qbn2) rfl (by kernel_rfl) (by kernel_rfl) (by kernel_rfl) (by kernel_rfl) (fun _ _ _ h => h) (Or.inl ⟨by rfl, ?hy0_1qbn2⟩) hS ?rest0_1qbn2
                    case hy0_1qbn2 => intro w hSw; (try dsimp only at hSw); go_simp; (try with_reducible rfl)
                    case rest0_1qbn2 =>
                    try simp only [List.getElem_toArray, List.getElem_cons_succ, List.getElem_cons_zero, Act.put, List.setIfInBounds_toArray, List.set_cons_zero, List.set_cons_succ]
                    refine wpAnyG_take' (i := 1) (v := ?v1_2qbn2) rfl (by kernel_rfl) (by kernel_rfl) (by kernel_rfl) (by kernel_rfl) (fun _ _ _ h => h) (Or.inl ⟨by rfl, ?hy1_2qbn2⟩) hS ?rest1_2qbn2
                    case hy1_2qbn2 => intro w hSw; (try dsimp only at hSw); go_simp; (try with_reducible rfl)
                    case rest1_2qbn2 =>
                    try simp only [List.getElem_toArray, List.getElem_cons_succ, List.getElem_cons_zero, Act.put, List.setIfInBounds_toArray, List.set_cons_zero, List.set_cons_succ]
                    refine wpAnyG_take' (i := 2) (v := ?v2_3qbn2) rfl (by kernel_rfl) (by kernel_rfl) (by kernel_rfl) (by kernel_rfl) (fun _ _ _ h => h) (Or.inl ⟨by rfl, ?hy2_3qbn2⟩) hS ?rest2_3qbn2
                    case hy2_3qbn2 => intro w hSw; (try dsimp only at hSw); go_simp; (try with_reducible rfl)
                    case rest2_3qbn2 =>
                    try simp only [List.getElem_toArray, List.getElem_cons_succ, List.getElem_cons_zero, Act.put, List.setIfInBounds_toArray, List.set_cons_zero, List.set_cons_succ]
                    refine wpAnyG_take' (i := 3) (v := ?v3_4qbn2) rfl (by kernel_rfl) (by kernel_rfl) (by kernel_rfl) (by kernel_rfl) (fun _ _ _ h => h) (Or.inl ⟨by rfl, ?hy3_4qbn2⟩) hS ?rest3_4qbn2
                    case hy3_4qbn2 => intro w hSw; (try dsimp only at hSw); go_simp; (try with_reducible rfl)
                    case rest3_4qbn2 =>
                    try simp only [List.getElem_toArray, List.getElem_cons_succ, List.getElem_cons_zero, Act.put, List.setIfInBounds_toArray, List.set_cons_zero, List.set_cons_succ]
                    refine wpAnyG_take' (i := 4) (v := ?v4_5qbn2) rfl (by kernel_rfl) (by kernel_rfl) (by kernel_rfl) (by kernel_rfl) (fun _ _ _ h => h) (Or.inl ⟨by rfl, ?hy4_5qbn2⟩) hS ?rest4_5qbn2
                    case hy4_5qbn2 => intro w hSw; (try dsimp only at hSw); go_simp; (try with_reducible rfl)
                    case rest4_5qbn2 =>
                    try simp only [List.getElem_toArray, List.getElem_cons_succ, List.getElem_cons_zero, Act.put, List.setIfInBounds_toArray, List.set_cons_zero, List.set_cons_succ]
                    refine wpAnyG_call (i := 5) (v := .int .i64 (1)) rfl (by kernel_rfl) (by kernel_rfl) (by kernel_rfl) (by kernel_rfl) (fun _ _ _ h => h) ⟨by rfl, fun wx hx => ⟨_, _, ?hr5qbn2, (B2.out wx).mono fun e w' hh => ⟨hh.1, hh.2.symm⟩⟩⟩ hS ?rest5qbn2
                    case hr5qbn2 => go_simp; (try with_reducible rfl)
                    case rest5qbn2 =>
                    try simp only [List.getElem_toArray, List.getElem_cons_succ, List.getElem_cons_zero, Act.put, List.setIfInBounds_toArray, List.set_cons_zero, List.set_cons_succ]
                    refine wpAnyG_take' (i := 6) (v := ?v6_6qbn2) rfl (by kernel_rfl) (by kernel_rfl) (by kernel_rfl) (by kernel_rfl) (fun _ _ _ h => h) (Or.inl ⟨by rfl, ?hy6_6qbn2⟩) hS ?rest6_6qbn2
                    case hy6_6qbn2 => intro w hSw; (try dsimp only at hSw); go_simp; (try with_reducible rfl)
                    case rest6_6qbn2 =>
                    try simp only [List.getElem_toArray, List.getElem_cons_succ, List.getElem_cons_zero, Act.put, List.setIfInBounds_toArray, List.set_cons_zero, List.set_cons_succ]
                    refine wpAnyG_take' (i := 7) (v := ?v7_7qbn2) rfl (by kernel_rfl) (by kernel_rfl) (by kernel_rfl) (by kernel_rfl) (fun _ _ _ h => h) (Or.inl ⟨by rfl, ?hy7_7qbn2⟩) hS ?rest7_7qbn2
                    case hy7_7qbn2 => intro w hSw; (try dsimp only at hSw); go_simp; (try with_reducible rfl)
                    case rest7_7qbn2 =>
                    try simp only [List.getElem_toArray, List.getElem_cons_succ, List.getElem_cons_zero, Act.put, List.setIfInBounds_toArray, List.set_cons_zero, List.set_cons_succ]
                    refine wpAnyG_take' (i := 8) (v := ?v8_8qbn2) rfl (by kernel_rfl) (by kernel_rfl) (by kernel_rfl) (by kernel_rfl) (fun _ _ _ h => h) (Or.inl ⟨by rfl, ?hy8_8qbn2⟩) hS ?rest8_8qbn2
                    case hy8_8qbn2 => intro w hSw; (try dsimp only at hSw); go_simp; (try with_reducible rfl)
                    case rest8_8qbn2 =>
                    try simp only [List.getElem_toArray, List.getElem_cons_succ, List.getElem_cons_zero, Act.put, List.setIfInBounds_toArray, List.set_cons_zero, List.set_cons_succ]
                    refine wpAnyG_take' (i := 9) (v := ?v9_9qbn2) rfl (by kernel_rfl) (by kernel_rfl) (by kernel_rfl) (by kernel_rfl) (fun _ _ _ h => h) (Or.inl ⟨by rfl, ?hy9_9qbn2⟩) hS ?rest9_9qbn2
                    case hy9_9qbn2 => intro w hSw; (try dsimp only at hSw); go_simp; (try with_reducible rfl)
                    case rest9_9qbn2 =>
                    try simp only [List.getElem_toArray, List.getElem_cons_succ, List.getElem_cons_zero, Act.put, List.setIfInBounds_toArray, List.set_cons_zero, List.set_cons_succ]
                    refine wpAnyG_take' (i := 10) (v := ?v10_10qbn2) rfl (by kernel_rfl) (by kernel_rfl) (by kernel_rfl) (by kernel_rfl) (fun _ _ _ h => h) (Or.inl ⟨by rfl, ?hy10_10qbn2⟩) hS ?rest10_10qbn2
                    case hy10_10qbn2 => intro w hSw; (try dsimp only at hSw); go_simp; (try with_reducible rfl)
                    case rest10_10qbn2 =>
                    try simp only [List.getElem_toArray, List.getElem_cons_succ, List.getElem_cons_zero, Act.put, List.setIfInBounds_toArray, List.set_cons_zero, List.set_cons_succ]
                    refine wpAnyG_call (i := 11) (v := .int .i64 ((c : Int))) rfl (by kernel_rfl) (by kernel_rfl) (by kernel_rfl) (by kernel_rfl) (fun _ _ _ h => h) ⟨by rfl, fun wx hx => ⟨_, _, ?hr11qbn2, (B3.out wx).mono fun e w' hh => ⟨hh.1, hh.2.symm⟩⟩⟩ hS ?rest11qbn2
                    case hr11qbn2 => go_simp; (try with_reducible rfl)
                    case rest11qbn2 =>
                    try simp only [List.getElem_toArray, List.getElem_cons_succ, List.getElem_cons_zero, Act.put, List.setIfInBounds_toArray, List.set_cons_zero, List.set_cons_succ]
                    refine wpAnyG_take' (i := 12) (v := ?v12_11qbn2) rfl (by kernel_rfl) (by kernel_rfl) (by kernel_rfl) (by kernel_rfl) (fun _ _ _ h => h) (Or.inl ⟨by rfl, ?hy12_11qbn2⟩) hS ?rest12_11qbn2
                    case hy12_11qbn2 => intro w hSw; (try dsimp only at hSw); go_simp; (try with_reducible rfl)
                    case rest12_11qbn2 =>
                    try simp only [List.getElem_toArray, List.getElem_cons_succ, List.getElem_cons_zero, Act.put, List.setIfInBounds_toArray, List.set_cons_zero, List.set_cons_succ]
                    refine wpAnyG_take' (i := 13) (v := ?v13_12qbn2) rfl (by kernel_rfl) (by kernel_rfl) (by kernel_rfl) (by kernel_rfl) (fun _ _ _ h => h) (Or.inl ⟨by rfl, ?hy13_12qbn2⟩) hS ?rest13_12qbn2
                    case hy13_12qbn2 => intro w hSw; (try dsimp only at hSw); go_simp; (try with_reducible rfl)
                    case rest13_12qbn2 =>
                    try simp only [List.getElem_toArray, List.getElem_cons_succ, List.getElem_cons_zero, Act.put, List.setIfInBounds_toArray, List.set_cons_zero, List.set_cons_succ]
                    refine wpAnyG_take' (i := 14) (v := ?v14_13qbn2) rfl (by kernel_rfl) (by kernel_rfl) (by kernel_rfl) (by kernel_rfl) (fun _ _ _ h => h) (Or.inl ⟨by rfl, ?hy14_13qbn2⟩) hS ?rest14_13qbn2
                    case hy14_13qbn2 => intro w hSw; (try dsimp only at hSw); go_simp; (try with_reducible rfl)
                    case rest14_13qbn2 =>
                    try simp only [List.getElem_toArray, List.getElem_cons_succ, List.getElem_cons_zero, Act.put, List.setIfInBounds_toArray, List.set_cons_zero, List.set_cons_succ]
                    refine wpAnyG_take' (i := 15) (v := ?v15_14qbn2) rfl (by kernel_rfl) (by kernel_rfl) (by kernel_rfl) (by kernel_rfl) (fun _ _ _ h => h) (Or.inl ⟨by rfl, ?hy15_14qbn2⟩) hS ?rest15_14qbn2
                    case hy15_14qbn2 => intro w hSw; (try dsimp only at hSw); go_simp; (try with_reducible rfl)
                    case rest15_14qbn2 =>
                    try simp only [List.getElem_toArray, List.getElem_cons_succ, List.getElem_cons_zero, Act.put, List.setIfInBounds_toArray, List.set_cons_zero, List.set_cons_succ]
                    refine wpAnyG_take' (i := 16) (v := ?v16_15qbn2) rfl (by kernel_rfl) (by kernel_rfl) (by kernel_rfl) (by kernel_rfl) (fun _ _ _ h => h) (Or.inl ⟨by rfl, ?hy16_15qbn2⟩) hS ?rest16_15qbn2
                    case hy16_15qbn2 => intro w hSw; (try dsimp only at hSw); go_simp; (try with_reducible rfl)
                    case rest16_15qbn2 =>
                    try simp only [List.getElem_toArray, List.getElem_cons_succ, List.getElem_cons_zero, Act.put, List.setIfInBounds_toArray, List.set_cons_zero, List.set_cons_succ]
                    refine wpAnyG_one (i := 17) (by kernel_rfl) rfl (fun K hK => ?_)
                    go_simp
                    refine Calls.mono HAD.out ?_
                    rintro r8 w8 ⟨a8, c8, q8, rfl, hq8, h6⟩
                    clear gz k0_ k1_ k2_ k3_ k4_ k5_ HAD hS
                    obtain ⟨y9, y0, y1, y2, y3, y4, y5⟩ := HCELLS.out w8 h6.drop
                    have H6 := Lib.hid (And.intro hq8 h6)
                    clear h6 hq8
                    (try dsimp only); repeat' (first | go_values | go_skip | go_guarded | go_step | go_upon | go_back)
                    refine hK.out _ _ (fun _ => ?hS16qbn2) ?rest16qbn2
                    case hS16qbn2 => exact ⟨y9, y0, y1, y2, y3, y4, y5⟩
                    clear K hK
                    try simp only [List.getElem_toArray, List.getElem_cons_succ, List.getElem_cons_zero, Act.put, List.setIfInBounds_toArray, List.set_cons_zero, List.set_cons_succ]
                    refine wpAnyG_one (i := 18) (by kernel_rfl) rfl (fun K hK => ?_)
                    go_simp
                    refine hK.out _ _ (fun _ => ?hS17qbn2) ?rest17qbn2
                    case hS17qbn2 => exact ⟨y9, y0, y1, y2, y3, y4, y5⟩
                    clear K hK
                    try simp only [List.getElem_toArray, List.getElem_cons_succ, List.getElem_cons_zero, Act.put, List.setIfInBounds_toArray, List.set_cons_zero, List.set_cons_succ]
                    refine wpAnyG_take' (i := 19) (v := ?v19_18qbn2) rfl (by kernel_rfl) (by kernel_rfl) (by kernel_rfl) (by kernel_rfl) (fun _ _ _ h => h) (Or.inl ⟨by rfl, ?hy19_18qbn2⟩) ⟨y9, y0, y1, y2, y3, y4, y5⟩ ?rest19_18qbn2
                    case hy19_18qbn2 => intro w hSw; (try dsimp only at hSw); go_simp; (try with_reducible rfl)
                    case rest19_18qbn2 =>
                    try simp only [List.getElem_toArray, List.getElem_cons_succ, List.getElem_cons_zero, Act.put, List.setIfInBounds_toArray, List.set_cons_zero, List.set_cons_succ]
                    refine wpAnyG_take' (i := 20) (v := ?v20_19qbn2) rfl (by kernel_rfl) (by kernel_rfl) (by kernel_rfl) (by kernel_rfl) (fun _ _ _ h => h) (Or.inl ⟨by rfl, ?hy20_19qbn2⟩) ⟨y9, y0, y1, y2, y3, y4, y5⟩ ?rest20_19qbn2
                    case hy20_19qbn2 => intro w hSw; (try dsimp only at hSw); go_simp; (try with_reducible rfl)
                    case rest20_19qbn2 =>
                    try simp only [List.getElem_toArray, List.getElem_cons_succ, List.getElem_cons_zero, Act.put, List.setIfInBounds_toArray, List.set_cons_zero, List.set_cons_succ]
                    refine wpAnyG_one (i := 21) (by kernel_rfl) rfl (fun K hK => ?_)
                    go_simp
                    refine hK.out _ _ (fun _ => ?hS20qbn2) ?rest20qbn2
                    case hS20qbn2 => exact ⟨y9, y0, y1, y2, y3, y4, y5⟩
                    clear K hK
                    try simp only [List.getElem_toArray, List.getElem_cons_succ, List.getElem_cons_zero, Act.put, List.setIfInBounds_toArray, List.set_cons_zero, List.set_cons_succ]
                    refine wpAnyG_one (i := 22) (by kernel_rfl) rfl (fun K hK => ?_)
                    go_simp
                    refine hK.out _ _ (fun hno => by cases hno) ?_
                    clear K hK
                    try simp only [List.getElem_toArray, List.getElem_cons_succ, List.getElem_cons_zero, Act.put, List.setIfInBounds_toArray, List.set_cons_zero, List.set_cons_succ]
                    refine wpAnyG_done (by kernel_rfl) ?_ _
                    try simp only [List.getElem_toArray, List.getElem_cons_succ, List.getElem_cons_zero, Act.put, List.setIfInBounds_toArray, List.set_cons_zero, List.set_cons_succ]
                    (try dsimp only); repeat' (first | go_values | go_skip | go_guarded | go_step | go_upon | go_back)
                    go_roundw
                    case rel => exact ⟨t + 1, _, by have := HTE.out.1; omega, by go_num, by rw [HTE.out.2.2, List.map_append, List.map_append, HTE.out.2.1]; simp [OvM.pr, H6.out.1], H6.out.2⟩
                    case measure => have := HTE.out.1; simp [intOf]; omega
                · have e0 : decide (t < en) = false := decide_eq_false hte
                  have e0' : decide ((t : Int) < (en : Int)) = false := decide_eq_false (by omega)
                  obtain rfl : t = en := by omega
                  have hti : t ≤ i := HNQ.out.2.2.1.2.2
                  have hnd := chosen_nodup i s c os t HFR.out.2 HSC.out.1 hti HP.out.1 HFR.out.1
                  have hmo : ∀ x ∈ chosen i s c os t, ∃ j, ∃ h : j < os.length, x = os[j] := fun x hx => by
                    obtain ⟨t', ht', rfl⟩ := List.mem_map.1 (show x ∈ (List.range t).map _ from hx)
                    have hlt : idxK i s c t' < os.length := by rw [HP.out.1]; exact Nat.mod_lt _ (by omega)
                    exact ⟨_, hlt, by rw [List.getD_eq_getElem?_getD, List.getElem?_eq_getElem hlt, Option.getD_some]⟩
                  have hAP : ∀ x ∈ chosen i s c os t, AddP i 100 x := fun x hx => by
                    obtain ⟨j, hj, rfl⟩ := hmo x hx
                    exact (HP.out.2.1 j hj).1
                  obtain ⟨r, hr, hrl, hrg⟩ := one_good i s c t le os HFR.out.2 HSC.out.1 HP.out.1 (by have := HNQ.out.2.2.1; omega) hti HP.out.2.2.2
                  have hgm : os[idxK i s c r] ∈ chosen i s c os t := List.mem_map.2 ⟨r, List.mem_range.2 hr, by rw [List.getD_eq_getElem?_getD, List.getElem?_eq_getElem hrl, Option.getD_some]⟩
                  have hgA := hAP _ hgm
                  have hgb : os[idxK i s c r] ∈ byFr (chosen i s c os t) i := (mem_byFr hnd).2 ⟨hgm, hgA.2.2.2.2.1, hgA.2.2.2.2.2.1⟩
                  have hne : 0 < (byFr (chosen i s c os t) i).length := List.length_pos_of_mem hgb
                  have hym := minO_in hne
                  have hyb := minO_best hgb
                  have hBS := oBestL (chosen i s c os t) hs hys HNQ.out.2.1 (bdL_of (n := i) (by have := HNQ.out.2.1; omega) hAP) hne
                  have hyl : ys.length = t := by rw [pr_length hys, chosen_len]
                  generalize minO (byFr (chosen i s c os t) i) = y at *
                  have hyA := hAP _ hym
                  obtain ⟨j, hj, hyj⟩ := hmo _ hym
                  have hyO := HP.out.2.1 j hj
                  rw [← hyj] at hyO
                  have hyla : le ≤ y.la := by
                    have : ¬ y.la < os[idxK i s c r].la := fun h => hyb (.inl h)
                    omega
                  obtain ⟨hy1, hy2⟩ := hyO.2.2 hyla
                  obtain ⟨m, hm⟩ : ∃ m, m = y.ps.length := ⟨_, rfl⟩
                  have m24 : m ≤ 24 := by rw [hm]; exact hyA.2.2.1
                  rw [← hm] at hBS hy1
                  obtain ⟨yf, hyf⟩ : ∃ q, q = y.fr := ⟨_, rfl⟩
                  obtain ⟨yl, hyl2⟩ : ∃ q, q = y.la := ⟨_, rfl⟩
                  obtain ⟨yb, hyb2⟩ : ∃ q, q = y.ba := ⟨_, rfl⟩
                  obtain ⟨yco, hyco⟩ : ∃ q, q = y.co := ⟨_, rfl⟩
                  rw [← hyf, ← hyl2, ← hyb2, ← hyco] at hBS
                  rw [← hyl2] at hyla
                  have HB := Lib.hid hBS
                  have HY2 := Lib.hid (And.intro hyl (And.intro hm hy2))
                  have d1 : decide (yl < le) = false := decide_eq_false (by omega)
                  have d2 : decide (m < sh) = false := decide_eq_false (by omega)
                  have d2' : decide ((m : Int) < (sh : Int)) = false := decide_eq_false (by omega)
                  have sm : (sh : Int) ≤ (m : Int) := by omega
                  clear hs hte ht hti hnd hmo hAP hr hrl hrg hgm hgA hgb hne hym hyb hBS hyl hyA hj hyj hyO hyla hy1 hy2 hm hyf hyl2 hyb2 hyco HP HFR HSC HB2 HB3 hys
                  (try dsimp only); repeat' (first | go_values | go_skip | go_guarded | go_step | go_upon | go_back)
                  refine (HF.out _).mono ?_
                  rintro r0 w12 ⟨rfl, rfl⟩
                  (try dsimp only); repeat' (first | go_values | go_skip | go_guarded | go_step | go_upon | go_back)
                  refine HB.out.mono ?_
                  rintro r0 w13 ⟨a3, c3, qs, rfl, hqs, h7⟩
                  have h8 := h7.alloc (.cells #[.int .i64 0, .int .i64 0, .int .i64 0, .slice none 0 0, .slice none 0 0, .int .i64 0] 33)
                  obtain ⟨b19, hb19⟩ : ∃ q, q = w13.heap.size := ⟨_, rfl⟩
                  obtain ⟨v19, hv19⟩ : ∃ q, q = w13.alloc (.cells #[.int .i64 0, .int .i64 0, .int .i64 0, .slice none 0 0, .slice none 0 0, .int .i64 0] 33) := ⟨_, rfl⟩
                  rw [← hb19, ← hv19] at h8
                  have HT := Lib.hid (Sep.thereAt h8 0 6 (Nat.le_refl 6))
                  have h9 := Sep.storeW h8 #[.int .i64 yf, .int .i64 yl, .int .i64 yb, .slice none 0 0, .slice a3 m c3, .int .i64 yco] rfl
                  obtain ⟨v20, hv20⟩ : ∃ q, q = v19.setCells b19 0 (#[.int .i64 yf, .int .i64 yl, .int .i64 yb, .slice none 0 0, .slice a3 m c3, .int .i64 yco] : Array Value).toList := ⟨_, rfl⟩
                  rw [← hv20] at h9
                  have g1 := h9.cell (o := 1) (x := .int .i64 yl) rfl
                  have g4 := h9.cell (o := 4) (x := .slice a3 m c3) rfl
                  have HQ := Lib.hid (show qs.length = m ∧ ∀ k, k < sh → (qs[k]?).map (·.1) = some (skE ((k : Int) + 1)) by
                    refine ⟨by have := congrArg List.length hqs; rw [HY2.out.2.1]; simpa using this, fun k hk => ?_⟩
                    rw [← List.getElem?_map, hqs, List.getElem?_map]
                    exact HY2.out.2.2 k hk)
                  have H9 := Lib.hid (Sep.pick h9 [0, 1, 2] rfl : Sep w [Cl b19 #[.int .i64 yf, .int .i64 yl, .int .i64 yb, .slice none 0 0, .slice a3 m c3, .int .i64 yco] 33, EnT (.slice a3 m c3) qs, OffT g b i 100 ys] v20)
                  clear h7 h8 h9 hqs HB
                  (try dsimp only); repeat' (first | (with_reducible show wpList _ _ _ (Oper.mk _ (Op.store 33 _ _) _ _ _ _ :: _) _ _; refine stopP ?_) | go_values | go_skip | go_guarded | go_step | go_upon | go_back)
                  unfold StopP
                  rw [← hv19, ← hb19]
                  clear hv19 hb19
                  refine wpList_store_mid rfl 33 (.tmp 19) (.tmp 123) rfl b19 0 #[.int .i64 yf, .int .i64 yl, .int .i64 yb, .slice none 0 0, .slice a3 m c3, .int .i64 yco] rfl rfl HT.out (by kernel_rfl) (by kernel_rfl) ?_
                  rw [← hv20]
                  clear hv20 HT
                  (try dsimp only); repeat' (first | go_values | go_skip | go_guarded | go_step | go_upon | go_back)
                  clear g1 g4 d1 d2 d2' e0 e0'
                  go_loopw [21] (fun kv wr => ∃ k : Nat, k ≤ sh ∧ kv = .int .i64 k ∧ Sep w [Cl b19 #[.int .i64 yf, .int .i64 yl, .int .i64 yb, .slice none 0 0, .slice a3 m c3, .int .i64 yco] 33, EnT (.slice a3 m c3) qs, OffT g b i 100 ys] wr) (fun kv _ => sh - (intOf kv).toNat)
                  case atStart => exact ⟨0, by omega, rfl, H9.out⟩
                  case round =>
                    obtain ⟨k, hk, rfl, hs⟩ := hrel
                    clear H9
                    have k0 : (0 : Int) ≤ (k : Int) := by omega
                    by_cases hks : k < sh
                    · have e0 : decide (k < sh) = true := decide_eq_true hks
                      have e0' : decide ((k : Int) < (sh : Int)) = true := decide_eq_true (by omega)
                      have k9 : (k : Int) < (sh : Int) := by omega
                      have km : (k : Int) < (m : Int) := by omega
                      have hen := oenough_any (Sep.offOpen (Sep.pick hs [2, 0, 1] rfl : Sep w [OffT g b i 100 ys, Cl b19 #[.int .i64 yf, .int .i64 yl, .int .i64 yb, .slice none 0 0, .slice a3 m c3, .int .i64 yco] 33, EnT (.slice a3 m c3) qs] wr)) ⟨by omega, by omega⟩
                      rw [show decide (enough i ≤ ((offS (i : Int) ys).length : Nat)) = true from decide_eq_true (by unfold offS; rw [List.length_map, HY2.out.1, HNQ.out.2.2.2]; exact Int.le_refl _)] at hen
                      have HE := Lib.hid hen
                      have HKS := Lib.hid hks
                      clear hs hen hk hks
                      (try dsimp only); repeat' (first | go_values | go_skip | go_guarded | go_step | go_upon | go_back)
                      refine HE.out.mono ?_
                      rintro r0 w14 ⟨rfl, h10⟩
                      clear HE
                      have hs : Sep w [Cl b19 #[.int .i64 yf, .int .i64 yl, .int .i64 yb, .slice none 0 0, .slice a3 m c3, .int .i64 yco] 33, EnT (.slice a3 m c3) qs, OffT g b i 100 ys] w14 := Sep.pick (Sep.offClose h10) [1, 2, 0] rfl
                      have g4 := hs.cell (o := 4) (x := .slice a3 m c3) rfl
                      have hkx : k < qs.length := by rw [HQ.out.1]; omega
                      obtain ⟨bx, off, rfl, -, -, -, ⟨e0, e1_, e2, e3, e4, e5, e6⟩, hlx⟩ := (Sep.enS (Sep.pick hs [1] rfl : Sep w [EnT (.slice a3 m c3) qs] w14)).at hkx
                      have hx0 : qs[k].1 = skE ((k : Int) + 1) := by
                        have := HQ.out.2 k HKS.out
                        rw [List.getElem?_eq_getElem hkx] at this
                        exact Option.some.inj this
                      obtain ⟨⟨x, v⟩, hxv⟩ : ∃ z, z = qs[k] := ⟨_, rfl⟩
                      rw [← hxv] at e0 e1_ e2 e3 e4 e5 e6 hlx hx0
                      dsimp only at e0 e1_ e2 e3 e4 e5 e6 hlx hx0
                      obtain ⟨vp, cp, rfl⟩ := hlx.len
                      have HROW := Lib.hid (row_w sh (Sep.start w14.drew) (by have := HSH.out.1; omega))
                      have HS14 := Lib.hid hs
                      have HLX := Lib.hid hlx
                      have HX0 := Lib.hid hx0
                      have lgx : w14.drew.cell? ⟨b19, 4, none⟩ = some (.slice (some ⟨bx, off, none⟩) m c3) := g4
                      clear h10 hs hkx hxv hlx hx0
                      (try dsimp only); repeat' (first | go_values | go_skip | go_guarded | go_step | go_upon | go_back)
                      refine wp_region_G (fun w' => w'.cell? ⟨b19, 4, none⟩ = some (.slice (some ⟨bx, off, none⟩) m c3) ∧ w'.cell? ⟨bx, off + k * 7, none⟩ = some (.int .i64 x.c) ∧ w'.cell? ⟨bx, off + k * 7 + 1, none⟩ = some (.int .i64 x.m) ∧ w'.cell? ⟨bx, off + k * 7 + 2, none⟩ = some (.int .i64 x.p.k) ∧ w'.cell? ⟨bx, off + k * 7 + 3, none⟩ = some (.string x.p.s.1) ∧ w'.cell? ⟨bx, off + k * 7 + 4, none⟩ = some (.int .i64 x.p.o) ∧ w'.cell? ⟨bx, off + k * 7 + 5, none⟩ = some (.int .i64 x.p.n) ∧ w'.cell? ⟨bx, off + k * 7 + 6, none⟩ = some (.slice vp x.p.ls.length cp)) [11, 12] (by kernel_rfl) ⟨g4, e0, e1_, e2, e3, e4, e5, e6⟩ (fun hS => ?_)
                      try dsimp only at hS
                      refine wpAnyG_take' (i := 0) (v := ?v0_1rn5) rfl (by kernel_rfl) (by kernel_rfl) (by kernel_rfl) (by kernel_rfl) (fun _ _ _ h => h) (Or.inl ⟨by rfl, ?hy0_1rn5⟩) hS ?rest0_1rn5
                      case hy0_1rn5 => intro w hSw; (try dsimp only at hSw); go_simp; (try with_reducible rfl)
                      case rest0_1rn5 =>
                      try simp only [List.getElem_toArray, List.getElem_cons_succ, List.getElem_cons_zero, Act.put, List.setIfInBounds_toArray, List.set_cons_zero, List.set_cons_succ]
                      refine wpAnyG_take' (i := 1) (v := ?v1_2rn5) rfl (by kernel_rfl) (by kernel_rfl) (by kernel_rfl) (by kernel_rfl) (fun _ _ _ h => h) (Or.inl ⟨by rfl, ?hy1_2rn5⟩) hS ?rest1_2rn5
                      case hy1_2rn5 => intro w hSw; (try dsimp only at hSw); go_simp; (try with_reducible rfl)
                      case rest1_2rn5 =>
                      try simp only [List.getElem_toArray, List.getElem_cons_succ, List.getElem_cons_zero, Act.put, List.setIfInBounds_toArray, List.set_cons_zero, List.set_cons_succ]
                      refine wpAnyG_take' (i := 2) (v := ?v2_3rn5) rfl (by kernel_rfl) (by kernel_rfl) (by kernel_rfl) (by kernel_rfl) (fun _ _ _ h => h) (Or.inl ⟨by rfl, ?hy2_3rn5⟩) hS ?rest2_3rn5
                      case hy2_3rn5 => intro w hSw; (try dsimp only at hSw); go_simp; (try with_reducible rfl)
                      case rest2_3rn5 =>
                      try simp only [List.getElem_toArray, List.getElem_cons_succ, List.getElem_cons_zero, Act.put, List.setIfInBounds_toArray, List.set_cons_zero, List.set_cons_succ]
                      refine wpAnyG_take' (i := 3) (v := ?v3_4rn5) rfl (by kernel_rfl) (by kernel_rfl) (by kernel_rfl) (by kernel_rfl) (fun _ _ _ h => h) (Or.inl ⟨by rfl, ?hy3_4rn5⟩) hS ?rest3_4rn5
                      case hy3_4rn5 => intro w hSw; (try dsimp only at hSw); go_simp; (try with_reducible rfl)
                      case rest3_4rn5 =>
                      try simp only [List.getElem_toArray, List.getElem_cons_succ, List.getElem_cons_zero, Act.put, List.setIfInBounds_toArray, List.set_cons_zero, List.set_cons_succ]
                      refine wpAnyG_take' (i := 4) (v := ?v4_5rn5) rfl (by kernel_rfl) (by kernel_rfl) (by kernel_rfl) (by kernel_rfl) (fun _ _ _ h => h) (Or.inl ⟨by rfl, ?hy4_5rn5⟩) hS ?rest4_5rn5
                      case hy4_5rn5 => intro w hSw; (try dsimp only at hSw); go_simp; (try with_reducible rfl)
                      case rest4_5rn5 =>
                      try simp only [List.getElem_toArray, List.getElem_cons_succ, List.getElem_cons_zero, Act.put, List.setIfInBounds_toArray, List.set_cons_zero, List.set_cons_succ]
                      refine wpAnyG_take' (i := 5) (v := ?v5_6rn5) rfl (by kernel_rfl) (by kernel_rfl) (by kernel_rfl) (by kernel_rfl) (fun _ _ _ h => h) (Or.inl ⟨by rfl, ?hy5_6rn5⟩) hS ?rest5_6rn5
                      case hy5_6rn5 => intro w hSw; (try dsimp only at hSw); go_simp; (try with_reducible rfl)
                      case rest5_6rn5 =>
                      try simp only [List.getElem_toArray, List.getElem_cons_succ, List.getElem_cons_zero, Act.put, List.setIfInBounds_toArray, List.set_cons_zero, List.set_cons_succ]
                      refine wpAnyG_take' (i := 6) (v := ?v6_7rn5) rfl (by kernel_rfl) (by kernel_rfl) (by kernel_rfl) (by kernel_rfl) (fun _ _ _ h => h) (Or.inl ⟨by rfl, ?hy6_7rn5⟩) hS ?rest6_7rn5
                      case hy6_7rn5 => intro w hSw; (try dsimp only at hSw); go_simp; (try with_reducible rfl)
                      case rest6_7rn5 =>
                      try simp only [List.getElem_toArray, List.getElem_cons_succ, List.getElem_cons_zero, Act.put, List.setIfInBounds_toArray, List.set_cons_zero, List.set_cons_succ]
                      refine wpAnyG_take' (i := 8) (v := ?v8_8rn5) rfl (by kernel_rfl) (by kernel_rfl) (by kernel_rfl) (by kernel_rfl) (fun _ _ _ h => h) (Or.inl ⟨by rfl, ?hy8_8rn5⟩) hS ?rest8_8rn5
                      case hy8_8rn5 => intro w hSw; (try dsimp only at hSw); go_simp; (try with_reducible rfl)
                      case rest8_8rn5 =>
                      try simp only [List.getElem_toArray, List.getElem_cons_succ, List.getElem_cons_zero, Act.put, List.setIfInBounds_toArray, List.set_cons_zero, List.set_cons_succ]
                      refine wpAnyG_one (i := 7) (by kernel_rfl) rfl (fun K hK => ?_)
                      go_simp
                      refine Calls.mono HROW.out ?_
                      rintro r7 w7 ⟨u, rfl, h6⟩
                      have hlow := h6.low
                      have p8 := cell_below lgx hlow
                      have p0 := cell_below (w := w14.drew) e0 hlow
                      have p1 := cell_below (w := w14.drew) e1_ hlow
                      have p2 := cell_below (w := w14.drew) e2 hlow
                      have p3 := cell_below (w := w14.drew) e3 hlow
                      have p4 := cell_below (w := w14.drew) e4 hlow
                      have p5 := cell_below (w := w14.drew) e5 hlow
                      have p6 := cell_below (w := w14.drew) e6 hlow
                      obtain ⟨au, cu, rfl, -⟩ := h6.enForm
                      rw [rowP_len] at h6 ⊢
                      have hkr : k < (rowP sh).length := by rw [rowP_len]; exact HKS.out
                      obtain ⟨by_, oy, rfl, -, -, -, ⟨q0_, q1, q2, q3, q4, q5, q6⟩, hly⟩ := h6.enS.at hkr
                      have hrw : (rowP sh)[k] = (x, .slice none 0 0) := by rw [HX0.out]; simp [rowP]
                      rw [hrw] at q0_ q1 q2 q3 q4 q5 q6 hly
                      dsimp only at q0_ q1 q2 q3 q4 q5 q6 hly
                      have hw7 := HS14.out.drew.onto1 h6
                      have hsm := esame_any x x (.slice vp x.p.ls.length cp) (.slice none 0 0) hw7.drop ((show LnS w14.drew (.slice vp x.p.ls.length cp) x.p.ls from HLX.out).below hlow) hly (lns_maxl hly)
                      rw [show enSame x x = true by unfold enSame sameB; simp] at hsm
                      have HS := Lib.hid hsm
                      unfold enV at HS
                      clear g4 e0 e1_ e2 e3 e4 e5 e6 lgx hS h6 hlow hkr hly hrw hw7 hsm HROW
                      (try dsimp only); repeat' (first | go_values | go_skip | go_guarded | go_step | go_upon | go_back)
                      refine hK.out _ _ (fun _ => ?hS9rn5) ?rest9rn5
                      case hS9rn5 => exact ⟨p8, p0, p1, p2, p3, p4, p5, p6⟩
                      clear K hK
                      try simp only [List.getElem_toArray, List.getElem_cons_succ, List.getElem_cons_zero, Act.put, List.setIfInBounds_toArray, List.set_cons_zero, List.set_cons_succ]
                      refine wpAnyG_one (i := 9) (by kernel_rfl) rfl (fun K hK => ?_)
                      go_simp
                      refine hK.out _ _ (fun _ => ?hS10rn5) ?rest10rn5
                      case hS10rn5 => exact ⟨p8, p0, p1, p2, p3, p4, p5, p6⟩
                      clear K hK
                      try simp only [List.getElem_toArray, List.getElem_cons_succ, List.getElem_cons_zero, Act.put, List.setIfInBounds_toArray, List.set_cons_zero, List.set_cons_succ]
                      refine wpAnyG_one (i := 10) (by kernel_rfl) rfl (fun K hK => ?_)
                      go_simp
                      refine hK.out _ _ (fun _ => ?hS11rn5) ?rest11rn5
                      case hS11rn5 => exact ⟨p8, p0, p1, p2, p3, p4, p5, p6⟩
                      clear K hK
                      try simp only [List.getElem_toArray, List.getElem_cons_succ, List.getElem_cons_zero, Act.put, List.setIfInBounds_toArray, List.set_cons_zero, List.set_cons_succ]
                      refine wpAnyG_one (i := 11) (by kernel_rfl) rfl (fun K hK => ?_)
                      go_simp
                      refine Calls.mono HS.out ?_
                      rintro r8 w8 ⟨rfl, h6⟩
                      clear HS q0_ q1 q2 q3 q4 q5 q6 p0 p1 p2 p3 p4 p5 p6 p8
                      have H6 := Lib.hid h6
                      clear h6
                      (try dsimp only); repeat' (first | go_values | go_skip | go_guarded | go_step | go_upon | go_back)
                      refine hK.out _ _ (fun hno => by cases hno) ?_
                      clear K hK
                      try simp only [List.getElem_toArray, List.getElem_cons_succ, List.getElem_cons_zero, Act.put, List.setIfInBounds_toArray, List.set_cons_zero, List.set_cons_succ]
                      refine wpAnyG_one (i := 12) (by kernel_rfl) rfl (fun K hK => ?_)
                      go_simp
                      refine hK.out _ _ (fun hno => by cases hno) ?_
                      clear K hK
                      try simp only [List.getElem_toArray, List.getElem_cons_succ, List.getElem_cons_zero, Act.put, List.setIfInBounds_toArray, List.set_cons_zero, List.set_cons_succ]
                      refine wpAnyG_done (by kernel_rfl) ?_ _
                      try simp only [List.getElem_toArray, List.getElem_cons_succ, List.getElem_cons_zero, Act.put, List.setIfInBounds_toArray, List.set_cons_zero, List.set_cons_succ]
                      (try dsimp only); repeat' (first | go_values | go_skip | go_guarded | go_step | go_upon | go_back)
                      go_roundw
                      case rel => exact ⟨k + 1, HKS.out, by go_num, H6.out⟩
                      case measure => have := HKS.out; simp [intOf]; omega
                    · have e0 : decide (k < sh) = false := decide_eq_false hks
                      have e0' : decide ((k : Int) < (sh : Int)) = false := decide_eq_false (by omega)
                      have HFN := Lib.hid hs.low
                      clear hs hk hks
                      (try dsimp only); repeat' (first | go_values | go_skip | go_guarded | go_step | go_upon | go_back)
                      go_ret
                      exact ⟨rfl, HFN.out⟩
          · as_aux_lemma =>
              (try dsimp only); repeat' (first | go_values | go_skip | go_guarded | go_step | go_upon | go_back)
              refine (HF.out _).mono ?_
              rintro r0 w9 ⟨rfl, rfl⟩
              (try dsimp only); repeat' (first | go_values | go_skip | go_guarded | go_step | go_upon | go_back)
              clear e0 e0' e1 e1'
              obtain ⟨s, hs12, hs2⟩ : ∃ s : Nat, (s = 1 ∨ s = 2) ∧ x2 % 2 = (s : Int) - 1 := by
                rcases Int.emod_two_eq x2 with h1 | h1
                · exact ⟨1, .inl rfl, by omega⟩
                · exact ⟨2, .inr rfl, by omega⟩
              obtain ⟨c, hc, hcn⟩ : ∃ c : Nat, x2 % (i : Int) = (c : Int) ∧ c < i := by
                have h1 := Int.emod_nonneg x2 (show ((i : Int)) ≠ 0 by omega)
                have h2 := Int.emod_lt_of_pos x2 (show (0 : Int) < (i : Int) by omega)
                exact ⟨(x2 % (i : Int)).toNat, by omega, by omega⟩
              have HB2 := Lib.hid (fun wx => bring_any x2 2 wx ⟨by decide, by decide⟩)
              have HB3 := Lib.hid (fun wx => bring_any x2 (i : Int) wx (by unfold Sm; omega))
              rw [hs2] at HB2
              rw [hc] at HB3
              have HSC := Lib.hid (And.intro hs12 hcn)
              have c0' : (0 : Int) ≤ (c : Int) := by omega
              have c9' : (c : Int) < (i : Int) := by omega
              have hi0 : ¬ i = 0 := by omega
              have hfr : ∀ j (h : j < os.length), os[j].fr = (j : Int) := fun j hj => (HP.out.2.1 j hj).2.1
              have hodd : i % 2 = 1 := by have := HNQ.out.2.2.1; omega
              have HFR := Lib.hid (And.intro hfr hodd)
              clear hs12 hs2 hc hcn hfr hodd
              have HO := Lib.hid (offers_any i 100 none 0 0 [] HS.out HNQ.out.2.1 (by have := HNQ.out.2.2.2; omega) (by omega) (by omega) rfl (fun k hk => absurd hk (by simp)) (by omega) (fun wx hx x hxm => by cases hxm) (fun x hxm => by cases hxm) List.nodup_nil HK.out)
              clear HS
              refine HO.out.mono ?_
              rintro r0 w11 ⟨g, b, ys0, rfl, hys0, h20⟩
              have H20 := Lib.hid (And.intro hys0 h20)
              clear HO hys0 h20
              (try dsimp only); repeat' (first | go_values | go_skip | go_guarded | go_step | go_upon | go_back)
              go_loopw [16] (fun tv wr => ∃ (t : Nat) (ys : List OvM), t ≤ en ∧ tv = .int .i64 t ∧ ys.map OvM.pr = (chosen i s c os t).map OvM.pr ∧ Sep w [OffT g b i 100 ys, OfR (.slice (some ⟨gx, 0, none⟩) i c1) os, PoT pool, Cl bz #[.int .i64 x0, .int .i64 x1, .int .i64 x2] 23] wr) (fun tv _ => en - (intOf tv).toNat)
              case atStart => exact ⟨0, ys0, by omega, rfl, H20.out.1, H20.out.2⟩
              case round =>
                obtain ⟨t, ys, ht, rfl, hys, hs⟩ := hrel
                clear H20
                have t0 : (0 : Int) ≤ (t : Int) := by omega
                by_cases hte : t < en
                · have e0 : decide (t < en) = true := decide_eq_true hte
                  have e0' : decide ((t : Int) < (en : Int)) = true := decide_eq_true (by omega)
                  have t9 : (t : Int) < (i : Int) := by omega
                  obtain ⟨u, hu⟩ : ∃ u, u = idxK i s c t := ⟨_, rfl⟩
                  have hun : u < i := by rw [hu]; exact Nat.mod_lt _ (by omega)
                  have hux : u < os.length := by have := HP.out.1; omega
                  obtain ⟨g', e, hcell, -⟩ := hs.sw2.ofrCell u hux
                  obtain rfl : gx = g' := by simpa using e
                  have hie := fun (wx : World) (hx : Sep w [OfR (.slice (some ⟨gx, 0, none⟩) i c1) os, PoT pool, Cl bz #[.int .i64 x0, .int .i64 x1, .int .i64 x2] 23] wx) => (HP.out.2.2.1.en hx.sw2 (List.getElem_mem hux)).1
                  obtain ⟨za, zn, hzv⟩ := (HP.out.2.2.1.en (Sep.pick hs [2] rfl : Sep w [PoT pool] wr) (List.getElem_mem hux)).2
                  have hadd : AddO i 100 os[u] := addO_of ⟨za, zn, hzv⟩ rfl (HP.out.2.1 u hux).1
                  have hck := chosen_succ i s c os t
                  rw [← hu, List.getD_eq_getElem?_getD, List.getElem?_eq_getElem hux, Option.getD_some] at hck
                  have hnd := chosen_nodup i s c os (t + 1) HFR.out.2 HSC.out.1 (by have := HNQ.out.2.2.1; omega) HP.out.1 HFR.out.1
                  rw [hck, List.map_append] at hnd
                  have hnone : getO ys os[u].fr = none := getO_none (by
                    rw [pr_fr hys]
                    intro hmem
                    exact (List.nodup_append.1 hnd).2.2 _ hmem _ (List.mem_map.2 ⟨os[u], List.mem_singleton.2 rfl, rfl⟩) rfl)
                  have hfrq : FrQ ys := pr_frq hys fun x hx => by
                    obtain ⟨t', ht', rfl⟩ := List.mem_map.1 (show x ∈ (List.range t).map _ from hx)
                    have hlt : idxK i s c t' < os.length := by rw [HP.out.1]; exact Nat.mod_lt _ (by omega)
                    rw [List.getD_eq_getElem?_getD, List.getElem?_eq_getElem hlt, Option.getD_some, HFR.out.1 _ hlt]
                    have := HP.out.1
                    have := HNQ.out.2.1
                    exact ⟨by omega, by omega⟩
                  obtain ⟨⟨zf, zl, zb, zc, zv, zp⟩, hz⟩ : ∃ z, z = os[u] := ⟨_, rfl⟩
                  rw [← hz] at hcell hzv hadd hnone hck hie
                  dsimp only at hzv hnone
                  subst hzv
                  dsimp only at hie
                  have HAD := Lib.hid (oadd_ok (⟨zf, zl, zb, zc, .slice za zp.length zn, zp⟩ : OvM) hs.drew HNQ.out.2.1 hfrq hadd hnone (by omega) hie HK.out)
                  unfold ovV ovC at HAD
                  dsimp only at HAD
                  have HCELLS := Lib.hid (show ∀ wx, Sep w [OfR (.slice (some ⟨gx, 0, none⟩) i c1) os, PoT pool, Cl bz #[.int .i64 x0, .int .i64 x1, .int .i64 x2] 23] wx → wx.cell? ⟨bz, 2, none⟩ = some (.int .i64 x2) ∧ wx.cell? ⟨gx, u * 6, none⟩ = some (.int .i64 zf) ∧ wx.cell? ⟨gx, u * 6 + 1, none⟩ = some (.int .i64 zl) ∧ wx.cell? ⟨gx, u * 6 + 2, none⟩ = some (.int .i64 zb) ∧ wx.cell? ⟨gx, u * 6 + 3, none⟩ = some (.slice none 0 0) ∧ wx.cell? ⟨gx, u * 6 + 4, none⟩ = some (.slice za zp.length zn) ∧ wx.cell? ⟨gx, u * 6 + 5, none⟩ = some (.int .i64 zc) from fun wx hx => by
                    obtain ⟨g', e, hc, -⟩ := hx.ofrCell u hux
                    obtain rfl : gx = g' := by simpa using e
                    rw [← hz] at hc
                    have hbz : Sep w [Cl bz #[.int .i64 x0, .int .i64 x1, .int .i64 x2] 23] wx := Sep.pick hx [2] rfl
                    exact ⟨hbz.cell (o := 2) (x := .int .i64 x2) rfl, hc 0 (.int .i64 zf) rfl, hc 1 (.int .i64 zl) rfl, hc 2 (.int .i64 zb) rfl, hc 3 (.slice none 0 0) rfl, hc 4 (.slice za zp.length zn) rfl, hc 5 (.int .i64 zc) rfl⟩)
                  have k0_ := hcell 0 (.int .i64 zf) rfl
                  have k1_ := hcell 1 (.int .i64 zl) rfl
                  have k2_ := hcell 2 (.int .i64 zb) rfl
                  have k3_ := hcell 3 (.slice none 0 0) rfl
                  have k4_ := hcell 4 (.slice za zp.length zn) rfl
                  have k5_ := hcell 5 (.int .i64 zc) rfl
                  have hbz : Sep w [Cl bz #[.int .i64 x0, .int .i64 x1, .int .i64 x2] 23] wr := Sep.pick hs [3] rfl
                  have gz := hbz.cell (o := 2) (x := .int .i64 x2) rfl
                  have u0 : (0 : Int) ≤ (u : Int) := by omega
                  have u9 : (u : Int) < (i : Int) := by omega
                  have HTE := Lib.hid (And.intro hte (And.intro hys hck))
                  have B3 := Lib.hid HB3.out
                  clear hs hte ht hux hcell hie hadd hnone hck hnd hfrq hz hbz e
                  rcases HSC.out.1 with rfl | rfl
                  · have W1 : IntKind.i64.wrap 1 = 1 := by kernel_rfl
                    have W2 : IntKind.i64.wrap (t : Int) = (t : Int) := IntWalk.i64_in _ (by omega)
                    have W3 : IntKind.i64.wrap ((t : Int) + (c : Int)) = (t : Int) + (c : Int) := IntWalk.i64_in _ (by omega)
                    have m1 : ((t : Int) + (c : Int)) % (i : Int) = (u : Int) := by rw [hu]; unfold idxK; simp
                    have m2 : ((t : Int) + (c : Int)).tmod (i : Int) = (u : Int) := by rw [Int.tmod_eq_emod_of_nonneg (by omega), m1]
                    have B2 := Lib.hid (show ∀ wx, Calls Tryd.prog 8 #[.int .i64 x2, .int .i64 2] wx fun e w' => e = .returned (.int .i64 0) ∧ wx = w' from HB2.out)
                    clear hu hun
                    (try dsimp only); repeat' (first | go_values | go_skip | go_guarded | go_step | go_upon | go_back)
                    refine (HF.out _).mono ?_
                    rintro r0 w12 ⟨rfl, rfl⟩
                    (try dsimp only); repeat' (first | go_values | go_skip | go_guarded | go_step | go_upon | go_back)
                    refine wp_region_G (fun w' => w'.cell? ⟨bz, 2, none⟩ = some (.int .i64 x2) ∧ w'.cell? ⟨gx, u * 6, none⟩ = some (.int .i64 zf) ∧ w'.cell? ⟨gx, u * 6 + 1, none⟩ = some (.int .i64 zl) ∧ w'.cell? ⟨gx, u * 6 + 2, none⟩ = some (.int .i64 zb) ∧ w'.cell? ⟨gx, u * 6 + 3, none⟩ = some (.slice none 0 0) ∧ w'.cell? ⟨gx, u * 6 + 4, none⟩ = some (.slice za zp.length zn) ∧ w'.cell? ⟨gx, u * 6 + 5, none⟩ = some (.int .i64 zc)) [22] (by kernel_rfl) ⟨gz, k0_, k1_, k2_, k3_, k4_, k5_⟩ (fun hS => ?_)
                    try dsimp only at hS
                    refine wpAnyG_take' (i := 0) (v := ?v0_1qan3) rfl (by kernel_rfl) (by kernel_rfl) (by kernel_rfl) (by kernel_rfl) (fun _ _ _ h => h) (Or.inl ⟨by rfl, ?hy0_1qan3⟩) hS ?rest0_1qan3
                    case hy0_1qan3 => intro w hSw; (try dsimp only at hSw); go_simp; (try with_reducible rfl)
                    case rest0_1qan3 =>
                    try simp only [List.getElem_toArray, List.getElem_cons_succ, List.getElem_cons_zero, Act.put, List.setIfInBounds_toArray, List.set_cons_zero, List.set_cons_succ]
                    refine wpAnyG_take' (i := 1) (v := ?v1_2qan3) rfl (by kernel_rfl) (by kernel_rfl) (by kernel_rfl) (by kernel_rfl) (fun _ _ _ h => h) (Or.inl ⟨by rfl, ?hy1_2qan3⟩) hS ?rest1_2qan3
                    case hy1_2qan3 => intro w hSw; (try dsimp only at hSw); go_simp; (try with_reducible rfl)
                    case rest1_2qan3 =>
                    try simp only [List.getElem_toArray, List.getElem_cons_succ, List.getElem_cons_zero, Act.put, List.setIfInBounds_toArray, List.set_cons_zero, List.set_cons_succ]
                    refine wpAnyG_take' (i := 2) (v := ?v2_3qan3) rfl (by kernel_rfl) (by kernel_rfl) (by kernel_rfl) (by kernel_rfl) (fun _ _ _ h => h) (Or.inl ⟨by rfl, ?hy2_3qan3⟩) hS ?rest2_3qan3
                    case hy2_3qan3 => intro w hSw; (try dsimp only at hSw); go_simp; (try with_reducible rfl)
                    case rest2_3qan3 =>
                    try simp only [List.getElem_toArray, List.getElem_cons_succ, List.getElem_cons_zero, Act.put, List.setIfInBounds_toArray, List.set_cons_zero, List.set_cons_succ]
                    refine wpAnyG_take' (i := 3) (v := ?v3_4qan3) rfl (by kernel_rfl) (by kernel_rfl) (by kernel_rfl) (by kernel_rfl) (fun _ _ _ h => h) (Or.inl ⟨by rfl, ?hy3_4qan3⟩) hS ?rest3_4qan3
                    case hy3_4qan3 => intro w hSw; (try dsimp only at hSw); go_simp; (try with_reducible rfl)
                    case rest3_4qan3 =>
                    try simp only [List.getElem_toArray, List.getElem_cons_succ, List.getElem_cons_zero, Act.put, List.setIfInBounds_toArray, List.set_cons_zero, List.set_cons_succ]
                    refine wpAnyG_take' (i := 4) (v := ?v4_5qan3) rfl (by kernel_rfl) (by kernel_rfl) (by kernel_rfl) (by kernel_rfl) (fun _ _ _ h => h) (Or.inl ⟨by rfl, ?hy4_5qan3⟩) hS ?rest4_5qan3
                    case hy4_5qan3 => intro w hSw; (try dsimp only at hSw); go_simp; (try with_reducible rfl)
                    case rest4_5qan3 =>
                    try simp only [List.getElem_toArray, List.getElem_cons_succ, List.getElem_cons_zero, Act.put, List.setIfInBounds_toArray, List.set_cons_zero, List.set_cons_succ]
                    refine wpAnyG_call (i := 5) (v := .int .i64 (0)) rfl (by kernel_rfl) (by kernel_rfl) (by kernel_rfl) (by kernel_rfl) (fun _ _ _ h => h) ⟨by rfl, fun wx hx => ⟨_, _, ?hr5qan3, (B2.out wx).mono fun e w' hh => ⟨hh.1, hh.2.symm⟩⟩⟩ hS ?rest5qan3
                    case hr5qan3 => go_simp; (try with_reducible rfl)
                    case rest5qan3 =>
                    try simp only [List.getElem_toArray, List.getElem_cons_succ, List.getElem_cons_zero, Act.put, List.setIfInBounds_toArray, List.set_cons_zero, List.set_cons_succ]
                    refine wpAnyG_take' (i := 6) (v := ?v6_6qan3) rfl (by kernel_rfl) (by kernel_rfl) (by kernel_rfl) (by kernel_rfl) (fun _ _ _ h => h) (Or.inl ⟨by rfl, ?hy6_6qan3⟩) hS ?rest6_6qan3
                    case hy6_6qan3 => intro w hSw; (try dsimp only at hSw); go_simp; (try with_reducible rfl)
                    case rest6_6qan3 =>
                    try simp only [List.getElem_toArray, List.getElem_cons_succ, List.getElem_cons_zero, Act.put, List.setIfInBounds_toArray, List.set_cons_zero, List.set_cons_succ]
                    refine wpAnyG_take' (i := 7) (v := ?v7_7qan3) rfl (by kernel_rfl) (by kernel_rfl) (by kernel_rfl) (by kernel_rfl) (fun _ _ _ h => h) (Or.inl ⟨by rfl, ?hy7_7qan3⟩) hS ?rest7_7qan3
                    case hy7_7qan3 => intro w hSw; (try dsimp only at hSw); go_simp; (try with_reducible rfl)
                    case rest7_7qan3 =>
                    try simp only [List.getElem_toArray, List.getElem_cons_succ, List.getElem_cons_zero, Act.put, List.setIfInBounds_toArray, List.set_cons_zero, List.set_cons_succ]
                    refine wpAnyG_take' (i := 8) (v := ?v8_8qan3) rfl (by kernel_rfl) (by kernel_rfl) (by kernel_rfl) (by kernel_rfl) (fun _ _ _ h => h) (Or.inl ⟨by rfl, ?hy8_8qan3⟩) hS ?rest8_8qan3
                    case hy8_8qan3 => intro w hSw; (try dsimp only at hSw); go_simp; (try with_reducible rfl)
                    case rest8_8qan3 =>
                    try simp only [List.getElem_toArray, List.getElem_cons_succ, List.getElem_cons_zero, Act.put, List.setIfInBounds_toArray, List.set_cons_zero, List.set_cons_succ]
                    refine wpAnyG_take' (i := 9) (v := ?v9_9qan3) rfl (by kernel_rfl) (by kernel_rfl) (by kernel_rfl) (by kernel_rfl) (fun _ _ _ h => h) (Or.inl ⟨by rfl, ?hy9_9qan3⟩) hS ?rest9_9qan3
                    case hy9_9qan3 => intro w hSw; (try dsimp only at hSw); go_simp; (try with_reducible rfl)
                    case rest9_9qan3 =>
                    try simp only [List.getElem_toArray, List.getElem_cons_succ, List.getElem_cons_zero, Act.put, List.setIfInBounds_toArray, List.set_cons_zero, List.set_cons_succ]
                    refine wpAnyG_take' (i := 10) (v := ?v10_10qan3) rfl (by kernel_rfl) (by kernel_rfl) (by kernel_rfl) (by kernel_rfl) (fun _ _ _ h => h) (Or.inl ⟨by rfl, ?hy10_10qan3⟩) hS ?rest10_10qan3
                    case hy10_10qan3 => intro w hSw; (try dsimp only at hSw); go_simp; (try with_reducible rfl)
                    case rest10_10qan3 =>
                    try simp only [List.getElem_toArray, List.getElem_cons_succ, List.getElem_cons_zero, Act.put, List.setIfInBounds_toArray, List.set_cons_zero, List.set_cons_succ]
                    refine wpAnyG_call (i := 11) (v := .int .i64 ((c : Int))) rfl (by kernel_rfl) (by kernel_rfl) (by kernel_rfl) (by kernel_rfl) (fun _ _ _ h => h) ⟨by rfl, fun wx hx => ⟨_, _, ?hr11qan3, (B3.out wx).mono fun e w' hh => ⟨hh.1, hh.2.symm⟩⟩⟩ hS ?rest11qan3
                    case hr11qan3 => go_simp; (try with_reducible rfl)
                    case rest11qan3 =>
                    try simp only [List.getElem_toArray, List.getElem_cons_succ, List.getElem_cons_zero, Act.put, List.setIfInBounds_toArray, List.set_cons_zero, List.set_cons_succ]
                    refine wpAnyG_take' (i := 12) (v := ?v12_11qan3) rfl (by kernel_rfl) (by kernel_rfl) (by kernel_rfl) (by kernel_rfl) (fun _ _ _ h => h) (Or.inl ⟨by rfl, ?hy12_11qan3⟩) hS ?rest12_11qan3
                    case hy12_11qan3 => intro w hSw; (try dsimp only at hSw); go_simp; (try with_reducible rfl)
                    case rest12_11qan3 =>
                    try simp only [List.getElem_toArray, List.getElem_cons_succ, List.getElem_cons_zero, Act.put, List.setIfInBounds_toArray, List.set_cons_zero, List.set_cons_succ]
                    refine wpAnyG_take' (i := 13) (v := ?v13_12qan3) rfl (by kernel_rfl) (by kernel_rfl) (by kernel_rfl) (by kernel_rfl) (fun _ _ _ h => h) (Or.inl ⟨by rfl, ?hy13_12qan3⟩) hS ?rest13_12qan3
                    case hy13_12qan3 => intro w hSw; (try dsimp only at hSw); go_simp; (try with_reducible rfl)
                    case rest13_12qan3 =>
                    try simp only [List.getElem_toArray, List.getElem_cons_succ, List.getElem_cons_zero, Act.put, List.setIfInBounds_toArray, List.set_cons_zero, List.set_cons_succ]
                    refine wpAnyG_take' (i := 14) (v := ?v14_13qan3) rfl (by kernel_rfl) (by kernel_rfl) (by kernel_rfl) (by kernel_rfl) (fun _ _ _ h => h) (Or.inl ⟨by rfl, ?hy14_13qan3⟩) hS ?rest14_13qan3
                    case hy14_13qan3 => intro w hSw; (try dsimp only at hSw); go_simp; (try with_reducible rfl)
                    case rest14_13qan3 =>
                    try simp only [List.getElem_toArray, List.getElem_cons_succ, List.getElem_cons_zero, Act.put, List.setIfInBounds_toArray, List.set_cons_zero, List.set_cons_succ]
                    refine wpAnyG_take' (i := 15) (v := ?v15_14qan3) rfl (by kernel_rfl) (by kernel_rfl) (by kernel_rfl) (by kernel_rfl) (fun _ _ _ h => h) (Or.inl ⟨by rfl, ?hy15_14qan3⟩) hS ?rest15_14qan3
                    case hy15_14qan3 => intro w hSw; (try dsimp only at hSw); go_simp; (try with_reducible rfl)
                    case rest15_14qan3 =>
                    try simp only [List.getElem_toArray, List.getElem_cons_succ, List.getElem_cons_zero, Act.put, List.setIfInBounds_toArray, List.set_cons_zero, List.set_cons_succ]
                    refine wpAnyG_take' (i := 16) (v := ?v16_15qan3) rfl (by kernel_rfl) (by kernel_rfl) (by kernel_rfl) (by kernel_rfl) (fun _ _ _ h => h) (Or.inl ⟨by rfl, ?hy16_15qan3⟩) hS ?rest16_15qan3
                    case hy16_15qan3 => intro w hSw; (try dsimp only at hSw); go_simp; (try with_reducible rfl)
                    case rest16_15qan3 =>
                    try simp only [List.getElem_toArray, List.getElem_cons_succ, List.getElem_cons_zero, Act.put, List.setIfInBounds_toArray, List.set_cons_zero, List.set_cons_succ]
                    refine wpAnyG_one (i := 17) (by kernel_rfl) rfl (fun K hK => ?_)
                    go_simp
                    refine Calls.mono HAD.out ?_
                    rintro r8 w8 ⟨a8, c8, q8, rfl, hq8, h6⟩
                    clear gz k0_ k1_ k2_ k3_ k4_ k5_ HAD hS
                    obtain ⟨y9, y0, y1, y2, y3, y4, y5⟩ := HCELLS.out w8 h6.drop
                    have H6 := Lib.hid (And.intro hq8 h6)
                    clear h6 hq8
                    (try dsimp only); repeat' (first | go_values | go_skip | go_guarded | go_step | go_upon | go_back)
                    refine hK.out _ _ (fun _ => ?hS16qan3) ?rest16qan3
                    case hS16qan3 => exact ⟨y9, y0, y1, y2, y3, y4, y5⟩
                    clear K hK
                    try simp only [List.getElem_toArray, List.getElem_cons_succ, List.getElem_cons_zero, Act.put, List.setIfInBounds_toArray, List.set_cons_zero, List.set_cons_succ]
                    refine wpAnyG_one (i := 18) (by kernel_rfl) rfl (fun K hK => ?_)
                    go_simp
                    refine hK.out _ _ (fun _ => ?hS17qan3) ?rest17qan3
                    case hS17qan3 => exact ⟨y9, y0, y1, y2, y3, y4, y5⟩
                    clear K hK
                    try simp only [List.getElem_toArray, List.getElem_cons_succ, List.getElem_cons_zero, Act.put, List.setIfInBounds_toArray, List.set_cons_zero, List.set_cons_succ]
                    refine wpAnyG_take' (i := 19) (v := ?v19_18qan3) rfl (by kernel_rfl) (by kernel_rfl) (by kernel_rfl) (by kernel_rfl) (fun _ _ _ h => h) (Or.inl ⟨by rfl, ?hy19_18qan3⟩) ⟨y9, y0, y1, y2, y3, y4, y5⟩ ?rest19_18qan3
                    case hy19_18qan3 => intro w hSw; (try dsimp only at hSw); go_simp; (try with_reducible rfl)
                    case rest19_18qan3 =>
                    try simp only [List.getElem_toArray, List.getElem_cons_succ, List.getElem_cons_zero, Act.put, List.setIfInBounds_toArray, List.set_cons_zero, List.set_cons_succ]
                    refine wpAnyG_take' (i := 20) (v := ?v20_19qan3) rfl (by kernel_rfl) (by kernel_rfl) (by kernel_rfl) (by kernel_rfl) (fun _ _ _ h => h) (Or.inl ⟨by rfl, ?hy20_19qan3⟩) ⟨y9, y0, y1, y2, y3, y4, y5⟩ ?rest20_19qan3
                    case hy20_19qan3 => intro w hSw; (try dsimp only at hSw); go_simp; (try with_reducible rfl)
                    case rest20_19qan3 =>
                    try simp only [List.getElem_toArray, List.getElem_cons_succ, List.getElem_cons_zero, Act.put, List.setIfInBounds_toArray, List.set_cons_zero, List.set_cons_succ]
                    refine wpAnyG_one (i := 21) (by kernel_rfl) rfl (fun K hK => ?_)
                    go_simp
                    refine hK.out _ _ (fun _ => ?hS20qan3) ?rest20qan3
                    case hS20qan3 => exact ⟨y9, y0, y1, y2, y3, y4, y5⟩
                    clear K hK
                    try simp only [List.getElem_toArray, List.getElem_cons_succ, List.getElem_cons_zero, Act.put, List.setIfInBounds_toArray, List.set_cons_zero, List.set_cons_succ]
                    refine wpAnyG_one (i := 22) (by kernel_rfl) rfl (fun K hK => ?_)
                    go_simp
                    refine hK.out _ _ (fun hno => by cases hno) ?_
                    clear K hK
                    try simp only [List.getElem_toArray, List.getElem_cons_succ, List.getElem_cons_zero, Act.put, List.setIfInBounds_toArray, List.set_cons_zero, List.set_cons_succ]
                    refine wpAnyG_done (by kernel_rfl) ?_ _
                    try simp only [List.getElem_toArray, List.getElem_cons_succ, List.getElem_cons_zero, Act.put, List.setIfInBounds_toArray, List.set_cons_zero, List.set_cons_succ]
                    (try dsimp only); repeat' (first | go_values | go_skip | go_guarded | go_step | go_upon | go_back)
                    go_roundw
                    case rel => exact ⟨t + 1, _, by have := HTE.out.1; omega, by go_num, by rw [HTE.out.2.2, List.map_append, List.map_append, HTE.out.2.1]; simp [OvM.pr, H6.out.1], H6.out.2⟩
                    case measure => have := HTE.out.1; simp [intOf]; omega
                  · have W1 : IntKind.i64.wrap 2 = 2 := by kernel_rfl
                    have W2 : IntKind.i64.wrap ((t : Int) * 2) = (t : Int) * 2 := IntWalk.i64_in _ (by omega)
                    have W3 : IntKind.i64.wrap ((t : Int) * 2 + (c : Int)) = (t : Int) * 2 + (c : Int) := IntWalk.i64_in _ (by omega)
                    have m1 : ((t : Int) * 2 + (c : Int)) % (i : Int) = (u : Int) := by rw [hu]; unfold idxK; simp
                    have m2 : ((t : Int) * 2 + (c : Int)).tmod (i : Int) = (u : Int) := by rw [Int.tmod_eq_emod_of_nonneg (by omega), m1]
                    have B2 := Lib.hid (show ∀ wx, Calls Tryd.prog 8 #[.int .i64 x2, .int .i64 2] wx fun e w' => e = .returned (.int .i64 1) ∧ wx = w' from HB2.out)
                    clear hu hun
                    (try dsimp only); repeat' (first | go_values | go_skip | go_guarded | go_step | go_upon | go_back)
                    refine (HF.out _).mono ?_
                    rintro r0 w12 ⟨rfl, rfl⟩
                    (try dsimp only); repeat' (first | go_values | go_skip | go_guarded | go_step | go_upon | go_back)
                    refine wp_region_G (fun w' => w'.cell? ⟨bz, 2, none⟩ = some (.int .i64 x2) ∧ w'.cell? ⟨gx, u * 6, none⟩ = some (.int .i64 zf) ∧ w'.cell? ⟨gx, u * 6 + 1, none⟩ = some (.int .i64 zl) ∧ w'.cell? ⟨gx, u * 6 + 2, none⟩ = some (.int .i64 zb) ∧ w'.cell? ⟨gx, u * 6 + 3, none⟩ = some (.slice none 0 0) ∧ w'.cell? ⟨gx, u * 6 + 4, none⟩ = some (.slice za zp.length zn) ∧ w'.cell? ⟨gx, u * 6 + 5, none⟩ = some (.int .i64 zc)) [22] (by kernel_rfl) ⟨gz, k0_, k1_, k2_, k3_, k4_, k5_⟩ (fun hS => ?_)
                    try dsimp only at hS
                    refine wpAnyG_take' (i := 0) (v := ?v0_1qbn4) rfl (by kernel_rfl) (by kernel_rfl) (by kernel_rfl) (by kernel_rfl) (fun _ _ _ h => h) (Or.inl ⟨by rfl, ?hy0_1qbn4⟩) hS ?rest0_1qbn4
                    case hy0_1qbn4 => intro w hSw; (try dsimp only at hSw); go_simp; (try with_reducible rfl)
                    case rest0_1qbn4 =>
                    try simp only [List.getElem_toArray, List.getElem_cons_succ, List.getElem_cons_zero, Act.put, List.setIfInBounds_toArray, List.set_cons_zero, List.set_cons_succ]
                    refine wpAnyG_take' (i := 1) (v := ?v1_2qbn4) rfl (by kernel_rfl) (by kernel_rfl) (by kernel_rfl) (by kernel_rfl) (fun _ _ _ h => h) (Or.inl ⟨by rfl, ?hy1_2qbn4⟩) hS ?rest1_2qbn4
                    case hy1_2qbn4 => intro w hSw; (try dsimp only at hSw); go_simp; (try with_reducible rfl)
                    case rest1_2qbn4 =>
                    try simp only [List.getElem_toArray, List.getElem_cons_succ, List.getElem_cons_zero, Act.put, List.setIfInBounds_toArray, List.set_cons_zero, List.set_cons_succ]
                    refine wpAnyG_take' (i := 2) (v := ?v2_3qbn4) rfl (by kernel_rfl) (by kernel_rfl) (by kernel_rfl) (by kernel_rfl) (fun _ _ _ h => h) (Or.inl ⟨by rfl, ?hy2_3qbn4⟩) hS ?rest2_3qbn4
                    case hy2_3qbn4 => intro w hSw; (try dsimp only at hSw); go_simp; (try with_reducible rfl)
                    case rest2_3qbn4 =>
                    try simp only [List.getElem_toArray, List.getElem_cons_succ, List.getElem_cons_zero, Act.put, List.setIfInBounds_toArray, List.set_cons_zero, List.set_cons_succ]
                    refine wpAnyG_take' (i := 3) (v := ?v3_4qbn4) rfl (by kernel_rfl) (by kernel_rfl) (by kernel_rfl) (by kernel_rfl) (fun _ _ _ h => h) (Or.inl ⟨by rfl, ?hy3_4qbn4⟩) hS ?rest3_4qbn4
                    case hy3_4qbn4 => intro w hSw; (try dsimp only at hSw); go_simp; (try with_reducible rfl)
                    case rest3_4qbn4 =>
                    try simp only [List.getElem_toArray, List.getElem_cons_succ, List.getElem_cons_zero, Act.put, List.setIfInBounds_toArray, List.set_cons_zero, List.set_cons_succ]
                    refine wpAnyG_take' (i := 4) (v := ?v4_5qbn4) rfl (by kernel_rfl) (by kernel_rfl) (by kernel_rfl) (by kernel_rfl) (fun _ _ _ h => h) (Or.inl ⟨by rfl, ?hy4_5qbn4⟩) hS ?rest4_5qbn4
                    case hy4_5qbn4 => intro w hSw; (try dsimp only at hSw); go_simp; (try with_reducible rfl)
                    case rest4_5qbn4 =>
                    try simp only [List.getElem_toArray, List.getElem_cons_succ, List.getElem_cons_zero, Act.put, List.setIfInBounds_toArray, List.set_cons_zero, List.set_cons_succ]
                    refine wpAnyG_call (i := 5) (v := .int .i64 (1)) rfl (by kernel_rfl) (by kernel_rfl) (by kernel_rfl) (by kernel_rfl) (fun _ _ _ h => h) ⟨by rfl, fun wx hx => ⟨_, _, ?hr5qbn4, (B2.out wx).mono fun e w' hh => ⟨hh.1, hh.2.symm⟩⟩⟩ hS ?rest5qbn4
                    case hr5qbn4 => go_simp; (try with_reducible rfl)
                    case rest5qbn4 =>
                    try simp only [List.getElem_toArray, List.getElem_cons_succ, List.getElem_cons_zero, Act.put, List.setIfInBounds_toArray, List.set_cons_zero, List.set_cons_succ]
                    refine wpAnyG_take' (i := 6) (v := ?v6_6qbn4) rfl (by kernel_rfl) (by kernel_rfl) (by kernel_rfl) (by kernel_rfl) (fun _ _ _ h => h) (Or.inl ⟨by rfl, ?hy6_6qbn4⟩) hS ?rest6_6qbn4
                    case hy6_6qbn4 => intro w hSw; (try dsimp only at hSw); go_simp; (try with_reducible rfl)
                    case rest6_6qbn4 =>
                    try simp only [List.getElem_toArray, List.getElem_cons_succ, List.getElem_cons_zero, Act.put, List.setIfInBounds_toArray, List.set_cons_zero, List.set_cons_succ]
                    refine wpAnyG_take' (i := 7) (v := ?v7_7qbn4) rfl (by kernel_rfl) (by kernel_rfl) (by kernel_rfl) (by kernel_rfl) (fun _ _ _ h => h) (Or.inl ⟨by rfl, ?hy7_7qbn4⟩) hS ?rest7_7qbn4
                    case hy7_7qbn4 => intro w hSw; (try dsimp only at hSw); go_simp; (try with_reducible rfl)
                    case rest7_7qbn4 =>
                    try simp only [List.getElem_toArray, List.getElem_cons_succ, List.getElem_cons_zero, Act.put, List.setIfInBounds_toArray, List.set_cons_zero, List.set_cons_succ]
                    refine wpAnyG_take' (i := 8) (v := ?v8_8qbn4) rfl (by kernel_rfl) (by kernel_rfl) (by kernel_rfl) (by kernel_rfl) (fun _ _ _ h => h) (Or.inl ⟨by rfl, ?hy8_8qbn4⟩) hS ?rest8_8qbn4
                    case hy8_8qbn4 => intro w hSw; (try dsimp only at hSw); go_simp; (try with_reducible rfl)
                    case rest8_8qbn4 =>
                    try simp only [List.getElem_toArray, List.getElem_cons_succ, List.getElem_cons_zero, Act.put, List.setIfInBounds_toArray, List.set_cons_zero, List.set_cons_succ]
                    refine wpAnyG_take' (i := 9) (v := ?v9_9qbn4) rfl (by kernel_rfl) (by kernel_rfl) (by kernel_rfl) (by kernel_rfl) (fun _ _ _ h => h) (Or.inl ⟨by rfl, ?hy9_9qbn4⟩) hS ?rest9_9qbn4
                    case hy9_9qbn4 => intro w hSw; (try dsimp only at hSw); go_simp; (try with_reducible rfl)
                    case rest9_9qbn4 =>
                    try simp only [List.getElem_toArray, List.getElem_cons_succ, List.getElem_cons_zero, Act.put, List.setIfInBounds_toArray, List.set_cons_zero, List.set_cons_succ]
                    refine wpAnyG_take' (i := 10) (v := ?v10_10qbn4) rfl (by kernel_rfl) (by kernel_rfl) (by kernel_rfl) (by kernel_rfl) (fun _ _ _ h => h) (Or.inl ⟨by rfl, ?hy10_10qbn4⟩) hS ?rest10_10qbn4
                    case hy10_10qbn4 => intro w hSw; (try dsimp only at hSw); go_simp; (try with_reducible rfl)
                    case rest10_10qbn4 =>
                    try simp only [List.getElem_toArray, List.getElem_cons_succ, List.getElem_cons_zero, Act.put, List.setIfInBounds_toArray, List.set_cons_zero, List.set_cons_succ]
                    refine wpAnyG_call (i := 11) (v := .int .i64 ((c : Int))) rfl (by kernel_rfl) (by kernel_rfl) (by kernel_rfl) (by kernel_rfl) (fun _ _ _ h => h) ⟨by rfl, fun wx hx => ⟨_, _, ?hr11qbn4, (B3.out wx).mono fun e w' hh => ⟨hh.1, hh.2.symm⟩⟩⟩ hS ?rest11qbn4
                    case hr11qbn4 => go_simp; (try with_reducible rfl)
                    case rest11qbn4 =>
                    try simp only [List.getElem_toArray, List.getElem_cons_succ, List.getElem_cons_zero, Act.put, List.setIfInBounds_toArray, List.set_cons_zero, List.set_cons_succ]
                    refine wpAnyG_take' (i := 12) (v := ?v12_11qbn4) rfl (by kernel_rfl) (by kernel_rfl) (by kernel_rfl) (by kernel_rfl) (fun _ _ _ h => h) (Or.inl ⟨by rfl, ?hy12_11qbn4⟩) hS ?rest12_11qbn4
                    case hy12_11qbn4 => intro w hSw; (try dsimp only at hSw); go_simp; (try with_reducible rfl)
                    case rest12_11qbn4 =>
                    try simp only [List.getElem_toArray, List.getElem_cons_succ, List.getElem_cons_zero, Act.put, List.setIfInBounds_toArray, List.set_cons_zero, List.set_cons_succ]
                    refine wpAnyG_take' (i := 13) (v := ?v13_12qbn4) rfl (by kernel_rfl) (by kernel_rfl) (by kernel_rfl) (by kernel_rfl) (fun _ _ _ h => h) (Or.inl ⟨by rfl, ?hy13_12qbn4⟩) hS ?rest13_12qbn4
                    case hy13_12qbn4 => intro w hSw; (try dsimp only at hSw); go_simp; (try with_reducible rfl)
                    case rest13_12qbn4 =>
                    try simp only [List.getElem_toArray, List.getElem_cons_succ, List.getElem_cons_zero, Act.put, List.setIfInBounds_toArray, List.set_cons_zero, List.set_cons_succ]
                    refine wpAnyG_take' (i := 14) (v := ?v14_13qbn4) rfl (by kernel_rfl) (by kernel_rfl) (by kernel_rfl) (by kernel_rfl) (fun _ _ _ h => h) (Or.inl ⟨by rfl, ?hy14_13qbn4⟩) hS ?rest14_13qbn4
                    case hy14_13qbn4 => intro w hSw; (try dsimp only at hSw); go_simp; (try with_reducible rfl)
                    case rest14_13qbn4 =>
                    try simp only [List.getElem_toArray, List.getElem_cons_succ, List.getElem_cons_zero, Act.put, List.setIfInBounds_toArray, List.set_cons_zero, List.set_cons_succ]
                    refine wpAnyG_take' (i := 15) (v := ?v15_14qbn4) rfl (by kernel_rfl) (by kernel_rfl) (by kernel_rfl) (by kernel_rfl) (fun _ _ _ h => h) (Or.inl ⟨by rfl, ?hy15_14qbn4⟩) hS ?rest15_14qbn4
                    case hy15_14qbn4 => intro w hSw; (try dsimp only at hSw); go_simp; (try with_reducible rfl)
                    case rest15_14qbn4 =>
                    try simp only [List.getElem_toArray, List.getElem_cons_succ, List.getElem_cons_zero, Act.put, List.setIfInBounds_toArray, List.set_cons_zero, List.set_cons_succ]
                    refine wpAnyG_take' (i := 16) (v := ?v16_15qbn4) rfl (by kernel_rfl) (by kernel_rfl) (by kernel_rfl) (by kernel_rfl) (fun _ _ _ h => h) (Or.inl ⟨by rfl, ?hy16_15qbn4⟩) hS ?rest16_15qbn4
                    case hy16_15qbn4 => intro w hSw; (try dsimp only at hSw); go_simp; (try with_reducible rfl)
                    case rest16_15qbn4 =>
                    try simp only [List.getElem_toArray, List.getElem_cons_succ, List.getElem_cons_zero, Act.put, List.setIfInBounds_toArray, List.set_cons_zero, List.set_cons_succ]
                    refine wpAnyG_one (i := 17) (by kernel_rfl) rfl (fun K hK => ?_)
                    go_simp
                    refine Calls.mono HAD.out ?_
                    rintro r8 w8 ⟨a8, c8, q8, rfl, hq8, h6⟩
                    clear gz k0_ k1_ k2_ k3_ k4_ k5_ HAD hS
                    obtain ⟨y9, y0, y1, y2, y3, y4, y5⟩ := HCELLS.out w8 h6.drop
                    have H6 := Lib.hid (And.intro hq8 h6)
                    clear h6 hq8
                    (try dsimp only); repeat' (first | go_values | go_skip | go_guarded | go_step | go_upon | go_back)
                    refine hK.out _ _ (fun _ => ?hS16qbn4) ?rest16qbn4
                    case hS16qbn4 => exact ⟨y9, y0, y1, y2, y3, y4, y5⟩
                    clear K hK
                    try simp only [List.getElem_toArray, List.getElem_cons_succ, List.getElem_cons_zero, Act.put, List.setIfInBounds_toArray, List.set_cons_zero, List.set_cons_succ]
                    refine wpAnyG_one (i := 18) (by kernel_rfl) rfl (fun K hK => ?_)
                    go_simp
                    refine hK.out _ _ (fun _ => ?hS17qbn4) ?rest17qbn4
                    case hS17qbn4 => exact ⟨y9, y0, y1, y2, y3, y4, y5⟩
                    clear K hK
                    try simp only [List.getElem_toArray, List.getElem_cons_succ, List.getElem_cons_zero, Act.put, List.setIfInBounds_toArray, List.set_cons_zero, List.set_cons_succ]
                    refine wpAnyG_take' (i := 19) (v := ?v19_18qbn4) rfl (by kernel_rfl) (by kernel_rfl) (by kernel_rfl) (by kernel_rfl) (fun _ _ _ h => h) (Or.inl ⟨by rfl, ?hy19_18qbn4⟩) ⟨y9, y0, y1, y2, y3, y4, y5⟩ ?rest19_18qbn4
                    case hy19_18qbn4 => intro w hSw; (try dsimp only at hSw); go_simp; (try with_reducible rfl)
                    case rest19_18qbn4 =>
                    try simp only [List.getElem_toArray, List.getElem_cons_succ, List.getElem_cons_zero, Act.put, List.setIfInBounds_toArray, List.set_cons_zero, List.set_cons_succ]
                    refine wpAnyG_take' (i := 20) (v := ?v20_19qbn4) rfl (by kernel_rfl) (by kernel_rfl) (by kernel_rfl) (by kernel_rfl) (fun _ _ _ h => h) (Or.inl ⟨by rfl, ?hy20_19qbn4⟩) ⟨y9, y0, y1, y2, y3, y4, y5⟩ ?rest20_19qbn4
                    case hy20_19qbn4 => intro w hSw; (try dsimp only at hSw); go_simp; (try with_reducible rfl)
                    case rest20_19qbn4 =>
                    try simp only [List.getElem_toArray, List.getElem_cons_succ, List.getElem_cons_zero, Act.put, List.setIfInBounds_toArray, List.set_cons_zero, List.set_cons_succ]
                    refine wpAnyG_one (i := 21) (by kernel_rfl) rfl (fun K hK => ?_)
                    go_simp
                    refine hK.out _ _ (fun _ => ?hS20qbn4) ?rest20qbn4
                    case hS20qbn4 => exact ⟨y9, y0, y1, y2, y3, y4, y5⟩
                    clear K hK
                    try simp only [List.getElem_toArray, List.getElem_cons_succ, List.getElem_cons_zero, Act.put, List.setIfInBounds_toArray, List.set_cons_zero, List.set_cons_succ]
                    refine wpAnyG_one (i := 22) (by kernel_rfl) rfl (fun K hK => ?_)
                    go_simp
                    refine hK.out _ _ (fun hno => by cases hno) ?_
                    clear K hK
                    try simp only [List.getElem_toArray, List.getElem_cons_succ, List.getElem_cons_zero, Act.put, List.setIfInBounds_toArray, List.set_cons_zero, List.set_cons_succ]
                    refine wpAnyG_done (by kernel_rfl) ?_ _
                    try simp only [List.getElem_toArray, List.getElem_cons_succ, List.getElem_cons_zero, Act.put, List.setIfInBounds_toArray, List.set_cons_zero, List.set_cons_succ]
                    (try dsimp only); repeat' (first | go_values | go_skip | go_guarded | go_step | go_upon | go_back)
                    go_roundw
                    case rel => exact ⟨t + 1, _, by have := HTE.out.1; omega, by go_num, by rw [HTE.out.2.2, List.map_append, List.map_append, HTE.out.2.1]; simp [OvM.pr, H6.out.1], H6.out.2⟩
                    case measure => have := HTE.out.1; simp [intOf]; omega
                · have e0 : decide (t < en) = false := decide_eq_false hte
                  have e0' : decide ((t : Int) < (en : Int)) = false := decide_eq_false (by omega)
                  obtain rfl : t = en := by omega
                  have hti : t ≤ i := HNQ.out.2.2.1.2.2
                  have hnd := chosen_nodup i s c os t HFR.out.2 HSC.out.1 hti HP.out.1 HFR.out.1
                  have hmo : ∀ x ∈ chosen i s c os t, ∃ j, ∃ h : j < os.length, x = os[j] := fun x hx => by
                    obtain ⟨t', ht', rfl⟩ := List.mem_map.1 (show x ∈ (List.range t).map _ from hx)
                    have hlt : idxK i s c t' < os.length := by rw [HP.out.1]; exact Nat.mod_lt _ (by omega)
                    exact ⟨_, hlt, by rw [List.getD_eq_getElem?_getD, List.getElem?_eq_getElem hlt, Option.getD_some]⟩
                  have hAP : ∀ x ∈ chosen i s c os t, AddP i 100 x := fun x hx => by
                    obtain ⟨j, hj, rfl⟩ := hmo x hx
                    exact (HP.out.2.1 j hj).1
                  obtain ⟨r, hr, hrl, hrg⟩ := one_good i s c t le os HFR.out.2 HSC.out.1 HP.out.1 (by have := HNQ.out.2.2.1; omega) hti HP.out.2.2.2
                  have hgm : os[idxK i s c r] ∈ chosen i s c os t := List.mem_map.2 ⟨r, List.mem_range.2 hr, by rw [List.getD_eq_getElem?_getD, List.getElem?_eq_getElem hrl, Option.getD_some]⟩
                  have hgA := hAP _ hgm
                  have hgb : os[idxK i s c r] ∈ byFr (chosen i s c os t) i := (mem_byFr hnd).2 ⟨hgm, hgA.2.2.2.2.1, hgA.2.2.2.2.2.1⟩
                  have hne : 0 < (byFr (chosen i s c os t) i).length := List.length_pos_of_mem hgb
                  have hym := minO_in hne
                  have hyb := minO_best hgb
                  have hBS := oBestL (chosen i s c os t) hs hys HNQ.out.2.1 (bdL_of (n := i) (by have := HNQ.out.2.1; omega) hAP) hne
                  have hyl : ys.length = t := by rw [pr_length hys, chosen_len]
                  generalize minO (byFr (chosen i s c os t) i) = y at *
                  have hyA := hAP _ hym
                  obtain ⟨j, hj, hyj⟩ := hmo _ hym
                  have hyO := HP.out.2.1 j hj
                  rw [← hyj] at hyO
                  have hyla : le ≤ y.la := by
                    have : ¬ y.la < os[idxK i s c r].la := fun h => hyb (.inl h)
                    omega
                  obtain ⟨hy1, hy2⟩ := hyO.2.2 hyla
                  obtain ⟨m, hm⟩ : ∃ m, m = y.ps.length := ⟨_, rfl⟩
                  have m24 : m ≤ 24 := by rw [hm]; exact hyA.2.2.1
                  rw [← hm] at hBS hy1
                  obtain ⟨yf, hyf⟩ : ∃ q, q = y.fr := ⟨_, rfl⟩
                  obtain ⟨yl, hyl2⟩ : ∃ q, q = y.la := ⟨_, rfl⟩
                  obtain ⟨yb, hyb2⟩ : ∃ q, q = y.ba := ⟨_, rfl⟩
                  obtain ⟨yco, hyco⟩ : ∃ q, q = y.co := ⟨_, rfl⟩
                  rw [← hyf, ← hyl2, ← hyb2, ← hyco] at hBS
                  rw [← hyl2] at hyla
                  have HB := Lib.hid hBS
                  have HY2 := Lib.hid (And.intro hyl (And.intro hm hy2))
                  have d1 : decide (yl < le) = false := decide_eq_false (by omega)
                  have d2 : decide (m < sh) = false := decide_eq_false (by omega)
                  have d2' : decide ((m : Int) < (sh : Int)) = false := decide_eq_false (by omega)
                  have sm : (sh : Int) ≤ (m : Int) := by omega
                  clear hs hte ht hti hnd hmo hAP hr hrl hrg hgm hgA hgb hne hym hyb hBS hyl hyA hj hyj hyO hyla hy1 hy2 hm hyf hyl2 hyb2 hyco HP HFR HSC HB2 HB3 hys
                  (try dsimp only); repeat' (first | go_values | go_skip | go_guarded | go_step | go_upon | go_back)
                  refine (HF.out _).mono ?_
                  rintro r0 w12 ⟨rfl, rfl⟩
                  (try dsimp only); repeat' (first | go_values | go_skip | go_guarded | go_step | go_upon | go_back)
                  refine HB.out.mono ?_
                  rintro r0 w13 ⟨a3, c3, qs, rfl, hqs, h7⟩
                  have h8 := h7.alloc (.cells #[.int .i64 0, .int .i64 0, .int .i64 0, .slice none 0 0, .slice none 0 0, .int .i64 0] 33)
                  obtain ⟨b19, hb19⟩ : ∃ q, q = w13.heap.size := ⟨_, rfl⟩
                  obtain ⟨v19, hv19⟩ : ∃ q, q = w13.alloc (.cells #[.int .i64 0, .int .i64 0, .int .i64 0, .slice none 0 0, .slice none 0 0, .int .i64 0] 33) := ⟨_, rfl⟩
                  rw [← hb19, ← hv19] at h8
                  have HT := Lib.hid (Sep.thereAt h8 0 6 (Nat.le_refl 6))
                  have h9 := Sep.storeW h8 #[.int .i64 yf, .int .i64 yl, .int .i64 yb, .slice none 0 0, .slice a3 m c3, .int .i64 yco] rfl
                  obtain ⟨v20, hv20⟩ : ∃ q, q = v19.setCells b19 0 (#[.int .i64 yf, .int .i64 yl, .int .i64 yb, .slice none 0 0, .slice a3 m c3, .int .i64 yco] : Array Value).toList := ⟨_, rfl⟩
                  rw [← hv20] at h9
                  have g1 := h9.cell (o := 1) (x := .int .i64 yl) rfl
                  have g4 := h9.cell (o := 4) (x := .slice a3 m c3) rfl
                  have HQ := Lib.hid (show qs.length = m ∧ ∀ k, k < sh → (qs[k]?).map (·.1) = some (skE ((k : Int) + 1)) by
                    refine ⟨by have := congrArg List.length hqs; rw [HY2.out.2.1]; simpa using this, fun k hk => ?_⟩
                    rw [← List.getElem?_map, hqs, List.getElem?_map]
                    exact HY2.out.2.2 k hk)
                  have H9 := Lib.hid (Sep.pick h9 [0, 1, 2] rfl : Sep w [Cl b19 #[.int .i64 yf, .int .i64 yl, .int .i64 yb, .slice none 0 0, .slice a3 m c3, .int .i64 yco] 33, EnT (.slice a3 m c3) qs, OffT g b i 100 ys] v20)
                  clear h7 h8 h9 hqs HB
                  (try dsimp only); repeat' (first | (with_reducible show wpList _ _ _ (Oper.mk _ (Op.store 33 _ _) _ _ _ _ :: _) _ _; refine stopP ?_) | go_values | go_skip | go_guarded | go_step | go_upon | go_back)
                  unfold StopP
                  rw [← hv19, ← hb19]
                  clear hv19 hb19
                  refine wpList_store_mid rfl 33 (.tmp 19) (.tmp 123) rfl b19 0 #[.int .i64 yf, .int .i64 yl, .int .i64 yb, .slice none 0 0, .slice a3 m c3, .int .i64 yco] rfl rfl HT.out (by kernel_rfl) (by kernel_rfl) ?_
                  rw [← hv20]
                  clear hv20 HT
                  (try dsimp only); repeat' (first | go_values | go_skip | go_guarded | go_step | go_upon | go_back)
                  clear g1 g4 d1 d2 d2' e0 e0'
                  go_loopw [21] (fun kv wr => ∃ k : Nat, k ≤ sh ∧ kv = .int .i64 k ∧ Sep w [Cl b19 #[.int .i64 yf, .int .i64 yl, .int .i64 yb, .slice none 0 0, .slice a3 m c3, .int .i64 yco] 33, EnT (.slice a3 m c3) qs, OffT g b i 100 ys] wr) (fun kv _ => sh - (intOf kv).toNat)
                  case atStart => exact ⟨0, by omega, rfl, H9.out⟩
                  case round =>
                    obtain ⟨k, hk, rfl, hs⟩ := hrel
                    clear H9
                    have k0 : (0 : Int) ≤ (k : Int) := by omega
                    by_cases hks : k < sh
                    · have e0 : decide (k < sh) = true := decide_eq_true hks
                      have e0' : decide ((k : Int) < (sh : Int)) = true := decide_eq_true (by omega)
                      have k9 : (k : Int) < (sh : Int) := by omega
                      have km : (k : Int) < (m : Int) := by omega
                      have hen := oenough_any (Sep.offOpen (Sep.pick hs [2, 0, 1] rfl : Sep w [OffT g b i 100 ys, Cl b19 #[.int .i64 yf, .int .i64 yl, .int .i64 yb, .slice none 0 0, .slice a3 m c3, .int .i64 yco] 33, EnT (.slice a3 m c3) qs] wr)) ⟨by omega, by omega⟩
                      rw [show decide (enough i ≤ ((offS (i : Int) ys).length : Nat)) = true from decide_eq_true (by unfold offS; rw [List.length_map, HY2.out.1, HNQ.out.2.2.2]; exact Int.le_refl _)] at hen
                      have HE := Lib.hid hen
                      have HKS := Lib.hid hks
                      clear hs hen hk hks
                      (try dsimp only); repeat' (first | go_values | go_skip | go_guarded | go_step | go_upon | go_back)
                      refine HE.out.mono ?_
                      rintro r0 w14 ⟨rfl, h10⟩
                      clear HE
                      have hs : Sep w [Cl b19 #[.int .i64 yf, .int .i64 yl, .int .i64 yb, .slice none 0 0, .slice a3 m c3, .int .i64 yco] 33, EnT (.slice a3 m c3) qs, OffT g b i 100 ys] w14 := Sep.pick (Sep.offClose h10) [1, 2, 0] rfl
                      have g4 := hs.cell (o := 4) (x := .slice a3 m c3) rfl
                      have hkx : k < qs.length := by rw [HQ.out.1]; omega
                      obtain ⟨bx, off, rfl, -, -, -, ⟨e0, e1_, e2, e3, e4, e5, e6⟩, hlx⟩ := (Sep.enS (Sep.pick hs [1] rfl : Sep w [EnT (.slice a3 m c3) qs] w14)).at hkx
                      have hx0 : qs[k].1 = skE ((k : Int) + 1) := by
                        have := HQ.out.2 k HKS.out
                        rw [List.getElem?_eq_getElem hkx] at this
                        exact Option.some.inj this
                      obtain ⟨⟨x, v⟩, hxv⟩ : ∃ z, z = qs[k] := ⟨_, rfl⟩
                      rw [← hxv] at e0 e1_ e2 e3 e4 e5 e6 hlx hx0
                      dsimp only at e0 e1_ e2 e3 e4 e5 e6 hlx hx0
                      obtain ⟨vp, cp, rfl⟩ := hlx.len
                      have HROW := Lib.hid (row_w sh (Sep.start w14.drew) (by have := HSH.out.1; omega))
                      have HS14 := Lib.hid hs
                      have HLX := Lib.hid hlx
                      have HX0 := Lib.hid hx0
                      have lgx : w14.drew.cell? ⟨b19, 4, none⟩ = some (.slice (some ⟨bx, off, none⟩) m c3) := g4
                      clear h10 hs hkx hxv hlx hx0
                      (try dsimp only); repeat' (first | go_values | go_skip | go_guarded | go_step | go_upon | go_back)
                      refine wp_region_G (fun w' => w'.cell? ⟨b19, 4, none⟩ = some (.slice (some ⟨bx, off, none⟩) m c3) ∧ w'.cell? ⟨bx, off + k * 7, none⟩ = some (.int .i64 x.c) ∧ w'.cell? ⟨bx, off + k * 7 + 1, none⟩ = some (.int .i64 x.m) ∧ w'.cell? ⟨bx, off + k * 7 + 2, none⟩ = some (.int .i64 x.p.k) ∧ w'.cell? ⟨bx, off + k * 7 + 3, none⟩ = some (.string x.p.s.1) ∧ w'.cell? ⟨bx, off + k * 7 + 4, none⟩ = some (.int .i64 x.p.o) ∧ w'.cell? ⟨bx, off + k * 7 + 5, none⟩ = some (.int .i64 x.p.n) ∧ w'.cell? ⟨bx, off + k * 7 + 6, none⟩ = some (.slice vp x.p.ls.length cp)) [11, 12] (by kernel_rfl) ⟨g4, e0, e1_, e2, e3, e4, e5, e6⟩ (fun hS => ?_)
                      try dsimp only at hS
                      refine wpAnyG_take' (i := 0) (v := ?v0_1rn6) rfl (by kernel_rfl) (by kernel_rfl) (by kernel_rfl) (by kernel_rfl) (fun _ _ _ h => h) (Or.inl ⟨by rfl, ?hy0_1rn6⟩) hS ?rest0_1rn6
                      case hy0_1rn6 => intro w hSw; (try dsimp only at hSw); go_simp; (try with_reducible rfl)
                      case rest0_1rn6 =>
                      try simp only [List.getElem_toArray, List.getElem_cons_succ, List.getElem_cons_zero, Act.put, List.setIfInBounds_toArray, List.set_cons_zero, List.set_cons_succ]
                      refine wpAnyG_take' (i := 1) (v := ?v1_2rn6) rfl (by kernel_rfl) (by kernel_rfl) (by kernel_rfl) (by kernel_rfl) (fun _ _ _ h => h) (Or.inl ⟨by rfl, ?hy1_2rn6⟩) hS ?rest1_2rn6
                      case hy1_2rn6 => intro w hSw; (try dsimp only at hSw); go_simp; (try with_reducible rfl)
                      case rest1_2rn6 =>
                      try simp only [List.getElem_toArray, List.getElem_cons_succ, List.getElem_cons_zero, Act.put, List.setIfInBounds_toArray, List.set_cons_zero, List.set_cons_succ]
                      refine wpAnyG_take' (i := 2) (v := ?v2_3rn6) rfl (by kernel_rfl) (by kernel_rfl) (by kernel_rfl) (by kernel_rfl) (fun _ _ _ h => h) (Or.inl ⟨by rfl, ?hy2_3rn6⟩) hS ?rest2_3rn6
                      case hy2_3rn6 => intro w hSw; (try dsimp only at hSw); go_simp; (try with_reducible rfl)
                      case rest2_3rn6 =>
                      try simp only [List.getElem_toArray, List.getElem_cons_succ, List.getElem_cons_zero, Act.put, List.setIfInBounds_toArray, List.set_cons_zero, List.set_cons_succ]
                      refine wpAnyG_take' (i := 3) (v := ?v3_4rn6) rfl (by kernel_rfl) (by kernel_rfl) (by kernel_rfl) (by kernel_rfl) (fun _ _ _ h => h) (Or.inl ⟨by rfl, ?hy3_4rn6⟩) hS ?rest3_4rn6
                      case hy3_4rn6 => intro w hSw; (try dsimp only at hSw); go_simp; (try with_reducible rfl)
                      case rest3_4rn6 =>
                      try simp only [List.getElem_toArray, List.getElem_cons_succ, List.getElem_cons_zero, Act.put, List.setIfInBounds_toArray, List.set_cons_zero, List.set_cons_succ]
                      refine wpAnyG_take' (i := 4) (v := ?v4_5rn6) rfl (by kernel_rfl) (by kernel_rfl) (by kernel_rfl) (by kernel_rfl) (fun _ _ _ h => h) (Or.inl ⟨by rfl, ?hy4_5rn6⟩) hS ?rest4_5rn6
                      case hy4_5rn6 => intro w hSw; (try dsimp only at hSw); go_simp; (try with_reducible rfl)
                      case rest4_5rn6 =>
                      try simp only [List.getElem_toArray, List.getElem_cons_succ, List.getElem_cons_zero, Act.put, List.setIfInBounds_toArray, List.set_cons_zero, List.set_cons_succ]
                      refine wpAnyG_take' (i := 5) (v := ?v5_6rn6) rfl (by kernel_rfl) (by kernel_rfl) (by kernel_rfl) (by kernel_rfl) (fun _ _ _ h => h) (Or.inl ⟨by rfl, ?hy5_6rn6⟩) hS ?rest5_6rn6
                      case hy5_6rn6 => intro w hSw; (try dsimp only at hSw); go_simp; (try with_reducible rfl)
                      case rest5_6rn6 =>
                      try simp only [List.getElem_toArray, List.getElem_cons_succ, List.getElem_cons_zero, Act.put, List.setIfInBounds_toArray, List.set_cons_zero, List.set_cons_succ]
                      refine wpAnyG_take' (i := 6) (v := ?v6_7rn6) rfl (by kernel_rfl) (by kernel_rfl) (by kernel_rfl) (by kernel_rfl) (fun _ _ _ h => h) (Or.inl ⟨by rfl, ?hy6_7rn6⟩) hS ?rest6_7rn6
                      case hy6_7rn6 => intro w hSw; (try dsimp only at hSw); go_simp; (try with_reducible rfl)
                      case rest6_7rn6 =>
                      try simp only [List.getElem_toArray, List.getElem_cons_succ, List.getElem_cons_zero, Act.put, List.setIfInBounds_toArray, List.set_cons_zero, List.set_cons_succ]
                      refine wpAnyG_take' (i := 8) (v := ?v8_8rn6) rfl (by kernel_rfl) (by kernel_rfl) (by kernel_rfl) (by kernel_rfl) (fun _ _ _ h => h) (Or.inl ⟨by rfl, ?hy8_8rn6⟩) hS ?rest8_8rn6
                      case hy8_8rn6 => intro w hSw; (try dsimp only at hSw); go_simp; (try with_reducible rfl)
                      case rest8_8rn6 =>
                      try simp only [List.getElem_toArray, List.getElem_cons_succ, List.getElem_cons_zero, Act.put, List.setIfInBounds_toArray, List.set_cons_zero, List.set_cons_succ]
                      refine wpAnyG_one (i := 7) (by kernel_rfl) rfl (fun K hK => ?_)
                      go_simp
                      refine Calls.mono HROW.out ?_
                      rintro r7 w7 ⟨u, rfl, h6⟩
                      have hlow := h6.low
                      have p8 := cell_below lgx hlow
                      have p0 := cell_below (w := w14.drew) e0 hlow
                      have p1 := cell_below (w := w14.drew) e1_ hlow
                      have p2 := cell_below (w := w14.drew) e2 hlow
                      have p3 := cell_below (w := w14.drew) e3 hlow
                      have p4 := cell_below (w := w14.drew) e4 hlow
                      have p5 := cell_below (w := w14.drew) e5 hlow
                      have p6 := cell_below (w := w14.drew) e6 hlow
                      obtain ⟨au, cu, rfl, -⟩ := h6.enForm
                      rw [rowP_len] at h6 ⊢
                      have hkr : k < (rowP sh).length := by rw [rowP_len]; exact HKS.out
                      obtain ⟨by_, oy, rfl, -, -, -, ⟨q0_, q1, q2, q3, q4, q5, q6⟩, hly⟩ := h6.enS.at hkr
                      have hrw : (rowP sh)[k] = (x, .slice none 0 0) := by rw [HX0.out]; simp [rowP]
                      rw [hrw] at q0_ q1 q2 q3 q4 q5 q6 hly
                      dsimp only at q0_ q1 q2 q3 q4 q5 q6 hly
                      have hw7 := HS14.out.drew.onto1 h6
                      have hsm := esame_any x x (.slice vp x.p.ls.length cp) (.slice none 0 0) hw7.drop ((show LnS w14.drew (.slice vp x.p.ls.length cp) x.p.ls from HLX.out).below hlow) hly (lns_maxl hly)
                      rw [show enSame x x = true by unfold enSame sameB; simp] at hsm
                      have HS := Lib.hid hsm
                      unfold enV at HS
                      clear g4 e0 e1_ e2 e3 e4 e5 e6 lgx hS h6 hlow hkr hly hrw hw7 hsm HROW
                      (try dsimp only); repeat' (first | go_values | go_skip | go_guarded | go_step | go_upon | go_back)
                      refine hK.out _ _ (fun _ => ?hS9rn6) ?rest9rn6
                      case hS9rn6 => exact ⟨p8, p0, p1, p2, p3, p4, p5, p6⟩
                      clear K hK
                      try simp only [List.getElem_toArray, List.getElem_cons_succ, List.getElem_cons_zero, Act.put, List.setIfInBounds_toArray, List.set_cons_zero, List.set_cons_succ]
                      refine wpAnyG_one (i := 9) (by kernel_rfl) rfl (fun K hK => ?_)
                      go_simp
                      refine hK.out _ _ (fun _ => ?hS10rn6) ?rest10rn6
                      case hS10rn6 => exact ⟨p8, p0, p1, p2, p3, p4, p5, p6⟩
                      clear K hK
                      try simp only [List.getElem_toArray, List.getElem_cons_succ, List.getElem_cons_zero, Act.put, List.setIfInBounds_toArray, List.set_cons_zero, List.set_cons_succ]
                      refine wpAnyG_one (i := 10) (by kernel_rfl) rfl (fun K hK => ?_)
                      go_simp
                      refine hK.out _ _ (fun _ => ?hS11rn6) ?rest11rn6
                      case hS11rn6 => exact ⟨p8, p0, p1, p2, p3, p4, p5, p6⟩
                      clear K hK
                      try simp only [List.getElem_toArray, List.getElem_cons_succ, List.getElem_cons_zero, Act.put, List.setIfInBounds_toArray, List.set_cons_zero, List.set_cons_succ]
                      refine wpAnyG_one (i := 11) (by kernel_rfl) rfl (fun K hK => ?_)
                      go_simp
                      refine Calls.mono HS.out ?_
                      rintro r8 w8 ⟨rfl, h6⟩
                      clear HS q0_ q1 q2 q3 q4 q5 q6 p0 p1 p2 p3 p4 p5 p6 p8
                      have H6 := Lib.hid h6
                      clear h6
                      (try dsimp only); repeat' (first | go_values | go_skip | go_guarded | go_step | go_upon | go_back)
                      refine hK.out _ _ (fun hno => by cases hno) ?_
                      clear K hK
                      try simp only [List.getElem_toArray, List.getElem_cons_succ, List.getElem_cons_zero, Act.put, List.setIfInBounds_toArray, List.set_cons_zero, List.set_cons_succ]
                      refine wpAnyG_one (i := 12) (by kernel_rfl) rfl (fun K hK => ?_)
                      go_simp
                      refine hK.out _ _ (fun hno => by cases hno) ?_
                      clear K hK
                      try simp only [List.getElem_toArray, List.getElem_cons_succ, List.getElem_cons_zero, Act.put, List.setIfInBounds_toArray, List.set_cons_zero, List.set_cons_succ]
                      refine wpAnyG_done (by kernel_rfl) ?_ _
                      try simp only [List.getElem_toArray, List.getElem_cons_succ, List.getElem_cons_zero, Act.put, List.setIfInBounds_toArray, List.set_cons_zero, List.set_cons_succ]
                      (try dsimp only); repeat' (first | go_values | go_skip | go_guarded | go_step | go_upon | go_back)
                      go_roundw
                      case rel => exact ⟨k + 1, HKS.out, by go_num, H6.out⟩
                      case measure => have := HKS.out; simp [intOf]; omega
                    · have e0 : decide (k < sh) = false := decide_eq_false hks
                      have e0' : decide ((k : Int) < (sh : Int)) = false := decide_eq_false (by omega)
                      have HFN := Lib.hid hs.low
                      clear hs hk hks
                      (try dsimp only); repeat' (first | go_values | go_skip | go_guarded | go_step | go_upon | go_back)
                      go_ret
                      exact ⟨rfl, HFN.out⟩
end Go.Proofs.YthgndegjiodopaaDoor
