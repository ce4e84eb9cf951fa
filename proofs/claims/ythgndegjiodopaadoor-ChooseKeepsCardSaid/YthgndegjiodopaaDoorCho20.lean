/- Stage 18's laws: group. -/
import Derived.Test.YthgndegjiodopaaDoorCho19
import Derived.Test.YthgndegjiodopaaDoorBring
namespace Go.Proofs.YthgndegjiodopaaDoor
open Go Go.RowKit
set_option linter.unusedVariables false
set_option linter.unusedSimpArgs false
theorem cells3g {w0 w : World} {b : Nat} {v0 v1 v2 : Value} {t : TypeId} {L : List Thing} (h : Sep w0 (Cl b #[v0, v1, v2] t :: L) w) :
    w.cell? ⟨b, 0, none⟩ = some v0 ∧ w.cell? ⟨b, 1, none⟩ = some v1 ∧ w.cell? ⟨b, 2, none⟩ = some v2 := ⟨h.cell rfl, h.cell rfl, h.cell rfl⟩
set_option maxRecDepth 100000 in
set_option maxHeartbeats 32000000 in
theorem group_any {w0 w : World} {L : List Thing} (n sh : Nat) (le : Int) (a : Option Addr) (ln c : Nat) (ls : List Lg) (h : Sep w0 L w) (hn : n ≤ 15) (hsh : sh ≤ 12) (hlen : ls.length = ln) (hls : ∀ wx, Sep w0 L wx → LgS wx a ls) :
    Calls Tryd.prog 9 #[.int .i64 n, .slice a ln c, .int .i64 sh, .int .i64 le] w fun e w' => ∃ (a' : Option Addr) (c' : Nat) (xs : List OvM), e = .returned (.slice a' n c') ∧ xs.length = n ∧ xs.map OvM.pr = (grp sh le ls n).map OvM.pr ∧ Sep w0 (OfT (.slice a' n c') xs :: L) w' := by
  have H := Lib.hid h.ofNil
  have HL := Lib.hid (And.intro hlen hls)
  have n0 : (0 : Int) ≤ (n : Int) := by omega
  have n9 : (n : Int) ≤ 15 := by omega
  have sh0 : (0 : Int) ≤ (sh : Int) := by omega
  have sh9 : (sh : Int) ≤ 12 := by omega
  clear h hls hlen
  go_enter Tryd.func9, Tryd.ntmps9
  (try dsimp only); repeat' (first | go_values | go_skip | go_guarded | go_step | go_upon | go_back)
  go_loopw [9, 10] (fun pv iv wr => ∃ (i : Nat) (xs : List OvM) (av : Option Addr) (cv : Nat), i ≤ n ∧ iv = .int .i64 i ∧ pv = .slice av i cv ∧ xs.length = i ∧ xs.map OvM.pr = (grp sh le ls i).map OvM.pr ∧ Sep w0 (OfT pv xs :: L) wr) (fun _ iv _ => n - (intOf iv).toNat)
  case atStart => exact ⟨0, [], none, 0, by omega, rfl, rfl, rfl, rfl, H.out⟩
  case round =>
    obtain ⟨i, xs, av, cv, hi, rfl, rfl, hxl, hpr, hs⟩ := hrel
    clear H
    have i0 : (0 : Int) ≤ (i : Int) := by omega
    by_cases hin : i < n
    · have hd : decide (i < n) = true := decide_eq_true hin
      have hd' : decide ((i : Int) < (n : Int)) = true := decide_eq_true (by omega)
      have i9 : (i : Int) < 15 := by omega
      have HX := Lib.hid (And.intro hxl hpr)
      have HIN := Lib.hid hin
      by_cases hil : i < ln
      · have hdx : decide (i < ln) = true := decide_eq_true hil
        have hdx' : decide ((i : Int) < (ln : Int)) = true := decide_eq_true (by omega)
        have hil' : (i : Int) < (ln : Int) := by omega
        have hilx : i < ls.length := by rw [HL.out.1]; exact hil
        have hLS := HL.out.2 _ hs.drop
        obtain ⟨b0, off, rfl, hbl, d0, d1, d2⟩ := hLS i hilx
        obtain ⟨⟨z0, z1, z2⟩, hz⟩ : ∃ z, z = ls[i] := ⟨_, rfl⟩
        rw [← hz] at d0 d1 d2
        dsimp only at d0 d1 d2
        have HLG := Lib.hid (show (z0, z1, z2) = lgAt ls i by unfold lgAt; rw [List.getD_eq_getElem?_getD, List.getElem?_eq_getElem hilx, ← hz]; rfl)
        have h5 := hs.alloc (.cells #[.int .i64 0, .int .i64 0, .int .i64 0] 63)
        obtain ⟨b3, hb3⟩ : ∃ q, q = wr.heap.size := ⟨_, rfl⟩
        rw [← hb3] at h5 hbl
        have hne : (b0 == b3) = false := beq_eq_false_iff_ne.2 (by omega)
        have hne' : (b3 == b0) = false := beq_eq_false_iff_ne.2 (by omega)
        have hne2 : b0 ≠ b3 := by omega
        have hne3 : b3 ≠ b0 := by omega
        have l0 : (wr.alloc (.cells #[.int .i64 0, .int .i64 0, .int .i64 0] 63)).cell? ⟨b0, off + i * 3, none⟩ = some (.int .i64 z0) := ((Below.refl _ wr).alloc (Nat.le_refl _) _).cell (p := ⟨b0, off + i * 3, none⟩) (by rw [← hb3]; exact hbl) |>.trans d0
        have l1 : (wr.alloc (.cells #[.int .i64 0, .int .i64 0, .int .i64 0] 63)).cell? ⟨b0, off + i * 3 + 1, none⟩ = some (.int .i64 z1) := ((Below.refl _ wr).alloc (Nat.le_refl _) _).cell (p := ⟨b0, off + i * 3 + 1, none⟩) (by rw [← hb3]; exact hbl) |>.trans d1
        have l2 : (wr.alloc (.cells #[.int .i64 0, .int .i64 0, .int .i64 0] 63)).cell? ⟨b0, off + i * 3 + 2, none⟩ = some (.int .i64 z2) := ((Below.refl _ wr).alloc (Nat.le_refl _) _).cell (p := ⟨b0, off + i * 3 + 2, none⟩) (by rw [← hb3]; exact hbl) |>.trans d2
        have g0 := h5.cell (o := 0) rfl
        have g1 := h5.cell (o := 1) rfl
        have g2 := h5.cell (o := 2) rfl
        have f0 := h5.frozen 0
        have f1 := h5.frozen 1
        have f2 := h5.frozen 2
        have h7 := hs.alloc (.cells #[.int .i64 z0, .int .i64 z1, .int .i64 z2] 63)
        obtain ⟨w7, hw7⟩ : ∃ q, q = wr.alloc (.cells #[.int .i64 z0, .int .i64 z1, .int .i64 z2] 63) := ⟨_, rfl⟩
        rw [← hw7, ← hb3] at h7
        have HS7 := Lib.hid h7
        obtain ⟨e0, e1, e2⟩ := cells3g h7
        clear hs h5 h7 hLS hilx hz hin hi hxl hpr d0 d1 d2 hil
        (try dsimp only); repeat' (first | go_values | go_skip | go_guarded | go_step | go_upon | go_back)
        rw [← hb3, ← hw7]
        clear l0 l1 l2 g0 g1 g2 f0 f1 f2 hne hne' hne2 hne3 hb3 hw7
        obtain ⟨y1, hy1⟩ : ∃ q, q = z0 % 100 := ⟨_, rfl⟩
        obtain ⟨y2, hy2, y29⟩ : ∃ q : Nat, z1 % 20 = (q : Int) ∧ q ≤ 19 := ⟨(z1 % 20).toNat, by omega, by omega⟩
        have B0 := Lib.hid (fun wx => (bring_any z0 100 wx ⟨by decide, by decide⟩).mono fun e w' hh => And.intro hh.1 hh.2.symm)
        have B1 := Lib.hid (fun wx => (bring_any z1 20 wx ⟨by decide, by decide⟩).mono fun e w' hh => And.intro hh.1 hh.2.symm)
        rw [← hy1] at B0
        rw [hy2] at B1
        have HY1 := Lib.hid (show gLa (z0, z1, z2) = y1 from hy1.symm)
        have HMA := Lib.hid (show gMa sh le (z0, z1, z2) = if le ≤ y1 then max y2 sh else y2 by unfold gMa; rw [HY1.out]; dsimp only; rw [hy2]; rfl)
        clear hy1 hy2
        go_quiet (first | (go_at_call_of 8 (Value.int .i64 z0); exact Calls.quiet_of_same (B0.out _)) | (go_at_call_of 8 (Value.int .i64 z1); exact Calls.quiet_of_same (B1.out _)))
        clear B0 B1
        by_cases hle : le ≤ y1
        · have hdl : decide (le ≤ y1) = true := decide_eq_true hle
          have hdl' : decide (y1 < le) = false := decide_eq_false (by omega)
          obtain ⟨m, hm⟩ : ∃ m, m = max y2 sh := ⟨_, rfl⟩
          have M0 := Lib.hid (show (if y2 < sh then (sh : Int) else (y2 : Int)) = (m : Int) by split <;> omega)
          have HMD := Lib.hid (show m = gMa sh le (z0, z1, z2) by rw [HMA.out, if_pos hle]; exact hm)
          have m0 : (0 : Int) ≤ (m : Int) := by omega
          have m9 : (m : Int) ≤ 19 := by omega
          clear hle hm HMA
          have HS8 := Lib.hid (HS7.out.drewN nq)
          obtain ⟨e0, e1, e2⟩ := cells3g HS8.out
          clear HS7
          (try dsimp only); repeat' (first | go_values | go_skip | go_guarded | go_step | go_upon | go_back)
          simp only [M0.out]
          clear M0 hdl hdl'
          have hco : gCo sh le (z0, z1, z2) = minI (maxI (minI (z2 % ((m : Int) + 1)) sh) ((m : Int) - 8)) m := by unfold gCo; rw [← HMD.out]
          obtain ⟨q1, hq1⟩ : ∃ q, q = z2 % ((m : Int) + 1) := ⟨_, rfl⟩
          have HBR := Lib.hid (fun wx => bring_any z2 ((m : Int) + 1) wx (by unfold Sm; omega))
          rw [← hq1] at hco HBR
          obtain ⟨q2, hq2⟩ : ∃ q, q = minI q1 sh := ⟨_, rfl⟩
          obtain ⟨q3, hq3⟩ : ∃ q, q = maxI q2 ((m : Int) - 8) := ⟨_, rfl⟩
          obtain ⟨q4, hq4⟩ : ∃ q, q = minI q3 m := ⟨_, rfl⟩
          rw [← hq2] at hco
          rw [← hq3] at hco
          rw [← hq4] at hco
          have M2 := Lib.hid (show (if (if (sh : Int) < q1 then (sh : Int) else q1) < (m : Int) - 8 then (m : Int) - 8 else (if (sh : Int) < q1 then (sh : Int) else q1)) = q3 by rw [hq3, hq2]; rfl)
          have M3 := Lib.hid (show (if (m : Int) < q3 then (m : Int) else q3) = q4 by rw [hq4]; rfl)
          have HCO := Lib.hid hco
          have HROW := Lib.hid (row_w m HS8.out (by omega))
          clear hq1 hq2 hq3 hq4 hco
          refine (HBR.out _).mono ?_
          rintro r0 wb ⟨rfl, rfl⟩
          clear HBR
          (try dsimp only); repeat' (first | go_values | go_skip | go_guarded | go_step | go_upon | go_back)
          simp only [M2.out]
          clear M2
          refine HROW.out.mono ?_
          rintro r0 wc ⟨u, rfl, hc⟩
          obtain ⟨au, cu, rfl, -⟩ := hc.enForm
          rw [rowP_len] at hc ⊢
          rw [gEn_start sh i m] at hc
          have HC := Lib.hid hc
          clear HROW hc
          (try dsimp only); repeat' (first | go_values | go_skip | go_guarded | go_step | go_upon | go_back)
          go_loopw [16] (fun kv wr => ∃ k : Nat, sh ≤ k ∧ (k ≤ m ∨ k = sh) ∧ kv = .int .i64 k ∧ Sep w0 (EnT (.slice au m cu) (gEn sh i m k) :: Cl b3 #[.int .i64 z0, .int .i64 z1, .int .i64 z2] 63 :: OfT (.slice av i cv) xs :: L) wr) (fun kv _ => m - (intOf kv).toNat)
          case atStart => exact ⟨sh, Nat.le_refl _, .inr rfl, rfl, HC.out⟩
          case round =>
            obtain ⟨k, hk1, hk2, rfl, hs⟩ := hrel
            clear HC
            have k0 : (0 : Int) ≤ (k : Int) := by omega
            have k9 : (k : Int) ≤ 19 := by omega
            by_cases hkm : k < m
            · have hd : decide (k < m) = true := decide_eq_true hkm
              have hd' : decide ((k : Int) < (m : Int)) = true := decide_eq_true (by omega)
              have hkm' : (k : Int) < (m : Int) := by omega
              have hkl : k < (gEn sh i m k).length := by rw [gEn_len]; exact hkm
              obtain ⟨be, ce, hv, -, ⟨y, hy⟩, hfr, hset⟩ := hs.enNum k hkl
              simp only [Value.slice.injEq] at hv
              obtain ⟨rfl, -, rfl⟩ := hv
              have h9 := hset (1000 + 100 * (i : Int) + k)
              rw [gEn_step sh i m k hk1 hkl] at h9
              have H9 := Lib.hid h9
              have HK := Lib.hid (And.intro hk1 hkm)
              clear hs hset h9 hk1 hk2 hkm hkl
              (try dsimp only); repeat' (first | go_values | go_skip | go_guarded | go_step | go_upon | go_back)
              go_roundw
              case rel => exact ⟨k + 1, by have := HK.out.1; omega, .inl (by have := HK.out.2; omega), by go_num, H9.out⟩
              case measure => have := HK.out.2; simp [intOf]; omega
            · have hd : decide (k < m) = false := decide_eq_false hkm
              have hd' : decide ((k : Int) < (m : Int)) = false := decide_eq_false (by omega)
              rw [gEn_end sh i m k (by omega)] at hs
              have h10 := hs.alloc (.cells (ovC ⟨i, y1, 0, q4, .slice au m cu, gEn sh i m m⟩) 33)
              obtain ⟨a9, c9, w9, hr, h11⟩ := append_of (ty := 26) (x := ⟨i, y1, 0, q4, .slice au m cu, gEn sh i m m⟩) (Sep.pickL (M := [_, _, _, _]) h10 [0, 3, 1] rfl) ⟨au, cu, by show _ = Value.slice au (gEn sh i m m).length cu; rw [gEn_len]⟩ (by rw [HX.out.1]; omega)
              rw [HX.out.1] at hr h11
              unfold ovC at hr
              dsimp only at hr
              have HR := Lib.hid hr
              have H11 := Lib.hid h11
              clear hs h10 hr h11 hk1 hk2 hkm
              (try dsimp only); repeat' (first | (at_builtin; refine stopP ?_) | go_values | go_skip | go_guarded | go_step | go_upon | go_back)
              unfold StopP
              simp only [M3.out]
              clear M3
              refine wpList_append_r rfl _ _ _ _ rfl rfl rfl HR.out ?_
              (try dsimp only); repeat' (first | go_values | go_skip | go_guarded | go_step | go_upon | go_back)
              go_roundw
              case rel =>
                refine ⟨i + 1, _, a9, c9, by have := HIN.out; omega, by go_num, rfl, by rw [List.length_append, HX.out.1]; rfl, ?_, H11.out⟩
                rw [List.map_append, HX.out.2, grp_succ, List.map_append, List.map_singleton, List.map_singleton]
                unfold gO
                rw [← HLG.out, ← HMD.out, HCO.out]
                simp only [OvM.pr]
                rw [HY1.out]
              case measure => have := HIN.out; simp [intOf]; omega
        · have hdl : decide (le ≤ y1) = false := decide_eq_false hle
          have hdl' : decide (y1 < le) = true := decide_eq_true (by omega)
          obtain ⟨m, hm⟩ : ∃ m, m = y2 := ⟨_, rfl⟩
          rw [← hm]
          have HMD := Lib.hid (show m = gMa sh le (z0, z1, z2) by rw [HMA.out, if_neg hle]; exact hm)
          have m0 : (0 : Int) ≤ (m : Int) := by omega
          have m9 : (m : Int) ≤ 19 := by omega
          clear hle hm HMA
          have HS8 := Lib.hid (HS7.out.drewN nq)
          obtain ⟨e0, e1, e2⟩ := cells3g HS8.out
          clear HS7
          (try dsimp only); repeat' (first | go_values | go_skip | go_guarded | go_step | go_upon | go_back)
          clear hdl hdl'
          have hco : gCo sh le (z0, z1, z2) = minI (maxI (minI (z2 % ((m : Int) + 1)) sh) ((m : Int) - 8)) m := by unfold gCo; rw [← HMD.out]
          obtain ⟨q1, hq1⟩ : ∃ q, q = z2 % ((m : Int) + 1) := ⟨_, rfl⟩
          have HBR := Lib.hid (fun wx => bring_any z2 ((m : Int) + 1) wx (by unfold Sm; omega))
          rw [← hq1] at hco HBR
          obtain ⟨q2, hq2⟩ : ∃ q, q = minI q1 sh := ⟨_, rfl⟩
          obtain ⟨q3, hq3⟩ : ∃ q, q = maxI q2 ((m : Int) - 8) := ⟨_, rfl⟩
          obtain ⟨q4, hq4⟩ : ∃ q, q = minI q3 m := ⟨_, rfl⟩
          rw [← hq2] at hco
          rw [← hq3] at hco
          rw [← hq4] at hco
          have M2 := Lib.hid (show (if (if (sh : Int) < q1 then (sh : Int) else q1) < (m : Int) - 8 then (m : Int) - 8 else (if (sh : Int) < q1 then (sh : Int) else q1)) = q3 by rw [hq3, hq2]; rfl)
          have M3 := Lib.hid (show (if (m : Int) < q3 then (m : Int) else q3) = q4 by rw [hq4]; rfl)
          have HCO := Lib.hid hco
          have HROW := Lib.hid (row_w m HS8.out (by omega))
          clear hq1 hq2 hq3 hq4 hco
          refine (HBR.out _).mono ?_
          rintro r0 wb ⟨rfl, rfl⟩
          clear HBR
          (try dsimp only); repeat' (first | go_values | go_skip | go_guarded | go_step | go_upon | go_back)
          simp only [M2.out]
          clear M2
          refine HROW.out.mono ?_
          rintro r0 wc ⟨u, rfl, hc⟩
          obtain ⟨au, cu, rfl, -⟩ := hc.enForm
          rw [rowP_len] at hc ⊢
          rw [gEn_start sh i m] at hc
          have HC := Lib.hid hc
          clear HROW hc
          (try dsimp only); repeat' (first | go_values | go_skip | go_guarded | go_step | go_upon | go_back)
          go_loopw [16] (fun kv wr => ∃ k : Nat, sh ≤ k ∧ (k ≤ m ∨ k = sh) ∧ kv = .int .i64 k ∧ Sep w0 (EnT (.slice au m cu) (gEn sh i m k) :: Cl b3 #[.int .i64 z0, .int .i64 z1, .int .i64 z2] 63 :: OfT (.slice av i cv) xs :: L) wr) (fun kv _ => m - (intOf kv).toNat)
          case atStart => exact ⟨sh, Nat.le_refl _, .inr rfl, rfl, HC.out⟩
          case round =>
            obtain ⟨k, hk1, hk2, rfl, hs⟩ := hrel
            clear HC
            have k0 : (0 : Int) ≤ (k : Int) := by omega
            have k9 : (k : Int) ≤ 19 := by omega
            by_cases hkm : k < m
            · have hd : decide (k < m) = true := decide_eq_true hkm
              have hd' : decide ((k : Int) < (m : Int)) = true := decide_eq_true (by omega)
              have hkm' : (k : Int) < (m : Int) := by omega
              have hkl : k < (gEn sh i m k).length := by rw [gEn_len]; exact hkm
              obtain ⟨be, ce, hv, -, ⟨y, hy⟩, hfr, hset⟩ := hs.enNum k hkl
              simp only [Value.slice.injEq] at hv
              obtain ⟨rfl, -, rfl⟩ := hv
              have h9 := hset (1000 + 100 * (i : Int) + k)
              rw [gEn_step sh i m k hk1 hkl] at h9
              have H9 := Lib.hid h9
              have HK := Lib.hid (And.intro hk1 hkm)
              clear hs hset h9 hk1 hk2 hkm hkl
              (try dsimp only); repeat' (first | go_values | go_skip | go_guarded | go_step | go_upon | go_back)
              go_roundw
              case rel => exact ⟨k + 1, by have := HK.out.1; omega, .inl (by have := HK.out.2; omega), by go_num, H9.out⟩
              case measure => have := HK.out.2; simp [intOf]; omega
            · have hd : decide (k < m) = false := decide_eq_false hkm
              have hd' : decide ((k : Int) < (m : Int)) = false := decide_eq_false (by omega)
              rw [gEn_end sh i m k (by omega)] at hs
              have h10 := hs.alloc (.cells (ovC ⟨i, y1, 0, q4, .slice au m cu, gEn sh i m m⟩) 33)
              obtain ⟨a9, c9, w9, hr, h11⟩ := append_of (ty := 26) (x := ⟨i, y1, 0, q4, .slice au m cu, gEn sh i m m⟩) (Sep.pickL (M := [_, _, _, _]) h10 [0, 3, 1] rfl) ⟨au, cu, by show _ = Value.slice au (gEn sh i m m).length cu; rw [gEn_len]⟩ (by rw [HX.out.1]; omega)
              rw [HX.out.1] at hr h11
              unfold ovC at hr
              dsimp only at hr
              have HR := Lib.hid hr
              have H11 := Lib.hid h11
              clear hs h10 hr h11 hk1 hk2 hkm
              (try dsimp only); repeat' (first | (at_builtin; refine stopP ?_) | go_values | go_skip | go_guarded | go_step | go_upon | go_back)
              unfold StopP
              simp only [M3.out]
              clear M3
              refine wpList_append_r rfl _ _ _ _ rfl rfl rfl HR.out ?_
              (try dsimp only); repeat' (first | go_values | go_skip | go_guarded | go_step | go_upon | go_back)
              go_roundw
              case rel =>
                refine ⟨i + 1, _, a9, c9, by have := HIN.out; omega, by go_num, rfl, by rw [List.length_append, HX.out.1]; rfl, ?_, H11.out⟩
                rw [List.map_append, HX.out.2, grp_succ, List.map_append, List.map_singleton, List.map_singleton]
                unfold gO
                rw [← HLG.out, ← HMD.out, HCO.out]
                simp only [OvM.pr]
                rw [HY1.out]
              case measure => have := HIN.out; simp [intOf]; omega
      · have hdx : decide (i < ln) = false := decide_eq_false hil
        have hdx' : decide ((i : Int) < (ln : Int)) = false := decide_eq_false (by omega)
        have HLG := Lib.hid (show ((0, 0, 0) : Lg) = lgAt ls i by unfold lgAt; rw [List.getD_eq_getElem?_getD, List.getElem?_eq_none (by rw [HL.out.1]; omega)]; rfl)
        obtain ⟨z0, z1, z2, h0, h1, h2⟩ : ∃ z0 z1 z2 : Int, z0 = 0 ∧ z1 = 0 ∧ z2 = 0 := ⟨0, 0, 0, rfl, rfl, rfl⟩
        have h7 := hs.alloc (.cells #[.int .i64 z0, .int .i64 z1, .int .i64 z2] 63)
        obtain ⟨b3, hb3⟩ : ∃ q, q = wr.heap.size := ⟨_, rfl⟩
        obtain ⟨w7, hw7⟩ : ∃ q, q = wr.alloc (.cells #[.int .i64 z0, .int .i64 z1, .int .i64 z2] 63) := ⟨_, rfl⟩
        have hw8 : wr.alloc (.cells #[.int .i64 0, .int .i64 0, .int .i64 0] 63) = w7 := by rw [hw7, h0, h1, h2]
        rw [← hw7, ← hb3] at h7
        rw [show ((0, 0, 0) : Lg) = (z0, z1, z2) by rw [h0, h1, h2]] at HLG
        have HS7 := Lib.hid h7
        obtain ⟨e0, e1, e2⟩ := cells3g h7
        have HW8 := Lib.hid hw8
        have g := cells3g (hs.alloc (.cells #[.int .i64 0, .int .i64 0, .int .i64 0] 63))
        rw [← hb3] at g
        obtain ⟨g0, g1, g2⟩ := g
        clear hs h7 hin hi hxl hpr hil h0 h1 h2 hw7 hw8
        (try dsimp only); repeat' (first | go_values | go_skip | go_guarded | go_step | go_upon | go_back)
        rw [← hb3, HW8.out]
        clear hb3 HW8 g0 g1 g2
        obtain ⟨y1, hy1⟩ : ∃ q, q = z0 % 100 := ⟨_, rfl⟩
        obtain ⟨y2, hy2, y29⟩ : ∃ q : Nat, z1 % 20 = (q : Int) ∧ q ≤ 19 := ⟨(z1 % 20).toNat, by omega, by omega⟩
        have B0 := Lib.hid (fun wx => (bring_any z0 100 wx ⟨by decide, by decide⟩).mono fun e w' hh => And.intro hh.1 hh.2.symm)
        have B1 := Lib.hid (fun wx => (bring_any z1 20 wx ⟨by decide, by decide⟩).mono fun e w' hh => And.intro hh.1 hh.2.symm)
        rw [← hy1] at B0
        rw [hy2] at B1
        have HY1 := Lib.hid (show gLa (z0, z1, z2) = y1 from hy1.symm)
        have HMA := Lib.hid (show gMa sh le (z0, z1, z2) = if le ≤ y1 then max y2 sh else y2 by unfold gMa; rw [HY1.out]; dsimp only; rw [hy2]; rfl)
        clear hy1 hy2
        go_quiet (first | (go_at_call_of 8 (Value.int .i64 z0); exact Calls.quiet_of_same (B0.out _)) | (go_at_call_of 8 (Value.int .i64 z1); exact Calls.quiet_of_same (B1.out _)))
        clear B0 B1
        by_cases hle : le ≤ y1
        · have hdl : decide (le ≤ y1) = true := decide_eq_true hle
          have hdl' : decide (y1 < le) = false := decide_eq_false (by omega)
          obtain ⟨m, hm⟩ : ∃ m, m = max y2 sh := ⟨_, rfl⟩
          have M0 := Lib.hid (show (if y2 < sh then (sh : Int) else (y2 : Int)) = (m : Int) by split <;> omega)
          have HMD := Lib.hid (show m = gMa sh le (z0, z1, z2) by rw [HMA.out, if_pos hle]; exact hm)
          have m0 : (0 : Int) ≤ (m : Int) := by omega
          have m9 : (m : Int) ≤ 19 := by omega
          clear hle hm HMA
          have HS8 := Lib.hid (HS7.out.drewN nq)
          obtain ⟨e0, e1, e2⟩ := cells3g HS8.out
          clear HS7
          (try dsimp only); repeat' (first | go_values | go_skip | go_guarded | go_step | go_upon | go_back)
          simp only [M0.out]
          clear M0 hdl hdl'
          have hco : gCo sh le (z0, z1, z2) = minI (maxI (minI (z2 % ((m : Int) + 1)) sh) ((m : Int) - 8)) m := by unfold gCo; rw [← HMD.out]
          obtain ⟨q1, hq1⟩ : ∃ q, q = z2 % ((m : Int) + 1) := ⟨_, rfl⟩
          have HBR := Lib.hid (fun wx => bring_any z2 ((m : Int) + 1) wx (by unfold Sm; omega))
          rw [← hq1] at hco HBR
          obtain ⟨q2, hq2⟩ : ∃ q, q = minI q1 sh := ⟨_, rfl⟩
          obtain ⟨q3, hq3⟩ : ∃ q, q = maxI q2 ((m : Int) - 8) := ⟨_, rfl⟩
          obtain ⟨q4, hq4⟩ : ∃ q, q = minI q3 m := ⟨_, rfl⟩
          rw [← hq2] at hco
          rw [← hq3] at hco
          rw [← hq4] at hco
          have M2 := Lib.hid (show (if (if (sh : Int) < q1 then (sh : Int) else q1) < (m : Int) - 8 then (m : Int) - 8 else (if (sh : Int) < q1 then (sh : Int) else q1)) = q3 by rw [hq3, hq2]; rfl)
          have M3 := Lib.hid (show (if (m : Int) < q3 then (m : Int) else q3) = q4 by rw [hq4]; rfl)
          have HCO := Lib.hid hco
          have HROW := Lib.hid (row_w m HS8.out (by omega))
          clear hq1 hq2 hq3 hq4 hco
          refine (HBR.out _).mono ?_
          rintro r0 wb ⟨rfl, rfl⟩
          clear HBR
          (try dsimp only); repeat' (first | go_values | go_skip | go_guarded | go_step | go_upon | go_back)
          simp only [M2.out]
          clear M2
          refine HROW.out.mono ?_
          rintro r0 wc ⟨u, rfl, hc⟩
          obtain ⟨au, cu, rfl, -⟩ := hc.enForm
          rw [rowP_len] at hc ⊢
          rw [gEn_start sh i m] at hc
          have HC := Lib.hid hc
          clear HROW hc
          (try dsimp only); repeat' (first | go_values | go_skip | go_guarded | go_step | go_upon | go_back)
          go_loopw [16] (fun kv wr => ∃ k : Nat, sh ≤ k ∧ (k ≤ m ∨ k = sh) ∧ kv = .int .i64 k ∧ Sep w0 (EnT (.slice au m cu) (gEn sh i m k) :: Cl b3 #[.int .i64 z0, .int .i64 z1, .int .i64 z2] 63 :: OfT (.slice av i cv) xs :: L) wr) (fun kv _ => m - (intOf kv).toNat)
          case atStart => exact ⟨sh, Nat.le_refl _, .inr rfl, rfl, HC.out⟩
          case round =>
            obtain ⟨k, hk1, hk2, rfl, hs⟩ := hrel
            clear HC
            have k0 : (0 : Int) ≤ (k : Int) := by omega
            have k9 : (k : Int) ≤ 19 := by omega
            by_cases hkm : k < m
            · have hd : decide (k < m) = true := decide_eq_true hkm
              have hd' : decide ((k : Int) < (m : Int)) = true := decide_eq_true (by omega)
              have hkm' : (k : Int) < (m : Int) := by omega
              have hkl : k < (gEn sh i m k).length := by rw [gEn_len]; exact hkm
              obtain ⟨be, ce, hv, -, ⟨y, hy⟩, hfr, hset⟩ := hs.enNum k hkl
              simp only [Value.slice.injEq] at hv
              obtain ⟨rfl, -, rfl⟩ := hv
              have h9 := hset (1000 + 100 * (i : Int) + k)
              rw [gEn_step sh i m k hk1 hkl] at h9
              have H9 := Lib.hid h9
              have HK := Lib.hid (And.intro hk1 hkm)
              clear hs hset h9 hk1 hk2 hkm hkl
              (try dsimp only); repeat' (first | go_values | go_skip | go_guarded | go_step | go_upon | go_back)
              go_roundw
              case rel => exact ⟨k + 1, by have := HK.out.1; omega, .inl (by have := HK.out.2; omega), by go_num, H9.out⟩
              case measure => have := HK.out.2; simp [intOf]; omega
            · have hd : decide (k < m) = false := decide_eq_false hkm
              have hd' : decide ((k : Int) < (m : Int)) = false := decide_eq_false (by omega)
              rw [gEn_end sh i m k (by omega)] at hs
              have h10 := hs.alloc (.cells (ovC ⟨i, y1, 0, q4, .slice au m cu, gEn sh i m m⟩) 33)
              obtain ⟨a9, c9, w9, hr, h11⟩ := append_of (ty := 26) (x := ⟨i, y1, 0, q4, .slice au m cu, gEn sh i m m⟩) (Sep.pickL (M := [_, _, _, _]) h10 [0, 3, 1] rfl) ⟨au, cu, by show _ = Value.slice au (gEn sh i m m).length cu; rw [gEn_len]⟩ (by rw [HX.out.1]; omega)
              rw [HX.out.1] at hr h11
              unfold ovC at hr
              dsimp only at hr
              have HR := Lib.hid hr
              have H11 := Lib.hid h11
              clear hs h10 hr h11 hk1 hk2 hkm
              (try dsimp only); repeat' (first | (at_builtin; refine stopP ?_) | go_values | go_skip | go_guarded | go_step | go_upon | go_back)
              unfold StopP
              simp only [M3.out]
              clear M3
              refine wpList_append_r rfl _ _ _ _ rfl rfl rfl HR.out ?_
              (try dsimp only); repeat' (first | go_values | go_skip | go_guarded | go_step | go_upon | go_back)
              go_roundw
              case rel =>
                refine ⟨i + 1, _, a9, c9, by have := HIN.out; omega, by go_num, rfl, by rw [List.length_append, HX.out.1]; rfl, ?_, H11.out⟩
                rw [List.map_append, HX.out.2, grp_succ, List.map_append, List.map_singleton, List.map_singleton]
                unfold gO
                rw [← HLG.out, ← HMD.out, HCO.out]
                simp only [OvM.pr]
                rw [HY1.out]
              case measure => have := HIN.out; simp [intOf]; omega
        · have hdl : decide (le ≤ y1) = false := decide_eq_false hle
          have hdl' : decide (y1 < le) = true := decide_eq_true (by omega)
          obtain ⟨m, hm⟩ : ∃ m, m = y2 := ⟨_, rfl⟩
          rw [← hm]
          have HMD := Lib.hid (show m = gMa sh le (z0, z1, z2) by rw [HMA.out, if_neg hle]; exact hm)
          have m0 : (0 : Int) ≤ (m : Int) := by omega
          have m9 : (m : Int) ≤ 19 := by omega
          clear hle hm HMA
          have HS8 := Lib.hid (HS7.out.drewN nq)
          obtain ⟨e0, e1, e2⟩ := cells3g HS8.out
          clear HS7
          (try dsimp only); repeat' (first | go_values | go_skip | go_guarded | go_step | go_upon | go_back)
          clear hdl hdl'
          have hco : gCo sh le (z0, z1, z2) = minI (maxI (minI (z2 % ((m : Int) + 1)) sh) ((m : Int) - 8)) m := by unfold gCo; rw [← HMD.out]
          obtain ⟨q1, hq1⟩ : ∃ q, q = z2 % ((m : Int) + 1) := ⟨_, rfl⟩
          have HBR := Lib.hid (fun wx => bring_any z2 ((m : Int) + 1) wx (by unfold Sm; omega))
          rw [← hq1] at hco HBR
          obtain ⟨q2, hq2⟩ : ∃ q, q = minI q1 sh := ⟨_, rfl⟩
          obtain ⟨q3, hq3⟩ : ∃ q, q = maxI q2 ((m : Int) - 8) := ⟨_, rfl⟩
          obtain ⟨q4, hq4⟩ : ∃ q, q = minI q3 m := ⟨_, rfl⟩
          rw [← hq2] at hco
          rw [← hq3] at hco
          rw [← hq4] at hco
          have M2 := Lib.hid (show (if (if (sh : Int) < q1 then (sh : Int) else q1) < (m : Int) - 8 then (m : Int) - 8 else (if (sh : Int) < q1 then (sh : Int) else q1)) = q3 by rw [hq3, hq2]; rfl)
          have M3 := Lib.hid (show (if (m : Int) < q3 then (m : Int) else q3) = q4 by rw [hq4]; rfl)
          have HCO := Lib.hid hco
          have HROW := Lib.hid (row_w m HS8.out (by omega))
          clear hq1 hq2 hq3 hq4 hco
          refine (HBR.out _).mono ?_
          rintro r0 wb ⟨rfl, rfl⟩
          clear HBR
          (try dsimp only); repeat' (first | go_values | go_skip | go_guarded | go_step | go_upon | go_back)
          simp only [M2.out]
          clear M2
          refine HROW.out.mono ?_
          rintro r0 wc ⟨u, rfl, hc⟩
          obtain ⟨au, cu, rfl, -⟩ := hc.enForm
          rw [rowP_len] at hc ⊢
          rw [gEn_start sh i m] at hc
          have HC := Lib.hid hc
          clear HROW hc
          (try dsimp only); repeat' (first | go_values | go_skip | go_guarded | go_step | go_upon | go_back)
          go_loopw [16] (fun kv wr => ∃ k : Nat, sh ≤ k ∧ (k ≤ m ∨ k = sh) ∧ kv = .int .i64 k ∧ Sep w0 (EnT (.slice au m cu) (gEn sh i m k) :: Cl b3 #[.int .i64 z0, .int .i64 z1, .int .i64 z2] 63 :: OfT (.slice av i cv) xs :: L) wr) (fun kv _ => m - (intOf kv).toNat)
          case atStart => exact ⟨sh, Nat.le_refl _, .inr rfl, rfl, HC.out⟩
          case round =>
            obtain ⟨k, hk1, hk2, rfl, hs⟩ := hrel
            clear HC
            have k0 : (0 : Int) ≤ (k : Int) := by omega
            have k9 : (k : Int) ≤ 19 := by omega
            by_cases hkm : k < m
            · have hd : decide (k < m) = true := decide_eq_true hkm
              have hd' : decide ((k : Int) < (m : Int)) = true := decide_eq_true (by omega)
              have hkm' : (k : Int) < (m : Int) := by omega
              have hkl : k < (gEn sh i m k).length := by rw [gEn_len]; exact hkm
              obtain ⟨be, ce, hv, -, ⟨y, hy⟩, hfr, hset⟩ := hs.enNum k hkl
              simp only [Value.slice.injEq] at hv
              obtain ⟨rfl, -, rfl⟩ := hv
              have h9 := hset (1000 + 100 * (i : Int) + k)
              rw [gEn_step sh i m k hk1 hkl] at h9
              have H9 := Lib.hid h9
              have HK := Lib.hid (And.intro hk1 hkm)
              clear hs hset h9 hk1 hk2 hkm hkl
              (try dsimp only); repeat' (first | go_values | go_skip | go_guarded | go_step | go_upon | go_back)
              go_roundw
              case rel => exact ⟨k + 1, by have := HK.out.1; omega, .inl (by have := HK.out.2; omega), by go_num, H9.out⟩
              case measure => have := HK.out.2; simp [intOf]; omega
            · have hd : decide (k < m) = false := decide_eq_false hkm
              have hd' : decide ((k : Int) < (m : Int)) = false := decide_eq_false (by omega)
              rw [gEn_end sh i m k (by omega)] at hs
              have h10 := hs.alloc (.cells (ovC ⟨i, y1, 0, q4, .slice au m cu, gEn sh i m m⟩) 33)
              obtain ⟨a9, c9, w9, hr, h11⟩ := append_of (ty := 26) (x := ⟨i, y1, 0, q4, .slice au m cu, gEn sh i m m⟩) (Sep.pickL (M := [_, _, _, _]) h10 [0, 3, 1] rfl) ⟨au, cu, by show _ = Value.slice au (gEn sh i m m).length cu; rw [gEn_len]⟩ (by rw [HX.out.1]; omega)
              rw [HX.out.1] at hr h11
              unfold ovC at hr
              dsimp only at hr
              have HR := Lib.hid hr
              have H11 := Lib.hid h11
              clear hs h10 hr h11 hk1 hk2 hkm
              (try dsimp only); repeat' (first | (at_builtin; refine stopP ?_) | go_values | go_skip | go_guarded | go_step | go_upon | go_back)
              unfold StopP
              simp only [M3.out]
              clear M3
              refine wpList_append_r rfl _ _ _ _ rfl rfl rfl HR.out ?_
              (try dsimp only); repeat' (first | go_values | go_skip | go_guarded | go_step | go_upon | go_back)
              go_roundw
              case rel =>
                refine ⟨i + 1, _, a9, c9, by have := HIN.out; omega, by go_num, rfl, by rw [List.length_append, HX.out.1]; rfl, ?_, H11.out⟩
                rw [List.map_append, HX.out.2, grp_succ, List.map_append, List.map_singleton, List.map_singleton]
                unfold gO
                rw [← HLG.out, ← HMD.out, HCO.out]
                simp only [OvM.pr]
                rw [HY1.out]
              case measure => have := HIN.out; simp [intOf]; omega
    · have hd : decide (i < n) = false := decide_eq_false hin
      have hd' : decide ((i : Int) < (n : Int)) = false := decide_eq_false (by omega)
      obtain rfl : i = n := by omega
      have HF := Lib.hid (And.intro hxl (And.intro hpr hs))
      clear hs hpr hxl hi hin
      (try dsimp only); repeat' (first | go_values | go_skip | go_guarded | go_step | go_upon | go_back)
      go_ret
      exact ⟨av, cv, xs, rfl, HF.out.1, HF.out.2.1, HF.out.2.2⟩
end Go.Proofs.YthgndegjiodopaaDoor
