/- BagOnce. -/
import Derived.Test.YtcnbmeiielkigaaDoorBag8
namespace Go.Proofs.YtcnbmeiielkigaaDoor
open Go Go.RowKit
set_option linter.unusedVariables false
set_option linter.unusedSimpArgs false
/-- A message that was given back is stored as a variable. -/
theorem store_msg {w0 w : World} {L : List Thing} {u : Array Value} {m : MsM} (hu : MsgC u m) (h : Sep w0 L w) : Hid ((Tryd.prog.info? 43).map (·.size) = some u.size) ∧ Hid (u.all (·.oneCell') = true) ∧ Hid ((w.alloc (.cells #[.int .i64 0, .int .i64 0, .int .i64 0, .int .i64 0, .int .i64 0, .int .i64 0, .int .i64 0, .int .i64 0, .int .i64 0, .int .i64 0, .string ⟨#[]⟩, .int .i64 0, .int .i64 0, .slice none 0 0, .int .i64 0, .int .i64 0, .int .i64 0, .bool false, .int .i64 0, .slice none 0 0, .slice none 0 0, .int .i64 0] 43)).there w.heap.size 0 u.size) ∧ Sep w0 (Cl w.heap.size u 43 :: L) ((w.alloc (.cells #[.int .i64 0, .int .i64 0, .int .i64 0, .int .i64 0, .int .i64 0, .int .i64 0, .int .i64 0, .int .i64 0, .int .i64 0, .int .i64 0, .string ⟨#[]⟩, .int .i64 0, .int .i64 0, .slice none 0 0, .int .i64 0, .int .i64 0, .int .i64 0, .bool false, .int .i64 0, .slice none 0 0, .slice none 0 0, .int .i64 0] 43)).setCells w.heap.size 0 u.toList) := by
  have h7 := h.alloc (.cells #[.int .i64 0, .int .i64 0, .int .i64 0, .int .i64 0, .int .i64 0, .int .i64 0, .int .i64 0, .int .i64 0, .int .i64 0, .int .i64 0, .string ⟨#[]⟩, .int .i64 0, .int .i64 0, .slice none 0 0, .int .i64 0, .int .i64 0, .int .i64 0, .bool false, .int .i64 0, .slice none 0 0, .slice none 0 0, .int .i64 0] 43)
  refine ⟨Lib.hid (by rw [hu.size]; kernel_rfl), Lib.hid (by have := all_oneCell_toArray hu.one; simpa using this), Lib.hid (by rw [hu.size]; exact h7.thereAt 0 22 (by simp)), h7.storeW u (by rw [hu.size]; rfl)⟩
theorem MsgC.view {u : Array Value} {m : MsM} (h : MsgC u m) : u[3]? = some (.int .i64 m.v) := by obtain ⟨_, _, _, _, _, _, he⟩ := h; rw [he]; rfl
theorem erase_last (l : List MsM) (m : MsM) : (l ++ [m]).eraseIdx l.length = l := by
  rw [List.eraseIdx_append_of_length_le (Nat.le_refl _)]
  simp
set_option maxRecDepth 100000 in
set_option maxHeartbeats 0 in
theorem bagonce_any (va : Option Addr) (vn vc : Nat) (vs : List Value) (a1 a2 : Int) (w : World) (hK : KindsAt w ∧ MKindsAt w) (hl : vs.length = vn) (hs : Sl w (.slice va vn vc) vs) (hi : ∀ u ∈ vs, ∃ x, u = .int .i64 x) :
    Calls Tryd.prog 4 #[.slice va vn vc, .int .i64 a1, .int .i64 a2] w fun e w' => e = .returned (.bool true) ∧ Below w.heap.size w w' := by
  have HN := Lib.hid (bnew_any ((Sep.start w).rnil 3))
  have HV := Lib.hid (And.intro hl (And.intro hs hi))
  have HM := Lib.hid hK.2
  have n0 : (0 : Int) ≤ (vn : Int) := by omega
  clear hl hs hi hK
  go_enter Tryd.func4, Tryd.ntmps4
  (try dsimp only); repeat' (first | go_values | go_skip | go_guarded | go_step | go_upon | go_back)
  refine HN.out.mono ?_
  rintro r0 w1 ⟨g, rfl, h1⟩
  have h1 : Sep w [BagT g [], Is (.slice none 0 0) []] w1 := h1
  have H1 := Lib.hid h1
  clear HN h1
  (try dsimp only); repeat' (first | go_values | go_skip | go_guarded | go_step | go_upon | go_back)
  go_loopw [8, 9] (fun wv i wr => ∃ (k : Nat) (ws : List Int) (wa : Option Addr) (wc : Nat), k ≤ vn ∧ k ≤ 60 ∧ wv = .slice wa k wc ∧ i = .int .i64 k ∧ ws.length = k ∧ (∀ x ∈ ws, 0 ≤ x ∧ x ≤ 1099511627776) ∧ Sep w [BagT g (ws.map sM), Is (.slice wa k wc) ws] wr) (fun _ i _ => 60 - (intOf i).toNat)
  case atStart => exact ⟨0, [], none, 0, Nat.zero_le _, by omega, rfl, rfl, rfl, (fun x hx => by cases hx), H1.out⟩
  case round =>
    obtain ⟨k, ws, wa, wc, hk, hk2, rfl, rfl, hwl, hw0, hs⟩ := hrel
    clear H1
    have k0 : (0 : Int) ≤ (k : Int) := by omega
    have k9 : (k : Int) ≤ 60 := by omega
    by_cases hgo : k < vn ∧ k < 60
    · have d0 : decide (k < vn) = true := decide_eq_true hgo.1
      have d1 : decide ((k : Int) < 60) = true := decide_eq_true (by omega)
      have k1 : (k : Int) < (vn : Int) := by omega
      obtain ⟨b0, o0, rfl, -, hc0⟩ := (HV.out.2.1.below hs.low).at (by have := HV.out.1; omega)
      have hkv : k < vs.length := by rw [HV.out.1]; exact hgo.1
      obtain ⟨x, hx⟩ := HV.out.2.2 vs[k] (List.getElem_mem hkv)
      have e0 : wr.cell? ⟨b0, o0 + k, none⟩ = some (.int .i64 x) := hc0 k _ (by rw [List.getElem?_eq_getElem hkv, hx])
      have HBR := Lib.hid (fun wx => bring_any x 1099511627776 wx ⟨by decide, by decide⟩)
      obtain ⟨y, hy⟩ : ∃ y, y = x % 1099511627776 := ⟨_, rfl⟩
      have y0 : 0 ≤ y := by omega
      have y1 : y ≤ 1099511627776 := by omega
      rw [← hy] at HBR
      have HSM := Lib.hid (small_any y y0 (by omega) hs)
      have HW := Lib.hid (And.intro hwl (And.intro hw0 hgo))
      clear hk hk2 hwl hw0 hs hgo hc0 hkv hx hy
      (try dsimp only); repeat' (first | go_values | go_skip | go_guarded | go_step | go_upon | go_back)
      refine (HBR.out _).mono ?_
      rintro r0 w2 ⟨rfl, rfl⟩
      clear HBR
      (try dsimp only); repeat' (first | go_values | go_skip | go_guarded | go_step | go_upon | go_back)
      refine HSM.out.mono ?_
      rintro r0 w3 ⟨c, hc, rfl, h3⟩
      have HPT := Lib.hid (bput_any (sM y) h3 hc (chk_small HM.out y0 (by omega)) (by rw [List.length_map, HW.out.1]; omega))
      clear HSM h3 hc
      (try dsimp only); repeat' (first | go_values | go_skip | go_guarded | go_step | go_upon | go_back)
      refine HPT.out.mono ?_
      rintro r0 w4 ⟨rfl, h4⟩
      have h4 : Sep w [BagT g (ws.map sM ++ [sM y]), Is (.slice wa k wc) ws] w4 := h4
      have h6 := (h4.alloc (.cells #[.int .i64 y] 3)).asRow 1 rfl (by decide)
      obtain ⟨v9, w9, hr9, h7, -⟩ := appI (ty := 26) (ys := [y]) h6.sw3 h6.sl (by rw [HW.out.1]; simp; omega)
      obtain ⟨va9, vc9, rfl⟩ := h7.sl.len
      rw [iv_length, List.length_append, HW.out.1] at h7 hr9
      have h8 : Sep w [BagT g ((ws ++ [y]).map sM), Is (.slice va9 (k + 1) vc9) (ws ++ [y])] w9 := by rw [List.map_append]; exact h7.pick [2, 0] rfl
      have H8 := Lib.hid h8
      have HR := Lib.hid hr9
      have HY := Lib.hid (And.intro y0 y1)
      clear HPT h4 h6 h7 h8 hr9 e0
      (try dsimp only); repeat' (first | (at_builtin; refine stopP ?_) | go_values | go_skip | go_guarded | go_step | go_upon | go_back)
      unfold StopP
      refine wpList_append_r rfl _ _ _ _ rfl rfl rfl HR.out ?_
      (try dsimp only); repeat' (first | go_values | go_skip | go_guarded | go_step | go_upon | go_back)
      go_roundw
      case rel => exact ⟨k + 1, ws ++ [y], va9, vc9, by have := HW.out.2.2.1; omega, by have := HW.out.2.2.2; omega, rfl, by go_num, by rw [List.length_append, HW.out.1]; rfl, (fun z hz => by rcases List.mem_append.1 hz with h | h; exact HW.out.2.1 z h; rw [List.mem_singleton.1 h]; exact HY.out), H8.out⟩
      case measure => have := HW.out.2.2.2; simp [intOf]; omega
    · have HW := Lib.hid (And.intro hwl hw0)
      have HS := Lib.hid hs
      clear hs hwl hw0
      have hex : (decide (k < vn) = false) ∨ (decide (k < vn) = true ∧ decide ((k : Int) < 60) = false) := by
        by_cases h1 : k < vn
        · exact .inr ⟨decide_eq_true h1, decide_eq_false (by omega)⟩
        · exact .inl (decide_eq_false h1)
      clear hgo hk hk2
      rcases hex with d0 | ⟨d0, d1⟩
      · as_aux_lemma =>
          have HBR := Lib.hid (fun wx => bring_any a1 1099511627776 wx ⟨by decide, by decide⟩)
          obtain ⟨y, hy⟩ : ∃ y, y = a1 % 1099511627776 := ⟨_, rfl⟩
          have y0 : 0 ≤ y := by omega
          have y1 : y ≤ 1099511627776 := by omega
          rw [← hy] at HBR
          clear hy
          have HSM := Lib.hid (small_any y y0 (by omega) HS.out)
          (try dsimp only); repeat' (first | go_values | go_skip | go_guarded | go_step | go_upon | go_back)
          refine (HBR.out _).mono ?_
          rintro r0 w2 ⟨rfl, rfl⟩
          clear HBR
          (try dsimp only); repeat' (first | go_values | go_skip | go_guarded | go_step | go_upon | go_back)
          refine HSM.out.mono ?_
          rintro r0 w3 ⟨c, hc, rfl, h3⟩
          have HPT := Lib.hid (bput_any (sM y) h3 hc (chk_small HM.out y0 (by omega)) (by rw [List.length_map, HW.out.1]; omega))
          clear HSM h3 hc HS
          (try dsimp only); repeat' (first | go_values | go_skip | go_guarded | go_step | go_upon | go_back)
          refine HPT.out.mono ?_
          rintro r0 w4 ⟨rfl, h4⟩
          have hml : (ws.map sM).length = k := by rw [List.length_map, HW.out.1]
          have HTK : Hid (Calls Tryd.prog 13 #[.pointer (some ⟨g, 0, none⟩), .int .i64 (k : Nat)] w4 fun e w' => ∃ u, MsgC u (sM y) ∧ e = .returned (.tuple #[.agg u, .int .i64 0]) ∧ Sep w [BagT g (ws.map sM), Is (.slice wa k wc) ws] w') := Lib.hid (by
            have h9 := btake_any k h4 (by rw [List.length_append, hml]; simp) (by rw [List.length_append, hml]; simp; omega)
            have e1 : (ws.map sM ++ [sM y])[k]'(by rw [List.length_append, hml]; simp) = sM y := by rw [List.getElem_append_right (by omega)]; simp
            have e2 : (ws.map sM ++ [sM y]).eraseIdx k = ws.map sM := by rw [← hml]; exact erase_last _ _
            rw [e1, e2] at h9
            exact h9)
          clear HPT h4
          (try dsimp only); repeat' (first | go_values | go_skip | go_guarded | go_step | go_upon | go_back)
          refine HTK.out.mono ?_
          rintro r0 w5 ⟨u, hu, rfl, h5⟩
          obtain ⟨HI, HO, HTH, h6⟩ := store_msg hu h5
          obtain ⟨b11, hb11⟩ : ∃ z, z = w5.heap.size := ⟨_, rfl⟩
          obtain ⟨w6, hw6⟩ : ∃ z, z = (w5.alloc (.cells #[.int .i64 0, .int .i64 0, .int .i64 0, .int .i64 0, .int .i64 0, .int .i64 0, .int .i64 0, .int .i64 0, .int .i64 0, .int .i64 0, .string ⟨#[]⟩, .int .i64 0, .int .i64 0, .slice none 0 0, .int .i64 0, .int .i64 0, .int .i64 0, .bool false, .int .i64 0, .slice none 0 0, .slice none 0 0, .int .i64 0] 43)).setCells w5.heap.size 0 u.toList := ⟨_, rfl⟩
          rw [← hw6, ← hb11] at h6
          have u3 : w6.cell? ⟨b11, 3, none⟩ = some (.int .i64 y) := h6.cell hu.view
          have HTE := Lib.hid (tells_any (h6.pick [1, 2, 0] rfl : Sep w [BagT g (ws.map sM), Is (.slice wa k wc) ws, Cl b11 u 43] w6) (by rw [HW.out.1]; omega) (fun x hx => (HW.out.2 x hx).1))
          clear HTK h5 h6 hu
          (try dsimp only); repeat' (first | (with_reducible show wpList _ _ _ (Oper.mk _ (Op.store 43 _ _) _ _ _ _ :: _) _ _; refine stopP ?_) | go_values | go_skip | go_guarded | go_step | go_upon | go_back)
          unfold StopP
          refine wpList_store_mid rfl 43 (.tmp 11) (.tmp 53) rfl w5.heap.size 0 u rfl rfl HTH.out HI.out HO.out ?_
          rw [← hw6, ← hb11]
          clear hw6 hb11 HTH HI HO
          have ye : (y != y) = false := by simp
          (try dsimp only); repeat' (first | go_values | go_skip | go_guarded | go_step | go_upon | go_back)
          refine HTE.out.mono ?_
          rintro r0 w7 ⟨rfl, h7⟩
          clear HTE u3
          by_cases hk0 : k = 0
          · have dk : ((k : Int) == 0) = true := beq_iff_eq.2 (by omega)
            have dk' : (k == 0) = true := beq_iff_eq.2 hk0
            have HCP : Hid (Calls Tryd.prog 12 #[.pointer (some ⟨g, 0, none⟩), .int .i64 0] w7 fun e w' => e = .returned (.int .i64 9) ∧ w7 = w') := Lib.hid (bcopy_bad 0 h7 (by rw [hml]; omega))
            have HWK := Lib.hid (works22_any h7 HM.out)
            clear h7 hk0 hml
            (try dsimp only); repeat' (first | go_values | go_skip | go_guarded | go_step | go_upon | go_back)
            refine HCP.out.mono ?_
            rintro r0 w8 ⟨rfl, rfl⟩
            clear HCP
            (try dsimp only); repeat' (first | go_values | go_skip | go_guarded | go_step | go_upon | go_back)
            refine HWK.out.mono ?_
            rintro r0 w9 ⟨rfl, h9⟩
            have H9 := Lib.hid h9.low
            clear HWK h9
            (try dsimp only); repeat' (first | go_values | go_skip | go_guarded | go_step | go_upon | go_back)
            go_ret
            exact ⟨rfl, H9.out⟩
          · have dk : ((k : Int) == 0) = false := beq_eq_false_iff_ne.2 (by omega)
            have dk' : (k == 0) = false := beq_eq_false_iff_ne.2 hk0
            have HB2 := Lib.hid (fun wx => bring_any a2 (k : Int) wx ⟨by omega, by omega⟩)
            obtain ⟨j, hj, hjk⟩ : ∃ j : Nat, a2 % (k : Int) = (j : Int) ∧ j < k := ⟨(a2 % (k : Int)).toNat, by have := Int.emod_nonneg a2 (show (k : Int) ≠ 0 by omega); omega, by have := Int.emod_lt_of_pos a2 (show (0 : Int) < (k : Int) by omega); have := Int.emod_nonneg a2 (show (k : Int) ≠ 0 by omega); omega⟩
            rw [hj] at HB2
            have hjw : j < ws.length := by rw [HW.out.1]; exact hjk
            obtain ⟨x, hx⟩ : ∃ x, x = ws[j] := ⟨_, rfl⟩
            have hx0 := HW.out.2 ws[j] (List.getElem_mem hjw)
            rw [← hx] at hx0
            obtain ⟨x0, x9⟩ := hx0
            have em : (ws.map sM)[j]'(by rw [hml]; exact hjk) = sM x := by rw [List.getElem_map, hx]
            have HCP : Hid (Calls Tryd.prog 12 #[.pointer (some ⟨g, 0, none⟩), .int .i64 (j : Nat)] w7 fun e w' => e = .returned (.int .i64 0) ∧ Sep w [BagT g (ws.map sM ++ [sM x]), Is (.slice wa k wc) ws] w') := Lib.hid (by
              have h9 := bcopy_any j h7.sw3.drop.sw2.sw2 (by rw [hml]; exact hjk) (by rw [em]; exact chk_small HM.out x0 (by omega)) (by rw [hml]; omega)
              rw [em] at h9
              exact h9)
            have jk : (j : Int) < (k : Int) := by omega
            have j0 : (0 : Int) ≤ (j : Int) := by omega
            clear h7 em hj
            (try dsimp only); repeat' (first | go_values | go_skip | go_guarded | go_step | go_upon | go_back)
            refine (HB2.out _).mono ?_
            rintro r0 w8 ⟨rfl, rfl⟩
            clear HB2
            (try dsimp only); repeat' (first | go_values | go_skip | go_guarded | go_step | go_upon | go_back)
            refine HCP.out.mono ?_
            rintro r0 w9 ⟨rfl, h9⟩
            have HAT : Hid (Calls Tryd.prog 16 #[.pointer (some ⟨g, 0, none⟩), .int .i64 (k : Nat)] w9 fun e w' => ∃ u, MsgC u (sM x) ∧ e = .returned (.tuple #[.agg u, .int .i64 0]) ∧ Sep w [BagT g (ws.map sM ++ [sM x]), Is (.slice wa k wc) ws] w') := Lib.hid (by
              have h10 := bat_any k h9 (by rw [List.length_append, hml]; simp)
              rw [show (ws.map sM ++ [sM x])[k]'(by rw [List.length_append, hml]; simp) = sM x by rw [List.getElem_append_right (by omega)]; simp] at h10
              exact h10)
            clear HCP h9
            (try dsimp only); repeat' (first | go_values | go_skip | go_guarded | go_step | go_upon | go_back)
            refine HAT.out.mono ?_
            rintro r0 w10 ⟨u', hu', rfl, h10⟩
            obtain ⟨HI, HO, HTH, h11⟩ := store_msg hu' h10
            obtain ⟨b14, hb14⟩ : ∃ z, z = w10.heap.size := ⟨_, rfl⟩
            obtain ⟨w11, hw11⟩ : ∃ z, z = (w10.alloc (.cells #[.int .i64 0, .int .i64 0, .int .i64 0, .int .i64 0, .int .i64 0, .int .i64 0, .int .i64 0, .int .i64 0, .int .i64 0, .int .i64 0, .string ⟨#[]⟩, .int .i64 0, .int .i64 0, .slice none 0 0, .int .i64 0, .int .i64 0, .int .i64 0, .bool false, .int .i64 0, .slice none 0 0, .slice none 0 0, .int .i64 0] 43)).setCells w10.heap.size 0 u'.toList := ⟨_, rfl⟩
            rw [← hw11, ← hb14] at h11
            obtain ⟨bw, ow, rfl, -, hwc⟩ := h11.sw3.sl.at (by omega)
            have hix : (iv .i64 ws)[j]? = some (.int .i64 x) := by unfold iv; rw [List.getElem?_map, List.getElem?_eq_getElem hjw, hx]; rfl
            have v3 : w11.cell? ⟨b14, 3, none⟩ = some (.int .i64 x) := h11.cell hu'.view
            have vw : w11.cell? ⟨bw, ow + j, none⟩ = some (.int .i64 x) := hwc j _ hix
            have HIX := Lib.hid hix
            have HUV := Lib.hid hu'.view
            have H11 : Hid (Sep w [BagT g (ws.map sM ++ [sM x]), Is (.slice (some ⟨bw, ow, none⟩) k wc) ws, Cl b14 u' 43] w11) := Lib.hid (h11.pick [1, 2, 0] rfl)
            have HRD : Hid (∀ (wx : World) (M : List Thing), Sep w (Is (.slice (some ⟨bw, ow, none⟩) k wc) ws :: M) wx → wx.cell? ⟨bw, ow + j, none⟩ = some (.int .i64 x)) := Lib.hid fun wx M hx => by
              obtain ⟨b', o', hbe, -, hcc⟩ := hx.sl.at (by omega)
              simp only [Option.some.injEq, Addr.mk.injEq, and_true] at hbe
              obtain ⟨rfl, rfl⟩ := hbe
              exact hcc j _ HIX.out
            have HML := Lib.hid hml
            clear HAT h10 h11 hu' hwc hix hx hjw hjk hk0 hml
            (try dsimp only); repeat' (first | (with_reducible show wpList _ _ _ (Oper.mk _ (Op.store 43 _ _) _ _ _ _ :: _) _ _; refine stopP ?_) | go_values | go_skip | go_guarded | go_step | go_upon | go_back)
            unfold StopP
            refine wpList_store_mid rfl 43 (.tmp 14) (.tmp 91) rfl w10.heap.size 0 u' rfl rfl HTH.out HI.out HO.out ?_
            rw [← hw11, ← hb14]
            clear hw11 hb14 HTH HI HO
            have xe : (x == x) = true := by simp
            (try dsimp only); repeat' (first | go_values | go_skip | go_guarded | go_step | go_upon | go_back)
            refine wp_region_G (fun w' => w'.cell? ⟨b14, 3, none⟩ = some (.int .i64 x) ∧ w'.cell? ⟨bw, ow + j, none⟩ = some (.int .i64 x)) [] (by kernel_rfl) ⟨v3, vw⟩ (fun hS => ?_)
            try dsimp only at hS
            refine wpAnyG_take' (i := 0) (v := ?v0_1ou) rfl (by kernel_rfl) (by kernel_rfl) (by kernel_rfl) (by kernel_rfl) (fun _ _ _ h => h) (Or.inl ⟨by rfl, ?hy0_1ou⟩) hS ?rest0_1ou
            case hy0_1ou => intro w hSw; (try dsimp only at hSw); go_simp; (try with_reducible rfl)
            case rest0_1ou =>
            try simp only [List.getElem_toArray, List.getElem_cons_succ, List.getElem_cons_zero, Act.put, List.setIfInBounds_toArray, List.set_cons_zero, List.set_cons_succ]
            refine wpAnyG_take' (i := 1) (v := ?v1_2ou) rfl (by kernel_rfl) (by kernel_rfl) (by kernel_rfl) (by kernel_rfl) (fun _ _ _ h => h) (Or.inl ⟨by rfl, ?hy1_2ou⟩) hS ?rest1_2ou
            case hy1_2ou => intro w hSw; (try dsimp only at hSw); go_simp; (try with_reducible rfl)
            case rest1_2ou =>
            try simp only [List.getElem_toArray, List.getElem_cons_succ, List.getElem_cons_zero, Act.put, List.setIfInBounds_toArray, List.set_cons_zero, List.set_cons_succ]
            refine wpAnyG_take' (i := 2) (v := ?v2_3ou) rfl (by kernel_rfl) (by kernel_rfl) (by kernel_rfl) (by kernel_rfl) (fun _ _ _ h => h) (Or.inl ⟨by rfl, ?hy2_3ou⟩) hS ?rest2_3ou
            case hy2_3ou => intro w hSw; (try dsimp only at hSw); go_simp; (try with_reducible rfl)
            case rest2_3ou =>
            try simp only [List.getElem_toArray, List.getElem_cons_succ, List.getElem_cons_zero, Act.put, List.setIfInBounds_toArray, List.set_cons_zero, List.set_cons_succ]
            refine wpAnyG_take' (i := 3) (v := ?v3_4ou) rfl (by kernel_rfl) (by kernel_rfl) (by kernel_rfl) (by kernel_rfl) (fun _ _ _ h => h) (Or.inl ⟨by rfl, ?hy3_4ou⟩) hS ?rest3_4ou
            case hy3_4ou => intro w hSw; (try dsimp only at hSw); go_simp; (try with_reducible rfl)
            case rest3_4ou =>
            try simp only [List.getElem_toArray, List.getElem_cons_succ, List.getElem_cons_zero, Act.put, List.setIfInBounds_toArray, List.set_cons_zero, List.set_cons_succ]
            refine wpAnyG_take' (i := 4) (v := ?v4_5ou) rfl (by kernel_rfl) (by kernel_rfl) (by kernel_rfl) (by kernel_rfl) (fun _ _ _ h => h) (Or.inl ⟨by rfl, ?hy4_5ou⟩) hS ?rest4_5ou
            case hy4_5ou => intro w hSw; (try dsimp only at hSw); go_simp; (try with_reducible rfl)
            case rest4_5ou =>
            try simp only [List.getElem_toArray, List.getElem_cons_succ, List.getElem_cons_zero, Act.put, List.setIfInBounds_toArray, List.set_cons_zero, List.set_cons_succ]
            refine wpAnyG_take' (i := 5) (v := ?v5_6ou) rfl (by kernel_rfl) (by kernel_rfl) (by kernel_rfl) (by kernel_rfl) (fun _ _ _ h => h) (Or.inl ⟨by rfl, ?hy5_6ou⟩) hS ?rest5_6ou
            case hy5_6ou => intro w hSw; (try dsimp only at hSw); go_simp; (try with_reducible rfl)
            case rest5_6ou =>
            try simp only [List.getElem_toArray, List.getElem_cons_succ, List.getElem_cons_zero, Act.put, List.setIfInBounds_toArray, List.set_cons_zero, List.set_cons_succ]
            refine wpAnyG_take' (i := 6) (v := ?v6_7ou) rfl (by kernel_rfl) (by kernel_rfl) (by kernel_rfl) (by kernel_rfl) (fun _ _ _ h => h) (Or.inl ⟨by rfl, ?hy6_7ou⟩) hS ?rest6_7ou
            case hy6_7ou => intro w hSw; (try dsimp only at hSw); go_simp; (try with_reducible rfl)
            case rest6_7ou =>
            try simp only [List.getElem_toArray, List.getElem_cons_succ, List.getElem_cons_zero, Act.put, List.setIfInBounds_toArray, List.set_cons_zero, List.set_cons_succ]
            refine wpAnyG_take' (i := 7) (v := ?v7_8ou) rfl (by kernel_rfl) (by kernel_rfl) (by kernel_rfl) (by kernel_rfl) (fun _ _ _ h => h) (Or.inl ⟨by rfl, ?hy7_8ou⟩) hS ?rest7_8ou
            case hy7_8ou => intro w hSw; (try dsimp only at hSw); go_simp; (try with_reducible rfl)
            case rest7_8ou =>
            try simp only [List.getElem_toArray, List.getElem_cons_succ, List.getElem_cons_zero, Act.put, List.setIfInBounds_toArray, List.set_cons_zero, List.set_cons_succ]
            refine wpAnyG_take' (i := 8) (v := ?v8_9ou) rfl (by kernel_rfl) (by kernel_rfl) (by kernel_rfl) (by kernel_rfl) (fun _ _ _ h => h) (Or.inl ⟨by rfl, ?hy8_9ou⟩) hS ?rest8_9ou
            case hy8_9ou => intro w hSw; (try dsimp only at hSw); go_simp; (try with_reducible rfl)
            case rest8_9ou =>
            try simp only [List.getElem_toArray, List.getElem_cons_succ, List.getElem_cons_zero, Act.put, List.setIfInBounds_toArray, List.set_cons_zero, List.set_cons_succ]
            refine wpAnyG_take' (i := 9) (v := ?v9_10ou) rfl (by kernel_rfl) (by kernel_rfl) (by kernel_rfl) (by kernel_rfl) (fun _ _ _ h => h) (Or.inl ⟨by rfl, ?hy9_10ou⟩) hS ?rest9_10ou
            case hy9_10ou => intro w hSw; (try dsimp only at hSw); go_simp; (try with_reducible rfl)
            case rest9_10ou =>
            try simp only [List.getElem_toArray, List.getElem_cons_succ, List.getElem_cons_zero, Act.put, List.setIfInBounds_toArray, List.set_cons_zero, List.set_cons_succ]
            refine wpAnyG_take' (i := 10) (v := ?v10_11ou) rfl (by kernel_rfl) (by kernel_rfl) (by kernel_rfl) (by kernel_rfl) (fun _ _ _ h => h) (Or.inl ⟨by rfl, ?hy10_11ou⟩) hS ?rest10_11ou
            case hy10_11ou => intro w hSw; (try dsimp only at hSw); go_simp; (try with_reducible rfl)
            case rest10_11ou =>
            try simp only [List.getElem_toArray, List.getElem_cons_succ, List.getElem_cons_zero, Act.put, List.setIfInBounds_toArray, List.set_cons_zero, List.set_cons_succ]
            refine wpAnyG_take' (i := 11) (v := ?v11_12ou) rfl (by kernel_rfl) (by kernel_rfl) (by kernel_rfl) (by kernel_rfl) (fun _ _ _ h => h) (Or.inl ⟨by rfl, ?hy11_12ou⟩) hS ?rest11_12ou
            case hy11_12ou => intro w hSw; (try dsimp only at hSw); go_simp; (try with_reducible rfl)
            case rest11_12ou =>
            try simp only [List.getElem_toArray, List.getElem_cons_succ, List.getElem_cons_zero, Act.put, List.setIfInBounds_toArray, List.set_cons_zero, List.set_cons_succ]
            refine wpAnyG_take' (i := 12) (v := ?v12_13ou) rfl (by kernel_rfl) (by kernel_rfl) (by kernel_rfl) (by kernel_rfl) (fun _ _ _ h => h) (Or.inl ⟨by rfl, ?hy12_13ou⟩) hS ?rest12_13ou
            case hy12_13ou => intro w hSw; (try dsimp only at hSw); go_simp; (try with_reducible rfl)
            case rest12_13ou =>
            try simp only [List.getElem_toArray, List.getElem_cons_succ, List.getElem_cons_zero, Act.put, List.setIfInBounds_toArray, List.set_cons_zero, List.set_cons_succ]
            refine wpAnyG_take' (i := 13) (v := ?v13_14ou) rfl (by kernel_rfl) (by kernel_rfl) (by kernel_rfl) (by kernel_rfl) (fun _ _ _ h => h) (Or.inl ⟨by rfl, ?hy13_14ou⟩) hS ?rest13_14ou
            case hy13_14ou => intro w hSw; (try dsimp only at hSw); go_simp; (try with_reducible rfl)
            case rest13_14ou =>
            try simp only [List.getElem_toArray, List.getElem_cons_succ, List.getElem_cons_zero, Act.put, List.setIfInBounds_toArray, List.set_cons_zero, List.set_cons_succ]
            refine wpAnyG_take' (i := 14) (v := ?v14_15ou) rfl (by kernel_rfl) (by kernel_rfl) (by kernel_rfl) (by kernel_rfl) (fun _ _ _ h => h) (Or.inl ⟨by rfl, ?hy14_15ou⟩) hS ?rest14_15ou
            case hy14_15ou => intro w hSw; (try dsimp only at hSw); go_simp; (try with_reducible rfl)
            case rest14_15ou =>
            try simp only [List.getElem_toArray, List.getElem_cons_succ, List.getElem_cons_zero, Act.put, List.setIfInBounds_toArray, List.set_cons_zero, List.set_cons_succ]
            refine wpAnyG_one (i := 15) (by kernel_rfl) rfl (fun K hK => ?_)
            go_simp
            have hd : Calls Tryd.prog 14 #[.pointer (some ⟨g, 0, none⟩), .int .i64 (k : Nat)] (World.drew w11) fun e w' => e = .returned (.int .i64 0) ∧ Sep w [BagT g (ws.map sM), Is (.slice (some ⟨bw, ow, none⟩) k wc) ws, Cl b14 u' 43] w' := by
              have h9 := bdrop_any k H11.out.drew (by rw [List.length_append, HML.out]; simp) (by rw [List.length_append, HML.out]; simp; omega)
              rw [show (ws.map sM ++ [sM x]).eraseIdx k = ws.map sM by rw [← HML.out]; exact erase_last _ _] at h9
              exact h9
            refine Calls.mono hd ?_
            rintro r15 w15 ⟨rfl, h15⟩
            have v3b : w15.cell? ⟨b14, 3, none⟩ = some (.int .i64 x) := h15.sw3.cell HUV.out
            have vwb := HRD.out _ _ h15.sw2
            have H15 := Lib.hid h15
            clear hd h15 H11
            (try dsimp only); repeat' (first | go_values | go_skip | go_guarded | go_step | go_upon | go_back)
            refine hK.out _ _ (fun _ => ?hS16ou) ?rest16ou
            case hS16ou => exact ⟨v3b, vwb⟩
            clear K hK
            try simp only [List.getElem_toArray, List.getElem_cons_succ, List.getElem_cons_zero, Act.put, List.setIfInBounds_toArray, List.set_cons_zero, List.set_cons_succ]
            refine wpAnyG_take' (i := 16) (v := ?v16_17ou) rfl (by kernel_rfl) (by kernel_rfl) (by kernel_rfl) (by kernel_rfl) (fun _ _ _ h => h) (Or.inl ⟨by rfl, ?hy16_17ou⟩) ⟨v3b, vwb⟩ ?rest16_17ou
            case hy16_17ou => intro w hSw; (try dsimp only at hSw); go_simp; (try with_reducible rfl)
            case rest16_17ou =>
            try simp only [List.getElem_toArray, List.getElem_cons_succ, List.getElem_cons_zero, Act.put, List.setIfInBounds_toArray, List.set_cons_zero, List.set_cons_succ]
            refine wpAnyG_take' (i := 17) (v := ?v17_18ou) rfl (by kernel_rfl) (by kernel_rfl) (by kernel_rfl) (by kernel_rfl) (fun _ _ _ h => h) (Or.inl ⟨by rfl, ?hy17_18ou⟩) ⟨v3b, vwb⟩ ?rest17_18ou
            case hy17_18ou => intro w hSw; (try dsimp only at hSw); go_simp; (try with_reducible rfl)
            case rest17_18ou =>
            try simp only [List.getElem_toArray, List.getElem_cons_succ, List.getElem_cons_zero, Act.put, List.setIfInBounds_toArray, List.set_cons_zero, List.set_cons_succ]
            refine wpAnyG_take' (i := 18) (v := ?v18_19ou) rfl (by kernel_rfl) (by kernel_rfl) (by kernel_rfl) (by kernel_rfl) (fun _ _ _ h => h) (Or.inl ⟨by rfl, ?hy18_19ou⟩) ⟨v3b, vwb⟩ ?rest18_19ou
            case hy18_19ou => intro w hSw; (try dsimp only at hSw); go_simp; (try with_reducible rfl)
            case rest18_19ou =>
            try simp only [List.getElem_toArray, List.getElem_cons_succ, List.getElem_cons_zero, Act.put, List.setIfInBounds_toArray, List.set_cons_zero, List.set_cons_succ]
            refine wpAnyG_take' (i := 19) (v := ?v19_20ou) rfl (by kernel_rfl) (by kernel_rfl) (by kernel_rfl) (by kernel_rfl) (fun _ _ _ h => h) (Or.inl ⟨by rfl, ?hy19_20ou⟩) ⟨v3b, vwb⟩ ?rest19_20ou
            case hy19_20ou => intro w hSw; (try dsimp only at hSw); go_simp; (try with_reducible rfl)
            case rest19_20ou =>
            try simp only [List.getElem_toArray, List.getElem_cons_succ, List.getElem_cons_zero, Act.put, List.setIfInBounds_toArray, List.set_cons_zero, List.set_cons_succ]
            refine wpAnyG_take' (i := 20) (v := ?v20_21ou) rfl (by kernel_rfl) (by kernel_rfl) (by kernel_rfl) (by kernel_rfl) (fun _ _ _ h => h) (Or.inl ⟨by rfl, ?hy20_21ou⟩) ⟨v3b, vwb⟩ ?rest20_21ou
            case hy20_21ou => intro w hSw; (try dsimp only at hSw); go_simp; (try with_reducible rfl)
            case rest20_21ou =>
            try simp only [List.getElem_toArray, List.getElem_cons_succ, List.getElem_cons_zero, Act.put, List.setIfInBounds_toArray, List.set_cons_zero, List.set_cons_succ]
            refine wpAnyG_one (i := 21) (by kernel_rfl) rfl (fun K hK => ?_)
            go_simp
            refine Calls.mono (tells_any H15.out (by rw [HW.out.1]; omega) (fun x hx => (HW.out.2 x hx).1)) ?_
            rintro r21 w21 ⟨rfl, h21⟩
            have v3c : w21.cell? ⟨b14, 3, none⟩ = some (.int .i64 x) := h21.sw3.cell HUV.out
            have vwc := HRD.out _ _ h21.sw2
            have H21 := Lib.hid h21
            clear h21 H15
            (try dsimp only); repeat' (first | go_values | go_skip | go_guarded | go_step | go_upon | go_back)
            refine hK.out _ _ (fun _ => ?hS22ou) ?rest22ou
            case hS22ou => exact ⟨v3c, vwc⟩
            clear K hK
            try simp only [List.getElem_toArray, List.getElem_cons_succ, List.getElem_cons_zero, Act.put, List.setIfInBounds_toArray, List.set_cons_zero, List.set_cons_succ]
            refine wpAnyG_take' (i := 22) (v := ?v22_23ou) rfl (by kernel_rfl) (by kernel_rfl) (by kernel_rfl) (by kernel_rfl) (fun _ _ _ h => h) (Or.inl ⟨by rfl, ?hy22_23ou⟩) ⟨v3c, vwc⟩ ?rest22_23ou
            case hy22_23ou => intro w hSw; (try dsimp only at hSw); go_simp; (try with_reducible rfl)
            case rest22_23ou =>
            try simp only [List.getElem_toArray, List.getElem_cons_succ, List.getElem_cons_zero, Act.put, List.setIfInBounds_toArray, List.set_cons_zero, List.set_cons_succ]
            refine wpAnyG_take' (i := 23) (v := ?v23_24ou) rfl (by kernel_rfl) (by kernel_rfl) (by kernel_rfl) (by kernel_rfl) (fun _ _ _ h => h) (Or.inl ⟨by rfl, ?hy23_24ou⟩) ⟨v3c, vwc⟩ ?rest23_24ou
            case hy23_24ou => intro w hSw; (try dsimp only at hSw); go_simp; (try with_reducible rfl)
            case rest23_24ou =>
            try simp only [List.getElem_toArray, List.getElem_cons_succ, List.getElem_cons_zero, Act.put, List.setIfInBounds_toArray, List.set_cons_zero, List.set_cons_succ]
            refine wpAnyG_one (i := 24) (by kernel_rfl) rfl (fun K hK => ?_)
            go_simp
            refine Calls.mono (works22_any H21.out HM.out) ?_
            rintro r24 w24 ⟨rfl, h24⟩
            have v3d : w24.cell? ⟨b14, 3, none⟩ = some (.int .i64 x) := h24.sw3.cell HUV.out
            have vwd := HRD.out _ _ h24.sw2
            have HZ := Lib.hid h24
            clear h24 H21
            (try dsimp only); repeat' (first | go_values | go_skip | go_guarded | go_step | go_upon | go_back)
            refine hK.out _ _ (fun _ => ?hS25ou) ?rest25ou
            case hS25ou => exact ⟨v3d, vwd⟩
            clear K hK
            try simp only [List.getElem_toArray, List.getElem_cons_succ, List.getElem_cons_zero, Act.put, List.setIfInBounds_toArray, List.set_cons_zero, List.set_cons_succ]
            refine wpAnyG_take' (i := 25) (v := ?v25_26ou) rfl (by kernel_rfl) (by kernel_rfl) (by kernel_rfl) (by kernel_rfl) (fun _ _ _ h => h) (Or.inl ⟨by rfl, ?hy25_26ou⟩) ⟨v3d, vwd⟩ ?rest25_26ou
            case hy25_26ou => intro w hSw; (try dsimp only at hSw); go_simp; (try with_reducible rfl)
            case rest25_26ou =>
            try simp only [List.getElem_toArray, List.getElem_cons_succ, List.getElem_cons_zero, Act.put, List.setIfInBounds_toArray, List.set_cons_zero, List.set_cons_succ]
            refine wpAnyG_take' (i := 26) (v := ?v26_27ou) rfl (by kernel_rfl) (by kernel_rfl) (by kernel_rfl) (by kernel_rfl) (fun _ _ _ h => h) (Or.inl ⟨by rfl, ?hy26_27ou⟩) ⟨v3d, vwd⟩ ?rest26_27ou
            case hy26_27ou => intro w hSw; (try dsimp only at hSw); go_simp; (try with_reducible rfl)
            case rest26_27ou =>
            try simp only [List.getElem_toArray, List.getElem_cons_succ, List.getElem_cons_zero, Act.put, List.setIfInBounds_toArray, List.set_cons_zero, List.set_cons_succ]
            refine wpAnyG_done (by kernel_rfl) ?_ _
            try simp only [List.getElem_toArray, List.getElem_cons_succ, List.getElem_cons_zero, Act.put, List.setIfInBounds_toArray, List.set_cons_zero, List.set_cons_succ]
            clear hS
            (try dsimp only); repeat' (first | go_values | go_skip | go_guarded | go_step | go_upon | go_back)
            go_ret
            exact ⟨rfl, HZ.out.low⟩
      · as_aux_lemma =>
          have HBR := Lib.hid (fun wx => bring_any a1 1099511627776 wx ⟨by decide, by decide⟩)
          obtain ⟨y, hy⟩ : ∃ y, y = a1 % 1099511627776 := ⟨_, rfl⟩
          have y0 : 0 ≤ y := by omega
          have y1 : y ≤ 1099511627776 := by omega
          rw [← hy] at HBR
          clear hy
          have HSM := Lib.hid (small_any y y0 (by omega) HS.out)
          (try dsimp only); repeat' (first | go_values | go_skip | go_guarded | go_step | go_upon | go_back)
          refine (HBR.out _).mono ?_
          rintro r0 w2 ⟨rfl, rfl⟩
          clear HBR
          (try dsimp only); repeat' (first | go_values | go_skip | go_guarded | go_step | go_upon | go_back)
          refine HSM.out.mono ?_
          rintro r0 w3 ⟨c, hc, rfl, h3⟩
          have HPT := Lib.hid (bput_any (sM y) h3 hc (chk_small HM.out y0 (by omega)) (by rw [List.length_map, HW.out.1]; omega))
          clear HSM h3 hc HS
          (try dsimp only); repeat' (first | go_values | go_skip | go_guarded | go_step | go_upon | go_back)
          refine HPT.out.mono ?_
          rintro r0 w4 ⟨rfl, h4⟩
          have hml : (ws.map sM).length = k := by rw [List.length_map, HW.out.1]
          have HTK : Hid (Calls Tryd.prog 13 #[.pointer (some ⟨g, 0, none⟩), .int .i64 (k : Nat)] w4 fun e w' => ∃ u, MsgC u (sM y) ∧ e = .returned (.tuple #[.agg u, .int .i64 0]) ∧ Sep w [BagT g (ws.map sM), Is (.slice wa k wc) ws] w') := Lib.hid (by
            have h9 := btake_any k h4 (by rw [List.length_append, hml]; simp) (by rw [List.length_append, hml]; simp; omega)
            have e1 : (ws.map sM ++ [sM y])[k]'(by rw [List.length_append, hml]; simp) = sM y := by rw [List.getElem_append_right (by omega)]; simp
            have e2 : (ws.map sM ++ [sM y]).eraseIdx k = ws.map sM := by rw [← hml]; exact erase_last _ _
            rw [e1, e2] at h9
            exact h9)
          clear HPT h4
          (try dsimp only); repeat' (first | go_values | go_skip | go_guarded | go_step | go_upon | go_back)
          refine HTK.out.mono ?_
          rintro r0 w5 ⟨u, hu, rfl, h5⟩
          obtain ⟨HI, HO, HTH, h6⟩ := store_msg hu h5
          obtain ⟨b11, hb11⟩ : ∃ z, z = w5.heap.size := ⟨_, rfl⟩
          obtain ⟨w6, hw6⟩ : ∃ z, z = (w5.alloc (.cells #[.int .i64 0, .int .i64 0, .int .i64 0, .int .i64 0, .int .i64 0, .int .i64 0, .int .i64 0, .int .i64 0, .int .i64 0, .int .i64 0, .string ⟨#[]⟩, .int .i64 0, .int .i64 0, .slice none 0 0, .int .i64 0, .int .i64 0, .int .i64 0, .bool false, .int .i64 0, .slice none 0 0, .slice none 0 0, .int .i64 0] 43)).setCells w5.heap.size 0 u.toList := ⟨_, rfl⟩
          rw [← hw6, ← hb11] at h6
          have u3 : w6.cell? ⟨b11, 3, none⟩ = some (.int .i64 y) := h6.cell hu.view
          have HTE := Lib.hid (tells_any (h6.pick [1, 2, 0] rfl : Sep w [BagT g (ws.map sM), Is (.slice wa k wc) ws, Cl b11 u 43] w6) (by rw [HW.out.1]; omega) (fun x hx => (HW.out.2 x hx).1))
          clear HTK h5 h6 hu
          (try dsimp only); repeat' (first | (with_reducible show wpList _ _ _ (Oper.mk _ (Op.store 43 _ _) _ _ _ _ :: _) _ _; refine stopP ?_) | go_values | go_skip | go_guarded | go_step | go_upon | go_back)
          unfold StopP
          refine wpList_store_mid rfl 43 (.tmp 11) (.tmp 53) rfl w5.heap.size 0 u rfl rfl HTH.out HI.out HO.out ?_
          rw [← hw6, ← hb11]
          clear hw6 hb11 HTH HI HO
          have ye : (y != y) = false := by simp
          (try dsimp only); repeat' (first | go_values | go_skip | go_guarded | go_step | go_upon | go_back)
          refine HTE.out.mono ?_
          rintro r0 w7 ⟨rfl, h7⟩
          clear HTE u3
          by_cases hk0 : k = 0
          · have dk : ((k : Int) == 0) = true := beq_iff_eq.2 (by omega)
            have dk' : (k == 0) = true := beq_iff_eq.2 hk0
            have HCP : Hid (Calls Tryd.prog 12 #[.pointer (some ⟨g, 0, none⟩), .int .i64 0] w7 fun e w' => e = .returned (.int .i64 9) ∧ w7 = w') := Lib.hid (bcopy_bad 0 h7 (by rw [hml]; omega))
            have HWK := Lib.hid (works22_any h7 HM.out)
            clear h7 hk0 hml
            (try dsimp only); repeat' (first | go_values | go_skip | go_guarded | go_step | go_upon | go_back)
            refine HCP.out.mono ?_
            rintro r0 w8 ⟨rfl, rfl⟩
            clear HCP
            (try dsimp only); repeat' (first | go_values | go_skip | go_guarded | go_step | go_upon | go_back)
            refine HWK.out.mono ?_
            rintro r0 w9 ⟨rfl, h9⟩
            have H9 := Lib.hid h9.low
            clear HWK h9
            (try dsimp only); repeat' (first | go_values | go_skip | go_guarded | go_step | go_upon | go_back)
            go_ret
            exact ⟨rfl, H9.out⟩
          · have dk : ((k : Int) == 0) = false := beq_eq_false_iff_ne.2 (by omega)
            have dk' : (k == 0) = false := beq_eq_false_iff_ne.2 hk0
            have HB2 := Lib.hid (fun wx => bring_any a2 (k : Int) wx ⟨by omega, by omega⟩)
            obtain ⟨j, hj, hjk⟩ : ∃ j : Nat, a2 % (k : Int) = (j : Int) ∧ j < k := ⟨(a2 % (k : Int)).toNat, by have := Int.emod_nonneg a2 (show (k : Int) ≠ 0 by omega); omega, by have := Int.emod_lt_of_pos a2 (show (0 : Int) < (k : Int) by omega); have := Int.emod_nonneg a2 (show (k : Int) ≠ 0 by omega); omega⟩
            rw [hj] at HB2
            have hjw : j < ws.length := by rw [HW.out.1]; exact hjk
            obtain ⟨x, hx⟩ : ∃ x, x = ws[j] := ⟨_, rfl⟩
            have hx0 := HW.out.2 ws[j] (List.getElem_mem hjw)
            rw [← hx] at hx0
            obtain ⟨x0, x9⟩ := hx0
            have em : (ws.map sM)[j]'(by rw [hml]; exact hjk) = sM x := by rw [List.getElem_map, hx]
            have HCP : Hid (Calls Tryd.prog 12 #[.pointer (some ⟨g, 0, none⟩), .int .i64 (j : Nat)] w7 fun e w' => e = .returned (.int .i64 0) ∧ Sep w [BagT g (ws.map sM ++ [sM x]), Is (.slice wa k wc) ws] w') := Lib.hid (by
              have h9 := bcopy_any j h7.sw3.drop.sw2.sw2 (by rw [hml]; exact hjk) (by rw [em]; exact chk_small HM.out x0 (by omega)) (by rw [hml]; omega)
              rw [em] at h9
              exact h9)
            have jk : (j : Int) < (k : Int) := by omega
            have j0 : (0 : Int) ≤ (j : Int) := by omega
            clear h7 em hj
            (try dsimp only); repeat' (first | go_values | go_skip | go_guarded | go_step | go_upon | go_back)
            refine (HB2.out _).mono ?_
            rintro r0 w8 ⟨rfl, rfl⟩
            clear HB2
            (try dsimp only); repeat' (first | go_values | go_skip | go_guarded | go_step | go_upon | go_back)
            refine HCP.out.mono ?_
            rintro r0 w9 ⟨rfl, h9⟩
            have HAT : Hid (Calls Tryd.prog 16 #[.pointer (some ⟨g, 0, none⟩), .int .i64 (k : Nat)] w9 fun e w' => ∃ u, MsgC u (sM x) ∧ e = .returned (.tuple #[.agg u, .int .i64 0]) ∧ Sep w [BagT g (ws.map sM ++ [sM x]), Is (.slice wa k wc) ws] w') := Lib.hid (by
              have h10 := bat_any k h9 (by rw [List.length_append, hml]; simp)
              rw [show (ws.map sM ++ [sM x])[k]'(by rw [List.length_append, hml]; simp) = sM x by rw [List.getElem_append_right (by omega)]; simp] at h10
              exact h10)
            clear HCP h9
            (try dsimp only); repeat' (first | go_values | go_skip | go_guarded | go_step | go_upon | go_back)
            refine HAT.out.mono ?_
            rintro r0 w10 ⟨u', hu', rfl, h10⟩
            obtain ⟨HI, HO, HTH, h11⟩ := store_msg hu' h10
            obtain ⟨b14, hb14⟩ : ∃ z, z = w10.heap.size := ⟨_, rfl⟩
            obtain ⟨w11, hw11⟩ : ∃ z, z = (w10.alloc (.cells #[.int .i64 0, .int .i64 0, .int .i64 0, .int .i64 0, .int .i64 0, .int .i64 0, .int .i64 0, .int .i64 0, .int .i64 0, .int .i64 0, .string ⟨#[]⟩, .int .i64 0, .int .i64 0, .slice none 0 0, .int .i64 0, .int .i64 0, .int .i64 0, .bool false, .int .i64 0, .slice none 0 0, .slice none 0 0, .int .i64 0] 43)).setCells w10.heap.size 0 u'.toList := ⟨_, rfl⟩
            rw [← hw11, ← hb14] at h11
            obtain ⟨bw, ow, rfl, -, hwc⟩ := h11.sw3.sl.at (by omega)
            have hix : (iv .i64 ws)[j]? = some (.int .i64 x) := by unfold iv; rw [List.getElem?_map, List.getElem?_eq_getElem hjw, hx]; rfl
            have v3 : w11.cell? ⟨b14, 3, none⟩ = some (.int .i64 x) := h11.cell hu'.view
            have vw : w11.cell? ⟨bw, ow + j, none⟩ = some (.int .i64 x) := hwc j _ hix
            have HIX := Lib.hid hix
            have HUV := Lib.hid hu'.view
            have H11 : Hid (Sep w [BagT g (ws.map sM ++ [sM x]), Is (.slice (some ⟨bw, ow, none⟩) k wc) ws, Cl b14 u' 43] w11) := Lib.hid (h11.pick [1, 2, 0] rfl)
            have HRD : Hid (∀ (wx : World) (M : List Thing), Sep w (Is (.slice (some ⟨bw, ow, none⟩) k wc) ws :: M) wx → wx.cell? ⟨bw, ow + j, none⟩ = some (.int .i64 x)) := Lib.hid fun wx M hx => by
              obtain ⟨b', o', hbe, -, hcc⟩ := hx.sl.at (by omega)
              simp only [Option.some.injEq, Addr.mk.injEq, and_true] at hbe
              obtain ⟨rfl, rfl⟩ := hbe
              exact hcc j _ HIX.out
            have HML := Lib.hid hml
            clear HAT h10 h11 hu' hwc hix hx hjw hjk hk0 hml
            (try dsimp only); repeat' (first | (with_reducible show wpList _ _ _ (Oper.mk _ (Op.store 43 _ _) _ _ _ _ :: _) _ _; refine stopP ?_) | go_values | go_skip | go_guarded | go_step | go_upon | go_back)
            unfold StopP
            refine wpList_store_mid rfl 43 (.tmp 14) (.tmp 91) rfl w10.heap.size 0 u' rfl rfl HTH.out HI.out HO.out ?_
            rw [← hw11, ← hb14]
            clear hw11 hb14 HTH HI HO
            have xe : (x == x) = true := by simp
            (try dsimp only); repeat' (first | go_values | go_skip | go_guarded | go_step | go_upon | go_back)
            refine wp_region_G (fun w' => w'.cell? ⟨b14, 3, none⟩ = some (.int .i64 x) ∧ w'.cell? ⟨bw, ow + j, none⟩ = some (.int .i64 x)) [] (by kernel_rfl) ⟨v3, vw⟩ (fun hS => ?_)
            try dsimp only at hS
            refine wpAnyG_take' (i := 0) (v := ?v0_1ov) rfl (by kernel_rfl) (by kernel_rfl) (by kernel_rfl) (by kernel_rfl) (fun _ _ _ h => h) (Or.inl ⟨by rfl, ?hy0_1ov⟩) hS ?rest0_1ov
            case hy0_1ov => intro w hSw; (try dsimp only at hSw); go_simp; (try with_reducible rfl)
            case rest0_1ov =>
            try simp only [List.getElem_toArray, List.getElem_cons_succ, List.getElem_cons_zero, Act.put, List.setIfInBounds_toArray, List.set_cons_zero, List.set_cons_succ]
            refine wpAnyG_take' (i := 1) (v := ?v1_2ov) rfl (by kernel_rfl) (by kernel_rfl) (by kernel_rfl) (by kernel_rfl) (fun _ _ _ h => h) (Or.inl ⟨by rfl, ?hy1_2ov⟩) hS ?rest1_2ov
            case hy1_2ov => intro w hSw; (try dsimp only at hSw); go_simp; (try with_reducible rfl)
            case rest1_2ov =>
            try simp only [List.getElem_toArray, List.getElem_cons_succ, List.getElem_cons_zero, Act.put, List.setIfInBounds_toArray, List.set_cons_zero, List.set_cons_succ]
            refine wpAnyG_take' (i := 2) (v := ?v2_3ov) rfl (by kernel_rfl) (by kernel_rfl) (by kernel_rfl) (by kernel_rfl) (fun _ _ _ h => h) (Or.inl ⟨by rfl, ?hy2_3ov⟩) hS ?rest2_3ov
            case hy2_3ov => intro w hSw; (try dsimp only at hSw); go_simp; (try with_reducible rfl)
            case rest2_3ov =>
            try simp only [List.getElem_toArray, List.getElem_cons_succ, List.getElem_cons_zero, Act.put, List.setIfInBounds_toArray, List.set_cons_zero, List.set_cons_succ]
            refine wpAnyG_take' (i := 3) (v := ?v3_4ov) rfl (by kernel_rfl) (by kernel_rfl) (by kernel_rfl) (by kernel_rfl) (fun _ _ _ h => h) (Or.inl ⟨by rfl, ?hy3_4ov⟩) hS ?rest3_4ov
            case hy3_4ov => intro w hSw; (try dsimp only at hSw); go_simp; (try with_reducible rfl)
            case rest3_4ov =>
            try simp only [List.getElem_toArray, List.getElem_cons_succ, List.getElem_cons_zero, Act.put, List.setIfInBounds_toArray, List.set_cons_zero, List.set_cons_succ]
            refine wpAnyG_take' (i := 4) (v := ?v4_5ov) rfl (by kernel_rfl) (by kernel_rfl) (by kernel_rfl) (by kernel_rfl) (fun _ _ _ h => h) (Or.inl ⟨by rfl, ?hy4_5ov⟩) hS ?rest4_5ov
            case hy4_5ov => intro w hSw; (try dsimp only at hSw); go_simp; (try with_reducible rfl)
            case rest4_5ov =>
            try simp only [List.getElem_toArray, List.getElem_cons_succ, List.getElem_cons_zero, Act.put, List.setIfInBounds_toArray, List.set_cons_zero, List.set_cons_succ]
            refine wpAnyG_take' (i := 5) (v := ?v5_6ov) rfl (by kernel_rfl) (by kernel_rfl) (by kernel_rfl) (by kernel_rfl) (fun _ _ _ h => h) (Or.inl ⟨by rfl, ?hy5_6ov⟩) hS ?rest5_6ov
            case hy5_6ov => intro w hSw; (try dsimp only at hSw); go_simp; (try with_reducible rfl)
            case rest5_6ov =>
            try simp only [List.getElem_toArray, List.getElem_cons_succ, List.getElem_cons_zero, Act.put, List.setIfInBounds_toArray, List.set_cons_zero, List.set_cons_succ]
            refine wpAnyG_take' (i := 6) (v := ?v6_7ov) rfl (by kernel_rfl) (by kernel_rfl) (by kernel_rfl) (by kernel_rfl) (fun _ _ _ h => h) (Or.inl ⟨by rfl, ?hy6_7ov⟩) hS ?rest6_7ov
            case hy6_7ov => intro w hSw; (try dsimp only at hSw); go_simp; (try with_reducible rfl)
            case rest6_7ov =>
            try simp only [List.getElem_toArray, List.getElem_cons_succ, List.getElem_cons_zero, Act.put, List.setIfInBounds_toArray, List.set_cons_zero, List.set_cons_succ]
            refine wpAnyG_take' (i := 7) (v := ?v7_8ov) rfl (by kernel_rfl) (by kernel_rfl) (by kernel_rfl) (by kernel_rfl) (fun _ _ _ h => h) (Or.inl ⟨by rfl, ?hy7_8ov⟩) hS ?rest7_8ov
            case hy7_8ov => intro w hSw; (try dsimp only at hSw); go_simp; (try with_reducible rfl)
            case rest7_8ov =>
            try simp only [List.getElem_toArray, List.getElem_cons_succ, List.getElem_cons_zero, Act.put, List.setIfInBounds_toArray, List.set_cons_zero, List.set_cons_succ]
            refine wpAnyG_take' (i := 8) (v := ?v8_9ov) rfl (by kernel_rfl) (by kernel_rfl) (by kernel_rfl) (by kernel_rfl) (fun _ _ _ h => h) (Or.inl ⟨by rfl, ?hy8_9ov⟩) hS ?rest8_9ov
            case hy8_9ov => intro w hSw; (try dsimp only at hSw); go_simp; (try with_reducible rfl)
            case rest8_9ov =>
            try simp only [List.getElem_toArray, List.getElem_cons_succ, List.getElem_cons_zero, Act.put, List.setIfInBounds_toArray, List.set_cons_zero, List.set_cons_succ]
            refine wpAnyG_take' (i := 9) (v := ?v9_10ov) rfl (by kernel_rfl) (by kernel_rfl) (by kernel_rfl) (by kernel_rfl) (fun _ _ _ h => h) (Or.inl ⟨by rfl, ?hy9_10ov⟩) hS ?rest9_10ov
            case hy9_10ov => intro w hSw; (try dsimp only at hSw); go_simp; (try with_reducible rfl)
            case rest9_10ov =>
            try simp only [List.getElem_toArray, List.getElem_cons_succ, List.getElem_cons_zero, Act.put, List.setIfInBounds_toArray, List.set_cons_zero, List.set_cons_succ]
            refine wpAnyG_take' (i := 10) (v := ?v10_11ov) rfl (by kernel_rfl) (by kernel_rfl) (by kernel_rfl) (by kernel_rfl) (fun _ _ _ h => h) (Or.inl ⟨by rfl, ?hy10_11ov⟩) hS ?rest10_11ov
            case hy10_11ov => intro w hSw; (try dsimp only at hSw); go_simp; (try with_reducible rfl)
            case rest10_11ov =>
            try simp only [List.getElem_toArray, List.getElem_cons_succ, List.getElem_cons_zero, Act.put, List.setIfInBounds_toArray, List.set_cons_zero, List.set_cons_succ]
            refine wpAnyG_take' (i := 11) (v := ?v11_12ov) rfl (by kernel_rfl) (by kernel_rfl) (by kernel_rfl) (by kernel_rfl) (fun _ _ _ h => h) (Or.inl ⟨by rfl, ?hy11_12ov⟩) hS ?rest11_12ov
            case hy11_12ov => intro w hSw; (try dsimp only at hSw); go_simp; (try with_reducible rfl)
            case rest11_12ov =>
            try simp only [List.getElem_toArray, List.getElem_cons_succ, List.getElem_cons_zero, Act.put, List.setIfInBounds_toArray, List.set_cons_zero, List.set_cons_succ]
            refine wpAnyG_take' (i := 12) (v := ?v12_13ov) rfl (by kernel_rfl) (by kernel_rfl) (by kernel_rfl) (by kernel_rfl) (fun _ _ _ h => h) (Or.inl ⟨by rfl, ?hy12_13ov⟩) hS ?rest12_13ov
            case hy12_13ov => intro w hSw; (try dsimp only at hSw); go_simp; (try with_reducible rfl)
            case rest12_13ov =>
            try simp only [List.getElem_toArray, List.getElem_cons_succ, List.getElem_cons_zero, Act.put, List.setIfInBounds_toArray, List.set_cons_zero, List.set_cons_succ]
            refine wpAnyG_take' (i := 13) (v := ?v13_14ov) rfl (by kernel_rfl) (by kernel_rfl) (by kernel_rfl) (by kernel_rfl) (fun _ _ _ h => h) (Or.inl ⟨by rfl, ?hy13_14ov⟩) hS ?rest13_14ov
            case hy13_14ov => intro w hSw; (try dsimp only at hSw); go_simp; (try with_reducible rfl)
            case rest13_14ov =>
            try simp only [List.getElem_toArray, List.getElem_cons_succ, List.getElem_cons_zero, Act.put, List.setIfInBounds_toArray, List.set_cons_zero, List.set_cons_succ]
            refine wpAnyG_take' (i := 14) (v := ?v14_15ov) rfl (by kernel_rfl) (by kernel_rfl) (by kernel_rfl) (by kernel_rfl) (fun _ _ _ h => h) (Or.inl ⟨by rfl, ?hy14_15ov⟩) hS ?rest14_15ov
            case hy14_15ov => intro w hSw; (try dsimp only at hSw); go_simp; (try with_reducible rfl)
            case rest14_15ov =>
            try simp only [List.getElem_toArray, List.getElem_cons_succ, List.getElem_cons_zero, Act.put, List.setIfInBounds_toArray, List.set_cons_zero, List.set_cons_succ]
            refine wpAnyG_one (i := 15) (by kernel_rfl) rfl (fun K hK => ?_)
            go_simp
            have hd : Calls Tryd.prog 14 #[.pointer (some ⟨g, 0, none⟩), .int .i64 (k : Nat)] (World.drew w11) fun e w' => e = .returned (.int .i64 0) ∧ Sep w [BagT g (ws.map sM), Is (.slice (some ⟨bw, ow, none⟩) k wc) ws, Cl b14 u' 43] w' := by
              have h9 := bdrop_any k H11.out.drew (by rw [List.length_append, HML.out]; simp) (by rw [List.length_append, HML.out]; simp; omega)
              rw [show (ws.map sM ++ [sM x]).eraseIdx k = ws.map sM by rw [← HML.out]; exact erase_last _ _] at h9
              exact h9
            refine Calls.mono hd ?_
            rintro r15 w15 ⟨rfl, h15⟩
            have v3b : w15.cell? ⟨b14, 3, none⟩ = some (.int .i64 x) := h15.sw3.cell HUV.out
            have vwb := HRD.out _ _ h15.sw2
            have H15 := Lib.hid h15
            clear hd h15 H11
            (try dsimp only); repeat' (first | go_values | go_skip | go_guarded | go_step | go_upon | go_back)
            refine hK.out _ _ (fun _ => ?hS16ov) ?rest16ov
            case hS16ov => exact ⟨v3b, vwb⟩
            clear K hK
            try simp only [List.getElem_toArray, List.getElem_cons_succ, List.getElem_cons_zero, Act.put, List.setIfInBounds_toArray, List.set_cons_zero, List.set_cons_succ]
            refine wpAnyG_take' (i := 16) (v := ?v16_17ov) rfl (by kernel_rfl) (by kernel_rfl) (by kernel_rfl) (by kernel_rfl) (fun _ _ _ h => h) (Or.inl ⟨by rfl, ?hy16_17ov⟩) ⟨v3b, vwb⟩ ?rest16_17ov
            case hy16_17ov => intro w hSw; (try dsimp only at hSw); go_simp; (try with_reducible rfl)
            case rest16_17ov =>
            try simp only [List.getElem_toArray, List.getElem_cons_succ, List.getElem_cons_zero, Act.put, List.setIfInBounds_toArray, List.set_cons_zero, List.set_cons_succ]
            refine wpAnyG_take' (i := 17) (v := ?v17_18ov) rfl (by kernel_rfl) (by kernel_rfl) (by kernel_rfl) (by kernel_rfl) (fun _ _ _ h => h) (Or.inl ⟨by rfl, ?hy17_18ov⟩) ⟨v3b, vwb⟩ ?rest17_18ov
            case hy17_18ov => intro w hSw; (try dsimp only at hSw); go_simp; (try with_reducible rfl)
            case rest17_18ov =>
            try simp only [List.getElem_toArray, List.getElem_cons_succ, List.getElem_cons_zero, Act.put, List.setIfInBounds_toArray, List.set_cons_zero, List.set_cons_succ]
            refine wpAnyG_take' (i := 18) (v := ?v18_19ov) rfl (by kernel_rfl) (by kernel_rfl) (by kernel_rfl) (by kernel_rfl) (fun _ _ _ h => h) (Or.inl ⟨by rfl, ?hy18_19ov⟩) ⟨v3b, vwb⟩ ?rest18_19ov
            case hy18_19ov => intro w hSw; (try dsimp only at hSw); go_simp; (try with_reducible rfl)
            case rest18_19ov =>
            try simp only [List.getElem_toArray, List.getElem_cons_succ, List.getElem_cons_zero, Act.put, List.setIfInBounds_toArray, List.set_cons_zero, List.set_cons_succ]
            refine wpAnyG_take' (i := 19) (v := ?v19_20ov) rfl (by kernel_rfl) (by kernel_rfl) (by kernel_rfl) (by kernel_rfl) (fun _ _ _ h => h) (Or.inl ⟨by rfl, ?hy19_20ov⟩) ⟨v3b, vwb⟩ ?rest19_20ov
            case hy19_20ov => intro w hSw; (try dsimp only at hSw); go_simp; (try with_reducible rfl)
            case rest19_20ov =>
            try simp only [List.getElem_toArray, List.getElem_cons_succ, List.getElem_cons_zero, Act.put, List.setIfInBounds_toArray, List.set_cons_zero, List.set_cons_succ]
            refine wpAnyG_take' (i := 20) (v := ?v20_21ov) rfl (by kernel_rfl) (by kernel_rfl) (by kernel_rfl) (by kernel_rfl) (fun _ _ _ h => h) (Or.inl ⟨by rfl, ?hy20_21ov⟩) ⟨v3b, vwb⟩ ?rest20_21ov
            case hy20_21ov => intro w hSw; (try dsimp only at hSw); go_simp; (try with_reducible rfl)
            case rest20_21ov =>
            try simp only [List.getElem_toArray, List.getElem_cons_succ, List.getElem_cons_zero, Act.put, List.setIfInBounds_toArray, List.set_cons_zero, List.set_cons_succ]
            refine wpAnyG_one (i := 21) (by kernel_rfl) rfl (fun K hK => ?_)
            go_simp
            refine Calls.mono (tells_any H15.out (by rw [HW.out.1]; omega) (fun x hx => (HW.out.2 x hx).1)) ?_
            rintro r21 w21 ⟨rfl, h21⟩
            have v3c : w21.cell? ⟨b14, 3, none⟩ = some (.int .i64 x) := h21.sw3.cell HUV.out
            have vwc := HRD.out _ _ h21.sw2
            have H21 := Lib.hid h21
            clear h21 H15
            (try dsimp only); repeat' (first | go_values | go_skip | go_guarded | go_step | go_upon | go_back)
            refine hK.out _ _ (fun _ => ?hS22ov) ?rest22ov
            case hS22ov => exact ⟨v3c, vwc⟩
            clear K hK
            try simp only [List.getElem_toArray, List.getElem_cons_succ, List.getElem_cons_zero, Act.put, List.setIfInBounds_toArray, List.set_cons_zero, List.set_cons_succ]
            refine wpAnyG_take' (i := 22) (v := ?v22_23ov) rfl (by kernel_rfl) (by kernel_rfl) (by kernel_rfl) (by kernel_rfl) (fun _ _ _ h => h) (Or.inl ⟨by rfl, ?hy22_23ov⟩) ⟨v3c, vwc⟩ ?rest22_23ov
            case hy22_23ov => intro w hSw; (try dsimp only at hSw); go_simp; (try with_reducible rfl)
            case rest22_23ov =>
            try simp only [List.getElem_toArray, List.getElem_cons_succ, List.getElem_cons_zero, Act.put, List.setIfInBounds_toArray, List.set_cons_zero, List.set_cons_succ]
            refine wpAnyG_take' (i := 23) (v := ?v23_24ov) rfl (by kernel_rfl) (by kernel_rfl) (by kernel_rfl) (by kernel_rfl) (fun _ _ _ h => h) (Or.inl ⟨by rfl, ?hy23_24ov⟩) ⟨v3c, vwc⟩ ?rest23_24ov
            case hy23_24ov => intro w hSw; (try dsimp only at hSw); go_simp; (try with_reducible rfl)
            case rest23_24ov =>
            try simp only [List.getElem_toArray, List.getElem_cons_succ, List.getElem_cons_zero, Act.put, List.setIfInBounds_toArray, List.set_cons_zero, List.set_cons_succ]
            refine wpAnyG_one (i := 24) (by kernel_rfl) rfl (fun K hK => ?_)
            go_simp
            refine Calls.mono (works22_any H21.out HM.out) ?_
            rintro r24 w24 ⟨rfl, h24⟩
            have v3d : w24.cell? ⟨b14, 3, none⟩ = some (.int .i64 x) := h24.sw3.cell HUV.out
            have vwd := HRD.out _ _ h24.sw2
            have HZ := Lib.hid h24
            clear h24 H21
            (try dsimp only); repeat' (first | go_values | go_skip | go_guarded | go_step | go_upon | go_back)
            refine hK.out _ _ (fun _ => ?hS25ov) ?rest25ov
            case hS25ov => exact ⟨v3d, vwd⟩
            clear K hK
            try simp only [List.getElem_toArray, List.getElem_cons_succ, List.getElem_cons_zero, Act.put, List.setIfInBounds_toArray, List.set_cons_zero, List.set_cons_succ]
            refine wpAnyG_take' (i := 25) (v := ?v25_26ov) rfl (by kernel_rfl) (by kernel_rfl) (by kernel_rfl) (by kernel_rfl) (fun _ _ _ h => h) (Or.inl ⟨by rfl, ?hy25_26ov⟩) ⟨v3d, vwd⟩ ?rest25_26ov
            case hy25_26ov => intro w hSw; (try dsimp only at hSw); go_simp; (try with_reducible rfl)
            case rest25_26ov =>
            try simp only [List.getElem_toArray, List.getElem_cons_succ, List.getElem_cons_zero, Act.put, List.setIfInBounds_toArray, List.set_cons_zero, List.set_cons_succ]
            refine wpAnyG_take' (i := 26) (v := ?v26_27ov) rfl (by kernel_rfl) (by kernel_rfl) (by kernel_rfl) (by kernel_rfl) (fun _ _ _ h => h) (Or.inl ⟨by rfl, ?hy26_27ov⟩) ⟨v3d, vwd⟩ ?rest26_27ov
            case hy26_27ov => intro w hSw; (try dsimp only at hSw); go_simp; (try with_reducible rfl)
            case rest26_27ov =>
            try simp only [List.getElem_toArray, List.getElem_cons_succ, List.getElem_cons_zero, Act.put, List.setIfInBounds_toArray, List.set_cons_zero, List.set_cons_succ]
            refine wpAnyG_done (by kernel_rfl) ?_ _
            try simp only [List.getElem_toArray, List.getElem_cons_succ, List.getElem_cons_zero, Act.put, List.setIfInBounds_toArray, List.set_cons_zero, List.set_cons_succ]
            clear hS
            (try dsimp only); repeat' (first | go_values | go_skip | go_guarded | go_step | go_upon | go_back)
            go_ret
            exact ⟨rfl, HZ.out.low⟩
end Go.Proofs.YtcnbmeiielkigaaDoor
