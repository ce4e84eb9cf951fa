/- PipeNames. -/
import Derived.Test.YtpknfeokfladkaaDoorPipe10
namespace Go.Proofs.YtpknfeokfladkaaDoor
open Go.RowKit
set_option linter.unusedVariables false
set_option linter.unusedSimpArgs false
set_option maxRecDepth 100000 in
set_option maxHeartbeats 64000000 in
theorem names12 (w : World) (hk : KindsAt w) :
    Calls Tryd.prog 8 #[] w fun e w' => e = .returned (.bool true) ∧ Below w.heap.size w w' := by
  have HK := Lib.hid hk
  clear hk
  have HN3 := Lib.hid (pnew_any 9007199254740991 (Sep.start w) (by omega) (by omega))
  go_enter Tryd.func8, Tryd.ntmps8
  go_wp2_with fail
  refine (pnew_bad (-1) (.inl (by omega))).mono ?_
  rintro r0 w1 ⟨rfl, rfl⟩
  go_wp2_with fail
  refine (pnew_bad 9007199254740992 (.inr (by omega))).mono ?_
  rintro r0 w1 ⟨rfl, rfl⟩
  go_wp2_with fail
  refine HN3.out.mono ?_
  rintro r0 w1 ⟨g0, rfl, h1⟩
  have ht := top_any h1 (by omega) (by omega) (by simp)
  rw [show (9007199254740991 : Int) + (([] : List (EnM × Value)).length : Int) = 9007199254740991 from rfl] at ht
  have HT := Lib.hid ht
  clear HN3 h1 ht
  go_wp2_with fail
  refine HT.out.mono ?_
  rintro r0 w2 ⟨rfl, h2⟩
  have HM := Lib.hid (make24 w2)
  have h3 := h2.drop.alloc (.cells (madeCells #[.int .i64 0] 24) 3)
  have hsl : ∀ wx, Sep w [Cl w2.heap.size (madeCells #[.int .i64 0] 24) 3] wx → Sl wx (.slice (some ⟨w2.heap.size, 0, none⟩) 24 24) (iv .i64 (List.replicate 24 0)) := fun wx hx => by
    have := (hx.asRow 24 (by simp [madeCells]) (by unfold maxLen; omega)).sl
    rw [made24] at this
    exact this
  have HR := Lib.hid (row12_any _ _ 24 h3 hsl (by omega))
  clear HT h2 h3 hsl
  rw [show ((List.replicate 24 (0 : Int)).take 24) = List.replicate 24 0 by simp] at HR
  obtain ⟨ows, how⟩ : ∃ z, z = (List.replicate 24 (0 : Int)).map askP := ⟨_, rfl⟩
  rw [← how] at HR
  have HO : Hid (ows.length = 24 ∧ ∀ q ∈ ows, q.1.ok = true ∧ q.1.p.ls = []) := Lib.hid ⟨by rw [how]; simp, by
    rw [how]; intro q hq
    obtain ⟨z, -, rfl⟩ := List.mem_map.1 hq
    exact ⟨askE_ok z, rfl⟩⟩
  clear how
  go_wp2_with fail
  rw [HM.out]
  clear HM
  go_wp2_with fail
  refine HR.out.mono ?_
  rintro r0 w4 ⟨u4, rfl, h4⟩
  obtain ⟨a4, c4, rfl, -⟩ := h4.enForm
  rw [HO.out.1] at h4 ⊢
  have HF := Lib.hid (filled_any 0 a4 c4 24 ows h4 (fun wx hx => hx.enS) HO.out.1 (by omega) (by omega) (by omega) (fun q hq => (HO.out.2 q hq).1) HK.out)
  clear h4 HR
  go_wp2_with fail
  refine HF.out.mono ?_
  rintro r0 w5 ⟨g, rfl, qs, hqs, h5⟩
  have hql : qs.length = 24 := by have := congrArg List.length hqs; rw [List.length_map, List.length_map, HO.out.1] at this; exact this
  have HQ : Hid (qs.length = 24 ∧ (∀ q ∈ qs, q.1.p.ls = [])) := Lib.hid ⟨hql, fun q hq => by
    have h9 : q.1 ∈ ows.map (·.1) := hqs ▸ List.mem_map_of_mem hq
    obtain ⟨z, hz, hz2⟩ := List.mem_map.1 h9
    rw [← hz2]; exact (HO.out.2 z hz).2⟩
  have h6 : Sep w [PipeT g 0 qs] w5 := h5.pick [0] rfl
  have HA := Lib.hid (asks_any 1 h6)
  have hx1 := askE_ok 1
  have hl1 : (askE 1).p.ls = [] := rfl
  generalize askE 1 = x1 at *
  unfold enV at HA
  clear HF h5 h6 hqs hql HO
  go_wp2_with fail
  refine HA.out.mono ?_
  rintro r0 w6 ⟨rfl, h7⟩
  have hap := append_full x1 (.slice none 0 0) h7 (fun wx hx => by rw [hl1]; exact lnK wx) HK.out hx1 (by have := HQ.out; omega) (by have := HQ.out; omega)
  unfold enV at hap
  have HAP := Lib.hid hap
  have HX1 := Lib.hid (And.intro hx1 hl1)
  clear HA hap h7 hx1 hl1
  go_wp2_with fail
  refine HAP.out.mono ?_
  rintro r0 w7 ⟨rfl, h8⟩
  have hap := append_bad zE (.slice none 0 0) h8 (fun wx hx => lnK wx) HK.out zE_bad
  unfold enV zE at hap
  dsimp only at hap
  rw [show sZ.1 = (⟨#[]⟩ : ByteArray) from rfl] at hap
  have HAQ := Lib.hid hap
  clear HAP hap h8
  go_wp2_with fail
  refine HAQ.out.mono ?_
  rintro r0 w8 ⟨rfl, h9⟩
  have HG1 := Lib.hid (get_bad 25 (.inr (by have := HQ.out; omega)) h9 (by omega) (by omega) (by have := HQ.out; omega))
  clear HAQ h9
  go_wp2_with fail
  refine HG1.out.mono ?_
  rintro r0 w9 ⟨rfl, h10⟩
  have HG2 := Lib.hid (get_bad 0 (.inl (by omega)) (h10.alloc0 (.cells #[.int .i64 0, .int .i64 0, .int .i64 0, .string ⟨#[]⟩, .int .i64 0, .int .i64 0, .slice none 0 0] 34)) (by omega) (by omega) (by have := HQ.out; omega))
  clear HG1 h10
  go_wp2_with fail
  refine HG2.out.mono ?_
  rintro r0 w10 ⟨rfl, h11⟩
  have HR1 := Lib.hid (from_bad (-1) (.inl (by omega)) (h11.alloc0 (.cells #[.int .i64 0, .int .i64 0, .int .i64 0, .string ⟨#[]⟩, .int .i64 0, .int .i64 0, .slice none 0 0] 34)) (by omega) (by omega) (by have := HQ.out; omega))
  clear HG2 h11
  go_wp2_with fail
  refine HR1.out.mono ?_
  rintro r0 w11 ⟨rfl, h12⟩
  have HR2 := Lib.hid (from_ok 24 24 (by have := HQ.out; omega) (by omega) (fun q hq => by rw [HQ.out.2 q hq]; simp) h12 (by omega) (by omega) (by have := HQ.out; omega))
  clear HR1 h12
  go_wp2_with fail
  refine HR2.out.mono ?_
  rintro r0 w12 ⟨u12, rfl, rs, hrs, h13⟩
  have hr0 : rs = [] := by
    rw [List.drop_eq_nil_of_le (by have := HQ.out; omega)] at hrs
    simpa using hrs
  subst hr0
  obtain ⟨a12, c12, rfl, -⟩ := h13.enForm
  have h14 := h13.drop
  have HC1 := Lib.hid (cut_bad 25 (.inr (by have := HQ.out; omega)) h14 (by omega) (by omega) (by have := HQ.out; omega))
  rw [show ([] : List (EnM × Value)).length = 0 from rfl]
  clear HR2 h13 h14 hrs
  go_wp2_with fail
  refine HC1.out.mono ?_
  rintro r0 w13 ⟨rfl, h15⟩
  have HC2 := Lib.hid (cut_bad (-1) (.inl (by omega)) h15 (by omega) (by omega) (by have := HQ.out; omega))
  clear HC1 h15
  go_wp2_with fail
  refine HC2.out.mono ?_
  rintro r0 w14 ⟨rfl, h16⟩
  have HT1 := Lib.hid (trim_bad 25 (.inr (by have := HQ.out; omega)) h16 (by omega) (by omega) (by have := HQ.out; omega))
  clear HC2 h16
  go_wp2_with fail
  refine HT1.out.mono ?_
  rintro r0 w15 ⟨rfl, h17⟩
  have ht := trim_ok 24 24 (by have := HQ.out; omega) (by omega) h17 (by omega) (by omega) (by have := HQ.out; omega)
  rw [List.drop_eq_nil_of_le (by have := HQ.out; omega)] at ht
  have HT2 := Lib.hid ht
  clear HT1 h17 ht
  go_wp2_with fail
  refine HT2.out.mono ?_
  rintro r0 w16 ⟨rfl, h18⟩
  have HB := Lib.hid (base_any h18)
  clear HT2 h18
  go_wp2_with fail
  refine HB.out.mono ?_
  rintro r0 w17 ⟨rfl, h19⟩
  have hc := cut_ok 24 0 (by simp) (by omega) h19 (by omega) (by omega) (by simp)
  rw [List.take_nil] at hc
  have HC3 := Lib.hid hc
  clear HB h19 hc
  go_wp2_with fail
  refine HC3.out.mono ?_
  rintro r0 w18 ⟨rfl, h20⟩
  have hg := agree_any (-5) none 0 0 [] h20 (fun wx hx => .inl ⟨none, 0, rfl, rfl⟩) rfl (by omega) (by omega) (by simp)
  rw [show agrV 24 (([] : List (EnM × Value)).map (·.1)) (-5) (([] : List (EnM × Value)).map (·.1)) = 0 by kernel_rfl] at hg
  have HA1 := Lib.hid hg
  clear HC3 h20 hg
  go_wp2_with fail
  refine HA1.out.mono ?_
  rintro r0 w19 ⟨rfl, h21⟩
  have hg := agree_any 4611686018427387904 none 0 0 [] h21 (fun wx hx => .inl ⟨none, 0, rfl, rfl⟩) rfl (by omega) (by omega) (by simp)
  rw [show agrV 24 (([] : List (EnM × Value)).map (·.1)) 4611686018427387904 (([] : List (EnM × Value)).map (·.1)) = 24 by kernel_rfl] at hg
  have HA2 := Lib.hid hg
  clear HA1 h21 hg
  go_wp2_with fail
  refine HA2.out.mono ?_
  rintro r0 w20 ⟨rfl, h22⟩
  have H22 := Lib.hid (Sep.npNil h22.drop)
  clear HA2 h22 HQ
  go_wp2_with fail
  go_loopw [21, 22] (fun pv i wr => ∃ (k : Nat), k ≤ 2 ∧ i = .int .i64 k ∧ (∃ ad, pv = .pointer ad) ∧ Sep w [NPT pv] wr) (fun _ i _ => 2 - (intOf i).toNat)
  case atStart => exact ⟨0, by omega, rfl, ⟨_, rfl⟩, H22.out⟩
  case round =>
    obtain ⟨k, hk, rfl, ⟨ad, rfl⟩, hs⟩ := hrel
    clear H22
    by_cases hk2 : k < 2
    · have d0 : decide ((k : Int) < 2) = true := decide_eq_true (by omega)
      have k0 : (0 : Int) ≤ (k : Int) := by omega
      have k1 : (k : Int) < 2 := by omega
      have HKK := Lib.hid hk2
      have hA : ∀ wx L, Sep w L wx → Calls Tryd.prog 23 #[.int .i64 1] wx fun e w' => e = .returned (enV (askE 1) (.slice none 0 0)) ∧ Sep w L w' := fun wx L hx => asks_any 1 hx
      have HA := Lib.hid (hA _ _ hs)
      generalize askE 1 = y1 at *
      unfold enV at HA
      clear hs hk hk2 hA
      go_wp2_with fail
      refine HA.out.mono ?_
      rintro r0 w21 ⟨rfl, h1⟩
      have hap := append_np y1 (.slice none 0 0) h1 rfl
      unfold enV at hap
      have HAP := Lib.hid hap
      clear HA h1 hap
      go_wp2_with fail
      refine HAP.out.mono ?_
      rintro r0 w22 ⟨rfl, h2⟩
      have HG := Lib.hid (get_np 1 h2)
      clear HAP h2
      go_wp2_with fail
      refine HG.out.mono ?_
      rintro r0 w23 ⟨rfl, h3⟩
      obtain ⟨b4, hb4⟩ : ∃ z, z = w23.heap.size := ⟨_, rfl⟩
      obtain ⟨w24, hw24⟩ : ∃ z, z = w23.alloc (.cells #[.int .i64 0, .int .i64 0, .int .i64 0, .string ⟨#[]⟩, .int .i64 0, .int .i64 0, .slice none 0 0] 34) := ⟨_, rfl⟩
      have h4 : Sep w [NPT (.pointer ad), Cl b4 #[.int .i64 0, .int .i64 0, .int .i64 0, .string ⟨#[]⟩, .int .i64 0, .int .i64 0, .slice none 0 0] 34] w24 := by rw [hw24, hb4]; exact (h3.alloc _).sw2
      have HF := Lib.hid (from_n 0 h4.np)
      have HC := Lib.hid (cut_n 0 h4.np)
      have HT := Lib.hid (trim_n 0 h4.np)
      have HAG := Lib.hid (agree_n (u := .slice none 0 0) 0 h4.np)
      have HB := Lib.hid (base_n h4.np)
      have HTP := Lib.hid (top_n h4.np)
      obtain ⟨z0, z1, z2, z3, z4, z5, z6⟩ := cells7 h4.sw2
      have H4 := Lib.hid h4
      clear HG h3 h4
      go_wp2_with fail
      rw [← hw24, ← hb4]
      clear hw24 hb4
      refine HF.out.mono ?_
      rintro r0 w25 ⟨rfl, rfl⟩
      clear HF
      go_wp2_with fail
      refine HC.out.mono ?_
      rintro r0 w25 ⟨rfl, rfl⟩
      clear HC
      go_wp2_with fail
      refine HT.out.mono ?_
      rintro r0 w25 ⟨rfl, rfl⟩
      clear HT
      go_wp2_with fail
      refine HAG.out.mono ?_
      rintro r0 w25 ⟨rfl, rfl⟩
      clear HAG
      go_wp2_with fail
      refine HB.out.mono ?_
      rintro r0 w25 ⟨rfl, rfl⟩
      clear HB
      go_wp2_with fail
      refine HTP.out.mono ?_
      rintro r0 w25 ⟨rfl, rfl⟩
      clear HTP
      have H5 := Lib.hid ((H4.out.alloc (.cells #[.bool false, .int .i64 0, .slice none 0 0] 67)).npZero.pick [0] rfl)
      clear H4
      go_wp2_with fail
      go_roundw
      case rel => exact ⟨k + 1, HKK.out, by go_num, ⟨_, rfl⟩, H5.out⟩
      case measure => have := HKK.out; simp [intOf]; omega
    · have d0 : decide ((k : Int) < 2) = false := decide_eq_false (by omega)
      have HW := Lib.hid (works12_any hs (HK.out.below hs.low))
      clear hs hk hk2
      go_wp2_with fail
      refine HW.out.mono ?_
      rintro r0 w13 ⟨rfl, h5⟩
      have HE := Lib.hid h5.low
      clear HW h5
      go_wp2_with fail
      go_ret
      exact ⟨rfl, HE.out⟩
end Go.Proofs.YtpknfeokfladkaaDoor
