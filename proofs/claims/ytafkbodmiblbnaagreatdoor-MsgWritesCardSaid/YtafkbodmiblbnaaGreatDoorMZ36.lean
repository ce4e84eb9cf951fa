/- The document's Check, said whole. -/
import Derived.Test.YtafkbodmiblbnaaGreatDoorMRm5
import Derived.Test.YtafkbodmiblbnaaGreatDoorMZ24
import Derived.Test.YtafkbodmiblbnaaGreatDoorMZ25
import Derived.Test.YtafkbodmiblbnaaGreatDoorMRm0
import Derived.Test.YtafkbodmiblbnaaGreatDoorMMb2
namespace Go.Proofs.YtafkbodmiblbnaaGreatDoor
open Go Go.RowKit
set_option linter.unusedVariables false
set_option linter.unusedSimpArgs false
theorem mf_zero (k : Int) : (!(mfieldsOf k == 0)) = (decide (1 ≤ k) && decide (k ≤ 10)) := by
  by_cases h : 0 ≤ k ∧ k ≤ 10
  · rcases k_cases h with rfl | rfl | rfl | rfl | rfl | rfl | rfl | rfl | rfl | rfl | rfl <;> decide
  · rw [has_out h]
    by_cases h1 : 1 ≤ k

    · rw [decide_eq_false (show ¬ k ≤ 10 by omega), Bool.and_false]; rfl
    · rw [decide_eq_false h1]; rfl
theorem chk_flat (g : MgM) : chkB g = ((decide (1 ≤ g.k) && decide (g.k ≤ 10) && partB g.f && partB g.t && holdsB (bit (mfieldsOf g.k) 1) g.v && holdsB (bit (mfieldsOf g.k) 2) g.o && holdsB (bit (mfieldsOf g.k) 4) g.cm && holdsB (bit (mfieldsOf g.k) 8) g.la && fEB (mfieldsOf g.k) g.en) &&
    ((if bit (mfieldsOf g.k) 64 = true then resB g.rc g.ra g.rb else decide (g.rc = 0 ∧ g.ra = 0 ∧ g.rb = 0) && !g.s) && (if bit (mfieldsOf g.k) 128 = true then ckI g.ib g.ck g.ps g.ic else imgSame g.ib g.ic g.ck 0 0 [] && decide (g.ps.length = 0)))) := by
  unfold chkB
  rw [mf_zero]
  have e1 : fRB (mfieldsOf g.k) g.rc g.ra g.rb g.s = (if bit (mfieldsOf g.k) 64 = true then resB g.rc g.ra g.rb else decide (g.rc = 0 ∧ g.ra = 0 ∧ g.rb = 0) && !g.s) := rfl
  have e2 : fIB (mfieldsOf g.k) g.ib g.ck g.ps g.ic = (if bit (mfieldsOf g.k) 128 = true then ckI g.ib g.ck g.ps g.ic else imgSame g.ib g.ic g.ck 0 0 [] && decide (g.ps.length = 0)) := rfl
  rw [← e1, ← e2]
  generalize fRB (mfieldsOf g.k) g.rc g.ra g.rb g.s = x1
  generalize fIB (mfieldsOf g.k) g.ib g.ck g.ps g.ic = x2
  generalize fEB (mfieldsOf g.k) g.en = x3
  generalize holdsB (bit (mfieldsOf g.k) 1) g.v = x4
  generalize holdsB (bit (mfieldsOf g.k) 2) g.o = x5
  generalize holdsB (bit (mfieldsOf g.k) 4) g.cm = x6
  generalize holdsB (bit (mfieldsOf g.k) 8) g.la = x7
  generalize partB g.f = x8
  generalize partB g.t = x9
  simp only [Bool.and_assoc]
theorem res_cases (rc ra rb : Int) : (rc = 0 ∧ ra = 0 ∧ rb = 0 ∧ decide (rc = 0 ∧ ra = 0 ∧ rb = 0) = true) ∨ (¬ rc = 0 ∧ decide (rc = 0 ∧ ra = 0 ∧ rb = 0) = false) ∨ (rc = 0 ∧ ¬ ra = 0 ∧ decide (rc = 0 ∧ ra = 0 ∧ rb = 0) = false) ∨ (rc = 0 ∧ ra = 0 ∧ ¬ rb = 0 ∧ decide (rc = 0 ∧ ra = 0 ∧ rb = 0) = false) := by
  by_cases h0 : rc = 0
  · by_cases h1 : ra = 0
    · by_cases h2 : rb = 0
      · exact .inl ⟨h0, h1, h2, decide_eq_true ⟨h0, h1, h2⟩⟩
      · exact .inr (.inr (.inr ⟨h0, h1, h2, decide_eq_false fun h => h2 h.2.2⟩))
    · exact .inr (.inr (.inl ⟨h0, h1, decide_eq_false fun h => h1 h.2.1⟩))
  · exact .inr (.inl ⟨h0, decide_eq_false fun h => h0 h.1⟩)
set_option maxRecDepth 100000 in
set_option maxHeartbeats 16000000 in
/-- The document's Check answers as the program's does. -/
theorem rcheck_w {w : World} (g : MgM) (hg : GmS w g) (hl : g.ck.length ≤ 1000000000) (hx : g.ps.length ≤ 1000000) (hic : g.ic ≤ 9223372036854775807) :
    Calls Tryz.prog 9 #[.agg (mgC g)] w fun e w' => e = .returned (.int .i64 (if chkB g then 0 else 2)) ∧ Sep w [] w' := by
  obtain ⟨hg1, hg2, hg3⟩ := hg
  have h1 := (Sep.start w).alloc (.cells (mgC g) 34)
  have HCK : CkS w w.heap.size (mgC g) g.k g.f g.t g.v g.o g.cm g.la g.rc g.ra g.rb g.s g.ib g.ic g.cv g.ev (bit (mfieldsOf g.k) 1) (bit (mfieldsOf g.k) 2) (bit (mfieldsOf g.k) 4) (bit (mfieldsOf g.k) 8) (bit (mfieldsOf g.k) 64) (bit (mfieldsOf g.k) 128) (partB g.f) (partB g.t) (holdsB (bit (mfieldsOf g.k) 1) g.v) (holdsB (bit (mfieldsOf g.k) 2) g.o) (holdsB (bit (mfieldsOf g.k) 4) g.cm) (holdsB (bit (mfieldsOf g.k) 8) g.la) (fEB (mfieldsOf g.k) g.en) (resB g.rc g.ra g.rb) (ckI g.ib g.ck g.ps g.ic) (imgSame g.ib g.ic g.ck 0 0 [] && decide (g.ps.length = 0)) :=
    { c0 := rfl, c1 := rfl, c2 := rfl, c3 := rfl, c4 := rfl, c5 := rfl, c6 := rfl, c14 := rfl, c15 := rfl, c16 := rfl, c17 := rfl, c18 := rfl, c19 := rfl, c20 := rfl, c21 := rfl
      ld := fun wx hx => hx.loadW 34 Tryz.underlying34 rfl (by kernel_rfl)
      hv := fun wx => rhvw_any g.k wx
      ho := fun wx hx => rhop_any g.k hx
      hc := fun wx hx => rhcm_any g.k hx
      hl := fun wx => rhla_any g.k wx
      hr := fun wx => rhrs_any g.k wx
      hm := fun wx hx => rhim_any g.k hx
      o1 := fun wx => rone_any _ _ wx
      o2 := fun wx => rone_any _ _ wx
      o4 := fun wx => rone_any _ _ wx
      o8 := fun wx => rone_any _ _ wx
      sf := fun wx => rsome_any _ wx
      st := fun wx => rsome_any _ wx
      en := fun wx hx => (rentries_w (w := wx) g (hg1.below hx.low)).mono fun e w' ⟨he, h'⟩ => ⟨he, hx.below h'.low⟩
      cr := fun wx hx => (rres_any g.rc g.ra g.rb hx).mono fun e w' ⟨he, h'⟩ => ⟨by rw [he]; rfl, h'⟩
      ci := fun wx hx' => (rckimg_w (w := wx) g.ib g.ic g.cv g.ev g.ck g.ps (hg2.below hx'.low) (hg3.below hx'.low) hl hx hic).mono fun e w' ⟨he, h'⟩ => ⟨by rw [he]; rfl, hx'.below h'.low⟩
      si := fun wx hx' => (rsameimg_w (w := wx) g.ib g.ic 0 0 g.cv g.ev (.slice none 0 0) (.slice none 0 0) g.ck [] g.ps [] (hg2.below hx'.low) (.inl (.inl ⟨rfl, rfl⟩)) (hg3.below hx'.low) (.inl ⟨none, 0, rfl, rfl⟩) hl (by simp) hx (by simp)).mono fun e w' ⟨r, he, hr, h'⟩ => ⟨by rw [he, sameP_nil g.ps r hr], hx'.below h'.low⟩ }
  exact rcheckS (decide (g.rc = 0 ∧ g.ra = 0 ∧ g.rb = 0)) _ rfl rfl h1 (Lib.hid HCK) (res_cases _ _ _) (Lib.hid (by rw [chk_flat]))
end Go.Proofs.YtafkbodmiblbnaaGreatDoor
/- The document's Crc. -/
namespace Go.Proofs.YtafkbodmiblbnaaGreatDoor
open Go Go.RowKit
set_option linter.unusedVariables false
set_option linter.unusedSimpArgs false
theorem crcB_odd (y : Nat) (h : y % 2 = 1) : crcB y = y / 2 ^^^ 3988292384 := by unfold crcB; rw [h]
theorem crcB_even (y : Nat) (h : y % 2 = 0) : crcB y = y / 2 := by unfold crcB; rw [h]; simp
set_option maxRecDepth 100000 in
set_option maxHeartbeats 4000000 in
theorem rcrc_any (v : Value) (l : List UInt8) (w : World) (h : Sl w v (bv l)) (hlen : l.length ≤ 1099511627776) : Calls Tryz.prog 86 #[v] w fun e w' => e = .returned (.int .u32 (crcL l : Nat)) ∧ w = w' := by
  obtain ⟨a0, c0, rfl⟩ := slB h
  obtain ⟨n, hn⟩ : ∃ n, n = l.length := ⟨_, rfl⟩
  rw [← hn] at h hlen ⊢
  have n0 : (0 : Int) ≤ (n : Int) := by omega
  have H := Lib.hid h
  have HN := Lib.hid hn
  clear h hn
  go_enter Tryz.func86, Tryz.ntmps86
  (try dsimp only); repeat' (first | go_values | go_skip | go_guarded | go_step | go_upon | go_back)
  go_loop [3, 4] (fun c i => ∃ (j x : Nat), j ≤ n ∧ i = .int .i64 j ∧ c = .int .u32 x ∧ x < 4294967296 ∧ x = (l.take j).foldl crcS 4294967295) (fun _ i => n - (intOf i).toNat)
  case atStart => exact ⟨0, 4294967295, Nat.zero_le _, rfl, rfl, by omega, rfl⟩
  case round =>
    obtain ⟨j, x, hj, rfl, rfl, hx, hrv⟩ := hrel
    have HR := Lib.hid hrv
    have HX := Lib.hid hx
    clear hrv hx
    by_cases hlt : j < n
    · have d0 : decide (j < n) = true := decide_eq_true hlt
      have j0 : (0 : Int) ≤ (j : Int) := by omega
      have j1 : (j : Int) < (n : Int) := by omega
      obtain ⟨b, off, ha, -, hc⟩ := sl_at H.out (by omega)
      subst ha
      have hjl : j < l.length := by rw [← HN.out]; exact hlt
      have e0 : w.cell? ⟨b, off + j, none⟩ = some (.int .u8 (l[j]'hjl).toNat) := hc j _ (bv_get l j hjl)
      have HZ := Lib.hid (xor_u32 x (l[j]'hjl).toNat HX.out (by have := (l[j]'hjl).toNat_lt; omega))
      have HS := Lib.hid (crcF_succ l j hjl)
      have HB := Lib.hid (show (crcS x (l[j]'hjl)) < 4294967296 from crcS_lt _ _ HX.out)
      have HXB := Lib.hid (Nat.xor_lt_two_pow (n := 32) (x := x) (y := (l[j]'hjl).toNat) (by have := HX.out; omega) (by have := (l[j]'hjl).toNat_lt; omega))
      have HC : Hid (crcN 8 (x ^^^ (l[j]'hjl).toNat) = crcS x (l[j]'hjl)) := Lib.hid rfl
      have HM : Hid (((l[j]'hjl).toNat : Int) % 4294967296 = (l[j]'hjl).toNat) := Lib.hid (by have := (l[j]'hjl).toNat_lt; omega)
      obtain ⟨y, hy⟩ : ∃ y, y = l[j]'hjl := ⟨_, rfl⟩
      rw [← hy] at e0 HZ HS HB HC HM HXB
      clear hc hy
      (try dsimp only); repeat' (first | go_values | go_skip | go_guarded | go_step | go_upon | go_back)
      (try rw [HM.out])
      rw [HZ.out]
      go_loop [3, 5] (fun c i => ∃ (m z : Nat), m ≤ 8 ∧ i = .int .i64 m ∧ c = .int .u32 z ∧ z < 4294967296 ∧ crcN (8 - m) z = crcS x y) (fun _ i => 8 - (intOf i).toNat)
      case atStart => exact ⟨0, x ^^^ y.toNat, Nat.zero_le _, rfl, rfl, HXB.out, HC.out⟩
      case round =>
        obtain ⟨m, z, hm, rfl, rfl, hz, hzv⟩ := hrel
        have HZV := Lib.hid hzv
        clear hzv HC
        have m0 : (0 : Int) ≤ (m : Int) := by omega
        by_cases hm8 : m < 8
        · have f0 : decide (m < 8) = true := decide_eq_true hm8
          have f1 : decide ((m : Int) < 8) = true := decide_eq_true (by omega)
          have HNX : Hid (crcN (8 - (m + 1)) (crcB z) = crcS x y) := Lib.hid (by rw [← HZV.out, show 8 - m = (8 - (m + 1)) + 1 by omega]; rfl)
          have HCL := Lib.hid (crcB_lt z hz)
          have z0 : (0 : Int) ≤ (z : Int) := by omega
          by_cases hodd : z % 2 = 1
          · have o1 : (z : Int) % 2 = 1 := by omega
            have o2 : (z : Int).tmod 2 = 1 := by rw [Int.tmod_eq_emod_of_nonneg (by omega)]; exact o1
            have HV : Hid (bits BinOp.xor IntKind.u32 ((z : Int) / 2) 3988292384 = (crcB z : Nat)) := Lib.hid (by
              rw [crcB_odd z hodd, show ((z : Int) / 2) = ((z / 2 : Nat) : Int) by omega, show (3988292384 : Int) = ((3988292384 : Nat) : Int) from rfl, xor_u32 _ _ (by omega) (by omega)])
            (try dsimp only); repeat' (first | go_values | go_skip | go_guarded | go_step | go_upon | go_back)
            go_round
            case rel => exact ⟨m + 1, crcB z, by omega, by go_num, by rw [HV.out], HCL.out, HNX.out⟩
            case measure => simp [intOf]; omega
          · have o1 : (z : Int) % 2 = 0 := by omega
            have o2 : (z : Int).tmod 2 = 0 := by rw [Int.tmod_eq_emod_of_nonneg (by omega)]; exact o1
            have HV : Hid (((z : Int) / 2) = (crcB z : Nat)) := Lib.hid (by rw [crcB_even z (by omega)]; omega)
            (try dsimp only); repeat' (first | go_values | go_skip | go_guarded | go_step | go_upon | go_back)
            go_round
            case rel => exact ⟨m + 1, crcB z, by omega, by go_num, by rw [← HV.out], HCL.out, HNX.out⟩
            case measure => simp [intOf]; omega
        · have f0 : decide (m < 8) = false := decide_eq_false hm8
          have f1 : decide ((m : Int) < 8) = false := decide_eq_false (by omega)
          have HE : Hid (z = crcS x y) := Lib.hid (by rw [← HZV.out, show 8 - m = 0 by omega]; rfl)
          (try dsimp only); repeat' (first | go_values | go_skip | go_guarded | go_step | go_upon | go_back)
          go_round
          case rel => exact ⟨j + 1, crcS x y, by omega, by go_num, by rw [HE.out], HB.out, by rw [HS.out, ← HR.out]⟩
          case measure => simp [intOf]; omega
    · have hjn : j = n := by omega
      subst hjn
      have d0 : decide (j < j) = false := decide_eq_false (by omega)
      have HE := Lib.hid (not_u32 x HX.out)
      have HF : Hid (crcL l = 4294967295 - x) := Lib.hid (by rw [HR.out, HN.out, List.take_length]; rfl)
      (try dsimp only); repeat' (first | go_values | go_skip | go_guarded | go_step | go_upon | go_back)
      go_ret
      exact ⟨by rw [HF.out, ← HE.out]; rfl, rfl⟩
end Go.Proofs.YtafkbodmiblbnaaGreatDoor
/- The document's Seal. -/
namespace Go.Proofs.YtafkbodmiblbnaaGreatDoor
open Go Go.RowKit
set_option linter.unusedVariables false
set_option linter.unusedSimpArgs false
theorem sl_lit4 (w : World) (z0 z1 z2 z3 : Int) (c0 c1 c2 c3 : UInt8) (h0 : z0 = c0.toNat) (h1 : z1 = c1.toNat) (h2 : z2 = c2.toNat) (h3 : z3 = c3.toNat) (e : TypeId) :
    Sl (w.alloc (.cells #[.int .u8 z0, .int .u8 z1, .int .u8 z2, .int .u8 z3] e)) (.slice (some ⟨w.heap.size, 0, none⟩) 4 4) (bv [c0, c1, c2, c3]) := by
  subst h0 h1 h2 h3
  have h : Own (w.alloc (.cells #[.int .u8 (c0.toNat : Int), .int .u8 (c1.toNat : Int), .int .u8 (c2.toNat : Int), .int .u8 (c3.toNat : Int)] e)) w.heap.size e (.slice (some ⟨w.heap.size, 0, none⟩) 4 4) (bv [c0, c1, c2, c3]) :=
    World.ownsRow_lit w #[.int .u8 (c0.toNat : Int), .int .u8 (c1.toNat : Int), .int .u8 (c2.toNat : Int), .int .u8 (c3.toNat : Int)] 4 (Nat.le_refl _) (by unfold maxLen; omega) rfl
  exact h.sl
theorem tail4 (l : List UInt8) : tailL l = [UInt8.ofNat (crcL l / 256 ^ 0), UInt8.ofNat (crcL l / 256 ^ 1), UInt8.ofNat (crcL l / 256 ^ 2), UInt8.ofNat (crcL l / 256 ^ 3)] := rfl
theorem byte_of (n j k : Nat) (z : Int) (h : z = ((n / k % 256 : Nat) : Int)) (hk : k = 256 ^ j) : z = (UInt8.ofNat (n / 256 ^ j)).toNat := by
  subst hk; rw [h, UInt8.toNat_ofNat']
set_option maxRecDepth 100000 in
set_option maxHeartbeats 4000000 in
theorem rseal_ok {w0 w : World} {L : List Thing} {v : Value} (l : List UInt8) (h : Sep w0 L w) (hv : Sl w v (bv l)) (hl : l.length ≤ 65532) :
    Calls Tryz.prog 49 #[v] w fun e w' => ∃ u, e = .returned (.tuple #[u, .int .i64 0]) ∧ Sep w0 (By u (sealL l) :: L) w' := by
  have HCR := Lib.hid (rcrc_any v l w hv (by omega))
  have HCP := Lib.hid (copy_sep v l w h hv (by omega))
  have HC := Lib.hid (crcL_lt l)
  have HT := Lib.hid (tail4 l)
  have HLL := Lib.hid hl
  obtain ⟨C, hC⟩ : ∃ C, C = crcL l := ⟨_, rfl⟩
  rw [← hC] at HCR HC HT
  have HCE := Lib.hid hC
  obtain ⟨a, c, rfl⟩ := slB hv
  obtain ⟨n, hn⟩ : ∃ n, n = l.length := ⟨_, rfl⟩
  rw [← hn] at HCR HCP hl ⊢
  have n0 : (0 : Int) ≤ (n : Int) := by omega
  have n1 : decide ((65536 : Int) < (n : Int) + 4) = false := decide_eq_false (by omega)
  have n2 : decide (65536 < n + 4) = false := decide_eq_false (by omega)
  have n3 : ¬ (65536 : Int) < (n : Int) + 4 := by omega
  have n4 : (n : Int) ≤ 65532 := by omega
  have c0 : (0 : Int) ≤ (C : Int) := by omega
  have c1 : (C : Int) < 4294967296 := by have := HC.out; omega
  clear h hv hn hl hC
  go_enter Tryz.func49, Tryz.ntmps49
  (try dsimp only); repeat' (first | go_values | go_skip | go_guarded | go_step | go_upon | go_back)
  refine HCR.out.mono ?_
  rintro r0 w1 ⟨rfl, rfl⟩
  clear HCR
  (try dsimp only); repeat' (first | go_values | go_skip | go_guarded | go_step | go_upon | go_back)
  refine HCP.out.mono ?_
  rintro r0 w2 ⟨v1, rfl, h1⟩
  clear HCP
  have h2 := h1.alloc0 (.cells #[.int .u8 ((C : Int) % 256), .int .u8 ((C : Int) / 256 % 256), .int .u8 ((C : Int) / 65536 % 256), .int .u8 ((C : Int) / 16777216)] 5)
  obtain ⟨v3, w3, hr, h3, -⟩ := app8 (ty := 29) h2 (sl_lit4 w2 _ _ _ _ (UInt8.ofNat (C / 256 ^ 0)) (UInt8.ofNat (C / 256 ^ 1)) (UInt8.ofNat (C / 256 ^ 2)) (UInt8.ofNat (C / 256 ^ 3))
    (byte_of C 0 1 _ (by omega) rfl) (byte_of C 1 256 _ (by omega) rfl) (byte_of C 2 65536 _ (by omega) rfl) (byte_of C 3 16777216 _ (by have := HC.out; omega) rfl) 5) (by have := HLL.out; simp; omega)
  have HRR := Lib.hid hr
  rw [← HT.out] at h3
  have H3 : Hid (Sep w0 (By v3 (sealL l) :: L) w3) := Lib.hid h3
  clear h1 h2 h3 hr

  (try dsimp only); repeat' (first | (at_builtin; refine wpList_append_run rfl _ _ _ _ rfl rfl rfl HRR.out ?_) | go_values | go_skip | go_guarded | go_step | go_upon | go_back)
  exact bodyPost_ret (results_tmp2 rfl _ _ _) rfl ⟨_, rfl, H3.out⟩
end Go.Proofs.YtafkbodmiblbnaaGreatDoor
/- The document's put, Top, Seal of what is too long. -/
namespace Go.Proofs.YtafkbodmiblbnaaGreatDoor
open Go Go.RowKit
set_option linter.unusedVariables false
set_option linter.unusedSimpArgs false
def putL (l : List UInt8) (t : Bool) (n : Nat) : List UInt8 := l ++ (if t then vint n else [])
set_option maxRecDepth 100000 in
set_option maxHeartbeats 4000000 in
theorem rput05_any {w0 w : World} {L : List Thing} {v : Value} {l : List UInt8} (t : Bool) (n : Nat) (h : Sep w0 (By v l :: L) w) (hn : n < 9223372036854775808) (hl : l.length ≤ 1099511627776) :
    Calls Tryz.prog 35 #[v, .bool t, .int .i64 n] w fun e w' => ∃ v', e = .returned v' ∧ Sep w0 (By v' (putL l t n) :: L) w' := by
  have n0 : (0 : Int) ≤ (n : Int) := by omega
  have n1 : (n : Int) < 9223372036854775808 := by omega
  have n2 : (n : Int) < 18446744073709551616 := by omega
  have H := Lib.hid h
  have HV := Lib.hid (rvarint_sepn v l n w h h.sl (by first | exact ⟨by omega, by omega⟩ | (show n < _; omega) | (unfold U64; omega)) hl)
  clear h
  cases t with
  | false =>
    go_enter Tryz.func35, Tryz.ntmps35
    (try dsimp only); repeat' (first | go_values | go_skip | go_guarded | go_step | go_upon | go_back)
    go_ret
    exact ⟨v, rfl, by unfold putL; rw [if_neg (by simp), List.append_nil]; exact H.out⟩
  | true =>
    go_enter Tryz.func35, Tryz.ntmps35
    (try dsimp only); repeat' (first | go_values | go_skip | go_guarded | go_step | go_upon | go_back)
    refine HV.out.mono ?_
    rintro r0 w1 ⟨v', rfl, h1⟩
    have H1 : Hid (Sep w0 (By v' (putL l true n) :: L) w1) := Lib.hid (by unfold putL; rw [if_pos rfl]; exact h1.sw2.drop)
    clear h1
    (try dsimp only); repeat' (first | go_values | go_skip | go_guarded | go_step | go_upon | go_back)
    go_ret
    exact ⟨v', rfl, H1.out⟩
end Go.Proofs.YtafkbodmiblbnaaGreatDoor
/- The document's Bytes. -/
namespace Go.Proofs.YtafkbodmiblbnaaGreatDoor
open Go Go.RowKit
set_option linter.unusedVariables false
set_option linter.unusedSimpArgs false
theorem nums_put (hd : List UInt8) (has : Int) (x : MgX) (a b c d : Nat) (h0 : x.v = a) (h1 : x.o = b) (h2 : x.cm = c) (h3 : x.la = d) :
    putL (putL (putL (putL hd (bit has 1) a) (bit has 2) b) (bit has 4) c) (bit has 8) d = hd ++ numsB has x 4 := by
  have e0 : (numAt x 0).toNat = a := by show x.v.toNat = a; rw [h0]; rfl
  have e1 : (numAt x 1).toNat = b := by show x.o.toNat = b; rw [h1]; rfl
  have e2 : (numAt x 2).toNat = c := by show x.cm.toNat = c; rw [h2]; rfl
  have e3 : (numAt x 3).toNat = d := by show x.la.toNat = d; rw [h3]; rfl
  have e : numsB has x 4 = ((([] ++ if bit has 1 = true then vint (numAt x 0).toNat else []) ++ if bit has 2 = true then vint (numAt x 1).toNat else []) ++ if bit has 4 = true then vint (numAt x 2).toNat else []) ++ if bit has 8 = true then vint (numAt x 3).toNat else [] := rfl
  rw [e, e0, e1, e2, e3]
  unfold putL
  simp only [List.append_assoc, List.nil_append]
set_option maxRecDepth 100000 in
set_option maxHeartbeats 16000000 in
theorem rbytes05_bad {w0 w : World} {L : List Thing} (g : MgM) (h : Sep w0 L w) (hg : ∀ wx, Sep w0 L wx → GmS wx g) (hl : g.ck.length ≤ 1000000000) (hx : g.ps.length ≤ 1000000) (hic : g.ic ≤ 9223372036854775807) (hc : chkB g = false) :
    Calls Tryz.prog 7 #[.agg (mgC g)] w fun e w' => e = .returned (.tuple #[.slice none 0 0, .int .i64 2]) ∧ Sep w0 L w' := by
  have h1 := h.alloc (.cells (mgC g) 34)
  obtain ⟨b1, hb1⟩ : ∃ z, z = w.heap.size := ⟨_, rfl⟩
  obtain ⟨w1, hw1⟩ : ∃ z, z = w.alloc (.cells (mgC g) 34) := ⟨_, rfl⟩
  rw [← hw1, ← hb1] at h1
  have HL := Lib.hid (h1.loadW 34 Tryz.underlying34 rfl (by kernel_rfl))
  have hck := rcheck_w (w := w1) g (hg w1 h1.drop) hl hx hic
  rw [hc] at hck
  have HC := Lib.hid hck
  have H1 := Lib.hid h1.drop
  obtain ⟨mc, hmc⟩ : ∃ z, z = mgC g := ⟨_, rfl⟩
  rw [← hmc] at HL HC hw1 ⊢
  clear h h1 hg hl hx hic hc hck hmc
  go_enter Tryz.func7, Tryz.ntmps7
  (try dsimp only); repeat' (first | (with_reducible show wpList _ _ _ (Oper.mk _ (Op.load 34 _) _ _ _ _ :: _) _ _; refine stopP ?_) | go_values | go_skip | go_guarded | go_step | go_upon | go_back)
  unfold StopP
  rw [← hw1, ← hb1]
  have hq_ := HL.out
  refine wpList_load_run rfl 34 _ rfl _ _ rfl hq_ ?_
  clear hq_ hw1 hb1 HL
  (try dsimp only); repeat' (first | go_values | go_skip | go_guarded | go_step | go_upon | go_back)
  refine HC.out.mono ?_
  rintro r0 w2 ⟨rfl, h2⟩
  have H2 := Lib.hid (H1.out.below h2.low)
  clear HC h2
  try rw [if_neg (by simp)]
  (try dsimp only); repeat' (first | go_values | go_skip | go_guarded | go_step | go_upon | go_back)
  exact bodyPost_ret (results_tmp2 rfl _ _ _) rfl ⟨rfl, H2.out⟩
end Go.Proofs.YtafkbodmiblbnaaGreatDoor
