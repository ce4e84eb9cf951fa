/- Package msg: readHead, readNumbers. -/
import Derived.Test.YtafkbodmiblbnaaDoorMMb2
import Derived.Test.YtafkbodmiblbnaaDoorMZ37
namespace Go.Proofs.YtafkbodmiblbnaaDoor
open Go Go.RowKit
set_option linter.unusedVariables false
set_option linter.unusedSimpArgs false
/-- What is read so far: a reader, a message of one's own, its lists. -/
def RdS (w0 : World) (L : List Thing) (gr bm : Nat) (s : RS) (w : World) : Prop := ∃ g : MgM, g.x = s.x ∧ Sep w0 (RdrT gr s.r s.e :: Cl bm (mgC g) 39 :: LnR g.lv g.en.p.ls :: By g.cv g.ck :: EnT g.ev g.ps :: L) w
theorem RdS.drewN {w0 w : World} {L : List Thing} {gr bm : Nat} {s : RS} (h : RdS w0 L gr bm s w) (n : Nat) : RdS w0 L gr bm s (w.drewN n) := by
  obtain ⟨g, hx, h⟩ := h
  exact ⟨g, hx, h.drewN n⟩
theorem rnum_of {w0 w : World} {L : List Thing} {g n : Nat} {rest r' : List UInt8} {e e' : Int} (hA : rdNe rest e = (n, r', e')) (h : Sep w0 (RdrT g rest e :: L) w) :
    Calls Tryd.prog 55 #[.pointer (some ⟨g, 0, none⟩), .int .i64 8] w fun r w' => r = .returned (.int .u64 n) ∧ Sep w0 (RdrT g r' e' :: L) w' := by
  have := rnum_sep h
  rwa [hA] at this
theorem rvar_of {w0 w : World} {L : List Thing} {g n : Nat} {rest r' : List UInt8} {e e' : Int} (hA : rdVe rest e = (n, r', e')) (h : Sep w0 (RdrT g rest e :: L) w) :
    Calls Tryd.prog 57 #[.pointer (some ⟨g, 0, none⟩)] w fun r w' => r = .returned (.int .u64 n) ∧ Sep w0 (RdrT g r' e' :: L) w' := by
  have := rvarint_sep h
  rwa [hA] at this
theorem rtxt_of {w0 w : World} {L : List Thing} {g : Nat} {t rest r' : List UInt8} {e e' : Int} (hA : rdTe rest e = (t, r', e')) (h : Sep w0 (RdrT g rest e :: L) w) (hl : rest.length ≤ 1099511627776) :
    Calls Tryd.prog 58 #[.pointer (some ⟨g, 0, none⟩)] w fun r w' => ∃ v', r = .returned v' ∧ Sep w0 (By v' t :: RdrT g r' e' :: L) w' := by
  have := rtext_sep h hl
  rwa [hA] at this
theorem lt_of {n : Nat} {rest r' : List UInt8} {e e' : Int} (hA : rdNe rest e = (n, r', e')) : n < 256 ∧ r'.length ≤ rest.length := by
  have h1 := rdNe_lt rest e
  have h2 := rdNe_len rest e
  rw [hA] at h1 h2
  exact ⟨h1, h2⟩
theorem vt_of {n : Nat} {rest r' : List UInt8} {e e' : Int} (hA : rdVe rest e = (n, r', e')) : n < 18446744073709551616 ∧ r'.length ≤ rest.length := by
  have h1 := rdVe_u64 rest e
  have h2 := rdVe_len rest e
  rw [hA] at h1 h2
  exact ⟨h1, h2⟩
theorem tt_of {t rest r' : List UInt8} {e e' : Int} (hA : rdTe rest e = (t, r', e')) : t.length ≤ rest.length ∧ r'.length ≤ rest.length := by
  have h1 := rdTe_len rest e
  rw [hA] at h1
  exact h1
set_option maxRecDepth 100000 in
set_option maxHeartbeats 16000000 in
theorem rdhead_any {w0 w : World} {L : List Thing} {gr bm : Nat} (s : RS) (h : RdS w0 L gr bm s w) :
    Calls Tryd.prog 30 #[.pointer (some ⟨gr, 0, none⟩), .pointer (some ⟨bm, 0, none⟩)] w fun e w' => e = .returned (.int .i64 (stHead s).2) ∧ RdS w0 L gr bm (stHead s).1 w' := by
  obtain ⟨g, hx, h⟩ := h
  obtain ⟨r, e, x⟩ := s
  dsimp only at hx h
  subst hx
  obtain ⟨n1, r1, e1, hA⟩ : ∃ n1 r1 e1, rdNe r e = (n1, r1, e1) := ⟨_, _, _, rfl⟩
  obtain ⟨n2, r2, e2, hB⟩ : ∃ n' r' e', rdNe r1 e1 = (n', r', e') := ⟨_, _, _, rfl⟩
  obtain ⟨n3, r3, e3, hC⟩ : ∃ n' r' e', rdNe r2 e2 = (n', r', e') := ⟨_, _, _, rfl⟩
  have hq : stHead ⟨r, e, g.x⟩ = (⟨r3, e3, { g.x with k := n1, f := n2, t := n3 }⟩, e3) := by
    unfold stHead
    simp only [hA, hB, hC]
  rw [hq]
  dsimp only
  have a1 := (lt_of hA).1
  have a2 := (lt_of hB).1
  have a3 := (lt_of hC).1
  have HN1 := Lib.hid (rnum_of hA h)
  have HN2 : Hid (∀ M wx, Sep w0 (RdrT gr r1 e1 :: M) wx → Calls Tryd.prog 55 #[.pointer (some ⟨gr, 0, none⟩), .int .i64 8] wx fun r w' => r = .returned (.int .u64 n2) ∧ Sep w0 (RdrT gr r2 e2 :: M) w') := Lib.hid fun M wx hx => rnum_of hB hx
  have HN3 : Hid (∀ M wx, Sep w0 (RdrT gr r2 e2 :: M) wx → Calls Tryd.prog 55 #[.pointer (some ⟨gr, 0, none⟩), .int .i64 8] wx fun r w' => r = .returned (.int .u64 n3) ∧ Sep w0 (RdrT gr r3 e3 :: M) w') := Lib.hid fun M wx hx => rnum_of hC hx
  have b1 : (0 : Int) ≤ (n1 : Int) := by omega
  have b2 : (0 : Int) ≤ (n2 : Int) := by omega
  have b3 : (0 : Int) ≤ (n3 : Int) := by omega
  have b4 : (n1 : Int) ≤ 255 := by omega
  have b5 : (n2 : Int) ≤ 255 := by omega
  have b6 : (n3 : Int) ≤ 255 := by omega
  clear h hA hB hC hq a1 a2 a3
  go_enter Tryd.func30, Tryd.ntmps30
  (try dsimp only); repeat' (first | go_values | go_skip | go_guarded | go_step | go_upon | go_back)
  refine HN1.out.mono ?_
  rintro q0 w1 ⟨rfl, h1⟩
  have H1 := Lib.hid h1
  clear HN1 h1
  (try dsimp only); repeat' (first | go_values | go_skip | go_guarded | go_step | go_upon | go_back)
  refine (HN2.out _ _ H1.out).mono ?_
  rintro q0 w2 ⟨rfl, h2⟩
  have H2 := Lib.hid h2
  clear HN2 H1 h2
  (try dsimp only); repeat' (first | go_values | go_skip | go_guarded | go_step | go_upon | go_back)
  refine (HN3.out _ _ H2.out).mono ?_
  rintro q0 w3 ⟨rfl, h3⟩
  have x0 : w3.cell? ⟨bm, 0, none⟩ = some (.int .i64 g.k) := h3.sw2.cell rfl
  have x1 : w3.cell? ⟨bm, 1, none⟩ = some (.int .i64 g.f) := h3.sw2.cell rfl
  have x2 : w3.cell? ⟨bm, 2, none⟩ = some (.int .i64 g.t) := h3.sw2.cell rfl
  have f0 := h3.sw2.frozen 0
  have f1 := h3.sw2.frozen 1
  have f2 := h3.sw2.frozen 2
  have h4 := ((h3.sw2.setCell 0 (.int .i64 n1)).setCell 1 (.int .i64 n2)).setCell 2 (.int .i64 n3)
  rw [show (((mgC g).setIfInBounds 0 (.int .i64 n1)).setIfInBounds 1 (.int .i64 n2)).setIfInBounds 2 (.int .i64 n3) = mgC { g with k := n1, f := n2, t := n3 } from rfl] at h4
  have HS : Hid (RdS w0 L gr bm ⟨r3, e3, { g.x with k := n1, f := n2, t := n3 }⟩ _) := Lib.hid ⟨{ g with k := n1, f := n2, t := n3 }, rfl, h4.sw2⟩
  have HE : Hid (∀ wx M, Sep w0 (RdrT gr r3 e3 :: M) wx → Calls Tryd.prog 56 #[.pointer (some ⟨gr, 0, none⟩)] wx fun r w' => r = .returned (.int .i64 e3) ∧ wx = w') := Lib.hid fun wx M hx => rerr_sep hx
  have H4 := Lib.hid h4.sw2
  clear HN3 H2 h3 h4
  (try dsimp only); repeat' (first | go_values | go_skip | go_guarded | go_step | go_upon | go_back)
  refine (HE.out _ _ H4.out).mono ?_
  rintro q0 w4 ⟨rfl, rfl⟩
  clear HE H4 x0 x1 x2 f0 f1 f2
  (try dsimp only); repeat' (first | go_values | go_skip | go_guarded | go_step | go_upon | go_back)
  go_ret
  exact ⟨rfl, HS.out⟩
theorem idx4p_0 (bm : Nat) (w : World) : (Instr.index 97 (.agg #[.pointer (some ⟨bm, 3, none⟩), .pointer (some ⟨bm, 4, none⟩), .pointer (some ⟨bm, 5, none⟩), .pointer (some ⟨bm, 6, none⟩)]) (.int .i64 0)).run Tryd.prog w = .ok (.pointer (some ⟨bm, 3, none⟩)) w := by
  kernel_rfl
theorem idx4p_1 (bm : Nat) (w : World) : (Instr.index 97 (.agg #[.pointer (some ⟨bm, 3, none⟩), .pointer (some ⟨bm, 4, none⟩), .pointer (some ⟨bm, 5, none⟩), .pointer (some ⟨bm, 6, none⟩)]) (.int .i64 1)).run Tryd.prog w = .ok (.pointer (some ⟨bm, 4, none⟩)) w := by
  kernel_rfl
theorem idx4p_2 (bm : Nat) (w : World) : (Instr.index 97 (.agg #[.pointer (some ⟨bm, 3, none⟩), .pointer (some ⟨bm, 4, none⟩), .pointer (some ⟨bm, 5, none⟩), .pointer (some ⟨bm, 6, none⟩)]) (.int .i64 2)).run Tryd.prog w = .ok (.pointer (some ⟨bm, 5, none⟩)) w := by
  kernel_rfl
theorem idx4p_3 (bm : Nat) (w : World) : (Instr.index 97 (.agg #[.pointer (some ⟨bm, 3, none⟩), .pointer (some ⟨bm, 4, none⟩), .pointer (some ⟨bm, 5, none⟩), .pointer (some ⟨bm, 6, none⟩)]) (.int .i64 3)).run Tryd.prog w = .ok (.pointer (some ⟨bm, 6, none⟩)) w := by
  kernel_rfl
set_option maxRecDepth 100000 in
set_option maxHeartbeats 16000000 in
theorem rdnums_any {w0 w : World} {L : List Thing} {gr bm : Nat} (s : RS) (h : RdS w0 L gr bm s w) (hk : ∀ wx, Sep w0 L wx → KindsAt wx ∧ MKindsAt wx) :
    Calls Tryd.prog 31 #[.pointer (some ⟨gr, 0, none⟩), .pointer (some ⟨bm, 0, none⟩)] w fun e w' => e = .returned (.int .i64 (stNums s).2) ∧ RdS w0 L gr bm (stNums s).1 w' := by
  obtain ⟨g, hx, h⟩ := h
  obtain ⟨r, e, x⟩ := s
  dsimp only at hx h
  subst hx
  obtain ⟨has, hhas⟩ : ∃ z, z = mfieldsOf g.k := ⟨_, rfl⟩
  have hF := mfields_any g.k w (hk w h.drop.drop.drop.drop.drop).2
  rw [← hhas] at hF
  have HF := Lib.hid hF
  have c0 : w.cell? ⟨bm, 0, none⟩ = some (.int .i64 g.k) := h.sw2.cell rfl
  obtain ⟨S, hS⟩ : ∃ S : RS, S = ⟨r, e, g.x⟩ := ⟨_, rfl⟩
  have hq : stNums S = (stNumsA has 4 S, (stNumsA has 4 S).e) := by rw [hhas, hS]; rfl
  have HS0 : Hid (RdS w0 L gr bm (stNumsA has 0 S) w) := Lib.hid ⟨g, by rw [hS]; rfl, by rw [hS]; exact h⟩
  rw [← hS, hq]
  dsimp only
  clear hF h hk hhas hq hS
  go_enter Tryd.func31, Tryd.ntmps31
  (try dsimp only); repeat' (first | go_values | go_skip | go_guarded | go_step | go_upon | go_back)
  refine HF.out.mono ?_
  rintro r0 w1 ⟨rfl, rfl⟩
  clear HF c0
  (try dsimp only); repeat' (first | go_values | go_skip | go_guarded | go_step | go_upon | go_back)
  go_quiet (clear HS0)
  (try dsimp only); repeat' (first | go_values | go_skip | go_guarded | go_step | go_upon | go_back)
  go_loopw [26] (fun i wr => ∃ j : Nat, j ≤ 4 ∧ i = .int .i64 j ∧ RdS w0 L gr bm (stNumsA has j S) wr) (fun i _ => 4 - (intOf i).toNat)
  case atStart => exact ⟨0, by decide, rfl, HS0.out.drewN _⟩
  case round =>
    obtain ⟨j, hj, rfl, hs⟩ := hrel
    clear HS0
    have hj5 : j = 0 ∨ j = 1 ∨ j = 2 ∨ j = 3 ∨ j = 4 := by omega
    rcases hj5 with rfl | rfl | rfl | rfl | rfl
    · rw [show ((0 : Nat) : Int) = 0 from rfl]
      obtain ⟨q, hq⟩ : ∃ q, q = stNumsA has 0 S := ⟨_, rfl⟩
      have hq1 : stNumsA has 1 S = stN has 0 q := by rw [hq]; rfl
      rw [← hq] at hs
      obtain ⟨g', hgx, hs⟩ := hs
      rcases bit_cases has 1 with ⟨k1, k2⟩ | ⟨k1, k2⟩
      · obtain ⟨n1, r1, e1, hA⟩ : ∃ n1 r1 e1, rdVe q.r q.e = (n1, r1, e1) := ⟨_, _, _, rfl⟩
        have hq2 : stNumsA has 1 S = ⟨r1, e1, setNum q.x 0 (wrap64 n1)⟩ := by
          rw [hq1]
          unfold stN
          rw [show ((2 : Int) ^ 0) = 1 from rfl, if_pos k1, hA, ← i64w_eq]
        have hn1 := (vt_of hA).1
        have a0 : (0 : Int) ≤ (n1 : Int) := by omega
        have a1 : (n1 : Int) ≤ 18446744073709551615 := by omega
        have HV := Lib.hid (rvar_of hA hs)
        have HQ := Lib.hid hq2
        have HGX := Lib.hid hgx
        clear hs hgx hq hq1 hq2 hA hn1 k1
        (try dsimp only); repeat' (first | go_values | go_skip | go_guarded | go_step | go_upon | go_back)
        rw [idx4p_0]
        (try dsimp only); repeat' (first | go_values | go_skip | go_guarded | go_step | go_upon | go_back)
        refine HV.out.mono ?_
        rintro r0 w4 ⟨rfl, h4⟩
        have x0 : w4.cell? ⟨bm, 3, none⟩ = some (.int .i64 g'.v) := h4.sw2.cell rfl
        have f0 := h4.sw2.frozen 3
        have h5 := h4.sw2.setCell 3 (.int .i64 (wrap64 n1))
        rw [show (mgC g').setIfInBounds 3 (.int .i64 (wrap64 n1)) = mgC { g' with v := wrap64 n1 } from rfl] at h5
        have HS : Hid (RdS w0 L gr bm (stNumsA has 1 S) _) := Lib.hid (by rw [HQ.out]; exact ⟨{ g' with v := wrap64 n1 }, by rw [← HGX.out]; rfl, h5.sw2⟩)
        clear h4 h5 HV HQ HGX
        (try dsimp only); repeat' (first | go_values | go_skip | go_guarded | go_step | go_upon | go_back)
        go_roundw
        case rel => exact ⟨1, by decide, rfl, HS.out⟩
        case measure => simp [intOf]
      · have hq2 : stNumsA has 1 S = q := by
          rw [hq1]
          unfold stN
          rw [show ((2 : Int) ^ 0) = 1 from rfl, if_neg (by rw [k1]; simp)]
        have HS : Hid (RdS w0 L gr bm (stNumsA has 1 S) wr) := Lib.hid (by rw [hq2]; exact ⟨g', hgx, hs⟩)
        clear hs hgx hq hq1 hq2 k1
        (try dsimp only); repeat' (first | go_values | go_skip | go_guarded | go_step | go_upon | go_back)
        rw [idx4p_0]
        (try dsimp only); repeat' (first | go_values | go_skip | go_guarded | go_step | go_upon | go_back)
        go_roundw
        case rel => exact ⟨1, by decide, rfl, HS.out⟩
        case measure => simp [intOf]
    · rw [show ((1 : Nat) : Int) = 1 from rfl]
      obtain ⟨q, hq⟩ : ∃ q, q = stNumsA has 1 S := ⟨_, rfl⟩
      have hq1 : stNumsA has 2 S = stN has 1 q := by rw [hq]; rfl
      rw [← hq] at hs
      obtain ⟨g', hgx, hs⟩ := hs
      rcases bit_cases has 2 with ⟨k1, k2⟩ | ⟨k1, k2⟩
      · obtain ⟨n1, r1, e1, hA⟩ : ∃ n1 r1 e1, rdVe q.r q.e = (n1, r1, e1) := ⟨_, _, _, rfl⟩
        have hq2 : stNumsA has 2 S = ⟨r1, e1, setNum q.x 1 (wrap64 n1)⟩ := by
          rw [hq1]
          unfold stN
          rw [show ((2 : Int) ^ 1) = 2 from rfl, if_pos k1, hA, ← i64w_eq]
        have hn1 := (vt_of hA).1
        have a0 : (0 : Int) ≤ (n1 : Int) := by omega
        have a1 : (n1 : Int) ≤ 18446744073709551615 := by omega
        have HV := Lib.hid (rvar_of hA hs)
        have HQ := Lib.hid hq2
        have HGX := Lib.hid hgx
        clear hs hgx hq hq1 hq2 hA hn1 k1
        (try dsimp only); repeat' (first | go_values | go_skip | go_guarded | go_step | go_upon | go_back)
        rw [idx4p_1]
        (try dsimp only); repeat' (first | go_values | go_skip | go_guarded | go_step | go_upon | go_back)
        refine HV.out.mono ?_
        rintro r0 w4 ⟨rfl, h4⟩
        have x0 : w4.cell? ⟨bm, 4, none⟩ = some (.int .i64 g'.o) := h4.sw2.cell rfl
        have f0 := h4.sw2.frozen 4
        have h5 := h4.sw2.setCell 4 (.int .i64 (wrap64 n1))
        rw [show (mgC g').setIfInBounds 4 (.int .i64 (wrap64 n1)) = mgC { g' with o := wrap64 n1 } from rfl] at h5
        have HS : Hid (RdS w0 L gr bm (stNumsA has 2 S) _) := Lib.hid (by rw [HQ.out]; exact ⟨{ g' with o := wrap64 n1 }, by rw [← HGX.out]; rfl, h5.sw2⟩)
        clear h4 h5 HV HQ HGX
        (try dsimp only); repeat' (first | go_values | go_skip | go_guarded | go_step | go_upon | go_back)
        go_roundw
        case rel => exact ⟨2, by decide, rfl, HS.out⟩
        case measure => simp [intOf]
      · have hq2 : stNumsA has 2 S = q := by
          rw [hq1]
          unfold stN
          rw [show ((2 : Int) ^ 1) = 2 from rfl, if_neg (by rw [k1]; simp)]
        have HS : Hid (RdS w0 L gr bm (stNumsA has 2 S) wr) := Lib.hid (by rw [hq2]; exact ⟨g', hgx, hs⟩)
        clear hs hgx hq hq1 hq2 k1
        (try dsimp only); repeat' (first | go_values | go_skip | go_guarded | go_step | go_upon | go_back)
        rw [idx4p_1]
        (try dsimp only); repeat' (first | go_values | go_skip | go_guarded | go_step | go_upon | go_back)
        go_roundw
        case rel => exact ⟨2, by decide, rfl, HS.out⟩
        case measure => simp [intOf]
    · rw [show ((2 : Nat) : Int) = 2 from rfl]
      obtain ⟨q, hq⟩ : ∃ q, q = stNumsA has 2 S := ⟨_, rfl⟩
      have hq1 : stNumsA has 3 S = stN has 2 q := by rw [hq]; rfl
      rw [← hq] at hs
      obtain ⟨g', hgx, hs⟩ := hs
      rcases bit_cases has 4 with ⟨k1, k2⟩ | ⟨k1, k2⟩
      · obtain ⟨n1, r1, e1, hA⟩ : ∃ n1 r1 e1, rdVe q.r q.e = (n1, r1, e1) := ⟨_, _, _, rfl⟩
        have hq2 : stNumsA has 3 S = ⟨r1, e1, setNum q.x 2 (wrap64 n1)⟩ := by
          rw [hq1]
          unfold stN
          rw [show ((2 : Int) ^ 2) = 4 from rfl, if_pos k1, hA, ← i64w_eq]
        have hn1 := (vt_of hA).1
        have a0 : (0 : Int) ≤ (n1 : Int) := by omega
        have a1 : (n1 : Int) ≤ 18446744073709551615 := by omega
        have HV := Lib.hid (rvar_of hA hs)
        have HQ := Lib.hid hq2
        have HGX := Lib.hid hgx
        clear hs hgx hq hq1 hq2 hA hn1 k1
        (try dsimp only); repeat' (first | go_values | go_skip | go_guarded | go_step | go_upon | go_back)
        rw [idx4p_2]
        (try dsimp only); repeat' (first | go_values | go_skip | go_guarded | go_step | go_upon | go_back)
        refine HV.out.mono ?_
        rintro r0 w4 ⟨rfl, h4⟩
        have x0 : w4.cell? ⟨bm, 5, none⟩ = some (.int .i64 g'.cm) := h4.sw2.cell rfl
        have f0 := h4.sw2.frozen 5
        have h5 := h4.sw2.setCell 5 (.int .i64 (wrap64 n1))
        rw [show (mgC g').setIfInBounds 5 (.int .i64 (wrap64 n1)) = mgC { g' with cm := wrap64 n1 } from rfl] at h5
        have HS : Hid (RdS w0 L gr bm (stNumsA has 3 S) _) := Lib.hid (by rw [HQ.out]; exact ⟨{ g' with cm := wrap64 n1 }, by rw [← HGX.out]; rfl, h5.sw2⟩)
        clear h4 h5 HV HQ HGX
        (try dsimp only); repeat' (first | go_values | go_skip | go_guarded | go_step | go_upon | go_back)
        go_roundw
        case rel => exact ⟨3, by decide, rfl, HS.out⟩
        case measure => simp [intOf]
      · have hq2 : stNumsA has 3 S = q := by
          rw [hq1]
          unfold stN
          rw [show ((2 : Int) ^ 2) = 4 from rfl, if_neg (by rw [k1]; simp)]
        have HS : Hid (RdS w0 L gr bm (stNumsA has 3 S) wr) := Lib.hid (by rw [hq2]; exact ⟨g', hgx, hs⟩)
        clear hs hgx hq hq1 hq2 k1
        (try dsimp only); repeat' (first | go_values | go_skip | go_guarded | go_step | go_upon | go_back)
        rw [idx4p_2]
        (try dsimp only); repeat' (first | go_values | go_skip | go_guarded | go_step | go_upon | go_back)
        go_roundw
        case rel => exact ⟨3, by decide, rfl, HS.out⟩
        case measure => simp [intOf]
    · rw [show ((3 : Nat) : Int) = 3 from rfl]
      obtain ⟨q, hq⟩ : ∃ q, q = stNumsA has 3 S := ⟨_, rfl⟩
      have hq1 : stNumsA has 4 S = stN has 3 q := by rw [hq]; rfl
      rw [← hq] at hs
      obtain ⟨g', hgx, hs⟩ := hs
      rcases bit_cases has 8 with ⟨k1, k2⟩ | ⟨k1, k2⟩
      · obtain ⟨n1, r1, e1, hA⟩ : ∃ n1 r1 e1, rdVe q.r q.e = (n1, r1, e1) := ⟨_, _, _, rfl⟩
        have hq2 : stNumsA has 4 S = ⟨r1, e1, setNum q.x 3 (wrap64 n1)⟩ := by
          rw [hq1]
          unfold stN
          rw [show ((2 : Int) ^ 3) = 8 from rfl, if_pos k1, hA, ← i64w_eq]
        have hn1 := (vt_of hA).1
        have a0 : (0 : Int) ≤ (n1 : Int) := by omega
        have a1 : (n1 : Int) ≤ 18446744073709551615 := by omega
        have HV := Lib.hid (rvar_of hA hs)
        have HQ := Lib.hid hq2
        have HGX := Lib.hid hgx
        clear hs hgx hq hq1 hq2 hA hn1 k1
        (try dsimp only); repeat' (first | go_values | go_skip | go_guarded | go_step | go_upon | go_back)
        rw [idx4p_3]
        (try dsimp only); repeat' (first | go_values | go_skip | go_guarded | go_step | go_upon | go_back)
        refine HV.out.mono ?_
        rintro r0 w4 ⟨rfl, h4⟩
        have x0 : w4.cell? ⟨bm, 6, none⟩ = some (.int .i64 g'.la) := h4.sw2.cell rfl
        have f0 := h4.sw2.frozen 6
        have h5 := h4.sw2.setCell 6 (.int .i64 (wrap64 n1))
        rw [show (mgC g').setIfInBounds 6 (.int .i64 (wrap64 n1)) = mgC { g' with la := wrap64 n1 } from rfl] at h5
        have HS : Hid (RdS w0 L gr bm (stNumsA has 4 S) _) := Lib.hid (by rw [HQ.out]; exact ⟨{ g' with la := wrap64 n1 }, by rw [← HGX.out]; rfl, h5.sw2⟩)
        clear h4 h5 HV HQ HGX
        (try dsimp only); repeat' (first | go_values | go_skip | go_guarded | go_step | go_upon | go_back)
        go_roundw
        case rel => exact ⟨4, by decide, rfl, HS.out⟩
        case measure => simp [intOf]
      · have hq2 : stNumsA has 4 S = q := by
          rw [hq1]
          unfold stN
          rw [show ((2 : Int) ^ 3) = 8 from rfl, if_neg (by rw [k1]; simp)]
        have HS : Hid (RdS w0 L gr bm (stNumsA has 4 S) wr) := Lib.hid (by rw [hq2]; exact ⟨g', hgx, hs⟩)
        clear hs hgx hq hq1 hq2 k1
        (try dsimp only); repeat' (first | go_values | go_skip | go_guarded | go_step | go_upon | go_back)
        rw [idx4p_3]
        (try dsimp only); repeat' (first | go_values | go_skip | go_guarded | go_step | go_upon | go_back)
        go_roundw
        case rel => exact ⟨4, by decide, rfl, HS.out⟩
        case measure => simp [intOf]
    · rw [show ((4 : Nat) : Int) = 4 from rfl]
      obtain ⟨q, hq⟩ : ∃ q, q = stNumsA has 4 S := ⟨_, rfl⟩
      have hs2 := hs
      rw [← hq] at hs2
      obtain ⟨g', hgx, hs2⟩ := hs2
      have HE := Lib.hid (rerr_sep hs2)
      rw [hq] at HE
      have HS := Lib.hid hs
      clear hs hs2 hgx hq
      (try dsimp only); repeat' (first | go_values | go_skip | go_guarded | go_step | go_upon | go_back)
      refine HE.out.mono ?_
      rintro q0 w4 ⟨rfl, rfl⟩
      clear HE
      (try dsimp only); repeat' (first | go_values | go_skip | go_guarded | go_step | go_upon | go_back)
      go_ret
      exact ⟨rfl, HS.out⟩
end Go.Proofs.YtafkbodmiblbnaaDoor
/- Package msg: readEntry. -/
namespace Go.Proofs.YtafkbodmiblbnaaDoor
open Go Go.RowKit
set_option linter.unusedVariables false
set_option linter.unusedSimpArgs false
theorem wr_en' (g : MgM) (x : EnM) (u : Value) : writeAt (mgC g) 7 [.int .i64 x.c, .int .i64 x.m, .int .i64 x.p.k, .string x.p.s.1, .int .i64 x.p.o, .int .i64 x.p.n, u] = mgC { g with en := x, lv := u } := by
  simp [writeAt, mgC]
theorem Sep.lnForm0 {w0 w : World} {v : Value} {ls : List Ln} {L : List Thing} (h : Sep w0 (LnR v ls :: L) w) : ∃ a c, v = .slice a ls.length c := by
  obtain ⟨a, c, rfl, -⟩ := h.rnForm
  exact ⟨a, c, rfl⟩
set_option maxRecDepth 100000 in
set_option maxHeartbeats 16000000 in
theorem rdentry_any {w0 w : World} {L : List Thing} {gr bm : Nat} (s : RS) (h : RdS w0 L gr bm s w) (hk : ∀ wx, Sep w0 L wx → KindsAt wx ∧ MKindsAt wx) (hl : s.r.length ≤ 1000000) :
    Calls Tryd.prog 32 #[.pointer (some ⟨gr, 0, none⟩), .pointer (some ⟨bm, 0, none⟩)] w fun e w' => e = .returned (.int .i64 (stEntry s).2) ∧ RdS w0 L gr bm (stEntry s).1 w' := by
  obtain ⟨g, hx, h⟩ := h
  obtain ⟨r, e, x⟩ := s
  dsimp only at hx h
  subst hx
  obtain ⟨has, hhas⟩ : ∃ z, z = mfieldsOf g.k := ⟨_, rfl⟩
  have hF := mfields_any g.k w (hk w h.drop.drop.drop.drop.drop).2
  rw [← hhas] at hF
  have HF := Lib.hid hF
  have c0 : w.cell? ⟨bm, 0, none⟩ = some (.int .i64 g.k) := h.sw2.cell rfl
  have HK := Lib.hid hk
  have hl : r.length ≤ 1000000 := hl
  have HL := Lib.hid hl
  have HERR : Hid (∀ rx (ex : Int) wx M, Sep w0 (RdrT gr rx ex :: M) wx → Calls Tryd.prog 56 #[.pointer (some ⟨gr, 0, none⟩)] wx fun r w' => r = .returned (.int .i64 ex) ∧ wx = w') := Lib.hid fun rx ex wx M hx => rerr_sep hx
  by_cases k16 : bit has 16 = true
  · have b16 := bit_t k16
    obtain ⟨t, r1, e1, hA⟩ : ∃ t r1 e1, rdTe r e = (t, r1, e1) := ⟨_, _, _, rfl⟩
    have HT := Lib.hid (rtxt_of hA h (by omega))
    have htl := (tt_of hA).1
    by_cases he : e1 = 0
    · subst he
      obtain ⟨q, hq⟩ : ∃ q, q = stEntry ⟨r, e, g.x⟩ := ⟨_, rfl⟩
      have hq2 : q = (⟨r1, 0, { g.x with en := (prsEn t).1 }⟩, (prsEn t).2) := by
        rw [hq]
        unfold stEntry
        dsimp only
        rw [show mfieldsOf g.x.k = has from hhas.symm, if_pos k16, hA]
        dsimp only
        rw [if_neg (by simp)]
      have HQ := Lib.hid hq2
      have HTL := Lib.hid (show t.length ≤ 1000000 by omega)
      rw [← hq]
      clear h hk hF hq hq2 hA hhas k16 hl htl
      go_enter Tryd.func32, Tryd.ntmps32
      (try dsimp only); repeat' (first | go_values | go_skip | go_guarded | go_step | go_upon | go_back)
      refine HF.out.mono ?_
      rintro r0 w1 ⟨rfl, rfl⟩
      clear HF c0
      (try dsimp only); repeat' (first | go_values | go_skip | go_guarded | go_step | go_upon | go_back)
      refine HT.out.mono ?_
      rintro r0 w2 ⟨v, rfl, h2⟩
      obtain ⟨va, vc, rfl⟩ := h2.sl.len
      have HE1 := Lib.hid (HERR.out _ _ _ _ h2.sw2)
      have H2 := Lib.hid h2
      clear HT h2
      (try dsimp only); repeat' (first | go_values | go_skip | go_guarded | go_step | go_upon | go_back)
      refine HE1.out.mono ?_
      rintro r0 w3 ⟨rfl, rfl⟩
      have HP := Lib.hid (eparse_any _ t H2.out H2.out.sl (HK.out _ H2.out.drop.drop.drop.drop.drop.drop).1 HTL.out)
      clear HE1 H2
      (try dsimp only); repeat' (first | go_values | go_skip | go_guarded | go_step | go_upon | go_back)
      refine HP.out.mono ?_
      rintro r0 w4 ⟨x, er, u, rfl, hp, h4⟩
      have h5 : Sep w0 (Cl bm (mgC g) 39 :: RdrT gr r1 0 :: LnR u x.p.ls :: By g.cv g.ck :: EnT g.ev g.ps :: L) w4 := h4.pickL (M := [_, _, _, _, _, _, _]) [3, 2, 0, 5, 6] rfl
      obtain ⟨ua, uc, rfl⟩ := h5.sw3.lnForm0
      have HTH := Lib.hid (h5.thereAt 7 7 (by show 14 ≤ 22; omega))
      have h6 := Sep.setCells [.int .i64 x.c, .int .i64 x.m, .int .i64 x.p.k, .string x.p.s.1, .int .i64 x.p.o, .int .i64 x.p.n, .slice ua x.p.ls.length uc] _ 7 _ h5
      rw [wr_en' g x (.slice ua x.p.ls.length uc)] at h6
      have h7 : Sep w0 (RdrT gr r1 0 :: Cl bm (mgC { g with en := x, lv := .slice ua x.p.ls.length uc }) 39 :: LnR (.slice ua x.p.ls.length uc) x.p.ls :: By g.cv g.ck :: EnT g.ev g.ps :: L) _ := h6.sw2
      have HS : Hid (q.2 = er ∧ RdS w0 L gr bm q.1 (w4.setCells bm 7 [.int .i64 x.c, .int .i64 x.m, .int .i64 x.p.k, .string x.p.s.1, .int .i64 x.p.o, .int .i64 x.p.n, .slice ua x.p.ls.length uc])) := Lib.hid (by
        rw [HQ.out, ← hp]
        exact ⟨rfl, { g with en := x, lv := .slice ua x.p.ls.length uc }, rfl, h7⟩)
      clear HP h4 h5 h6 h7 hp
      unfold enV
      obtain ⟨w5, hw5⟩ : ∃ z, z = w4.setCells bm 7 [.int .i64 x.c, .int .i64 x.m, .int .i64 x.p.k, .string x.p.s.1, .int .i64 x.p.o, .int .i64 x.p.n, .slice ua x.p.ls.length uc] := ⟨_, rfl⟩
      rw [← hw5] at HS
      (try dsimp only); repeat' (first | (with_reducible show wpList _ _ _ (Oper.mk _ (Op.store 32 _ _) _ _ _ _ :: _) _ _; refine stopP ?_) | go_values | go_skip | go_guarded | go_step | go_upon | go_back)
      unfold StopP
      refine wpList_store_mid rfl 32 (.tmp 29) (.tmp 26) rfl bm 7 #[.int .i64 x.c, .int .i64 x.m, .int .i64 x.p.k, .string x.p.s.1, .int .i64 x.p.o, .int .i64 x.p.n, .slice ua x.p.ls.length uc] rfl rfl HTH.out (by kernel_rfl) (by first | kernel_rfl | assumption) ?_
      show wpList _ _ _ _ _ (w4.setCells bm 7 [.int .i64 x.c, .int .i64 x.m, .int .i64 x.p.k, .string x.p.s.1, .int .i64 x.p.o, .int .i64 x.p.n, .slice ua x.p.ls.length uc])
      rw [← hw5]
      clear hw5 HTH
      (try dsimp only); repeat' (first | go_values | go_skip | go_guarded | go_step | go_upon | go_back)
      go_ret
      exact ⟨congrArg (fun z => Ending.returned (.int .i64 z)) HS.out.1.symm, HS.out.2⟩
    · have hne : (e1 != 0) = true := by rw [bne_iff_ne]; exact he
      have hne2 : (e1 == 0) = false := beq_eq_false_iff_ne.2 he
      have hq : stEntry ⟨r, e, g.x⟩ = (⟨r1, e1, g.x⟩, e1) := by
        unfold stEntry
        dsimp only
        rw [show mfieldsOf g.x.k = has from hhas.symm, if_pos k16, hA]
        dsimp only
        rw [if_pos he]
      rw [hq]
      dsimp only
      clear h hk hF hq hA hhas k16 hl htl he
      go_enter Tryd.func32, Tryd.ntmps32
      (try dsimp only); repeat' (first | go_values | go_skip | go_guarded | go_step | go_upon | go_back)
      refine HF.out.mono ?_
      rintro r0 w1 ⟨rfl, rfl⟩
      clear HF c0
      (try dsimp only); repeat' (first | go_values | go_skip | go_guarded | go_step | go_upon | go_back)
      refine HT.out.mono ?_
      rintro r0 w2 ⟨v, rfl, h2⟩
      obtain ⟨va, vc, rfl⟩ := h2.sl.len
      have HE1 := Lib.hid (HERR.out _ _ _ _ h2.sw2)
      have HS : Hid (RdS w0 L gr bm ⟨r1, e1, g.x⟩ w2) := Lib.hid ⟨g, rfl, h2.drop⟩
      clear HT h2
      (try dsimp only); repeat' (first | go_values | go_skip | go_guarded | go_step | go_upon | go_back)
      refine HE1.out.mono ?_
      rintro r0 w3 ⟨rfl, rfl⟩
      (try dsimp only); repeat' (first | go_values | go_skip | go_guarded | go_step | go_upon | go_back)
      refine HE1.out.mono ?_
      rintro r0 w4 ⟨rfl, rfl⟩
      clear HE1
      (try dsimp only); repeat' (first | go_values | go_skip | go_guarded | go_step | go_upon | go_back)
      go_ret
      exact ⟨rfl, HS.out⟩
  · have b16 := bit_f (by simpa using k16)
    by_cases k32 : bit has 32 = true
    · have b32 := bit_t k32
      obtain ⟨n1, r1, e1, hA⟩ : ∃ n1 r1 e1, rdNe r e = (n1, r1, e1) := ⟨_, _, _, rfl⟩
      obtain ⟨n2, r2, e2, hB⟩ : ∃ n' r' e', rdVe r1 e1 = (n', r', e') := ⟨_, _, _, rfl⟩
      have hq : stEntry ⟨r, e, g.x⟩ = (⟨r2, e2, { g.x with en := ⟨(n1 : Nat), wrap64 n2, g.en.p⟩ }⟩, e2) := by
        unfold stEntry
        dsimp only
        rw [show mfieldsOf g.x.k = has from hhas.symm, if_neg k16, if_pos k32, hA]
        dsimp only
        rw [hB, ← i64w_eq]
        rfl
      rw [hq]
      dsimp only
      have a1 := (lt_of hA).1
      have a2 := (vt_of hB).1
      have b1 : (0 : Int) ≤ (n1 : Int) := by omega
      have b2 : (0 : Int) ≤ (n2 : Int) := by omega
      have b4 : (n1 : Int) ≤ 255 := by omega
      have b5 : (n2 : Int) ≤ 18446744073709551615 := by omega
      have HN1 := Lib.hid (rnum_of hA h)
      have HV : Hid (∀ M wx, Sep w0 (RdrT gr r1 e1 :: M) wx → Calls Tryd.prog 57 #[.pointer (some ⟨gr, 0, none⟩)] wx fun r w' => r = .returned (.int .u64 n2) ∧ Sep w0 (RdrT gr r2 e2 :: M) w') := Lib.hid fun M wx hx => rvar_of hB hx
      clear h hk hF hq hA hB hhas k16 k32 hl a1 a2
      go_enter Tryd.func32, Tryd.ntmps32
      (try dsimp only); repeat' (first | go_values | go_skip | go_guarded | go_step | go_upon | go_back)
      refine HF.out.mono ?_
      rintro r0 w1 ⟨rfl, rfl⟩
      clear HF c0
      (try dsimp only); repeat' (first | go_values | go_skip | go_guarded | go_step | go_upon | go_back)
      refine HN1.out.mono ?_
      rintro r0 w2 ⟨rfl, h2⟩
      have H2 := Lib.hid h2
      clear HN1 h2
      (try dsimp only); repeat' (first | go_values | go_skip | go_guarded | go_step | go_upon | go_back)
      refine (HV.out _ _ H2.out).mono ?_
      rintro r0 w3 ⟨rfl, h3⟩
      have x0 : w3.cell? ⟨bm, 7, none⟩ = some (.int .i64 g.en.c) := h3.sw2.cell rfl
      have x1 : w3.cell? ⟨bm, 8, none⟩ = some (.int .i64 g.en.m) := h3.sw2.cell rfl
      have f0 := h3.sw2.frozen 7
      have f1 := h3.sw2.frozen 8
      have h4 := (h3.sw2.setCell 7 (.int .i64 n1)).setCell 8 (.int .i64 (wrap64 n2))
      rw [show ((mgC g).setIfInBounds 7 (.int .i64 n1)).setIfInBounds 8 (.int .i64 (wrap64 n2)) = mgC { g with en := ⟨(n1 : Nat), wrap64 n2, g.en.p⟩ } from rfl] at h4
      have HS : Hid (RdS w0 L gr bm ⟨r2, e2, { g.x with en := ⟨(n1 : Nat), wrap64 n2, g.en.p⟩ }⟩ _) := Lib.hid ⟨{ g with en := ⟨(n1 : Nat), wrap64 n2, g.en.p⟩ }, rfl, h4.sw2⟩
      have HE1 := Lib.hid (HERR.out _ _ _ _ h4.sw2)
      clear HV H2 h3 h4
      (try dsimp only); repeat' (first | go_values | go_skip | go_guarded | go_step | go_upon | go_back)
      refine HE1.out.mono ?_
      rintro r0 w4 ⟨rfl, rfl⟩
      clear HE1 x0 x1 f0 f1
      (try dsimp only); repeat' (first | go_values | go_skip | go_guarded | go_step | go_upon | go_back)
      go_ret
      exact ⟨rfl, HS.out⟩
    · have b32 := bit_f (by simpa using k32)
      have hq : stEntry ⟨r, e, g.x⟩ = (⟨r, e, g.x⟩, e) := by
        unfold stEntry
        dsimp only
        rw [show mfieldsOf g.x.k = has from hhas.symm, if_neg k16, if_neg k32]
      rw [hq]
      dsimp only
      have HS : Hid (RdS w0 L gr bm ⟨r, e, g.x⟩ w) := Lib.hid ⟨g, rfl, h⟩
      have HE1 := Lib.hid (HERR.out _ _ _ _ h)
      clear h hk hF hq hhas k16 k32 hl
      go_enter Tryd.func32, Tryd.ntmps32
      (try dsimp only); repeat' (first | go_values | go_skip | go_guarded | go_step | go_upon | go_back)
      refine HF.out.mono ?_
      rintro r0 w1 ⟨rfl, rfl⟩
      clear HF c0
      (try dsimp only); repeat' (first | go_values | go_skip | go_guarded | go_step | go_upon | go_back)
      refine HE1.out.mono ?_
      rintro r0 w4 ⟨rfl, rfl⟩
      clear HE1
      (try dsimp only); repeat' (first | go_values | go_skip | go_guarded | go_step | go_upon | go_back)
      go_ret
      exact ⟨rfl, HS.out⟩
end Go.Proofs.YtafkbodmiblbnaaDoor
