/- Do both disks stand alike? -/
import Derived.Test.YtpnafgkoijnplaaDiskRef2
import Derived.Test.YtpnafgkoijnplaaRowSet
import Derived.RegionTactic
namespace Go.Proofs.Ytpnafgkoijnplaa
open Go.RowKit
set_option linter.unusedVariables false
set_option maxRecDepth 8000 in
set_option maxHeartbeats 4000000 in
theorem same_any {w0 w : World} {L : List Thing} {g m : Nat} (D : DS) (h : Sep w0 (DiskT g D :: RefT m D :: L) w) (hj : D.j.length ≤ 1048576) (h0 : D.s0.length ≤ 1048576) (h1 : D.s1.length ≤ 1048576) :
    Calls Try.prog 12 #[.pointer (some ⟨g, 0, none⟩), .pointer (some ⟨m, 0, none⟩)] w fun e w' => e = .returned (.bool true) ∧ Sep w0 (DiskT g D :: RefT m D :: L) w' := by
  have H := Lib.hid h
  clear h
  go_enter Try.func12, Try.ntmps12
  go_wp2_with fail
  refine (log_any _ H.out hj).mono ?_
  rintro r0 w1 ⟨vv, rfl, h2⟩
  have H2 := Lib.hid h2.sw2
  clear h2 H
  go_wp2_with fail
  refine (slots_any _ H2.out h0 h1).mono ?_
  rintro r0 w2 ⟨u0, u1, rfl, h3⟩
  have H3 := Lib.hid h3.sw5
  clear h3 H2
  go_wp2_with fail
  refine (rslots_any _ H3.out h0 h1).mono ?_
  rintro r0 w3 ⟨t0, t1, rfl, h4⟩
  obtain ⟨av, cv, rfl⟩ := h4.sw7.sl.len
  obtain ⟨au0, cu0, rfl⟩ := h4.sw4.sl.len
  obtain ⟨au1, cu1, rfl⟩ := h4.sw5.sl.len
  obtain ⟨at0, ct0, rfl⟩ := h4.sl.len
  obtain ⟨at1, ct1, rfl⟩ := h4.sw2.sl.len
  have h5 := (h4.sw7.alloc (.cells #[.slice au0 (bv D.s0).length cu0, .slice au1 (bv D.s1).length cu1] 34)).alloc (.cells #[.slice at0 (bv D.s0).length ct0, .slice at1 (bv D.s1).length ct1] 34)
  rw [show (w3.alloc (.cells #[.slice au0 (bv D.s0).length cu0, .slice au1 (bv D.s1).length cu1] 34)).heap.size = w3.heap.size + 1 by simp] at h5
  have H5 := Lib.hid h5.sw6
  clear h4 h5 H3
  go_wp2_with fail
  refine (rlog_any _ H5.out hj).mono ?_
  rintro r0 w4 ⟨vr, rfl, h6⟩
  obtain ⟨bs, hbs⟩ : ∃ x, x = w3.heap.size := ⟨_, rfl⟩
  obtain ⟨bt, hbt⟩ : ∃ x, x = w3.heap.size + 1 := ⟨_, rfl⟩
  rw [← hbt, ← hbs] at h6
  rw [← hbt, ← hbs]
  clear hbs hbt H5
  have p0 := h6.sw4.cell (o := 0) rfl
  have p1 := h6.sw4.cell (o := 1) rfl
  have p2 := h6.sw3.cell (o := 0) rfl
  have p3 := h6.sw3.cell (o := 1) rfl
  have H6 := Lib.hid h6
  clear h6
  go_wp2_with fail
  refine (eqSame_any _ _ D.j _ H6.out.sw5.sl H6.out.sl).mono ?_
  rintro r0 w5 ⟨rfl, rfl⟩
  have H7 := Lib.hid H6.out.drop
  clear H6
  -- R, Ct, Cs, V, T0, T1, U0, U1, D
  go_wp2_with fail
  refine (eqSame_any _ _ D.s0 _ H7.out.sw7.sl H7.out.sw5.sl).mono ?_
  rintro r0 w5 ⟨rfl, rfl⟩
  go_wp2_with fail
  refine (eqSame_any _ _ D.s1 _ H7.out.sw8.sl H7.out.sw6.sl).mono ?_
  rintro r0 w5 ⟨rfl, rfl⟩
  clear p0 p1 p2 p3
  go_wp2_with fail
  refine (dead_any H7.out.sw9).mono ?_
  rintro r0 w5 ⟨rfl, rfl⟩
  go_wp2_with fail
  refine (rdead_any H7.out).mono ?_
  rintro r0 w5 ⟨rfl, rfl⟩
  have H8 : Hid (∃ xs, xs.length = (bv D.j).length ∧ Bys xs ∧ Sep w0 (Rw 5 (.slice av (bv D.j).length cv) xs :: Cl bs #[.slice au0 (bv D.s0).length cu0, .slice au1 (bv D.s1).length cu1] 34 :: By (.slice au0 (bv D.s0).length cu0) D.s0 :: DiskT g D :: RefT m D :: L) w4) :=
    Lib.hid ⟨bv D.j, rfl, bys_bv _, by
      -- R, Ct, Cs, V, T0, T1, U0, U1, D
      have a := H7.out.sw5.drop.sw5.drop
      -- R, Ct, Cs, V, U0, U1, D
      have b := a.sw2.drop.sw5.drop
      -- R, Cs, V, U0, D
      exact b.sw5.sw5.sw5.sw5.sw2.sw3.sw3.sw5.sw5.sw5.sw5.sw5.sw3⟩
  have HN : Hid ((bv D.j).length ≤ 1048576) := Lib.hid (by rw [bv_length]; exact hj)
  have HN0 : Hid ((bv D.s0).length ≤ 1048576) := Lib.hid (by rw [bv_length]; exact h0)
  clear H7
  go_wp2_with fail
  generalize (bv D.j).length = nj at *
  go_loopw [8] (fun i wr => ∃ (k : Nat) (xs : List Value), k ≤ nj ∧ i = .int .i64 k ∧ xs.length = nj ∧ Bys xs ∧ Sep w0 (Rw 5 (.slice av nj cv) xs :: Cl bs #[.slice au0 (bv D.s0).length cu0, .slice au1 (bv D.s1).length cu1] 34 :: By (.slice au0 (bv D.s0).length cu0) D.s0 :: DiskT g D :: RefT m D :: L) wr) (fun i _ => nj - (intOf i).toNat)
  case atStart => obtain ⟨xs, e1, e2, e3⟩ := H8.out; exact ⟨0, xs, by omega, rfl, e1, e2, e3⟩
  case round =>
    obtain ⟨k, xs, hk, rfl, hxl, hby, hs⟩ := hrel
    clear H8
    have hn := HN.out
    by_cases hkn : k < nj
    · obtain ⟨b, c, hv, hc1, hc2, hcell, hfz, hset⟩ := hs.rowForm (by omega)
      rw [hxl] at hv hc1
      simp only [Value.slice.injEq, true_and] at hv
      obtain ⟨rfl, rfl⟩ := hv
      unfold maxLen at hc2
      obtain ⟨z, hz⟩ := hby.get k (by omega)
      have k0 := hcell k (by omega)
      rw [hz] at k0
      have k1 := hfz k
      have HS := Lib.hid (hset k (.int .u8 (bits BinOp.xor IntKind.u8 z 51)) (by omega))
      have HB := Lib.hid (hby.set k (bits BinOp.xor IntKind.u8 z 51))
      have HX := Lib.hid hxl
      have kk : (0 : Int) ≤ (k : Int) := by omega
      clear hs hcell hfz hset hby hz hxl
      go_wp2_with fail
      go_roundw
      case rel => exact ⟨k + 1, _, by omega, by go_num, by have := HX.out; simpa using this, HB.out, HS.out⟩
      case measure => simp [intOf]; omega
    · have HS := Lib.hid hs
      clear hs hby hxl hn
      have p0 := HS.out.sw2.cell (o := 0) rfl
      have hn0 := HN0.out
      have e0 : bv D.s0 = bv D.s0 := rfl
      have HB0 : Hid (∃ xs, xs.length = (bv D.s0).length ∧ Bys xs ∧ Sep w0 (Rw 5 (.slice au0 (bv D.s0).length cu0) xs :: Cl bs #[.slice au0 (bv D.s0).length cu0, .slice au1 (bv D.s1).length cu1] 34 :: DiskT g D :: RefT m D :: L) wr) := Lib.hid ⟨bv D.s0, rfl, bys_bv _, HS.out.drop.sw2⟩
      clear e0 HS HN
      go_wp2_with fail
      generalize (bv D.s0).length = n0 at *
      go_loopw [9] (fun i wr => ∃ (k : Nat) (xs : List Value), k ≤ n0 ∧ i = .int .i64 k ∧ xs.length = n0 ∧ Bys xs ∧ Sep w0 (Rw 5 (.slice au0 n0 cu0) xs :: Cl bs #[.slice au0 n0 cu0, .slice au1 (bv D.s1).length cu1] 34 :: DiskT g D :: RefT m D :: L) wr) (fun i _ => n0 - (intOf i).toNat)
      case atStart => obtain ⟨xs, e1, e2, e3⟩ := HB0.out; exact ⟨0, xs, by omega, rfl, e1, e2, e3⟩
      case round =>
        obtain ⟨k, xs, hk, rfl, hxl, hby, hs⟩ := hrel
        clear HB0 p0
        have p0 := hs.sw2.cell (o := 0) rfl
        by_cases hkn : k < n0
        · obtain ⟨b, c, hv, hc1, hc2, hcell, hfz, hset⟩ := hs.rowForm (by omega)
          rw [hxl] at hv hc1
          simp only [Value.slice.injEq, true_and] at hv
          obtain ⟨rfl, rfl⟩ := hv
          unfold maxLen at hc2
          obtain ⟨z, hz⟩ := hby.get k (by omega)
          have k0 := hcell k (by omega)
          rw [hz] at k0
          have k1 := hfz k
          have HS := Lib.hid ((hset k (.int .u8 (bits BinOp.xor IntKind.u8 z 51)) (by omega)))
          have HB := Lib.hid (hby.set k (bits BinOp.xor IntKind.u8 z 51))
          have HX := Lib.hid hxl
          have kk : (0 : Int) ≤ (k : Int) := by omega
          have kk2 : (k : Int) < (n0 : Int) := by omega
          clear hs hcell hfz hset hby hz hxl
          go_wp2_with fail
          go_region_law (fail)
          all_goals
            go_wp2_with fail
            go_roundw
            case rel => exact ⟨k + 1, _, by omega, by go_num, by have := HX.out; simpa using this, HB.out, HS.out.drew⟩
            case measure => simp [intOf]; omega
        · have HS := Lib.hid hs.drop.drop
          clear hs hby hxl
          go_wp2_with fail
          go_ret
          exact ⟨rfl, HS.out⟩
end Go.Proofs.Ytpnafgkoijnplaa
