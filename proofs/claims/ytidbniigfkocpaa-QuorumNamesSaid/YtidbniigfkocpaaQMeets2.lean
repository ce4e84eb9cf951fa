/- The walk of QuorumMeets. -/
import Derived.Test.YtidbniigfkocpaaQMeets
namespace Go.Proofs.Ytidbniigfkocpaa
open Go.RowKit
set_option linter.unusedVariables false
set_option linter.unusedSimpArgs false
theorem Sep.mapKeys {w0 w : World} {b : Nat} {S : List (Bal × Nat)} {L : List Thing} (h : Sep w0 (BalM b S :: L) w) : (S.map (·.1)).Nodup := by
  obtain ⟨F, ⟨⟨es, c, hb, M⟩, _⟩, _⟩ := h.head
  exact M.keys
set_option maxRecDepth 100000 in
set_option maxHeartbeats 8000000 in
theorem qmeets_any (f bt turn : Int) (w : World) (hbt : I64 bt) :
    Calls Try.prog 5 #[.int .i64 f, .int .i64 bt, .int .i64 turn] w fun e w' => e = .returned (.bool true) ∧ Below w.heap.size w w' := by
  obtain ⟨q, hq, hq7⟩ := br_lt f 7 (by omega)
  have hB0 : ∀ wx : World, Calls Try.prog 29 #[.int .i64 f, .int .i64 7] wx fun e w' => e = .returned (.int .i64 (q : Int)) ∧ wx = w' := fun wx => by
    have := bring_any f 7 wx (by unfold Sm; omega)
    rwa [show f % 7 = (q : Int) from hq] at this
  have HB0 := Lib.hid hB0
  obtain ⟨n, hn⟩ : ∃ n : Nat, n = 2 * (1 + q) + 1 := ⟨_, rfl⟩
  obtain ⟨t, ht, htn⟩ := br_lt turn n (by omega)
  have hB1 : ∀ wx : World, Calls Try.prog 29 #[.int .i64 turn, .int .i64 n] wx fun e w' => e = .returned (.int .i64 (t : Int)) ∧ wx = w' := fun wx => by
    have := bring_any turn n wx (by unfold Sm; omega)
    rwa [ht] at this
  have HB1 := Lib.hid hB1
  have hn15 : n ≤ 15 := by omega
  have hn3 : 3 ≤ n := by omega
  have hen : enough n = (n / 2 + 1 : Nat) := by
    unfold enough
    rw [if_pos ⟨by omega, by omega, by omega⟩]
    omega
  have hne : enough n ≠ 0 := by rw [hen]; omega
  obtain ⟨e, he⟩ : ∃ e : Nat, e = n / 2 + 1 := ⟨_, rfl⟩
  have hE : ∀ wx : World, Calls Try.prog 10 #[.int .i64 n] wx fun e' w' => e' = .returned (.int .i64 (e : Nat)) ∧ w' = wx := fun wx => by
    have h1 := enough_any n wx (by unfold I64; omega)
    rw [hen, ← he] at h1
    exact h1.mono fun _ _ h => ⟨h.1, h.2.symm⟩
  have HE := Lib.hid hE
  have hq2 : 2 * (1 + (q : Int)) + 1 = (n : Int) := by omega
  have HX := Lib.hid (show enough n ≠ 0 ∧ n < 2 * e ∧ enough n = (e : Int) from ⟨hne, by omega, by rw [hen, he]⟩)
  clear hB0 hB1 hE hq hen hne he ht hn
  go_enter Try.func5, Try.ntmps5
  go_wp2_with fail
  refine (qworks_any _).mono ?_
  rintro r0 w1 ⟨rfl, h1⟩
  have H1 := Lib.hid (Sep.nil h1)
  clear h1
  go_wp2_with fail
  refine (HB0.out _).mono ?_
  rintro r0 w2 ⟨rfl, rfl⟩
  go_wp2_with fail
  clear hq2
  refine (newTally_ok n _ H1.out (by unfold I64; omega) HX.out.1).mono ?_
  rintro r0 w2 ⟨g, b, rfl, h2⟩
  have h3 := h2.alloc (.cells ((List.replicate 8 (0 : Int)).map (Value.int .i64)).toArray 58)
  obtain ⟨bm, hbm⟩ : ∃ k, k = w2.heap.size := ⟨_, rfl⟩
  rw [← hbm] at h3
  have H3 := Lib.hid h3
  clear h2 h3 H1
  go_wp2_with fail
  rw [← hbm]
  clear hbm
  go_loopw [11] (fun i wr => ∃ (k : Nat) (many : List Int) (S : List (Bal × Nat)), k ≤ n ∧ i = .int .i64 k ∧ Meets bt n t k many S ∧ Sep w [ArrI bm many 58, TalC g b n, BalM b S] wr) (fun i _ => n - (intOf i).toNat)
  case atStart => exact ⟨0, _, _, by omega, rfl, meets_zero bt n t, H3.out⟩
  case round =>
    obtain ⟨i, many, S, hi, rfl, hM, hs⟩ := hrel
    clear H3
    by_cases hin : i < n
    · have hd : decide (i < n) = true := decide_eq_true hin
      obtain ⟨wh, hwh⟩ : ∃ wh : Nat, wh = (i + t) % n := ⟨_, rfl⟩
      have hwn : wh < n := by rw [hwh]; exact Nat.mod_lt _ (by omega)
      obtain ⟨hk, hk8⟩ := kOf_is bt wh
      have hkl : kOf bt wh < many.length := by rw [hM.len]; exact hk8
      obtain ⟨hp, hM2⟩ := meets_add hM hin hn15 hwh hwn hk8 hkl
      have hz := hM.cnt _ hkl
      have hz15 : popc (getS S (kOf bt wh)) ≤ 15 := by unfold popc; omega
      have c0 := hs.arrAt _ hkl
      have f0 := hs.frozen (kOf bt wh)
      have hs2 := hs.arrSet (kOf bt wh) (many[kOf bt wh] + 1)
      have hgs : (mget S (balk (kOf bt wh) hk8)).getD 0 = getS S (kOf bt wh) := by unfold getS; rw [dif_pos hk8]
      have hadd := fun wx (hx : Sep w (TalC g b n :: BalM b S :: ArrI bm (many.set (kOf bt wh) (many[kOf bt wh] + 1)) 58 :: []) wx) => add_ok (balk (kOf bt wh) hk8) wh hx hwn hn15 hM.small
      rw [hgs, hp] at hadd
      have HM2 := Lib.hid hM2
      have hcl := fun wx L (hx : Sep w (ArrI bm (many.set (kOf bt wh) (many[kOf bt wh] + 1)) 58 :: L) wx) => hx.arrAt (kOf bt wh) (by simpa using hkl)
      simp only [List.getElem_set_self] at hcl
      have HCL := Lib.hid hcl
      have HADD := Lib.hid hadd
      have H2 := Lib.hid hs2.to3
      unfold balk balV at HADD
      generalize kOf bt wh = kk at *
      have hz0 : many[kk] = (popc (getS S kk) : Nat) := hz
      generalize popc (getS S kk) = z at *
      have hzz : ((z + 1 : Nat) : Int) = many[kk] + 1 := by omega
      rw [hzz] at HADD
      have z0 : 0 ≤ many[kk] := by omega
      have z1 : many[kk] ≤ 15 := by omega
      generalize many[kk] = y at *
      have hwho : ((i : Int) + (t : Int)) % (n : Int) = (wh : Int) := by rw [hwh, Int.natCast_emod, Int.natCast_add]
      have k0 : (0 : Int) ≤ (kk : Int) := by omega
      have k1 : (kk : Int) < 8 := by omega
      have i0 : (0 : Int) ≤ (i : Int) := by omega
      have i1 : (i : Int) ≤ 15 := by omega
      have t0 : (0 : Int) ≤ (t : Int) := by omega
      have t1 : (t : Int) ≤ 15 := by omega
      have n0 : (3 : Int) ≤ (n : Int) := by omega
      have n1 : (n : Int) ≤ 15 := by omega
      have h0 : (0 : Int) ≤ (wh : Int) := by omega
      have h1 : (wh : Int) ≤ 15 := by omega
      have heq : (y + 1 != y + 1) = false := by simp
      clear hM hs hs2 hM2 hp hz hz0 hzz hwh hwn hadd hcl hgs hin
      go_wp2_with fail
      refine (HB1.out _).mono ?_
      rintro r1 w3 ⟨rfl, rfl⟩
      go_wp2_with fail
      refine (HADD.out _ H2.out).mono ?_
      rintro r2 w4 ⟨rfl, h4⟩
      have c1 := HCL.out _ _ h4.sw3
      have H4 := Lib.hid h4.sw3
      clear h4 H2 c0 f0 HADD HCL
      go_wp2_with fail
      go_roundw
      case rel => exact ⟨i + 1, _, _, of_decide_eq_true hd, by go_num, HM2.out, H4.out⟩
      case measure => have hin := of_decide_eq_true hd; simp [intOf]; omega
    · have hd : decide (i < n) = false := decide_eq_false hin
      obtain rfl : i = n := by omega
      have hkeys := hs.sw3.mapKeys
      have HS := Lib.hid hs.to3
      have HM := Lib.hid hM
      have HK := Lib.hid hkeys
      clear hs hM hkeys hin
      go_wp2_with fail
      refine (won_any HS.out hn15 HM.out.small).mono ?_
      rintro r3 w5 ⟨o, rfl, ho, h5⟩
      rw [HX.out.2.2] at ho
      clear HS
      cases o with
      | none =>
        rw [show balV ((none : Option Bal).getD balZ) = .agg #[.int .i64 0, .int .i64 0, .int .i64 0, .int .i64 0, .int .i64 0] from rfl, show (none : Option Bal).isSome = false from rfl]
        have hlow : ∀ k (h : k < many.length), decide ((e : Int) ≤ many[k]) = false := fun k h => by
          refine decide_eq_false ?_
          rw [HM.out.cnt k h]
          have h8 : k < 8 := by rw [← HM.out.len]; exact h
          unfold getS
          rw [dif_pos h8]
          cases hg : mget S (balk k h8) with
          | none =>
            rw [Option.getD_none, show popc 0 = 0 from rfl]
            have := HX.out.2.1
            omega
          | some s =>
            rw [Option.getD_some]
            exact ho.1 rfl (balk k h8, s) (mget_some hg)
        have HL := Lib.hid hlow
        have H6 := Lib.hid ((h5.alloc (.cells #[.int .i64 0, .int .i64 0, .int .i64 0, .int .i64 0, .int .i64 0] 34)).drop.sw3)
        clear ho h5 hlow
        go_wp2_with fail
        go_loopw [18, 19] (fun u v wz => ∃ j : Nat, j ≤ 8 ∧ u = .int .i64 0 ∧ v = .int .i64 j ∧ Sep w [ArrI bm many 58, TalC g b i, BalM b S] wz) (fun _ v _ => 8 - (intOf v).toNat)
        case atStart => exact ⟨0, by omega, rfl, rfl, H6.out⟩
        case round =>
          obtain ⟨j, hj, rfl, rfl, hs⟩ := hrel
          clear H6
          have j0 : (0 : Int) ≤ (j : Int) := by omega
          by_cases hj8 : j < 8
          · have hdj : decide ((j : Int) < 8) = true := decide_eq_true (by omega)
            have hjl : j < many.length := by rw [HM.out.len]; exact hj8
            have c0 := hs.arrAt j hjl
            have t0 := HL.out j hjl
            have j1 : (j : Int) < 8 := by omega
            have HS := Lib.hid hs
            generalize many[j] = y at *
            clear hs hjl hj8
            go_wp2_with fail
            go_quiet ((go_at_call 10; exact Calls.quiet_of_same (HE.out _)))
            go_wp2_with fail
            go_roundw
            case rel => exact ⟨j + 1, by omega, rfl, by go_num, HS.out.drewN nq⟩
            case measure => simp [intOf]; omega
          · have hdj : decide ((j : Int) < 8) = false := decide_eq_false (by omega)
            have HS := Lib.hid hs.low
            clear hs hj8
            go_wp2_with fail
            go_ret
            exact ⟨rfl, HS.out⟩
      | some x =>
        obtain ⟨⟨p, hp, rfl, hpE⟩, _⟩ := ho.2 x rfl
        obtain ⟨K, hK, hpK⟩ := HM.out.keys p hp
        have hgK : getS S K = p.2 := by
          unfold getS
          rw [dif_pos hK, ← hpK, mget_mem HK.out hp]; rfl
        rw [show balV ((some p.1 : Option Bal).getD balZ) = .agg #[.int .i64 4, .int .i64 9, .int .i64 0, .int .i64 K, .int .i64 0] by rw [Option.getD_some, hpK]; rfl, show (some p.1 : Option Bal).isSome = true from rfl]
        have hlow : ∀ k (h : k < many.length), k ≠ K → decide ((e : Int) ≤ many[k]) = false := fun k h hne => by
          refine decide_eq_false ?_
          rw [HM.out.cnt k h]
          have h8 : k < 8 := by rw [← HM.out.len]; exact h
          have := meets_two HM.out hn15 (by omega) h8 hK hne
          have h2 := HX.out.2.1
          rw [hgK] at this
          omega
        have hhigh : ∀ (h : K < many.length), decide ((e : Int) ≤ many[K]) = true := fun h => by
          refine decide_eq_true ?_
          rw [HM.out.cnt K h, hgK]
          exact hpE
        have HL := Lib.hid hlow
        have HH := Lib.hid hhigh
        obtain ⟨bw, hbw⟩ : ∃ k, k = w5.heap.size := ⟨_, rfl⟩
        have h6 := (h5.alloc (.cells #[.int .i64 4, .int .i64 9, .int .i64 0, .int .i64 K, .int .i64 0] 34)).sw4
        rw [← hbw] at h6
        have H6 := Lib.hid h6
        clear ho h5 h6 hlow hhigh hp hpE hpK hgK
        go_wp2_with fail
        rw [← hbw]
        clear hbw
        go_loopw [18, 19] (fun u v wz => ∃ j : Nat, j ≤ 8 ∧ u = .int .i64 (if K < j then 1 else 0) ∧ v = .int .i64 j ∧ Sep w [ArrI bm many 58, Cl bw #[.int .i64 4, .int .i64 9, .int .i64 0, .int .i64 K, .int .i64 0] 34, TalC g b i, BalM b S] wz) (fun _ v _ => 8 - (intOf v).toNat)
        case atStart => exact ⟨0, by omega, rfl, rfl, H6.out⟩
        case round =>
          obtain ⟨j, hj, rfl, rfl, hs⟩ := hrel
          clear H6
          have j0 : (0 : Int) ≤ (j : Int) := by omega
          by_cases hj8 : j < 8
          · have hdj : decide ((j : Int) < 8) = true := decide_eq_true (by omega)
            have hjl : j < many.length := by rw [HM.out.len]; exact hj8
            have c0 := hs.arrAt j hjl
            have j1 : (j : Int) < 8 := by omega
            have d0 := hs.sw2.cell (o := 3) (x := .int .i64 K) rfl
            have HS := Lib.hid hs
            by_cases hjK : j = K
            · subst hjK
              have t0 := HH.out hjl
              rw [if_neg (Nat.lt_irrefl j)]
              have t1 : ((j : Int) != (j : Int)) = false := by simp
              have t2 : (j != j) = false := by simp
              generalize many[j] = y at *
              clear hs hjl hj8
              go_wp2_with fail
              go_quiet ((go_at_call 10; exact Calls.quiet_of_same (HE.out _)))
              have d1 : (wr.drewN nq).cell? ⟨bw, 3, none⟩ = some (.int .i64 j) := d0
              go_wp2_with fail
              go_roundw
              case rel => exact ⟨j + 1, by omega, by rw [if_pos (Nat.lt_succ_self j)], by go_num, HS.out.drewN nq⟩
              case measure => simp [intOf]; omega
            · have t0 := HL.out j hjl hjK
              have hif : (if K < j + 1 then (1 : Int) else 0) = if K < j then 1 else 0 := by
                by_cases h1 : K < j
                · rw [if_pos h1, if_pos (by omega)]
                · rw [if_neg h1, if_neg (by omega)]
              have HI := Lib.hid hif
              generalize hu : (if K < j then (1 : Int) else 0) = u at *
              generalize many[j] = y at *
              clear hs hjl hj8 hif hu
              go_wp2_with fail
              go_quiet ((go_at_call 10; exact Calls.quiet_of_same (HE.out _)))
              go_wp2_with fail
              go_roundw
              case rel => exact ⟨j + 1, by omega, by rw [HI.out], by go_num, HS.out.drewN nq⟩
              case measure => simp [intOf]; omega
          · have hdj : decide ((j : Int) < 8) = false := decide_eq_false (by omega)
            rw [if_pos (show K < j by omega)]
            have HS := Lib.hid hs.low
            clear hs hj8
            go_wp2_with fail
            go_ret
            exact ⟨rfl, HS.out⟩
end Go.Proofs.Ytidbniigfkocpaa
