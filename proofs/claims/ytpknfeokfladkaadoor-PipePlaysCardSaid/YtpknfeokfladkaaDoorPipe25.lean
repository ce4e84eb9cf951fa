/- What a call of both does: what From answered is written to. -/
import Derived.Test.YtpknfeokfladkaaDoorPipe22
namespace Go.Proofs.YtpknfeokfladkaaDoor
open Go.RowKit
set_option linter.unusedVariables false
set_option linter.unusedSimpArgs false
/-- All that stands behind a ';' in a piece of code. -/
def seqRests : Code → List Code
  | .seq a b => seqRests a ++ (b :: seqRests b)
  | .block _ c => seqRests c
  | .loop c => seqRests c
  | .scope c => seqRests c
  | .cond _ a b => seqRests a ++ seqRests b
  | _ => []
def loopBodies : Code → List Code
  | .seq a b => loopBodies a ++ loopBodies b
  | .block _ c => loopBodies c
  | .loop c => c :: loopBodies c
  | .scope c => loopBodies c
  | .cond _ a b => loopBodies a ++ loopBodies b
  | _ => []
def startsAt (k : Nat) : Code → Bool
  | .seq (.region id _ _) _ => id == k
  | _ => false
noncomputable def ownLoop : Code := (Tryd.f12.body.bind fun c => (loopBodies c)[0]?).getD .skip
noncomputable def ownRest : Code := (Tryd.f12.body.bind fun c => (seqRests c).find? (startsAt 20)).getD .skip
set_option maxRecDepth 100000 in
set_option maxHeartbeats 32000000 in
theorem own25 {w0 : World} {g g' : Nat} {B : Int} {ps qs : List (EnM × Value)} {L : List Thing} (m : Nat) (ra : Option Addr) (rc : Nat) (rs : List (EnM × Value)) (w10 : World) (H11 : Hid (Sep w0 (EnT (.slice ra m rc) rs :: PipeT g B ps :: DocT g' B qs :: L) w10)) (hrl : rs.length = m) (hm : m ≤ 24)
    (HQ : Hid (∀ wx, Sep w0 (PipeT g B ps :: DocT g' B qs :: L) wx → StepQ w0 g g' B L wx)) {K K1 : Act → World → Prop} (hK : ∀ a w', Code.wp Tryd.prog ownRest (Exit.inBlock 0 (Exit.then K1 (bodyPost Tryd.prog Tryd.f12 fun e w' => e = .returned (.bool true) ∧ StepQ w0 g g' B L w'))) a w' → K a w') (u0 u1 u2 u3 u4 u5 u6 u7 u8 u9 u10 u11 u13 u14 u15 u17 u18 u19 u20 u21 u22 u23 u24 u25 u26 u27 u28 u29 u30 u31 u32 u33 u34 u35 u36 u37 u38 u39 u40 u41 u42 u43 u44 u45 u46 u47 u48 u49 u50 u51 u52 u53 u54 u55 u56 u57 u58 u59 u60 u61 u62 u63 u64 u65 u66 u67 u68 u69 u70 u71 u72 u73 u74 u75 u76 u77 u78 u79 u80 u81 u82 u83 u84 u85 u86 u87 u88 u89 u90 u91 u92 u93 u94 u95 u96 u97 u98 u99 u100 u101 u102 u103 u104 u105 u106 u107 u108 u109 u110 u111 u112 u113 u114 u115 u116 u117 u118 u119 u120 u121 u122 u123 u124 u125 u126 u127 u128 u129 u130 u131 u132 u133 u134 u135 u136 u137 u138 u139 u140 u141 u142 u143 u144 u145 u146 u147 u148 u149 u150 u151 u152 u153 u154 u155 u156 u157 u158 u159 u160 u161 u162 u163 u164 u165 u166 u167 : Value) :
    Code.wp Tryd.prog (.loop ownLoop) (Exit.inBlock 1 (Exit.then K (Exit.inBlock 0 (Exit.then K1 (bodyPost Tryd.prog Tryd.f12 fun e w' => e = .returned (.bool true) ∧ StepQ w0 g g' B L w'))))) ⟨List.toArray (u0 :: u1 :: u2 :: u3 :: u4 :: u5 :: u6 :: u7 :: u8 :: u9 :: u10 :: u11 :: .slice ra m rc :: u13 :: u14 :: u15 :: .int .i64 0 :: u17 :: u18 :: u19 :: u20 :: u21 :: u22 :: u23 :: u24 :: u25 :: u26 :: u27 :: u28 :: u29 :: u30 :: u31 :: u32 :: u33 :: u34 :: u35 :: u36 :: u37 :: u38 :: u39 :: u40 :: u41 :: u42 :: u43 :: u44 :: u45 :: u46 :: u47 :: u48 :: u49 :: u50 :: u51 :: u52 :: u53 :: u54 :: u55 :: u56 :: u57 :: u58 :: u59 :: u60 :: u61 :: u62 :: u63 :: u64 :: u65 :: u66 :: u67 :: u68 :: u69 :: u70 :: u71 :: u72 :: u73 :: u74 :: u75 :: u76 :: u77 :: u78 :: u79 :: u80 :: u81 :: u82 :: u83 :: u84 :: u85 :: u86 :: u87 :: u88 :: u89 :: u90 :: u91 :: u92 :: u93 :: u94 :: u95 :: u96 :: u97 :: u98 :: u99 :: u100 :: u101 :: u102 :: u103 :: u104 :: u105 :: u106 :: u107 :: u108 :: u109 :: u110 :: u111 :: u112 :: u113 :: u114 :: u115 :: u116 :: u117 :: u118 :: u119 :: u120 :: u121 :: u122 :: u123 :: u124 :: u125 :: u126 :: u127 :: u128 :: u129 :: u130 :: u131 :: u132 :: u133 :: u134 :: u135 :: u136 :: u137 :: u138 :: u139 :: u140 :: u141 :: u142 :: u143 :: u144 :: u145 :: u146 :: u147 :: u148 :: u149 :: u150 :: u151 :: u152 :: u153 :: u154 :: u155 :: u156 :: u157 :: u158 :: u159 :: u160 :: u161 :: u162 :: u163 :: u164 :: u165 :: u166 :: u167 :: []), []⟩ w10 := by
  conv => arg 2; whnf
  conv =>
    arg 2; arg 1; whnf
  conv at hK =>
    ext a w'; arg 1; arg 2; whnf
  have m0 : (0 : Int) ≤ (m : Int) := by omega
  have m24 : (m : Int) ≤ 24 := by omega
  have HM := Lib.hid hm
  clear hm
  go_loopw [16] (fun i wr => ∃ (k : Nat) (rs1 : List (EnM × Value)), k ≤ m ∧ i = .int .i64 k ∧ rs1.length = m ∧ Sep w0 (EnT (.slice ra m rc) rs1 :: PipeT g B ps :: DocT g' B qs :: L) wr) (fun i _ => m - (intOf i).toNat)
  case atStart => exact ⟨0, rs, Nat.zero_le _, rfl, hrl, H11.out⟩
  case round =>
    obtain ⟨k, rs1, hkle, rfl, hl1, hs⟩ := hrel
    clear H11 hrl
    have k0 : (0 : Int) ≤ (k : Int) := by omega
    by_cases hkm : k < m
    · have d0 : decide (k < m) = true := decide_eq_true hkm
      have k1 : (k : Int) < (m : Int) := by omega
      obtain ⟨b, c, hv, hc, hce, hfr, hset⟩ := hs.enNum k (by omega)
      rw [hl1] at hv
      simp only [Value.slice.injEq] at hv
      obtain ⟨rfl, -, rfl⟩ := hv
      obtain ⟨rsA, hrA⟩ : ∃ z, z = setM rs1 k (-5) := ⟨_, rfl⟩
      have hs2 := hset (-5)
      rw [← hrA] at hs2
      have hlA : rsA.length = m := by rw [hrA, setM_len]; exact hl1
      obtain ⟨ll, hll⟩ : ∃ z, ∃ h9 : k < rsA.length, z = (rsA[k]'h9).1.p.ls.length := ⟨_, by omega, rfl⟩
      have H2 := Lib.hid (And.intro hkm (And.intro hlA (And.intro hll hs2)))
      generalize (rs1[k]'(by omega)).1.m = mk at hce
      clear hs hset hc hl1 hrA hs2 hlA hll hkm hkle
      (try dsimp only); repeat' (first | go_values | go_skip | go_guarded | go_step | go_upon | go_back)
      go_loopw [17] (fun i wz => ∃ (j : Nat) (rs2 : List (EnM × Value)) (hk2 : k < rs2.length), rs2.length = m ∧ j ≤ ll ∧ i = .int .i64 j ∧ rs2[k].1.p.ls.length = ll ∧ Sep w0 (EnT (.slice (some ⟨b, 0, none⟩) m rc) rs2 :: PipeT g B ps :: DocT g' B qs :: L) wz) (fun i _ => ll - (intOf i).toNat)
      case atStart =>
        obtain ⟨h9, h8⟩ := H2.out.2.2.1
        exact ⟨0, rsA, h9, H2.out.2.1, Nat.zero_le _, rfl, h8.symm, H2.out.2.2.2⟩
      case round =>
        obtain ⟨j, rs2, hk2, hl2, hjl, rfl, hll2, hs⟩ := hrel
        have HKM := Lib.hid H2.out.1
        clear H2 hce hfr
        obtain ⟨bx, off, he, -, -, -, ⟨-, -, -, -, -, -, y6⟩, hlx⟩ := (hs.enS).at hk2
        simp only [Option.some.injEq, Addr.mk.injEq, and_true] at he
        obtain ⟨rfl, rfl⟩ := he
        simp only [Nat.zero_add] at y6
        have j0 : (0 : Int) ≤ (j : Int) := by omega
        by_cases hj : j < ll
        · obtain ⟨b2, c2, hv2, hc2, hce2, hfr2, hset2⟩ := hs.enLine k hk2 j (by rw [hll2]; exact hj)
          have e0 : decide (j < ll) = true := decide_eq_true hj
          have j1 : (j : Int) < (ll : Int) := by omega
          have l9 : (ll : Int) ≤ 9223372036854775807 := by have := lns_maxl hlx; rw [hll2] at this; omega
          rw [hv2, hll2] at y6
          generalize hq9 : (rs2[k].1.p.ls[j]'(by rw [hll2]; exact hj)).2 = q9 at hce2
          have hs3 := hset2 (-5)
          generalize hgB : rs2.set k _ = rsB at hs3
          have hlB : rsB.length = m := by rw [← hgB, List.length_set]; exact hl2
          have hkB : ∃ h9 : k < rsB.length, (rsB[k]'h9).1.p.ls.length = ll := by
            subst hgB
            exact ⟨by rw [List.length_set]; exact hk2, by rw [List.getElem_set_self, List.length_set]; exact hll2⟩
          have H3 := Lib.hid (And.intro hj (And.intro hlB (And.intro hkB hs3)))
          clear hs hset2 hs3 hc2 hv2 hl2 hll2 hjl hlx hq9 hgB hlB hkB
          clear hj
          (try dsimp only); repeat' (first | go_values | go_skip | go_guarded | go_step | go_upon | go_back)
          go_roundw
          case rel =>
            obtain ⟨h9, h8⟩ := H3.out.2.2.1
            exact ⟨j + 1, rsB, h9, H3.out.2.1, H3.out.1, by go_num, h8, H3.out.2.2.2⟩
          case measure => have := H3.out.1; simp [intOf]; omega
        · have e0 : decide (j < ll) = false := decide_eq_false hj
          obtain ⟨la9, lc9, hlv⟩ := hlx.len
          rw [hlv, hll2] at y6
          have H3 := Lib.hid (And.intro hl2 hs)
          clear hs hlv hl2 hll2 hj hjl hlx
          (try dsimp only); repeat' (first | go_values | go_skip | go_guarded | go_step | go_upon | go_back)
          go_roundw
          case rel => exact ⟨k + 1, rs2, HKM.out, by go_num, H3.out.1, H3.out.2⟩
          case measure => have := HKM.out; simp [intOf]; omega
    · have d0 : decide (k < m) = false := decide_eq_false hkm
      have H9 := Lib.hid (HQ.out _ hs.drop)
      clear hs hkm hl1 hkle HQ
      (try dsimp only); repeat' (first | go_values | go_skip | go_guarded | go_step | go_upon | go_back)
      go_ret
      exact ⟨rfl, H9.out⟩
end Go.Proofs.YtpknfeokfladkaaDoor
