/- PipeAgrees. -/
import Derived.Test.YtpknfeokfladkaaDoorPipe17
namespace Go.Proofs.YtpknfeokfladkaaDoor
open Go.RowKit
set_option linter.unusedVariables false
set_option linter.unusedSimpArgs false
structure KA (ows ps qs : List (EnM × Value)) (m : Nat) : Prop where
  ep : ps.map (·.1) = ows.map (·.1)
  eq : qs.map (·.1) = ows.map (·.1)
  lo : ows.length = m
  ln : ∀ q ∈ ows, q.1.p.ls.length ≤ 1000
theorem KA.lp {ows ps qs : List (EnM × Value)} {m : Nat} (h : KA ows ps qs m) : ps.length = m := by rw [← h.lo]; simpa using congrArg List.length h.ep
theorem KA.lq {ows ps qs : List (EnM × Value)} {m : Nat} (h : KA ows ps qs m) : qs.length = m := by rw [← h.lo]; simpa using congrArg List.length h.eq
theorem lnq_of {ows ps : List (EnM × Value)} (he : ps.map (·.1) = ows.map (·.1)) (h : ∀ q ∈ ows, q.1.p.ls.length ≤ 1000) : ∀ q ∈ ps, q.1.p.ls.length ≤ 1000 := fun q hq => by
  have h9 : q.1 ∈ ows.map (·.1) := he ▸ List.mem_map_of_mem hq
  obtain ⟨z, hz, hz2⟩ := List.mem_map.1 h9
  rw [← hz2]; exact h z hz
theorem KA.more {ows ps qs qs2 : List (EnM × Value)} {m : Nat} (h : KA ows ps qs m) (he : qs2.map (·.1) = qs.map (·.1)) (x : EnM) (u v t : Value) (hx : x.p.ls.length ≤ 1000) : KA (ows ++ [(x, v)]) (ps ++ [(x, u)]) (qs2 ++ [(x, t)]) (m + 1) :=
  ⟨by simp [h.ep], by simp [he, h.eq], by simp [h.lo], fun q hq => by
    rcases List.mem_append.1 hq with hq | hq
    · exact h.ln q hq
    · rw [List.mem_singleton.1 hq]; exact hx⟩
theorem KA.lp_ {ows ps qs : List (EnM × Value)} {m : Nat} (h : KA ows ps qs m) : ∀ q ∈ ps, q.1.p.ls.length ≤ 1000 := lnq_of h.ep h.ln
theorem KA.lq_ {ows ps qs : List (EnM × Value)} {m : Nat} (h : KA ows ps qs m) : ∀ q ∈ qs, q.1.p.ls.length ≤ 1000 := lnq_of h.eq h.ln
theorem headQ {w0 w : World} {a : Option Addr} {n c : Nat} {ps : List (EnM × Value)} {L : List Thing} (h : Sep w0 (EnT (.slice a n c) ps :: L) w) : (if c = 0 then a else Option.map (fun x => x.add 0) a) = a ∧ (if c = 0 then a else Option.map (fun x => x.add (0 * 7)) a) = a := by
  rcases h.enForm2 with ⟨he, -⟩ | ⟨g', c', he, -, -⟩
  · simp only [Value.slice.injEq] at he; rw [he.1]; simp
  · simp only [Value.slice.injEq] at he; rw [he.1]; simp [addr_add]
/-- All that stands behind a ';' in a piece of code. -/
def seqRests : Code → List Code
  | .seq a b => seqRests a ++ (b :: seqRests b)
  | .block _ c => seqRests c
  | .loop c => seqRests c
  | .scope c => seqRests c
  | .cond _ a b => seqRests a ++ seqRests b
  | _ => []
def loopBodies : Code → List Code
  | .seq a b => loopBodies a ++ loopBodies b
  | .block _ c => loopBodies c
  | .loop c => c :: loopBodies c
  | .scope c => loopBodies c
  | .cond _ a b => loopBodies a ++ loopBodies b
  | _ => []
def startsAt (k : Nat) : Code → Bool
  | .seq (.region id _ _) _ => id == k
  | _ => false
noncomputable def tailLoop18 : Code := (Tryd.f4.body.bind fun c => (loopBodies c)[1]?).getD .skip
noncomputable def tailRest18 : Code := (Tryd.f4.body.bind fun c => (seqRests c).find? (startsAt 29)).getD .skip
set_option maxRecDepth 100000 in
set_option maxHeartbeats 16000000 in
theorem tail18 (B : Int) (f mo m : Nat) (x0 x1 x2 : Int) (w w8 : World) (ta : Option Addr) (tc : Nat) (os ows ps qs : List (EnM × Value)) (g g' b5 : Nat) (HB : Hid (0 ≤ B ∧ B < 1099511627776)) (HKA : Hid (KA ows ps qs m)) (HK : Hid (KindsAt w))
    (HLO : Hid (os.length = mo ∧ mo ≤ 24 ∧ (∀ q ∈ os, q.1.p.ls.length ≤ 1000))) (f0 : (0 : Int) ≤ (f : Int)) (f1 : (f : Int) ≤ (m : Int)) (m24 : (m : Int) ≤ 24) (mo0 : (0 : Int) ≤ (mo : Int)) (mo24 : (mo : Int) ≤ 24)
    (H9 : Hid (Sep w [EnT (.slice ta mo tc) os, PipeT g B ps, DocT g' B qs, Cl b5 #[.int .i64 x0, .int .i64 x1, .int .i64 x2] 43] w8)) {K : Act → World → Prop}
    (hK : ∀ a w', Code.wp Tryd.prog tailRest18 (bodyPost Tryd.prog Tryd.f4 fun e w' => e = .returned (.bool true) ∧ Below w.heap.size w w') a w' → K a w') (u1 u2 u3 u4 u6 u8 u10 u11 u12 u13 u14 u15 u16 u19 u20 u22 u23 u24 u25 u26 u27 u28 u29 u30 u31 u32 u33 u34 u35 u36 u37 u38 u39 u40 u41 u42 u43 u44 u45 u46 u47 u48 u49 u50 u51 u52 u53 u54 u55 u56 u57 u58 u59 u60 u61 u62 u63 u64 u65 u66 u67 u68 u69 u70 u71 u72 u73 u74 u75 u76 u77 u78 u79 u80 u81 u82 u83 u84 u85 u86 u87 u88 u89 u90 u91 u92 u93 u94 u95 u96 u97 u98 u99 u100 u101 u102 u103 u104 u105 u106 u107 u108 u109 u110 u111 u112 u113 u114 u115 u116 u117 u118 u119 u120 u121 u122 u123 u124 u125 u126 u127 u128 u129 u130 u131 u132 u133 u134 u135 u136 u137 u138 u139 u140 u141 u142 u143 u144 u145 u146 u147 u148 u149 u150 u151 u152 u153 u154 u155 u156 u157 u158 u159 u160 u161 u162 u163 u164 u165 u166 u167 u168 u169 u170 u171 u172 u173 u174 u175 u176 u177 u178 : Value) :
    Code.wp Tryd.prog (.loop tailLoop18) (Exit.inBlock 2 (Exit.then K (bodyPost Tryd.prog Tryd.f4 fun e w' => e = .returned (.bool true) ∧ Below w.heap.size w w'))) ⟨List.toArray (.int .i64 B :: u1 :: u2 :: u3 :: u4 :: .pointer (some ⟨b5, 0, none⟩) :: u6 :: .pointer (some ⟨g, 0, none⟩) :: u8 :: .pointer (some ⟨g', 0, none⟩) :: u10 :: u11 :: u12 :: u13 :: u14 :: u15 :: u16 :: .int .i64 (f : Int) :: .slice ta mo tc :: u19 :: u20 :: .int .i64 (-2) :: u22 :: u23 :: u24 :: u25 :: u26 :: u27 :: u28 :: u29 :: u30 :: u31 :: u32 :: u33 :: u34 :: u35 :: u36 :: u37 :: u38 :: u39 :: u40 :: u41 :: u42 :: u43 :: u44 :: u45 :: u46 :: u47 :: u48 :: u49 :: u50 :: u51 :: u52 :: u53 :: u54 :: u55 :: u56 :: u57 :: u58 :: u59 :: u60 :: u61 :: u62 :: u63 :: u64 :: u65 :: u66 :: u67 :: u68 :: u69 :: u70 :: u71 :: u72 :: u73 :: u74 :: u75 :: u76 :: u77 :: u78 :: u79 :: u80 :: u81 :: u82 :: u83 :: u84 :: u85 :: u86 :: u87 :: u88 :: u89 :: u90 :: u91 :: u92 :: u93 :: u94 :: u95 :: u96 :: u97 :: u98 :: u99 :: u100 :: u101 :: u102 :: u103 :: u104 :: u105 :: u106 :: u107 :: u108 :: u109 :: u110 :: u111 :: u112 :: u113 :: u114 :: u115 :: u116 :: u117 :: u118 :: u119 :: u120 :: u121 :: u122 :: u123 :: u124 :: u125 :: u126 :: u127 :: u128 :: u129 :: u130 :: u131 :: u132 :: u133 :: u134 :: u135 :: u136 :: u137 :: u138 :: u139 :: u140 :: u141 :: u142 :: u143 :: u144 :: u145 :: u146 :: u147 :: u148 :: u149 :: u150 :: u151 :: u152 :: u153 :: u154 :: u155 :: u156 :: u157 :: u158 :: u159 :: u160 :: u161 :: u162 :: u163 :: u164 :: u165 :: u166 :: u167 :: u168 :: u169 :: u170 :: u171 :: u172 :: u173 :: u174 :: u175 :: u176 :: u177 :: u178 :: []), []⟩ w8 := by
  conv => arg 2; whnf
  conv =>
    arg 2; arg 1; whnf
  conv at hK =>
    ext a w'; arg 1; arg 2; whnf
  go_loopw [21] (fun i wr => ∃ k2 : Nat, k2 ≤ 5 ∧ i = .int .i64 ((k2 : Int) - 2) ∧ Sep w [EnT (.slice ta mo tc) os, PipeT g B ps, DocT g' B qs, Cl b5 #[.int .i64 x0, .int .i64 x1, .int .i64 x2] 43] wr) (fun i _ => (10 - intOf i).toNat)
  case atStart => exact ⟨0, by omega, rfl, H9.out⟩
  case round =>
    obtain ⟨k2, hk2, rfl, hs2⟩ := hrel
    clear H9
    by_cases hk5 : k2 < 5
    · have dk : decide ((k2 : Int) - 2 < 3) = true := decide_eq_true (by omega)
      obtain ⟨c0, c1, c2⟩ := cells3 (hs2.pick [3] rfl : Sep w [Cl b5 #[.int .i64 x0, .int .i64 x1, .int .i64 x2] 43] _)
      have wmo : IntKind.i64.wrap ((mo : Int) + 1) = (mo : Int) + 1 := IntWalk.i64_in _ (by omega)
      have HX2 := Lib.hid (fun wx => bring_any x2 ((mo : Int) + 1) wx (by unfold Sm; omega))
      obtain ⟨nn, hnn, hnm⟩ : ∃ r : Nat, x2 % ((mo : Int) + 1) = (r : Int) ∧ r ≤ mo := ⟨(x2 % ((mo : Int) + 1)).toNat, by have := Int.emod_nonneg x2 (show (mo : Int) + 1 ≠ 0 by omega); omega, by have := Int.emod_lt_of_pos x2 (show (0 : Int) < (mo : Int) + 1 by omega); have := Int.emod_nonneg x2 (show (mo : Int) + 1 ≠ 0 by omega); omega⟩
      rw [hnn] at HX2
      obtain ⟨Q, hQ⟩ : ∃ Q : Int, Q = B + (f : Int) + ((k2 : Int) - 2) := ⟨_, rfl⟩
      have wq1 : IntKind.i64.wrap (B + (f : Int)) = B + (f : Int) := IntWalk.i64_in _ (by have := HB.out; omega)
      have wq2 : IntKind.i64.wrap (B + (f : Int) + ((k2 : Int) - 2)) = Q := by rw [hQ]; exact IntWalk.i64_in _ (by have := HB.out; omega)
      have wi : IntKind.i64.wrap ((k2 : Int) - 2 + 1) = (k2 : Int) - 2 + 1 := IntWalk.i64_in _ (by omega)
      obtain ⟨hqa, hqb⟩ := headQ hs2
      have t0 : (0 : Int) ≤ (nn : Int) := by omega
      have t1 : (nn : Int) ≤ (tc : Int) := by
        obtain ⟨a', c', he, h1, -⟩ := hs2.enForm
        simp only [Value.slice.injEq] at he
        have := HLO.out.1
        omega
      have hag := agree_any Q ta tc mo os (hs2.drew.pick [1, 0, 2, 3] rfl : Sep w [PipeT g B ps, EnT (.slice ta mo tc) os, DocT g' B qs, Cl b5 #[.int .i64 x0, .int .i64 x1, .int .i64 x2] 43] _) (fun wx hx => hx.enS) HLO.out.1 HB.out.1 (by have := HB.out; omega) (by rw [HKA.out.lp]; omega)
      rw [HKA.out.ep] at hag
      have HA1 := Lib.hid hag
      have HK2 := Lib.hid (And.intro hk5 hnm)
      clear hs2 hag hQ hnn hk2 hk5
      go_wp2_with fail
      refine (HX2.out _).mono ?_
      rintro r0 w30 ⟨rfl, rfl⟩
      clear HX2 c0 c1 c2
      go_wp2_with fail
      refine wp_region_G (fun _ => True) [] (by kernel_rfl) trivial (fun hS => ?_)
      try dsimp only at hS
      refine wpAnyG_take' (i := 0) (v := ?v0_1ag) rfl (by kernel_rfl) (by kernel_rfl) (by kernel_rfl) (by kernel_rfl) (fun _ _ _ h => h) (Or.inl ⟨by rfl, ?hy0_1ag⟩) trivial ?rest0_1ag
      case hy0_1ag => intro w hSw; (try dsimp only at hSw); go_simp; (try with_reducible rfl)
      case rest0_1ag =>
      try simp only [List.getElem_toArray, List.getElem_cons_succ, List.getElem_cons_zero, Act.put, List.setIfInBounds_toArray, List.set_cons_zero, List.set_cons_succ]
      refine wpAnyG_take' (i := 1) (v := ?v1_2ag) rfl (by kernel_rfl) (by kernel_rfl) (by kernel_rfl) (by kernel_rfl) (fun _ _ _ h => h) (Or.inl ⟨by rfl, ?hy1_2ag⟩) trivial ?rest1_2ag
      case hy1_2ag => intro w hSw; (try dsimp only at hSw); go_simp; (try with_reducible rfl)
      case rest1_2ag =>
      try simp only [List.getElem_toArray, List.getElem_cons_succ, List.getElem_cons_zero, Act.put, List.setIfInBounds_toArray, List.set_cons_zero, List.set_cons_succ]
      refine wpAnyG_take' (i := 2) (v := ?v2_3ag) rfl (by kernel_rfl) (by kernel_rfl) (by kernel_rfl) (by kernel_rfl) (fun _ _ _ h => h) (Or.inl ⟨by rfl, ?hy2_3ag⟩) trivial ?rest2_3ag
      case hy2_3ag => intro w hSw; (try dsimp only at hSw); go_simp; (try with_reducible rfl)
      case rest2_3ag =>
      try simp only [List.getElem_toArray, List.getElem_cons_succ, List.getElem_cons_zero, Act.put, List.setIfInBounds_toArray, List.set_cons_zero, List.set_cons_succ]
      refine wpAnyG_take' (i := 3) (v := ?v3_4ag) rfl (by kernel_rfl) (by kernel_rfl) (by kernel_rfl) (by kernel_rfl) (fun _ _ _ h => h) (Or.inl ⟨by rfl, ?hy3_4ag⟩) trivial ?rest3_4ag
      case hy3_4ag => intro w hSw; (try dsimp only at hSw); go_simp; (try with_reducible rfl)
      case rest3_4ag =>
      try simp only [List.getElem_toArray, List.getElem_cons_succ, List.getElem_cons_zero, Act.put, List.setIfInBounds_toArray, List.set_cons_zero, List.set_cons_succ]
      refine wpAnyG_take' (i := 4) (v := ?v4_5ag) rfl (by kernel_rfl) (by kernel_rfl) (by kernel_rfl) (by kernel_rfl) (fun _ _ _ h => h) (Or.inl ⟨by rfl, ?hy4_5ag⟩) trivial ?rest4_5ag
      case hy4_5ag => intro w hSw; (try dsimp only at hSw); go_simp; (try with_reducible rfl)
      case rest4_5ag =>
      try simp only [List.getElem_toArray, List.getElem_cons_succ, List.getElem_cons_zero, Act.put, List.setIfInBounds_toArray, List.set_cons_zero, List.set_cons_succ]
      refine wpAnyG_take' (i := 5) (v := ?v5_6ag) rfl (by kernel_rfl) (by kernel_rfl) (by kernel_rfl) (by kernel_rfl) (fun _ _ _ h => h) (Or.inl ⟨by rfl, ?hy5_6ag⟩) trivial ?rest5_6ag
      case hy5_6ag => intro w hSw; (try dsimp only at hSw); go_simp; (try with_reducible rfl)
      case rest5_6ag =>
      try simp only [List.getElem_toArray, List.getElem_cons_succ, List.getElem_cons_zero, Act.put, List.setIfInBounds_toArray, List.set_cons_zero, List.set_cons_succ]
      refine wpAnyG_take' (i := 6) (v := ?v6_7ag) rfl (by kernel_rfl) (by kernel_rfl) (by kernel_rfl) (by kernel_rfl) (fun _ _ _ h => h) (Or.inl ⟨by rfl, ?hy6_7ag⟩) trivial ?rest6_7ag
      case hy6_7ag => intro w hSw; (try dsimp only at hSw); go_simp; (try with_reducible rfl)
      case rest6_7ag =>
      try simp only [List.getElem_toArray, List.getElem_cons_succ, List.getElem_cons_zero, Act.put, List.setIfInBounds_toArray, List.set_cons_zero, List.set_cons_succ]
      refine wpAnyG_take' (i := 8) (v := ?v8_8ag) rfl (by kernel_rfl) (by kernel_rfl) (by kernel_rfl) (by kernel_rfl) (fun _ _ _ h => h) (Or.inl ⟨by rfl, ?hy8_8ag⟩) trivial ?rest8_8ag
      case hy8_8ag => intro w hSw; (try dsimp only at hSw); go_simp; (try with_reducible rfl)
      case rest8_8ag =>
      try simp only [List.getElem_toArray, List.getElem_cons_succ, List.getElem_cons_zero, Act.put, List.setIfInBounds_toArray, List.set_cons_zero, List.set_cons_succ]
      refine wpAnyG_take' (i := 9) (v := ?v9_9ag) rfl (by kernel_rfl) (by kernel_rfl) (by kernel_rfl) (by kernel_rfl) (fun _ _ _ h => h) (Or.inl ⟨by rfl, ?hy9_9ag⟩) trivial ?rest9_9ag
      case hy9_9ag => intro w hSw; (try dsimp only at hSw); go_simp; (try with_reducible rfl)
      case rest9_9ag =>
      try simp only [List.getElem_toArray, List.getElem_cons_succ, List.getElem_cons_zero, Act.put, List.setIfInBounds_toArray, List.set_cons_zero, List.set_cons_succ]
      refine wpAnyG_take' (i := 10) (v := ?v10_10ag) rfl (by kernel_rfl) (by kernel_rfl) (by kernel_rfl) (by kernel_rfl) (fun _ _ _ h => h) (Or.inl ⟨by rfl, ?hy10_10ag⟩) trivial ?rest10_10ag
      case hy10_10ag => intro w hSw; (try dsimp only at hSw); go_simp; (try with_reducible rfl)
      case rest10_10ag =>
      try simp only [List.getElem_toArray, List.getElem_cons_succ, List.getElem_cons_zero, Act.put, List.setIfInBounds_toArray, List.set_cons_zero, List.set_cons_succ]
      refine wpAnyG_take' (i := 11) (v := ?v11_11ag) rfl (by kernel_rfl) (by kernel_rfl) (by kernel_rfl) (by kernel_rfl) (fun _ _ _ h => h) (Or.inl ⟨by rfl, ?hy11_11ag⟩) trivial ?rest11_11ag
      case hy11_11ag => intro w hSw; (try dsimp only at hSw); go_simp; (try with_reducible rfl)
      case rest11_11ag =>
      try simp only [List.getElem_toArray, List.getElem_cons_succ, List.getElem_cons_zero, Act.put, List.setIfInBounds_toArray, List.set_cons_zero, List.set_cons_succ]
      refine wpAnyG_take' (i := 12) (v := ?v12_12ag) rfl (by kernel_rfl) (by kernel_rfl) (by kernel_rfl) (by kernel_rfl) (fun _ _ _ h => h) (Or.inl ⟨by rfl, ?hy12_12ag⟩) trivial ?rest12_12ag
      case hy12_12ag => intro w hSw; (try dsimp only at hSw); go_simp; (try with_reducible rfl)
      case rest12_12ag =>
      try simp only [List.getElem_toArray, List.getElem_cons_succ, List.getElem_cons_zero, Act.put, List.setIfInBounds_toArray, List.set_cons_zero, List.set_cons_succ]
      refine wpAnyG_take' (i := 13) (v := ?v13_13ag) rfl (by kernel_rfl) (by kernel_rfl) (by kernel_rfl) (by kernel_rfl) (fun _ _ _ h => h) (Or.inl ⟨by rfl, ?hy13_13ag⟩) trivial ?rest13_13ag
      case hy13_13ag => intro w hSw; (try dsimp only at hSw); go_simp; (try with_reducible rfl)
      case rest13_13ag =>
      try simp only [List.getElem_toArray, List.getElem_cons_succ, List.getElem_cons_zero, Act.put, List.setIfInBounds_toArray, List.set_cons_zero, List.set_cons_succ]
      refine wpAnyG_take' (i := 14) (v := ?v14_14ag) rfl (by kernel_rfl) (by kernel_rfl) (by kernel_rfl) (by kernel_rfl) (fun _ _ _ h => h) (Or.inl ⟨by rfl, ?hy14_14ag⟩) trivial ?rest14_14ag
      case hy14_14ag => intro w hSw; (try dsimp only at hSw); go_simp; (try with_reducible rfl)
      case rest14_14ag =>
      try simp only [List.getElem_toArray, List.getElem_cons_succ, List.getElem_cons_zero, Act.put, List.setIfInBounds_toArray, List.set_cons_zero, List.set_cons_succ]
      refine wpAnyG_one (i := 7) (by kernel_rfl) rfl (fun K hK => ?_)
      go_simp
      refine Calls.mono HA1.out ?_
      rintro r7 w47 ⟨rfl, h7⟩
      clear HA1
      have hag := ragree_any Q ta tc mo os (h7.pick [2, 1, 0, 3] rfl : Sep w [DocT g' B qs, EnT (.slice ta mo tc) os, PipeT g B ps, Cl b5 #[.int .i64 x0, .int .i64 x1, .int .i64 x2] 43] _) (fun wx hx => hx.enS) HLO.out.1 HB.out.1 (by have := HB.out; omega) (by rw [HKA.out.lq]; omega)
      rw [HKA.out.eq] at hag
      generalize agrV B (List.map (fun x => x.1) ows) Q (List.map (fun x => x.1) os) = R1 at *
      have HA2 := Lib.hid hag
      clear hag
      clear h7
      go_wp2_with fail
      refine hK.out _ _ (fun _ => ?hS15ag) ?rest15ag
      case hS15ag => exact trivial
      clear K hK
      try simp only [List.getElem_toArray, List.getElem_cons_succ, List.getElem_cons_zero, Act.put, List.setIfInBounds_toArray, List.set_cons_zero, List.set_cons_succ]
      refine wpAnyG_one (i := 15) (by kernel_rfl) rfl (fun K hK => ?_)
      go_simp
      refine Calls.mono HA2.out ?_
      rintro r15 w55 ⟨rfl, h8⟩
      clear HA2
      have hag := agree_any Q ta tc nn (os.take nn) (h8.pick [2, 1, 0, 3] rfl : Sep w [PipeT g B ps, EnT (.slice ta mo tc) os, DocT g' B qs, Cl b5 #[.int .i64 x0, .int .i64 x1, .int .i64 x2] 43] _) (fun wx hx => (hx.enTake nn HK2.out.2 HLO.out.1).enS) (by rw [List.length_take, HLO.out.1]; have := HK2.out.2; omega) HB.out.1 (by have := HB.out; omega) (by rw [HKA.out.lp]; omega)
      rw [HKA.out.ep] at hag
      have HA3 := Lib.hid hag
      clear hag
      clear h8
      go_wp2_with fail
      refine hK.out _ _ (fun _ => ?hS16ag) ?rest16ag
      case hS16ag => exact trivial
      clear K hK
      try simp only [List.getElem_toArray, List.getElem_cons_succ, List.getElem_cons_zero, Act.put, List.setIfInBounds_toArray, List.set_cons_zero, List.set_cons_succ]
      refine wpAnyG_take' (i := 16) (v := ?v16_17ag) rfl (by kernel_rfl) (by kernel_rfl) (by kernel_rfl) (by kernel_rfl) (fun _ _ _ h => h) (Or.inl ⟨by rfl, ?hy16_17ag⟩) trivial ?rest16_17ag
      case hy16_17ag => intro w hSw; (try dsimp only at hSw); go_simp; (try with_reducible rfl)
      case rest16_17ag =>
      try simp only [List.getElem_toArray, List.getElem_cons_succ, List.getElem_cons_zero, Act.put, List.setIfInBounds_toArray, List.set_cons_zero, List.set_cons_succ]
      refine wpAnyG_take' (i := 17) (v := ?v17_18ag) rfl (by kernel_rfl) (by kernel_rfl) (by kernel_rfl) (by kernel_rfl) (fun _ _ _ h => h) (Or.inl ⟨by rfl, ?hy17_18ag⟩) trivial ?rest17_18ag
      case hy17_18ag => intro w hSw; (try dsimp only at hSw); go_simp; (try with_reducible rfl)
      case rest17_18ag =>
      try simp only [List.getElem_toArray, List.getElem_cons_succ, List.getElem_cons_zero, Act.put, List.setIfInBounds_toArray, List.set_cons_zero, List.set_cons_succ]
      refine wpAnyG_take' (i := 18) (v := ?v18_19ag) rfl (by kernel_rfl) (by kernel_rfl) (by kernel_rfl) (by kernel_rfl) (fun _ _ _ h => h) (Or.inl ⟨by rfl, ?hy18_19ag⟩) trivial ?rest18_19ag
      case hy18_19ag => intro w hSw; (try dsimp only at hSw); go_simp; (try with_reducible rfl)
      case rest18_19ag =>
      try simp only [List.getElem_toArray, List.getElem_cons_succ, List.getElem_cons_zero, Act.put, List.setIfInBounds_toArray, List.set_cons_zero, List.set_cons_succ]
      refine wpAnyG_take' (i := 19) (v := ?v19_20ag) rfl (by kernel_rfl) (by kernel_rfl) (by kernel_rfl) (by kernel_rfl) (fun _ _ _ h => h) (Or.inl ⟨by rfl, ?hy19_20ag⟩) trivial ?rest19_20ag
      case hy19_20ag => intro w hSw; (try dsimp only at hSw); go_simp; (try with_reducible rfl)
      case rest19_20ag =>
      try simp only [List.getElem_toArray, List.getElem_cons_succ, List.getElem_cons_zero, Act.put, List.setIfInBounds_toArray, List.set_cons_zero, List.set_cons_succ]
      refine wpAnyG_take' (i := 20) (v := ?v20_21ag) rfl (by kernel_rfl) (by kernel_rfl) (by kernel_rfl) (by kernel_rfl) (fun _ _ _ h => h) (Or.inl ⟨by rfl, ?hy20_21ag⟩) trivial ?rest20_21ag
      case hy20_21ag => intro w hSw; (try dsimp only at hSw); go_simp; (try with_reducible rfl)
      case rest20_21ag =>
      try simp only [List.getElem_toArray, List.getElem_cons_succ, List.getElem_cons_zero, Act.put, List.setIfInBounds_toArray, List.set_cons_zero, List.set_cons_succ]
      refine wpAnyG_take' (i := 21) (v := ?v21_22ag) rfl (by kernel_rfl) (by kernel_rfl) (by kernel_rfl) (by kernel_rfl) (fun _ _ _ h => h) (Or.inl ⟨by rfl, ?hy21_22ag⟩) trivial ?rest21_22ag
      case hy21_22ag => intro w hSw; (try dsimp only at hSw); go_simp; (try with_reducible rfl)
      case rest21_22ag =>
      try simp only [List.getElem_toArray, List.getElem_cons_succ, List.getElem_cons_zero, Act.put, List.setIfInBounds_toArray, List.set_cons_zero, List.set_cons_succ]
      refine wpAnyG_take' (i := 22) (v := ?v22_23ag) rfl (by kernel_rfl) (by kernel_rfl) (by kernel_rfl) (by kernel_rfl) (fun _ _ _ h => h) (Or.inl ⟨by rfl, ?hy22_23ag⟩) trivial ?rest22_23ag
      case hy22_23ag => intro w hSw; (try dsimp only at hSw); go_simp; (try with_reducible rfl)
      case rest22_23ag =>
      try simp only [List.getElem_toArray, List.getElem_cons_succ, List.getElem_cons_zero, Act.put, List.setIfInBounds_toArray, List.set_cons_zero, List.set_cons_succ]
      refine wpAnyG_take' (i := 23) (v := ?v23_24ag) rfl (by kernel_rfl) (by kernel_rfl) (by kernel_rfl) (by kernel_rfl) (fun _ _ _ h => h) (Or.inl ⟨by rfl, ?hy23_24ag⟩) trivial ?rest23_24ag
      case hy23_24ag => intro w hSw; (try dsimp only at hSw); go_simp; (try with_reducible rfl)
      case rest23_24ag =>
      try simp only [List.getElem_toArray, List.getElem_cons_succ, List.getElem_cons_zero, Act.put, List.setIfInBounds_toArray, List.set_cons_zero, List.set_cons_succ]
      refine wpAnyG_take' (i := 24) (v := ?v24_25ag) rfl (by kernel_rfl) (by kernel_rfl) (by kernel_rfl) (by kernel_rfl) (fun _ _ _ h => h) (Or.inl ⟨by rfl, ?hy24_25ag⟩) trivial ?rest24_25ag
      case hy24_25ag => intro w hSw; (try dsimp only at hSw); go_simp; (try with_reducible rfl)
      case rest24_25ag =>
      try simp only [List.getElem_toArray, List.getElem_cons_succ, List.getElem_cons_zero, Act.put, List.setIfInBounds_toArray, List.set_cons_zero, List.set_cons_succ]
      refine wpAnyG_take' (i := 25) (v := ?v25_26ag) rfl (by kernel_rfl) (by kernel_rfl) (by kernel_rfl) (by kernel_rfl) (fun _ _ _ h => h) (Or.inl ⟨by rfl, ?hy25_26ag⟩) trivial ?rest25_26ag
      case hy25_26ag => intro w hSw; (try dsimp only at hSw); go_simp; (try with_reducible rfl)
      case rest25_26ag =>
      try simp only [List.getElem_toArray, List.getElem_cons_succ, List.getElem_cons_zero, Act.put, List.setIfInBounds_toArray, List.set_cons_zero, List.set_cons_succ]
      refine wpAnyG_take' (i := 26) (v := ?v26_27ag) rfl (by kernel_rfl) (by kernel_rfl) (by kernel_rfl) (by kernel_rfl) (fun _ _ _ h => h) (Or.inl ⟨by rfl, ?hy26_27ag⟩) trivial ?rest26_27ag
      case hy26_27ag => intro w hSw; (try dsimp only at hSw); go_simp; (try with_reducible rfl)
      case rest26_27ag =>
      try simp only [List.getElem_toArray, List.getElem_cons_succ, List.getElem_cons_zero, Act.put, List.setIfInBounds_toArray, List.set_cons_zero, List.set_cons_succ]
      refine wpAnyG_take' (i := 28) (v := ?v28_28ag) rfl (by kernel_rfl) (by kernel_rfl) (by kernel_rfl) (by kernel_rfl) (fun _ _ _ h => h) (Or.inl ⟨by rfl, ?hy28_28ag⟩) trivial ?rest28_28ag
      case hy28_28ag => intro w hSw; (try dsimp only at hSw); go_simp; (try with_reducible rfl)
      case rest28_28ag =>
      try simp only [List.getElem_toArray, List.getElem_cons_succ, List.getElem_cons_zero, Act.put, List.setIfInBounds_toArray, List.set_cons_zero, List.set_cons_succ]
      refine wpAnyG_take' (i := 29) (v := ?v29_29ag) rfl (by kernel_rfl) (by kernel_rfl) (by kernel_rfl) (by kernel_rfl) (fun _ _ _ h => h) (Or.inl ⟨by rfl, ?hy29_29ag⟩) trivial ?rest29_29ag
      case hy29_29ag => intro w hSw; (try dsimp only at hSw); go_simp; (try with_reducible rfl)
      case rest29_29ag =>
      try simp only [List.getElem_toArray, List.getElem_cons_succ, List.getElem_cons_zero, Act.put, List.setIfInBounds_toArray, List.set_cons_zero, List.set_cons_succ]
      refine wpAnyG_take' (i := 30) (v := ?v30_30ag) rfl (by kernel_rfl) (by kernel_rfl) (by kernel_rfl) (by kernel_rfl) (fun _ _ _ h => h) (Or.inl ⟨by rfl, ?hy30_30ag⟩) trivial ?rest30_30ag
      case hy30_30ag => intro w hSw; (try dsimp only at hSw); go_simp; (try with_reducible rfl)
      case rest30_30ag =>
      try simp only [List.getElem_toArray, List.getElem_cons_succ, List.getElem_cons_zero, Act.put, List.setIfInBounds_toArray, List.set_cons_zero, List.set_cons_succ]
      refine wpAnyG_take' (i := 31) (v := ?v31_31ag) rfl (by kernel_rfl) (by kernel_rfl) (by kernel_rfl) (by kernel_rfl) (fun _ _ _ h => h) (Or.inl ⟨by rfl, ?hy31_31ag⟩) trivial ?rest31_31ag
      case hy31_31ag => intro w hSw; (try dsimp only at hSw); go_simp; (try with_reducible rfl)
      case rest31_31ag =>
      try simp only [List.getElem_toArray, List.getElem_cons_succ, List.getElem_cons_zero, Act.put, List.setIfInBounds_toArray, List.set_cons_zero, List.set_cons_succ]
      refine wpAnyG_take' (i := 32) (v := ?v32_32ag) rfl (by kernel_rfl) (by kernel_rfl) (by kernel_rfl) (by kernel_rfl) (fun _ _ _ h => h) (Or.inl ⟨by rfl, ?hy32_32ag⟩) trivial ?rest32_32ag
      case hy32_32ag => intro w hSw; (try dsimp only at hSw); go_simp; (try with_reducible rfl)
      case rest32_32ag =>
      try simp only [List.getElem_toArray, List.getElem_cons_succ, List.getElem_cons_zero, Act.put, List.setIfInBounds_toArray, List.set_cons_zero, List.set_cons_succ]
      refine wpAnyG_take' (i := 33) (v := ?v33_33ag) rfl (by kernel_rfl) (by kernel_rfl) (by kernel_rfl) (by kernel_rfl) (fun _ _ _ h => h) (Or.inl ⟨by rfl, ?hy33_33ag⟩) trivial ?rest33_33ag
      case hy33_33ag => intro w hSw; (try dsimp only at hSw); go_simp; (try with_reducible rfl)
      case rest33_33ag =>
      try simp only [List.getElem_toArray, List.getElem_cons_succ, List.getElem_cons_zero, Act.put, List.setIfInBounds_toArray, List.set_cons_zero, List.set_cons_succ]
      refine wpAnyG_take' (i := 34) (v := ?v34_34ag) rfl (by kernel_rfl) (by kernel_rfl) (by kernel_rfl) (by kernel_rfl) (fun _ _ _ h => h) (Or.inl ⟨by rfl, ?hy34_34ag⟩) trivial ?rest34_34ag
      case hy34_34ag => intro w hSw; (try dsimp only at hSw); go_simp; (try with_reducible rfl)
      case rest34_34ag =>
      try simp only [List.getElem_toArray, List.getElem_cons_succ, List.getElem_cons_zero, Act.put, List.setIfInBounds_toArray, List.set_cons_zero, List.set_cons_succ]
      refine wpAnyG_take' (i := 35) (v := ?v35_35ag) rfl (by kernel_rfl) (by kernel_rfl) (by kernel_rfl) (by kernel_rfl) (fun _ _ _ h => h) (Or.inl ⟨by rfl, ?hy35_35ag⟩) trivial ?rest35_35ag
      case hy35_35ag => intro w hSw; (try dsimp only at hSw); go_simp; (try with_reducible rfl)
      case rest35_35ag =>
      try simp only [List.getElem_toArray, List.getElem_cons_succ, List.getElem_cons_zero, Act.put, List.setIfInBounds_toArray, List.set_cons_zero, List.set_cons_succ]
      refine wpAnyG_take' (i := 36) (v := ?v36_36ag) rfl (by kernel_rfl) (by kernel_rfl) (by kernel_rfl) (by kernel_rfl) (fun _ _ _ h => h) (Or.inl ⟨by rfl, ?hy36_36ag⟩) trivial ?rest36_36ag
      case hy36_36ag => intro w hSw; (try dsimp only at hSw); go_simp; (try with_reducible rfl)
      case rest36_36ag =>
      try simp only [List.getElem_toArray, List.getElem_cons_succ, List.getElem_cons_zero, Act.put, List.setIfInBounds_toArray, List.set_cons_zero, List.set_cons_succ]
      refine wpAnyG_one (i := 27) (by kernel_rfl) rfl (fun K hK => ?_)
      go_simp
      refine Calls.mono HA3.out ?_
      rintro r27 w67 ⟨rfl, h9⟩
      clear HA3
      have hag := ragree_any Q ta tc nn (os.take nn) (h9.pick [2, 1, 0, 3] rfl : Sep w [DocT g' B qs, EnT (.slice ta mo tc) os, PipeT g B ps, Cl b5 #[.int .i64 x0, .int .i64 x1, .int .i64 x2] 43] _) (fun wx hx => (hx.enTake nn HK2.out.2 HLO.out.1).enS) (by rw [List.length_take, HLO.out.1]; have := HK2.out.2; omega) HB.out.1 (by have := HB.out; omega) (by rw [HKA.out.lq]; omega)
      rw [HKA.out.eq] at hag
      generalize agrV B (List.map (fun x => x.1) ows) Q (List.map (fun x => x.1) (List.take nn os)) = R2 at *
      have HA4 := Lib.hid hag
      clear hag
      clear h9
      go_wp2_with fail
      refine hK.out _ _ (fun _ => ?hS37ag) ?rest37ag
      case hS37ag => exact trivial
      clear K hK
      try simp only [List.getElem_toArray, List.getElem_cons_succ, List.getElem_cons_zero, Act.put, List.setIfInBounds_toArray, List.set_cons_zero, List.set_cons_succ]
      refine wpAnyG_one (i := 37) (by kernel_rfl) rfl (fun K hK => ?_)
      go_simp
      refine Calls.mono HA4.out ?_
      rintro r37 w77 ⟨rfl, h10⟩
      clear HA4
      have H10 : Hid (Sep w [EnT (.slice ta mo tc) os, PipeT g B ps, DocT g' B qs, Cl b5 #[.int .i64 x0, .int .i64 x1, .int .i64 x2] 43] _) := Lib.hid (h10.pick [1, 2, 0, 3] rfl)
      clear h10
      go_wp2_with fail
      refine hK.out _ _ (fun _ => ?hS38ag) ?rest38ag
      case hS38ag => exact trivial
      clear K hK
      try simp only [List.getElem_toArray, List.getElem_cons_succ, List.getElem_cons_zero, Act.put, List.setIfInBounds_toArray, List.set_cons_zero, List.set_cons_succ]
      refine wpAnyG_take' (i := 38) (v := ?v38_39ag) rfl (by kernel_rfl) (by kernel_rfl) (by kernel_rfl) (by kernel_rfl) (fun _ _ _ h => h) (Or.inl ⟨by rfl, ?hy38_39ag⟩) trivial ?rest38_39ag
      case hy38_39ag => intro w hSw; (try dsimp only at hSw); go_simp; (try with_reducible rfl)
      case rest38_39ag =>
      try simp only [List.getElem_toArray, List.getElem_cons_succ, List.getElem_cons_zero, Act.put, List.setIfInBounds_toArray, List.set_cons_zero, List.set_cons_succ]
      refine wpAnyG_take' (i := 39) (v := ?v39_40ag) rfl (by kernel_rfl) (by kernel_rfl) (by kernel_rfl) (by kernel_rfl) (fun _ _ _ h => h) (Or.inl ⟨by rfl, ?hy39_40ag⟩) trivial ?rest39_40ag
      case hy39_40ag => intro w hSw; (try dsimp only at hSw); go_simp; (try with_reducible rfl)
      case rest39_40ag =>
      try simp only [List.getElem_toArray, List.getElem_cons_succ, List.getElem_cons_zero, Act.put, List.setIfInBounds_toArray, List.set_cons_zero, List.set_cons_succ]
      refine wpAnyG_done (by kernel_rfl) ?_ _
      try simp only [List.getElem_toArray, List.getElem_cons_succ, List.getElem_cons_zero, Act.put, List.setIfInBounds_toArray, List.set_cons_zero, List.set_cons_succ]
      go_wp2_with fail
      go_roundw
      case rel => exact ⟨k2 + 1, HK2.out.1, by rw [show (((k2 + 1 : Nat) : Int) - 2) = (k2 : Int) - 2 + 1 by omega], H10.out⟩
      case measure => have := HK2.out.1; simp [intOf]; omega
    · have dk : decide ((k2 : Int) - 2 < 3) = false := decide_eq_false (by omega)
      have HSM := Lib.hid (same12 (hs2.pick [1, 2] rfl : Sep w [PipeT g B ps, DocT g' B qs] _) (by rw [HKA.out.ep, HKA.out.eq]) HB.out.1 (by have := HB.out; omega) (by rw [HKA.out.lp]; omega) HKA.out.lp_)
      clear hs2 hk2 hk5
      go_wp2_with fail
      refine HSM.out.mono ?_
      rintro r0 w31 ⟨rfl, h3⟩
      have HW := Lib.hid (works12_any h3 (HK.out.below h3.low))
      clear HSM h3
      go_wp2_with fail
      refine HW.out.mono ?_
      rintro r0 w32 ⟨rfl, h4⟩
      have HE := Lib.hid h4.low
      clear HW h4
      go_wp2_with fail
      go_ret
      exact ⟨rfl, HE.out⟩
end Go.Proofs.YtpknfeokfladkaaDoor
