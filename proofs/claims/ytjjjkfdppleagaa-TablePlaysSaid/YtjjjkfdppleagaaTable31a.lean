/- TablePlays: the tail of a round. -/
import Derived.Test.YtjjjkfdppleagaaTable30
import Derived.Test.YtjjjkfdppleagaaIntsI
namespace Go.Proofs.Ytjjjkfdppleagaa
open Go Go.RowKit
set_option linter.unusedVariables false
set_option linter.unusedSimpArgs false
/-- All pairs about a ';' in a piece of code. -/
def seqPairs : Code → List (Code × Code)
  | .seq a b => (a, b) :: (seqPairs a ++ seqPairs b)
  | .block _ c => seqPairs c
  | .loop c => seqPairs c
  | .scope c => seqPairs c
  | .cond _ a b => seqPairs a ++ seqPairs b
  | _ => []
def isReg (k : Nat) : Code → Bool
  | .region id _ _ => id == k
  | _ => false
def isRegSeq (k : Nat) : Code → Bool
  | .seq (.region id _ _) _ => id == k
  | _ => false
noncomputable def reg26 : Code := ((Try.f3.body.bind fun c => (seqPairs c).find? fun p => isReg 26 p.1).getD (.skip, .skip)).1
noncomputable def cond26 : Code := ((Try.f3.body.bind fun c => (seqPairs c).find? fun p => isReg 26 p.1).getD (.skip, .skip)).2
noncomputable def rest28 : Code := ((Try.f3.body.bind fun c => (seqPairs c).find? fun p => isRegSeq 26 p.1).getD (.skip, .skip)).2
set_option maxRecDepth 100000 in
set_option maxHeartbeats 0 in
theorem tail26 {w wL : World} {t m nF cL cM : Nat} {aL aM : Option Addr} {TT : List SW} {X_ : Thing} (HI_ : Hid (TabI TT)) (HNF : Hid (nF = (seatsOf TT).length)) (HL3 : Hid (Sep w [Cl m #[.slice aM nF cM] 49, SsT (.slice aM nF cM) (seatsOf TT), SsT (.slice aL nF cL) (seatsOf TT), TabT t TT, X_] wL))
    (g0 : wL.cell? ⟨m, 0, none⟩ = some (.slice aM nF cM)) (f0 : (0 : Int) ≤ (nF : Int)) (f8 : (nF : Int) ≤ 8) {K0 K1 K2 : Act → World → Prop} {Q9 : Exit → Act → World → Prop}
    (hQ : ∀ c (a : Act) (d : Nat) (v : Value) w', Exit.then K0 (Exit.then K1 (Exit.inBlock 1 (Exit.then K2 Q9))) (.panic c) (a.put (some d) v) w' → Exit.then K0 (Exit.then K1 (Exit.inBlock 1 (Exit.then K2 Q9))) (.panic c) a w')
    (h1 : ∀ a w', Code.wp Try.prog cond26 (Exit.then K1 (Exit.inBlock 1 (Exit.then K2 Q9))) a w' → K0 a w')
    (h2 : ∀ a w', Code.wp Try.prog rest28 (Exit.inBlock 1 (Exit.then K2 Q9)) a w' → K1 a w')
    {u0 u1 u2 u5 u6 u7 u9 u10 u11 u12 u13 u14 u15 u16 u17 u19 u20 u21 u22 u23 u24 u25 u26 u27 u28 u29 u30 u31 u32 u33 u34 u35 u36 u37 u38 u39 u40 u41 u42 u43 u44 u45 u46 u47 u48 u49 u50 u51 u52 u53 u54 u55 u56 u57 u58 u59 u60 u61 u62 u63 u64 u65 u66 u67 u68 u69 u70 u71 u72 u73 u74 u75 u76 u77 u78 u79 u80 u81 u82 u83 u84 u85 u86 u87 u88 u89 u90 u91 u92 u93 u94 u95 u96 u97 u98 u99 u100 u101 u102 u103 u104 u105 u106 u107 u108 u109 u110 u111 u112 u113 u114 u115 u116 u117 u118 u119 u120 u121 u122 u123 u124 u125 u126 u127 u128 u129 u130 u131 u132 u133 u134 u135 u136 u137 u138 u139 u140 u141 u142 u143 u144 u145 u146 u147 u148 u149 u150 u151 u152 u153 u154 u155 u156 u157 u158 u159 u160 u161 u162 u163 u164 u165 u166 u167 u168 u169 u170 u171 u172 u173 u174 u175 u176 u177 u178 u179 u180 u181 u182 u183 u184 u185 u186 u187 u188 u189 u190 u191 u192 u193 u194 u195 u196 u197 u198 u199 u200 u201 u202 u203 u204 u205 u206 u207 u208 u209 u210 u211 u212 u213 u214 u215 u216 u217 u218 : Value} (hK : ∀ (y19 y170 y171 y172 y173 y174 y175 y176 y177 y178 y179 y180 y181 y182 y183 y184 y185 y186 y187 y188 y189 y190 y191 y192 y193 y194 y195 y196 y197 y198 y199 y200 y201 y202 y203 y204 y205 y206 y207 y208 y209 y210 y211 y212 y213 y214 y215 y216 y217 : Value) (w' : World), Sep w [X_, TabT t TT, DocT m (seatsOf TT)] w' → K2 ⟨List.toArray (u0 :: u1 :: u2 :: .pointer (some ⟨t, 0, none⟩) :: .pointer (some ⟨m, 0, none⟩) :: u5 :: u6 :: u7 :: .bool true :: u9 :: u10 :: u11 :: u12 :: u13 :: u14 :: u15 :: u16 :: u17 :: .slice aL nF cL :: y19 :: u20 :: u21 :: u22 :: u23 :: u24 :: u25 :: u26 :: u27 :: u28 :: u29 :: u30 :: u31 :: u32 :: u33 :: u34 :: u35 :: u36 :: u37 :: u38 :: u39 :: u40 :: u41 :: u42 :: u43 :: u44 :: u45 :: u46 :: u47 :: u48 :: u49 :: u50 :: u51 :: u52 :: u53 :: u54 :: u55 :: u56 :: u57 :: u58 :: u59 :: u60 :: u61 :: u62 :: u63 :: u64 :: u65 :: u66 :: u67 :: u68 :: u69 :: u70 :: u71 :: u72 :: u73 :: u74 :: u75 :: u76 :: u77 :: u78 :: u79 :: u80 :: u81 :: u82 :: u83 :: u84 :: u85 :: u86 :: u87 :: u88 :: u89 :: u90 :: u91 :: u92 :: u93 :: u94 :: u95 :: u96 :: u97 :: u98 :: u99 :: u100 :: u101 :: u102 :: u103 :: u104 :: u105 :: u106 :: u107 :: u108 :: u109 :: u110 :: u111 :: u112 :: u113 :: u114 :: u115 :: u116 :: u117 :: u118 :: u119 :: u120 :: u121 :: u122 :: u123 :: u124 :: u125 :: u126 :: u127 :: u128 :: u129 :: u130 :: u131 :: u132 :: u133 :: u134 :: u135 :: u136 :: u137 :: u138 :: u139 :: u140 :: u141 :: u142 :: u143 :: u144 :: u145 :: u146 :: u147 :: u148 :: u149 :: u150 :: u151 :: u152 :: u153 :: u154 :: u155 :: u156 :: u157 :: u158 :: u159 :: u160 :: u161 :: u162 :: u163 :: u164 :: u165 :: u166 :: u167 :: u168 :: u169 :: y170 :: y171 :: y172 :: y173 :: y174 :: y175 :: y176 :: y177 :: y178 :: y179 :: y180 :: y181 :: y182 :: y183 :: y184 :: y185 :: y186 :: y187 :: y188 :: y189 :: y190 :: y191 :: y192 :: y193 :: y194 :: y195 :: y196 :: y197 :: y198 :: y199 :: y200 :: y201 :: y202 :: y203 :: y204 :: y205 :: y206 :: y207 :: y208 :: y209 :: y210 :: y211 :: y212 :: y213 :: y214 :: y215 :: y216 :: y217 :: u218 :: []), []⟩ w') :
    Code.wp Try.prog reg26 (Exit.then K0 (Exit.then K1 (Exit.inBlock 1 (Exit.then K2 Q9)))) ⟨List.toArray (u0 :: u1 :: u2 :: .pointer (some ⟨t, 0, none⟩) :: .pointer (some ⟨m, 0, none⟩) :: u5 :: u6 :: u7 :: .bool true :: u9 :: u10 :: u11 :: u12 :: u13 :: u14 :: u15 :: u16 :: u17 :: .slice aL nF cL :: u19 :: u20 :: u21 :: u22 :: u23 :: u24 :: u25 :: u26 :: u27 :: u28 :: u29 :: u30 :: u31 :: u32 :: u33 :: u34 :: u35 :: u36 :: u37 :: u38 :: u39 :: u40 :: u41 :: u42 :: u43 :: u44 :: u45 :: u46 :: u47 :: u48 :: u49 :: u50 :: u51 :: u52 :: u53 :: u54 :: u55 :: u56 :: u57 :: u58 :: u59 :: u60 :: u61 :: u62 :: u63 :: u64 :: u65 :: u66 :: u67 :: u68 :: u69 :: u70 :: u71 :: u72 :: u73 :: u74 :: u75 :: u76 :: u77 :: u78 :: u79 :: u80 :: u81 :: u82 :: u83 :: u84 :: u85 :: u86 :: u87 :: u88 :: u89 :: u90 :: u91 :: u92 :: u93 :: u94 :: u95 :: u96 :: u97 :: u98 :: u99 :: u100 :: u101 :: u102 :: u103 :: u104 :: u105 :: u106 :: u107 :: u108 :: u109 :: u110 :: u111 :: u112 :: u113 :: u114 :: u115 :: u116 :: u117 :: u118 :: u119 :: u120 :: u121 :: u122 :: u123 :: u124 :: u125 :: u126 :: u127 :: u128 :: u129 :: u130 :: u131 :: u132 :: u133 :: u134 :: u135 :: u136 :: u137 :: u138 :: u139 :: u140 :: u141 :: u142 :: u143 :: u144 :: u145 :: u146 :: u147 :: u148 :: u149 :: u150 :: u151 :: u152 :: u153 :: u154 :: u155 :: u156 :: u157 :: u158 :: u159 :: u160 :: u161 :: u162 :: u163 :: u164 :: u165 :: u166 :: u167 :: u168 :: u169 :: u170 :: u171 :: u172 :: u173 :: u174 :: u175 :: u176 :: u177 :: u178 :: u179 :: u180 :: u181 :: u182 :: u183 :: u184 :: u185 :: u186 :: u187 :: u188 :: u189 :: u190 :: u191 :: u192 :: u193 :: u194 :: u195 :: u196 :: u197 :: u198 :: u199 :: u200 :: u201 :: u202 :: u203 :: u204 :: u205 :: u206 :: u207 :: u208 :: u209 :: u210 :: u211 :: u212 :: u213 :: u214 :: u215 :: u216 :: u217 :: u218 :: []), []⟩ wL := by
  conv => arg 2; whnf
  conv at h1 =>
    ext a w'; arg 1; arg 2; whnf
  conv at h2 =>
    ext a w'; arg 1; arg 2; whnf
  have HKK := Lib.hid hK
  have HQ := Lib.hid hQ
  clear hK hQ
  refine wp_region_G (fun w' => w'.cell? ⟨m, 0, none⟩ = some (.slice aM nF cM)) [] (by kernel_rfl) g0 (fun hS => ?_)
  try dsimp only at hS
  refine wpAnyG_take' (i := 0) (v := ?v0_1at) rfl (by kernel_rfl) (by kernel_rfl) (by kernel_rfl) (by kernel_rfl) (fun _ _ _ h => HQ.out _ _ _ _ _ h) (Or.inl ⟨by rfl, ?hy0_1at⟩) hS ?rest0_1at
  case hy0_1at => intro w hSw; (try dsimp only at hSw); go_simp; (try with_reducible rfl)
  case rest0_1at =>
  try simp only [List.getElem_toArray, List.getElem_cons_succ, List.getElem_cons_zero, Act.put, List.setIfInBounds_toArray, List.set_cons_zero, List.set_cons_succ]
  refine wpAnyG_take' (i := 1) (v := ?v1_2at) rfl (by kernel_rfl) (by kernel_rfl) (by kernel_rfl) (by kernel_rfl) (fun _ _ _ h => HQ.out _ _ _ _ _ h) (Or.inl ⟨by rfl, ?hy1_2at⟩) hS ?rest1_2at
  case hy1_2at => intro w hSw; (try dsimp only at hSw); go_simp; (try with_reducible rfl)
  case rest1_2at =>
  try simp only [List.getElem_toArray, List.getElem_cons_succ, List.getElem_cons_zero, Act.put, List.setIfInBounds_toArray, List.set_cons_zero, List.set_cons_succ]
  refine wpAnyG_take' (i := 2) (v := ?v2_3at) rfl (by kernel_rfl) (by kernel_rfl) (by kernel_rfl) (by kernel_rfl) (fun _ _ _ h => HQ.out _ _ _ _ _ h) (Or.inl ⟨by rfl, ?hy2_3at⟩) hS ?rest2_3at
  case hy2_3at => intro w hSw; (try dsimp only at hSw); go_simp; (try with_reducible rfl)
  case rest2_3at =>
  try simp only [List.getElem_toArray, List.getElem_cons_succ, List.getElem_cons_zero, Act.put, List.setIfInBounds_toArray, List.set_cons_zero, List.set_cons_succ]
  refine wpAnyG_take' (i := 3) (v := ?v3_4at) rfl (by kernel_rfl) (by kernel_rfl) (by kernel_rfl) (by kernel_rfl) (fun _ _ _ h => HQ.out _ _ _ _ _ h) (Or.inl ⟨by rfl, ?hy3_4at⟩) hS ?rest3_4at
  case hy3_4at => intro w hSw; (try dsimp only at hSw); go_simp; (try with_reducible rfl)
  case rest3_4at =>
  try simp only [List.getElem_toArray, List.getElem_cons_succ, List.getElem_cons_zero, Act.put, List.setIfInBounds_toArray, List.set_cons_zero, List.set_cons_succ]
  refine wpAnyG_take' (i := 4) (v := ?v4_5at) rfl (by kernel_rfl) (by kernel_rfl) (by kernel_rfl) (by kernel_rfl) (fun _ _ _ h => HQ.out _ _ _ _ _ h) (Or.inl ⟨by rfl, ?hy4_5at⟩) hS ?rest4_5at
  case hy4_5at => intro w hSw; (try dsimp only at hSw); go_simp; (try with_reducible rfl)
  case rest4_5at =>
  try simp only [List.getElem_toArray, List.getElem_cons_succ, List.getElem_cons_zero, Act.put, List.setIfInBounds_toArray, List.set_cons_zero, List.set_cons_succ]
  refine wpAnyG_take' (i := 5) (v := ?v5_6at) rfl (by kernel_rfl) (by kernel_rfl) (by kernel_rfl) (by kernel_rfl) (fun _ _ _ h => HQ.out _ _ _ _ _ h) (Or.inl ⟨by rfl, ?hy5_6at⟩) hS ?rest5_6at
  case hy5_6at => intro w hSw; (try dsimp only at hSw); go_simp; (try with_reducible rfl)
  case rest5_6at =>
  try simp only [List.getElem_toArray, List.getElem_cons_succ, List.getElem_cons_zero, Act.put, List.setIfInBounds_toArray, List.set_cons_zero, List.set_cons_succ]
  refine wpAnyG_take' (i := 6) (v := ?v6_7at) rfl (by kernel_rfl) (by kernel_rfl) (by kernel_rfl) (by kernel_rfl) (fun _ _ _ h => HQ.out _ _ _ _ _ h) (Or.inl ⟨by rfl, ?hy6_7at⟩) hS ?rest6_7at
  case hy6_7at => intro w hSw; (try dsimp only at hSw); go_simp; (try with_reducible rfl)
  case rest6_7at =>
  try simp only [List.getElem_toArray, List.getElem_cons_succ, List.getElem_cons_zero, Act.put, List.setIfInBounds_toArray, List.set_cons_zero, List.set_cons_succ]
  refine wpAnyG_take' (i := 7) (v := ?v7_8at) rfl (by kernel_rfl) (by kernel_rfl) (by kernel_rfl) (by kernel_rfl) (fun _ _ _ h => HQ.out _ _ _ _ _ h) (Or.inl ⟨by rfl, ?hy7_8at⟩) hS ?rest7_8at
  case hy7_8at => intro w hSw; (try dsimp only at hSw); go_simp; (try with_reducible rfl)
  case rest7_8at =>
  try simp only [List.getElem_toArray, List.getElem_cons_succ, List.getElem_cons_zero, Act.put, List.setIfInBounds_toArray, List.set_cons_zero, List.set_cons_succ]
  refine wpAnyG_one (i := 8) (by kernel_rfl) rfl (fun K hK => ?_)
  go_simp
  have hd1 : Sep w [SsT (.slice aL nF cL) (seatsOf TT), SsT (.slice aM nF cM) (seatsOf TT), Cl m #[.slice aM nF cM] 49, TabT t TT, X_] _ := HL3.out.drew.pick [2, 1, 0, 3, 4] rfl
  refine Calls.mono (dsame_any hd1 (by rw [← HNF.out]; omega)) ?_
  rintro r8 w8a ⟨rfl, hd2⟩
  have g1 := hd2.sw3.cell (o := 0) rfl
  have HD2 := Lib.hid hd2
  clear hd1 hd2 HL3
  (try dsimp only); repeat' (first | go_values | go_skip | go_guarded | go_step | go_upon | go_back)
  refine hK.out _ _ (fun _ => ?hS9at) ?rest9at
  case hS9at => exact g1
  clear K hK
  try simp only [List.getElem_toArray, List.getElem_cons_succ, List.getElem_cons_zero, Act.put, List.setIfInBounds_toArray, List.set_cons_zero, List.set_cons_succ]
  refine wpAnyG_take' (i := 9) (v := ?v9_10at) rfl (by kernel_rfl) (by kernel_rfl) (by kernel_rfl) (by kernel_rfl) (fun _ _ _ h => HQ.out _ _ _ _ _ h) (Or.inl ⟨by rfl, ?hy9_10at⟩) g1 ?rest9_10at
  case hy9_10at => intro w hSw; (try dsimp only at hSw); go_simp; (try with_reducible rfl)
  case rest9_10at =>
  try simp only [List.getElem_toArray, List.getElem_cons_succ, List.getElem_cons_zero, Act.put, List.setIfInBounds_toArray, List.set_cons_zero, List.set_cons_succ]
  refine wpAnyG_take' (i := 10) (v := ?v10_11at) rfl (by kernel_rfl) (by kernel_rfl) (by kernel_rfl) (by kernel_rfl) (fun _ _ _ h => HQ.out _ _ _ _ _ h) (Or.inl ⟨by rfl, ?hy10_11at⟩) g1 ?rest10_11at
  case hy10_11at => intro w hSw; (try dsimp only at hSw); go_simp; (try with_reducible rfl)
  case rest10_11at =>
  try simp only [List.getElem_toArray, List.getElem_cons_succ, List.getElem_cons_zero, Act.put, List.setIfInBounds_toArray, List.set_cons_zero, List.set_cons_succ]
  refine wpAnyG_take' (i := 11) (v := ?v11_12at) rfl (by kernel_rfl) (by kernel_rfl) (by kernel_rfl) (by kernel_rfl) (fun _ _ _ h => HQ.out _ _ _ _ _ h) (Or.inl ⟨by rfl, ?hy11_12at⟩) g1 ?rest11_12at
  case hy11_12at => intro w hSw; (try dsimp only at hSw); go_simp; (try with_reducible rfl)
  case rest11_12at =>
  try simp only [List.getElem_toArray, List.getElem_cons_succ, List.getElem_cons_zero, Act.put, List.setIfInBounds_toArray, List.set_cons_zero, List.set_cons_succ]
  refine wpAnyG_take' (i := 12) (v := ?v12_13at) rfl (by kernel_rfl) (by kernel_rfl) (by kernel_rfl) (by kernel_rfl) (fun _ _ _ h => HQ.out _ _ _ _ _ h) (Or.inl ⟨by rfl, ?hy12_13at⟩) g1 ?rest12_13at
  case hy12_13at => intro w hSw; (try dsimp only at hSw); go_simp; (try with_reducible rfl)
  case rest12_13at =>
  try simp only [List.getElem_toArray, List.getElem_cons_succ, List.getElem_cons_zero, Act.put, List.setIfInBounds_toArray, List.set_cons_zero, List.set_cons_succ]
  refine wpAnyG_take' (i := 14) (v := ?v14_14at) rfl (by kernel_rfl) (by kernel_rfl) (by kernel_rfl) (by kernel_rfl) (fun _ _ _ h => HQ.out _ _ _ _ _ h) (Or.inl ⟨by rfl, ?hy14_14at⟩) g1 ?rest14_14at
  case hy14_14at => intro w hSw; (try dsimp only at hSw); go_simp; (try with_reducible rfl)
  case rest14_14at =>
  try simp only [List.getElem_toArray, List.getElem_cons_succ, List.getElem_cons_zero, Act.put, List.setIfInBounds_toArray, List.set_cons_zero, List.set_cons_succ]
  refine wpAnyG_take' (i := 15) (v := ?v15_15at) rfl (by kernel_rfl) (by kernel_rfl) (by kernel_rfl) (by kernel_rfl) (fun _ _ _ h => HQ.out _ _ _ _ _ h) (Or.inl ⟨by rfl, ?hy15_15at⟩) g1 ?rest15_15at
  case hy15_15at => intro w hSw; (try dsimp only at hSw); go_simp; (try with_reducible rfl)
  case rest15_15at =>
  try simp only [List.getElem_toArray, List.getElem_cons_succ, List.getElem_cons_zero, Act.put, List.setIfInBounds_toArray, List.set_cons_zero, List.set_cons_succ]
  refine wpAnyG_take' (i := 16) (v := ?v16_16at) rfl (by kernel_rfl) (by kernel_rfl) (by kernel_rfl) (by kernel_rfl) (fun _ _ _ h => HQ.out _ _ _ _ _ h) (Or.inl ⟨by rfl, ?hy16_16at⟩) g1 ?rest16_16at
  case hy16_16at => intro w hSw; (try dsimp only at hSw); go_simp; (try with_reducible rfl)
  case rest16_16at =>
  try simp only [List.getElem_toArray, List.getElem_cons_succ, List.getElem_cons_zero, Act.put, List.setIfInBounds_toArray, List.set_cons_zero, List.set_cons_succ]
  refine wpAnyG_take' (i := 17) (v := ?v17_17at) rfl (by kernel_rfl) (by kernel_rfl) (by kernel_rfl) (by kernel_rfl) (fun _ _ _ h => HQ.out _ _ _ _ _ h) (Or.inl ⟨by rfl, ?hy17_17at⟩) g1 ?rest17_17at
  case hy17_17at => intro w hSw; (try dsimp only at hSw); go_simp; (try with_reducible rfl)
  case rest17_17at =>
  try simp only [List.getElem_toArray, List.getElem_cons_succ, List.getElem_cons_zero, Act.put, List.setIfInBounds_toArray, List.set_cons_zero, List.set_cons_succ]
  refine wpAnyG_take' (i := 18) (v := ?v18_18at) rfl (by kernel_rfl) (by kernel_rfl) (by kernel_rfl) (by kernel_rfl) (fun _ _ _ h => HQ.out _ _ _ _ _ h) (Or.inl ⟨by rfl, ?hy18_18at⟩) g1 ?rest18_18at
  case hy18_18at => intro w hSw; (try dsimp only at hSw); go_simp; (try with_reducible rfl)
  case rest18_18at =>
  try simp only [List.getElem_toArray, List.getElem_cons_succ, List.getElem_cons_zero, Act.put, List.setIfInBounds_toArray, List.set_cons_zero, List.set_cons_succ]
  refine wpAnyG_one (i := 13) (by kernel_rfl) rfl (fun K hK => ?_)
  go_simp
  have hd3 : Sep w [TabT t TT, SsT (.slice aL nF cL) (seatsOf TT), SsT (.slice aM nF cM) (seatsOf TT), Cl m #[.slice aM nF cM] 49, X_] _ := HD2.out.pick [3, 0, 1, 2, 4] rfl
  have hle := len_any hd3 HI_.out.len
  rw [← HNF.out] at hle
  refine Calls.mono hle ?_
  rintro r13 w13a ⟨rfl, hd4⟩
  have g2 := hd4.sw4.cell (o := 0) rfl
  have HD4 := Lib.hid hd4
  clear hd3 hd4 HD2 hle
  (try dsimp only); repeat' (first | go_values | go_skip | go_guarded | go_step | go_upon | go_back)
  refine hK.out _ _ (fun _ => ?hS19at) ?rest19at
  case hS19at => exact g2
  clear K hK
  try simp only [List.getElem_toArray, List.getElem_cons_succ, List.getElem_cons_zero, Act.put, List.setIfInBounds_toArray, List.set_cons_zero, List.set_cons_succ]
  refine wpAnyG_take' (i := 19) (v := ?v19_20at) rfl (by kernel_rfl) (by kernel_rfl) (by kernel_rfl) (by kernel_rfl) (fun _ _ _ h => HQ.out _ _ _ _ _ h) (Or.inl ⟨by rfl, ?hy19_20at⟩) g2 ?rest19_20at
  case hy19_20at => intro w hSw; (try dsimp only at hSw); go_simp; (try with_reducible rfl)
  case rest19_20at =>
  try simp only [List.getElem_toArray, List.getElem_cons_succ, List.getElem_cons_zero, Act.put, List.setIfInBounds_toArray, List.set_cons_zero, List.set_cons_succ]
  refine wpAnyG_take' (i := 20) (v := ?v20_21at) rfl (by kernel_rfl) (by kernel_rfl) (by kernel_rfl) (by kernel_rfl) (fun _ _ _ h => HQ.out _ _ _ _ _ h) (Or.inl ⟨by rfl, ?hy20_21at⟩) g2 ?rest20_21at
  case hy20_21at => intro w hSw; (try dsimp only at hSw); go_simp; (try with_reducible rfl)
  case rest20_21at =>
  try simp only [List.getElem_toArray, List.getElem_cons_succ, List.getElem_cons_zero, Act.put, List.setIfInBounds_toArray, List.set_cons_zero, List.set_cons_succ]
  refine wpAnyG_take' (i := 21) (v := ?v21_22at) rfl (by kernel_rfl) (by kernel_rfl) (by kernel_rfl) (by kernel_rfl) (fun _ _ _ h => HQ.out _ _ _ _ _ h) (Or.inl ⟨by rfl, ?hy21_22at⟩) g2 ?rest21_22at
  case hy21_22at => intro w hSw; (try dsimp only at hSw); go_simp; (try with_reducible rfl)
  case rest21_22at =>
  try simp only [List.getElem_toArray, List.getElem_cons_succ, List.getElem_cons_zero, Act.put, List.setIfInBounds_toArray, List.set_cons_zero, List.set_cons_succ]
  refine wpAnyG_take' (i := 22) (v := ?v22_23at) rfl (by kernel_rfl) (by kernel_rfl) (by kernel_rfl) (by kernel_rfl) (fun _ _ _ h => HQ.out _ _ _ _ _ h) (Or.inl ⟨by rfl, ?hy22_23at⟩) g2 ?rest22_23at
  case hy22_23at => intro w hSw; (try dsimp only at hSw); go_simp; (try with_reducible rfl)
  case rest22_23at =>
  try simp only [List.getElem_toArray, List.getElem_cons_succ, List.getElem_cons_zero, Act.put, List.setIfInBounds_toArray, List.set_cons_zero, List.set_cons_succ]
  refine wpAnyG_take' (i := 24) (v := ?v24_24at) rfl (by kernel_rfl) (by kernel_rfl) (by kernel_rfl) (by kernel_rfl) (fun _ _ _ h => HQ.out _ _ _ _ _ h) (Or.inl ⟨by rfl, ?hy24_24at⟩) g2 ?rest24_24at
  case hy24_24at => intro w hSw; (try dsimp only at hSw); go_simp; (try with_reducible rfl)
  case rest24_24at =>
  try simp only [List.getElem_toArray, List.getElem_cons_succ, List.getElem_cons_zero, Act.put, List.setIfInBounds_toArray, List.set_cons_zero, List.set_cons_succ]
  refine wpAnyG_one (i := 23) (by kernel_rfl) rfl (fun K hK => ?_)
  go_simp
  refine Calls.mono (tbytes_any HD4.out HI_.out.len HI_.out.oks) ?_
  rintro r23 w23a ⟨u23, rfl, hd5⟩
  obtain ⟨a23, c23, rfl⟩ := hd5.sl.len
  have g3 := hd5.sw5.cell (o := 0) rfl
  have HD5 := Lib.hid hd5
  clear hd5 HD4
  (try dsimp only); repeat' (first | go_values | go_skip | go_guarded | go_step | go_upon | go_back)
  refine hK.out _ _ (fun _ => ?hS25at) ?rest25at
  case hS25at => exact g3
  clear K hK
  try simp only [List.getElem_toArray, List.getElem_cons_succ, List.getElem_cons_zero, Act.put, List.setIfInBounds_toArray, List.set_cons_zero, List.set_cons_succ]
  refine wpAnyG_one (i := 25) (by kernel_rfl) rfl (fun K hK => ?_)
  go_simp
  have hd6 : Sep w [Cl m #[.slice aM nF cM] 49, SsT (.slice aM nF cM) (seatsOf TT), By (.slice a23 (bv (tabBs TT)).length c23) (tabBs TT), TabT t TT, SsT (.slice aL nF cL) (seatsOf TT), X_] _ := HD5.out.pick [4, 3, 0, 1, 2, 5] rfl
  have hd7 := Sep.join hd6
  refine Calls.mono (dbytes_any hd7 HNF.out (by rw [← HNF.out]; omega) HI_.out.oks) ?_
  rintro r25 w25a ⟨u25, rfl, hd8⟩
  obtain ⟨a25, c25, rfl⟩ := hd8.sl.len
  have hd9 := hd8.sw2.both (loc_blk _ _) (loc_ss _ _)
  have g4 := hd9.cell (o := 0) rfl
  have HD9 := Lib.hid hd9
  clear hd6 hd7 hd8 hd9 HD5
  (try dsimp only); repeat' (first | go_values | go_skip | go_guarded | go_step | go_upon | go_back)
  refine hK.out _ _ (fun _ => ?hS26at) ?rest26at
  case hS26at => exact g4
  clear K hK
  try simp only [List.getElem_toArray, List.getElem_cons_succ, List.getElem_cons_zero, Act.put, List.setIfInBounds_toArray, List.set_cons_zero, List.set_cons_succ]
  refine wpAnyG_one (i := 26) (by kernel_rfl) rfl (fun K hK => ?_)
  go_simp
  have he := eqBytes_any _ _ _ _ _ HD9.out.sw4.sl HD9.out.sw3.sl
  rw [show (tabBs TT == docBs (seatsOf TT)) = true from beq_self_eq_true (tabBs TT)] at he
  refine Calls.mono he ?_
  rintro r26 w26a ⟨rfl, rfl⟩
  clear he
  (try dsimp only); repeat' (first | go_values | go_skip | go_guarded | go_step | go_upon | go_back)
  refine hK.out _ _ (fun _ => ?hS27at) ?rest27at
  case hS27at => exact g4
  clear K hK
  try simp only [List.getElem_toArray, List.getElem_cons_succ, List.getElem_cons_zero, Act.put, List.setIfInBounds_toArray, List.set_cons_zero, List.set_cons_succ]
  refine wpAnyG_take' (i := 27) (v := ?v27_28at) rfl (by kernel_rfl) (by kernel_rfl) (by kernel_rfl) (by kernel_rfl) (fun _ _ _ h => HQ.out _ _ _ _ _ h) (Or.inl ⟨by rfl, ?hy27_28at⟩) g4 ?rest27_28at
  case hy27_28at => intro w hSw; (try dsimp only at hSw); go_simp; (try with_reducible rfl)
  case rest27_28at =>
  try simp only [List.getElem_toArray, List.getElem_cons_succ, List.getElem_cons_zero, Act.put, List.setIfInBounds_toArray, List.set_cons_zero, List.set_cons_succ]
  refine wpAnyG_take' (i := 28) (v := ?v28_29at) rfl (by kernel_rfl) (by kernel_rfl) (by kernel_rfl) (by kernel_rfl) (fun _ _ _ h => HQ.out _ _ _ _ _ h) (Or.inl ⟨by rfl, ?hy28_29at⟩) g4 ?rest28_29at
  case hy28_29at => intro w hSw; (try dsimp only at hSw); go_simp; (try with_reducible rfl)
  case rest28_29at =>
  try simp only [List.getElem_toArray, List.getElem_cons_succ, List.getElem_cons_zero, Act.put, List.setIfInBounds_toArray, List.set_cons_zero, List.set_cons_succ]
  refine wpAnyG_done (by kernel_rfl) ?_ _
  try simp only [List.getElem_toArray, List.getElem_cons_succ, List.getElem_cons_zero, Act.put, List.setIfInBounds_toArray, List.set_cons_zero, List.set_cons_succ]
  clear hS g0 g1 g2 g3 g4
  have h9 : Sep w [SsT (.slice aL nF cL) (seatsOf TT), Cl m #[.slice aM nF cM] 49, SsT (.slice aM nF cM) (seatsOf TT), TabT t TT, X_] _ := HD9.out.pick [5, 0, 1, 4, 6] rfl
  have h9b : Sep w [Cl m #[.slice aM nF cM] 49, SsT (.slice aM nF cM) (seatsOf TT), SsT (.slice aL nF cL) (seatsOf TT), TabT t TT, X_] _ := h9.pick [1, 2, 0, 3, 4] rfl
  have h10 := (Sep.docClose h9b).sw2
  unfold SsT at h10
  rw [← HNF.out] at h10
  have H10 := Lib.hid h10
  clear h9 h9b h10 HD9
  (try dsimp only); repeat' (first | go_values | go_skip | go_guarded | go_step | go_upon | go_back)
  go_loopw [19] (fun q wr => ∃ (j : Nat) (xs : List Value), j ≤ nF ∧ q = .int .i64 j ∧ Sep w [Rn 6 31 (.slice aL nF cL) nF xs, DocT m (seatsOf TT), TabT t TT, X_] wr) (fun q _ => nF - (intOf q).toNat)
  case atStart => exact ⟨0, _, Nat.zero_le _, rfl, H10.out⟩
  case round =>
    obtain ⟨j, xs, hj, rfl, hs2⟩ := hrel
    clear H10
    have j0 : (0 : Int) ≤ (j : Int) := by omega
    have j8 : (j : Int) ≤ 8 := by omega
    by_cases hjn : j < nF
    · have dj : decide (j < nF) = true := decide_eq_true hjn
      have j1 : (j : Int) < (nF : Int) := by omega
      obtain ⟨bL, cL2, hv, -, -, -, hxl, hcl, hfz, hst⟩ := hs2.rnSet (by omega)
      simp only [Value.slice.injEq] at hv
      obtain ⟨rfl, -, -⟩ := hv
      have hx1 : j * 6 + 1 < xs.length := by omega
      have x1 := hcl (j * 6 + 1) hx1
      have fz := hfz (j * 6 + 1)
      have H11 := Lib.hid (hst (j * 6 + 1) (.int .i64 (-1)) hx1)
      generalize xs[j * 6 + 1] = vold at *
      have HJ := Lib.hid hjn
      clear hs2 hj hjn hxl hcl hfz hst hx1
      (try dsimp only); repeat' (first | go_values | go_skip | go_guarded | go_step | go_upon | go_back)
      go_roundw
      case rel => exact ⟨j + 1, _, by have := HJ.out; omega, by go_num, H11.out⟩
      case measure => have := HJ.out; simp [intOf]; omega
    · have dj : decide (j < nF) = false := decide_eq_false hjn
      have hs3 : Sep w [TabT t TT, DocT m (seatsOf TT), X_] wr := hs2.pick [2, 1, 3] rfl
      obtain ⟨aM2, cM2, hs4⟩ := (hs3.pick [1, 0, 2] rfl : Sep w [DocT m (seatsOf TT), TabT t TT, X_] wr).docOpen
      rw [← HNF.out] at hs4
      have g0 := hs4.cell (o := 0) rfl
      have HS4 := Lib.hid hs4
      clear hs2 hs3 hs4 hj hjn
      (try dsimp only); repeat' (first | go_values | go_skip | go_guarded | go_step | go_upon | go_back)
      refine wp_region_G (fun w' => w'.cell? ⟨m, 0, none⟩ = some (.slice aM2 nF cM2)) [] (by kernel_rfl) g0 (fun hS => ?_)
      try dsimp only at hS
      refine wpAnyG_take' (i := 0) (v := ?v0_1bt) rfl (by kernel_rfl) (by kernel_rfl) (by kernel_rfl) (by kernel_rfl) (fun _ _ _ h => HQ.out _ _ _ _ _ h) (Or.inl ⟨by rfl, ?hy0_1bt⟩) hS ?rest0_1bt
      case hy0_1bt => intro w hSw; (try dsimp only at hSw); go_simp; (try with_reducible rfl)
      case rest0_1bt =>
      try simp only [List.getElem_toArray, List.getElem_cons_succ, List.getElem_cons_zero, Act.put, List.setIfInBounds_toArray, List.set_cons_zero, List.set_cons_succ]
      refine wpAnyG_take' (i := 3) (v := ?v3_2bt) rfl (by kernel_rfl) (by kernel_rfl) (by kernel_rfl) (by kernel_rfl) (fun _ _ _ h => HQ.out _ _ _ _ _ h) (Or.inl ⟨by rfl, ?hy3_2bt⟩) hS ?rest3_2bt
      case hy3_2bt => intro w hSw; (try dsimp only at hSw); go_simp; (try with_reducible rfl)
      case rest3_2bt =>
      try simp only [List.getElem_toArray, List.getElem_cons_succ, List.getElem_cons_zero, Act.put, List.setIfInBounds_toArray, List.set_cons_zero, List.set_cons_succ]
      refine wpAnyG_take' (i := 4) (v := ?v4_3bt) rfl (by kernel_rfl) (by kernel_rfl) (by kernel_rfl) (by kernel_rfl) (fun _ _ _ h => HQ.out _ _ _ _ _ h) (Or.inl ⟨by rfl, ?hy4_3bt⟩) hS ?rest4_3bt
      case hy4_3bt => intro w hSw; (try dsimp only at hSw); go_simp; (try with_reducible rfl)
      case rest4_3bt =>
      try simp only [List.getElem_toArray, List.getElem_cons_succ, List.getElem_cons_zero, Act.put, List.setIfInBounds_toArray, List.set_cons_zero, List.set_cons_succ]
      refine wpAnyG_take' (i := 5) (v := ?v5_4bt) rfl (by kernel_rfl) (by kernel_rfl) (by kernel_rfl) (by kernel_rfl) (fun _ _ _ h => HQ.out _ _ _ _ _ h) (Or.inl ⟨by rfl, ?hy5_4bt⟩) hS ?rest5_4bt
      case hy5_4bt => intro w hSw; (try dsimp only at hSw); go_simp; (try with_reducible rfl)
      case rest5_4bt =>
      try simp only [List.getElem_toArray, List.getElem_cons_succ, List.getElem_cons_zero, Act.put, List.setIfInBounds_toArray, List.set_cons_zero, List.set_cons_succ]
      refine wpAnyG_take' (i := 6) (v := ?v6_5bt) rfl (by kernel_rfl) (by kernel_rfl) (by kernel_rfl) (by kernel_rfl) (fun _ _ _ h => HQ.out _ _ _ _ _ h) (Or.inl ⟨by rfl, ?hy6_5bt⟩) hS ?rest6_5bt
      case hy6_5bt => intro w hSw; (try dsimp only at hSw); go_simp; (try with_reducible rfl)
      case rest6_5bt =>
      try simp only [List.getElem_toArray, List.getElem_cons_succ, List.getElem_cons_zero, Act.put, List.setIfInBounds_toArray, List.set_cons_zero, List.set_cons_succ]
      refine wpAnyG_one (i := 1) (by kernel_rfl) rfl (fun K hK => ?_)
      go_simp
      have hd1 : Sep w [TabT t TT, Cl m #[.slice aM2 nF cM2] 49, SsT (.slice aM2 nF cM2) (seatsOf TT), X_] _ := HS4.out.drew.pick [2, 0, 1, 3] rfl
      refine Calls.mono (tcopy_any hd1 HI_.out.len) ?_
      rintro r1 w1a ⟨t2, rfl, hd2⟩
      have g1 := hd2.sw3.cell (o := 0) rfl
      have HD2 := Lib.hid hd2
      clear hd1 hd2 HS4
      (try dsimp only); repeat' (first | go_values | go_skip | go_guarded | go_step | go_upon | go_back)
      refine hK.out _ _ (fun _ => ?hS6bt) ?rest6bt
      case hS6bt => exact g1
      clear K hK
      try simp only [List.getElem_toArray, List.getElem_cons_succ, List.getElem_cons_zero, Act.put, List.setIfInBounds_toArray, List.set_cons_zero, List.set_cons_succ]
      refine wpAnyG_one (i := 2) (by kernel_rfl) rfl (fun K hK => ?_)
      go_simp
      have hl := tlist_any HD2.out HI_.out.len
      rw [← HNF.out] at hl
      refine Calls.mono hl ?_
      rintro r2 w2a ⟨a2, c2, rfl, hd3⟩
      have g2 := hd3.sw4.cell (o := 0) rfl
      have HD3 := Lib.hid hd3
      clear hd3 HD2 hl
      (try dsimp only); repeat' (first | go_values | go_skip | go_guarded | go_step | go_upon | go_back)
      refine hK.out _ _ (fun _ => ?hS7bt) ?rest7bt
      case hS7bt => exact g2
      clear K hK
      try simp only [List.getElem_toArray, List.getElem_cons_succ, List.getElem_cons_zero, Act.put, List.setIfInBounds_toArray, List.set_cons_zero, List.set_cons_succ]
      refine wpAnyG_one (i := 7) (by kernel_rfl) rfl (fun K hK => ?_)
      go_simp
      have hd4 : Sep w [SsT (.slice a2 nF c2) (seatsOf TT), SsT (.slice aM2 nF cM2) (seatsOf TT), Cl m #[.slice aM2 nF cM2] 49, TabT t TT, X_] _ := HD3.out.pick [0, 4, 3, 2, 5] rfl
      refine Calls.mono (dsame_any hd4 (by rw [← HNF.out]; omega)) ?_
      rintro r7 w7a ⟨rfl, hd5⟩
      have g3 := hd5.sw3.cell (o := 0) rfl
      have HD5 := Lib.hid hd5
      clear hd4 hd5 HD3
      (try dsimp only); repeat' (first | go_values | go_skip | go_guarded | go_step | go_upon | go_back)
      refine hK.out _ _ (fun _ => ?hS8bt) ?rest8bt
      case hS8bt => exact g3
      clear K hK
      try simp only [List.getElem_toArray, List.getElem_cons_succ, List.getElem_cons_zero, Act.put, List.setIfInBounds_toArray, List.set_cons_zero, List.set_cons_succ]
      refine wpAnyG_take' (i := 8) (v := ?v8_9bt) rfl (by kernel_rfl) (by kernel_rfl) (by kernel_rfl) (by kernel_rfl) (fun _ _ _ h => HQ.out _ _ _ _ _ h) (Or.inl ⟨by rfl, ?hy8_9bt⟩) g3 ?rest8_9bt
      case hy8_9bt => intro w hSw; (try dsimp only at hSw); go_simp; (try with_reducible rfl)
      case rest8_9bt =>
      try simp only [List.getElem_toArray, List.getElem_cons_succ, List.getElem_cons_zero, Act.put, List.setIfInBounds_toArray, List.set_cons_zero, List.set_cons_succ]
      refine wpAnyG_done (by kernel_rfl) ?_ _
      try simp only [List.getElem_toArray, List.getElem_cons_succ, List.getElem_cons_zero, Act.put, List.setIfInBounds_toArray, List.set_cons_zero, List.set_cons_succ]
      clear hS g0 g1 g2 g3
      have h11 : Sep w [Cl m #[.slice aM2 nF cM2] 49, SsT (.slice aM2 nF cM2) (seatsOf TT), TabT t TT, X_] _ := HD5.out.pick [2, 1, 3, 4] rfl
      have h12 := Sep.docClose h11
      have h13 : Sep w [X_, TabT t TT, DocT m (seatsOf TT)] _ := h12.pick [2, 1, 0] rfl
      have H13 := Lib.hid h13
      clear h11 h12 h13 HD5
      (try dsimp only); repeat' (first | go_values | go_skip | go_guarded | go_step | go_upon | go_back)
      exact HKK.out _ _ _ _ _ _ _ _ _ _ _ _ _ _ _ _ _ _ _ _ _ _ _ _ _ _ _ _ _ _ _ _ _ _ _ _ _ _ _ _ _ _ _ _ _ _ _ _ _ _ H13.out
end Go.Proofs.Ytjjjkfdppleagaa
