/- DiskKeeps: some kinds of calls. -/
import Derived.Test.YtpnafgkoijnplaaDiskKeepsBase
namespace Go.Proofs.Ytpnafgkoijnplaa
open Go.RowKit
set_option linter.unusedVariables false
set_option linter.unusedSimpArgs false
set_option maxRecDepth 1000000 in
set_option maxHeartbeats 40000000 in
theorem karm_s40 {Q0 : Exit → Act → World → Prop} {w wr : World} {g s k len cap b off : Nat} {kd nn : Int} {ab : Option Addr} {cb : Nat} {lb : List UInt8} {raw : Bool} {j s0 s1 : List UInt8} {dead : Bool} {arm : Option Nat} {a4 a0 a1 : Option Addr} {c4 c0 c1 : Nat} (hl63 : len ≤ 9223372036854775807) (hk1 : k < len) (hk2 : k < 100) (hj : j.length ≤ 300 * k) (h0 : s0.length ≤ 300) (h1 : s1.length ≤ 300)
    (hs : Sep w [DiskT g ⟨j, s0, s1, dead, arm⟩, RdT a4 c4 j, Cl s #[.slice a0 s0.length c0, .slice a1 s1.length c1] 34, RdT a0 c0 s0, RdT a1 c1 s1] wr)
    (e0 : wr.cell? ⟨b, off + k * 4, none⟩ = some (.int .i64 kd)) (e1 : wr.cell? ⟨b, off + k * 4 + 1, none⟩ = some (.int .i64 nn)) (e2 : wr.cell? ⟨b, off + k * 4 + 2, none⟩ = some (.slice ab lb.length cb)) (e3 : wr.cell? ⟨b, off + k * 4 + 3, none⟩ = some (.bool raw))
    (hbc : lb.length ≤ cb) (hbm : cb ≤ maxLen) (hsb : Sl w (.slice ab lb.length cb) (bv lb)) (hkd : kd % 10 = 4) (hks : nn % 2 = 0) (u2 u7 u8 u9 u10 u11 u12 u13 u14 u15 u16 u17 u21 u22 u23 u24 u25 u26 u27 u28 u29 u30 u31 u32 u33 u34 u35 u36 u37 u38 u39 u40 u41 u42 u43 u44 u45 u46 u47 u48 u49 u50 u51 u52 u53 u54 u55 u56 u57 u58 u59 u60 u61 u62 u63 u64 u65 u66 u67 u68 u69 u70 u71 u72 u73 u74 u75 u76 u77 u78 u79 u80 u81 u82 u83 u84 u85 u86 u87 u88 u89 u90 u91 u92 u93 u94 u95 u96 u97 u98 u99 u100 u101 u102 u103 u104 u105 u106 u107 u108 u109 u110 u111 u112 u113 u114 u115 u116 u117 u118 u119 u120 u121 u122 u123 u124 u125 u126 u127 u128 u129 u130 u131 u132 u133 u134 u135 u136 u137 u138 u139 u140 u141 u142 u143 u144 u145 u146 u147 u148 u149 u150 u151 u152 u153 u154 u155 u156 u157 u158 u159 u160 u161 u162 u163 u164 u165 u166 u167 u168 u169 u170 u171 u172 u173 u174 u175 u176 u177 u178 u179 u180 u181 u182 u183 u184 u185 u186 u187 u188 u189 u190 u191 u192 u193 u194 u195 u196 u197 u198 u199 u200 u201 u202 u203 u204 u205 u206 u207 u208 u209 u210 u211 u212 u213 u214 u215 u216 u217 u218 u219 u220 u221 u222 u223 u224 u225 u226 u227 u228 u229 u230 u231 u232 u233 u234 u235 u236 u237 u238 u239 u240 u241 u242 u243 u244 u245 u246 u247 u248 u249 u250 u251 u252 u253 u254 u255 u256 u257 u258 u259 u260 u261 u262 u263 u264 u265 u266 u267 u268 u269 u270 : Value) :
    Code.wp Try.prog kbody (Exit.then (fun a' w'' => KI w (.slice (some ⟨b, off, none⟩) len cap) g s len a' w'' ∧ Kmu a' w'' < Kmu ⟨#[.slice (some ⟨b, off, none⟩) len cap, undef, u2, .pointer (some ⟨g, 0, none⟩), .slice a4 j.length c4, .pointer (some ⟨s, 0, none⟩), .int .i64 k, u7, u8, u9, u10, u11, u12, u13, u14, u15, u16, u17, .bool true, .bool false, .pointer (some ⟨g, 0, none⟩), u21, u22, u23, u24, u25, u26, u27, u28, u29, u30, u31, u32, u33, u34, u35, u36, u37, u38, u39, u40, u41, u42, u43, u44, u45, u46, u47, u48, u49, u50, u51, u52, u53, u54, u55, u56, u57, u58, u59, u60, u61, u62, u63, u64, u65, u66, u67, u68, u69, u70, u71, u72, u73, u74, u75, u76, u77, u78, u79, u80, u81, u82, u83, u84, u85, u86, u87, u88, u89, u90, u91, u92, u93, u94, u95, u96, u97, u98, u99, u100, u101, u102, u103, u104, u105, u106, u107, u108, u109, u110, u111, u112, u113, u114, u115, u116, u117, u118, u119, u120, u121, u122, u123, u124, u125, u126, u127, u128, u129, u130, u131, u132, u133, u134, u135, u136, u137, u138, u139, u140, u141, u142, u143, u144, u145, u146, u147, u148, u149, u150, u151, u152, u153, u154, u155, u156, u157, u158, u159, u160, u161, u162, u163, u164, u165, u166, u167, u168, u169, u170, u171, u172, u173, u174, u175, u176, u177, u178, u179, u180, u181, u182, u183, u184, u185, u186, u187, u188, u189, u190, u191, u192, u193, u194, u195, u196, u197, u198, u199, u200, u201, u202, u203, u204, u205, u206, u207, u208, u209, u210, u211, u212, u213, u214, u215, u216, u217, u218, u219, u220, u221, u222, u223, u224, u225, u226, u227, u228, u229, u230, u231, u232, u233, u234, u235, u236, u237, u238, u239, u240, u241, u242, u243, u244, u245, u246, u247, u248, u249, u250, u251, u252, u253, u254, u255, u256, u257, u258, u259, u260, u261, u262, u263, u264, u265, u266, u267, u268, u269, u270], []⟩ wr) Q0) ⟨#[.slice (some ⟨b, off, none⟩) len cap, undef, u2, .pointer (some ⟨g, 0, none⟩), .slice a4 j.length c4, .pointer (some ⟨s, 0, none⟩), .int .i64 k, u7, u8, u9, u10, u11, u12, u13, u14, u15, u16, u17, .bool true, .bool false, .pointer (some ⟨g, 0, none⟩), u21, u22, u23, u24, u25, u26, u27, u28, u29, u30, u31, u32, u33, u34, u35, u36, u37, u38, u39, u40, u41, u42, u43, u44, u45, u46, u47, u48, u49, u50, u51, u52, u53, u54, u55, u56, u57, u58, u59, u60, u61, u62, u63, u64, u65, u66, u67, u68, u69, u70, u71, u72, u73, u74, u75, u76, u77, u78, u79, u80, u81, u82, u83, u84, u85, u86, u87, u88, u89, u90, u91, u92, u93, u94, u95, u96, u97, u98, u99, u100, u101, u102, u103, u104, u105, u106, u107, u108, u109, u110, u111, u112, u113, u114, u115, u116, u117, u118, u119, u120, u121, u122, u123, u124, u125, u126, u127, u128, u129, u130, u131, u132, u133, u134, u135, u136, u137, u138, u139, u140, u141, u142, u143, u144, u145, u146, u147, u148, u149, u150, u151, u152, u153, u154, u155, u156, u157, u158, u159, u160, u161, u162, u163, u164, u165, u166, u167, u168, u169, u170, u171, u172, u173, u174, u175, u176, u177, u178, u179, u180, u181, u182, u183, u184, u185, u186, u187, u188, u189, u190, u191, u192, u193, u194, u195, u196, u197, u198, u199, u200, u201, u202, u203, u204, u205, u206, u207, u208, u209, u210, u211, u212, u213, u214, u215, u216, u217, u218, u219, u220, u221, u222, u223, u224, u225, u226, u227, u228, u229, u230, u231, u232, u233, u234, u235, u236, u237, u238, u239, u240, u241, u242, u243, u244, u245, u246, u247, u248, u249, u250, u251, u252, u253, u254, u255, u256, u257, u258, u259, u260, u261, u262, u263, u264, u265, u266, u267, u268, u269, u270], []⟩ wr := by
  have HS := Lib.hid hs
  have HJ := Lib.hid hj
  have HS0 := Lib.hid h0
  have HS1 := Lib.hid h1
  clear hs hj h0 h1
  have k0 : (0 : Int) ≤ (k : Int) := by omega
  obtain ⟨q, hq, hq300, hmin, _⟩ := min_len lb.length 300
  rw [show ((300 : Nat) : Int) = 300 from rfl] at hmin
  obtain ⟨bb, hbb⟩ : ∃ x, x = lb.take q := ⟨_, rfl⟩
  have hbl : bb.length = q := by rw [hbb, List.length_take]; omega
  have hp := sl_pre hsb hq
  rw [← hbb, ← hbl] at hp
  subst hbl
  have HP := Lib.hid hp
  have hkL : (k : Int) < (len : Int) := by omega
  have z0 : (0 : Int) ≤ (bb.length : Int) := by omega
  have z1 : (bb.length : Int) ≤ (cb : Int) := by omega
  have hqc : bb.length ≤ cb := by omega
  unfold maxLen at hbm
  obtain ⟨m, hm, hmj⟩ := br_nat' nn j.length
  have hB1 : ∀ wx : World, Calls Try.prog 16 #[.int .i64 nn, .int .i64 ((j.length : Int) + 1)] wx fun e w' => e = .returned (.int .i64 (m : Int)) ∧ wx = w' := fun wx => by
    have := bring_any nn ((j.length : Int) + 1) wx (by have := HJ.out; unfold Sm; omega)
    rwa [hm] at this
  obtain ⟨kk, hkk⟩ : ∃ kk, kk = kd % 10 := ⟨_, rfl⟩
  have hB2 : ∀ wx : World, Calls Try.prog 16 #[.int .i64 kd, .int .i64 10] wx fun e w' => e = .returned (.int .i64 kk) ∧ wx = w' := fun wx => by
    have := bring_any kd 10 wx (by unfold Sm; omega)
    rwa [← hkk] at this
  have hkk2 : 0 ≤ kk ∧ kk < 10 := by rw [hkk]; omega
  have hkk0 := hkd
  rw [← hkk] at hkk0
  have HKK0 := Lib.hid hkk0
  clear hkk0
  have HKK := Lib.hid hkk2
  have HB1 := Lib.hid hB1
  have HB2 := Lib.hid hB2
  have HM := Lib.hid hmj
  -- Bx, D, R4, Cs, R0, R1
  have hx := HS.out.alloc (.cells #[.int .i64 kd, .int .i64 nn, .slice ab bb.length cb, .bool raw] 29)
  obtain ⟨bx, hbx⟩ : ∃ x, x = wr.heap.size := ⟨_, rfl⟩
  rw [← hbx] at hx
  have HX := Lib.hid hx.sw2
  clear hB1 hB2 hp hsb hbb hx hkk hkk2 hm hmj HS hq
  have jl0 : (j.length : Int) ≤ 30000 := by have := HJ.out; omega
  conv => arg 2; whnf
  go_wp2_with fail
  rw [← hbx]
  clear hbx e0 e1 e2 e3 hmin
  refine (log_any _ HX.out (by have := HJ.out; simp; omega)).mono ?_
  rintro r0 w2 ⟨va, rfl, h2⟩
  obtain ⟨aw, cw, rfl, h2a⟩ := h2.toRd
  -- Ra, D, Bx, R4, Cs, R0, R1
  have p0 := h2a.sw3.cell (o := 0) rfl
  have p1 := h2a.sw3.cell (o := 1) rfl
  have p2 := h2a.sw3.cell (o := 2) rfl
  have H2 := Lib.hid h2a.sw2
  clear h2 h2a HX
  go_wp2_with fail
  refine (dead_any H2.out).mono ?_
  rintro r0 w3 ⟨rfl, rfl⟩
  go_wp2_with fail
  refine (HB1.out _).mono ?_
  rintro r0 w3 ⟨rfl, rfl⟩
  go_wp2_with fail
  refine (HB2.out _).mono ?_
  rintro r0 w3 ⟨rfl, rfl⟩
  clear HB1 HB2
  have hkk0 := HKK0.out
  have hd : kk = 4 := by rw [hkk0]
  clear hkk0
  subst hd
  cases dead
  · cases arm with
    | none =>
      as_aux_lemma =>
        have hb : ∀ wx : World, Calls Try.prog 16 #[.int .i64 nn, .int .i64 2] wx fun e w' => e = .returned (.int .i64 0) ∧ wx = w' := fun wx => by
          have := bring_any nn 2 wx (by unfold Sm; omega)
          rwa [hks] at this
        have HB := Lib.hid hb
        clear hb hks
        go_wp2_with fail
        refine (HB.out _).mono ?_
        rintro r0 w3 ⟨rfl, rfl⟩
        clear HB
        go_wp2_with fail
        refine (slot0_none j s0 s1 _ bb H2.out (HP.out.below H2.out.low) (by omega)).mono ?_
        rintro r0 w4 ⟨rfl, h4⟩
        have H4 := Lib.hid h4
        clear h4
        clear p0 p1 p2
        have p2 := (H4.out.pick [2] rfl).cell (o := 2) rfl
        go_wp2_with fail
        refine (slots_any _ H4.out (by have := HS0.out; have := HS1.out; simp only; omega) (by have := HS0.out; have := HS1.out; simp only; omega)).mono ?_
        rintro r0 w5 ⟨vn0, vn1, rfl, y1⟩
        obtain ⟨an0, cn0, rfl, y1a⟩ := y1.toRd
        obtain ⟨an1, cn1, rfl, y1b⟩ := y1a.sw2.toRd
        have y2 := y1b.alloc (.cells #[.slice an0 (bb).length cn0, .slice an1 (s1).length cn1] 34)
        obtain ⟨bn, hbn⟩ : ∃ x, x = w5.heap.size := ⟨_, rfl⟩
        rw [← hbn] at y2
        have Y := Lib.hid y2
        clear y1 y1a y1b y2 H4 H2
        have p2 := (Y.out.pick [5] rfl).cell (o := 2) rfl
        have n0 := Y.out.cell (o := 0) rfl
        have n1 := Y.out.cell (o := 1) rfl
        have t0 := (Y.out.pick [7] rfl).cell (o := 0) rfl
        have t1 := (Y.out.pick [7] rfl).cell (o := 1) rfl
        have ft0 := (Y.out.pick [7] rfl).frozen 0
        have ft1 := (Y.out.pick [7] rfl).frozen 1
        go_wp2_with fail
        rw [← hbn]
        clear hbn
        have HE1 := Lib.hid (eqQ _ _ (bb) (Y.out.pick [2] rfl).rd (HP.out.below Y.out.low))
        have HE2 := Lib.hid (eqQ _ _ (s1) (Y.out.pick [1] rfl).rd (Y.out.pick [9] rfl).rd)
        try simp only [List.append]
        go_big_quiet ((first | exact HE1.out _ | exact HE2.out _))
        clear HE1 HE2
        go_wp2_with fail
        have hT := (((((Y.out.drewN nq).pick [7, 3, 6, 2, 1] rfl).setCell 0 (.slice an0 (bb).length cn0)).setCell 1 (.slice an1 (s1).length cn1)).pick [1, 2, 0, 3, 4] rfl)
        clear Y n0 n1 t0 t1 ft0 ft1 p2
        have hT0 : (bb).length ≤ 300 := by omega
        have hT1 : (s1).length ≤ 300 := HS1.out
        have hTJ : (j).length ≤ 300 * (k + 1) := by have := HJ.out; omega
        have HT := Lib.hid hT
        have HT0 := Lib.hid hT0
        have HT1 := Lib.hid hT1
        have HTJ := Lib.hid hTJ
        clear hT hT0 hT1 hTJ
        go_wp2_with fail
        refine (slots_any _ HT.out (by have := HT0.out; simp only; omega) (by have := HT1.out; simp only; omega)).mono ?_
        rintro r0 x1 ⟨vn0, vn1, rfl, y1⟩
        obtain ⟨an0, cn0, rfl, y1a⟩ := y1.toRd
        obtain ⟨an1, cn1, rfl, y1b⟩ := y1a.sw2.toRd
        have y2 := y1b.alloc (.cells #[.slice an0 (bb).length cn0, .slice an1 (s1).length cn1] 34)
        obtain ⟨bn, hbn⟩ : ∃ x, x = x1.heap.size := ⟨_, rfl⟩
        rw [← hbn] at y2
        -- Cn, Rn1, Rn0, D, R4, Cs, R0, R1
        have Y2 := Lib.hid y2.sw4
        clear y1 y1a y1b y2 HT
        go_wp2_with fail
        rw [← hbn]
        clear hbn
        refine (log_any _ Y2.out (by have := HTJ.out; simp only; omega)).mono ?_
        rintro r0 x2 ⟨vl, rfl, y3⟩
        -- L, D, Cn, Rn1, Rn0, R4, Cs, R0, R1
        have n0 := y3.sw3.cell (o := 0) rfl
        have n1 := y3.sw3.cell (o := 1) rfl
        have t0 := y3.sw7.cell (o := 0) rfl
        have t1 := y3.sw7.cell (o := 1) rfl
        have Y3 := Lib.hid y3
        clear y3 Y2
        go_wp2_with fail
        refine (eqSame_any _ _ (j) _ Y3.out.sl Y3.out.sw6.rd).mono ?_
        rintro r0 x3 ⟨rfl, rfl⟩
        go_wp2_with fail
        refine (eqSame_any _ _ (bb) _ Y3.out.sw5.rd Y3.out.sw8.rd).mono ?_
        rintro r0 x3 ⟨rfl, rfl⟩
        go_wp2_with fail
        refine (eqSame_any _ _ (s1) _ Y3.out.sw4.rd Y3.out.sw9.rd).mono ?_
        rintro r0 x3 ⟨rfl, rfl⟩
        have Y4 := Lib.hid Y3.out.drop.sw2.drop.sw2.drop.sw2.drop
        clear Y3 n0 n1 t0 t1
        go_wp2_with fail
        refine ⟨⟨k + 1, j, _, _, _, _, by omega, by omega, ?hi, ?hv, ⟨bb, s1, _, _, _, _, _, _, HTJ.out, HT0.out, HT1.out, Y4.out⟩, _, _, _, _, _, _, _, _, _, _, _, _, _, _, _, _, _, _, _, _, _, _, _, _, _, _, _, _, _, _, _, _, _, _, _, _, _, _, _, _, _, _, _, _, _, _, _, _, _, _, _, _, _, _, _, _, _, _, _, _, _, _, _, _, _, _, _, _, _, _, _, _, _, _, _, _, _, _, _, _, _, _, _, _, _, _, _, _, _, _, _, _, _, _, _, _, _, _, _, _, _, _, _, _, _, _, _, _, _, _, _, _, _, _, _, _, _, _, _, _, _, _, _, _, _, _, _, _, _, _, _, _, _, _, _, _, _, _, _, _, _, _, _, _, _, _, _, _, _, _, _, _, _, _, _, _, _, _, _, _, _, _, _, _, _, _, _, _, _, _, _, _, _, _, _, _, _, _, _, _, _, _, _, _, _, _, _, _, _, _, _, _, _, _, _, _, _, _, _, _, _, _, _, _, _, _, _, _, _, _, _, _, _, _, _, _, _, _, _, _, _, _, _, _, _, _, _, _, _, _, _, _, _, _, _, _, _, _, _, _, _, _, _, _, _, _, _, _, _, _, _, _, _, _, _, _, _, _, _, _, _, _, rfl⟩, ?hm⟩
        case hi => go_num
        case hv => rfl
        case hm =>
          show 100 - ((k : Int) + 1).toNat < 100 - (k : Int).toNat
          omega
    | some n =>
      as_aux_lemma =>
        have hb : ∀ wx : World, Calls Try.prog 16 #[.int .i64 nn, .int .i64 2] wx fun e w' => e = .returned (.int .i64 0) ∧ wx = w' := fun wx => by
          have := bring_any nn 2 wx (by unfold Sm; omega)
          rwa [hks] at this
        have HB := Lib.hid hb
        clear hb hks
        go_wp2_with fail
        refine (HB.out _).mono ?_
        rintro r0 w3 ⟨rfl, rfl⟩
        clear HB
        go_wp2_with fail
        refine (slot0_some j s0 s1 _ bb H2.out (HP.out.below H2.out.low) (by omega)).mono ?_
        rintro r0 w4 ⟨rfl, h4⟩
        obtain ⟨bt, hbt⟩ : ∃ x, x = bb.take n := ⟨_, rfl⟩
        rw [← hbt] at h4
        have hbl : bt.length ≤ bb.length := by rw [hbt, List.length_take]; omega
        have htq : bb.take bt.length = bt := by rw [hbt, List.length_take, List.take_eq_take_iff]; omega
        clear hbt
        have H4 := Lib.hid h4
        clear h4
        clear p0 p1 p2
        have p2 := (H4.out.pick [2] rfl).cell (o := 2) rfl
        go_wp2_with fail
        refine (slots_any _ H4.out (by have := HS0.out; have := HS1.out; simp only; omega) (by have := HS0.out; have := HS1.out; simp only; omega)).mono ?_
        rintro r0 w5 ⟨vn0, vn1, rfl, y1⟩
        obtain ⟨an0, cn0, rfl, y1a⟩ := y1.toRd
        obtain ⟨an1, cn1, rfl, y1b⟩ := y1a.sw2.toRd
        have y2 := y1b.alloc (.cells #[.slice an0 (bt).length cn0, .slice an1 (s1).length cn1] 34)
        obtain ⟨bn, hbn⟩ : ∃ x, x = w5.heap.size := ⟨_, rfl⟩
        rw [← hbn] at y2
        have Y := Lib.hid y2
        clear y1 y1a y1b y2 H4 H2
        have p2 := (Y.out.pick [5] rfl).cell (o := 2) rfl
        have n0 := Y.out.cell (o := 0) rfl
        have n1 := Y.out.cell (o := 1) rfl
        have t0 := (Y.out.pick [7] rfl).cell (o := 0) rfl
        have t1 := (Y.out.pick [7] rfl).cell (o := 1) rfl
        have ft0 := (Y.out.pick [7] rfl).frozen 0
        have ft1 := (Y.out.pick [7] rfl).frozen 1
        have hps := sl_pre HP.out hbl
        rw [htq] at hps
        have HPS := Lib.hid hps
        have HBL := Lib.hid hbl
        have q0 : (0 : Int) ≤ (bt.length : Int) := by omega
        have q1 : (bt.length : Int) ≤ (bb.length : Int) := by omega
        have q2 : (bt.length : Int) ≤ (cb : Int) := by omega
        have q3 : decide (bb.length < bt.length) = false := decide_eq_false (by omega)
        clear hps htq hbl
        go_wp2_with fail
        rw [← hbn]
        clear hbn
        have HE1 := Lib.hid (eqQ _ _ (s1) (Y.out.pick [1] rfl).rd (Y.out.pick [9] rfl).rd)
        have HE2 := Lib.hid (eqQ _ _ (bt) (Y.out.pick [2] rfl).rd (HPS.out.below Y.out.low))
        try simp only [List.append]
        go_big_quiet ((first | exact HE1.out _ | exact HE2.out _))
        clear HE1 HE2
        go_wp2_with fail
        have hT := (((((Y.out.drewN nq).pick [7, 3, 6, 2, 1] rfl).setCell 0 (.slice an0 (bt).length cn0)).setCell 1 (.slice an1 (s1).length cn1)).pick [1, 2, 0, 3, 4] rfl)
        clear Y n0 n1 t0 t1 ft0 ft1 p2
        have hT0 : (bt).length ≤ 300 := by have := HBL.out; omega
        have hT1 : (s1).length ≤ 300 := HS1.out
        have hTJ : (j).length ≤ 300 * (k + 1) := by have := HJ.out; omega
        have HT := Lib.hid hT
        have HT0 := Lib.hid hT0
        have HT1 := Lib.hid hT1
        have HTJ := Lib.hid hTJ
        clear hT hT0 hT1 hTJ
        go_wp2_with fail
        refine (slots_any _ HT.out (by have := HT0.out; simp only; omega) (by have := HT1.out; simp only; omega)).mono ?_
        rintro r0 x1 ⟨vn0, vn1, rfl, y1⟩
        obtain ⟨an0, cn0, rfl, y1a⟩ := y1.toRd
        obtain ⟨an1, cn1, rfl, y1b⟩ := y1a.sw2.toRd
        have y2 := y1b.alloc (.cells #[.slice an0 (bt).length cn0, .slice an1 (s1).length cn1] 34)
        obtain ⟨bn, hbn⟩ : ∃ x, x = x1.heap.size := ⟨_, rfl⟩
        rw [← hbn] at y2
        -- Cn, Rn1, Rn0, D, R4, Cs, R0, R1
        have Y2 := Lib.hid y2.sw4
        clear y1 y1a y1b y2 HT
        go_wp2_with fail
        rw [← hbn]
        clear hbn
        refine (log_any _ Y2.out (by have := HTJ.out; simp only; omega)).mono ?_
        rintro r0 x2 ⟨vl, rfl, y3⟩
        -- L, D, Cn, Rn1, Rn0, R4, Cs, R0, R1
        have n0 := y3.sw3.cell (o := 0) rfl
        have n1 := y3.sw3.cell (o := 1) rfl
        have t0 := y3.sw7.cell (o := 0) rfl
        have t1 := y3.sw7.cell (o := 1) rfl
        have Y3 := Lib.hid y3
        clear y3 Y2
        go_wp2_with fail
        refine (eqSame_any _ _ (j) _ Y3.out.sl Y3.out.sw6.rd).mono ?_
        rintro r0 x3 ⟨rfl, rfl⟩
        go_wp2_with fail
        refine (eqSame_any _ _ (bt) _ Y3.out.sw5.rd Y3.out.sw8.rd).mono ?_
        rintro r0 x3 ⟨rfl, rfl⟩
        go_wp2_with fail
        refine (eqSame_any _ _ (s1) _ Y3.out.sw4.rd Y3.out.sw9.rd).mono ?_
        rintro r0 x3 ⟨rfl, rfl⟩
        have Y4 := Lib.hid Y3.out.drop.sw2.drop.sw2.drop.sw2.drop
        clear Y3 n0 n1 t0 t1
        go_wp2_with fail
        refine ⟨⟨k + 1, j, _, _, _, _, by omega, by omega, ?hi, ?hv, ⟨bt, s1, _, _, _, _, _, _, HTJ.out, HT0.out, HT1.out, Y4.out⟩, _, _, _, _, _, _, _, _, _, _, _, _, _, _, _, _, _, _, _, _, _, _, _, _, _, _, _, _, _, _, _, _, _, _, _, _, _, _, _, _, _, _, _, _, _, _, _, _, _, _, _, _, _, _, _, _, _, _, _, _, _, _, _, _, _, _, _, _, _, _, _, _, _, _, _, _, _, _, _, _, _, _, _, _, _, _, _, _, _, _, _, _, _, _, _, _, _, _, _, _, _, _, _, _, _, _, _, _, _, _, _, _, _, _, _, _, _, _, _, _, _, _, _, _, _, _, _, _, _, _, _, _, _, _, _, _, _, _, _, _, _, _, _, _, _, _, _, _, _, _, _, _, _, _, _, _, _, _, _, _, _, _, _, _, _, _, _, _, _, _, _, _, _, _, _, _, _, _, _, _, _, _, _, _, _, _, _, _, _, _, _, _, _, _, _, _, _, _, _, _, _, _, _, _, _, _, _, _, _, _, _, _, _, _, _, _, _, _, _, _, _, _, _, _, _, _, _, _, _, _, _, _, _, _, _, _, _, _, _, _, _, _, _, _, _, _, _, _, _, _, _, _, _, _, _, _, _, _, _, _, _, _, rfl⟩, ?hm⟩
        case hi => go_num
        case hv => rfl
        case hm =>
          show 100 - ((k : Int) + 1).toNat < 100 - (k : Int).toNat
          omega
  · as_aux_lemma =>
      have hb : ∀ wx : World, Calls Try.prog 16 #[.int .i64 nn, .int .i64 2] wx fun e w' => e = .returned (.int .i64 0) ∧ wx = w' := fun wx => by
        have := bring_any nn 2 wx (by unfold Sm; omega)
        rwa [hks] at this
      have HB := Lib.hid hb
      clear hb hks
      go_wp2_with fail
      refine (HB.out _).mono ?_
      rintro r0 w3 ⟨rfl, rfl⟩
      clear HB
      go_wp2_with fail
      refine (slot_dead 0 _ H2.out rfl).mono ?_
      rintro r0 w4 ⟨rfl, rfl⟩
      have H4 := H2
      clear p0 p1 p2
      have p2 := (H4.out.pick [2] rfl).cell (o := 2) rfl
      go_wp2_with fail
      refine (slots_any _ H4.out (by have := HS0.out; have := HS1.out; simp only; omega) (by have := HS0.out; have := HS1.out; simp only; omega)).mono ?_
      rintro r0 w5 ⟨vn0, vn1, rfl, y1⟩
      obtain ⟨an0, cn0, rfl, y1a⟩ := y1.toRd
      obtain ⟨an1, cn1, rfl, y1b⟩ := y1a.sw2.toRd
      have y2 := y1b.alloc (.cells #[.slice an0 (s0).length cn0, .slice an1 (s1).length cn1] 34)
      obtain ⟨bn, hbn⟩ : ∃ x, x = w5.heap.size := ⟨_, rfl⟩
      rw [← hbn] at y2
      have Y := Lib.hid y2
      clear y1 y1a y1b y2 H4 
      have p2 := (Y.out.pick [5] rfl).cell (o := 2) rfl
      have n0 := Y.out.cell (o := 0) rfl
      have n1 := Y.out.cell (o := 1) rfl
      have t0 := (Y.out.pick [7] rfl).cell (o := 0) rfl
      have t1 := (Y.out.pick [7] rfl).cell (o := 1) rfl
      have ft0 := (Y.out.pick [7] rfl).frozen 0
      have ft1 := (Y.out.pick [7] rfl).frozen 1
      go_wp2_with fail
      rw [← hbn]
      clear hbn
      have HE1 := Lib.hid (eqQ _ _ (s1) (Y.out.pick [1] rfl).rd (Y.out.pick [9] rfl).rd)
      have HE2 := Lib.hid (eqQ _ _ (s0) (Y.out.pick [2] rfl).rd (Y.out.pick [8] rfl).rd)
      try simp only [List.append]
      go_big_quiet ((first | exact HE1.out _ | exact HE2.out _))
      clear HE1 HE2
      go_wp2_with fail
      have hT := (((((Y.out.drewN nq).pick [7, 3, 6, 2, 1] rfl).setCell 0 (.slice an0 (s0).length cn0)).setCell 1 (.slice an1 (s1).length cn1)).pick [1, 2, 0, 3, 4] rfl)
      clear Y n0 n1 t0 t1 ft0 ft1 p2
      have hT0 : (s0).length ≤ 300 := HS0.out
      have hT1 : (s1).length ≤ 300 := HS1.out
      have hTJ : (j).length ≤ 300 * (k + 1) := by have := HJ.out; omega
      have HT := Lib.hid hT
      have HT0 := Lib.hid hT0
      have HT1 := Lib.hid hT1
      have HTJ := Lib.hid hTJ
      clear hT hT0 hT1 hTJ
      go_wp2_with fail
      refine (slots_any _ HT.out (by have := HT0.out; simp only; omega) (by have := HT1.out; simp only; omega)).mono ?_
      rintro r0 x1 ⟨vn0, vn1, rfl, y1⟩
      obtain ⟨an0, cn0, rfl, y1a⟩ := y1.toRd
      obtain ⟨an1, cn1, rfl, y1b⟩ := y1a.sw2.toRd
      have y2 := y1b.alloc (.cells #[.slice an0 (s0).length cn0, .slice an1 (s1).length cn1] 34)
      obtain ⟨bn, hbn⟩ : ∃ x, x = x1.heap.size := ⟨_, rfl⟩
      rw [← hbn] at y2
      -- Cn, Rn1, Rn0, D, R4, Cs, R0, R1
      have Y2 := Lib.hid y2.sw4
      clear y1 y1a y1b y2 HT
      go_wp2_with fail
      rw [← hbn]
      clear hbn
      refine (log_any _ Y2.out (by have := HTJ.out; simp only; omega)).mono ?_
      rintro r0 x2 ⟨vl, rfl, y3⟩
      -- L, D, Cn, Rn1, Rn0, R4, Cs, R0, R1
      have n0 := y3.sw3.cell (o := 0) rfl
      have n1 := y3.sw3.cell (o := 1) rfl
      have t0 := y3.sw7.cell (o := 0) rfl
      have t1 := y3.sw7.cell (o := 1) rfl
      have Y3 := Lib.hid y3
      clear y3 Y2
      go_wp2_with fail
      refine (eqSame_any _ _ (j) _ Y3.out.sl Y3.out.sw6.rd).mono ?_
      rintro r0 x3 ⟨rfl, rfl⟩
      go_wp2_with fail
      refine (eqSame_any _ _ (s0) _ Y3.out.sw5.rd Y3.out.sw8.rd).mono ?_
      rintro r0 x3 ⟨rfl, rfl⟩
      go_wp2_with fail
      refine (eqSame_any _ _ (s1) _ Y3.out.sw4.rd Y3.out.sw9.rd).mono ?_
      rintro r0 x3 ⟨rfl, rfl⟩
      have Y4 := Lib.hid Y3.out.drop.sw2.drop.sw2.drop.sw2.drop
      clear Y3 n0 n1 t0 t1
      go_wp2_with fail
      refine ⟨⟨k + 1, j, _, _, _, _, by omega, by omega, ?hi, ?hv, ⟨s0, s1, _, _, _, _, _, _, HTJ.out, HT0.out, HT1.out, Y4.out⟩, _, _, _, _, _, _, _, _, _, _, _, _, _, _, _, _, _, _, _, _, _, _, _, _, _, _, _, _, _, _, _, _, _, _, _, _, _, _, _, _, _, _, _, _, _, _, _, _, _, _, _, _, _, _, _, _, _, _, _, _, _, _, _, _, _, _, _, _, _, _, _, _, _, _, _, _, _, _, _, _, _, _, _, _, _, _, _, _, _, _, _, _, _, _, _, _, _, _, _, _, _, _, _, _, _, _, _, _, _, _, _, _, _, _, _, _, _, _, _, _, _, _, _, _, _, _, _, _, _, _, _, _, _, _, _, _, _, _, _, _, _, _, _, _, _, _, _, _, _, _, _, _, _, _, _, _, _, _, _, _, _, _, _, _, _, _, _, _, _, _, _, _, _, _, _, _, _, _, _, _, _, _, _, _, _, _, _, _, _, _, _, _, _, _, _, _, _, _, _, _, _, _, _, _, _, _, _, _, _, _, _, _, _, _, _, _, _, _, _, _, _, _, _, _, _, _, _, _, _, _, _, _, _, _, _, _, _, _, _, _, _, _, _, _, _, _, _, _, _, _, _, _, _, _, _, _, _, _, _, _, _, _, rfl⟩, ?hm⟩
      case hi => go_num
      case hv => rfl
      case hm =>
        show 100 - ((k : Int) + 1).toNat < 100 - (k : Int).toNat
        omega
end Go.Proofs.Ytpnafgkoijnplaa
