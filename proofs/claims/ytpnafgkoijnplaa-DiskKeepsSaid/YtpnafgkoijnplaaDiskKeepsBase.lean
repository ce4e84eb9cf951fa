/- DiskKeeps: the loop's body, and what stands at its head. -/
import Derived.Test.YtpnafgkoijnplaaDiskStep
import Derived.Test.YtpnafgkoijnplaaDiskDos
import Derived.Test.YtpnafgkoijnplaaRdT
import Derived.Test.YtpnafgkoijnplaaSepPick
import Derived.Deep.QuietTactic
import Derived.BigQuiet
namespace Go.Proofs.Ytpnafgkoijnplaa
open Go.RowKit
set_option linter.unusedVariables false
set_option linter.unusedSimpArgs false
set_option linter.unusedVariables false
theorem br_nat' (i : Int) (k : Nat) : ∃ x : Nat, i % ((k : Int) + 1) = (x : Int) ∧ x ≤ k := by
  have h1 := Int.emod_nonneg i (show ((k : Int) + 1) ≠ 0 by omega)
  have h2 := Int.emod_lt_of_pos i (show 0 < ((k : Int) + 1) by omega)
  exact ⟨(i % ((k : Int) + 1)).toNat, by omega, by omega⟩
theorem armD_ex (D : DS) (n : Int) : ∃ x, D.armD n = ⟨D.j, D.s0, D.s1, D.dead, x⟩ := by
  unfold DS.armD
  split
  · exact ⟨_, rfl⟩
  · exact ⟨D.arm, rfl⟩
/-- Bytes that are the same, in a region that only reads. -/
theorem eqQ {W : World} (a b : Value) (l : List UInt8) (ha : Sl W a (bv l)) (hb : Sl W b (bv l)) (n : Nat) :
    Calls Try.prog 19 #[a, b] (W.drewN n) fun e w' => e = .returned (.bool true) ∧ ∃ m, w' = W.drewN m := by
  have hd : Below W.heap.size W (W.drewN n) := ⟨rfl, rfl, rfl, Nat.le_refl _, fun _ _ => rfl⟩
  exact (eqSame_any a b l (W.drewN n) (ha.below hd) (hb.below hd)).mono fun e w' ⟨h1, h2⟩ => ⟨h1, n, h2.symm⟩
/-- What stands at the loop's head. -/
def KeepS (w : World) (g s k : Nat) (a4 : Option Addr) (c4 : Nat) (j : List UInt8) (wr : World) : Prop :=
  ∃ (s0 s1 : List UInt8) (dead : Bool) (arm : Option Nat) (a0 a1 : Option Addr) (c0 c1 : Nat), j.length ≤ 300 * k ∧ s0.length ≤ 300 ∧ s1.length ≤ 300 ∧
    Sep w [DiskT g ⟨j, s0, s1, dead, arm⟩, RdT a4 c4 j, Cl s #[.slice a0 s0.length c0, .slice a1 s1.length c1] 34, RdT a0 c0 s0, RdT a1 c1 s1] wr
/-- The body of the first loop of a piece of code. -/
def loopIn : Code → Option Code
  | .loop c => some c
  | .seq a b => (match loopIn a with | some c => some c | none => loopIn b)
  | .block _ c => loopIn c
  | .scope c => loopIn c
  | .cond _ a b => (match loopIn a with | some c => some c | none => loopIn b)
  | _ => none
noncomputable def kbody : Code := ((Try.f4.body.bind loopIn).getD .skip)
set_option maxRecDepth 1000000 in
/-- The frame and the world at the loop's head. -/
def KI (w : World) (v0 : Value) (g s len : Nat) (a' : Act) (w' : World) : Prop :=
  ∃ (k : Nat) (j : List UInt8) (a4 : Option Addr) (c4 : Nat) (v4 i : Value), k ≤ len ∧ k ≤ 100 ∧ i = .int .i64 k ∧ v4 = .slice a4 j.length c4 ∧ KeepS w g s k a4 c4 j w' ∧
    ∃ u2 u7 u8 u9 u10 u11 u12 u13 u14 u15 u16 u17 u21 u22 u23 u24 u25 u26 u27 u28 u29 u30 u31 u32 u33 u34 u35 u36 u37 u38 u39 u40 u41 u42 u43 u44 u45 u46 u47 u48 u49 u50 u51 u52 u53 u54 u55 u56 u57 u58 u59 u60 u61 u62 u63 u64 u65 u66 u67 u68 u69 u70 u71 u72 u73 u74 u75 u76 u77 u78 u79 u80 u81 u82 u83 u84 u85 u86 u87 u88 u89 u90 u91 u92 u93 u94 u95 u96 u97 u98 u99 u100 u101 u102 u103 u104 u105 u106 u107 u108 u109 u110 u111 u112 u113 u114 u115 u116 u117 u118 u119 u120 u121 u122 u123 u124 u125 u126 u127 u128 u129 u130 u131 u132 u133 u134 u135 u136 u137 u138 u139 u140 u141 u142 u143 u144 u145 u146 u147 u148 u149 u150 u151 u152 u153 u154 u155 u156 u157 u158 u159 u160 u161 u162 u163 u164 u165 u166 u167 u168 u169 u170 u171 u172 u173 u174 u175 u176 u177 u178 u179 u180 u181 u182 u183 u184 u185 u186 u187 u188 u189 u190 u191 u192 u193 u194 u195 u196 u197 u198 u199 u200 u201 u202 u203 u204 u205 u206 u207 u208 u209 u210 u211 u212 u213 u214 u215 u216 u217 u218 u219 u220 u221 u222 u223 u224 u225 u226 u227 u228 u229 u230 u231 u232 u233 u234 u235 u236 u237 u238 u239 u240 u241 u242 u243 u244 u245 u246 u247 u248 u249 u250 u251 u252 u253 u254 u255 u256 u257 u258 u259 u260 u261 u262 u263 u264 u265 u266 u267 u268 u269 u270 : Value, a' = ⟨#[v0, undef, u2, .pointer (some ⟨g, 0, none⟩), v4, .pointer (some ⟨s, 0, none⟩), i, u7, u8, u9, u10, u11, u12, u13, u14, u15, u16, u17, .bool true, .bool false, .pointer (some ⟨g, 0, none⟩), u21, u22, u23, u24, u25, u26, u27, u28, u29, u30, u31, u32, u33, u34, u35, u36, u37, u38, u39, u40, u41, u42, u43, u44, u45, u46, u47, u48, u49, u50, u51, u52, u53, u54, u55, u56, u57, u58, u59, u60, u61, u62, u63, u64, u65, u66, u67, u68, u69, u70, u71, u72, u73, u74, u75, u76, u77, u78, u79, u80, u81, u82, u83, u84, u85, u86, u87, u88, u89, u90, u91, u92, u93, u94, u95, u96, u97, u98, u99, u100, u101, u102, u103, u104, u105, u106, u107, u108, u109, u110, u111, u112, u113, u114, u115, u116, u117, u118, u119, u120, u121, u122, u123, u124, u125, u126, u127, u128, u129, u130, u131, u132, u133, u134, u135, u136, u137, u138, u139, u140, u141, u142, u143, u144, u145, u146, u147, u148, u149, u150, u151, u152, u153, u154, u155, u156, u157, u158, u159, u160, u161, u162, u163, u164, u165, u166, u167, u168, u169, u170, u171, u172, u173, u174, u175, u176, u177, u178, u179, u180, u181, u182, u183, u184, u185, u186, u187, u188, u189, u190, u191, u192, u193, u194, u195, u196, u197, u198, u199, u200, u201, u202, u203, u204, u205, u206, u207, u208, u209, u210, u211, u212, u213, u214, u215, u216, u217, u218, u219, u220, u221, u222, u223, u224, u225, u226, u227, u228, u229, u230, u231, u232, u233, u234, u235, u236, u237, u238, u239, u240, u241, u242, u243, u244, u245, u246, u247, u248, u249, u250, u251, u252, u253, u254, u255, u256, u257, u258, u259, u260, u261, u262, u263, u264, u265, u266, u267, u268, u269, u270], []⟩
def Kmu (a' : Act) (_ : World) : Nat := 100 - (intOf (a'.tmps.getD 6 undef)).toNat
end Go.Proofs.Ytpnafgkoijnplaa
