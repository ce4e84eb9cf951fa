/- Ballots, how many are enough, tallies: what they are; the calls that only look. -/
import Derived.Test.YtdemconpdjgimaaDoorSepPick
import Derived.Test.YtdemconpdjgimaaDoorMap
import Derived.DeepKeys4
import Derived.IntWalk
namespace Go.Proofs.YtdemconpdjgimaaDoor
open Go.RowKit
set_option linter.unusedVariables false
set_option linter.unusedSimpArgs false
theorem Sep.frozen {w0 w : World} {g : Nat} {xs : Array Value} {t : TypeId} {L : List Thing} (h : Sep w0 (Cl g xs t :: L) w) (o : Nat) : w.frozen? ⟨g, o, none⟩ = false := by
  unfold World.frozen?; rw [h.blk]; simp
abbrev IQ (n : Int) : Prop := -9223372036854775808 ≤ n ∧ n ≤ 9223372036854775807
/-- A ballot: view, op, code, a, b. -/
abbrev Bal := { x : Int × Int × Int × Int × Int // IQ x.1 ∧ IQ x.2.1 ∧ IQ x.2.2.1 ∧ IQ x.2.2.2.1 ∧ IQ x.2.2.2.2 }
def balV (x : Bal) : Value := .agg #[.int .i64 x.1.1, .int .i64 x.1.2.1, .int .i64 x.1.2.2.1, .int .i64 x.1.2.2.2.1, .int .i64 x.1.2.2.2.2]
def setV (s : Nat) : Value := .int .u64 s
theorem wf_of {n : Int} (h : IQ n) : (Lit.int .i64 n).wf = true := by
  obtain ⟨h1, h2⟩ := h
  simp [Lit.wf, IntKind.min, IntKind.max, IntKind.signed, IntKind.bits]
  omega
theorem leafInt (d : Nat) (n : Int) (h : (Lit.int .i64 n).wf = true) : Tryd.prog.keyLits (d + 1) 3 [.int .i64 n] = some [.int .i64 n] := by
  unfold Program.keyLits
  rw [Tryd.underlying3]
  simp [h]
theorem balLaid : laidOutB Tryd.prog = true := by kernel_rfl
theorem balWide : (match Tryd.prog.underlying 81 with | some (.array _ _) | some (.struct _) => true | _ => false) = true := by kernel_rfl
theorem balKey : Tryd.prog.keyType 81 = true := by kernel_rfl
theorem balCells : Tryd.prog.cellsOf 81 = 5 := by kernel_rfl
theorem resCells : Tryd.prog.cellsOf 38 = 3 := by kernel_rfl
theorem intCells : Tryd.prog.cellsOf 3 = 1 := by kernel_rfl
theorem leafRes (d : Nat) (a b c : Int) (ha : (Lit.int .i64 a).wf = true) (hb : (Lit.int .i64 b).wf = true) (hc : (Lit.int .i64 c).wf = true) :
    Tryd.prog.keyLits (d + 2) 38 [.int .i64 a, .int .i64 b, .int .i64 c] = some [.int .i64 a, .int .i64 b, .int .i64 c] := by
  unfold Program.keyLits
  rw [Tryd.underlying38]
  simp [resCells, intCells, leafInt, ha, hb, hc]
theorem leafBal (d : Nat) (a b c x y : Int) (ha : (Lit.int .i64 a).wf = true) (hb : (Lit.int .i64 b).wf = true) (hc : (Lit.int .i64 c).wf = true) (hx : (Lit.int .i64 x).wf = true) (hy : (Lit.int .i64 y).wf = true) :
    Tryd.prog.keyLits (d + 3) 81 [.int .i64 a, .int .i64 b, .int .i64 c, .int .i64 x, .int .i64 y] = some [.int .i64 a, .int .i64 b, .int .i64 c, .int .i64 x, .int .i64 y] := by
  unfold Program.keyLits
  rw [Tryd.underlying81]
  simp [balCells, resCells, intCells, leafInt, leafRes, ha, hb, hc, hx, hy]
set_option maxRecDepth 100000 in
theorem balKeyOf (x : Bal) : ∃ l, keyOf Tryd.prog 81 (balV x) = some l := by
  obtain ⟨⟨a, b, c, d, e⟩, ha, hb, hc, hd, he⟩ := x
  have wa := wf_of ha
  have wb := wf_of hb
  have wc := wf_of hc
  have wd := wf_of hd
  have we := wf_of he
  have hf : (balV ⟨⟨a, b, c, d, e⟩, ha, hb, hc, hd, he⟩).formed Tryd.prog 81 = true := by
    simp [balV, Value.formed, Tryd.underlying81, balCells]
  unfold keyOf
  rw [Tryd.underlying81]
  dsimp only
  rw [if_pos (by rw [balKey, hf]; rfl)]
  obtain ⟨m, hm⟩ : ∃ m, Tryd.prog.types.size = m + 3 := ⟨Tryd.prog.types.size - 3, by have : 3 ≤ Tryd.prog.types.size := of_decide_eq_true (by kernel_rfl); omega⟩
  rw [hm]
  rw [show m + 3 + 1 = (m + 1) + 3 by omega]
  exact ⟨_, by rw [show (balV ⟨⟨a, b, c, d, e⟩, ha, hb, hc, hd, he⟩).cells.toList = [.int .i64 a, .int .i64 b, .int .i64 c, .int .i64 d, .int .i64 e] from rfl, leafBal _ a b c d e wa wb wc wd we]; rfl⟩
set_option maxRecDepth 100000 in
theorem balOk : KeyOk Tryd.prog 81 balV where
  law := Go.Maps.Keyed.of_law (deep_law_laid balLaid (m := 4) (by omega) (of_decide_eq_true (by kernel_rfl)) (by kernel_rfl) balWide)
  key := balKeyOf
  inj := by
    rintro ⟨⟨a, b, c, d, e⟩, ha⟩ ⟨⟨a', b', c', d', e'⟩, ha'⟩ h
    simp only [balV, Value.agg.injEq, Array.mk.injEq, List.cons.injEq, Value.int.injEq, true_and, and_true] at h
    obtain ⟨rfl, rfl, rfl, rfl, rfl⟩ := h
    rfl
theorem zeroU (w : World) : (zeroValue 96).run Tryd.prog w = .ok (setV 0) w := by kernel_rfl
def enough (n : Int) : Int := if 3 ≤ n ∧ n ≤ 15 ∧ n % 2 = 1 then (n + 1) / 2 else 0
theorem enough_any (n : Int) (w : World) (hn : IQ n) : Calls Tryd.prog 28 #[.int .i64 n] w fun e w' => e = .returned (.int .i64 (enough n)) ∧ w = w' := by
  obtain ⟨hn1, hn2⟩ := hn
  by_cases h1 : n ≤ 0
  · have he : enough n = 0 := if_neg (by omega)
    rw [he]
    by_cases hm : n = -9223372036854775808
    · subst hm
      have e1 : wrap64 (-9223372036854775809) = 9223372036854775807 := by kernel_rfl
      have e2 : (9223372036854775807 : Int).tdiv 2 = 4611686018427387903 := by decide
      have e3 : wrap64 4611686018427387903 = 4611686018427387903 := by kernel_rfl
      go_enter Tryd.func28, Tryd.ntmps28
      go_wp2
      go_ret
      exact ⟨rfl, rfl⟩
    · have hw : IntKind.i64.wrap (n - 1) = n - 1 := IntWalk.i64_in _ (by omega)
      have hq : (n - 1).tdiv 2 < 1 := by
        have : (n - 1).tdiv 2 = -((1 - n) / 2) := by
          rw [show n - 1 = -(1 - n) by omega, Int.neg_tdiv, Int.tdiv_eq_ediv_of_nonneg (by omega)]
        omega
      go_enter Tryd.func28, Tryd.ntmps28
      go_wp2
      go_ret
      exact ⟨rfl, rfl⟩
  · by_cases h2 : n ≤ 16
    · obtain ⟨k, rfl⟩ : ∃ k : Nat, n = k := ⟨n.toNat, by omega⟩
      have hk1 : 1 ≤ k := by omega
      have hk2 : k ≤ 16 := by omega
      clear h1 h2 hn1 hn2
      have hall : k = 1 ∨ k = 2 ∨ k = 3 ∨ k = 4 ∨ k = 5 ∨ k = 6 ∨ k = 7 ∨ k = 8 ∨ k = 9 ∨ k = 10 ∨ k = 11 ∨ k = 12 ∨ k = 13 ∨ k = 14 ∨ k = 15 ∨ k = 16 := by omega
      rcases hall with rfl | rfl | rfl | rfl | rfl | rfl | rfl | rfl | rfl | rfl | rfl | rfl | rfl | rfl | rfl | rfl
      all_goals
        clear hk1 hk2
        unfold enough
        go_enter Tryd.func28, Tryd.ntmps28
        go_wp2
        go_ret
        exact ⟨rfl, rfl⟩
    · have he : enough n = 0 := if_neg (by omega)
      rw [he]
      have h3 : 0 ≤ n - 1 := by omega
      have h4 : ¬ (n - 1) / 2 < 1 := by omega
      have h5 : 7 < (n - 1) / 2 := by omega
      go_enter Tryd.func28, Tryd.ntmps28
      go_wp2
      go_ret
      exact ⟨rfl, rfl⟩
/-- A tally's own block, and the map that it leads to. -/
abbrev TalC (g b : Nat) (n : Int) : Thing := Cl g #[.int .i64 n, .map (some b)] 95
abbrev BalM (b : Nat) (S : List (Bal × Nat)) : Thing := MapT balV setV b S
set_option maxRecDepth 100000 in
theorem tnone_any {w0 w : World} {g b : Nat} {n : Int} {L : List Thing} (h : Sep w0 (TalC g b n :: L) w) :
    Calls Tryd.prog 48 #[.pointer (some ⟨g, 0, none⟩)] w fun e w' => e = .returned (.bool false) ∧ w = w' := by
  have c0 := h.cell (o := 1) (x := .map (some b)) rfl
  have hq := run_eql_map_nil w Tryd.underlying93 b
  clear h
  go_enter Tryd.func48, Tryd.ntmps48
  go_wp2
  go_ret
  exact ⟨rfl, rfl⟩
set_option maxRecDepth 100000 in
theorem newTally_bad (n : Int) (w : World) (hn : IQ n) (h : enough n = 0) :
    Calls Tryd.prog 41 #[.int .i64 n] w fun e w' => e = .returned (.tuple #[.pointer none, .int .i64 2]) ∧ w = w' := by
  have he := enough_any n w hn
  rw [h] at he
  have HE := Lib.hid he
  clear he h hn
  go_enter Tryd.func41, Tryd.ntmps41
  go_wp2_with fail
  refine HE.out.mono ?_
  rintro r0 w1 ⟨rfl, rfl⟩
  go_wp2_with fail
  go_ret2
  exact ⟨rfl, rfl⟩
set_option maxRecDepth 100000 in
theorem newTally_ok {w0 : World} {L : List Thing} (n : Int) (w : World) (hs : Sep w0 L w) (hn : IQ n) (h : enough n ≠ 0) :
    Calls Tryd.prog 41 #[.int .i64 n] w fun e w' => ∃ g b, e = .returned (.tuple #[.pointer (some ⟨g, 0, none⟩), .int .i64 0]) ∧ Sep w0 (TalC g b n :: BalM b [] :: L) w' := by
  have he := enough_any n w hn
  have hz : (enough n == 0) = false := beq_eq_false_iff_ne.2 h
  have HE := Lib.hid he
  have h1 := (hs.newMap (kv := balV) (vv := setV)).alloc (.cells #[.int .i64 n, .map (some w.heap.size)] 95)
  rw [show (w.alloc (.map #[] 0)).heap.size = w.heap.size + 1 by simp] at h1
  have H1 := Lib.hid h1
  have hmm := @run_makeMap Tryd.prog
  clear he h hn h1 hs
  go_enter Tryd.func41, Tryd.ntmps41
  go_wp2_with fail
  refine HE.out.mono ?_
  rintro r0 w1 ⟨rfl, rfl⟩
  go_wp2_with fail
  go_ret2
  exact ⟨_, _, rfl, H1.out⟩
end Go.Proofs.YtdemconpdjgimaaDoor
