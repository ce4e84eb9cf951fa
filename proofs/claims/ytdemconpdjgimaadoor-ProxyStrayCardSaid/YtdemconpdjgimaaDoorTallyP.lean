/- A tally: Add. -/
import Derived.Test.YtdemconpdjgimaaDoorPopP
import Derived.Deep.RegionHeld3
import Derived.Deep.QuietTactic
import Derived.BigQuiet
import Derived.Laws.ShiftsVarLaws
namespace Go.Proofs.YtdemconpdjgimaaDoor
open Go.RowKit
set_option linter.unusedVariables false
set_option linter.unusedSimpArgs false
def bitAt (s j : Nat) : Nat := s / 2 ^ j % 2
theorem bit_or (s i j : Nat) : bitAt (s ||| 2 ^ i) j = if i = j then 1 else bitAt s j := by
  have h : ∀ x y : Nat, bitAt x y = if x.testBit y then 1 else 0 := fun x y => by
    unfold bitAt
    rw [Nat.testBit_eq_decide_div_mod_eq]
    by_cases hx : x / 2 ^ y % 2 = 1
    · rw [hx]; rfl
    · have : x / 2 ^ y % 2 = 0 := by omega
      rw [this]; rfl
  rw [h, h, Nat.testBit_or, Nat.testBit_two_pow]
  by_cases hij : i = j
  · simp [hij]
  · simp [hij]
theorem popc_bits (s : Nat) : popc s = bitAt s 0 + bitAt s 1 + bitAt s 2 + bitAt s 3 + bitAt s 4 + bitAt s 5 + bitAt s 6 + bitAt s 7 + bitAt s 8 + bitAt s 9 + bitAt s 10 + bitAt s 11 + bitAt s 12 + bitAt s 13 + bitAt s 14 := by
  simp [popc, bitAt]
theorem popc_or (s i : Nat) (hi : i < 15) : popc (s ||| 2 ^ i) + bitAt s i = popc s + 1 := by
  have hall : i = 0 ∨ i = 1 ∨ i = 2 ∨ i = 3 ∨ i = 4 ∨ i = 5 ∨ i = 6 ∨ i = 7 ∨ i = 8 ∨ i = 9 ∨ i = 10 ∨ i = 11 ∨ i = 12 ∨ i = 13 ∨ i = 14 := by omega
  rw [popc_bits, popc_bits]
  simp only [bit_or]
  rcases hall with rfl | rfl | rfl | rfl | rfl | rfl | rfl | rfl | rfl | rfl | rfl | rfl | rfl | rfl | rfl
  all_goals simp; omega
theorem or_lt (s i : Nat) (hs : s < 32768) (hi : i < 15) : s ||| 2 ^ i < 32768 := by
  have h1 : 2 ^ i < 2 ^ 15 := Nat.pow_lt_pow_right (by omega) hi
  exact Nat.or_lt_two_pow (n := 15) (by simpa using hs) h1
def addS (S : List (Bal × Nat)) (x : Bal) (who : Nat) : List (Bal × Nat) := mset (mens S x 0) x ((mget S x).getD 0 ||| 2 ^ who)
theorem addS_get (S : List (Bal × Nat)) (x y : Bal) (who : Nat) : mget (addS S x who) y = if y = x then some ((mget S x).getD 0 ||| 2 ^ who) else mget S y := mget_put _ _ _ _
/-- All sets are of replicas below 15. -/
def Small (S : List (Bal × Nat)) : Prop := ∀ y, (mget S y).getD 0 < 32768
theorem small_add {S : List (Bal × Nat)} (h : Small S) (x : Bal) (who : Nat) (hw : who < 15) : Small (addS S x who) := by
  intro y
  rw [addS_get]
  split
  · exact or_lt _ _ (h x) hw
  · exact h y
/-- One step of a region that draws: its run is known. -/
theorem step_lookup_run {P : Program} {ops : Array Oper} {o : Oper} {a : Act} {w : World} {K : Act → World → Prop} {Q : Exit → Act → World → Prop} {E : Prop}
    (hg : o.guard = none) (m x : Operand) (t : TypeId) (c : Bool) (hop : o.op = Op.lookup t m x c) (mv xv : Value) (hm : a.eval m = mv) (hx : a.eval x = xv) {v : Value} (hr : (Instr.lookup t mv xv c).run P w = .ok v w) (hK : K (a.put o.dst v) w) :
    if Region.wanted o (yielded ops a.tmps) = true then Oper.wp P o a w K Q else E := by
  have hw : Region.wanted o (yielded ops a.tmps) = true := by simp [Region.wanted, hg]
  rw [if_pos hw]
  unfold Oper.wp
  simp [execOp, hop, hm, hx, hr, Result.andThen]
  exact hK
theorem step_entry_run {P : Program} {ops : Array Oper} {o : Oper} {a : Act} {w w' : World} {K : Act → World → Prop} {Q : Exit → Act → World → Prop} {E : Prop}
    (hg : o.guard = none) (m x : Operand) (t : TypeId) (hop : o.op = Op.mapEntry t m x) (mv xv : Value) (hm : a.eval m = mv) (hx : a.eval x = xv) {v : Value} (hr : (Instr.mapEntry t mv xv).run P w = .ok v w') (hK : K (a.put o.dst v) w') :
    if Region.wanted o (yielded ops a.tmps) = true then Oper.wp P o a w K Q else E := by
  have hw : Region.wanted o (yielded ops a.tmps) = true := by simp [Region.wanted, hg]
  rw [if_pos hw]
  unfold Oper.wp
  simp [execOp, hop, hm, hx, hr, Result.andThen]
  exact hK
theorem step_estore_run {P : Program} {ops : Array Oper} {o : Oper} {a : Act} {w w' : World} {K : Act → World → Prop} {Q : Exit → Act → World → Prop} {E : Prop}
    (hg : o.guard = none) (m x y : Operand) (t : TypeId) (hop : o.op = Op.entryStore t m x y) (mv xv yv : Value) (hm : a.eval m = mv) (hx : a.eval x = xv) (hy : a.eval y = yv) (hr : (Instr.entryStore t mv xv yv).run P w = .ok () w') (hK : K (a.put o.dst undef) w') :
    if Region.wanted o (yielded ops a.tmps) = true then Oper.wp P o a w K Q else E := by
  have hw : Region.wanted o (yielded ops a.tmps) = true := by simp [Region.wanted, hg]
  rw [if_pos hw]
  unfold Oper.wp
  simp [execOp, hop, hm, hx, hy, hr, Result.andThen]
  exact hK
set_option maxRecDepth 100000 in
set_option maxHeartbeats 2000000 in
theorem add_ok {w0 w : World} {g b n : Nat} {S : List (Bal × Nat)} {L : List Thing} (x : Bal) (who : Nat) (h : Sep w0 (TalC g b n :: BalM b S :: L) w) (hw : who < n) (hn : n ≤ 15) (hS : Small S) :
    Calls Tryd.prog 36 #[.pointer (some ⟨g, 0, none⟩), balV x, .int .i64 who] w fun e w' =>
      e = .returned (.tuple #[.int .i64 (popc ((mget S x).getD 0 ||| 2 ^ who) : Nat), .int .i64 0]) ∧ Sep w0 (TalC g b n :: BalM b (addS S x who) :: L) w' := by
  obtain ⟨bx, hbx⟩ : ∃ k, k = w.heap.size := ⟨_, rfl⟩
  obtain ⟨wa, hwa⟩ : ∃ k, k = w.alloc (.cells #[.int .i64 x.1.1, .int .i64 x.1.2.1, .int .i64 x.1.2.2.1, .int .i64 x.1.2.2.2.1, .int .i64 x.1.2.2.2.2] 81) := ⟨_, rfl⟩
  have h1 := h.alloc (.cells #[.int .i64 x.1.1, .int .i64 x.1.2.1, .int .i64 x.1.2.2.1, .int .i64 x.1.2.2.2.1, .int .i64 x.1.2.2.2.2] 81)
  rw [← hbx, ← hwa] at h1
  have hlook := map_look (t := 93) balOk Tryd.underlying93 (zeroU _) h1.drew.sw3 x false
  have hv0 : ((mget S x).map setV).getD (setV 0) = .int .u64 ((mget S x).getD 0 : Nat) := by cases mget S x <;> rfl
  rw [hv0] at hlook
  obtain ⟨st, w2, hent, h2⟩ := map_entry (t := 93) (zb := 0) balOk Tryd.underlying93 zeroU h1.drew.sw3 x
  obtain ⟨w3, hsto, h3⟩ := map_store (P := Tryd.prog) (t := 93) h2 ((mget S x).getD 0 ||| 2 ^ who)
  have h3' : Sep w0 (BalM b (addS S x who) :: Cl bx #[.int .i64 x.1.1, .int .i64 x.1.2.1, .int .i64 x.1.2.2.1, .int .i64 x.1.2.2.2.1, .int .i64 x.1.2.2.2.2] 81 :: TalC g b n :: L) w3 := h3
  have hlook2 := map_look (t := 93) balOk Tryd.underlying93 (zeroU _) h3'.drew x false
  have hlook3 := map_look (t := 93) balOk Tryd.underlying93 (zeroU _) h2.mapE x false
  rw [mget_mens, show ((some ((mget S x).getD 0)).map setV).getD (setV 0) = .int .u64 ((mget S x).getD 0 : Nat) from rfl] at hlook3
  have hs0 := hS x
  have hs1 := or_lt _ who (hS x) (by omega)
  rw [show ((mget (addS S x who) x).map setV).getD (setV 0) = .int .u64 ((mget S x).getD 0 ||| 2 ^ who : Nat) by rw [addS_get, if_pos rfl]; rfl] at hlook2
  generalize (mget S x).getD 0 = s at *
  have hor : bits BinOp.or IntKind.u64 (s : Int) (IntKind.u64.wrap (2 ^ who)) = ((s ||| 2 ^ who : Nat) : Int) := by
    have hp : 2 ^ who < 2 ^ 15 := Nat.pow_lt_pow_right (by omega) (by omega)
    rw [show (2 : Int) ^ who = ((2 ^ who : Nat) : Int) by simp]
    generalize 2 ^ who = pw at hp ⊢
    rw [show IntKind.u64.wrap (pw : Int) = (pw : Int) by rw [IntKind.wrap_u64]; omega]
    exact bits_or_u64_nat s pw (by omega) (by omega)
  generalize s ||| 2 ^ who = s2 at *
  have HO := Lib.hid (ones_any s2 w3.drew hs1)
  have HN := Lib.hid (tnone_any h1.sw2)
  have q0 := h1.sw2.cell (o := 0) (x := .int .i64 n) rfl
  have q1 := h1.sw2.cell (o := 1) (x := .map (some b)) rfl
  have r0 := h1.cell (o := 0) (x := .int .i64 x.1.1) rfl
  have r1 := h1.cell (o := 1) (x := .int .i64 x.1.2.1) rfl
  have r2 := h1.cell (o := 2) (x := .int .i64 x.1.2.2.1) rfl
  have r3 := h1.cell (o := 3) (x := .int .i64 x.1.2.2.2.1) rfl
  have r4 := h1.cell (o := 4) (x := .int .i64 x.1.2.2.2.2) rfl
  have z1 := h3'.sw3.cell (o := 1) (x := .map (some b)) rfl
  have y0 := h3'.sw2.cell (o := 0) (x := .int .i64 x.1.1) rfl
  have y1 := h3'.sw2.cell (o := 1) (x := .int .i64 x.1.2.1) rfl
  have y2 := h3'.sw2.cell (o := 2) (x := .int .i64 x.1.2.2.1) rfl
  have y3 := h3'.sw2.cell (o := 3) (x := .int .i64 x.1.2.2.2.1) rfl
  have y4 := h3'.sw2.cell (o := 4) (x := .int .i64 x.1.2.2.2.2) rfl
  unfold balV at hlook hent hlook2 hlook3
  have u1 := h2.sw3.cell (o := 1) (x := .map (some b)) rfl
  have v0 := h2.sw2.cell (o := 0) (x := .int .i64 x.1.1) rfl
  have v1 := h2.sw2.cell (o := 1) (x := .int .i64 x.1.2.1) rfl
  have v2 := h2.sw2.cell (o := 2) (x := .int .i64 x.1.2.2.1) rfl
  have v3 := h2.sw2.cell (o := 3) (x := .int .i64 x.1.2.2.2.1) rfl
  have v4 := h2.sw2.cell (o := 4) (x := .int .i64 x.1.2.2.2.2) rfl
  unfold goInt at hsto hent
  unfold setV at hsto hent
  have H3 := Lib.hid h3'
  clear h hv0 h1 h2 h3 h3' hs0 hs1 hS
  unfold balV
  have k0 : (0 : Int) ≤ (who : Int) := by omega
  have k1 : (who : Int) < (n : Int) := by omega
  have k2 : decide (who < n) = true := decide_eq_true hw
  have k3 : decide (n ≤ who) = false := decide_eq_false (by omega)
  have k4 : (who : Int) < 64 := by omega
  go_enter Tryd.func36, Tryd.ntmps36
  go_wp2_with fail
  rw [← hwa, ← hbx]
  clear hwa hbx
  refine HN.out.mono ?_
  rintro r0 w1 ⟨rfl, rfl⟩
  go_wp2_with fail
  go_region_held3 (fun w' => w'.cell? ⟨g, 1, none⟩ = some (.map (some b)) ∧ w'.cell? ⟨bx, 0, none⟩ = some (.int .i64 x.1.1) ∧ w'.cell? ⟨bx, 1, none⟩ = some (.int .i64 x.1.2.1) ∧ w'.cell? ⟨bx, 2, none⟩ = some (.int .i64 x.1.2.2.1) ∧ w'.cell? ⟨bx, 3, none⟩ = some (.int .i64 x.1.2.2.2.1) ∧ w'.cell? ⟨bx, 4, none⟩ = some (.int .i64 x.1.2.2.2.2)) (go_keep) (fail)
  all_goals
    clear HN q0 q1 r0 r1 r2 r3 r4 u1 v0 v1 v2 v3 v4 hlook hlook3 hent hsto hor k0 k1 k2 k3 k4
    go_wp2_with fail
    go_region_held3 (fun w' => w'.cell? ⟨g, 1, none⟩ = some (.map (some b)) ∧ w'.cell? ⟨bx, 0, none⟩ = some (.int .i64 x.1.1) ∧ w'.cell? ⟨bx, 1, none⟩ = some (.int .i64 x.1.2.1) ∧ w'.cell? ⟨bx, 2, none⟩ = some (.int .i64 x.1.2.2.1) ∧ w'.cell? ⟨bx, 3, none⟩ = some (.int .i64 x.1.2.2.2.1) ∧ w'.cell? ⟨bx, 4, none⟩ = some (.int .i64 x.1.2.2.2.2)) (go_keep) ((go_at_call 49; refine Calls.mono HO.out ?_; rintro r9 w9 ⟨rfl, rfl⟩))
    go_wp2_with fail
    go_ret2
    exact ⟨rfl, (H3.out.drew).pickL (M := [BalM b (addS S x who), Cl bx #[.int .i64 x.1.1, .int .i64 x.1.2.1, .int .i64 x.1.2.2.1, .int .i64 x.1.2.2.2.1, .int .i64 x.1.2.2.2.2] 81, TalC g b n]) [2, 0] rfl⟩
end Go.Proofs.YtdemconpdjgimaaDoor
