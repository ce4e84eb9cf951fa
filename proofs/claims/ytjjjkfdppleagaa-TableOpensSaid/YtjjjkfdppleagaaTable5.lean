/- The seats, one behind the other: each as an iterator. -/
import Derived.Test.YtjjjkfdppleagaaTable3
import Derived.Test.YtjjjkfdppleagaaRangeSep
import Derived.Deep.MidRow
namespace Go.Proofs.Ytjjjkfdppleagaa
open Go Go.RowKit Go.Shelf
set_option linter.unusedVariables false
set_option linter.unusedSimpArgs false
attribute [local go_sem] Oper.semAt_some
def SW.whole5 (s : SW) : Array Value := #[.bool s.had, .int .i64 s.c, .int .i64 s.n, .int .i64 s.o, .int .i64 s.k, .int .i64 s.a, .int .i64 s.b]
def seatsOf (T : List SW) : List SW := T.filter (·.had)
theorem tnone_c {w : World} {g : Nat} (c0 : w.cell? ⟨g, 0, none⟩ = some (.bool true)) :
    Calls Try.prog 32 #[.pointer (some ⟨g, 0, none⟩)] w fun e w' => e = .returned (.bool false) ∧ w = w' := by
  go_enter Try.func32, Try.ntmps32
  go_wp2
  go_ret
  exact ⟨rfl, rfl⟩
theorem seat_cut (T : List SW) (k : Nat) (hk : k < T.length) : List.take 7 (List.drop (k * 7) (seatCells T)) = (T[k]).whole5.toList := by
  apply List.ext_getElem?
  intro j
  rw [List.getElem?_take]
  split
  · rename_i hj
    rw [List.getElem?_drop, seatCells_get T k j hk hj]
    rfl
  · rename_i hj
    rw [List.getElem?_eq_none]
    simp [SW.whole5]
    omega
theorem seat_index (T : List SW) (k : Nat) (hT : T.length = 8) (hk : k < 8) (w : World) : (Instr.index 71 (.agg (seatCells T).toArray) (.int .i64 k)).run Try.prog w = .ok (.agg (T[k]'(by omega)).whole5) w := by
  have h := seat_cut T k (by omega)
  have hi : (Try.prog.info? 33).map (·.size) = some 7 := by kernel_rfl
  cases hq : Try.prog.info? 33 with
  | none => rw [hq] at hi; cases hi
  | some i =>
    have hs : i.size = 7 := by rw [hq] at hi; simpa using hi
    simp [Instr.index, asIntOf, Try.underlying71, hk, part, isAgg, sizeOf, typeInfo, hq, hs, h]
theorem seat_load {w : World} {g : Nat} {T : List SW} (hT : T.length = 8) (hb : w.heap[g]? = some (.cells (tabCells T) 73 (0, 0))) : (Instr.loadAt 71 (.pointer (some ⟨g, 1, none⟩))).run Try.prog w = .ok (.agg (seatCells T).toArray) w := by
  refine run_loadAt_mid w g 1 _ (seatCells T) _ ?_ Try.underlying71 rfl ?_
  · intro j v hj
    unfold World.cell?
    rw [hb]
    simp [tabCells, Nat.add_comm 1 j, hj]
  · rw [seatCells_len, hT]; kernel_rfl
theorem wpListIn_load_run {F : Fence} {n : Nat} {P : Program} {ops : Array Oper} {rest : List Oper} {o : Oper} {a : Act} {w : World} {Q : Exit → Act → World → Prop} (hg : o.guard = none) (t : TypeId) (x : Operand) (hop : o.op = .load t x) (p v : Value) (hx : a.eval x = p)
    (hr : (Instr.loadAt t p).run P w = .ok v w) (hK : wpListIn F n P ops Q rest (a.put o.dst v) w) : wpListIn F n P ops Q (o :: rest) a w := by
  refine wpListIn_plain hg fun K' hK' => ?_
  unfold Oper.wpIn
  refine ⟨by simp [Oper.about, hop], ?_⟩
  rw [Oper.semAt_plain F _ _ (by rw [hop]; intro c hc; cases hc)]
  simp [execOp, hop, hx, hr, Result.andThen]
  exact hK' _ _ hK
theorem wpListIn_index_run {F : Fence} {n : Nat} {P : Program} {ops : Array Oper} {rest : List Oper} {o : Oper} {a : Act} {w : World} {Q : Exit → Act → World → Prop} (hg : o.guard = none) (t : TypeId) (x y : Operand) (hop : o.op = .index t x y) (p i v : Value) (hx : a.eval x = p) (hy : a.eval y = i)
    (hr : (Instr.index t p i).run P w = .ok v w) (hK : wpListIn F n P ops Q rest (a.put o.dst v) w) : wpListIn F n P ops Q (o :: rest) a w := by
  refine wpListIn_plain hg fun K' hK' => ?_
  unfold Oper.wpIn
  refine ⟨by simp [Oper.about, hop], ?_⟩
  rw [Oper.semAt_plain F _ _ (by rw [hop]; intro c hc; cases hc)]
  simp [execOp, hop, hx, hy, hr, Result.andThen]
  exact hK' _ _ hK
theorem seats_at (T : List SW) (k : Nat) (hk : k < T.length) (h : (T[k]).had = true) : seatsOf T = seatsOf (T.take k) ++ T[k] :: seatsOf (T.drop (k + 1)) := by
  unfold seatsOf
  conv => lhs; rw [← List.take_append_drop k T, List.filter_append, ← List.getElem_cons_drop hk, List.filter_cons_of_pos h]
theorem seats_hit (T : List SW) (k : Nat) (hk : k < T.length) (h : (T[k]).had = true) : seatsOf (T.take (k + 1)) = seatsOf (T.take k) ++ [T[k]] := by
  unfold seatsOf
  rw [List.take_succ_eq_append_getElem hk, List.filter_append, List.filter_cons_of_pos h, List.filter_nil]
theorem seats_miss (T : List SW) (k : Nat) (hk : k < T.length) (h : (T[k]).had = false) : seatsOf (T.take (k + 1)) = seatsOf (T.take k) := by
  unfold seatsOf
  rw [List.take_succ_eq_append_getElem hk, List.filter_append, List.filter_cons_of_neg (by simp [h]), List.filter_nil, List.append_nil]
set_option maxRecDepth 100000 in
set_option maxHeartbeats 4000000 in
theorem each_gives (n : Nat) (g : Nat) (T : List SW) (hT : T.length = 8) : Gives Fence.wide n Try.prog 41 #[.pointer (some ⟨g, 0, none⟩)] #[] (fun s : SW => #[s.val]) (seatsOf T) (fun W => W.heap[g]? = some (.cells (tabCells T) 73 (0, 0))) := by
  intro l J hJa hJd hY W hb h0
  have c0 : W.cell? ⟨g, 0, none⟩ = some (.bool true) := by unfold World.cell?; rw [hb]; simp [tabCells]
  have hld := seat_load hT hb
  have hix := fun k (hk : k < 8) w => seat_index T k hT hk w
  obtain ⟨cs, hcs⟩ : ∃ z, z = (seatCells T).toArray := ⟨_, rfl⟩
  rw [← hcs] at hld
  have HN := Lib.hid (tnone_c c0)
  refine callsIn_of_wp Try.func41 rfl trivial ?_ rfl
  simp only [Try.ntmps41, List.size_toArray, List.length_cons, List.length_nil, Nat.reduceAdd, Nat.reduceSub, Array.replicate_succ, Array.replicate_zero, List.push_toArray, List.append_toArray, List.nil_append, List.cons_append]
  have HIX : Hid (∀ (k : Nat) (hk : k < 8) (w : World), (Instr.index 71 (.agg cs) (.int .i64 k)).run Try.prog w = .ok (.agg (T[k]'(by omega)).whole5) w) := Lib.hid (by rw [hcs]; exact hix)
  clear hix hcs hb c0
  gi_wp2
  refine ⟨trivial, (fun h => (by cases h)), ?_⟩
  refine (callsIn_wide.2 HN.out).mono ?_
  rintro r0 w1 ⟨rfl, rfl⟩
  have HLD := Lib.hid hld
  clear HN hld
  gi_wp2_with (refine wpListIn_load_run rfl 71 (.tmp 10) rfl _ _ rfl HLD.out ?_)
  gi_loopw [12] (fun i wr => ∃ k : Nat, k ≤ 8 ∧ i = .int .i64 k ∧ J (seatsOf (T.take k)) wr) (fun i _ => 8 - (intOf i).toNat)
  case atStart => exact ⟨0, by omega, rfl, h0⟩
  case round =>
    obtain ⟨k, hk, rfl, hJs⟩ := hrel
    clear h0 HLD
    have k0 : (0 : Int) ≤ (k : Int) := by omega
    by_cases hk8 : k < 8
    · have d0 : decide ((k : Int) < 8) = true := decide_eq_true (by omega)
      have k9 : (k : Int) < 8 := by omega
      have hix := HIX.out k hk8 wr
      have hkT : k < T.length := by omega
      have hsa := seats_at T k hkT
      have hsh := seats_hit T k hkT
      have hsm := seats_miss T k hkT
      generalize hs : T[k]'(by omega) = s at hix hsa hsh hsm
      unfold SW.whole5 at hix
      have HK := Lib.hid hk8
      cases hhad : s.had with
      | true =>
        rw [hhad] at hix
        have HI := Lib.hid hix
        clear hix
        obtain ⟨fn, tmps, assign, body, hy, hR⟩ := hY _ s _ _ (hsa hhad) (hJa _ _ (.cells #[.bool true, .int .i64 s.c, .int .i64 s.n, .int .i64 s.o, .int .i64 s.k, .int .i64 s.a, .int .i64 s.b] 33) hJs)
        dsimp only [SW.val] at hy
        have HS := Lib.hid (hsh hhad)
        clear hsa hsh hsm hs hk8 hk hkT hJs hhad
        gi_wp2_with (refine wpListIn_index_run rfl 71 (.tmp 11) (.tmp 12) rfl _ _ _ rfl rfl HI.out ?_)
        refine ⟨(fun h => (by cases h)), ?_⟩
        refine hR.mono ?_
        rintro e W' ⟨rfl, hJ'⟩
        have HJ := Lib.hid hJ'
        clear hJ' HI hy hR
        gi_wp2
        go_roundw
        case rel => exact ⟨k + 1, HK.out, by go_num, by rw [HS.out]; exact HJ.out⟩
        case measure => have := HK.out; simp [intOf]; omega
      | false =>
        rw [hhad] at hix
        have HI := Lib.hid hix
        clear hix
        have HS := Lib.hid (And.intro (hsm hhad) (hJa _ _ (.cells #[.bool false, .int .i64 s.c, .int .i64 s.n, .int .i64 s.o, .int .i64 s.k, .int .i64 s.a, .int .i64 s.b] 33) hJs))
        clear hsa hsh hsm hs hk8 hk hkT hJs hhad
        gi_wp2_with (refine wpListIn_index_run rfl 71 (.tmp 11) (.tmp 12) rfl _ _ _ rfl rfl HI.out ?_)
        refine ⟨fun _ h => (by cases h), ?_⟩
        gi_wp2
        go_roundw
        case rel => exact ⟨k + 1, HK.out, by go_num, by rw [HS.out.1]; exact HS.out.2⟩
        case measure => have := HK.out; simp [intOf]; omega
    · have d0 : decide ((k : Int) < 8) = false := decide_eq_false (by omega)
      obtain rfl : k = 8 := by omega
      have HJ := Lib.hid hJs
      clear hJs hk hk8
      gi_wp2
      go_end0
      exact ⟨⟨_, rfl⟩, by have h8 := HJ.out; rwa [List.take_of_length_le (by omega)] at h8⟩
end Go.Proofs.Ytjjjkfdppleagaa
