/- A tally: Won. -/
import Derived.Test.YtidbniigfkocpaaWon
namespace Go.Proofs.Ytidbniigfkocpaa
open Go.RowKit
set_option linter.unusedVariables false
set_option linter.unusedSimpArgs false
def balZ : Bal := ⟨(0, 0, 0, 0, 0), by decide⟩
def cellsB (x : Bal) : Array Value := #[.int .i64 x.1.1, .int .i64 x.1.2.1, .int .i64 x.1.2.2.1, .int .i64 x.1.2.2.2.1, .int .i64 x.1.2.2.2.2]
/-- The first of those that have come, of those that enough are for. -/
def BestOk (E : Int) (S : List (Bal × Nat)) (done : List Bal) (o : Option Bal) : Prop :=
  (o = none → ∀ p ∈ S, p.1 ∈ done → ¬ E ≤ popc p.2) ∧ ∀ x, o = some x → (∃ p ∈ S, p.1 = x ∧ E ≤ popc p.2) ∧ ∀ p ∈ S, p.1 ∈ done → E ≤ popc p.2 → ¬ cmpB p.1 x < 0
def WonOk (E : Int) (S : List (Bal × Nat)) (o : Option Bal) : Prop :=
  (o = none → ∀ p ∈ S, ¬ E ≤ popc p.2) ∧ ∀ x, o = some x → (∃ p ∈ S, p.1 = x ∧ E ≤ popc p.2) ∧ ∀ p ∈ S, E ≤ popc p.2 → ¬ cmpB p.1 x < 0
theorem keys_one {S : List (Bal × Nat)} (hn : (S.map (·.1)).Nodup) {p q : Bal × Nat} (hp : p ∈ S) (hq : q ∈ S) (h : p.1 = q.1) : p = q := by
  have h1 := mget_mem hn hp
  have h2 := mget_mem hn hq
  rw [h, h2] at h1
  exact Prod.ext h (Option.some.inj h1).symm
theorem best_skip {E : Int} {S : List (Bal × Nat)} {done : List Bal} {o : Option Bal} (hn : (S.map (·.1)).Nodup) (h : BestOk E S done o) {p : Bal × Nat} (hp : p ∈ S) (hs : ¬ E ≤ popc p.2) : BestOk E S (p.1 :: done) o := by
  refine ⟨fun ho q hq hqd => ?_, fun x hx => ⟨(h.2 x hx).1, fun q hq hqd hE => ?_⟩⟩
  · rcases List.mem_cons.1 hqd with he | hqd
    · rw [keys_one hn hq hp he]; exact hs
    · exact h.1 ho q hq hqd
  · rcases List.mem_cons.1 hqd with he | hqd
    · rw [keys_one hn hq hp he] at hE; exact absurd hE hs
    · exact (h.2 x hx).2 q hq hqd hE
theorem best_stay {E : Int} {S : List (Bal × Nat)} {done : List Bal} {x : Bal} (hn : (S.map (·.1)).Nodup) (h : BestOk E S done (some x)) {p : Bal × Nat} (hp : p ∈ S) (hs : ¬ cmpB p.1 x < 0) : BestOk E S (p.1 :: done) (some x) := by
  refine ⟨(fun ho => by cases ho), fun y hy => ?_⟩
  cases hy
  refine ⟨(h.2 x rfl).1, fun q hq hqd hE => ?_⟩
  rcases List.mem_cons.1 hqd with he | hqd
  · rw [he]; exact hs
  · exact (h.2 x rfl).2 q hq hqd hE
theorem cmpB_refl (x : Bal) : ¬ cmpB x x < 0 := by rw [cmpB_lt]; omega
theorem best_take {E : Int} {S : List (Bal × Nat)} {done : List Bal} {o : Option Bal} (hn : (S.map (·.1)).Nodup) (h : BestOk E S done o) {p : Bal × Nat} (hp : p ∈ S) (hE : E ≤ popc p.2) (hs : ∀ x, o = some x → cmpB p.1 x < 0) : BestOk E S (p.1 :: done) (some p.1) := by
  refine ⟨(fun ho => by cases ho), fun y hy => ?_⟩
  cases hy
  refine ⟨⟨p, hp, rfl, hE⟩, fun q hq hqd hq2 => ?_⟩
  rcases List.mem_cons.1 hqd with he | hqd
  · rw [he]; exact cmpB_refl _
  · cases o with
    | none => exact absurd hq2 (h.1 rfl q hq hqd)
    | some x => exact fun hlt => (h.2 x rfl).2 q hq hqd hq2 (cmpB_trans hlt (hs x rfl))
theorem best_all {E : Int} {S : List (Bal × Nat)} {done : List Bal} {o : Option Bal} (h : BestOk E S done o) (hd : ∀ p ∈ S, p.1 ∈ done) : WonOk E S o :=
  ⟨fun ho p hp => h.1 ho p hp (hd p hp), fun x hx => ⟨(h.2 x hx).1, fun p hp hE => (h.2 x hx).2 p hp (hd p hp) hE⟩⟩
theorem Sep.iterKeys {w0 w : World} {b r cnt : Nat} {S : List (Bal × Nat)} {done : List Bal} {last : Option (Bal × Nat)} {L : List Thing} (h : Sep w0 (IterT balV setV b r S done last cnt :: L) w) : (S.map (·.1)).Nodup := by
  obtain ⟨F, ⟨⟨es, c, sn, c0, hb, M, _⟩, _⟩, _⟩ := h.head
  exact M.keys
theorem compare_sep {w0 w : World} {L : List Thing} (x y : Bal) (h : Sep w0 L w) : Calls Try.prog 33 #[balV x, balV y] w fun e w' => e = .returned (.int .i64 (cmpB x y)) ∧ Sep w0 L w' :=
  (compare_any x y w).mono fun e w' ⟨h1, h2⟩ => ⟨h1, h.below h2⟩
theorem bal_cells {w0 w : World} {bq : Nat} {x : Bal} {L : List Thing} (h : Sep w0 (Cl bq (cellsB x) 34 :: L) w) :
    w.cell? ⟨bq, 0, none⟩ = some (.int .i64 x.1.1) ∧ w.cell? ⟨bq, 1, none⟩ = some (.int .i64 x.1.2.1) ∧ w.cell? ⟨bq, 2, none⟩ = some (.int .i64 x.1.2.2.1) ∧ w.cell? ⟨bq, 3, none⟩ = some (.int .i64 x.1.2.2.2.1) ∧ w.cell? ⟨bq, 4, none⟩ = some (.int .i64 x.1.2.2.2.2) :=
  ⟨h.cell rfl, h.cell rfl, h.cell rfl, h.cell rfl, h.cell rfl⟩
theorem won_cells {w0 w : World} {bq bb g b r cnt : Nat} {n : Int} {x y : Bal} {S : List (Bal × Nat)} {done : List Bal} {last : Option (Bal × Nat)} {L : List Thing} (h : Sep w0 (Cl bq (cellsB x) 34 :: IterT balV setV b r S done last cnt :: Cl bb (cellsB y) 34 :: TalC g b n :: L) w) :
    w.cell? ⟨g, 0, none⟩ = some (.int .i64 n) ∧ w.cell? ⟨bq, 0, none⟩ = some (.int .i64 x.1.1) ∧ w.cell? ⟨bq, 1, none⟩ = some (.int .i64 x.1.2.1) ∧ w.cell? ⟨bq, 2, none⟩ = some (.int .i64 x.1.2.2.1) ∧ w.cell? ⟨bq, 3, none⟩ = some (.int .i64 x.1.2.2.2.1) ∧ w.cell? ⟨bq, 4, none⟩ = some (.int .i64 x.1.2.2.2.2) ∧
      w.cell? ⟨bb, 0, none⟩ = some (.int .i64 y.1.1) ∧ w.cell? ⟨bb, 1, none⟩ = some (.int .i64 y.1.2.1) ∧ w.cell? ⟨bb, 2, none⟩ = some (.int .i64 y.1.2.2.1) ∧ w.cell? ⟨bb, 3, none⟩ = some (.int .i64 y.1.2.2.2.1) ∧ w.cell? ⟨bb, 4, none⟩ = some (.int .i64 y.1.2.2.2.2) := by
  obtain ⟨a0, a1, a2, a3, a4⟩ := bal_cells h
  obtain ⟨b0, b1, b2, b3, b4⟩ := bal_cells h.sw3
  exact ⟨h.sw4.cell rfl, a0, a1, a2, a3, a4, b0, b1, b2, b3, b4⟩
theorem bal_store {w0 : World} {bx : Nat} {x y : Bal} {M : List Thing} {wx : World} (h : Sep w0 (Cl bx (cellsB y) 34 :: M) wx) :
    Sep w0 (Cl bx (cellsB x) 34 :: M) (((((wx.setCell ⟨bx, 0, none⟩ (.int .i64 x.1.1)).setCell ⟨bx, 1, none⟩ (.int .i64 x.1.2.1)).setCell ⟨bx, 2, none⟩ (.int .i64 x.1.2.2.1)).setCell ⟨bx, 3, none⟩ (.int .i64 x.1.2.2.2.1)).setCell ⟨bx, 4, none⟩ (.int .i64 x.1.2.2.2.2)) :=
  ((((h.setCell 0 _).setCell 1 _).setCell 2 _).setCell 3 _).setCell 4 _
theorem isSome_some {α : Type} (x : α) : (some x).isSome = true := rfl
set_option maxRecDepth 100000 in
set_option maxHeartbeats 4000000 in
theorem won_any {w0 w : World} {g b n : Nat} {S : List (Bal × Nat)} {L : List Thing} (h : Sep w0 (TalC g b n :: BalM b S :: L) w) (hn : n ≤ 15) (hS : Small S) :
    Calls Try.prog 14 #[.pointer (some ⟨g, 0, none⟩)] w fun e w' => ∃ o, e = .returned (.tuple #[balV (o.getD balZ), .bool o.isSome]) ∧ WonOk (enough n) S o ∧ Sep w0 (TalC g b n :: BalM b S :: L) w' := by
  obtain ⟨bb, hbb⟩ : ∃ k, k = w.heap.size := ⟨_, rfl⟩
  obtain ⟨wa, hwa⟩ : ∃ k, k = w.alloc (.cells #[.int .i64 0, .int .i64 0, .int .i64 0, .int .i64 0, .int .i64 0] 34) := ⟨_, rfl⟩
  have h1 := h.alloc (.cells #[.int .i64 0, .int .i64 0, .int .i64 0, .int .i64 0, .int .i64 0] 34)
  rw [← hbb, ← hwa] at h1
  have HN := Lib.hid (tnone_any h1.sw2)
  have q1 := h1.sw2.cell (o := 1) (x := .map (some b)) rfl
  obtain ⟨wb, hrun, cnt0, h2⟩ := map_range (P := Try.prog) (t := 61) Try.underlying61 h1.sw3
  have h2' : Sep w0 (Cl bb (cellsB balZ) 34 :: IterT balV setV b wa.heap.size S [] none cnt0 :: TalC g b n :: L) wb := h2.sw2
  have hE : ∀ wx : World, Calls Try.prog 10 #[.int .i64 n] wx fun e w' => e = .returned (.int .i64 (enough n)) ∧ w' = wx := fun wx => (enough_any n wx (by unfold I64; omega)).mono fun _ _ h => ⟨h.1, h.2.symm⟩
  have HE := Lib.hid hE
  have H2 := Lib.hid h2'
  have HSm := Lib.hid hS
  clear h h1 h2 h2' hE hS
  generalize enough n = E at *
  go_enter Try.func14, Try.ntmps14
  go_wp2_with fail
  rw [← hwa, ← hbb]
  clear hwa hbb
  refine HN.out.mono ?_
  rintro r0 w1 ⟨rfl, rfl⟩
  go_wp2_with fail
  clear q1 HN hrun
  generalize wa.heap.size = r at *
  go_loopw [3] (fun i wr => ∃ (done : List Bal) (o : Option Bal) (last : Option (Bal × Nat)) (cnt : Nat), i = .bool o.isSome ∧ BestOk E S done o ∧ Sep w0 (Cl bb (cellsB (o.getD balZ)) 34 :: IterT balV setV b r S done last cnt :: TalC g b n :: L) wr) (fun _ wr => mleft wr b r)
  case atStart => exact ⟨[], none, none, cnt0, rfl, ⟨(fun _ p _ hp => by cases hp), (fun x hx => by cases hx)⟩, H2.out⟩
  case round =>
    obtain ⟨done, o, last, cnt, rfl, hbest, hs⟩ := hrel
    clear H2
    have hcnt := hs.sw2.iterLeft
    have hkeys := hs.sw2.iterKeys
    rcases map_next (P := Try.prog) hs.sw2 0 with ⟨hall, hrun⟩ | ⟨p, hp, hpd, w1, hrun, cnt', hlt, h1⟩
    · have hr : ∀ ty, (Instr.next (.pointer (some ⟨r, 0, none⟩)) false ty).run Try.prog wr = .ok (.tuple #[.bool false]) wr := fun ty => hrun
      have HB := Lib.hid (best_all hbest hall)
      have h3 := hs.sw2.iterMap
      have c0 := hs.cell (o := 0) (x := .int .i64 (o.getD balZ).1.1) rfl
      have c1 := hs.cell (o := 1) (x := .int .i64 (o.getD balZ).1.2.1) rfl
      have c2 := hs.cell (o := 2) (x := .int .i64 (o.getD balZ).1.2.2.1) rfl
      have c3 := hs.cell (o := 3) (x := .int .i64 (o.getD balZ).1.2.2.2.1) rfl
      have c4 := hs.cell (o := 4) (x := .int .i64 (o.getD balZ).1.2.2.2.2) rfl
      have f0 := hs.frozen 0
      have f1 := hs.frozen 1
      have f2 := hs.frozen 2
      have f3 := hs.frozen 3
      have f4 := hs.frozen 4
      have HS := Lib.hid h3.sw2
      clear hs hbest hall hrun hcnt h3
      go_wp2_with fail
      have hz := ((((HS.out.setCell 0 (.int .i64 (o.getD balZ).1.1)).setCell 1 (.int .i64 (o.getD balZ).1.2.1)).setCell 2 (.int .i64 (o.getD balZ).1.2.2.1)).setCell 3 (.int .i64 (o.getD balZ).1.2.2.2.1)).setCell 4 (.int .i64 (o.getD balZ).1.2.2.2.2)
      have k0 := hz.cell (o := 0) (x := .int .i64 (o.getD balZ).1.1) rfl
      have k1 := hz.cell (o := 1) (x := .int .i64 (o.getD balZ).1.2.1) rfl
      have k2 := hz.cell (o := 2) (x := .int .i64 (o.getD balZ).1.2.2.1) rfl
      have k3 := hz.cell (o := 3) (x := .int .i64 (o.getD balZ).1.2.2.2.1) rfl
      have k4 := hz.cell (o := 4) (x := .int .i64 (o.getD balZ).1.2.2.2.2) rfl
      exact bodyPost_ret (v := .tuple #[balV (o.getD balZ), .bool o.isSome]) (by simp [results, Try.results14, go_sem, balV, k0, k1, k2, k3, k4]) rfl ⟨o, rfl, HB.out, hz.drop.sw2⟩
    · have hr : ∀ ty, (Instr.next (.pointer (some ⟨r, 0, none⟩)) false ty).run Try.prog wr = .ok (.tuple #[.bool true, balV p.1, setV p.2]) w1 := fun ty => hrun
      have hcur := map_cur (P := Try.prog) h1
      have HX := Lib.hid (show p ∈ S ∧ BestOk E S done o ∧ (S.map (·.1)).Nodup ∧ cnt' < cnt ∧ mleft wr b r = cnt from ⟨hp, hbest, hkeys, hlt, hcnt⟩)
      have HP := Lib.hid (show popc p.2 ≤ 15 ∧ p.2 < 32768 from by
        have h1 := HSm.out p.1
        rw [mget_mem hkeys hp] at h1
        exact ⟨by unfold popc; omega, h1⟩)
      obtain ⟨bq, hbq⟩ : ∃ k, k = w1.heap.size := ⟨_, rfl⟩
      have h3 := h1.alloc (.cells (cellsB p.1) 34)
      rw [← hbq] at h3
      obtain ⟨wq, hwq⟩ : ∃ k, k = w1.alloc (.cells (cellsB p.1) 34) := ⟨_, rfl⟩
      rw [← hwq] at h3
      have H3 := Lib.hid h3
      clear hs hbest hrun hcnt h1 hkeys hlt hpd h3 hp
      unfold balV setV at hr hcur
      go_wp2_with fail
      rw [show w1.alloc (.cells #[.int .i64 p.1.1.1, .int .i64 p.1.1.2.1, .int .i64 p.1.1.2.2.1, .int .i64 p.1.1.2.2.2.1, .int .i64 p.1.1.2.2.2.2] 34) = wq from hwq.symm, ← hbq]
      clear hwq hbq hr hcur
      have hS0 := won_cells H3.out
      have hq15 := HP.out.1
      have hO : ∀ wx : World, Calls Try.prog 31 #[.int .u64 p.2] wx fun e w' => e = .returned (.int .i64 (popc p.2 : Nat)) ∧ w' = wx := fun wx => (ones_any p.2 wx HP.out.2).mono fun _ _ h => ⟨h.1, h.2.symm⟩
      generalize hq : popc p.2 = q at *
      have HO := Lib.hid hO
      clear hO
      by_cases hEq : E ≤ (q : Int)
      · have hd : decide (E ≤ (q : Int)) = true := decide_eq_true hEq
        cases o with
        | none =>
          have HB : Hid (BestOk E S (p.1 :: done) (some p.1)) := Lib.hid (best_take HX.out.2.2.1 HX.out.2.1 HX.out.1 (by rw [hq]; exact hEq) (fun x hx => by cases hx))
          have hn0 : (none : Option Bal).isSome = false := rfl
          rw [hn0]
          obtain ⟨y0, y1, y2, y3, y4, y5, y6, y7, y8, y9, ya⟩ := hS0
          clear hEq hq
          go_big_quiet ((first | (go_at_call 31; exact Calls.quiet_of_same (HO.out _)) | (go_at_call 10; exact Calls.quiet_of_same (HE.out _))))
          clear y0 y1 y2 y3 y4 y5 y6 y7 y8 y9 ya
          have h9 := H3.out.drewN nq
          obtain ⟨y0, y1, y2, y3, y4⟩ := bal_cells h9
          have z0 := h9.sw3.frozen 0
          have z1 := h9.sw3.frozen 1
          have z2 := h9.sw3.frozen 2
          have z3 := h9.sw3.frozen 3
          have z4 := h9.sw3.frozen 4
          have z5 := (bal_cells h9.sw3).1
          have z6 := (bal_cells h9.sw3).2.1
          have z7 := (bal_cells h9.sw3).2.2.1
          have z8 := (bal_cells h9.sw3).2.2.2.1
          have z9 := (bal_cells h9.sw3).2.2.2.2
          have H10 := Lib.hid ((bal_store (x := p.1) h9.sw3).sw2.drop)
          clear h9
          go_wp2_with fail
          go_roundw
          case rel => exact ⟨p.1 :: done, some p.1, some p, cnt', rfl, HB.out, H10.out⟩
          case measure => rw [H10.out.sw2.iterLeft, HX.out.2.2.2.2]; exact HX.out.2.2.2.1
        | some x =>
          have hn0 : (some x : Option Bal).isSome = true := rfl
          rw [hn0]
          rw [show (some x : Option Bal).getD balZ = x from rfl] at hS0 H3
          obtain ⟨y0, y1, y2, y3, y4, y5, y6, y7, y8, y9, ya⟩ := hS0
          by_cases hc : cmpB p.1 x < 0
          · have HB : Hid (BestOk E S (p.1 :: done) (some p.1)) := Lib.hid (best_take HX.out.2.2.1 HX.out.2.1 HX.out.1 (by rw [hq]; exact hEq) (fun y hy => by cases hy; exact hc))
            have hdc : decide (cmpB p.1 x < 0) = true := decide_eq_true hc
            clear hEq hq hc
            go_region_held3 (fun w' => w'.cell? ⟨g, 0, none⟩ = some (.int .i64 n) ∧ w'.cell? ⟨bq, 0, none⟩ = some (.int .i64 p.1.1.1) ∧ w'.cell? ⟨bq, 1, none⟩ = some (.int .i64 p.1.1.2.1) ∧ w'.cell? ⟨bq, 2, none⟩ = some (.int .i64 p.1.1.2.2.1) ∧ w'.cell? ⟨bq, 3, none⟩ = some (.int .i64 p.1.1.2.2.2.1) ∧ w'.cell? ⟨bq, 4, none⟩ = some (.int .i64 p.1.1.2.2.2.2) ∧ w'.cell? ⟨bb, 0, none⟩ = some (.int .i64 (x).1.1) ∧ w'.cell? ⟨bb, 1, none⟩ = some (.int .i64 (x).1.2.1) ∧ w'.cell? ⟨bb, 2, none⟩ = some (.int .i64 (x).1.2.2.1) ∧ w'.cell? ⟨bb, 3, none⟩ = some (.int .i64 (x).1.2.2.2.1) ∧ w'.cell? ⟨bb, 4, none⟩ = some (.int .i64 (x).1.2.2.2.2)) (first | go_keep | exact won_cells H9.out) (first | (go_at_call 31; refine Calls.mono (HO.out _) ?_; rintro r9 w9 ⟨rfl, rfl⟩) | (go_at_call 10; refine Calls.mono (HE.out _) ?_; rintro r9 w9 ⟨rfl, rfl⟩) | (go_at_call 33; refine Calls.mono (compare_sep p.1 x H3.out.drew) ?_; rintro r9 w9 ⟨rfl, h9⟩; have S9 := won_cells h9; obtain ⟨y0, y1, y2, y3, y4, y5, y6, y7, y8, y9, ya⟩ := S9; have H9 := Lib.hid h9; clear h9))
            clear y0 y1 y2 y3 y4 y5 y6 y7 y8 y9 ya
            have h9 := H9.out
            obtain ⟨y0, y1, y2, y3, y4⟩ := bal_cells h9
            have z0 := h9.sw3.frozen 0
            have z1 := h9.sw3.frozen 1
            have z2 := h9.sw3.frozen 2
            have z3 := h9.sw3.frozen 3
            have z4 := h9.sw3.frozen 4
            have z5 := (bal_cells h9.sw3).1
            have z6 := (bal_cells h9.sw3).2.1
            have z7 := (bal_cells h9.sw3).2.2.1
            have z8 := (bal_cells h9.sw3).2.2.2.1
            have z9 := (bal_cells h9.sw3).2.2.2.2
            have H10 := Lib.hid ((bal_store (x := p.1) h9.sw3).sw2.drop)
            clear h9
            go_wp2_with fail
            go_roundw
            case rel => exact ⟨p.1 :: done, some p.1, some p, cnt', rfl, HB.out, H10.out⟩
            case measure => rw [H10.out.sw2.iterLeft, HX.out.2.2.2.2]; exact HX.out.2.2.2.1
          · have HB : Hid (BestOk E S (p.1 :: done) (some x)) := Lib.hid (best_stay HX.out.2.2.1 HX.out.2.1 HX.out.1 hc)
            have hdc : decide (cmpB p.1 x < 0) = false := decide_eq_false hc
            clear hEq hq hc
            go_region_held3 (fun w' => w'.cell? ⟨g, 0, none⟩ = some (.int .i64 n) ∧ w'.cell? ⟨bq, 0, none⟩ = some (.int .i64 p.1.1.1) ∧ w'.cell? ⟨bq, 1, none⟩ = some (.int .i64 p.1.1.2.1) ∧ w'.cell? ⟨bq, 2, none⟩ = some (.int .i64 p.1.1.2.2.1) ∧ w'.cell? ⟨bq, 3, none⟩ = some (.int .i64 p.1.1.2.2.2.1) ∧ w'.cell? ⟨bq, 4, none⟩ = some (.int .i64 p.1.1.2.2.2.2) ∧ w'.cell? ⟨bb, 0, none⟩ = some (.int .i64 (x).1.1) ∧ w'.cell? ⟨bb, 1, none⟩ = some (.int .i64 (x).1.2.1) ∧ w'.cell? ⟨bb, 2, none⟩ = some (.int .i64 (x).1.2.2.1) ∧ w'.cell? ⟨bb, 3, none⟩ = some (.int .i64 (x).1.2.2.2.1) ∧ w'.cell? ⟨bb, 4, none⟩ = some (.int .i64 (x).1.2.2.2.2)) (first | go_keep | exact won_cells H9.out) (first | (go_at_call 31; refine Calls.mono (HO.out _) ?_; rintro r9 w9 ⟨rfl, rfl⟩) | (go_at_call 10; refine Calls.mono (HE.out _) ?_; rintro r9 w9 ⟨rfl, rfl⟩) | (go_at_call 33; refine Calls.mono (compare_sep p.1 x H3.out.drew) ?_; rintro r9 w9 ⟨rfl, h9⟩; have S9 := won_cells h9; obtain ⟨y0, y1, y2, y3, y4, y5, y6, y7, y8, y9, ya⟩ := S9; have H9 := Lib.hid h9; clear h9))
            clear y0 y1 y2 y3 y4 y5 y6 y7 y8 y9 ya
            have H10 := Lib.hid (H9.out.pickL (M := [Cl bq (cellsB p.1) 34, IterT balV setV b r S (p.1 :: done) (some p) cnt', Cl bb (cellsB x) 34]) [2, 1] rfl)
            clear H9
            go_wp2_with fail
            go_roundw
            case rel => exact ⟨p.1 :: done, some x, some p, cnt', rfl, HB.out, H10.out⟩
            case measure => rw [H10.out.sw2.iterLeft, HX.out.2.2.2.2]; exact HX.out.2.2.2.1
      · have hd : decide (E ≤ (q : Int)) = false := decide_eq_false hEq
        have HB : Hid (BestOk E S (p.1 :: done) o) := Lib.hid (best_skip HX.out.2.2.1 HX.out.2.1 HX.out.1 (by rw [hq]; exact hEq))
        obtain ⟨y0, y1, y2, y3, y4, y5, y6, y7, y8, y9, ya⟩ := hS0
        clear hEq hq
        go_big_quiet ((first | (go_at_call 31; exact Calls.quiet_of_same (HO.out _)) | (go_at_call 10; exact Calls.quiet_of_same (HE.out _))))
        clear y0 y1 y2 y3 y4 y5 y6 y7 y8 y9 ya
        have H10 := Lib.hid ((H3.out.drewN nq).pickL (M := [Cl bq (cellsB p.1) 34, IterT balV setV b r S (p.1 :: done) (some p) cnt', Cl bb (cellsB (o.getD balZ)) 34]) [2, 1] rfl)
        go_wp2_with fail
        go_roundw
        case rel => exact ⟨p.1 :: done, o, some p, cnt', rfl, HB.out, H10.out⟩
        case measure => rw [H10.out.sw2.iterLeft, HX.out.2.2.2.2]; exact HX.out.2.2.2.1
end Go.Proofs.Ytidbniigfkocpaa
