/- The walk of DiskKnown. -/
import Derived.Test.YtpnafgkoijnplaaDiskPlays
import Derived.Test.YtpnafgkoijnplaaDiskNone
import Derived.Test.YtpnafgkoijnplaaRdT
import Derived.Test.YtpnafgkoijnplaaSepPick
import Derived.Test.YtpnafgkoijnplaaRowsN
import Derived.Laws.OwnMore
import Derived.Deep.Cut
namespace Go.Proofs.Ytpnafgkoijnplaa
open Go.RowKit
set_option linter.unusedVariables false
set_option linter.unusedSimpArgs false
/-- A call as it stands in a row. -/
structure DoD where
  kd : Int
  n : Int
  a : Option Addr
  c : Nat
  l : List UInt8
  raw : Bool
def DoD.cells (d : DoD) : List Value := [.int .i64 d.kd, .int .i64 d.n, .slice d.a d.l.length d.c, .bool d.raw]
def doCells (ds : List DoD) : List Value := ds.flatMap DoD.cells
theorem doCells_len (ds : List DoD) : (doCells ds).length = ds.length * 4 := by
  induction ds with
  | nil => rfl
  | cons d ds ih => unfold doCells at *; rw [List.flatMap_cons, List.length_append, ih, List.length_cons]; simp [DoD.cells]; omega
theorem doCells_get (ds : List DoD) (i j : Nat) (hi : i < ds.length) (hj : j < 4) : (doCells ds)[i * 4 + j]? = (ds[i]).cells[j]? := by
  induction ds generalizing i with
  | nil => simp at hi
  | cons d ds ih =>
    unfold doCells at *
    rw [List.flatMap_cons]
    cases i with
    | zero => rw [List.getElem?_append_left (by simp [DoD.cells]; omega)]; simp
    | succ i =>
      rw [List.getElem?_append_right (by simp [DoD.cells]; omega), show (i + 1) * 4 + j - d.cells.length = i * 4 + j by simp [DoD.cells]; omega, ih i (by simpa using hi)]
      simp
theorem doCells_app (a b : List DoD) : doCells (a ++ b) = doCells a ++ doCells b := by simp [doCells]
theorem Sep.member {w0 w : World} {A : Thing} {L : List Thing} (h : Sep w0 L w) (hm : A ∈ L) : ∃ M, Sep w0 (A :: M) w := by
  induction L with
  | nil => cases hm
  | cons B L ih =>
    rcases List.mem_cons.1 hm with rfl | hm
    · exact ⟨L, h⟩
    · exact ih h.drop hm
abbrev rdOf (d : DoD) : Thing := RdT d.a d.c d.l
theorem dos_of {w0 w : World} {v : Value} {ds : List DoD} {L : List Thing} (h : Sep w0 (Rn 4 29 v ds.length (doCells ds) :: (ds.reverse.map rdOf ++ L)) w) :
    ∃ a c, v = .slice a ds.length c ∧ ds.length ≤ c ∧ c ≤ maxLen ∧ Dos w a ds.length := by
  obtain ⟨a, c, rfl, h1, h2, h3, h4⟩ := h.rnForm
  refine ⟨a, c, rfl, h1, h2, fun i hi => ?_⟩
  obtain ⟨b, rfl, hb, hc⟩ := h4 (by omega)
  refine ⟨b, 0, rfl, hb, (ds[i]).cells, fun j hj => ?_, ?_⟩
  · have hj4 : j < 4 := hj
    have hlt : i * 4 + j < (doCells ds).length := by rw [doCells_len]; omega
    have h5 := hc (i * 4 + j) hlt
    have h6 := doCells_get ds i j hi hj4
    rw [List.getElem?_eq_getElem hlt, List.getElem?_eq_getElem hj] at h6
    rw [show 0 + i * 4 + j = i * 4 + j by omega, h5, Option.some.inj h6]
  · have hm : rdOf ds[i] ∈ Rn 4 29 (Value.slice (some ⟨b, 0, none⟩) ds.length c) ds.length (doCells ds) :: (ds.reverse.map rdOf ++ L) := by
      apply List.mem_cons_of_mem
      apply List.mem_append_left
      rw [List.mem_map]
      exact ⟨ds[i], by simp, rfl⟩
    obtain ⟨M, hM⟩ := h.member hm
    obtain ⟨F, hF, _⟩ := hM.head
    exact ⟨(ds[i]).kd, (ds[i]).n, (ds[i]).a, (ds[i]).c, (ds[i]).l, (ds[i]).raw, rfl, hF.2.1, hF.2.2.1, hF.1⟩
theorem build3 (w : World) (c0 c1 c2 c3 c4 c5 c6 c7 c8 c9 ca cb : Value) :
    (Instr.buildSlice 22 3 #[(0, .agg #[c0, c1, c2, c3]), (1, .agg #[c4, c5, c6, c7]), (2, .agg #[c8, c9, ca, cb])]).run Try.prog w = .ok (.slice (some ⟨w.heap.size, 0, none⟩) 3 3) (w.alloc (.cells #[c0, c1, c2, c3, c4, c5, c6, c7, c8, c9, ca, cb] 29)) := by
  simp [go_sem]
/-- A literal of three calls: one step of the walk (the walk's own step makes a term that the kernel does not come back from). -/
theorem wpList_build3 {w : World} {ops : Array Oper} {rest : List Oper} {o : Oper} {a : Act} {Q : Exit → Act → World → Prop} (hgd : o.guard = none) (x y z : Operand)
    (ho : o.op = .buildSlice 22 3 #[(0, x), (1, y), (2, z)]) {c0 c1 c2 c3 c4 c5 c6 c7 c8 c9 ca cb : Value} (hx : a.eval x = .agg #[c0, c1, c2, c3]) (hy : a.eval y = .agg #[c4, c5, c6, c7]) (hz : a.eval z = .agg #[c8, c9, ca, cb])
    (h : wpList Try.prog ops Q rest (a.put o.dst (.slice (some ⟨w.heap.size, 0, none⟩) 3 3)) (w.alloc (.cells #[c0, c1, c2, c3, c4, c5, c6, c7, c8, c9, ca, cb] 29))) : wpList Try.prog ops Q (o :: rest) a w := by
  refine wpList_plain hgd fun K hK => ?_
  unfold Oper.wp
  simp [execOp, ho, hx, hy, hz, build3, Result.andThen]
  exact hK _ _ h
theorem row3 (ds : List DoD) (e1 e2 e3 : DoD) (L : List Thing) : (ds ++ [e1, e2, e3]).reverse.map rdOf ++ L = rdOf e3 :: rdOf e2 :: rdOf e1 :: (ds.reverse.map rdOf ++ L) := by simp
theorem infoDo : (Try.prog.info? 29).map (fun i => (i.size, decide (i.bytes ≤ 256), i.zero.map (fun z => z.cells.size))) = some (4, true, some 4) := by kernel_rfl
theorem append_do {w0 w : World} {v : Value} {b c : Nat} {ds es : List DoD} {L : List Thing} {ty : TypeId} (h : Sep w0 (Rn 4 29 v ds.length (doCells ds) :: L) w)
    (hnews : ∀ j u, (doCells es)[j]? = some u → w.cell? ⟨b, j, none⟩ = some u) (hlen : ds.length + es.length ≤ 1000) (n : Nat) (hn : es.length = n) :
    ∃ v' w', (Builtin.append_ #[22, 22] ty #[v, .slice (some ⟨b, 0, none⟩) n c]).run Try.prog w = .ok v' w' ∧ Sep w0 (Rn 4 29 v' (ds ++ es).length (doCells (ds ++ es)) :: L) w' := by
  subst hn
  obtain ⟨i, hi, he⟩ := Option.map_eq_some_iff.1 infoDo
  simp only [Prod.mk.injEq, decide_eq_true_eq] at he
  obtain ⟨z, hz, hz2⟩ := Option.map_eq_some_iff.1 he.2.2
  rw [doCells_app, List.length_append]
  refine append_rn (P := Try.prog) Try.underlying22 hi hz he.1 he.2.1 hz2 (by decide) h (doCells_len es) (fun j u hj => by rw [Nat.zero_add]; exact hnews j u hj) (fun u hu => ?_) (by omega)
  obtain ⟨d, _, hd⟩ := List.mem_flatMap.1 hu
  simp only [DoD.cells, List.mem_cons, List.not_mem_nil, or_false] at hd
  rcases hd with rfl | rfl | rfl | rfl <;> rfl
/-- A literal's bytes are such as are only read. -/
theorem Sep.litRd {w0 w : World} {g n : Nat} {xs : Array Value} {L : List Thing} (l : List UInt8) (h : Sep w0 (Cl g xs 5 :: L) w) (hx : xs.toList = bv l) (hn : l.length = n) (h1 : n ≤ 1000) : Sep w0 (RdT (some ⟨g, 0, none⟩) n l :: L) w := by
  subst hn
  have hs : xs.size = l.length := by rw [← Array.length_toList, hx, bv_length]
  have h2 := h.asRow l.length hs (by unfold maxLen; omega)
  rw [hx] at h2
  have h3 : Sep w0 (By (.slice (some ⟨g, 0, none⟩) l.length l.length) l :: L) w := h2
  obtain ⟨a, c, hv, h4⟩ := h3.toRd
  simp only [Value.slice.injEq] at hv
  obtain ⟨rfl, _, rfl⟩ := hv
  exact h4
theorem ends_get (xs : Array Value) (zs : List Int) (h : xs = (zs.map fun z => Value.int .i64 z).toArray) (i : Nat) (hi : i < zs.length) : ∃ z : Int, xs[i]? = some (.int .i64 z) := by
  subst h
  exact ⟨zs[i], by simp [hi]⟩
set_option maxRecDepth 20000 in
set_option maxHeartbeats 20000000 in
theorem dknown_any (w : World) : Calls Try.prog 8 #[] w fun e w' => e = .returned (.bool true) ∧ Below w.heap.size w w' := by
  go_enter Try.func8, Try.ntmps8
  go_wp2_with fail
  go_loopw [1, 2] (fun p i wr => ∃ k : Nat, k ≤ 2 ∧ i = .int .i64 k ∧ Sep w [NT p] wr) (fun _ i _ => 2 - (intOf i).toNat)
  case atStart => exact ⟨0, by omega, rfl, (Sep.start w).ntNil⟩
  case round =>
    obtain ⟨k, hk, rfl, hs⟩ := hrel
    have HS := Lib.hid hs
    clear hs
    by_cases hk2 : k < 2
    · have hd : decide ((k : Int) < 2) = true := decide_eq_true (by omega)
      as_aux_lemma =>
        go_wp2_with fail
        refine (nslots_any HS.out).mono ?_
        rintro r0 w1 ⟨rfl, h1⟩
        have hx := h1.alloc (.cells #[.slice none 0 0, .slice none 0 0] 34)
        obtain ⟨b3, hb3⟩ : ∃ x, x = w1.heap.size := ⟨_, rfl⟩
        rw [← hb3] at hx
        have k0 := hx.cell (o := 0) rfl
        have m0 := hx.cell (o := 1) rfl
        have H0 := Lib.hid hx
        clear h1 hx HS
        go_wp2_with fail
        rw [← hb3]
        clear hb3
        go_region_held3 (fun w' => w'.cell? ⟨b3, 0, none⟩ = some (.slice none 0 0) ∧ w'.cell? ⟨b3, 1, none⟩ = some (.slice none 0 0)) (go_keep) (first | (go_at_call 24; refine Calls.mono (nappend_any (H0.out.drew).sw2) ?_; rintro r0 v1 ⟨rfl, h1⟩; have k1 := h1.sw2.cell (o := 0) rfl; have m1 := h1.sw2.cell (o := 1) rfl; have H1 := Lib.hid h1; clear h1) | (go_at_call 17; refine Calls.mono (nslot_any 9 H1.out) ?_; rintro r0 v2 ⟨rfl, h2⟩; have k2 := h2.sw2.cell (o := 0) rfl; have m2 := h2.sw2.cell (o := 1) rfl; have H2 := Lib.hid h2; clear h2) | (go_at_call 20; refine Calls.mono (ntrim_any (-1) H2.out) ?_; rintro r0 v3 ⟨rfl, h3⟩; have k3 := h3.sw2.cell (o := 0) rfl; have m3 := h3.sw2.cell (o := 1) rfl; have H3 := Lib.hid h3; clear h3) | (go_at_call 21; refine Calls.mono (ncut_any 0 H3.out) ?_; rintro r0 v4 ⟨rfl, h4⟩; have k4 := h4.sw2.cell (o := 0) rfl; have m4 := h4.sw2.cell (o := 1) rfl; have H4 := Lib.hid h4; clear h4) | (go_at_call 22; refine Calls.mono (narm_any (-1) H4.out) ?_; rintro r0 v5 ⟨rfl, h5⟩; have k5 := h5.sw2.cell (o := 0) rfl; have m5 := h5.sw2.cell (o := 1) rfl; have H5 := Lib.hid h5; clear h5) | (go_at_call 23; refine Calls.mono (nrevive_any H5.out) ?_; rintro r0 v6 ⟨rfl, h6⟩; have k6 := h6.sw2.cell (o := 0) rfl; have m6 := h6.sw2.cell (o := 1) rfl; have H6 := Lib.hid h6; clear h6) | (go_at_call 14; refine Calls.mono (nlog_any H6.out) ?_; rintro r0 v7 ⟨rfl, h7⟩; have k7 := h7.sw2.cell (o := 0) rfl; have m7 := h7.sw2.cell (o := 1) rfl; have H7 := Lib.hid h7; clear h7) | (go_at_call 15; refine Calls.mono (ndead_any H7.out) ?_; rintro r0 v8 ⟨rfl, h8⟩; have k8 := h8.sw2.cell (o := 0) rfl; have m8 := h8.sw2.cell (o := 1) rfl; have H8 := Lib.hid h8; clear h8))
        all_goals
          have H9 := Lib.hid ((H8.out.drop.drop).alloc (.cells #[.slice none 0 0, .slice none 0 0, .slice none 0 0, .bool false, .nilFunc] 52)).ntZero
          clear H0 H1 H2 H3 H4 H5 H6 H7 H8 k0 m0 k1 m1 k2 m2 k3 m3 k4 m4 k5 m5 k6 m6 k7 m7 k8 m8
          go_wp2_with fail
          go_roundw
          case rel => exact ⟨k + 1, by omega, by go_num, H9.out⟩
          case measure => simp [intOf]; omega
    · have hd : decide ((k : Int) < 2) = false := decide_eq_false (by omega)
      have hs0 := HS.out.drop
      clear HS hk
      go_wp2_with fail
      have hx := hs0.alloc (.cells #[.int .i64 (-9223372036854775808), .int .i64 (-1), .int .i64 0, .int .i64 1, .int .i64 2, .int .i64 3, .int .i64 4, .int .i64 9223372036854775807] 3)
      have hget : ∀ i : Nat, i < 8 → ∃ z : Int, (#[.int .i64 (-9223372036854775808), .int .i64 (-1), .int .i64 0, .int .i64 1, .int .i64 2, .int .i64 3, .int .i64 4, .int .i64 9223372036854775807] : Array Value)[i]? = some (.int .i64 z) := fun i hi => ends_get _ [-9223372036854775808, -1, 0, 1, 2, 3, 4, 9223372036854775807] rfl i hi
      obtain ⟨be, hbe⟩ : ∃ x, x = wr.heap.size := ⟨_, rfl⟩
      rw [← hbe] at hx
      obtain ⟨ea, hea⟩ : ∃ x : Array Value, x = #[.int .i64 (-9223372036854775808), .int .i64 (-1), .int .i64 0, .int .i64 1, .int .i64 2, .int .i64 3, .int .i64 4, .int .i64 9223372036854775807] := ⟨_, rfl⟩
      rw [← hea] at hx hget
      have HX := Lib.hid hx
      have HG := Lib.hid hget
      rw [← hea, ← hbe]
      clear hs0 hx hget hea hd hk2 hbe
      go_loopw [5] (fun i wq => ∃ k : Nat, k ≤ 8 ∧ i = .int .i64 k ∧ Sep w [Cl be ea 3] wq) (fun i _ => 8 - (intOf i).toNat)
      case atStart => exact ⟨0, by omega, rfl, HX.out⟩
      case round =>
        obtain ⟨k, hk, rfl, hs⟩ := hrel
        have HS := Lib.hid hs
        clear hs HX
        by_cases hk8 : k < 8
        · have hd : decide ((k : Int) < 8) = true := decide_eq_true (by omega)
          have kz : (0 : Int) ≤ (k : Int) := by omega
          as_aux_lemma =>
            have HR := Lib.hid (HS.out.rnNil 4 29)
            go_wp2_with fail
            go_loopw [6, 7] (fun v i wz => ∃ (q : Nat) (ds : List DoD), q ≤ 10 ∧ ds.length = 3 * q ∧ i = .int .i64 q ∧ Sep w (Rn 4 29 v ds.length (doCells ds) :: (ds.reverse.map rdOf ++ [Cl be ea 3])) wz) (fun _ i _ => 10 - (intOf i).toNat)
            case atStart => exact ⟨0, [], by omega, rfl, rfl, HR.out⟩
            case round =>
              obtain ⟨q, ds, hq, hdl, rfl, hs⟩ := hrel
              clear HR HS
              by_cases hq10 : q < 10
              · have hdq : decide ((q : Int) < 10) = true := decide_eq_true (by omega)
                obtain ⟨z, hz⟩ := HG.out k hk8
                obtain ⟨M, hM⟩ := hs.member (A := Cl be ea 3) (by simp)
                have e0 := hM.cell hz
                have e1 := (hM.alloc0 (.cells #[.int .u8 1, .int .u8 2, .int .u8 3] 5)).cell hz
                have x1 := (hs.alloc (.cells #[.int .u8 1, .int .u8 2, .int .u8 3] 5)).litRd [1, 2, 3] rfl rfl (by decide)
                have x2 := (x1.alloc (.cells #[.int .u8 9, .int .u8 9] 5)).litRd [9, 9] rfl rfl (by decide)
                rw [show (wr.alloc (.cells #[.int .u8 1, .int .u8 2, .int .u8 3] 5)).heap.size = wr.heap.size + 1 by simp] at x2
                have x3 := (x2.alloc (.cells #[.int .i64 0, .int .i64 0, .slice (some ⟨wr.heap.size, 0, none⟩) 3 3, .bool false, .int .i64 q, .int .i64 z, .slice (some ⟨wr.heap.size + 1, 0, none⟩) 2 2, .bool true, .int .i64 8, .int .i64 0, .slice none 0 0, .bool false] 29)).sw4
                obtain ⟨v', w', hr, x4⟩ := append_do (ty := 22) (es := [⟨0, 0, some ⟨wr.heap.size, 0, none⟩, 3, [1, 2, 3], false⟩, ⟨q, z, some ⟨wr.heap.size + 1, 0, none⟩, 2, [9, 9], true⟩, ⟨8, 0, none, 0, [], false⟩]) (c := 3) x3 (fun j u hj => x3.sw2.cell (by rw [← hj]; simp [doCells, DoD.cells])) (by simp; omega) 3 rfl
                have Hr := Lib.hid hr
                have x5 := ((x4.sw2.drop).rdNil).sw2
                obtain ⟨dn, hdn⟩ : ∃ x : List DoD, x = ds ++ [⟨0, 0, some ⟨wr.heap.size, 0, none⟩, 3, [1, 2, 3], false⟩, ⟨q, z, some ⟨wr.heap.size + 1, 0, none⟩, 2, [9, 9], true⟩, ⟨8, 0, none, 0, [], false⟩] := ⟨_, rfl⟩
                have x6 : Sep w (Rn 4 29 v' dn.length (doCells dn) :: (dn.reverse.map rdOf ++ [Cl be ea 3])) w' := by rw [hdn, row3]; exact x5
                have hdn2 : dn.length = 3 * (q + 1) := by rw [hdn, List.length_append, hdl]; rfl
                have HN := Lib.hid x6
                have HDN := Lib.hid hdn2
                clear hs hM x1 x2 x3 x4 x5 x6 hr hz hdl hdn hdn2
                go_wp2_with (first | (at_builtin; refine wpList_append_run rfl _ _ _ _ rfl rfl rfl Hr.out ?_) | (refine wpList_build3 rfl _ _ _ rfl rfl rfl rfl ?_))
                go_roundw
                case rel => exact ⟨q + 1, dn, by omega, HDN.out, by go_num, HN.out⟩
                case measure => simp [intOf]; omega
              · have hdq : decide ((q : Int) < 10) = false := decide_eq_false (by omega)
                obtain ⟨a, c, rfl, hc1, hc2, hdos⟩ := dos_of hs
                have hcall := dplays_any a ds.length c wr hdos hc1 hc2
                have HC := Lib.hid hcall
                obtain ⟨M, hM⟩ := hs.member (A := Cl be ea 3) (by simp)
                have HM : Hid (Sep w [Cl be ea 3] wr) := Lib.hid (hM.pickL (M := [Cl be ea 3]) (L := M) [0] rfl |> fun h => (Sep.left (L := M) (M := [Cl be ea 3]) (h.perm (List.perm_append_comm (l₁ := [Cl be ea 3]) (l₂ := M)))))
                clear hs hM hcall hdos hc1 hc2 hdl
                go_wp2_with fail
                refine HC.out.mono ?_
                rintro r0 w2 ⟨rfl, hb⟩
                have HF := Lib.hid (HM.out.below hb)
                clear hb HM HC
                go_wp2_with fail
                go_roundw
                case rel => exact ⟨k + 1, by omega, by go_num, HF.out⟩
                case measure => simp [intOf]; omega
        · have hd : decide ((k : Int) < 8) = false := decide_eq_false (by omega)
          as_aux_lemma =>
            have hS0 := HS.out
            go_wp2_with fail
            refine (new_any hS0).mono ?_
            rintro r0 w1 ⟨g, rfl, h1⟩
            obtain ⟨m, hm⟩ : ∃ m : Nat, m = 524288 := ⟨_, rfl⟩
            have hmk := make8 m (by omega) w1
            have hmi : ((m : Nat) : Int) = 524288 := by omega
            rw [hmi] at hmk
            have hx := (h1.alloc (.cells (madeCells #[.int .u8 0] m) 5)).asRow m (size_madeCells _ _) (by unfold maxLen; omega)
            obtain ⟨bg, hbg⟩ : ∃ x, x = List.replicate m (0 : UInt8) := ⟨_, rfl⟩
            have hbl : bg.length = m := by rw [hbg]; exact List.length_replicate
            have hbv : (madeCells #[Value.int .u8 0] m).toList = bv bg := by rw [toList_madeCells_one, hbg]; simp [bv]
            rw [hbv] at hx
            have hx2 : Sep w (By (.slice (some ⟨w1.heap.size, 0, none⟩) m m) bg :: DiskT g ⟨[], [], [], false, none⟩ :: [Cl be ea 3]) (w1.alloc (.cells (madeCells #[.int .u8 0] m) 5)) := hx
            obtain ⟨gb, hgb⟩ : ∃ x, x = w1.heap.size := ⟨_, rfl⟩
            obtain ⟨w2, hw2⟩ : ∃ x, x = w1.alloc (.cells (madeCells #[.int .u8 0] m) 5) := ⟨_, rfl⟩
            rw [← hgb, ← hw2] at hx2 hmk
            have HX := Lib.hid hx2
            have HBL := Lib.hid hbl
            have HM := Lib.hid hm
            have Hmk := Lib.hid hmk
            clear hx hx2 hbl hbg hbv hm hmi hmk hgb hw2 h1 hS0 HS
            go_wp2_with fail
            rw [Hmk.out]
            clear Hmk
            have b1 : (65536 : Int) ≤ (m : Int) := by have := HM.out; omega
            have b2 : (65537 : Int) ≤ (m : Int) := by have := HM.out; omega
            go_wp2_with fail
            refine (append_none [] [] [] _ bg HX.out.sw2 HX.out.sl (by have := HM.out; have := HBL.out; simp; omega)).mono ?_
            rintro r0 w3 ⟨rfl, h3⟩
            obtain ⟨j1, hj1⟩ : ∃ x, x = [] ++ bg := ⟨_, rfl⟩
            rw [← hj1] at h3
            have HJ1 : Hid (j1.length = m) := Lib.hid (by rw [hj1, List.nil_append]; exact HBL.out)
            have H3 := Lib.hid h3
            clear h3 HX hj1
            go_wp2_with fail
            refine (append_none j1 [] [] _ bg H3.out H3.out.sw2.sl (by have := HM.out; have := HBL.out; have := HJ1.out; omega)).mono ?_
            rintro r0 w4 ⟨rfl, h4⟩
            obtain ⟨j2, hj2⟩ : ∃ x, x = j1 ++ bg := ⟨_, rfl⟩
            rw [← hj2] at h4
            have HJ2 : Hid (j2.length = 1048576) := Lib.hid (by rw [hj2, List.length_append]; have := HM.out; have := HBL.out; have := HJ1.out; omega)
            have H4 := Lib.hid h4
            clear h4 H3 hj2
            go_wp2_with fail
            refine (append_limit _ 1 1 (H4.out.alloc0 _) rfl (by have := HJ2.out; simp only; omega) (by omega) (by have := HJ2.out; simp only; omega)).mono ?_
            rintro r0 w5 ⟨rfl, rfl⟩
            go_wp2_with fail
            refine (append_none j2 [] [] _ [] (H4.out.alloc0 _) (sl_nil _) (by have := HJ2.out; simp; omega)).mono ?_
            rintro r0 w6 ⟨rfl, h6⟩
            rw [List.append_nil] at h6
            have H6 := Lib.hid h6
            clear h6 H4
            have hbp := H6.out.sw2.sl
            rw [← HBL.out] at hbp
            have hp1 := sl_pre hbp (u := 65536) (by have := HM.out; have := HBL.out; omega)
            have HP1 := Lib.hid hp1
            obtain ⟨s0, hs0⟩ : ∃ x, x = bg.take 65536 := ⟨_, rfl⟩
            have HS0 : Hid (s0.length = 65536) := Lib.hid (by rw [hs0, List.length_take]; have := HM.out; have := HBL.out; omega)
            rw [← hs0] at HP1
            clear hbp hp1 hs0
            rw [HBL.out] at HP1
            go_wp2_with fail
            refine (slot0_none j2 [] [] _ s0 H6.out HP1.out (by have := HS0.out; omega)).mono ?_
            rintro r0 w7 ⟨rfl, h7⟩
            have H7 := Lib.hid h7
            clear h7 H6 HP1
            go_wp2_with fail
            refine (slot_limit 0 _ 65537 _ H7.out rfl (by omega) (by omega) (by omega) (by omega)).mono ?_
            rintro r0 w8 ⟨rfl, rfl⟩
            go_wp2_with fail
            refine (arm_ok _ 0 H7.out rfl).mono ?_
            rintro r0 w9 ⟨rfl, h9⟩
            have H9 := Lib.hid h9
            clear h9 H7
            go_wp2_with fail
            refine (append_limit _ 1 1 (H9.out.alloc0 _) rfl (by have := HJ2.out; simp only; omega) (by omega) (by have := HJ2.out; simp only; omega)).mono ?_
            rintro r0 wa ⟨rfl, rfl⟩
            go_wp2_with fail
            refine (slot_range 5 _ (H9.out.alloc0 _) rfl (by omega)).mono ?_
            rintro r0 wa ⟨rfl, rfl⟩
            go_wp2_with fail
            refine (dead_any (H9.out.alloc0 _)).mono ?_
            rintro r0 wa ⟨rfl, rfl⟩
            go_wp2_with fail
            refine (trim_ok j2 s0 [] (some 0) 1048576 1048576 rfl (H9.out.alloc0 _) (by have := HJ2.out; omega) (by have := HJ2.out; omega)).mono ?_
            rintro r0 wb ⟨rfl, hb⟩
            rw [List.drop_eq_nil_of_le (by have := HJ2.out; omega)] at hb
            have HB := Lib.hid hb
            clear hb H9
            go_wp2_with fail
            refine (append_some [] s0 [] _ [1] (HB.out.alloc0 _) (sl_lit _ _ [1] rfl (by decide) _) (by decide)).mono ?_
            rintro r0 wc ⟨rfl, hc⟩
            have HC := Lib.hid hc
            clear hc HB
            go_wp2_with fail
            refine (log_any _ HC.out (by simp)).mono ?_
            rintro r0 wd ⟨vl, rfl, hd'⟩
            obtain ⟨al, cl, rfl⟩ := hd'.sl.len
            have HD := Lib.hid hd'.low
            clear hd' HC
            go_wp2_with fail
            refine (works_any _).mono ?_
            rintro r0 we ⟨rfl, he⟩
            have HE := Lib.hid (below_step HD.out he)
            clear he HD
            go_wp2_with fail
            go_ret
            exact ⟨rfl, HE.out⟩
end Go.Proofs.Ytpnafgkoijnplaa
