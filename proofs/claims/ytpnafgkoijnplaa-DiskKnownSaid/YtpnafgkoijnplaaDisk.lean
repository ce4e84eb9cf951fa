/- Disks: what a disk is, and the contracts of its calls. -/
import Derived.Test.YtpnafgkoijnplaaBytesSep
import Derived.Test.YtpnafgkoijnplaaSlPart
import Derived.Deep.RegionHeld3
import Derived.Deep.RegionLaw
import Derived.IntWalk
import Derived.Deep.OwnRows
namespace Go.Proofs.Ytpnafgkoijnplaa
open Go.RowKit
set_option linter.unusedVariables false
/-- A disk: its journal, its slots, is it dead, after how many bytes the next write tears. -/
structure DS where
  j : List UInt8
  s0 : List UInt8
  s1 : List UInt8
  dead : Bool
  arm : Option Nat
/-- How a disk writes. -/
def WrT (g : Nat) (wf : Value) : Option Nat → Thing
  | none => Fact (wf = .func (.func 26) #[] #[])
  | some n => Ex fun p : Nat × Nat => Grp [Fact (wf = .func (.func 43) #[] #[.pointer (some ⟨p.1, 0, none⟩), .pointer (some ⟨p.2, 0, none⟩)]), Cl p.1 #[.pointer (some ⟨g, 0, none⟩)] 23, Cl p.2 #[.int .i64 n] 3]
theorem loc_arm (g n pd pc : Nat) (wf : Value) : ∀ A ∈ [Fact (wf = .func (.func 43) #[] #[.pointer (some ⟨pd, 0, none⟩), .pointer (some ⟨pc, 0, none⟩)]), Cl pd #[.pointer (some ⟨g, 0, none⟩)] 23, Cl pc #[.int .i64 n] 3], Loc A := by
  intro A hA
  simp only [List.mem_cons, List.not_mem_nil, or_false] at hA
  rcases hA with rfl | rfl | rfl
  · exact loc_fact _
  · exact loc_blk _ _
  · exact loc_blk _ _
theorem loc_wr (g : Nat) (wf : Value) (a : Option Nat) : Loc (WrT g wf a) := by
  cases a with
  | none => exact loc_fact _
  | some n => exact loc_ex fun p => loc_grp (loc_arm g n p.1 p.2 wf)
abbrev DC (vj v0 v1 : Value) (dead : Bool) (wf : Value) : Array Value := #[vj, v0, v1, .bool dead, wf]
abbrev DL (g : Nat) (D : DS) (vj v0 v1 wf : Value) : List Thing := [Cl g (DC vj v0 v1 D.dead wf) 52, By vj D.j, By v0 D.s0, By v1 D.s1, WrT g wf D.arm]
def DiskT (g : Nat) (D : DS) : Thing := Ex fun x : Value × Value × Value × Value => Grp (DL g D x.1 x.2.1 x.2.2.1 x.2.2.2)
theorem loc_dl (g : Nat) (D : DS) (vj v0 v1 wf : Value) : ∀ A ∈ DL g D vj v0 v1 wf, Loc A := by
  intro A hA
  simp only [DL, List.mem_cons, List.not_mem_nil, or_false] at hA
  rcases hA with rfl | rfl | rfl | rfl | rfl
  · exact loc_blk _ _
  · exact loc_rw _ _ _
  · exact loc_rw _ _ _
  · exact loc_rw _ _ _
  · exact loc_wr _ _ _
theorem loc_disk (g : Nat) (D : DS) : Loc (DiskT g D) := loc_ex fun _ => loc_grp (loc_dl _ _ _ _ _ _)
theorem Sep.openD {w0 w : World} {g : Nat} {D : DS} {L : List Thing} (h : Sep w0 (DiskT g D :: L) w) :
    ∃ vj v0 v1 wf, Sep w0 (Cl g (DC vj v0 v1 D.dead wf) 52 :: By vj D.j :: By v0 D.s0 :: By v1 D.s1 :: WrT g wf D.arm :: L) w := by
  obtain ⟨x, h⟩ := h.ex fun _ => loc_grp (loc_dl _ _ _ _ _ _)
  exact ⟨x.1, x.2.1, x.2.2.1, x.2.2.2, h.open_ (loc_dl _ _ _ _ _ _)⟩
theorem Sep.closeD {w0 w : World} {g : Nat} (D : DS) {vj v0 v1 wf : Value} {L : List Thing} (h : Sep w0 (Cl g (DC vj v0 v1 D.dead wf) 52 :: By vj D.j :: By v0 D.s0 :: By v1 D.s1 :: WrT g wf D.arm :: L) w) : Sep w0 (DiskT g D :: L) w :=
  Sep.give (A := fun x : Value × Value × Value × Value => Grp (DL g D x.1 x.2.1 x.2.2.1 x.2.2.2)) (vj, v0, v1, wf) (Sep.close (M := DL g D vj v0 v1 wf) h) fun _ => loc_grp (loc_dl _ _ _ _ _ _)
/-- What the walk reads of it. -/
theorem Sep.cellsD {w0 w : World} {g : Nat} {vj v0 v1 wf : Value} {dead : Bool} {L : List Thing} (h : Sep w0 (Cl g (DC vj v0 v1 dead wf) 52 :: L) w) :
    w.cell? ⟨g, 0, none⟩ = some vj ∧ w.cell? ⟨g, 1, none⟩ = some v0 ∧ w.cell? ⟨g, 2, none⟩ = some v1 ∧ w.cell? ⟨g, 3, none⟩ = some (.bool dead) ∧ w.cell? ⟨g, 4, none⟩ = some wf :=
  ⟨h.cell rfl, h.cell rfl, h.cell rfl, h.cell rfl, h.cell rfl⟩
theorem Sep.frozen {w0 w : World} {g : Nat} {xs : Array Value} {t : TypeId} {L : List Thing} (h : Sep w0 (Cl g xs t :: L) w) (o : Nat) : w.frozen? ⟨g, o, none⟩ = false := by
  unfold World.frozen?; rw [h.blk]; simp
theorem Sep.isFunc {w0 w : World} {g : Nat} {wf : Value} {a : Option Nat} {L : List Thing} (h : Sep w0 (WrT g wf a :: L) w) : ∃ f c, wf = .func (.func f) #[] c := by
  cases a with
  | none => exact ⟨_, _, h.fact⟩
  | some n =>
    obtain ⟨p, h⟩ := h.ex fun _ => loc_grp (loc_arm _ _ _ _ _)
    have h := h.open_ (loc_arm _ _ _ _ _)
    exact ⟨_, _, Sep.fact h⟩
theorem fn_nil (f : FuncId) (c : Array Value) (w : World) : Sem.run Try.prog (binOp BinOp.eql 45 (Value.func (Fn.func f) #[] c) Value.nilFunc) w = .ok (.bool false) w := run_eql_func_nil w Try.underlying45 f c
theorem none_any {w0 w : World} {g : Nat} {D : DS} {L : List Thing} (h : Sep w0 (DiskT g D :: L) w) :
    Calls Try.prog 37 #[.pointer (some ⟨g, 0, none⟩)] w fun e w' => e = .returned (.bool false) ∧ w = w' := by
  obtain ⟨vj, v0, v1, wf, h⟩ := h.openD
  obtain ⟨c0, c1, c2, c3, c4⟩ := h.cellsD
  obtain ⟨f, c, rfl⟩ := h.sw5.isFunc
  clear h c0 c1 c2 c3
  have e1 := fn_nil f c
  go_enter Try.func37, Try.ntmps37
  go_wp2
  go_ret
  exact ⟨rfl, rfl⟩
def ckE (d : Bool) : Int := if d then 130 else 0
theorem check_any {w0 w : World} {g : Nat} {D : DS} {L : List Thing} (h : Sep w0 (DiskT g D :: L) w) :
    Calls Try.prog 39 #[.pointer (some ⟨g, 0, none⟩)] w fun e w' => e = .returned (.int .i64 (ckE D.dead)) ∧ w = w' := by
  have H := Lib.hid h
  obtain ⟨vj, v0, v1, wf, h⟩ := h.openD
  obtain ⟨c0, c1, c2, c3, c4⟩ := h.cellsD
  clear h c0 c1 c2 c4
  cases hd : D.dead
  all_goals
    rw [hd] at c3
    clear hd
    go_enter Try.func39, Try.ntmps39
    go_wp2_with (go_at_call 37; refine (none_any H.out).mono ?_; rintro r0 w1 ⟨rfl, rfl⟩)
    go_ret
    exact ⟨rfl, rfl⟩
theorem dead_any {w0 w : World} {g : Nat} {D : DS} {L : List Thing} (h : Sep w0 (DiskT g D :: L) w) :
    Calls Try.prog 15 #[.pointer (some ⟨g, 0, none⟩)] w fun e w' => e = .returned (.bool D.dead) ∧ w = w' := by
  have H := Lib.hid h
  obtain ⟨vj, v0, v1, wf, h⟩ := h.openD
  obtain ⟨c0, c1, c2, c3, c4⟩ := h.cellsD
  clear h c0 c1 c2 c4
  go_enter Try.func15, Try.ntmps15
  go_wp2_with (go_at_call 37; refine (none_any H.out).mono ?_; rintro r0 w1 ⟨rfl, rfl⟩)
  go_ret
  exact ⟨rfl, rfl⟩
theorem new_any {w0 w : World} {L : List Thing} (h : Sep w0 L w) :
    Calls Try.prog 9 #[] w fun e w' => ∃ g, e = .returned (.pointer (some ⟨g, 0, none⟩)) ∧ Sep w0 (DiskT g ⟨[], [], [], false, none⟩ :: L) w' := by
  go_enter Try.func9, Try.ntmps9
  go_wp2
  go_ret
  refine ⟨_, rfl, Sep.closeD ⟨[], [], [], false, none⟩ (vj := .slice none 0 0) (v0 := .slice none 0 0) (v1 := .slice none 0 0) (wf := .func (.func 26) #[] #[]) ?_⟩
  exact ((((((h.alloc _).say rfl).rnil 5).rnil 5).rnil 5).sw5)
/-- What is written, and is the disk dead then. -/
def wrB (l : List UInt8) : Option Nat → List UInt8
  | none => l
  | some n => l.take n
theorem whole_any {w0 w : World} {L : List Thing} (v : Value) (l : List UInt8) (h : Sep w0 L w) (hv : Sl w v (bv l)) (hlen : l.length ≤ 2199023255552) :
    Calls Try.prog 26 #[v] w fun e w' => ∃ v', e = .returned v' ∧ Sep w0 (By v' l :: L) w' := by
  have H := Lib.hid h
  have HV := Lib.hid hv
  clear h hv
  go_enter Try.func26, Try.ntmps26
  go_wp2_with (go_at_call 38; refine (clone_sep _ l _ H.out HV.out hlen).mono ?_; rintro r0 w1 ⟨v1, rfl, h1⟩)
  go_ret
  exact ⟨_, rfl, h1⟩
theorem make8 (m : Nat) (hm : m ≤ 281474976710656) (w : World) : (Instr.makeSlice 27 (.int .i64 (m : Int)) (.int .i64 (m : Int))).run Try.prog w = .ok (.slice (some ⟨w.heap.size, 0, none⟩) m m) (w.alloc (.cells (madeCells #[.int .u8 0] m) 5)) :=
  Go.run_make_row' 27 5 _ 1 Try.underlying27 info8 rfl .i64 .i64 m (by omega) (by omega) w
theorem info8s : (Try.prog.info? 5).map (·.size) = some 1 := by kernel_rfl
theorem sl_off {w : World} {g : Nat} {xs : Array Value} {t : TypeId} {v : Value} {l : List UInt8} (h : Sl w v (bv l)) (hg : w.heap[g]? = some (.cells xs t (0, 0))) (hx : ∀ (o : Nat) (n : Int), xs[o]? ≠ some (Value.int .u8 n)) (o : Nat) (x : Value) : Sl (w.setCell ⟨g, o, none⟩ x) v (bv l) := by
  rcases h with (h | ⟨b, off, cap, rfl, h1, h2, h3, hc⟩) | h
  · exact .inl (.inl h)
  · by_cases hb : b = g
    · subst hb
      cases l with
      | nil => exact .inl (.inr ⟨b, off, cap, rfl, h1, h2, by simpa [World.setCell] using h3, fun j u hj => by simp [bv] at hj⟩)
      | cons y l =>
        have h0 := hc 0 (.int .u8 y.toNat) rfl
        unfold World.cell? at h0
        rw [hg] at h0
        exact (hx (off + 0) _ (by simpa using h0)).elim
    · refine .inl (.inr ⟨b, off, cap, rfl, h1, h2, by simpa [World.setCell] using h3, fun j u hj => ?_⟩)
      rw [World.cell?_of_block (w := w) (Below.heap_setCell _ _ _ _ (by simpa using hb))]
      exact hc j u hj
  · exact .inr h
theorem dc_ne (a0 a1 a2 : Option Addr) (n0 c0 n1 c1 n2 c2 : Nat) (d : Bool) (f : Fn) (x y : Array Value) : ∀ (o : Nat) (n : Int), (DC (.slice a0 n0 c0) (.slice a1 n1 c1) (.slice a2 n2 c2) d (.func f x y))[o]? ≠ some (Value.int .u8 n) := by
  intro o n
  match o with
  | 0 | 1 | 2 | 3 | 4 => simp
  | o + 5 => simp
set_option maxHeartbeats 1000000 in
theorem arm1_any {w0 w : World} {L : List Thing} {g pd pc n : Nat} {vj v0 v1 wf : Value} {dead : Bool} (v : Value) (l : List UInt8)
    (h : Sep w0 (Cl g (DC vj v0 v1 dead wf) 52 :: Cl pd #[.pointer (some ⟨g, 0, none⟩)] 23 :: Cl pc #[.int .i64 n] 3 :: L) w) (hv : Sl w v (bv l)) (hlen : l.length ≤ 1000000000) (hx : ∀ (o : Nat) (n : Int), (DC vj v0 v1 dead wf)[o]? ≠ some (Value.int .u8 n)) :
    Calls Try.prog 43 #[v, .pointer (some ⟨pd, 0, none⟩), .pointer (some ⟨pc, 0, none⟩)] w fun e w' => ∃ v', e = .returned v' ∧
      Sep w0 (By v' (l.take n) :: Cl g (DC vj v0 v1 true wf) 52 :: Cl pd #[.pointer (some ⟨g, 0, none⟩)] 23 :: Cl pc #[.int .i64 n] 3 :: L) w' := by
  have hd := h.sw2.cell (o := 0) rfl
  obtain ⟨c0, c1, c2, c3, c4⟩ := h.cellsD
  have hf := h.frozen 3
  have h1 := h.setCell 3 (.bool true)
  have hv1 := sl_off hv h.blk hx 3 (.bool true)
  have hc1 := h1.sw3.cell (o := 0) rfl
  have hL := hv.len
  rw [bv_length] at hL
  obtain ⟨a, c, rfl⟩ := hL
  obtain ⟨m, hm1, hm2⟩ : ∃ m, m ≤ l.length ∧ l.take n = l.take m ∧ ((n ≤ l.length ∧ m = n) ∨ (l.length < n ∧ m = l.length)) := by
    by_cases hnl : n ≤ l.length
    · exact ⟨n, hnl, rfl, .inl ⟨hnl, rfl⟩⟩
    · exact ⟨l.length, Nat.le_refl _, by rw [List.take_length, List.take_of_length_le (by omega)], .inr ⟨by omega, rfl⟩⟩
  have hz : (w.setCell ⟨g, 3, none⟩ (.bool true)).heap.size = w.heap.size := by simp [World.setCell]
  have hmk := make8 m (by omega) (w.setCell ⟨g, 3, none⟩ (.bool true))
  obtain ⟨u, w2, hr, h2⟩ := copy_own (P := Try.prog) (ty := 3) (sT := 27) Try.underlying27 info8s (h1.alloc (.cells (madeCells #[.int .u8 0] m) 5)) (n := m) (by simp [madeCells]) (hv1.below ((Below.refl _ _).alloc (Nat.le_refl _) _)) (by rw [bv_length]; exact hm1) (bv_one l)
  have h3 := h2.asRow m (by simp [bv_length, hm1]) (by unfold maxLen; omega)
  rw [hz] at hmk hr h3
  have H3 : Hid (Sep w0 (By (.slice (some ⟨w.heap.size, 0, none⟩) m m) (l.take m) :: Cl g (DC vj v0 v1 true wf) 52 :: Cl pd #[.pointer (some ⟨g, 0, none⟩)] 23 :: Cl pc #[.int .i64 n] 3 :: L) w2) := Lib.hid (by
    have := h3
    simp only [bv, ← List.map_take] at this
    exact this)
  have Hmk := Lib.hid hmk
  have Hr := Lib.hid hr
  rw [hm2.1]
  rcases hm2.2 with ⟨hn, rfl⟩ | ⟨hn, rfl⟩
  all_goals
    clear h h1 hv hv1 c0 c1 c2 c4 hx hz hmk hr h2 h3 hm1 hm2
    go_enter Try.func43, Try.ntmps43
    go_wp2_with fail
    rw [Hmk.out]
    go_wp2_with fail
    rw [Hr.out]
    go_wp2_with fail
    go_ret
    exact ⟨_, rfl, H3.out⟩

theorem Sep.sep1 {w0 w : World} {A B : Thing} {L : List Thing} {g : Nat} (h : Sep w0 (A :: B :: L) w) (ha : ∀ F, A w F → F g) (hb : ∀ F, B w F → F g) : False := by
  obtain ⟨_, _, F, h1, _, F', h2, hf, _⟩ := h
  exact (hf g (hb _ h2)).2.2 (.inr (ha _ h1))
theorem Sep.rw_ne {w0 w : World} {g : Nat} {o : Obj} {e : TypeId} {v : Value} {xs : List Value} {L : List Thing} (h : Sep w0 (Blk g o :: Rw e v xs :: L) w) : v.ownBlock ≠ some g :=
  fun hv => h.sep1 (g := g) (fun F hF => (hF.2 g).2 rfl) (fun F hF => (hF.2 g).2 hv)
/-- The state behind a write of l. -/
def wrD (d : Bool) : Option Nat → Bool
  | none => d
  | some _ => true
def DS.append (D : DS) (l : List UInt8) : DS := { D with j := D.j ++ wrB l D.arm, dead := wrD D.dead D.arm }
theorem Sep.openW {w0 w : World} {g n : Nat} {wf : Value} {L : List Thing} (h : Sep w0 (WrT g wf (some n) :: L) w) :
    ∃ pd pc : Nat, wf = .func (.func 43) #[] #[.pointer (some ⟨pd, 0, none⟩), .pointer (some ⟨pc, 0, none⟩)] ∧ Sep w0 (Cl pd #[.pointer (some ⟨g, 0, none⟩)] 23 :: Cl pc #[.int .i64 n] 3 :: L) w := by
  obtain ⟨p, h⟩ := h.ex fun _ => loc_grp (loc_arm _ _ _ _ _)
  have h := h.open_ (loc_arm _ _ _ _ _)
  exact ⟨p.1, p.2, Sep.fact h, Sep.drop h⟩
theorem Sep.closeW {w0 w : World} {g n pd pc : Nat} {L : List Thing} (h : Sep w0 (Cl pd #[.pointer (some ⟨g, 0, none⟩)] 23 :: Cl pc #[.int .i64 n] 3 :: L) w) :
    Sep w0 (WrT g (.func (.func 43) #[] #[.pointer (some ⟨pd, 0, none⟩), .pointer (some ⟨pc, 0, none⟩)]) (some n) :: L) w :=
  Sep.give (A := fun p : Nat × Nat => Grp [Fact (Value.func (.func 43) #[] #[.pointer (some ⟨pd, 0, none⟩), .pointer (some ⟨pc, 0, none⟩)] = .func (.func 43) #[] #[.pointer (some ⟨p.1, 0, none⟩), .pointer (some ⟨p.2, 0, none⟩)]), Cl p.1 #[.pointer (some ⟨g, 0, none⟩)] 23, Cl p.2 #[.int .i64 n] 3]) (pd, pc)
    (Sep.close (M := [Fact (Value.func (.func 43) #[] #[.pointer (some ⟨pd, 0, none⟩), .pointer (some ⟨pc, 0, none⟩)] = .func (.func 43) #[] #[.pointer (some ⟨pd, 0, none⟩), .pointer (some ⟨pc, 0, none⟩)]), Cl pd #[.pointer (some ⟨g, 0, none⟩)] 23, Cl pc #[.int .i64 n] 3]) (h.say rfl)) fun p => loc_grp (loc_arm g n p.1 p.2 _)
set_option maxHeartbeats 1000000 in
theorem append_none {w0 w : World} {L : List Thing} {g  : Nat} (j s0 s1 : List UInt8) (v : Value) (l : List UInt8) (h : Sep w0 (DiskT g ⟨j, s0, s1, false, none⟩ :: L) w) (hv : Sl w v (bv l)) (hl : j.length + l.length ≤ 1048576) :
    Calls Try.prog 24 #[.pointer (some ⟨g, 0, none⟩), v] w fun e w' => e = .returned (.int .i64 0) ∧ Sep w0 (DiskT g ⟨j ++ l, s0, s1, false, none⟩ :: L) w' := by
  have H := Lib.hid h
  obtain ⟨vj, v0, v1, wf, h⟩ := h.openD
  obtain ⟨c0, c1, c2, c3, c4⟩ := h.cellsD
  obtain ⟨aj, cj, rfl⟩ := h.sw2.sl.len
  obtain ⟨a, c, rfl⟩ := hv.len
  simp only [bv_length] at *
  have hv' := Lib.hid (hv.below ((Below.refl _ w).drew))
  have hwf := h.sw5.fact
  subst hwf
  have hs := Lib.hid h.drew
  clear h hv c1 c2 c3
  go_enter Try.func24, Try.ntmps24
  go_wp2_with (go_at_call 39; refine (check_any H.out).mono ?_; rintro r0 w1 ⟨rfl, rfl⟩)
  go_region_law (first | (go_simp; go_at_call 26; refine Calls.mono (whole_any _ l hs.out hv'.out (by omega)) ?_; rintro r0 w1 ⟨v1', rfl, h1⟩; obtain ⟨k0, _, _, _, k4⟩ := h1.sw2.cellsD; obtain ⟨v2, w2, hr2, h2, _⟩ := app8 (ty := 27) h1.sw3 h1.sl (by omega); obtain ⟨a2, c2, rfl⟩ := h2.sl.len; obtain ⟨q0, _, _, _, q4⟩ := h2.sw3.cellsD; have q5 := h2.sw3.frozen 0; have H3 := Lib.hid (Sep.closeD ⟨j ++ l, s0, s1, false, none⟩ (h2.sw3.setCell 0 (.slice a2 (bv (j ++ l)).length c2)).sw3.drop); have Hr2 := Lib.hid hr2; clear hr2 h2 h1) | (refine step_append_run (by rfl) (.tmp 24) (.tmp 30) 27 27 (by rfl) _ _ (by rfl) (by rfl) Hr2.out ?_))
  all_goals
    clear Hr2 H k0 k4 q0 q4 q5
    go_wp2_with (go_at_call 39; refine (check_any H3.out).mono ?_; rintro r0 w1 ⟨rfl, rfl⟩)
    go_ret
    exact ⟨rfl, H3.out⟩
set_option maxHeartbeats 1000000 in
theorem append_some {w0 w : World} {L : List Thing} {g n : Nat} (j s0 s1 : List UInt8) (v : Value) (l : List UInt8) (h : Sep w0 (DiskT g ⟨j, s0, s1, false, some n⟩ :: L) w) (hv : Sl w v (bv l)) (hl : j.length + l.length ≤ 1048576) :
    Calls Try.prog 24 #[.pointer (some ⟨g, 0, none⟩), v] w fun e w' => e = .returned (.int .i64 130) ∧ Sep w0 (DiskT g ⟨j ++ l.take n, s0, s1, true, some n⟩ :: L) w' := by
  have H := Lib.hid h
  obtain ⟨vj, v0, v1, wf, h⟩ := h.openD
  obtain ⟨c0, c1, c2, c3, c4⟩ := h.cellsD
  obtain ⟨aj', cj', rfl⟩ := h.sw2.sl.len
  obtain ⟨a0', c0', rfl⟩ := h.sw3.sl.len
  obtain ⟨a1', c1', rfl⟩ := h.sw4.sl.len
  obtain ⟨a, c, rfl⟩ := hv.len
  simp only [bv_length] at *
  have hv' := Lib.hid (hv.below ((Below.refl _ w).drew))
  obtain ⟨pd, pc, rfl, h⟩ := h.sw5.openW
  have hs := Lib.hid h.drew.sw3
  have Hx := Lib.hid (dc_ne aj' a0' a1' j.length cj' s0.length c0' s1.length c1' false (.func 43) #[] #[.pointer (some ⟨pd, 0, none⟩), .pointer (some ⟨pc, 0, none⟩)])
  clear h hv c1 c2 c3
  go_enter Try.func24, Try.ntmps24
  go_wp2_with (go_at_call 39; refine (check_any H.out).mono ?_; rintro r0 w1 ⟨rfl, rfl⟩)
  go_region_law (first | (go_simp; go_at_call 43; refine Calls.mono (arm1_any _ l hs.out hv'.out (by omega) Hx.out) ?_; rintro r0 w1 ⟨v1', rfl, h1⟩; obtain ⟨k0, _, _, _, k4⟩ := h1.sw2.cellsD; obtain ⟨v2, w2, hr2, h2, _⟩ := app8 (ty := 27) h1.sw5 h1.sl (by simp only [List.length_take]; omega); obtain ⟨a2, c2, rfl⟩ := h2.sl.len; obtain ⟨q0, _, _, _, q4⟩ := h2.sw3.cellsD; have q5 := h2.sw3.frozen 0; have H3 := Lib.hid (Sep.closeD ⟨j ++ l.take n, s0, s1, true, some n⟩ (h2.sw3.setCell 0 (.slice a2 (bv (j ++ l.take n)).length c2)).sw3.drop.sw4.sw4.closeW.to5); have Hr2 := Lib.hid hr2; clear hr2 h2 h1) | (refine step_append_run (by rfl) (.tmp 24) (.tmp 30) 27 27 (by rfl) _ _ (by rfl) (by rfl) Hr2.out ?_))
  all_goals
    clear Hr2 H k0 k4 q0 q4 q5
    go_wp2_with (go_at_call 39; refine (check_any H3.out).mono ?_; rintro r0 w1 ⟨rfl, rfl⟩)
    go_ret
    exact ⟨rfl, H3.out⟩
set_option maxHeartbeats 1000000 in
theorem slot0_none {w0 w : World} {L : List Thing} {g  : Nat} (j s0 s1 : List UInt8) (v : Value) (l : List UInt8) (h : Sep w0 (DiskT g ⟨j, s0, s1, false, none⟩ :: L) w) (hv : Sl w v (bv l)) (hl : l.length ≤ 65536) :
    Calls Try.prog 17 #[.pointer (some ⟨g, 0, none⟩), .int .i64 0, v] w fun e w' => e = .returned (.int .i64 0) ∧ Sep w0 (DiskT g ⟨j, l, s1, false, none⟩ :: L) w' := by
  have H := Lib.hid h
  obtain ⟨vj, v0, v1, wf, h⟩ := h.openD
  obtain ⟨c0, c1, c2, c3, c4⟩ := h.cellsD
  obtain ⟨a, c, rfl⟩ := hv.len
  simp only [bv_length] at *
  have hv' := Lib.hid (hv.below ((Below.refl _ w).drew))
  have hwf := h.sw5.fact
  subst hwf
  have hs := Lib.hid h.drew
  clear h hv c0 c1 c2 c3
  go_enter Try.func17, Try.ntmps17
  go_wp2_with (go_at_call 39; refine (check_any H.out).mono ?_; rintro r0 w1 ⟨rfl, rfl⟩)
  go_region_held3 (fun w' => w'.cell? ⟨g, 4, none⟩ = some (.func (.func 26) #[] #[])) (first | go_keep | exact (World.cell?_setCell_other _ _ _ _ (by simp)).trans k4) ((go_at_call 26; refine Calls.mono (whole_any _ l hs.out hv'.out (by omega)) ?_; rintro r0 w1 ⟨v1', rfl, h1⟩; obtain ⟨a2, c2, rfl⟩ := h1.sl.len; obtain ⟨_, k1, k2, _, k4⟩ := h1.sw2.cellsD; have q5 := h1.sw2.frozen 1; have H3 := Lib.hid (Sep.closeD ⟨j, l, s1, false, none⟩ (h1.sw2.setCell 1 (.slice a2 (bv (l)).length c2)).sw4.drop.sw3.sw2); clear h1))
  all_goals
    clear H k1 k2 k4 q5
    go_wp2_with (go_at_call 39; refine (check_any H3.out).mono ?_; rintro r0 w1 ⟨rfl, rfl⟩)
    go_ret
    exact ⟨rfl, H3.out⟩
set_option maxHeartbeats 1000000 in
theorem slot0_some {w0 w : World} {L : List Thing} {g n : Nat} (j s0 s1 : List UInt8) (v : Value) (l : List UInt8) (h : Sep w0 (DiskT g ⟨j, s0, s1, false, some n⟩ :: L) w) (hv : Sl w v (bv l)) (hl : l.length ≤ 65536) :
    Calls Try.prog 17 #[.pointer (some ⟨g, 0, none⟩), .int .i64 0, v] w fun e w' => e = .returned (.int .i64 130) ∧ Sep w0 (DiskT g ⟨j, l.take n, s1, true, some n⟩ :: L) w' := by
  have H := Lib.hid h
  obtain ⟨vj, v0, v1, wf, h⟩ := h.openD
  obtain ⟨c0, c1, c2, c3, c4⟩ := h.cellsD
  obtain ⟨aj', cj', rfl⟩ := h.sw2.sl.len
  obtain ⟨a0', c0', rfl⟩ := h.sw3.sl.len
  obtain ⟨a1', c1', rfl⟩ := h.sw4.sl.len
  obtain ⟨a, c, rfl⟩ := hv.len
  simp only [bv_length] at *
  have hv' := Lib.hid (hv.below ((Below.refl _ w).drew))
  obtain ⟨pd, pc, rfl, h⟩ := h.sw5.openW
  have hs := Lib.hid h.drew.sw3
  have Hx := Lib.hid (dc_ne aj' a0' a1' j.length cj' s0.length c0' s1.length c1' false (.func 43) #[] #[.pointer (some ⟨pd, 0, none⟩), .pointer (some ⟨pc, 0, none⟩)])
  clear h hv c0 c1 c2 c3
  go_enter Try.func17, Try.ntmps17
  go_wp2_with (go_at_call 39; refine (check_any H.out).mono ?_; rintro r0 w1 ⟨rfl, rfl⟩)
  go_region_held3 (fun w' => w'.cell? ⟨g, 4, none⟩ = some (.func (.func 43) #[] #[.pointer (some ⟨pd, 0, none⟩), .pointer (some ⟨pc, 0, none⟩)])) (first | go_keep | exact (World.cell?_setCell_other _ _ _ _ (by simp)).trans k4) ((go_at_call 43; refine Calls.mono (arm1_any _ l hs.out hv'.out (by omega) Hx.out) ?_; rintro r0 w1 ⟨v1', rfl, h1⟩; obtain ⟨a2, c2, rfl⟩ := h1.sl.len; obtain ⟨_, k1, k2, _, k4⟩ := h1.sw2.cellsD; have q5 := h1.sw2.frozen 1; have H3 := Lib.hid (Sep.closeD ⟨j, l.take n, s1, true, some n⟩ (h1.sw2.setCell 1 (.slice a2 (bv (l.take n)).length c2)).sw4.sw4.closeW.to6.sw4.drop.sw3.sw2); clear h1))
  all_goals
    clear H k1 k2 k4 q5
    go_wp2_with (go_at_call 39; refine (check_any H3.out).mono ?_; rintro r0 w1 ⟨rfl, rfl⟩)
    go_ret
    exact ⟨rfl, H3.out⟩
set_option maxHeartbeats 1000000 in
theorem slot1_none {w0 w : World} {L : List Thing} {g  : Nat} (j s0 s1 : List UInt8) (v : Value) (l : List UInt8) (h : Sep w0 (DiskT g ⟨j, s0, s1, false, none⟩ :: L) w) (hv : Sl w v (bv l)) (hl : l.length ≤ 65536) :
    Calls Try.prog 17 #[.pointer (some ⟨g, 0, none⟩), .int .i64 1, v] w fun e w' => e = .returned (.int .i64 0) ∧ Sep w0 (DiskT g ⟨j, s0, l, false, none⟩ :: L) w' := by
  have H := Lib.hid h
  obtain ⟨vj, v0, v1, wf, h⟩ := h.openD
  obtain ⟨c0, c1, c2, c3, c4⟩ := h.cellsD
  obtain ⟨a, c, rfl⟩ := hv.len
  simp only [bv_length] at *
  have hv' := Lib.hid (hv.below ((Below.refl _ w).drew))
  have hwf := h.sw5.fact
  subst hwf
  have hs := Lib.hid h.drew
  clear h hv c0 c1 c2 c3
  go_enter Try.func17, Try.ntmps17
  go_wp2_with (go_at_call 39; refine (check_any H.out).mono ?_; rintro r0 w1 ⟨rfl, rfl⟩)
  go_region_held3 (fun w' => w'.cell? ⟨g, 4, none⟩ = some (.func (.func 26) #[] #[])) (first | go_keep | exact (World.cell?_setCell_other _ _ _ _ (by simp)).trans k4) ((go_at_call 26; refine Calls.mono (whole_any _ l hs.out hv'.out (by omega)) ?_; rintro r0 w1 ⟨v1', rfl, h1⟩; obtain ⟨a2, c2, rfl⟩ := h1.sl.len; obtain ⟨_, k1, k2, _, k4⟩ := h1.sw2.cellsD; have q5 := h1.sw2.frozen 2; have H3 := Lib.hid (Sep.closeD ⟨j, s0, l, false, none⟩ (h1.sw2.setCell 2 (.slice a2 (bv (l)).length c2)).sw5.drop.sw3.sw2.sw4.sw3.sw3); clear h1))
  all_goals
    clear H k1 k2 k4 q5
    go_wp2_with (go_at_call 39; refine (check_any H3.out).mono ?_; rintro r0 w1 ⟨rfl, rfl⟩)
    go_ret
    exact ⟨rfl, H3.out⟩
set_option maxHeartbeats 1000000 in
theorem slot1_some {w0 w : World} {L : List Thing} {g n : Nat} (j s0 s1 : List UInt8) (v : Value) (l : List UInt8) (h : Sep w0 (DiskT g ⟨j, s0, s1, false, some n⟩ :: L) w) (hv : Sl w v (bv l)) (hl : l.length ≤ 65536) :
    Calls Try.prog 17 #[.pointer (some ⟨g, 0, none⟩), .int .i64 1, v] w fun e w' => e = .returned (.int .i64 130) ∧ Sep w0 (DiskT g ⟨j, s0, l.take n, true, some n⟩ :: L) w' := by
  have H := Lib.hid h
  obtain ⟨vj, v0, v1, wf, h⟩ := h.openD
  obtain ⟨c0, c1, c2, c3, c4⟩ := h.cellsD
  obtain ⟨aj', cj', rfl⟩ := h.sw2.sl.len
  obtain ⟨a0', c0', rfl⟩ := h.sw3.sl.len
  obtain ⟨a1', c1', rfl⟩ := h.sw4.sl.len
  obtain ⟨a, c, rfl⟩ := hv.len
  simp only [bv_length] at *
  have hv' := Lib.hid (hv.below ((Below.refl _ w).drew))
  obtain ⟨pd, pc, rfl, h⟩ := h.sw5.openW
  have hs := Lib.hid h.drew.sw3
  have Hx := Lib.hid (dc_ne aj' a0' a1' j.length cj' s0.length c0' s1.length c1' false (.func 43) #[] #[.pointer (some ⟨pd, 0, none⟩), .pointer (some ⟨pc, 0, none⟩)])
  clear h hv c0 c1 c2 c3
  go_enter Try.func17, Try.ntmps17
  go_wp2_with (go_at_call 39; refine (check_any H.out).mono ?_; rintro r0 w1 ⟨rfl, rfl⟩)
  go_region_held3 (fun w' => w'.cell? ⟨g, 4, none⟩ = some (.func (.func 43) #[] #[.pointer (some ⟨pd, 0, none⟩), .pointer (some ⟨pc, 0, none⟩)])) (first | go_keep | exact (World.cell?_setCell_other _ _ _ _ (by simp)).trans k4) ((go_at_call 43; refine Calls.mono (arm1_any _ l hs.out hv'.out (by omega) Hx.out) ?_; rintro r0 w1 ⟨v1', rfl, h1⟩; obtain ⟨a2, c2, rfl⟩ := h1.sl.len; obtain ⟨_, k1, k2, _, k4⟩ := h1.sw2.cellsD; have q5 := h1.sw2.frozen 2; have H3 := Lib.hid (Sep.closeD ⟨j, s0, l.take n, true, some n⟩ (h1.sw2.setCell 2 (.slice a2 (bv (l.take n)).length c2)).sw4.sw4.closeW.to6.sw5.drop.sw3.sw2.sw4.sw3.sw3); clear h1))
  all_goals
    clear H k1 k2 k4 q5
    go_wp2_with (go_at_call 39; refine (check_any H3.out).mono ?_; rintro r0 w1 ⟨rfl, rfl⟩)
    go_ret
    exact ⟨rfl, H3.out⟩
end Go.Proofs.Ytpnafgkoijnplaa
