/- The statement's own: made, kind reserve; made. -/
import Derived.Test.YtfjodadmcfdlpaaDoorItem15
import Derived.Test.YtfjodadmcfdlpaaDoorItem8
import Derived.Test.YtfjodadmcfdlpaaDoorHeldTwo
namespace Go.Proofs.YtfjodadmcfdlpaaDoor
open Go.RowKit
set_option linter.unusedVariables false
set_option linter.unusedSimpArgs false
def nmL (m : Nat) : KS := ⟨⟨#[115, UInt8.ofNat (97 + m)]⟩, by unfold maxLen; show 2 ≤ _; decide⟩
theorem nmL_ok {m : Nat} (h : m ≤ 23) : nameB (nmL m).1 = true := by
  have : (List.range 24).all (fun m => nameB (nmL m).1) = true := by kernel_rfl
  exact List.all_eq_true.1 this m (List.mem_range.2 (by omega))
theorem nmL_inj {m m' : Nat} (h : m ≤ 23) (h' : m' ≤ 23) (e : nmL m = nmL m') : m = m' := by
  have : (List.range 24).all (fun m => (List.range 24).all fun m' => decide (m = m') || !decide ((nmL m).1.data.toList = (nmL m').1.data.toList)) = true := by kernel_rfl
  have h2 := List.all_eq_true.1 (List.all_eq_true.1 this m (List.mem_range.2 (by omega))) m' (List.mem_range.2 (by omega))
  rw [e] at h2
  simpa using h2
/-- Lines of which each has a name of its own. -/
structure LinesTo (m j : Nat) (acc : List Ln) : Prop where
  len : acc.length ≤ j
  pos : 0 < j → 0 < acc.length
  ok : acc.all lineB = true
  nm : ∀ l ∈ acc, ∃ i, i < j ∧ l.1 = nmL (m + i)
  nd : (acc.map (·.1)).Nodup
theorem LinesTo.nil (m : Nat) : LinesTo m 0 [] := ⟨Nat.le_refl _, fun h => absurd h (Nat.lt_irrefl _), rfl, by simp, by simp⟩
theorem LinesTo.skip {m j : Nat} {acc : List Ln} (h : LinesTo m j acc) (hj : 0 < j) : LinesTo m (j + 1) acc :=
  ⟨by have := h.len; omega, fun _ => h.pos hj, h.ok, fun l hl => by obtain ⟨i, h1, h2⟩ := h.nm l hl; exact ⟨i, by omega, h2⟩, h.nd⟩
theorem LinesTo.snoc {m j : Nat} {acc : List Ln} {q : Int} (h : LinesTo m j acc) (hm : m + j ≤ 23) (hq : qtyB q = true) : LinesTo m (j + 1) (acc ++ [(nmL (m + j), q)]) where
  len := by have := h.len; simp; omega
  pos := fun _ => by simp
  ok := by rw [List.all_append, h.ok]; simp [lineB, nmL_ok hm, hq]
  nm := by
    intro l hl
    rcases List.mem_append.1 hl with hl | hl
    · obtain ⟨i, h1, h2⟩ := h.nm l hl; exact ⟨i, by omega, h2⟩
    · simp at hl; subst hl; exact ⟨j, by omega, rfl⟩
  nd := by
    rw [List.map_append, List.nodup_append]
    refine ⟨h.nd, by simp, ?_⟩
    intro a ha b hb
    simp at hb
    subst hb
    obtain ⟨l, hl, rfl⟩ := List.mem_map.1 ha
    obtain ⟨i, h1, h2⟩ := h.nm l hl
    rw [h2]
    intro e
    have := nmL_inj (by omega) hm e
    omega
theorem LinesTo.lines {m : Nat} {acc : List Ln} (h : LinesTo m 4 acc) : linesB acc = true := by
  unfold linesB
  rw [h.ok]
  simp only [Bool.and_true, Bool.and_eq_true, decide_eq_true_eq]
  exact ⟨⟨h.pos (by omega), h.len⟩, h.nd⟩
theorem app_line3 {w0 w : World} {v : Value} {ls : List Ln} {L : List Thing} {ty : TypeId} (s : KS) (n : Int) (h : Sep w0 (LnR v ls :: L) w) (hl : ls.length ≤ 1000) (bq : Nat) (hbq : w.heap.size = bq) :
    ∃ a c w', (Builtin.append_ #[22, 22] ty #[v, .slice (some ⟨bq, 0, none⟩) 1 1]).run Tryd.prog (w.alloc (.cells #[.string s.1, .int .i64 n] 39)) = .ok (.slice a (ls.length + 1) c) w' ∧ Sep w0 (LnR (.slice a (ls.length + 1) c) (ls ++ [(s, n)]) :: L) w' := by
  subst hbq
  exact app_line s n h hl
theorem ok_22' {o n : Int} {ls : List Ln} (ho : qtyB o = true) (hn : qtyB n = true) (hl : linesB ls = true) : okB 3 sZ o n ls = true := by
  unfold okB; rw [show fieldsOf 3 = 22 by decide]; unfold skuB ordB cntB linB; simp [sZ_empty, ho, hn, hl]
set_option maxRecDepth 100000 in
set_option maxHeartbeats 16000000 in
theorem made_3 {w0 w : World} {L : List Thing} (k : Int) (s : KS) (o n : Int) (v : Value) (ls : List Ln) (h : Sep w0 L w) (hv : LnS w v ls) (hk : k % 9 = 2) :
    Calls Tryd.prog 30 #[.agg #[.int .i64 k, .string s.1, .int .i64 o, .int .i64 n, v]] w (MadeP w0 L) := by
  obtain ⟨a, c, rfl⟩ := hv.len
  have HB1 := Lib.hid (fun wx => bring_any k 9 wx (by unfold Sm; omega))
  rw [hk] at HB1
  obtain ⟨wa, hwa⟩ : ∃ z, z = ((w.alloc (.cells (opCells k s o n (.slice a ls.length c)) 24)).alloc (.cells opZ 24)).alloc (.cells #[.int .i64 3, .string ⟨#[]⟩, .int .i64 0, .int .i64 0, .slice none 0 0] 24) := ⟨_, rfl⟩
  have h1 := ((h.alloc (.cells (opCells k s o n (.slice a ls.length c)) 24)).alloc (.cells opZ 24)).alloc (.cells #[.int .i64 3, .string ⟨#[]⟩, .int .i64 0, .int .i64 0, .slice none 0 0] 24)
  rw [← hwa] at h1
  have z1 : (w.alloc (.cells (opCells k s o n (.slice a ls.length c)) 24)).heap.size = w.heap.size + 1 := by simp
  have z2 : ((w.alloc (.cells (opCells k s o n (.slice a ls.length c)) 24)).alloc (.cells opZ 24)).heap.size = w.heap.size + 1 + 1 := by simp
  rw [z1, z2] at h1
  clear z1 z2
  have HO := Lib.hid (fun wx => (bring_any o 2147483647 wx (by unfold Sm; omega)).mono fun _ _ hh => (⟨hh.1, hh.2.symm⟩ : _ ∧ _))
  have HN := Lib.hid (fun wx => (bring_any n 2147483647 wx (by unfold Sm; omega)).mono fun _ _ hh => (⟨hh.1, hh.2.symm⟩ : _ ∧ _))
  obtain ⟨m, hm, hm20⟩ : ∃ m : Nat, (o.tmod 20 + 20).tmod 20 = (m : Int) ∧ m ≤ 19 := by
    have h1 := Int.tmod_lt_of_pos o (show (0 : Int) < 20 by decide)
    have h2 := Int.lt_tmod_of_pos o (show (0 : Int) < 20 by decide)
    have h3 := Int.tmod_lt_of_pos (o.tmod 20 + 20) (show (0 : Int) < 20 by decide)
    have h4 : 0 ≤ (o.tmod 20 + 20).tmod 20 := Int.tmod_nonneg _ (by omega)
    exact ⟨((o.tmod 20 + 20).tmod 20).toNat, by omega, by omega⟩
  have HM := Lib.hid hm
  have HM20 := Lib.hid hm20
  clear hm hm20
  have ho : 0 ≤ o % 2147483647 ∧ o % 2147483647 ≤ 2147483646 := by omega
  have hn : 0 ≤ n % 2147483647 ∧ n % 2147483647 ≤ 2147483646 := by omega
  generalize o % 2147483647 = qo at *
  generalize n % 2147483647 = qn at *
  have HQ := Lib.hid (And.intro ho hn)
  have wo := I64q ho
  have wn := I64q hn
  obtain ⟨o0, o1⟩ := ho
  obtain ⟨n0, n1⟩ := hn
  unfold opCells opZ at hwa h1
  clear h hv hk
  go_enter Tryd.func30, Tryd.ntmps30
  go_wp2_with fail
  refine (HB1.out _).mono ?_
  rintro r0 w1 ⟨rfl, rfl⟩
  go_wp2_with fail
  rw [← hwa]
  clear hwa HB1
  generalize w.heap.size = b1 at *
  obtain ⟨b2, hb2⟩ : ∃ z, z = b1 + 1 := ⟨_, rfl⟩
  rw [← hb2] at h1 ⊢
  obtain ⟨b3, hb3⟩ : ∃ z, z = b2 + 1 := ⟨_, rfl⟩
  rw [← hb3] at h1 ⊢
  clear hb2 hb3
  obtain ⟨c0, c1, c2, c3, c4⟩ := cells5 h1
  obtain ⟨d0, d1, d2, d3, d4⟩ := cells5 h1.sw3
  have H1 := Lib.hid h1
  clear h1
  go_big_quiet (first | (go_at_call_of 31 (Value.int .i64 o); exact Calls.quiet_of_same (HO.out _)) | (go_at_call_of 31 (Value.int .i64 n); exact Calls.quiet_of_same (HN.out _)))
  have h2 := H1.out.drewN nq
  generalize wa.drewN nq = wb at *
  clear H1 c0 c1 c2 c3 c4 d0 d1 d2 d3 d4 wo wn HO HN
  obtain ⟨c0, c1, c2, c3, c4⟩ := cells5 h2
  obtain ⟨f0, f1, f2, f3, f4⟩ := frz5 h2
  obtain ⟨d0, d1, d2, d3, d4⟩ := cells5 h2.sw3
  have h3 : Sep w0 (Cl b3 #[.int .i64 3, .string ⟨#[]⟩, .int .i64 (1 + qo), .int .i64 (1 + qn), (.slice none 0 0)] 24 :: Cl b2 #[.int .i64 0, .string ⟨#[]⟩, .int .i64 0, .int .i64 0, (.slice none 0 0)] 24 :: Cl b1 #[.int .i64 k, .string s.1, .int .i64 o, .int .i64 n, (.slice a ls.length c)] 24 :: L) ((wb.setCell ⟨b3, 2, none⟩ (.int .i64 (1 + qo))).setCell ⟨b3, 3, none⟩ (.int .i64 (1 + qn))) := (h2.setCell 2 _).setCell 3 _
  have H3 := Lib.hid (h3.rnNil 2 39)
  clear h2 h3
  go_wp2_with fail
  go_loopw [6] (fun i wr => ∃ (j : Nat) (acc : List Ln) (av : Option Addr) (cv : Nat), j ≤ 4 ∧ i = .int .i64 j ∧ LinesTo m j acc ∧ Sep w0 (LnR (.slice av acc.length cv) acc :: Cl b3 #[.int .i64 3, .string ⟨#[]⟩, .int .i64 (1 + qo), .int .i64 (1 + qn), (.slice av acc.length cv)] 24 :: Cl b2 #[.int .i64 0, .string ⟨#[]⟩, .int .i64 0, .int .i64 0, (.slice none 0 0)] 24 :: Cl b1 #[.int .i64 k, .string s.1, .int .i64 o, .int .i64 n, (.slice a ls.length c)] 24 :: L) wr) (fun i _ => 4 - (intOf i).toNat)
  case atStart => exact ⟨0, [], none, 0, by omega, rfl, .nil m, H3.out⟩
  case round =>
    obtain ⟨j, acc, av, cv, hj, rfl, hacc, hs⟩ := hrel
    clear H3 c0 c1 c2 c3 c4 f0 f1 f2 f3 f4 d0 d1 d2 d3 d4
    have HA := Lib.hid hacc
    have HL1 := Lib.hid (show acc.length ≤ 1000 from by have := hacc.len; omega)
    clear hacc
    obtain ⟨x0, x1, x2, x3, x4⟩ := cells5 hs.sw4
    obtain ⟨c0, c1, c2, c3, c4⟩ := cells5 hs.sw2
    obtain ⟨f0, f1, f2, f3, f4⟩ := frz5 hs.sw2
    have j0 : (0 : Int) ≤ (j : Int) := by omega
    have H := Lib.hid hs
    clear hs
    by_cases hj4 : j < 4
    · have hd : decide ((j : Int) < 4) = true := decide_eq_true (by omega)
      have j3 : (j : Int) ≤ 3 := by omega
      have HJ := Lib.hid (And.intro hj hj4)
      clear hj hj4
      have HBR := Lib.hid (fun (x : Int) wx => (bring_any x 2147483647 wx (by unfold Sm; omega)))
      by_cases hlt : j < ls.length
      · have hg1 : decide (j < ls.length) = true := decide_eq_true hlt
        clear hlt
        go_wp2_with fail
        have hk := HA.out.len
        have hz : (UInt8.ofNat (97 + (m + j))).toNat = 97 + (m + j) := by have := HM20.out; have := HJ.out; rw [UInt8.toNat_ofNat']; omega
        have eA : IntKind.i64.wrap (o.tmod 20 + 20) = o.tmod 20 + 20 := IntWalk.i64_in _ (by
          have h1 := Int.tmod_lt_of_pos o (show (0 : Int) < 20 by decide)
          have h2 := Int.lt_tmod_of_pos o (show (0 : Int) < 20 by decide)
          omega)
        have eB := HM.out
        have eC : IntKind.i64.wrap (97 + (m : Int)) = 97 + (m : Int) := IntWalk.i64_in _ (by have := HM20.out; omega)
        have eD : IntKind.i64.wrap (97 + (m : Int) + (j : Int)) = 97 + (m : Int) + (j : Int) := IntWalk.i64_in _ (by have := HM20.out; have := HJ.out; omega)
        obtain ⟨ch, hch⟩ : ∃ ch : UInt8, ch = UInt8.ofNat (97 + (m + j)) := ⟨_, rfl⟩
        rw [← hch] at hz
        have eE : IntKind.u8.wrap (97 + (m : Int) + (j : Int)) = ((ch.toNat : Nat) : Int) := by rw [hz]; unfold IntKind.wrap; have := HM20.out; have := HJ.out; simp [IntKind.bits, IntKind.signed]; omega
        have hA0 := H.out.alloc (.cells #[.int .u8 ((ch.toNat : Nat) : Int)] 5)
        obtain ⟨v0, v1, v2, v3, v4⟩ := cells5 hA0.sw5
        obtain ⟨t0, t1, t2, t3, t4⟩ := cells5 hA0.sw3
        have hA := hA0.drew
        clear hA0
        have hcv := conv_bytes (P := Tryd.prog) Tryd.underlying28 Tryd.underlying5 Tryd.underlying9 (l := [ch]) ((hA.asRow 1 rfl (by unfold maxLen; omega)).sl)
        have hle : (⟨#[115]⟩ ++ ⟨#[ch]⟩ : ByteArray).size ≤ maxLen := by unfold maxLen; show 2 ≤ _; decide
        have HNM : Hid ((⟨⟨#[115]⟩ ++ ⟨#[ch]⟩, hle⟩ : KS) = nmL (m + j)) := Lib.hid (Subtype.ext (by show (⟨#[115]⟩ ++ ⟨#[ch]⟩ : ByteArray) = ⟨#[115, UInt8.ofNat (97 + (m + j))]⟩; rw [← hch]; rfl))
        have hcc : wr.heap.size < wr.heap.size + 1 := by omega
        clear hch
        obtain ⟨X, hX⟩ : ∃ X, X = IntKind.i64.wrap (n + IntKind.i64.wrap ((j : Int) * o)) := ⟨_, rfl⟩
        have HB := Lib.hid (HBR.out X)
        have hq : 0 ≤ X % 2147483647 ∧ X % 2147483647 ≤ 2147483646 := by omega
        generalize X % 2147483647 = q at *
        have HQ2 := Lib.hid hq
        have eQ : IntKind.i64.wrap (1 + q) = 1 + q := I64q hq
        have HX := Lib.hid hX
        clear hX hq hz hk
        obtain ⟨a9, c9, w9, hr, h9⟩ := app_line3 (ty := 22) ⟨⟨#[115]⟩ ++ ⟨#[ch]⟩, hle⟩ (1 + q) hA.sw2 HL1.out (wr.heap.size + 1) (by simp)
        dsimp only at hr
        have hr2 : (Builtin.append_ #[22, 22] 22 #[.slice av acc.length cv, .slice (some ⟨wr.heap.size + 1, 0, none⟩) 1 1]).run Tryd.prog ((wr.alloc (.cells #[.int .u8 ((ch.toNat : Nat) : Int)] 5)).alloc (.cells #[.string (⟨#[115]⟩ ++ ⟨#[ch]⟩), .int .i64 (1 + q)] 39)).drew = .ok (.slice a9 (acc.length + 1) c9) w9 := hr
        have HR := Lib.hid hr2
        obtain ⟨y0, y1, y2, y3, y4⟩ := cells5 h9.sw3
        obtain ⟨g0, g1, g2, g3, g4⟩ := frz5 h9.sw3
        have q2 := (cells5 h9.sw5).2.2.1
        have q3 := (cells5 h9.sw5).2.2.2.1
        have H9 := Lib.hid ((h9.sw2.drop.sw2.setCell 4 (.slice a9 (acc.length + 1) c9)).sw2)
        have HF : Hid (Sep w0 (LnR (.slice a9 (acc ++ [(nmL (m + j), 1 + q)]).length c9) (acc ++ [(nmL (m + j), 1 + q)]) :: Cl b3 #[.int .i64 3, .string ⟨#[]⟩, .int .i64 (1 + qo), .int .i64 (1 + qn), (.slice a9 (acc ++ [(nmL (m + j), 1 + q)]).length c9)] 24 :: Cl b2 #[.int .i64 0, .string ⟨#[]⟩, .int .i64 0, .int .i64 0, (.slice none 0 0)] 24 :: Cl b1 #[.int .i64 k, .string s.1, .int .i64 o, .int .i64 n, (.slice a ls.length c)] 24 :: L) (w9.setCell ⟨b3, 4, none⟩ (.slice a9 (acc.length + 1) c9))) := Lib.hid (by rw [List.length_append, List.length_singleton, ← HNM.out]; exact H9.out)
        have HA2 := Lib.hid (HA.out.snoc (q := 1 + q) (by have := HM20.out; have := HJ.out; omega) (qtyB_1 HQ2.out))
        clear H9
        have hAB := hA.alloc (.cells #[.string (⟨#[115]⟩ ++ ⟨#[ch]⟩), .int .i64 (1 + q)] 39)
        obtain ⟨-, -, u2, u3, -⟩ := cells5 hAB.sw6
        have u4 := (cells5 hAB.sw4).2.2.2.2
        clear hA hr hr2 h9 hAB
        refine wp_region_G (fun w' => w'.cell? ⟨b1, 2, none⟩ = some (.int .i64 o) ∧ w'.cell? ⟨b1, 3, none⟩ = some (.int .i64 n) ∧ w'.cell? ⟨b3, 4, none⟩ = some (.slice av acc.length cv)) [27] (by kernel_rfl) ⟨x2, x3, c4⟩ (fun hS => ?_)
        try dsimp only at hS
        refine wpAnyG_take' (i := 0) (v := ?v0_1p) rfl (by kernel_rfl) (by kernel_rfl) (by kernel_rfl) (by kernel_rfl) (fun _ _ _ h => h) (Or.inl ⟨by rfl, ?hy0_1p⟩) hS ?rest0_1p
        case hy0_1p => intro w hSw; (try dsimp only at hSw); go_simp; (try with_reducible rfl)
        case rest0_1p =>
        try simp only [Act.put, List.setIfInBounds_toArray, List.set_cons_zero, List.set_cons_succ]
        refine wpAnyG_take' (i := 1) (v := ?v1_2p) rfl (by kernel_rfl) (by kernel_rfl) (by kernel_rfl) (by kernel_rfl) (fun _ _ _ h => h) (Or.inl ⟨by rfl, ?hy1_2p⟩) hS ?rest1_2p
        case hy1_2p => intro w hSw; (try dsimp only at hSw); go_simp; (try with_reducible rfl)
        case rest1_2p =>
        try simp only [Act.put, List.setIfInBounds_toArray, List.set_cons_zero, List.set_cons_succ]
        refine wpAnyG_take' (i := 2) (v := ?v2_3p) rfl (by kernel_rfl) (by kernel_rfl) (by kernel_rfl) (by kernel_rfl) (fun _ _ _ h => h) (Or.inl ⟨by rfl, ?hy2_3p⟩) hS ?rest2_3p
        case hy2_3p => intro w hSw; (try dsimp only at hSw); go_simp; (try with_reducible rfl)
        case rest2_3p =>
        try simp only [Act.put, List.setIfInBounds_toArray, List.set_cons_zero, List.set_cons_succ]
        refine wpAnyG_take' (i := 3) (v := ?v3_4p) rfl (by kernel_rfl) (by kernel_rfl) (by kernel_rfl) (by kernel_rfl) (fun _ _ _ h => h) (Or.inl ⟨by rfl, ?hy3_4p⟩) hS ?rest3_4p
        case hy3_4p => intro w hSw; (try dsimp only at hSw); go_simp; (try with_reducible rfl)
        case rest3_4p =>
        try simp only [Act.put, List.setIfInBounds_toArray, List.set_cons_zero, List.set_cons_succ]
        refine wpAnyG_take' (i := 4) (v := ?v4_5p) rfl (by kernel_rfl) (by kernel_rfl) (by kernel_rfl) (by kernel_rfl) (fun _ _ _ h => h) (Or.inl ⟨by rfl, ?hy4_5p⟩) hS ?rest4_5p
        case hy4_5p => intro w hSw; (try dsimp only at hSw); go_simp; (try with_reducible rfl)
        case rest4_5p =>
        try simp only [Act.put, List.setIfInBounds_toArray, List.set_cons_zero, List.set_cons_succ]
        refine wpAnyG_take' (i := 5) (v := ?v5_6p) rfl (by kernel_rfl) (by kernel_rfl) (by kernel_rfl) (by kernel_rfl) (fun _ _ _ h => h) (Or.inl ⟨by rfl, ?hy5_6p⟩) hS ?rest5_6p
        case hy5_6p => intro w hSw; (try dsimp only at hSw); go_simp; (try with_reducible rfl)
        case rest5_6p =>
        try simp only [Act.put, List.setIfInBounds_toArray, List.set_cons_zero, List.set_cons_succ]
        refine wpAnyG_take' (i := 6) (v := ?v6_7p) rfl (by kernel_rfl) (by kernel_rfl) (by kernel_rfl) (by kernel_rfl) (fun _ _ _ h => h) (Or.inl ⟨by rfl, ?hy6_7p⟩) hS ?rest6_7p
        case hy6_7p => intro w hSw; (try dsimp only at hSw); go_simp; (try with_reducible rfl)
        case rest6_7p =>
        try simp only [Act.put, List.setIfInBounds_toArray, List.set_cons_zero, List.set_cons_succ]
        refine wpAnyG_take' (i := 7) (v := ?v7_8p) rfl (by kernel_rfl) (by kernel_rfl) (by kernel_rfl) (by kernel_rfl) (fun _ _ _ h => h) (Or.inl ⟨by rfl, ?hy7_8p⟩) hS ?rest7_8p
        case hy7_8p => intro w hSw; (try dsimp only at hSw); go_simp; (try with_reducible rfl)
        case rest7_8p =>
        try simp only [Act.put, List.setIfInBounds_toArray, List.set_cons_zero, List.set_cons_succ]
        refine wpAnyG_take' (i := 8) (v := ?v8_9p) rfl (by kernel_rfl) (by kernel_rfl) (by kernel_rfl) (by kernel_rfl) (fun _ _ _ h => h) (Or.inl ⟨by rfl, ?hy8_9p⟩) hS ?rest8_9p
        case hy8_9p => intro w hSw; (try dsimp only at hSw); go_simp; (try with_reducible rfl)
        case rest8_9p =>
        try simp only [Act.put, List.setIfInBounds_toArray, List.set_cons_zero, List.set_cons_succ]
        refine wpAnyG_take' (i := 9) (v := ?v9_10p) rfl (by kernel_rfl) (by kernel_rfl) (by kernel_rfl) (by kernel_rfl) (fun _ _ _ h => h) (Or.inl ⟨by rfl, ?hy9_10p⟩) hS ?rest9_10p
        case hy9_10p => intro w hSw; (try dsimp only at hSw); go_simp; (try with_reducible rfl)
        case rest9_10p =>
        try simp only [Act.put, List.setIfInBounds_toArray, List.set_cons_zero, List.set_cons_succ]
        refine wpAnyG_take' (i := 10) (v := ?v10_11p) rfl (by kernel_rfl) (by kernel_rfl) (by kernel_rfl) (by kernel_rfl) (fun _ _ _ h => h) (Or.inl ⟨by rfl, ?hy10_11p⟩) hS ?rest10_11p
        case hy10_11p => intro w hSw; (try dsimp only at hSw); go_simp; (try with_reducible rfl)
        case rest10_11p =>
        try simp only [Act.put, List.setIfInBounds_toArray, List.set_cons_zero, List.set_cons_succ]
        refine wpAnyG_take' (i := 14) (v := ?v14_12p) rfl (by kernel_rfl) (by kernel_rfl) (by kernel_rfl) (by kernel_rfl) (fun _ _ _ h => h) (Or.inl ⟨by rfl, ?hy14_12p⟩) hS ?rest14_12p
        case hy14_12p => intro w hSw; (try dsimp only at hSw); go_simp; (try with_reducible rfl)
        case rest14_12p =>
        try simp only [Act.put, List.setIfInBounds_toArray, List.set_cons_zero, List.set_cons_succ]
        refine wpAnyG_take' (i := 15) (v := ?v15_13p) rfl (by kernel_rfl) (by kernel_rfl) (by kernel_rfl) (by kernel_rfl) (fun _ _ _ h => h) (Or.inl ⟨by rfl, ?hy15_13p⟩) hS ?rest15_13p
        case hy15_13p => intro w hSw; (try dsimp only at hSw); go_simp; (try with_reducible rfl)
        case rest15_13p =>
        try simp only [Act.put, List.setIfInBounds_toArray, List.set_cons_zero, List.set_cons_succ]
        refine wpAnyG_take' (i := 16) (v := ?v16_14p) rfl (by kernel_rfl) (by kernel_rfl) (by kernel_rfl) (by kernel_rfl) (fun _ _ _ h => h) (Or.inl ⟨by rfl, ?hy16_14p⟩) hS ?rest16_14p
        case hy16_14p => intro w hSw; (try dsimp only at hSw); go_simp; (try with_reducible rfl)
        case rest16_14p =>
        try simp only [Act.put, List.setIfInBounds_toArray, List.set_cons_zero, List.set_cons_succ]
        refine wpAnyG_take' (i := 17) (v := ?v17_15p) rfl (by kernel_rfl) (by kernel_rfl) (by kernel_rfl) (by kernel_rfl) (fun _ _ _ h => h) (Or.inl ⟨by rfl, ?hy17_15p⟩) hS ?rest17_15p
        case hy17_15p => intro w hSw; (try dsimp only at hSw); go_simp; (try with_reducible rfl)
        case rest17_15p =>
        try simp only [Act.put, List.setIfInBounds_toArray, List.set_cons_zero, List.set_cons_succ]
        refine wpAnyG_take' (i := 18) (v := ?v18_16p) rfl (by kernel_rfl) (by kernel_rfl) (by kernel_rfl) (by kernel_rfl) (fun _ _ _ h => h) (Or.inl ⟨by rfl, ?hy18_16p⟩) hS ?rest18_16p
        case hy18_16p => intro w hSw; (try dsimp only at hSw); go_simp; (try with_reducible rfl)
        case rest18_16p =>
        try simp only [Act.put, List.setIfInBounds_toArray, List.set_cons_zero, List.set_cons_succ]
        refine wpAnyG_take' (i := 19) (v := ?v19_17p) rfl (by kernel_rfl) (by kernel_rfl) (by kernel_rfl) (by kernel_rfl) (fun _ _ _ h => h) (Or.inl ⟨by rfl, ?hy19_17p⟩) hS ?rest19_17p
        case hy19_17p => intro w hSw; (try dsimp only at hSw); go_simp; (try with_reducible rfl)
        case rest19_17p =>
        try simp only [Act.put, List.setIfInBounds_toArray, List.set_cons_zero, List.set_cons_succ]
        refine wpAnyG_take' (i := 20) (v := ?v20_18p) rfl (by kernel_rfl) (by kernel_rfl) (by kernel_rfl) (by kernel_rfl) (fun _ _ _ h => h) (Or.inl ⟨by rfl, ?hy20_18p⟩) hS ?rest20_18p
        case hy20_18p => intro w hSw; (try dsimp only at hSw); go_simp; (try with_reducible rfl)
        case rest20_18p =>
        try simp only [Act.put, List.setIfInBounds_toArray, List.set_cons_zero, List.set_cons_succ]
        refine wpAnyG_two (i := 11) (j := 21) (by kernel_rfl) rfl rfl (fun K hK => ?_) (fun K hK => ?_)
        · go_simp
          refine hK.out _ _ (fun _ => ?hS1pa19) ?rest1pa19
          case hS1pa19 => exact ⟨v2, v3, t4⟩
          clear K hK
          try simp only [Act.put, List.setIfInBounds_toArray, List.set_cons_zero, List.set_cons_succ]
          refine wpAnyG_two (i := 12) (j := 21) (by kernel_rfl) rfl rfl (fun K hK => ?_) (fun K hK => ?_)
          · go_simp
            refine hK.out _ _ (fun _ => ?hS1pa19a2) ?rest1pa19a2
            case hS1pa19a2 => exact ⟨v2, v3, t4⟩
            clear K hK
            try simp only [Act.put, List.setIfInBounds_toArray, List.set_cons_zero, List.set_cons_succ]
            refine wpAnyG_take' (i := 13) (v := ?v13_2pa19a2) rfl (by kernel_rfl) (by kernel_rfl) (by kernel_rfl) (by kernel_rfl) (fun _ _ _ h => h) (Or.inl ⟨by rfl, ?hy13_2pa19a2⟩) ⟨v2, v3, t4⟩ ?rest13_2pa19a2
            case hy13_2pa19a2 => intro w hSw; (try dsimp only at hSw); go_simp; (try with_reducible rfl)
            case rest13_2pa19a2 =>
            try simp only [Act.put, List.setIfInBounds_toArray, List.set_cons_zero, List.set_cons_succ]
            refine wpAnyG_one (i := 21) (by kernel_rfl) rfl (fun K hK => ?_)
            go_simp
            rw [← HX.out]
            refine Calls.mono (HB.out _) ?_
            rintro r9 w8 ⟨rfl, rfl⟩
            go_wp2_with fail
            refine hK.out _ _ (fun _ => ?hS3pa19a2) ?rest3pa19a2
            case hS3pa19a2 => exact ⟨v2, v3, t4⟩
            clear K hK
            try simp only [Act.put, List.setIfInBounds_toArray, List.set_cons_zero, List.set_cons_succ]
            refine wpAnyG_take' (i := 22) (v := ?v22_4pa19a2) rfl (by kernel_rfl) (by kernel_rfl) (by kernel_rfl) (by kernel_rfl) (fun _ _ _ h => h) (Or.inl ⟨by rfl, ?hy22_4pa19a2⟩) ⟨v2, v3, t4⟩ ?rest22_4pa19a2
            case hy22_4pa19a2 => intro w hSw; (try dsimp only at hSw); go_simp; (try with_reducible rfl)
            case rest22_4pa19a2 =>
            try simp only [Act.put, List.setIfInBounds_toArray, List.set_cons_zero, List.set_cons_succ]
            refine wpAnyG_take' (i := 23) (v := ?v23_5pa19a2) rfl (by kernel_rfl) (by kernel_rfl) (by kernel_rfl) (by kernel_rfl) (fun _ _ _ h => h) (Or.inl ⟨by rfl, ?hy23_5pa19a2⟩) ⟨v2, v3, t4⟩ ?rest23_5pa19a2
            case hy23_5pa19a2 => intro w hSw; (try dsimp only at hSw); go_simp; (try with_reducible rfl)
            case rest23_5pa19a2 =>
            try simp only [Act.put, List.setIfInBounds_toArray, List.set_cons_zero, List.set_cons_succ]
            refine wpAnyG_one (i := 24) (by kernel_rfl) rfl (fun K hK => ?_)
            go_simp
            refine hK.out _ _ (fun _ => ?hS6pa19a2) ?rest6pa19a2
            case hS6pa19a2 => exact ⟨u2, u3, u4⟩
            clear K hK
            try simp only [Act.put, List.setIfInBounds_toArray, List.set_cons_zero, List.set_cons_succ]
            refine wpAnyG_one (i := 25) (by kernel_rfl) rfl (fun K hK => ?_)
            refine step_append_run (by rfl) (.tmp 66) (.tmp 89) 22 22 (by rfl) _ _ (by rfl) (by rfl) HR.out ?_
            refine hK.out _ _ (fun _ => ?hS7pa19a2) ?rest7pa19a2
            case hS7pa19a2 => exact ⟨q2, q3, y4⟩
            clear K hK
            try simp only [Act.put, List.setIfInBounds_toArray, List.set_cons_zero, List.set_cons_succ]
            refine wpAnyG_take' (i := 26) (v := ?v26_8pa19a2) rfl (by kernel_rfl) (by kernel_rfl) (by kernel_rfl) (by kernel_rfl) (fun _ _ _ h => h) (Or.inl ⟨by rfl, ?hy26_8pa19a2⟩) ⟨q2, q3, y4⟩ ?rest26_8pa19a2
            case hy26_8pa19a2 => intro w hSw; (try dsimp only at hSw); go_simp; (try with_reducible rfl)
            case rest26_8pa19a2 =>
            try simp only [Act.put, List.setIfInBounds_toArray, List.set_cons_zero, List.set_cons_succ]
            refine wpAnyG_one (i := 27) (by kernel_rfl) rfl (fun K hK => ?_)
            go_simp
            refine hK.out _ _ (fun hno => by cases hno) ?_
            clear K hK
            try simp only [Act.put, List.setIfInBounds_toArray, List.set_cons_zero, List.set_cons_succ]
            refine wpAnyG_done (by kernel_rfl) ?_ _
            go_wp2_with fail
            go_roundw
            case rel => exact ⟨j + 1, acc ++ [(nmL (m + j), 1 + q)], a9, c9, HJ.out.2, by go_num, HA2.out, HF.out⟩
            case measure => have := HJ.out.2; simp [intOf]; omega
          · go_simp
            rw [← HX.out]
            refine Calls.mono (HB.out _) ?_
            rintro r9 w8 ⟨rfl, rfl⟩
            go_wp2_with fail
            refine hK.out _ _ (fun _ => ?hS1pa19b2) ?rest1pa19b2
            case hS1pa19b2 => exact ⟨v2, v3, t4⟩
            clear K hK
            try simp only [Act.put, List.setIfInBounds_toArray, List.set_cons_zero, List.set_cons_succ]
            refine wpAnyG_take' (i := 22) (v := ?v22_2pa19b2) rfl (by kernel_rfl) (by kernel_rfl) (by kernel_rfl) (by kernel_rfl) (fun _ _ _ h => h) (Or.inl ⟨by rfl, ?hy22_2pa19b2⟩) ⟨v2, v3, t4⟩ ?rest22_2pa19b2
            case hy22_2pa19b2 => intro w hSw; (try dsimp only at hSw); go_simp; (try with_reducible rfl)
            case rest22_2pa19b2 =>
            try simp only [Act.put, List.setIfInBounds_toArray, List.set_cons_zero, List.set_cons_succ]
            refine wpAnyG_one (i := 12) (by kernel_rfl) rfl (fun K hK => ?_)
            go_simp
            refine hK.out _ _ (fun _ => ?hS3pa19b2) ?rest3pa19b2
            case hS3pa19b2 => exact ⟨v2, v3, t4⟩
            clear K hK
            try simp only [Act.put, List.setIfInBounds_toArray, List.set_cons_zero, List.set_cons_succ]
            refine wpAnyG_take' (i := 13) (v := ?v13_4pa19b2) rfl (by kernel_rfl) (by kernel_rfl) (by kernel_rfl) (by kernel_rfl) (fun _ _ _ h => h) (Or.inl ⟨by rfl, ?hy13_4pa19b2⟩) ⟨v2, v3, t4⟩ ?rest13_4pa19b2
            case hy13_4pa19b2 => intro w hSw; (try dsimp only at hSw); go_simp; (try with_reducible rfl)
            case rest13_4pa19b2 =>
            try simp only [Act.put, List.setIfInBounds_toArray, List.set_cons_zero, List.set_cons_succ]
            refine wpAnyG_take' (i := 23) (v := ?v23_5pa19b2) rfl (by kernel_rfl) (by kernel_rfl) (by kernel_rfl) (by kernel_rfl) (fun _ _ _ h => h) (Or.inl ⟨by rfl, ?hy23_5pa19b2⟩) ⟨v2, v3, t4⟩ ?rest23_5pa19b2
            case hy23_5pa19b2 => intro w hSw; (try dsimp only at hSw); go_simp; (try with_reducible rfl)
            case rest23_5pa19b2 =>
            try simp only [Act.put, List.setIfInBounds_toArray, List.set_cons_zero, List.set_cons_succ]
            refine wpAnyG_one (i := 24) (by kernel_rfl) rfl (fun K hK => ?_)
            go_simp
            refine hK.out _ _ (fun _ => ?hS6pa19b2) ?rest6pa19b2
            case hS6pa19b2 => exact ⟨u2, u3, u4⟩
            clear K hK
            try simp only [Act.put, List.setIfInBounds_toArray, List.set_cons_zero, List.set_cons_succ]
            refine wpAnyG_one (i := 25) (by kernel_rfl) rfl (fun K hK => ?_)
            refine step_append_run (by rfl) (.tmp 66) (.tmp 89) 22 22 (by rfl) _ _ (by rfl) (by rfl) HR.out ?_
            refine hK.out _ _ (fun _ => ?hS7pa19b2) ?rest7pa19b2
            case hS7pa19b2 => exact ⟨q2, q3, y4⟩
            clear K hK
            try simp only [Act.put, List.setIfInBounds_toArray, List.set_cons_zero, List.set_cons_succ]
            refine wpAnyG_take' (i := 26) (v := ?v26_8pa19b2) rfl (by kernel_rfl) (by kernel_rfl) (by kernel_rfl) (by kernel_rfl) (fun _ _ _ h => h) (Or.inl ⟨by rfl, ?hy26_8pa19b2⟩) ⟨q2, q3, y4⟩ ?rest26_8pa19b2
            case hy26_8pa19b2 => intro w hSw; (try dsimp only at hSw); go_simp; (try with_reducible rfl)
            case rest26_8pa19b2 =>
            try simp only [Act.put, List.setIfInBounds_toArray, List.set_cons_zero, List.set_cons_succ]
            refine wpAnyG_one (i := 27) (by kernel_rfl) rfl (fun K hK => ?_)
            go_simp
            refine hK.out _ _ (fun hno => by cases hno) ?_
            clear K hK
            try simp only [Act.put, List.setIfInBounds_toArray, List.set_cons_zero, List.set_cons_succ]
            refine wpAnyG_done (by kernel_rfl) ?_ _
            go_wp2_with fail
            go_roundw
            case rel => exact ⟨j + 1, acc ++ [(nmL (m + j), 1 + q)], a9, c9, HJ.out.2, by go_num, HA2.out, HF.out⟩
            case measure => have := HJ.out.2; simp [intOf]; omega
        · go_simp
          rw [← HX.out]
          refine Calls.mono (HB.out _) ?_
          rintro r9 w8 ⟨rfl, rfl⟩
          go_wp2_with fail
          refine hK.out _ _ (fun _ => ?hS1pb19) ?rest1pb19
          case hS1pb19 => exact ⟨x2, x3, c4⟩
          clear K hK
          try simp only [Act.put, List.setIfInBounds_toArray, List.set_cons_zero, List.set_cons_succ]
          refine wpAnyG_take' (i := 22) (v := ?v22_2pb19) rfl (by kernel_rfl) (by kernel_rfl) (by kernel_rfl) (by kernel_rfl) (fun _ _ _ h => h) (Or.inl ⟨by rfl, ?hy22_2pb19⟩) ⟨x2, x3, c4⟩ ?rest22_2pb19
          case hy22_2pb19 => intro w hSw; (try dsimp only at hSw); go_simp; (try with_reducible rfl)
          case rest22_2pb19 =>
          try simp only [Act.put, List.setIfInBounds_toArray, List.set_cons_zero, List.set_cons_succ]
          refine wpAnyG_one (i := 11) (by kernel_rfl) rfl (fun K hK => ?_)
          go_simp
          refine hK.out _ _ (fun _ => ?hS3pb19) ?rest3pb19
          case hS3pb19 => exact ⟨v2, v3, t4⟩
          clear K hK
          try simp only [Act.put, List.setIfInBounds_toArray, List.set_cons_zero, List.set_cons_succ]
          refine wpAnyG_one (i := 12) (by kernel_rfl) rfl (fun K hK => ?_)
          go_simp
          refine hK.out _ _ (fun _ => ?hS4pb19) ?rest4pb19
          case hS4pb19 => exact ⟨v2, v3, t4⟩
          clear K hK
          try simp only [Act.put, List.setIfInBounds_toArray, List.set_cons_zero, List.set_cons_succ]
          refine wpAnyG_take' (i := 13) (v := ?v13_5pb19) rfl (by kernel_rfl) (by kernel_rfl) (by kernel_rfl) (by kernel_rfl) (fun _ _ _ h => h) (Or.inl ⟨by rfl, ?hy13_5pb19⟩) ⟨v2, v3, t4⟩ ?rest13_5pb19
          case hy13_5pb19 => intro w hSw; (try dsimp only at hSw); go_simp; (try with_reducible rfl)
          case rest13_5pb19 =>
          try simp only [Act.put, List.setIfInBounds_toArray, List.set_cons_zero, List.set_cons_succ]
          refine wpAnyG_take' (i := 23) (v := ?v23_6pb19) rfl (by kernel_rfl) (by kernel_rfl) (by kernel_rfl) (by kernel_rfl) (fun _ _ _ h => h) (Or.inl ⟨by rfl, ?hy23_6pb19⟩) ⟨v2, v3, t4⟩ ?rest23_6pb19
          case hy23_6pb19 => intro w hSw; (try dsimp only at hSw); go_simp; (try with_reducible rfl)
          case rest23_6pb19 =>
          try simp only [Act.put, List.setIfInBounds_toArray, List.set_cons_zero, List.set_cons_succ]
          refine wpAnyG_one (i := 24) (by kernel_rfl) rfl (fun K hK => ?_)
          go_simp
          refine hK.out _ _ (fun _ => ?hS7pb19) ?rest7pb19
          case hS7pb19 => exact ⟨u2, u3, u4⟩
          clear K hK
          try simp only [Act.put, List.setIfInBounds_toArray, List.set_cons_zero, List.set_cons_succ]
          refine wpAnyG_one (i := 25) (by kernel_rfl) rfl (fun K hK => ?_)
          refine step_append_run (by rfl) (.tmp 66) (.tmp 89) 22 22 (by rfl) _ _ (by rfl) (by rfl) HR.out ?_
          refine hK.out _ _ (fun _ => ?hS8pb19) ?rest8pb19
          case hS8pb19 => exact ⟨q2, q3, y4⟩
          clear K hK
          try simp only [Act.put, List.setIfInBounds_toArray, List.set_cons_zero, List.set_cons_succ]
          refine wpAnyG_take' (i := 26) (v := ?v26_9pb19) rfl (by kernel_rfl) (by kernel_rfl) (by kernel_rfl) (by kernel_rfl) (fun _ _ _ h => h) (Or.inl ⟨by rfl, ?hy26_9pb19⟩) ⟨q2, q3, y4⟩ ?rest26_9pb19
          case hy26_9pb19 => intro w hSw; (try dsimp only at hSw); go_simp; (try with_reducible rfl)
          case rest26_9pb19 =>
          try simp only [Act.put, List.setIfInBounds_toArray, List.set_cons_zero, List.set_cons_succ]
          refine wpAnyG_one (i := 27) (by kernel_rfl) rfl (fun K hK => ?_)
          go_simp
          refine hK.out _ _ (fun hno => by cases hno) ?_
          clear K hK
          try simp only [Act.put, List.setIfInBounds_toArray, List.set_cons_zero, List.set_cons_succ]
          refine wpAnyG_done (by kernel_rfl) ?_ _
          go_wp2_with fail
          go_roundw
          case rel => exact ⟨j + 1, acc ++ [(nmL (m + j), 1 + q)], a9, c9, HJ.out.2, by go_num, HA2.out, HF.out⟩
          case measure => have := HJ.out.2; simp [intOf]; omega
      · by_cases hj0 : j = 0
        · have hg1 : decide (j < ls.length) = false := decide_eq_false hlt
          have hz : ((j : Int) == 0) = true := by subst hj0; rfl
          clear hlt hj0
          go_wp2_with fail
          have hk := HA.out.len
          have hz : (UInt8.ofNat (97 + (m + j))).toNat = 97 + (m + j) := by have := HM20.out; have := HJ.out; rw [UInt8.toNat_ofNat']; omega
          have eA : IntKind.i64.wrap (o.tmod 20 + 20) = o.tmod 20 + 20 := IntWalk.i64_in _ (by
            have h1 := Int.tmod_lt_of_pos o (show (0 : Int) < 20 by decide)
            have h2 := Int.lt_tmod_of_pos o (show (0 : Int) < 20 by decide)
            omega)
          have eB := HM.out
          have eC : IntKind.i64.wrap (97 + (m : Int)) = 97 + (m : Int) := IntWalk.i64_in _ (by have := HM20.out; omega)
          have eD : IntKind.i64.wrap (97 + (m : Int) + (j : Int)) = 97 + (m : Int) + (j : Int) := IntWalk.i64_in _ (by have := HM20.out; have := HJ.out; omega)
          obtain ⟨ch, hch⟩ : ∃ ch : UInt8, ch = UInt8.ofNat (97 + (m + j)) := ⟨_, rfl⟩
          rw [← hch] at hz
          have eE : IntKind.u8.wrap (97 + (m : Int) + (j : Int)) = ((ch.toNat : Nat) : Int) := by rw [hz]; unfold IntKind.wrap; have := HM20.out; have := HJ.out; simp [IntKind.bits, IntKind.signed]; omega
          have hA0 := H.out.alloc (.cells #[.int .u8 ((ch.toNat : Nat) : Int)] 5)
          obtain ⟨v0, v1, v2, v3, v4⟩ := cells5 hA0.sw5
          obtain ⟨t0, t1, t2, t3, t4⟩ := cells5 hA0.sw3
          have hA := hA0.drew
          clear hA0
          have hcv := conv_bytes (P := Tryd.prog) Tryd.underlying28 Tryd.underlying5 Tryd.underlying9 (l := [ch]) ((hA.asRow 1 rfl (by unfold maxLen; omega)).sl)
          have hle : (⟨#[115]⟩ ++ ⟨#[ch]⟩ : ByteArray).size ≤ maxLen := by unfold maxLen; show 2 ≤ _; decide
          have HNM : Hid ((⟨⟨#[115]⟩ ++ ⟨#[ch]⟩, hle⟩ : KS) = nmL (m + j)) := Lib.hid (Subtype.ext (by show (⟨#[115]⟩ ++ ⟨#[ch]⟩ : ByteArray) = ⟨#[115, UInt8.ofNat (97 + (m + j))]⟩; rw [← hch]; rfl))
          have hcc : wr.heap.size < wr.heap.size + 1 := by omega
          clear hch
          obtain ⟨X, hX⟩ : ∃ X, X = IntKind.i64.wrap (n + IntKind.i64.wrap ((j : Int) * o)) := ⟨_, rfl⟩
          have HB := Lib.hid (HBR.out X)
          have hq : 0 ≤ X % 2147483647 ∧ X % 2147483647 ≤ 2147483646 := by omega
          generalize X % 2147483647 = q at *
          have HQ2 := Lib.hid hq
          have eQ : IntKind.i64.wrap (1 + q) = 1 + q := I64q hq
          have HX := Lib.hid hX
          clear hX hq hz hk
          obtain ⟨a9, c9, w9, hr, h9⟩ := app_line3 (ty := 22) ⟨⟨#[115]⟩ ++ ⟨#[ch]⟩, hle⟩ (1 + q) hA.sw2 HL1.out (wr.heap.size + 1) (by simp)
          dsimp only at hr
          have hr2 : (Builtin.append_ #[22, 22] 22 #[.slice av acc.length cv, .slice (some ⟨wr.heap.size + 1, 0, none⟩) 1 1]).run Tryd.prog ((wr.alloc (.cells #[.int .u8 ((ch.toNat : Nat) : Int)] 5)).alloc (.cells #[.string (⟨#[115]⟩ ++ ⟨#[ch]⟩), .int .i64 (1 + q)] 39)).drew = .ok (.slice a9 (acc.length + 1) c9) w9 := hr
          have HR := Lib.hid hr2
          obtain ⟨y0, y1, y2, y3, y4⟩ := cells5 h9.sw3
          obtain ⟨g0, g1, g2, g3, g4⟩ := frz5 h9.sw3
          have q2 := (cells5 h9.sw5).2.2.1
          have q3 := (cells5 h9.sw5).2.2.2.1
          have H9 := Lib.hid ((h9.sw2.drop.sw2.setCell 4 (.slice a9 (acc.length + 1) c9)).sw2)
          have HF : Hid (Sep w0 (LnR (.slice a9 (acc ++ [(nmL (m + j), 1 + q)]).length c9) (acc ++ [(nmL (m + j), 1 + q)]) :: Cl b3 #[.int .i64 3, .string ⟨#[]⟩, .int .i64 (1 + qo), .int .i64 (1 + qn), (.slice a9 (acc ++ [(nmL (m + j), 1 + q)]).length c9)] 24 :: Cl b2 #[.int .i64 0, .string ⟨#[]⟩, .int .i64 0, .int .i64 0, (.slice none 0 0)] 24 :: Cl b1 #[.int .i64 k, .string s.1, .int .i64 o, .int .i64 n, (.slice a ls.length c)] 24 :: L) (w9.setCell ⟨b3, 4, none⟩ (.slice a9 (acc.length + 1) c9))) := Lib.hid (by rw [List.length_append, List.length_singleton, ← HNM.out]; exact H9.out)
          have HA2 := Lib.hid (HA.out.snoc (q := 1 + q) (by have := HM20.out; have := HJ.out; omega) (qtyB_1 HQ2.out))
          clear H9
          have hAB := hA.alloc (.cells #[.string (⟨#[115]⟩ ++ ⟨#[ch]⟩), .int .i64 (1 + q)] 39)
          obtain ⟨-, -, u2, u3, -⟩ := cells5 hAB.sw6
          have u4 := (cells5 hAB.sw4).2.2.2.2
          clear hA hr hr2 h9 hAB
          refine wp_region_G (fun w' => w'.cell? ⟨b1, 2, none⟩ = some (.int .i64 o) ∧ w'.cell? ⟨b1, 3, none⟩ = some (.int .i64 n) ∧ w'.cell? ⟨b3, 4, none⟩ = some (.slice av acc.length cv)) [27] (by kernel_rfl) ⟨x2, x3, c4⟩ (fun hS => ?_)
          try dsimp only at hS
          refine wpAnyG_take' (i := 0) (v := ?v0_1q) rfl (by kernel_rfl) (by kernel_rfl) (by kernel_rfl) (by kernel_rfl) (fun _ _ _ h => h) (Or.inl ⟨by rfl, ?hy0_1q⟩) hS ?rest0_1q
          case hy0_1q => intro w hSw; (try dsimp only at hSw); go_simp; (try with_reducible rfl)
          case rest0_1q =>
          try simp only [Act.put, List.setIfInBounds_toArray, List.set_cons_zero, List.set_cons_succ]
          refine wpAnyG_take' (i := 1) (v := ?v1_2q) rfl (by kernel_rfl) (by kernel_rfl) (by kernel_rfl) (by kernel_rfl) (fun _ _ _ h => h) (Or.inl ⟨by rfl, ?hy1_2q⟩) hS ?rest1_2q
          case hy1_2q => intro w hSw; (try dsimp only at hSw); go_simp; (try with_reducible rfl)
          case rest1_2q =>
          try simp only [Act.put, List.setIfInBounds_toArray, List.set_cons_zero, List.set_cons_succ]
          refine wpAnyG_take' (i := 2) (v := ?v2_3q) rfl (by kernel_rfl) (by kernel_rfl) (by kernel_rfl) (by kernel_rfl) (fun _ _ _ h => h) (Or.inl ⟨by rfl, ?hy2_3q⟩) hS ?rest2_3q
          case hy2_3q => intro w hSw; (try dsimp only at hSw); go_simp; (try with_reducible rfl)
          case rest2_3q =>
          try simp only [Act.put, List.setIfInBounds_toArray, List.set_cons_zero, List.set_cons_succ]
          refine wpAnyG_take' (i := 3) (v := ?v3_4q) rfl (by kernel_rfl) (by kernel_rfl) (by kernel_rfl) (by kernel_rfl) (fun _ _ _ h => h) (Or.inl ⟨by rfl, ?hy3_4q⟩) hS ?rest3_4q
          case hy3_4q => intro w hSw; (try dsimp only at hSw); go_simp; (try with_reducible rfl)
          case rest3_4q =>
          try simp only [Act.put, List.setIfInBounds_toArray, List.set_cons_zero, List.set_cons_succ]
          refine wpAnyG_take' (i := 4) (v := ?v4_5q) rfl (by kernel_rfl) (by kernel_rfl) (by kernel_rfl) (by kernel_rfl) (fun _ _ _ h => h) (Or.inl ⟨by rfl, ?hy4_5q⟩) hS ?rest4_5q
          case hy4_5q => intro w hSw; (try dsimp only at hSw); go_simp; (try with_reducible rfl)
          case rest4_5q =>
          try simp only [Act.put, List.setIfInBounds_toArray, List.set_cons_zero, List.set_cons_succ]
          refine wpAnyG_take' (i := 5) (v := ?v5_6q) rfl (by kernel_rfl) (by kernel_rfl) (by kernel_rfl) (by kernel_rfl) (fun _ _ _ h => h) (Or.inl ⟨by rfl, ?hy5_6q⟩) hS ?rest5_6q
          case hy5_6q => intro w hSw; (try dsimp only at hSw); go_simp; (try with_reducible rfl)
          case rest5_6q =>
          try simp only [Act.put, List.setIfInBounds_toArray, List.set_cons_zero, List.set_cons_succ]
          refine wpAnyG_take' (i := 6) (v := ?v6_7q) rfl (by kernel_rfl) (by kernel_rfl) (by kernel_rfl) (by kernel_rfl) (fun _ _ _ h => h) (Or.inl ⟨by rfl, ?hy6_7q⟩) hS ?rest6_7q
          case hy6_7q => intro w hSw; (try dsimp only at hSw); go_simp; (try with_reducible rfl)
          case rest6_7q =>
          try simp only [Act.put, List.setIfInBounds_toArray, List.set_cons_zero, List.set_cons_succ]
          refine wpAnyG_take' (i := 7) (v := ?v7_8q) rfl (by kernel_rfl) (by kernel_rfl) (by kernel_rfl) (by kernel_rfl) (fun _ _ _ h => h) (Or.inl ⟨by rfl, ?hy7_8q⟩) hS ?rest7_8q
          case hy7_8q => intro w hSw; (try dsimp only at hSw); go_simp; (try with_reducible rfl)
          case rest7_8q =>
          try simp only [Act.put, List.setIfInBounds_toArray, List.set_cons_zero, List.set_cons_succ]
          refine wpAnyG_take' (i := 8) (v := ?v8_9q) rfl (by kernel_rfl) (by kernel_rfl) (by kernel_rfl) (by kernel_rfl) (fun _ _ _ h => h) (Or.inl ⟨by rfl, ?hy8_9q⟩) hS ?rest8_9q
          case hy8_9q => intro w hSw; (try dsimp only at hSw); go_simp; (try with_reducible rfl)
          case rest8_9q =>
          try simp only [Act.put, List.setIfInBounds_toArray, List.set_cons_zero, List.set_cons_succ]
          refine wpAnyG_take' (i := 9) (v := ?v9_10q) rfl (by kernel_rfl) (by kernel_rfl) (by kernel_rfl) (by kernel_rfl) (fun _ _ _ h => h) (Or.inl ⟨by rfl, ?hy9_10q⟩) hS ?rest9_10q
          case hy9_10q => intro w hSw; (try dsimp only at hSw); go_simp; (try with_reducible rfl)
          case rest9_10q =>
          try simp only [Act.put, List.setIfInBounds_toArray, List.set_cons_zero, List.set_cons_succ]
          refine wpAnyG_take' (i := 10) (v := ?v10_11q) rfl (by kernel_rfl) (by kernel_rfl) (by kernel_rfl) (by kernel_rfl) (fun _ _ _ h => h) (Or.inl ⟨by rfl, ?hy10_11q⟩) hS ?rest10_11q
          case hy10_11q => intro w hSw; (try dsimp only at hSw); go_simp; (try with_reducible rfl)
          case rest10_11q =>
          try simp only [Act.put, List.setIfInBounds_toArray, List.set_cons_zero, List.set_cons_succ]
          refine wpAnyG_take' (i := 14) (v := ?v14_12q) rfl (by kernel_rfl) (by kernel_rfl) (by kernel_rfl) (by kernel_rfl) (fun _ _ _ h => h) (Or.inl ⟨by rfl, ?hy14_12q⟩) hS ?rest14_12q
          case hy14_12q => intro w hSw; (try dsimp only at hSw); go_simp; (try with_reducible rfl)
          case rest14_12q =>
          try simp only [Act.put, List.setIfInBounds_toArray, List.set_cons_zero, List.set_cons_succ]
          refine wpAnyG_take' (i := 15) (v := ?v15_13q) rfl (by kernel_rfl) (by kernel_rfl) (by kernel_rfl) (by kernel_rfl) (fun _ _ _ h => h) (Or.inl ⟨by rfl, ?hy15_13q⟩) hS ?rest15_13q
          case hy15_13q => intro w hSw; (try dsimp only at hSw); go_simp; (try with_reducible rfl)
          case rest15_13q =>
          try simp only [Act.put, List.setIfInBounds_toArray, List.set_cons_zero, List.set_cons_succ]
          refine wpAnyG_take' (i := 16) (v := ?v16_14q) rfl (by kernel_rfl) (by kernel_rfl) (by kernel_rfl) (by kernel_rfl) (fun _ _ _ h => h) (Or.inl ⟨by rfl, ?hy16_14q⟩) hS ?rest16_14q
          case hy16_14q => intro w hSw; (try dsimp only at hSw); go_simp; (try with_reducible rfl)
          case rest16_14q =>
          try simp only [Act.put, List.setIfInBounds_toArray, List.set_cons_zero, List.set_cons_succ]
          refine wpAnyG_take' (i := 17) (v := ?v17_15q) rfl (by kernel_rfl) (by kernel_rfl) (by kernel_rfl) (by kernel_rfl) (fun _ _ _ h => h) (Or.inl ⟨by rfl, ?hy17_15q⟩) hS ?rest17_15q
          case hy17_15q => intro w hSw; (try dsimp only at hSw); go_simp; (try with_reducible rfl)
          case rest17_15q =>
          try simp only [Act.put, List.setIfInBounds_toArray, List.set_cons_zero, List.set_cons_succ]
          refine wpAnyG_take' (i := 18) (v := ?v18_16q) rfl (by kernel_rfl) (by kernel_rfl) (by kernel_rfl) (by kernel_rfl) (fun _ _ _ h => h) (Or.inl ⟨by rfl, ?hy18_16q⟩) hS ?rest18_16q
          case hy18_16q => intro w hSw; (try dsimp only at hSw); go_simp; (try with_reducible rfl)
          case rest18_16q =>
          try simp only [Act.put, List.setIfInBounds_toArray, List.set_cons_zero, List.set_cons_succ]
          refine wpAnyG_take' (i := 19) (v := ?v19_17q) rfl (by kernel_rfl) (by kernel_rfl) (by kernel_rfl) (by kernel_rfl) (fun _ _ _ h => h) (Or.inl ⟨by rfl, ?hy19_17q⟩) hS ?rest19_17q
          case hy19_17q => intro w hSw; (try dsimp only at hSw); go_simp; (try with_reducible rfl)
          case rest19_17q =>
          try simp only [Act.put, List.setIfInBounds_toArray, List.set_cons_zero, List.set_cons_succ]
          refine wpAnyG_take' (i := 20) (v := ?v20_18q) rfl (by kernel_rfl) (by kernel_rfl) (by kernel_rfl) (by kernel_rfl) (fun _ _ _ h => h) (Or.inl ⟨by rfl, ?hy20_18q⟩) hS ?rest20_18q
          case hy20_18q => intro w hSw; (try dsimp only at hSw); go_simp; (try with_reducible rfl)
          case rest20_18q =>
          try simp only [Act.put, List.setIfInBounds_toArray, List.set_cons_zero, List.set_cons_succ]
          refine wpAnyG_two (i := 11) (j := 21) (by kernel_rfl) rfl rfl (fun K hK => ?_) (fun K hK => ?_)
          · go_simp
            refine hK.out _ _ (fun _ => ?hS1qa19) ?rest1qa19
            case hS1qa19 => exact ⟨v2, v3, t4⟩
            clear K hK
            try simp only [Act.put, List.setIfInBounds_toArray, List.set_cons_zero, List.set_cons_succ]
            refine wpAnyG_two (i := 12) (j := 21) (by kernel_rfl) rfl rfl (fun K hK => ?_) (fun K hK => ?_)
            · go_simp
              refine hK.out _ _ (fun _ => ?hS1qa19a2) ?rest1qa19a2
              case hS1qa19a2 => exact ⟨v2, v3, t4⟩
              clear K hK
              try simp only [Act.put, List.setIfInBounds_toArray, List.set_cons_zero, List.set_cons_succ]
              refine wpAnyG_take' (i := 13) (v := ?v13_2qa19a2) rfl (by kernel_rfl) (by kernel_rfl) (by kernel_rfl) (by kernel_rfl) (fun _ _ _ h => h) (Or.inl ⟨by rfl, ?hy13_2qa19a2⟩) ⟨v2, v3, t4⟩ ?rest13_2qa19a2
              case hy13_2qa19a2 => intro w hSw; (try dsimp only at hSw); go_simp; (try with_reducible rfl)
              case rest13_2qa19a2 =>
              try simp only [Act.put, List.setIfInBounds_toArray, List.set_cons_zero, List.set_cons_succ]
              refine wpAnyG_one (i := 21) (by kernel_rfl) rfl (fun K hK => ?_)
              go_simp
              rw [← HX.out]
              refine Calls.mono (HB.out _) ?_
              rintro r9 w8 ⟨rfl, rfl⟩
              go_wp2_with fail
              refine hK.out _ _ (fun _ => ?hS3qa19a2) ?rest3qa19a2
              case hS3qa19a2 => exact ⟨v2, v3, t4⟩
              clear K hK
              try simp only [Act.put, List.setIfInBounds_toArray, List.set_cons_zero, List.set_cons_succ]
              refine wpAnyG_take' (i := 22) (v := ?v22_4qa19a2) rfl (by kernel_rfl) (by kernel_rfl) (by kernel_rfl) (by kernel_rfl) (fun _ _ _ h => h) (Or.inl ⟨by rfl, ?hy22_4qa19a2⟩) ⟨v2, v3, t4⟩ ?rest22_4qa19a2
              case hy22_4qa19a2 => intro w hSw; (try dsimp only at hSw); go_simp; (try with_reducible rfl)
              case rest22_4qa19a2 =>
              try simp only [Act.put, List.setIfInBounds_toArray, List.set_cons_zero, List.set_cons_succ]
              refine wpAnyG_take' (i := 23) (v := ?v23_5qa19a2) rfl (by kernel_rfl) (by kernel_rfl) (by kernel_rfl) (by kernel_rfl) (fun _ _ _ h => h) (Or.inl ⟨by rfl, ?hy23_5qa19a2⟩) ⟨v2, v3, t4⟩ ?rest23_5qa19a2
              case hy23_5qa19a2 => intro w hSw; (try dsimp only at hSw); go_simp; (try with_reducible rfl)
              case rest23_5qa19a2 =>
              try simp only [Act.put, List.setIfInBounds_toArray, List.set_cons_zero, List.set_cons_succ]
              refine wpAnyG_one (i := 24) (by kernel_rfl) rfl (fun K hK => ?_)
              go_simp
              refine hK.out _ _ (fun _ => ?hS6qa19a2) ?rest6qa19a2
              case hS6qa19a2 => exact ⟨u2, u3, u4⟩
              clear K hK
              try simp only [Act.put, List.setIfInBounds_toArray, List.set_cons_zero, List.set_cons_succ]
              refine wpAnyG_one (i := 25) (by kernel_rfl) rfl (fun K hK => ?_)
              refine step_append_run (by rfl) (.tmp 66) (.tmp 89) 22 22 (by rfl) _ _ (by rfl) (by rfl) HR.out ?_
              refine hK.out _ _ (fun _ => ?hS7qa19a2) ?rest7qa19a2
              case hS7qa19a2 => exact ⟨q2, q3, y4⟩
              clear K hK
              try simp only [Act.put, List.setIfInBounds_toArray, List.set_cons_zero, List.set_cons_succ]
              refine wpAnyG_take' (i := 26) (v := ?v26_8qa19a2) rfl (by kernel_rfl) (by kernel_rfl) (by kernel_rfl) (by kernel_rfl) (fun _ _ _ h => h) (Or.inl ⟨by rfl, ?hy26_8qa19a2⟩) ⟨q2, q3, y4⟩ ?rest26_8qa19a2
              case hy26_8qa19a2 => intro w hSw; (try dsimp only at hSw); go_simp; (try with_reducible rfl)
              case rest26_8qa19a2 =>
              try simp only [Act.put, List.setIfInBounds_toArray, List.set_cons_zero, List.set_cons_succ]
              refine wpAnyG_one (i := 27) (by kernel_rfl) rfl (fun K hK => ?_)
              go_simp
              refine hK.out _ _ (fun hno => by cases hno) ?_
              clear K hK
              try simp only [Act.put, List.setIfInBounds_toArray, List.set_cons_zero, List.set_cons_succ]
              refine wpAnyG_done (by kernel_rfl) ?_ _
              go_wp2_with fail
              go_roundw
              case rel => exact ⟨j + 1, acc ++ [(nmL (m + j), 1 + q)], a9, c9, HJ.out.2, by go_num, HA2.out, HF.out⟩
              case measure => have := HJ.out.2; simp [intOf]; omega
            · go_simp
              rw [← HX.out]
              refine Calls.mono (HB.out _) ?_
              rintro r9 w8 ⟨rfl, rfl⟩
              go_wp2_with fail
              refine hK.out _ _ (fun _ => ?hS1qa19b2) ?rest1qa19b2
              case hS1qa19b2 => exact ⟨v2, v3, t4⟩
              clear K hK
              try simp only [Act.put, List.setIfInBounds_toArray, List.set_cons_zero, List.set_cons_succ]
              refine wpAnyG_take' (i := 22) (v := ?v22_2qa19b2) rfl (by kernel_rfl) (by kernel_rfl) (by kernel_rfl) (by kernel_rfl) (fun _ _ _ h => h) (Or.inl ⟨by rfl, ?hy22_2qa19b2⟩) ⟨v2, v3, t4⟩ ?rest22_2qa19b2
              case hy22_2qa19b2 => intro w hSw; (try dsimp only at hSw); go_simp; (try with_reducible rfl)
              case rest22_2qa19b2 =>
              try simp only [Act.put, List.setIfInBounds_toArray, List.set_cons_zero, List.set_cons_succ]
              refine wpAnyG_one (i := 12) (by kernel_rfl) rfl (fun K hK => ?_)
              go_simp
              refine hK.out _ _ (fun _ => ?hS3qa19b2) ?rest3qa19b2
              case hS3qa19b2 => exact ⟨v2, v3, t4⟩
              clear K hK
              try simp only [Act.put, List.setIfInBounds_toArray, List.set_cons_zero, List.set_cons_succ]
              refine wpAnyG_take' (i := 13) (v := ?v13_4qa19b2) rfl (by kernel_rfl) (by kernel_rfl) (by kernel_rfl) (by kernel_rfl) (fun _ _ _ h => h) (Or.inl ⟨by rfl, ?hy13_4qa19b2⟩) ⟨v2, v3, t4⟩ ?rest13_4qa19b2
              case hy13_4qa19b2 => intro w hSw; (try dsimp only at hSw); go_simp; (try with_reducible rfl)
              case rest13_4qa19b2 =>
              try simp only [Act.put, List.setIfInBounds_toArray, List.set_cons_zero, List.set_cons_succ]
              refine wpAnyG_take' (i := 23) (v := ?v23_5qa19b2) rfl (by kernel_rfl) (by kernel_rfl) (by kernel_rfl) (by kernel_rfl) (fun _ _ _ h => h) (Or.inl ⟨by rfl, ?hy23_5qa19b2⟩) ⟨v2, v3, t4⟩ ?rest23_5qa19b2
              case hy23_5qa19b2 => intro w hSw; (try dsimp only at hSw); go_simp; (try with_reducible rfl)
              case rest23_5qa19b2 =>
              try simp only [Act.put, List.setIfInBounds_toArray, List.set_cons_zero, List.set_cons_succ]
              refine wpAnyG_one (i := 24) (by kernel_rfl) rfl (fun K hK => ?_)
              go_simp
              refine hK.out _ _ (fun _ => ?hS6qa19b2) ?rest6qa19b2
              case hS6qa19b2 => exact ⟨u2, u3, u4⟩
              clear K hK
              try simp only [Act.put, List.setIfInBounds_toArray, List.set_cons_zero, List.set_cons_succ]
              refine wpAnyG_one (i := 25) (by kernel_rfl) rfl (fun K hK => ?_)
              refine step_append_run (by rfl) (.tmp 66) (.tmp 89) 22 22 (by rfl) _ _ (by rfl) (by rfl) HR.out ?_
              refine hK.out _ _ (fun _ => ?hS7qa19b2) ?rest7qa19b2
              case hS7qa19b2 => exact ⟨q2, q3, y4⟩
              clear K hK
              try simp only [Act.put, List.setIfInBounds_toArray, List.set_cons_zero, List.set_cons_succ]
              refine wpAnyG_take' (i := 26) (v := ?v26_8qa19b2) rfl (by kernel_rfl) (by kernel_rfl) (by kernel_rfl) (by kernel_rfl) (fun _ _ _ h => h) (Or.inl ⟨by rfl, ?hy26_8qa19b2⟩) ⟨q2, q3, y4⟩ ?rest26_8qa19b2
              case hy26_8qa19b2 => intro w hSw; (try dsimp only at hSw); go_simp; (try with_reducible rfl)
              case rest26_8qa19b2 =>
              try simp only [Act.put, List.setIfInBounds_toArray, List.set_cons_zero, List.set_cons_succ]
              refine wpAnyG_one (i := 27) (by kernel_rfl) rfl (fun K hK => ?_)
              go_simp
              refine hK.out _ _ (fun hno => by cases hno) ?_
              clear K hK
              try simp only [Act.put, List.setIfInBounds_toArray, List.set_cons_zero, List.set_cons_succ]
              refine wpAnyG_done (by kernel_rfl) ?_ _
              go_wp2_with fail
              go_roundw
              case rel => exact ⟨j + 1, acc ++ [(nmL (m + j), 1 + q)], a9, c9, HJ.out.2, by go_num, HA2.out, HF.out⟩
              case measure => have := HJ.out.2; simp [intOf]; omega
          · go_simp
            rw [← HX.out]
            refine Calls.mono (HB.out _) ?_
            rintro r9 w8 ⟨rfl, rfl⟩
            go_wp2_with fail
            refine hK.out _ _ (fun _ => ?hS1qb19) ?rest1qb19
            case hS1qb19 => exact ⟨x2, x3, c4⟩
            clear K hK
            try simp only [Act.put, List.setIfInBounds_toArray, List.set_cons_zero, List.set_cons_succ]
            refine wpAnyG_take' (i := 22) (v := ?v22_2qb19) rfl (by kernel_rfl) (by kernel_rfl) (by kernel_rfl) (by kernel_rfl) (fun _ _ _ h => h) (Or.inl ⟨by rfl, ?hy22_2qb19⟩) ⟨x2, x3, c4⟩ ?rest22_2qb19
            case hy22_2qb19 => intro w hSw; (try dsimp only at hSw); go_simp; (try with_reducible rfl)
            case rest22_2qb19 =>
            try simp only [Act.put, List.setIfInBounds_toArray, List.set_cons_zero, List.set_cons_succ]
            refine wpAnyG_one (i := 11) (by kernel_rfl) rfl (fun K hK => ?_)
            go_simp
            refine hK.out _ _ (fun _ => ?hS3qb19) ?rest3qb19
            case hS3qb19 => exact ⟨v2, v3, t4⟩
            clear K hK
            try simp only [Act.put, List.setIfInBounds_toArray, List.set_cons_zero, List.set_cons_succ]
            refine wpAnyG_one (i := 12) (by kernel_rfl) rfl (fun K hK => ?_)
            go_simp
            refine hK.out _ _ (fun _ => ?hS4qb19) ?rest4qb19
            case hS4qb19 => exact ⟨v2, v3, t4⟩
            clear K hK
            try simp only [Act.put, List.setIfInBounds_toArray, List.set_cons_zero, List.set_cons_succ]
            refine wpAnyG_take' (i := 13) (v := ?v13_5qb19) rfl (by kernel_rfl) (by kernel_rfl) (by kernel_rfl) (by kernel_rfl) (fun _ _ _ h => h) (Or.inl ⟨by rfl, ?hy13_5qb19⟩) ⟨v2, v3, t4⟩ ?rest13_5qb19
            case hy13_5qb19 => intro w hSw; (try dsimp only at hSw); go_simp; (try with_reducible rfl)
            case rest13_5qb19 =>
            try simp only [Act.put, List.setIfInBounds_toArray, List.set_cons_zero, List.set_cons_succ]
            refine wpAnyG_take' (i := 23) (v := ?v23_6qb19) rfl (by kernel_rfl) (by kernel_rfl) (by kernel_rfl) (by kernel_rfl) (fun _ _ _ h => h) (Or.inl ⟨by rfl, ?hy23_6qb19⟩) ⟨v2, v3, t4⟩ ?rest23_6qb19
            case hy23_6qb19 => intro w hSw; (try dsimp only at hSw); go_simp; (try with_reducible rfl)
            case rest23_6qb19 =>
            try simp only [Act.put, List.setIfInBounds_toArray, List.set_cons_zero, List.set_cons_succ]
            refine wpAnyG_one (i := 24) (by kernel_rfl) rfl (fun K hK => ?_)
            go_simp
            refine hK.out _ _ (fun _ => ?hS7qb19) ?rest7qb19
            case hS7qb19 => exact ⟨u2, u3, u4⟩
            clear K hK
            try simp only [Act.put, List.setIfInBounds_toArray, List.set_cons_zero, List.set_cons_succ]
            refine wpAnyG_one (i := 25) (by kernel_rfl) rfl (fun K hK => ?_)
            refine step_append_run (by rfl) (.tmp 66) (.tmp 89) 22 22 (by rfl) _ _ (by rfl) (by rfl) HR.out ?_
            refine hK.out _ _ (fun _ => ?hS8qb19) ?rest8qb19
            case hS8qb19 => exact ⟨q2, q3, y4⟩
            clear K hK
            try simp only [Act.put, List.setIfInBounds_toArray, List.set_cons_zero, List.set_cons_succ]
            refine wpAnyG_take' (i := 26) (v := ?v26_9qb19) rfl (by kernel_rfl) (by kernel_rfl) (by kernel_rfl) (by kernel_rfl) (fun _ _ _ h => h) (Or.inl ⟨by rfl, ?hy26_9qb19⟩) ⟨q2, q3, y4⟩ ?rest26_9qb19
            case hy26_9qb19 => intro w hSw; (try dsimp only at hSw); go_simp; (try with_reducible rfl)
            case rest26_9qb19 =>
            try simp only [Act.put, List.setIfInBounds_toArray, List.set_cons_zero, List.set_cons_succ]
            refine wpAnyG_one (i := 27) (by kernel_rfl) rfl (fun K hK => ?_)
            go_simp
            refine hK.out _ _ (fun hno => by cases hno) ?_
            clear K hK
            try simp only [Act.put, List.setIfInBounds_toArray, List.set_cons_zero, List.set_cons_succ]
            refine wpAnyG_done (by kernel_rfl) ?_ _
            go_wp2_with fail
            go_roundw
            case rel => exact ⟨j + 1, acc ++ [(nmL (m + j), 1 + q)], a9, c9, HJ.out.2, by go_num, HA2.out, HF.out⟩
            case measure => have := HJ.out.2; simp [intOf]; omega
        · have hg1 : decide (j < ls.length) = false := decide_eq_false hlt
          have hz : ((j : Int) == 0) = false := by rw [beq_eq_false_iff_ne]; omega
          have HA2 := Lib.hid (HA.out.skip (by omega))
          clear hlt hj0
          go_wp2_with fail
          go_roundw
          case rel => exact ⟨j + 1, acc, av, cv, HJ.out.2, by go_num, HA2.out, H.out⟩
          case measure => have := HJ.out.2; simp [intOf]; omega
    · obtain rfl : j = 4 := by omega
      have hd : decide (((4 : Nat) : Int) < 4) = false := by decide
      have HLO := Lib.hid HA.out.lines
      have hx := H.out.sw2
      obtain ⟨z0, z1, z2, z3, z4⟩ := cells5 hx.sw3
      obtain ⟨g0, g1, g2, g3, g4⟩ := frz5 hx.sw3
      have h6 := store5 (u0 := .int .i64 3) (u1 := .string ⟨#[]⟩) (u2 := .int .i64 (1 + qo)) (u3 := .int .i64 (1 + qn)) (u4 := .slice av acc.length cv) hx.sw3
      obtain ⟨k0, k1, k2, k3, k4⟩ := cells5 h6
      have H6 := Lib.hid h6.sw3.sw2.drop.sw2.drop.sw2.drop
      clear hx h6 H
      go_wp2_with fail
      exact bodyPost_ret (v := .agg #[.int .i64 3, .string ⟨#[]⟩, .int .i64 (1 + qo), .int .i64 (1 + qn), .slice av acc.length cv]) (by simp [results, Tryd.results30, go_sem, k0, k1, k2, k3, k4]) rfl ⟨⟨3, sZ, 1 + qo, 1 + qn, acc⟩, _, rfl, ok_22' (qtyB_1 HQ.out.1) (qtyB_1 HQ.out.2) HLO.out, H6.out⟩
end Go.Proofs.YtfjodadmcfdlpaaDoor
