/- A table's bytes. -/
import Derived.Test.YtjjjkfdppleagaaTable10
import Derived.Test.YtjjjkfdppleagaaRoundReg
import Derived.Test.YtjjjkfdppleagaaResB
namespace Go.Proofs.Ytjjjkfdppleagaa
open Go Go.RowKit Go.Shelf
set_option linter.unusedVariables false
set_option linter.unusedSimpArgs false
attribute [local go_sem] Oper.semAt_some
def seatBs (s : SW) : List UInt8 := [UInt8.ofNat s.c.toNat] ++ vint s.n.toNat ++ vint s.o.toNat ++ vint (resBs s.k s.a s.b).length ++ resBs s.k s.a s.b
def tabBs (T : List SW) : List UInt8 := [UInt8.ofNat (seatsOf T).length] ++ (seatsOf T).flatMap seatBs
theorem resBs_len (k a b : Int) : (resBs k a b).length ≤ 21 := by unfold resBs; have := vint_len a.toNat; have := vint_len b.toNat; simp; omega
theorem seatBs_len (s : SW) : (seatBs s).length ≤ 60 := by unfold seatBs; have := vint_len s.n.toNat; have := vint_len s.o.toNat; have := vint_len (resBs s.k s.a s.b).length; have := resBs_len s.k s.a s.b; simp; omega
theorem seatsBs_len : ∀ l : List SW, (l.flatMap seatBs).length ≤ l.length * 60
  | [] => by simp
  | s :: l => by have := seatsBs_len l; have := seatBs_len s; rw [List.flatMap_cons, List.length_append, List.length_cons]; omega
/-- A slice of bytes of one's own, in a box. -/
def BoxT (b : Nat) (l : List UInt8) : Thing := Ex fun v => Both (Cl b #[v] 52) (By v l)
theorem loc_box0 (b : Nat) (l : List UInt8) (v : Value) : Loc (Both (Cl b #[v] 52) (By v l)) := loc_both (loc_blk _ _) (loc_rw _ _ _)
theorem Sep.boxOpen {w0 w : World} {b : Nat} {l : List UInt8} {L : List Thing} (h : Sep w0 (BoxT b l :: L) w) : ∃ v, Sep w0 (Cl b #[v] 52 :: By v l :: L) w := by
  obtain ⟨v, h1⟩ := h.ex (loc_box0 b l)
  exact ⟨v, h1.both (loc_blk _ _) (loc_rw _ _ _)⟩
theorem Sep.boxClose {w0 w : World} {b : Nat} {l : List UInt8} {v : Value} {L : List Thing} (h : Sep w0 (Cl b #[v] 52 :: By v l :: L) w) : Sep w0 (BoxT b l :: L) w := Sep.give (A := fun v => Both (Cl b #[v] 52) (By v l)) v h.join (loc_box0 b l)
theorem byte1u {k : Int} (h0 : 0 ≤ k) (h9 : k ≤ 255) : #[Value.int .u8 k].toList = bv [UInt8.ofNat k.toNat] := by
  obtain ⟨j, rfl⟩ : ∃ j : Nat, k = j := ⟨k.toNat, by omega⟩
  simp [bv, UInt8.toNat_ofNat']
  omega
set_option maxRecDepth 100000 in
set_option maxHeartbeats 16000000 in
theorem tbytes_any {w0 w : World} {g : Nat} {T : List SW} {L : List Thing} (h : Sep w0 (TabT g T :: L) w) (hT : T.length = 8) (hok : ∀ s ∈ seatsOf T, clientOk s.c s.n s.o s.k s.a s.b = true) :
    Calls Try.prog 24 #[.pointer (some ⟨g, 0, none⟩)] w fun e w' => ∃ u, e = .returned u ∧ Sep w0 (By u (tabBs T) :: TabT g T :: L) w' := by
  have HN := Lib.hid (tnone_c h.made)
  have HL := Lib.hid (len_any h hT)
  have hle := seats_le T hT
  have HOK := Lib.hid hok
  have HT := Lib.hid hT
  obtain ⟨m, hm⟩ : ∃ z, z = (seatsOf T).length := ⟨_, rfl⟩
  rw [← hm] at HL hle
  have HM := Lib.hid hm
  have wm : IntKind.u8.wrap (m : Int) = (m : Int) := by rw [IntKind.wrap_u8]; omega
  have m0 : (0 : Int) ≤ (m : Int) := by omega
  have m8 : (m : Int) ≤ 8 := by omega
  clear h hok hT hm hle
  refine (callsIn_wide (n := 4)).1 ?_
  refine callsIn_of_wp_marks Try.func24 rfl trivial ?_ rfl
  simp only [Try.ntmps24, List.size_toArray, List.length_cons, List.length_nil, Nat.reduceAdd, Nat.reduceSub, Array.replicate_succ, Array.replicate_zero, List.push_toArray, List.append_toArray, List.nil_append, List.cons_append]
  gi_wp2
  refine ⟨trivial, ?_⟩
  refine (callsIn_wide.2 HN.out).mono ?_
  rintro r0 w1 ⟨rfl, rfl⟩
  clear HN
  gi_wp2
  refine ⟨trivial, ?_⟩
  refine (callsIn_wide.2 HL.out).mono ?_
  rintro r0 w2 ⟨rfl, h2⟩
  clear HL
  have h3 := h2.alloc (.cells #[.int .u8 (m : Int)] 5)
  have h4 := h3.asRow 1 rfl (by unfold maxLen; omega)
  rw [byte1u m0 (by omega)] at h4
  have h5 := h4.alloc (.cells #[.slice (some ⟨w2.heap.size, 0, none⟩) 1 1] 52)
  rw [World.size_alloc] at h5
  have H5 := Lib.hid h5
  clear h2 h3 h4 h5
  gi_wp2
  obtain ⟨b2, hb2⟩ : ∃ z, z = w2.heap.size := ⟨_, rfl⟩
  obtain ⟨b3, hb3⟩ : ∃ z, z = w2.heap.size + 1 := ⟨_, rfl⟩
  have h6 := H5.out
  rw [← hb3, ← hb2] at h6 ⊢
  obtain ⟨w3, hw3⟩ : ∃ z, z = (w2.alloc (.cells #[.int .u8 (m : Int)] 5)).alloc (.cells #[.slice (some ⟨b2, 0, none⟩) 1 1] 52) := ⟨_, rfl⟩
  rw [← hw3] at h6 ⊢
  have h7 : Sep w0 (BoxT b3 [UInt8.ofNat (m : Int).toNat] :: TabT g T :: L) w3 := Sep.boxClose h6
  rw [show (m : Int).toNat = m from rfl] at h7
  clear H5 h6 hb2 hb3 hw3
  refine range_sepA (P := Try.prog) (gf := 41) (fb := #[.pointer (some ⟨g, 0, none⟩)]) (lb := #[]) rfl (by omega) rfl trivial (enters_of Try.func41 (by kernel_rfl) rfl) (seatsOf T) (fun _ => rfl)
    (fun pre => BoxT b3 ([UInt8.ofNat m] ++ pre.flatMap seatBs) :: TabT g T :: L) h7 (each_gives _ g T HT.out) (fun A B W hs => hs.drop.drop.drop.blk)
    (fun x a' => [Ex fun b4 => Both (Fact (a' = { tmps := #[.pointer (some ⟨g, 0, none⟩), undef, .slice none 0 0, .pointer (some ⟨b3, 0, none⟩), .pointer (some ⟨b4, 0, none⟩), undef, undef, .pointer (some ⟨g, 0, none⟩), .bool false, .pointer (some ⟨g, 0, none⟩), .int .i64 m, .int .u8 m, .slice (some ⟨b2, 0, none⟩) 1 1, .pointer (some ⟨g, 0, none⟩), .func (.func 41) #[.pointer (some ⟨g, 0, none⟩)] #[], x.val, undef, undef, undef, undef, undef, undef, undef, undef, undef, undef, undef, undef, undef, undef, undef, undef, undef, undef, undef, undef, undef, undef, undef, undef], defers := [] })) (Cl b4 #[.int .i64 x.c, .int .i64 x.n, .int .i64 x.o, .int .i64 x.k, .int .i64 x.a, .int .i64 x.b] 31)]) (fun _ _ => True) ?assign ?body ?done
  case assign =>
    intro l x pre A B W K hs hK
    have h8 := hs.alloc (.cells #[.int .i64 x.c, .int .i64 x.n, .int .i64 x.o, .int .i64 x.k, .int .i64 x.a, .int .i64 x.b] 31)
    have H8 := Lib.hid h8
    clear hs h8 h7
    simp only [SW.val, List.zip_toArray, List.zip_cons_cons, List.zip_nil_right, List.foldl_toArray, List.foldl_cons, List.foldl_nil, List.setIfInBounds_toArray, List.set_cons_zero, List.set_cons_succ]
    gi_wp2
    exact hK _ _ trivial (Sep.to3 (Sep.give (A := fun b4 => Both (Fact (_ = _)) (Cl b4 #[.int .i64 x.c, .int .i64 x.n, .int .i64 x.o, .int .i64 x.k, .int .i64 x.a, .int .i64 x.b] 31)) W.heap.size (H8.out.say rfl).join (fun _ => loc_both (loc_fact _) (loc_blk _ _))))
  case body =>
    intro l pre x rest A B a' W hx _ hs
    obtain ⟨b4, h8⟩ := (Sep.sw3 hs).ex (fun _ => loc_both (loc_fact _) (loc_blk _ _))
    have h9 := h8.both (loc_fact _) (loc_blk _ _)
    have ha := h9.fact
    subst ha
    have h10 := h9.drop
    obtain ⟨v, h11⟩ := Sep.boxOpen (h10.pickL (M := [_, _, _, _]) [3, 0, 1, 2] rfl)
    -- Cl b3 [v] :: By v l1 :: Cl b4 seat :: A :: B :: TabT :: L
    have hmem : x ∈ seatsOf T := by rw [hx]; simp
    have hcl := HOK.out x hmem
    unfold clientOk at hcl
    simp only [Bool.and_eq_true] at hcl
    obtain ⟨k1, k2, k3, k4, k5, k6⟩ := hcl
    have hc8 := of_decide_eq_true k1
    have hn1 := of_decide_eq_true k2
    have hn2 := of_decide_eq_true k3
    have ho1 := of_decide_eq_true k4
    have ho2 := of_decide_eq_true k5
    have e0 : IntKind.u8.wrap x.c = x.c := by rw [IntKind.wrap_u8]; omega
    have e1 : IntKind.u64.wrap x.n = x.n := by rw [IntKind.wrap_u64]; omega
    have e2 : IntKind.u64.wrap x.o = x.o := by rw [IntKind.wrap_u64]; omega
    have hll : ([UInt8.ofNat m] ++ pre.flatMap seatBs).length ≤ 1000 := by
      have := seatsBs_len pre
      have h9 := congrArg List.length hx
      have h8 := seats_le T HT.out
      rw [List.length_append] at h9
      rw [List.length_append, List.length_singleton]
      omega
    obtain ⟨l1, hl1⟩ : ∃ z, z = [UInt8.ofNat m] ++ pre.flatMap seatBs := ⟨_, rfl⟩
    rw [← hl1] at h11 hll
    obtain ⟨s0, s1, s2, s3, s4, s5⟩ := cells6z (h11.pickL (M := [_, _, _]) [2, 0, 1] rfl)
    have HR := Lib.hid (bytesRes_ok x.k x.a x.b h11 k6)
    have HX := Lib.hid (And.intro hl1 (And.intro hll (And.intro hc8 (And.intro (And.intro hn1 hn2) (And.intro ho1 ho2)))))
    clear hs h8 h9 h10 h11 hx hmem k1 k2 k3 k4 k5 k6 hl1 hll hc8 hn1 hn2 ho1 ho2 h7
    gi_wp2
    refine ⟨trivial, ?_⟩
    refine ((callsIn_wide.2 HR.out).inRound l).mono ?_
    rintro r1 w5 ⟨u, rfl, h12⟩
    -- By u res :: Cl b3 [v] :: By v l1 :: Cl b4 :: A :: B ..
    obtain ⟨va, vc, rfl⟩ := h12.sw3.sl.len
    obtain ⟨ua, uc, rfl⟩ := h12.sl.len
    obtain ⟨n1, hn1⟩ : ∃ z, z = (bv l1).length := ⟨_, rfl⟩
    obtain ⟨u1, hu1⟩ : ∃ z, z = (bv (resBs x.k x.a x.b)).length := ⟨_, rfl⟩
    rw [← hn1, ← hu1] at h12
    rw [← hu1]
    clear hn1 hu1
    have d0 := h12.sw2.cell (o := 0) rfl
    obtain ⟨q0, q1, q2, q3, q4, q5⟩ := cells6z (h12.pickL (M := [_, _, _, _]) [3, 0, 1, 2] rfl)
    have H12 := Lib.hid h12
    clear HR h12 s0 s1 s2 s3 s4 s5
    gi_wp2
    have h14 := (H12.out.alloc (.cells #[.int .u8 x.c] 5)).drew
    have g0 := h14.sw3.cell (o := 0) rfl
    obtain ⟨p0, p1, -, -, -, -⟩ := cells6z (h14.pickL (M := [_, _, _, _, _]) [4, 0, 1, 2, 3] rfl)
    have h15 := h14.asRow 1 rfl (by unfold maxLen; omega)
    rw [byte1u HX.out.2.2.1.1 (by have := HX.out.2.2.1.2; omega)] at h15
    obtain ⟨v6, w6, hr6, h16, -⟩ := app8 (ty := 52) (h15.pickL (M := [_, _, _, _]) [3, 0, 1, 2] rfl) h15.sl (by have := HX.out.2.1; simp; omega)
    obtain ⟨v6a, v6c, rfl⟩ := h16.sl.len
    obtain ⟨n6, hn6⟩ : ∃ z, z = (bv (l1 ++ [UInt8.ofNat x.c.toNat])).length := ⟨_, rfl⟩
    rw [← hn6] at h16 hr6
    clear hn6
    have g6 := h16.sw4.cell (o := 0) rfl
    obtain ⟨r0, r1, -, -, -, -⟩ := cells6z (h16.pickL (M := [_, _, _, _, _]) [4, 0, 1, 2, 3] rfl)
    have HV := Lib.hid (vint_conv _ _ x.n h16 (by have := HX.out.2.2.2.1; omega) (by have := HX.out.2.2.2.1; omega) (by have := HX.out.2.1; simp; omega))
    have HR6 := Lib.hid hr6
    clear h14 h15 h16 hr6
    refine region_round (fun w' => w'.cell? ⟨b3, 0, none⟩ = some (.slice va n1 vc) ∧ w'.cell? ⟨b4, 0, none⟩ = some (.int .i64 x.c) ∧ w'.cell? ⟨b4, 1, none⟩ = some (.int .i64 x.n)) [10] (by kernel_rfl) (by kernel_rfl) (fun ⟨_, _, h9⟩ => h9) ⟨d0, q0, q1⟩ (fun hS => ?_)
    try dsimp only at hS
    refine wpAnyG_take' (i := 0) (v := ?v0_1t7) rfl (by kernel_rfl) (by kernel_rfl) (by kernel_rfl) (by kernel_rfl) (fun _ _ _ h => h) (Or.inl ⟨by rfl, ?hy0_1t7⟩) hS ?rest0_1t7
    case hy0_1t7 => intro w hSw; (try dsimp only at hSw); go_simp; (try with_reducible rfl)
    case rest0_1t7 =>
    try simp only [List.getElem_toArray, List.getElem_cons_succ, List.getElem_cons_zero, Act.put, List.setIfInBounds_toArray, List.set_cons_zero, List.set_cons_succ]
    refine wpAnyG_take' (i := 1) (v := ?v1_2t7) rfl (by kernel_rfl) (by kernel_rfl) (by kernel_rfl) (by kernel_rfl) (fun _ _ _ h => h) (Or.inl ⟨by rfl, ?hy1_2t7⟩) hS ?rest1_2t7
    case hy1_2t7 => intro w hSw; (try dsimp only at hSw); go_simp; (try with_reducible rfl)
    case rest1_2t7 =>
    try simp only [List.getElem_toArray, List.getElem_cons_succ, List.getElem_cons_zero, Act.put, List.setIfInBounds_toArray, List.set_cons_zero, List.set_cons_succ]
    refine wpAnyG_take' (i := 2) (v := ?v2_3t7) rfl (by kernel_rfl) (by kernel_rfl) (by kernel_rfl) (by kernel_rfl) (fun _ _ _ h => h) (Or.inl ⟨by rfl, ?hy2_3t7⟩) hS ?rest2_3t7
    case hy2_3t7 => intro w hSw; (try dsimp only at hSw); go_simp; (try with_reducible rfl)
    case rest2_3t7 =>
    try simp only [List.getElem_toArray, List.getElem_cons_succ, List.getElem_cons_zero, Act.put, List.setIfInBounds_toArray, List.set_cons_zero, List.set_cons_succ]
    refine wpAnyG_take' (i := 3) (v := ?v3_4t7) rfl (by kernel_rfl) (by kernel_rfl) (by kernel_rfl) (by kernel_rfl) (fun _ _ _ h => h) (Or.inl ⟨by rfl, ?hy3_4t7⟩) hS ?rest3_4t7
    case hy3_4t7 => intro w hSw; (try dsimp only at hSw); go_simp; (try with_reducible rfl)
    case rest3_4t7 =>
    try simp only [List.getElem_toArray, List.getElem_cons_succ, List.getElem_cons_zero, Act.put, List.setIfInBounds_toArray, List.set_cons_zero, List.set_cons_succ]
    refine wpAnyG_take' (i := 6) (v := ?v6_5t7) rfl (by kernel_rfl) (by kernel_rfl) (by kernel_rfl) (by kernel_rfl) (fun _ _ _ h => h) (Or.inl ⟨by rfl, ?hy6_5t7⟩) hS ?rest6_5t7
    case hy6_5t7 => intro w hSw; (try dsimp only at hSw); go_simp; (try with_reducible rfl)
    case rest6_5t7 =>
    try simp only [List.getElem_toArray, List.getElem_cons_succ, List.getElem_cons_zero, Act.put, List.setIfInBounds_toArray, List.set_cons_zero, List.set_cons_succ]
    refine wpAnyG_take' (i := 7) (v := ?v7_6t7) rfl (by kernel_rfl) (by kernel_rfl) (by kernel_rfl) (by kernel_rfl) (fun _ _ _ h => h) (Or.inl ⟨by rfl, ?hy7_6t7⟩) hS ?rest7_6t7
    case hy7_6t7 => intro w hSw; (try dsimp only at hSw); go_simp; (try with_reducible rfl)
    case rest7_6t7 =>
    try simp only [List.getElem_toArray, List.getElem_cons_succ, List.getElem_cons_zero, Act.put, List.setIfInBounds_toArray, List.set_cons_zero, List.set_cons_succ]
    refine wpAnyG_take' (i := 8) (v := ?v8_7t7) rfl (by kernel_rfl) (by kernel_rfl) (by kernel_rfl) (by kernel_rfl) (fun _ _ _ h => h) (Or.inl ⟨by rfl, ?hy8_7t7⟩) hS ?rest8_7t7
    case hy8_7t7 => intro w hSw; (try dsimp only at hSw); go_simp; (try with_reducible rfl)
    case rest8_7t7 =>
    try simp only [List.getElem_toArray, List.getElem_cons_succ, List.getElem_cons_zero, Act.put, List.setIfInBounds_toArray, List.set_cons_zero, List.set_cons_succ]
    refine wpAnyG_one (i := 4) (by kernel_rfl) rfl (fun K hK => ?_)
    go_simp
    refine hK.out _ _ (fun _ => ?hS8t7) ?rest8t7
    case hS8t7 => exact ⟨g0, p0, p1⟩
    clear K hK
    try simp only [List.getElem_toArray, List.getElem_cons_succ, List.getElem_cons_zero, Act.put, List.setIfInBounds_toArray, List.set_cons_zero, List.set_cons_succ]
    refine wpAnyG_one (i := 5) (by kernel_rfl) rfl (fun K hK => ?_)
    refine step_append_run (by rfl) (.tmp 22) (.tmp 26) 52 52 (by rfl) _ _ (by rfl) (by rfl) HR6.out ?_
    refine hK.out _ _ (fun _ => ?hS9t7) ?rest9t7
    case hS9t7 => exact ⟨g6, r0, r1⟩
    clear K hK
    try simp only [List.getElem_toArray, List.getElem_cons_succ, List.getElem_cons_zero, Act.put, List.setIfInBounds_toArray, List.set_cons_zero, List.set_cons_succ]
    refine wpAnyG_one (i := 9) (by kernel_rfl) rfl (fun K hK => ?_)
    go_simp
    refine Calls.mono HV.out ?_
    rintro r9 w7 ⟨v7, rfl, h17⟩
    obtain ⟨v7a, v7c, rfl⟩ := h17.sl.len
    obtain ⟨n7, hn7⟩ : ∃ z, z = (bv (l1 ++ [UInt8.ofNat x.c.toNat] ++ vint x.n.toNat)).length := ⟨_, rfl⟩
    rw [← hn7] at h17 ⊢
    clear hn7
    have g7 := h17.sw4.cell (o := 0) rfl
    obtain ⟨t0, t1, t2, t3, t4, t5⟩ := cells6z (h17.pickL (M := [_, _, _, _, _]) [4, 0, 1, 2, 3] rfl)
    have f7 := h17.sw4.frozen 0
    have H17 := Lib.hid h17
    clear HV h17
    try dsimp only
    repeat' (first | go_values | go_skip | go_guarded | go_step | go_upon | go_back)
    refine hK.out _ _ (fun _ => ?hS10t7) ?rest10t7
    case hS10t7 => exact ⟨g7, t0, t1⟩
    clear K hK
    try simp only [List.getElem_toArray, List.getElem_cons_succ, List.getElem_cons_zero, Act.put, List.setIfInBounds_toArray, List.set_cons_zero, List.set_cons_succ]
    refine wpAnyG_one (i := 10) (by kernel_rfl) rfl (fun K hK => ?_)
    go_simp
    refine hK.out _ _ (fun hno => by cases hno) ?_
    clear K hK
    try simp only [List.getElem_toArray, List.getElem_cons_succ, List.getElem_cons_zero, Act.put, List.setIfInBounds_toArray, List.set_cons_zero, List.set_cons_succ]
    refine wpAnyG_done (by kernel_rfl) ?_ _
    try simp only [List.getElem_toArray, List.getElem_cons_succ, List.getElem_cons_zero, Act.put, List.setIfInBounds_toArray, List.set_cons_zero, List.set_cons_succ]
    have h18 := (H17.out.sw4).setCell 0 (.slice v7a n7 v7c)
    simp only [List.setIfInBounds_toArray, List.set_cons_zero] at h18
    clear d0 q0 q1 q2 q3 q4 q5 g0 p0 p1 g6 r0 r1 g7 t0 t1 t2 t3 t4 t5 f7 H17 H12 HR6 hS e0 e1
    generalize w7.setCell ⟨b3, 0, none⟩ (.slice v7a n7 v7c) = w8 at h18 ⊢
    have y0 := h18.cell (o := 0) rfl
    obtain ⟨-, -, z2, -, -, -⟩ := cells6z (h18.pickL (M := [_, _, _, _, _]) [4, 0, 1, 2, 3] rfl)
    have HV2 := Lib.hid (vint_conv _ _ x.o h18.sw2 (by have := HX.out.2.2.2.2; omega) (by have := HX.out.2.2.2.2; omega) (by have := HX.out.2.1; have := vint_len x.n.toNat; simp; omega))
    clear h18
    gi_wp2
    refine ⟨trivial, ?_⟩
    refine ((callsIn_wide.2 HV2.out).inRound l).mono ?_
    rintro r2 w9 ⟨v8, rfl, h19⟩
    obtain ⟨v8a, v8c, rfl⟩ := h19.sl.len
    obtain ⟨n8, hn8⟩ : ∃ z, z = (bv (l1 ++ [UInt8.ofNat x.c.toNat] ++ vint x.n.toNat ++ vint x.o.toNat)).length := ⟨_, rfl⟩
    rw [← hn8] at h19 ⊢
    clear hn8 y0 z2 HV2
    have HT2 := Lib.hid (text_sep _ _ _ (resBs x.k x.a x.b) w9 h19 h19.sl (Sep.sl (h19.pickL (M := [_, _, _, _]) [3, 0, 1, 2] rfl)) (by have := HX.out.2.1; have := vint_len x.n.toNat; have := vint_len x.o.toNat; have := resBs_len x.k x.a x.b; simp; omega))
    clear h19
    gi_wp2
    refine ⟨trivial, ?_⟩
    refine ((callsIn_wide.2 HT2.out).inRound l).mono ?_
    rintro r3 w10 ⟨v9, rfl, h20⟩
    obtain ⟨v9a, v9c, rfl⟩ := h20.sl.len
    obtain ⟨l9, hl9⟩ : ∃ z, z = l1 ++ [UInt8.ofNat x.c.toNat] ++ vint x.n.toNat ++ vint x.o.toNat ++ vint (resBs x.k x.a x.b).length ++ resBs x.k x.a x.b := ⟨_, rfl⟩
    rw [← hl9] at h20 ⊢
    obtain ⟨n9, hn9⟩ : ∃ z, z = (bv l9).length := ⟨_, rfl⟩
    rw [← hn9] at h20 ⊢
    have y0 := h20.sw3.cell (o := 0) rfl
    have f0 := h20.sw3.frozen 0
    have h21 := (h20.sw3).setCell 0 (.slice v9a n9 v9c)
    simp only [List.setIfInBounds_toArray, List.set_cons_zero] at h21
    have h22 := Sep.pickL (M := [_, _, _, _, _, _, _]) (Sep.boxClose h21) [5, 6, 0] rfl
    have hle9 : l9 = [UInt8.ofNat m] ++ (pre ++ [x]).flatMap seatBs := by
      rw [hl9, HX.out.1, List.flatMap_append, List.flatMap_cons, List.flatMap_nil, List.append_nil]
      unfold seatBs
      simp only [List.append_assoc]
    rw [hle9] at h22
    have H22 := Lib.hid h22
    clear h20 h21 h22 hl9 hn9 hle9 HT2 HX e2
    gi_wp2
    exact H22.out
  case done =>
    intro D W hs
    obtain ⟨v, hs2⟩ := hs.sw2.boxOpen
    have c0 := hs2.cell (o := 0) rfl
    have hK := (hs2.sw3).blk
    have HS := Lib.hid hs2
    clear hs hs2
    gi_wp2
    refine ⟨by simp, .inl ⟨_, _, rfl, run_takeDeferred hK, ?_⟩⟩
    exact ⟨_, results_tmp rfl _ _ _, _, rfl, by
      have h9 := ((HS.out.sw3).putObj (.deferred none)).drop.drop
      rw [HM.out] at h9
      exact h9⟩
end Go.Proofs.Ytjjjkfdppleagaa
