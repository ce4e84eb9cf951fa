/- list.Copy of entries; a pipe's New, Append, Get, From, Cut, Trim. -/
import Derived.Test.YtpknfeokfladkaaDoorPipe0
import Derived.Test.YtpknfeokfladkaaDoorPipe1
import Derived.Test.YtpknfeokfladkaaDoorItem10
import Derived.Test.YtpknfeokfladkaaDoorBkJ
import Derived.Test.YtpknfeokfladkaaDoorEn2
import Derived.Test.YtpknfeokfladkaaDoorBkF
namespace Go.Proofs.YtpknfeokfladkaaDoor
open Go.RowKit
set_option linter.unusedVariables false
set_option linter.unusedSimpArgs false
theorem Sep.pc {w0 w : World} {g : Nat} {b : Int} {a : Option Addr} {n c : Nat} {t : TypeId} {L : List Thing} (h : Sep w0 (Cl g #[.bool true, .int .i64 b, .slice a n c] t :: L) w) : PC w g b a n c := ⟨h.cell rfl, h.cell rfl, h.cell rfl⟩
set_option maxRecDepth 100000 in
set_option maxHeartbeats 8000000 in
theorem lcopy_w {w : World} (a : Option Addr) (c : Nat) (xs : List (EnM × Value)) (hv : EnS w (.slice a xs.length c) xs) (hl : xs.length ≤ 1000000) (hls : ∀ x ∈ xs, x.1.p.ls.length ≤ 1000) :
    Calls Tryd.prog 47 #[.slice a xs.length c, .func (.func 42) #[] #[]] w fun e w' => ∃ (u : Value) (ps : List (EnM × Value)), e = .returned u ∧ ps.map (·.1) = xs.map (·.1) ∧ Sep w [EnT u ps] w' := by
  obtain ⟨i, hi, he⟩ := Option.map_eq_some_iff.1 infoEn
  simp only [Prod.mk.injEq, decide_eq_true_eq] at he
  obtain ⟨z, hz, hz2⟩ := Option.map_eq_some_iff.1 he.2.2
  obtain ⟨w1, hmk, hown, hgr⟩ := run_make_own (P := Tryd.prog) w w.heap.size 35 34 i z 7 Tryd.underlying35 hi hz he.1 .i64 .i64 xs.length (by
    calc i.bytes * xs.length ≤ 256 * 1000000 := Nat.mul_le_mul he.2.1 hl
      _ ≤ 281474976710656 := by omega) (by unfold maxLen; omega) (Nat.le_refl _)
  have h1 : Sep w [EnT (.slice (some ⟨w.heap.size, 0, none⟩) 0 xs.length) []] w1 := Sep.enClose (ps := []) ((Sep.start w).new (loc_rn _ _ _ _ _) (below_gr0 hgr) (F := fun k => (Value.slice (some ⟨w.heap.size, 0, none⟩) 0 xs.length).ownBlock = some k) ⟨⟨_, hown⟩, fun _ => Iff.rfl⟩ (ownsRow_lt hown))
  have HM := Lib.hid hmk
  have H1 := Lib.hid h1
  have HX := Lib.hid hv
  have HLS := Lib.hid hls
  have n0 : (0 : Int) ≤ (xs.length : Int) := by omega
  have n1 : (xs.length : Int) ≤ 1000000 := by omega
  clear hi he hz hz2 hown hgr h1 hmk hv hls hl
  obtain ⟨n, hn⟩ : ∃ n, n = xs.length := ⟨_, rfl⟩
  rw [← hn] at HM H1 HX n0 n1 ⊢
  have HN := Lib.hid hn
  clear hn
  go_enter Tryd.func47, Tryd.ntmps47
  go_wp2_with fail
  rw [HM.out]
  clear HM
  go_wp2_with fail
  go_loopw [5, 13] (fun pv i wr => ∃ (k : Nat) (ps : List (EnM × Value)) (av : Option Addr) (cv : Nat), k ≤ n ∧ pv = .slice av k cv ∧ i = .int .i64 k ∧ ps.length = k ∧ ps.map (·.1) = (xs.take k).map (·.1) ∧ Sep w [EnT (.slice av k cv) ps] wr) (fun _ i _ => n - (intOf i).toNat)
  case atStart => exact ⟨0, [], _, _, Nat.zero_le _, rfl, rfl, rfl, rfl, H1.out⟩
  case round =>
    obtain ⟨k, ps, av, cv, hk, rfl, rfl, hpl, hps, hs⟩ := hrel
    clear H1
    have k0 : (0 : Int) ≤ (k : Int) := by omega
    by_cases hkn : k < n
    · have hkx : k < xs.length := by have := HN.out; omega
      have hd : decide (k < n) = true := decide_eq_true hkn
      have k1 : (k : Int) < (n : Int) := by omega
      obtain ⟨bx, off, rfl, -, hnc, -, ⟨e0, e1, e2, e3, e4, e5, e6⟩, hln⟩ := (HX.out.below hs.low).at hkx
      have hxl := HLS.out _ (List.getElem_mem hkx)
      obtain ⟨⟨x, v⟩, hxv⟩ : ∃ z, z = xs[k] := ⟨_, rfl⟩
      rw [← hxv] at e0 e1 e2 e3 e4 e5 e6 hln hxl
      dsimp only at e0 e1 e2 e3 e4 e5 e6 hln hxl
      obtain ⟨av', kv, rfl⟩ := hln.len
      have h4 := hs.alloc (.cells (enC x (.slice av' x.p.ls.length kv)) 34)
      have hlow : Below wr.heap.size wr (wr.alloc (.cells (enC x (.slice av' x.p.ls.length kv)) 34)) := (Below.refl _ wr).alloc (Nat.le_refl _) _
      have HB := Lib.hid (ecopy_any x (.slice av' x.p.ls.length kv) h4 (hln.below hlow) hxl)
      unfold enV enC at HB
      unfold enC at h4
      obtain ⟨d0, d1, d2, d3, d4, d5, d6⟩ := cells7 h4
      have HXV := Lib.hid (And.intro hxv (And.intro hkx hkn))
      have HPS := Lib.hid (And.intro hpl hps)
      clear hs h4 hlow hln hxv hpl hps hk hkn hxl
      go_wp2_with fail
      refine HB.out.mono ?_
      rintro r0 w5 ⟨u, rfl, h5⟩
      obtain ⟨au, ku, rfl, -⟩ := h5.rnForm
      have h6 := h5.alloc (.cells (enC x (.slice au x.p.ls.length ku)) 34)
      obtain ⟨a2, c2, w8, hr, h8⟩ := append_en (ty := 35) (h6.pick [0, 3, 1] rfl : Sep w [Cl w5.heap.size (enC x (.slice au x.p.ls.length ku)) 34, EnT (.slice av k cv) ps, LnR (.slice au x.p.ls.length ku) x.p.ls] _) rfl (by rw [HPS.out.1]; omega)
      rw [HPS.out.1] at hr h8
      unfold enC at hr
      have HAP := Lib.hid hr
      have H8 := Lib.hid h8
      clear HB h5 h6 hr h8 d0 d1 d2 d3 d4 d5 d6 e0 e1 e2 e3 e4 e5 e6
      go_wp2_with (at_builtin; refine wpList_append_run rfl _ _ _ _ rfl rfl rfl HAP.out ?_)
      go_roundw
      case rel =>
        refine ⟨k + 1, ps ++ [(x, .slice au x.p.ls.length ku)], a2, c2, HXV.out.2.2, rfl, by go_num, by rw [List.length_append, HPS.out.1, List.length_singleton], ?_, H8.out⟩
        rw [List.map_append, HPS.out.2, List.take_succ_eq_append_getElem HXV.out.2.1, ← HXV.out.1]; simp
      case measure => have := HXV.out.2.2; simp [intOf]; omega
    · have hd : decide (k < n) = false := decide_eq_false hkn
      have hn := HN.out
      have hkx : xs.take k = xs := List.take_of_length_le (by omega)
      rw [hkx] at hps
      have HF := Lib.hid (And.intro hps hs)
      clear hps hs hpl hk hkn hn hkx
      go_wp2_with fail
      go_ret
      exact ⟨_, rfl, ps, HF.out.1, HF.out.2⟩
theorem lcopy_any {w0 w : World} {L : List Thing} (a : Option Addr) (c n : Nat) (xs : List (EnM × Value)) (h : Sep w0 L w) (hv : EnS w (.slice a n c) xs) (hn : xs.length = n) (hl : n ≤ 1000000) (hls : ∀ x ∈ xs, x.1.p.ls.length ≤ 1000) :
    Calls Tryd.prog 47 #[.slice a n c, .func (.func 42) #[] #[]] w fun e w' => ∃ (u : Value) (ps : List (EnM × Value)), e = .returned u ∧ ps.map (·.1) = xs.map (·.1) ∧ Sep w0 (EnT u ps :: L) w' := by
  subst hn
  exact (lcopy_w a c xs hv hl hls).mono fun e w' ⟨u, ps, h1, h2, h3⟩ => ⟨u, ps, h1, h2, h.onto1 h3⟩
theorem pnew_any {w0 w : World} {L : List Thing} (b : Int) (h : Sep w0 L w) (h0 : 0 ≤ b) (h1 : b ≤ 9007199254740991) :
    Calls Tryd.prog 9 #[.int .i64 b] w fun e w' => ∃ g, e = .returned (.tuple #[.pointer (some ⟨g, 0, none⟩), .int .i64 0]) ∧ Sep w0 (PipeT g b [] :: L) w' := by
  have d0 : decide (b < 0) = false := decide_eq_false (by omega)
  have d1 : decide (9007199254740991 < b) = false := decide_eq_false (by omega)
  have H := Lib.hid (Sep.pipeClose (Sep.sw2 (Sep.peNil (h.alloc (.cells #[.bool true, .int .i64 b, .slice none 0 0] 67)))))
  clear h h0 h1
  go_enter Tryd.func9, Tryd.ntmps9
  go_wp2_with fail
  go_ret2
  exact ⟨_, rfl, H.out⟩
theorem pnew_bad {w : World} (b : Int) (h : b < 0 ∨ 9007199254740991 < b) :
    Calls Tryd.prog 9 #[.int .i64 b] w fun e w' => e = .returned (.tuple #[.pointer none, .int .i64 2]) ∧ w = w' := by
  rcases h with h | h
  · have d0 : decide (b < 0) = true := decide_eq_true h
    clear h
    go_enter Tryd.func9, Tryd.ntmps9
    go_wp2_with fail
    go_ret2
    exact ⟨rfl, rfl⟩
  · have d0 : decide (b < 0) = false := decide_eq_false (by omega)
    have d1 : decide (9007199254740991 < b) = true := decide_eq_true (by omega)
    clear h
    go_enter Tryd.func9, Tryd.ntmps9
    go_wp2_with fail
    go_ret2
    exact ⟨rfl, rfl⟩
set_option maxRecDepth 100000 in
set_option maxHeartbeats 16000000 in
theorem append_bad {w0 w : World} {g : Nat} {b : Int} {ps : List (EnM × Value)} {L : List Thing} (x : EnM) (v : Value) (h : Sep w0 (PipeT g b ps :: L) w) (hv : ∀ wx, Sep w0 L wx → LnS wx v x.p.ls) (hk : KindsAt w0) (hx : x.ok = false) :
    Calls Tryd.prog 16 #[.pointer (some ⟨g, 0, none⟩), enV x v] w fun e w' => e = .returned (.tuple #[.int .i64 0, .int .i64 2]) ∧ Sep w0 (PipeT g b ps :: L) w' := by
  obtain ⟨pv, h2⟩ := h.pipeOpen
  obtain ⟨pa, pc, rfl, hpc, -⟩ := h2.sw2.peForm
  obtain ⟨va, vc, rfl⟩ := (hv _ h.drop).len
  have h3 := h2.alloc (.cells (enC x (.slice va x.p.ls.length vc)) 34)
  obtain ⟨b5, hb5⟩ : ∃ z, z = w.heap.size := ⟨_, rfl⟩
  obtain ⟨w3, hw3⟩ : ∃ z, z = w.alloc (.cells (enC x (.slice va x.p.ls.length vc)) 34) := ⟨_, rfl⟩
  rw [← hb5, ← hw3] at h3
  have HN := Lib.hid (pnone_c h3.sw2.pc)
  have hck := echeck_any x (.slice va x.p.ls.length vc) h3 (hv _ h3.drop.drop.drop) (hk.below h3.low)
  rw [hx] at hck
  have HCK := Lib.hid hck
  have HV := Lib.hid hv
  have HX := Lib.hid hx
  unfold enV eB at HCK
  simp only [if_true, if_false, Bool.false_eq_true] at HCK
  unfold enC at h3 hw3
  obtain ⟨d0, d1, d2, d3, d4, d5, d6⟩ := cells7 h3
  unfold enV
  clear h h2 h3 hck hv hk hx
  go_enter Tryd.func16, Tryd.ntmps16
  go_wp2_with fail
  rw [← hw3, ← hb5]
  clear hw3 hb5
  refine HN.out.mono ?_
  rintro r0 w1 ⟨rfl, rfl⟩
  clear HN
  go_wp2_with fail
  refine HCK.out.mono ?_
  rintro r0 w4 ⟨rfl, h4⟩
  have H4 := Lib.hid h4.drop.pipeClose
  clear h4 HCK
  go_wp2_with fail
  go_ret2
  exact ⟨rfl, H4.out⟩
set_option maxRecDepth 100000 in
set_option maxHeartbeats 16000000 in
theorem append_full {w0 w : World} {g : Nat} {b : Int} {ps : List (EnM × Value)} {L : List Thing} (x : EnM) (v : Value) (h : Sep w0 (PipeT g b ps :: L) w) (hv : ∀ wx, Sep w0 L wx → LnS wx v x.p.ls) (hk : KindsAt w0) (hx : x.ok = true) (hl : 24 ≤ ps.length) (hl2 : ps.length ≤ 1000000) :
    Calls Tryd.prog 16 #[.pointer (some ⟨g, 0, none⟩), enV x v] w fun e w' => e = .returned (.tuple #[.int .i64 0, .int .i64 5]) ∧ Sep w0 (PipeT g b ps :: L) w' := by
  obtain ⟨pv, h2⟩ := h.pipeOpen
  obtain ⟨pa, pc, rfl, hpc, -⟩ := h2.sw2.peForm
  obtain ⟨va, vc, rfl⟩ := (hv _ h.drop).len
  have h3 := h2.alloc (.cells (enC x (.slice va x.p.ls.length vc)) 34)
  obtain ⟨b5, hb5⟩ : ∃ z, z = w.heap.size := ⟨_, rfl⟩
  obtain ⟨w3, hw3⟩ : ∃ z, z = w.alloc (.cells (enC x (.slice va x.p.ls.length vc)) 34) := ⟨_, rfl⟩
  rw [← hb5, ← hw3] at h3
  have HN := Lib.hid (pnone_c h3.sw2.pc)
  have hck := echeck_any x (.slice va x.p.ls.length vc) h3 (hv _ h3.drop.drop.drop) (hk.below h3.low)
  rw [hx] at hck
  have HCK := Lib.hid hck
  have HV := Lib.hid hv
  have HX := Lib.hid hx
  unfold enV eB at HCK
  simp only [if_true, if_false, Bool.false_eq_true] at HCK
  unfold enC at h3 hw3
  obtain ⟨d0, d1, d2, d3, d4, d5, d6⟩ := cells7 h3
  unfold enV
  have dl : decide (24 ≤ (ps.length : Int)) = true := decide_eq_true (by omega)
  clear hl hl2 hpc
  clear h h2 h3 hck hv hk hx
  go_enter Tryd.func16, Tryd.ntmps16
  go_wp2_with fail
  rw [← hw3, ← hb5]
  clear hw3 hb5
  refine HN.out.mono ?_
  rintro r0 w1 ⟨rfl, rfl⟩
  clear HN
  go_wp2_with fail
  refine HCK.out.mono ?_
  rintro r0 w4 ⟨rfl, h4⟩
  obtain ⟨c0, c1, c2⟩ := cells3 h4.sw2
  have H4 := Lib.hid h4.drop.pipeClose
  clear h4 HCK
  go_wp2_with fail
  go_ret2
  exact ⟨rfl, H4.out⟩
set_option maxRecDepth 100000 in
set_option maxHeartbeats 16000000 in
theorem append_ok {w0 w : World} {g : Nat} {b : Int} {ps : List (EnM × Value)} {L : List Thing} (x : EnM) (v : Value) (h : Sep w0 (PipeT g b ps :: L) w) (hv : ∀ wx, Sep w0 L wx → LnS wx v x.p.ls) (hk : KindsAt w0) (hx : x.ok = true) (h0 : 0 ≤ b) (h1 : b ≤ 4611686018427380000) (hl : ps.length < 24) :
    Calls Tryd.prog 16 #[.pointer (some ⟨g, 0, none⟩), enV x v] w fun e w' => ∃ u, e = .returned (.tuple #[.int .i64 (b + (ps.length + 1 : Nat)), .int .i64 0]) ∧ Sep w0 (PipeT g b (ps ++ [(x, u)]) :: L) w' := by
  obtain ⟨pv, h2⟩ := h.pipeOpen
  obtain ⟨pa, pc, rfl, hpc, -⟩ := h2.sw2.peForm
  obtain ⟨va, vc, rfl⟩ := (hv _ h.drop).len
  have h3 := h2.alloc (.cells (enC x (.slice va x.p.ls.length vc)) 34)
  obtain ⟨b5, hb5⟩ : ∃ z, z = w.heap.size := ⟨_, rfl⟩
  obtain ⟨w3, hw3⟩ : ∃ z, z = w.alloc (.cells (enC x (.slice va x.p.ls.length vc)) 34) := ⟨_, rfl⟩
  rw [← hb5, ← hw3] at h3
  have HN := Lib.hid (pnone_c h3.sw2.pc)
  have hck := echeck_any x (.slice va x.p.ls.length vc) h3 (hv _ h3.drop.drop.drop) (hk.below h3.low)
  rw [hx] at hck
  have HCK := Lib.hid hck
  have HV := Lib.hid hv
  have HX := Lib.hid hx
  unfold enV eB at HCK
  simp only [if_true, if_false, Bool.false_eq_true] at HCK
  unfold enC at h3 hw3
  obtain ⟨d0, d1, d2, d3, d4, d5, d6⟩ := cells7 h3
  unfold enV
  have dl : decide (24 ≤ (ps.length : Int)) = false := decide_eq_false (by omega)
  have HB := Lib.hid (And.intro h0 (And.intro h1 hl))
  clear h0 h1 hl hpc
  clear h h2 h3 hck hv hk hx
  go_enter Tryd.func16, Tryd.ntmps16
  go_wp2_with fail
  rw [← hw3, ← hb5]
  clear hw3 hb5
  refine HN.out.mono ?_
  rintro r0 w1 ⟨rfl, rfl⟩
  clear HN
  go_wp2_with fail
  refine HCK.out.mono ?_
  rintro r0 w4 ⟨rfl, h4⟩
  obtain ⟨c0, c1, c2⟩ := cells3 h4.sw2
  have HCP := Lib.hid (ecopy_any x (.slice va x.p.ls.length vc) h4.drew (HV.out _ h4.drew.drop.drop.drop) (by have := ok_len (EnM.parts HX.out).2; omega))
  unfold enV at HCP
  obtain ⟨d0, d1, d2, d3, d4, d5, d6⟩ := cells7 h4
  clear h4 HCK
  go_wp2_with fail
  refine wp_region_G (fun w' => w'.cell? ⟨g, 2, none⟩ = some (.slice pa ps.length pc) ∧ w'.cell? ⟨b5, 0, none⟩ = some (.int .i64 x.c) ∧ w'.cell? ⟨b5, 1, none⟩ = some (.int .i64 x.m) ∧ w'.cell? ⟨b5, 2, none⟩ = some (.int .i64 x.p.k) ∧ w'.cell? ⟨b5, 3, none⟩ = some (.string x.p.s.1) ∧ w'.cell? ⟨b5, 4, none⟩ = some (.int .i64 x.p.o) ∧ w'.cell? ⟨b5, 5, none⟩ = some (.int .i64 x.p.n) ∧ w'.cell? ⟨b5, 6, none⟩ = some (.slice va x.p.ls.length vc)) [11] (by kernel_rfl) ⟨c2, d0, d1, d2, d3, d4, d5, d6⟩ (fun hS => ?_)
  try dsimp only at hS
  refine wpAnyG_take' (i := 0) (v := ?v0_1ap) rfl (by kernel_rfl) (by kernel_rfl) (by kernel_rfl) (by kernel_rfl) (fun _ _ _ h => h) (Or.inl ⟨by rfl, ?hy0_1ap⟩) hS ?rest0_1ap
  case hy0_1ap => intro w hSw; (try dsimp only at hSw); go_simp; (try with_reducible rfl)
  case rest0_1ap =>
  try simp only [List.getElem_toArray, List.getElem_cons_succ, List.getElem_cons_zero, Act.put, List.setIfInBounds_toArray, List.set_cons_zero, List.set_cons_succ]
  refine wpAnyG_take' (i := 1) (v := ?v1_2ap) rfl (by kernel_rfl) (by kernel_rfl) (by kernel_rfl) (by kernel_rfl) (fun _ _ _ h => h) (Or.inl ⟨by rfl, ?hy1_2ap⟩) hS ?rest1_2ap
  case hy1_2ap => intro w hSw; (try dsimp only at hSw); go_simp; (try with_reducible rfl)
  case rest1_2ap =>
  try simp only [List.getElem_toArray, List.getElem_cons_succ, List.getElem_cons_zero, Act.put, List.setIfInBounds_toArray, List.set_cons_zero, List.set_cons_succ]
  refine wpAnyG_take' (i := 2) (v := ?v2_3ap) rfl (by kernel_rfl) (by kernel_rfl) (by kernel_rfl) (by kernel_rfl) (fun _ _ _ h => h) (Or.inl ⟨by rfl, ?hy2_3ap⟩) hS ?rest2_3ap
  case hy2_3ap => intro w hSw; (try dsimp only at hSw); go_simp; (try with_reducible rfl)
  case rest2_3ap =>
  try simp only [List.getElem_toArray, List.getElem_cons_succ, List.getElem_cons_zero, Act.put, List.setIfInBounds_toArray, List.set_cons_zero, List.set_cons_succ]
  refine wpAnyG_take' (i := 3) (v := ?v3_4ap) rfl (by kernel_rfl) (by kernel_rfl) (by kernel_rfl) (by kernel_rfl) (fun _ _ _ h => h) (Or.inl ⟨by rfl, ?hy3_4ap⟩) hS ?rest3_4ap
  case hy3_4ap => intro w hSw; (try dsimp only at hSw); go_simp; (try with_reducible rfl)
  case rest3_4ap =>
  try simp only [List.getElem_toArray, List.getElem_cons_succ, List.getElem_cons_zero, Act.put, List.setIfInBounds_toArray, List.set_cons_zero, List.set_cons_succ]
  refine wpAnyG_take' (i := 4) (v := ?v4_5ap) rfl (by kernel_rfl) (by kernel_rfl) (by kernel_rfl) (by kernel_rfl) (fun _ _ _ h => h) (Or.inl ⟨by rfl, ?hy4_5ap⟩) hS ?rest4_5ap
  case hy4_5ap => intro w hSw; (try dsimp only at hSw); go_simp; (try with_reducible rfl)
  case rest4_5ap =>
  try simp only [List.getElem_toArray, List.getElem_cons_succ, List.getElem_cons_zero, Act.put, List.setIfInBounds_toArray, List.set_cons_zero, List.set_cons_succ]
  refine wpAnyG_take' (i := 5) (v := ?v5_6ap) rfl (by kernel_rfl) (by kernel_rfl) (by kernel_rfl) (by kernel_rfl) (fun _ _ _ h => h) (Or.inl ⟨by rfl, ?hy5_6ap⟩) hS ?rest5_6ap
  case hy5_6ap => intro w hSw; (try dsimp only at hSw); go_simp; (try with_reducible rfl)
  case rest5_6ap =>
  try simp only [List.getElem_toArray, List.getElem_cons_succ, List.getElem_cons_zero, Act.put, List.setIfInBounds_toArray, List.set_cons_zero, List.set_cons_succ]
  refine wpAnyG_one (i := 6) (by kernel_rfl) rfl (fun K hK => ?_)
  go_simp
  refine Calls.mono HCP.out ?_
  rintro r6 w6 ⟨u, rfl, h6⟩
  obtain ⟨au, ku, rfl, -⟩ := h6.rnForm
  clear c0 c1 c2 d0 d1 d2 d3 d4 d5 d6 HCP
  obtain ⟨c0, c1, c2⟩ := cells3 h6.sw3
  obtain ⟨d0, d1, d2, d3, d4, d5, d6⟩ := cells7 h6.sw2
  have h7 := h6.alloc (.cells (enC x (.slice au x.p.ls.length ku)) 34)
  obtain ⟨a9, c9, w9, hr, h9⟩ := append_pe (ty := 35) (h7.pickL (M := [_, _, _, _, _]) [0, 4, 1, 3, 2] rfl : Sep w0 (Cl w6.heap.size (enC x (.slice au x.p.ls.length ku)) 34 :: PeT (.slice pa ps.length pc) ps :: LnR (.slice au x.p.ls.length ku) x.p.ls :: _ :: _ :: L) _) rfl (by have := HB.out.2.2; omega)
  unfold enC at h7 hr
  have HAP := Lib.hid hr
  obtain ⟨y0, y1, y2⟩ := cells3 h7.sw4
  obtain ⟨z0, z1, z2, z3, z4, z5, z6⟩ := cells7 h7.sw3
  unfold enC at h9
  obtain ⟨x0, x1, x2⟩ := cells3 h9.sw2
  obtain ⟨f0, f1, f2, -⟩ := frz7 h9.sw2
  obtain ⟨k0, k1, k2, k3, k4, k5, k6⟩ := cells7 h9.sw3
  clear h6 h7 hr
  have H9 := Lib.hid h9
  clear h9
  go_wp2_with fail
  refine hK.out _ _ (fun _ => ?hS7ap) ?rest7ap
  case hS7ap => exact ⟨c2, d0, d1, d2, d3, d4, d5, d6⟩
  clear K hK
  try simp only [List.getElem_toArray, List.getElem_cons_succ, List.getElem_cons_zero, Act.put, List.setIfInBounds_toArray, List.set_cons_zero, List.set_cons_succ]
  refine wpAnyG_one (i := 7) (by kernel_rfl) rfl (fun K hK => ?_)
  go_simp
  refine hK.out _ _ (fun _ => ?hS8ap) ?rest8ap
  case hS8ap => exact ⟨y2, z0, z1, z2, z3, z4, z5, z6⟩
  clear K hK
  try simp only [List.getElem_toArray, List.getElem_cons_succ, List.getElem_cons_zero, Act.put, List.setIfInBounds_toArray, List.set_cons_zero, List.set_cons_succ]
  refine wpAnyG_one (i := 8) (by kernel_rfl) rfl (fun K hK => ?_)
  refine step_append_run (by rfl) (.tmp 24) (.tmp 27) 35 35 (by rfl) _ _ (by rfl) (by rfl) HAP.out ?_
  refine hK.out _ _ (fun _ => ?hS9ap) ?rest9ap
  case hS9ap => exact ⟨x2, k0, k1, k2, k3, k4, k5, k6⟩
  clear K hK
  try simp only [List.getElem_toArray, List.getElem_cons_succ, List.getElem_cons_zero, Act.put, List.setIfInBounds_toArray, List.set_cons_zero, List.set_cons_succ]
  refine wpAnyG_take' (i := 9) (v := ?v9_10ap) rfl (by kernel_rfl) (by kernel_rfl) (by kernel_rfl) (by kernel_rfl) (fun _ _ _ h => h) (Or.inl ⟨by rfl, ?hy9_10ap⟩) ⟨x2, k0, k1, k2, k3, k4, k5, k6⟩ ?rest9_10ap
  case hy9_10ap => intro w hSw; (try dsimp only at hSw); go_simp; (try with_reducible rfl)
  case rest9_10ap =>
  try simp only [List.getElem_toArray, List.getElem_cons_succ, List.getElem_cons_zero, Act.put, List.setIfInBounds_toArray, List.set_cons_zero, List.set_cons_succ]
  refine wpAnyG_take' (i := 10) (v := ?v10_11ap) rfl (by kernel_rfl) (by kernel_rfl) (by kernel_rfl) (by kernel_rfl) (fun _ _ _ h => h) (Or.inl ⟨by rfl, ?hy10_11ap⟩) ⟨x2, k0, k1, k2, k3, k4, k5, k6⟩ ?rest10_11ap
  case hy10_11ap => intro w hSw; (try dsimp only at hSw); go_simp; (try with_reducible rfl)
  case rest10_11ap =>
  try simp only [List.getElem_toArray, List.getElem_cons_succ, List.getElem_cons_zero, Act.put, List.setIfInBounds_toArray, List.set_cons_zero, List.set_cons_succ]
  refine wpAnyG_one (i := 11) (by kernel_rfl) rfl (fun K hK => ?_)
  go_simp
  refine hK.out _ _ (fun hno => by cases hno) ?_
  clear K hK
  try simp only [List.getElem_toArray, List.getElem_cons_succ, List.getElem_cons_zero, Act.put, List.setIfInBounds_toArray, List.set_cons_zero, List.set_cons_succ]
  refine wpAnyG_done (by kernel_rfl) ?_ _
  try simp only [List.getElem_toArray, List.getElem_cons_succ, List.getElem_cons_zero, Act.put, List.setIfInBounds_toArray, List.set_cons_zero, List.set_cons_succ]
  have h10 := (H9.out.sw2.set7 (o := 2) (u := .slice a9 (ps.length + 1) c9) (ys := #[.bool true, .int .i64 b, .slice a9 (ps.length + 1) c9]) rfl)
  have HT := Lib.hid (top_c h10.pc HB.out.1 (by have := HB.out; omega) (by have := HB.out; omega))
  have H10 := Lib.hid h10
  clear h10 H9 x0 x1 x2 k0 k1 k2 k3 k4 k5 k6 f0 f1 f2 y0 y1 y2 z0 z1 z2 z3 z4 z5 z6 c0 c1 c2 d0 d1 d2 d3 d4 d5 d6 hS
  go_wp2_with fail
  refine HT.out.mono ?_
  rintro r0 w11 ⟨rfl, kk, rfl⟩
  go_wp2_with fail
  go_ret2
  exact ⟨_, rfl, Sep.drewN (Sep.pipeClose (H10.out.pickL (M := [_, _, _]) [0, 1] rfl)) _⟩
end Go.Proofs.YtpknfeokfladkaaDoor
