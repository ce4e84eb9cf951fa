/- The document's pipe. -/
import Derived.Test.YtpknfeokfladkaaDoorPipe12
namespace Go.Proofs.YtpknfeokfladkaaDoor
open Go.RowKit
set_option linter.unusedVariables false
set_option linter.unusedSimpArgs false
def DocT (g : Nat) (b : Int) (ps : List (EnM × Value)) : Thing := Ex fun v => Both (Cl g #[.int .i64 b, v] 69) (EnT v ps)
theorem loc_doc0 (g : Nat) (b : Int) (ps : List (EnM × Value)) (v : Value) : Loc (Both (Cl g #[.int .i64 b, v] 69) (EnT v ps)) := loc_both (loc_blk _ _) (loc_enT _ _)
theorem Sep.docOpen {w0 w : World} {g : Nat} {b : Int} {ps : List (EnM × Value)} {L : List Thing} (h : Sep w0 (DocT g b ps :: L) w) : ∃ v, Sep w0 (Cl g #[.int .i64 b, v] 69 :: EnT v ps :: L) w := by
  obtain ⟨v, h1⟩ := h.ex (loc_doc0 g b ps)
  exact ⟨v, h1.both (loc_blk _ _) (loc_enT _ _)⟩
theorem Sep.docClose {w0 w : World} {g : Nat} {b : Int} {v : Value} {ps : List (EnM × Value)} {L : List Thing} (h : Sep w0 (Cl g #[.int .i64 b, v] 69 :: EnT v ps :: L) w) : Sep w0 (DocT g b ps :: L) w := Sep.give (A := fun v => Both (Cl g #[.int .i64 b, v] 69) (EnT v ps)) v h.join (loc_doc0 g b ps)
theorem cells2 {w0 w : World} {b : Nat} {v0 v1 : Value} {t : TypeId} {L : List Thing} (h : Sep w0 (Cl b #[v0, v1] t :: L) w) : w.cell? ⟨b, 0, none⟩ = some v0 ∧ w.cell? ⟨b, 1, none⟩ = some v1 := ⟨h.cell rfl, h.cell rfl⟩
theorem ens_sub {w : World} {a : Option Addr} {n c : Nat} {ps : List (EnM × Value)} (i j m : Nat) (h : EnS w (.slice a n c) ps) (hn : ps.length = n) (hij : i ≤ j) (hj : j ≤ n) (hjm : j ≤ m) (hmc : m ≤ c) :
    EnS w (.slice (if m = i then a else a.map (·.add (i * 7))) (j - i) (m - i)) ((ps.drop i).take (j - i)) := by
  subst hn
  have hlen : ((ps.drop i).take (j - i)).length = j - i := by rw [List.length_take, List.length_drop]; omega
  rcases h with ⟨a', c', h1, rfl⟩ | ⟨b, off, c', h1, h2, h3, h4, h5⟩
  · simp at hj
    subst hj
    obtain rfl : i = 0 := by omega
    exact .inl ⟨_, _, rfl, by simp⟩
  · simp only [Value.slice.injEq] at h1
    obtain ⟨rfl, -, rfl⟩ := h1
    by_cases hmi : m = i
    · rw [if_pos hmi]
      have : j - i = 0 := by omega
      rw [this]
      exact .inl ⟨_, _, rfl, by simp⟩
    · rw [if_neg hmi]
      refine .inr ⟨b, off + i * 7, m - i, ?_, by rw [hlen]; omega, by omega, h4, fun k hk => ?_⟩
      · rw [hlen]
        show Value.slice (some ((⟨b, off, none⟩ : Addr).add (i * 7))) _ _ = _
        rw [addr_add]
      · rw [hlen] at hk
        have h6 := h5 (i + k) (by omega)
        rw [List.getElem_take, List.getElem_drop]
        rw [show off + i * 7 + k * 7 = off + (i + k) * 7 by omega]
        exact h6
set_option maxHeartbeats 4000000 in
theorem rtop_c {w : World} {g n c : Nat} {b : Int} {a : Option Addr} (c0 : w.cell? ⟨g, 0, none⟩ = some (.int .i64 b)) (c1 : w.cell? ⟨g, 1, none⟩ = some (.slice a n c)) (h0 : 0 ≤ b) (h1 : b ≤ 4611686018427387904) (h2 : n ≤ 1000000) :
    Calls Tryd.prog 39 #[.pointer (some ⟨g, 0, none⟩)] w fun e w' => e = .returned (.int .i64 (b + n)) ∧ ∃ k, w' = w.drewN k := by
  have hw : IntKind.i64.wrap (b + (n : Int)) = b + n := IntWalk.i64_in _ (by omega)
  clear h0 h1 h2
  go_enter Tryd.func39, Tryd.ntmps39
  go_wp2_with fail
  go_quiet (fail)
  go_wp2
  go_ret
  exact ⟨rfl, nq, rfl⟩
theorem rnew_any {w0 w : World} {L : List Thing} (b : Int) (h : Sep w0 L w) (h0 : 0 ≤ b) (h1 : b ≤ 9007199254740991) :
    Calls Tryd.prog 10 #[.int .i64 b] w fun e w' => ∃ g, e = .returned (.tuple #[.pointer (some ⟨g, 0, none⟩), .int .i64 0]) ∧ Sep w0 (DocT g b [] :: L) w' := by
  have d0 : decide (b < 0) = false := decide_eq_false (by omega)
  have d1 : decide (9007199254740991 < b) = false := decide_eq_false (by omega)
  have H := Lib.hid (Sep.docClose (Sep.sw2 (Sep.enNil (h.alloc (.cells #[.int .i64 b, .slice none 0 0] 69)))))
  clear h h0 h1
  go_enter Tryd.func10, Tryd.ntmps10
  go_wp2_with fail
  go_ret2
  exact ⟨_, rfl, H.out⟩
theorem rnew_bad {w : World} (b : Int) (h : b < 0 ∨ 9007199254740991 < b) :
    Calls Tryd.prog 10 #[.int .i64 b] w fun e w' => e = .returned (.tuple #[.pointer none, .int .i64 2]) ∧ w = w' := by
  rcases h with h | h
  · have d0 : decide (b < 0) = true := decide_eq_true h
    clear h
    go_enter Tryd.func10, Tryd.ntmps10
    go_wp2_with fail
    go_ret2
    exact ⟨rfl, rfl⟩
  · have d0 : decide (b < 0) = false := decide_eq_false (by omega)
    have d1 : decide (9007199254740991 < b) = true := decide_eq_true (by omega)
    clear h
    go_enter Tryd.func10, Tryd.ntmps10
    go_wp2_with fail
    go_ret2
    exact ⟨rfl, rfl⟩
set_option maxRecDepth 100000 in
set_option maxHeartbeats 8000000 in
theorem copyrow_w {w : World} (a : Option Addr) (c : Nat) (xs : List (EnM × Value)) (hv : EnS w (.slice a xs.length c) xs) (hl : xs.length ≤ 1000000) (hls : ∀ x ∈ xs, x.1.p.ls.length ≤ 1000) :
    Calls Tryd.prog 19 #[.slice a xs.length c] w fun e w' => ∃ (u : Value) (ps : List (EnM × Value)), e = .returned u ∧ ps.map (·.1) = xs.map (·.1) ∧ Sep w [EnT u ps] w' := by
  have H1 := Lib.hid (Sep.start w).enNil
  have HX := Lib.hid hv
  have HLS := Lib.hid hls
  have n0 : (0 : Int) ≤ (xs.length : Int) := by omega
  have n1 : (xs.length : Int) ≤ 1000000 := by omega
  clear hv hls hl
  obtain ⟨n, hn⟩ : ∃ n, n = xs.length := ⟨_, rfl⟩
  rw [← hn] at HX n0 n1 ⊢
  have HN := Lib.hid hn
  clear hn
  go_enter Tryd.func19, Tryd.ntmps19
  go_wp2_with fail
  go_loopw [3, 4] (fun pv i wr => ∃ (k : Nat) (ps : List (EnM × Value)) (av : Option Addr) (cv : Nat), k ≤ n ∧ pv = .slice av k cv ∧ i = .int .i64 k ∧ ps.length = k ∧ ps.map (·.1) = (xs.take k).map (·.1) ∧ Sep w [EnT (.slice av k cv) ps] wr) (fun _ i _ => n - (intOf i).toNat)
  case atStart => exact ⟨0, [], none, 0, Nat.zero_le _, rfl, rfl, rfl, rfl, H1.out⟩
  case round =>
    obtain ⟨k, ps, av, cv, hk, rfl, rfl, hpl, hps, hs⟩ := hrel
    clear H1
    have k0 : (0 : Int) ≤ (k : Int) := by omega
    by_cases hkn : k < n
    · have hkx : k < xs.length := by have := HN.out; omega
      have hd : decide (k < n) = true := decide_eq_true hkn
      have k1 : (k : Int) < (n : Int) := by omega
      obtain ⟨bx, off, rfl, -, hnc, -, ⟨e0, e1, e2, e3, e4, e5, e6⟩, hln⟩ := (HX.out.below hs.low).at hkx
      have hxl := HLS.out _ (List.getElem_mem hkx)
      obtain ⟨⟨x, v⟩, hxv⟩ : ∃ z, z = xs[k] := ⟨_, rfl⟩
      rw [← hxv] at e0 e1 e2 e3 e4 e5 e6 hln hxl
      dsimp only at e0 e1 e2 e3 e4 e5 e6 hln hxl
      obtain ⟨av', kv, rfl⟩ := hln.len
      have HB := Lib.hid (recopy_any x (.slice av' x.p.ls.length kv) hs hln hxl)
      unfold enV at HB
      have HXV := Lib.hid (And.intro hxv (And.intro hkx hkn))
      have HPS := Lib.hid (And.intro hpl hps)
      clear hs hln hxv hpl hps hk hkn hxl
      go_wp2_with fail
      refine HB.out.mono ?_
      rintro r0 w5 ⟨u, rfl, h5⟩
      obtain ⟨au, ku, rfl, -⟩ := h5.rnForm
      have h6 := h5.alloc (.cells (enC x (.slice au x.p.ls.length ku)) 34)
      obtain ⟨a2, c2, w8, hr, h8⟩ := append_en (ty := 35) (h6.pick [0, 2, 1] rfl : Sep w [Cl w5.heap.size (enC x (.slice au x.p.ls.length ku)) 34, EnT (.slice av k cv) ps, LnR (.slice au x.p.ls.length ku) x.p.ls] _) rfl (by rw [HPS.out.1]; omega)
      rw [HPS.out.1] at hr h8
      unfold enC at hr
      have HAP := Lib.hid hr
      have H8 := Lib.hid h8
      clear HB h5 h6 hr h8 e0 e1 e2 e3 e4 e5 e6
      go_wp2_with (at_builtin; refine wpList_append_run rfl _ _ _ _ rfl rfl rfl HAP.out ?_)
      go_roundw
      case rel =>
        refine ⟨k + 1, ps ++ [(x, .slice au x.p.ls.length ku)], a2, c2, HXV.out.2.2, rfl, by go_num, by rw [List.length_append, HPS.out.1, List.length_singleton], ?_, H8.out⟩
        rw [List.map_append, HPS.out.2, List.take_succ_eq_append_getElem HXV.out.2.1, ← HXV.out.1]; simp
      case measure => have := HXV.out.2.2; simp [intOf]; omega
    · have hd : decide (k < n) = false := decide_eq_false hkn
      have hn := HN.out
      have hkx : xs.take k = xs := List.take_of_length_le (by omega)
      rw [hkx] at hps
      have HF := Lib.hid (And.intro hps hs)
      clear hps hs hpl hk hkn hn hkx
      go_wp2_with fail
      go_ret
      exact ⟨_, rfl, ps, HF.out.1, HF.out.2⟩
theorem copyrow_any {w0 w : World} {L : List Thing} (a : Option Addr) (c n : Nat) (xs : List (EnM × Value)) (h : Sep w0 L w) (hv : EnS w (.slice a n c) xs) (hn : xs.length = n) (hl : n ≤ 1000000) (hls : ∀ x ∈ xs, x.1.p.ls.length ≤ 1000) :
    Calls Tryd.prog 19 #[.slice a n c] w fun e w' => ∃ (u : Value) (ps : List (EnM × Value)), e = .returned u ∧ ps.map (·.1) = xs.map (·.1) ∧ Sep w0 (EnT u ps :: L) w' := by
  subst hn
  exact (copyrow_w a c xs hv hl hls).mono fun e w' ⟨u, ps, h1, h2, h3⟩ => ⟨u, ps, h1, h2, h.onto1 h3⟩
set_option maxRecDepth 100000 in
set_option maxHeartbeats 16000000 in
theorem rappend_bad {w0 w : World} {g : Nat} {b : Int} {ps : List (EnM × Value)} {L : List Thing} (x : EnM) (v : Value) (h : Sep w0 (DocT g b ps :: L) w) (hv : ∀ wx, Sep w0 L wx → LnS wx v x.p.ls) (hx : x.ok = false) :
    Calls Tryd.prog 17 #[.pointer (some ⟨g, 0, none⟩), enV x v] w fun e w' => e = .returned (.tuple #[.int .i64 0, .int .i64 2]) ∧ Sep w0 (DocT g b ps :: L) w' := by
  obtain ⟨pv, h2⟩ := h.docOpen
  obtain ⟨pa, pc, rfl, hpc, -⟩ := h2.sw2.enForm
  obtain ⟨va, vc, rfl⟩ := (hv _ h.drop).len
  have h3 := h2.alloc (.cells (enC x (.slice va x.p.ls.length vc)) 34)
  obtain ⟨b5, hb5⟩ : ∃ z, z = w.heap.size := ⟨_, rfl⟩
  obtain ⟨w3, hw3⟩ : ∃ z, z = w.alloc (.cells (enC x (.slice va x.p.ls.length vc)) 34) := ⟨_, rfl⟩
  rw [← hb5, ← hw3] at h3
  have hck := recheck_any x (.slice va x.p.ls.length vc) h3 (hv _ h3.drop.drop.drop) (lns_maxl (hv _ h3.drop.drop.drop))
  rw [hx] at hck
  have HCK := Lib.hid hck
  have HV := Lib.hid hv
  have HX := Lib.hid hx
  unfold enV eB at HCK
  simp only [if_true, if_false, Bool.false_eq_true] at HCK
  unfold enC at h3 hw3
  obtain ⟨d0, d1, d2, d3, d4, d5, d6⟩ := cells7 h3
  unfold enV
  clear h h2 h3 hck hv hx
  go_enter Tryd.func17, Tryd.ntmps17
  go_wp2_with fail
  rw [← hw3, ← hb5]
  clear hw3 hb5
  refine HCK.out.mono ?_
  rintro r0 w4 ⟨rfl, h4⟩
  have H4 := Lib.hid h4.drop.docClose
  clear h4 HCK
  go_wp2_with fail
  go_ret2
  exact ⟨rfl, H4.out⟩
set_option maxRecDepth 100000 in
set_option maxHeartbeats 16000000 in
theorem rappend_full {w0 w : World} {g : Nat} {b : Int} {ps : List (EnM × Value)} {L : List Thing} (x : EnM) (v : Value) (h : Sep w0 (DocT g b ps :: L) w) (hv : ∀ wx, Sep w0 L wx → LnS wx v x.p.ls) (hx : x.ok = true) (hl : ps.length = 24) :
    Calls Tryd.prog 17 #[.pointer (some ⟨g, 0, none⟩), enV x v] w fun e w' => e = .returned (.tuple #[.int .i64 0, .int .i64 5]) ∧ Sep w0 (DocT g b ps :: L) w' := by
  obtain ⟨pv, h2⟩ := h.docOpen
  obtain ⟨pa, pc, rfl, hpc, -⟩ := h2.sw2.enForm
  obtain ⟨va, vc, rfl⟩ := (hv _ h.drop).len
  have h3 := h2.alloc (.cells (enC x (.slice va x.p.ls.length vc)) 34)
  obtain ⟨b5, hb5⟩ : ∃ z, z = w.heap.size := ⟨_, rfl⟩
  obtain ⟨w3, hw3⟩ : ∃ z, z = w.alloc (.cells (enC x (.slice va x.p.ls.length vc)) 34) := ⟨_, rfl⟩
  rw [← hb5, ← hw3] at h3
  have hck := recheck_any x (.slice va x.p.ls.length vc) h3 (hv _ h3.drop.drop.drop) (lns_maxl (hv _ h3.drop.drop.drop))
  rw [hx] at hck
  have HCK := Lib.hid hck
  have HV := Lib.hid hv
  have HX := Lib.hid hx
  unfold enV eB at HCK
  simp only [if_true, if_false, Bool.false_eq_true] at HCK
  unfold enC at h3 hw3
  obtain ⟨d0, d1, d2, d3, d4, d5, d6⟩ := cells7 h3
  unfold enV
  have dl : ((ps.length : Int) == 24) = true := beq_iff_eq.2 (by omega)
  have dl2 : (ps.length == 24) = true := beq_iff_eq.2 hl
  clear hl hpc
  clear h h2 h3 hck hv hx
  go_enter Tryd.func17, Tryd.ntmps17
  go_wp2_with fail
  rw [← hw3, ← hb5]
  clear hw3 hb5
  refine HCK.out.mono ?_
  rintro r0 w4 ⟨rfl, h4⟩
  obtain ⟨c0, c1⟩ := cells2 h4.sw2
  have H4 := Lib.hid h4.drop.docClose
  clear h4 HCK
  go_wp2_with fail
  go_ret2
  exact ⟨rfl, H4.out⟩
set_option maxRecDepth 100000 in
set_option maxHeartbeats 16000000 in
theorem rappend_ok {w0 w : World} {g : Nat} {b : Int} {ps : List (EnM × Value)} {L : List Thing} (x : EnM) (v : Value) (h : Sep w0 (DocT g b ps :: L) w) (hv : ∀ wx, Sep w0 L wx → LnS wx v x.p.ls) (hx : x.ok = true) (h0 : 0 ≤ b) (h1 : b ≤ 4611686018427380000) (hl : ps.length < 24) (hls : ∀ q ∈ ps, q.1.p.ls.length ≤ 1000) :
    Calls Tryd.prog 17 #[.pointer (some ⟨g, 0, none⟩), enV x v] w fun e w' => ∃ u qs, e = .returned (.tuple #[.int .i64 (b + (ps.length + 1 : Nat)), .int .i64 0]) ∧ qs.map (·.1) = ps.map (·.1) ∧ Sep w0 (DocT g b (qs ++ [(x, u)]) :: L) w' := by
  obtain ⟨pv, h2⟩ := h.docOpen
  obtain ⟨pa, pc, rfl, hpc, -⟩ := h2.sw2.enForm
  obtain ⟨va, vc, rfl⟩ := (hv _ h.drop).len
  have h3 := h2.alloc (.cells (enC x (.slice va x.p.ls.length vc)) 34)
  obtain ⟨b5, hb5⟩ : ∃ z, z = w.heap.size := ⟨_, rfl⟩
  obtain ⟨w3, hw3⟩ : ∃ z, z = w.alloc (.cells (enC x (.slice va x.p.ls.length vc)) 34) := ⟨_, rfl⟩
  rw [← hb5, ← hw3] at h3
  have hck := recheck_any x (.slice va x.p.ls.length vc) h3 (hv _ h3.drop.drop.drop) (lns_maxl (hv _ h3.drop.drop.drop))
  rw [hx] at hck
  have HCK := Lib.hid hck
  have HV := Lib.hid hv
  have HX := Lib.hid hx
  unfold enV eB at HCK
  simp only [if_true, if_false, Bool.false_eq_true] at HCK
  unfold enC at h3 hw3
  obtain ⟨d0, d1, d2, d3, d4, d5, d6⟩ := cells7 h3
  unfold enV
  have dl : ((ps.length : Int) == 24) = false := beq_eq_false_iff_ne.2 (by omega)
  have dl2 : (ps.length == 24) = false := beq_eq_false_iff_ne.2 (by omega)
  have HB := Lib.hid (And.intro h0 (And.intro h1 (And.intro hl hls)))
  clear h0 h1 hl hls hpc
  clear h h2 h3 hck hv hx
  go_enter Tryd.func17, Tryd.ntmps17
  go_wp2_with fail
  rw [← hw3, ← hb5]
  clear hw3 hb5
  refine HCK.out.mono ?_
  rintro r0 w4 ⟨rfl, h4⟩
  obtain ⟨c0, c1⟩ := cells2 h4.sw2
  have HCR := Lib.hid (copyrow_any pa pc ps.length ps h4.drew h4.drew.sw3.enS rfl (by have := HB.out; omega) HB.out.2.2.2)
  obtain ⟨d0, d1, d2, d3, d4, d5, d6⟩ := cells7 h4
  clear h4 HCK
  go_wp2_with fail
  refine wp_region_G (fun w' => w'.cell? ⟨g, 1, none⟩ = some (.slice pa ps.length pc) ∧ w'.cell? ⟨b5, 0, none⟩ = some (.int .i64 x.c) ∧ w'.cell? ⟨b5, 1, none⟩ = some (.int .i64 x.m) ∧ w'.cell? ⟨b5, 2, none⟩ = some (.int .i64 x.p.k) ∧ w'.cell? ⟨b5, 3, none⟩ = some (.string x.p.s.1) ∧ w'.cell? ⟨b5, 4, none⟩ = some (.int .i64 x.p.o) ∧ w'.cell? ⟨b5, 5, none⟩ = some (.int .i64 x.p.n) ∧ w'.cell? ⟨b5, 6, none⟩ = some (.slice va x.p.ls.length vc)) [12] (by kernel_rfl) ⟨c1, d0, d1, d2, d3, d4, d5, d6⟩ (fun hS => ?_)
  try dsimp only at hS
  refine wpAnyG_take' (i := 0) (v := ?v0_1ra) rfl (by kernel_rfl) (by kernel_rfl) (by kernel_rfl) (by kernel_rfl) (fun _ _ _ h => h) (Or.inl ⟨by rfl, ?hy0_1ra⟩) hS ?rest0_1ra
  case hy0_1ra => intro w hSw; (try dsimp only at hSw); go_simp; (try with_reducible rfl)
  case rest0_1ra =>
  try simp only [List.getElem_toArray, List.getElem_cons_succ, List.getElem_cons_zero, Act.put, List.setIfInBounds_toArray, List.set_cons_zero, List.set_cons_succ]
  refine wpAnyG_take' (i := 1) (v := ?v1_2ra) rfl (by kernel_rfl) (by kernel_rfl) (by kernel_rfl) (by kernel_rfl) (fun _ _ _ h => h) (Or.inl ⟨by rfl, ?hy1_2ra⟩) hS ?rest1_2ra
  case hy1_2ra => intro w hSw; (try dsimp only at hSw); go_simp; (try with_reducible rfl)
  case rest1_2ra =>
  try simp only [List.getElem_toArray, List.getElem_cons_succ, List.getElem_cons_zero, Act.put, List.setIfInBounds_toArray, List.set_cons_zero, List.set_cons_succ]
  refine wpAnyG_take' (i := 2) (v := ?v2_3ra) rfl (by kernel_rfl) (by kernel_rfl) (by kernel_rfl) (by kernel_rfl) (fun _ _ _ h => h) (Or.inl ⟨by rfl, ?hy2_3ra⟩) hS ?rest2_3ra
  case hy2_3ra => intro w hSw; (try dsimp only at hSw); go_simp; (try with_reducible rfl)
  case rest2_3ra =>
  try simp only [List.getElem_toArray, List.getElem_cons_succ, List.getElem_cons_zero, Act.put, List.setIfInBounds_toArray, List.set_cons_zero, List.set_cons_succ]
  refine wpAnyG_take' (i := 3) (v := ?v3_4ra) rfl (by kernel_rfl) (by kernel_rfl) (by kernel_rfl) (by kernel_rfl) (fun _ _ _ h => h) (Or.inl ⟨by rfl, ?hy3_4ra⟩) hS ?rest3_4ra
  case hy3_4ra => intro w hSw; (try dsimp only at hSw); go_simp; (try with_reducible rfl)
  case rest3_4ra =>
  try simp only [List.getElem_toArray, List.getElem_cons_succ, List.getElem_cons_zero, Act.put, List.setIfInBounds_toArray, List.set_cons_zero, List.set_cons_succ]
  refine wpAnyG_take' (i := 4) (v := ?v4_5ra) rfl (by kernel_rfl) (by kernel_rfl) (by kernel_rfl) (by kernel_rfl) (fun _ _ _ h => h) (Or.inl ⟨by rfl, ?hy4_5ra⟩) hS ?rest4_5ra
  case hy4_5ra => intro w hSw; (try dsimp only at hSw); go_simp; (try with_reducible rfl)
  case rest4_5ra =>
  try simp only [List.getElem_toArray, List.getElem_cons_succ, List.getElem_cons_zero, Act.put, List.setIfInBounds_toArray, List.set_cons_zero, List.set_cons_succ]
  refine wpAnyG_take' (i := 6) (v := ?v6_6ra) rfl (by kernel_rfl) (by kernel_rfl) (by kernel_rfl) (by kernel_rfl) (fun _ _ _ h => h) (Or.inl ⟨by rfl, ?hy6_6ra⟩) hS ?rest6_6ra
  case hy6_6ra => intro w hSw; (try dsimp only at hSw); go_simp; (try with_reducible rfl)
  case rest6_6ra =>
  try simp only [List.getElem_toArray, List.getElem_cons_succ, List.getElem_cons_zero, Act.put, List.setIfInBounds_toArray, List.set_cons_zero, List.set_cons_succ]
  refine wpAnyG_one (i := 5) (by kernel_rfl) rfl (fun K hK => ?_)
  go_simp
  refine Calls.mono HCR.out ?_
  rintro r5 w5 ⟨u5, qs, rfl, hqs, h5⟩
  have hql : qs.length = ps.length := by simpa using congrArg List.length hqs
  obtain ⟨a5, k5, rfl, -⟩ := h5.enForm
  rw [hql] at h5 ⊢
  clear c0 c1 d0 d1 d2 d3 d4 d5 d6 HCR
  obtain ⟨c0, c1⟩ := cells2 h5.sw3
  obtain ⟨d0, d1, d2, d3, d4, d5, d6⟩ := cells7 h5.sw2
  have HCP := Lib.hid (recopy_any x (.slice va x.p.ls.length vc) h5 (HV.out _ h5.drop.drop.drop.drop) (by have := ok_len (EnM.parts HX.out).2; omega))
  unfold enV at HCP
  have HQS := Lib.hid (And.intro hqs hql)
  clear h5 hqs hql
  go_wp2_with fail
  refine hK.out _ _ (fun _ => ?hS7ra) ?rest7ra
  case hS7ra => exact ⟨c1, d0, d1, d2, d3, d4, d5, d6⟩
  clear K hK
  try simp only [List.getElem_toArray, List.getElem_cons_succ, List.getElem_cons_zero, Act.put, List.setIfInBounds_toArray, List.set_cons_zero, List.set_cons_succ]
  refine wpAnyG_one (i := 7) (by kernel_rfl) rfl (fun K hK => ?_)
  go_simp
  refine Calls.mono HCP.out ?_
  rintro r7 w6 ⟨u, rfl, h6⟩
  obtain ⟨au, ku, rfl, -⟩ := h6.rnForm
  clear c0 c1 d0 d1 d2 d3 d4 d5 d6 HCP
  obtain ⟨c0, c1⟩ := cells2 h6.sw4
  obtain ⟨d0, d1, d2, d3, d4, d5, d6⟩ := cells7 h6.sw3
  have h7 := h6.alloc (.cells (enC x (.slice au x.p.ls.length ku)) 34)
  obtain ⟨a9, c9, w9, hr, h9⟩ := append_en (ty := 35) (h7.pickL (M := [_, _, _, _, _, _]) [0, 2, 1, 4, 3] rfl : Sep w0 (Cl w6.heap.size (enC x (.slice au x.p.ls.length ku)) 34 :: EnT (.slice a5 ps.length k5) qs :: LnR (.slice au x.p.ls.length ku) x.p.ls :: _ :: _ :: L) _) rfl (by rw [HQS.out.2]; have := HB.out.2.2.1; omega)
  rw [HQS.out.2] at hr h9
  unfold enC at h7 hr
  have HAP := Lib.hid hr
  obtain ⟨y0, y1⟩ := cells2 h7.sw5
  obtain ⟨z0, z1, z2, z3, z4, z5, z6⟩ := cells7 h7.sw4
  unfold enC at h9
  obtain ⟨x0, x1⟩ := cells2 h9.sw2
  obtain ⟨f0, f1, -⟩ := frz7 h9.sw2
  obtain ⟨k0, k1, k2, k3, k4, k5_, k6⟩ := cells7 h9.sw3
  clear h6 h7 hr
  have H9 := Lib.hid h9
  clear h9
  go_wp2_with fail
  refine hK.out _ _ (fun _ => ?hS8ra) ?rest8ra
  case hS8ra => exact ⟨c1, d0, d1, d2, d3, d4, d5, d6⟩
  clear K hK
  try simp only [List.getElem_toArray, List.getElem_cons_succ, List.getElem_cons_zero, Act.put, List.setIfInBounds_toArray, List.set_cons_zero, List.set_cons_succ]
  refine wpAnyG_one (i := 8) (by kernel_rfl) rfl (fun K hK => ?_)
  go_simp
  refine hK.out _ _ (fun _ => ?hS9ra) ?rest9ra
  case hS9ra => exact ⟨y1, z0, z1, z2, z3, z4, z5, z6⟩
  clear K hK
  try simp only [List.getElem_toArray, List.getElem_cons_succ, List.getElem_cons_zero, Act.put, List.setIfInBounds_toArray, List.set_cons_zero, List.set_cons_succ]
  refine wpAnyG_one (i := 9) (by kernel_rfl) rfl (fun K hK => ?_)
  refine step_append_run (by rfl) (.tmp 23) (.tmp 26) 35 35 (by rfl) _ _ (by rfl) (by rfl) HAP.out ?_
  refine hK.out _ _ (fun _ => ?hS10ra) ?rest10ra
  case hS10ra => exact ⟨x1, k0, k1, k2, k3, k4, k5_, k6⟩
  clear K hK
  try simp only [List.getElem_toArray, List.getElem_cons_succ, List.getElem_cons_zero, Act.put, List.setIfInBounds_toArray, List.set_cons_zero, List.set_cons_succ]
  refine wpAnyG_take' (i := 10) (v := ?v10_11ra) rfl (by kernel_rfl) (by kernel_rfl) (by kernel_rfl) (by kernel_rfl) (fun _ _ _ h => h) (Or.inl ⟨by rfl, ?hy10_11ra⟩) ⟨x1, k0, k1, k2, k3, k4, k5_, k6⟩ ?rest10_11ra
  case hy10_11ra => intro w hSw; (try dsimp only at hSw); go_simp; (try with_reducible rfl)
  case rest10_11ra =>
  try simp only [List.getElem_toArray, List.getElem_cons_succ, List.getElem_cons_zero, Act.put, List.setIfInBounds_toArray, List.set_cons_zero, List.set_cons_succ]
  refine wpAnyG_take' (i := 11) (v := ?v11_12ra) rfl (by kernel_rfl) (by kernel_rfl) (by kernel_rfl) (by kernel_rfl) (fun _ _ _ h => h) (Or.inl ⟨by rfl, ?hy11_12ra⟩) ⟨x1, k0, k1, k2, k3, k4, k5_, k6⟩ ?rest11_12ra
  case hy11_12ra => intro w hSw; (try dsimp only at hSw); go_simp; (try with_reducible rfl)
  case rest11_12ra =>
  try simp only [List.getElem_toArray, List.getElem_cons_succ, List.getElem_cons_zero, Act.put, List.setIfInBounds_toArray, List.set_cons_zero, List.set_cons_succ]
  refine wpAnyG_one (i := 12) (by kernel_rfl) rfl (fun K hK => ?_)
  go_simp
  refine hK.out _ _ (fun hno => by cases hno) ?_
  clear K hK
  try simp only [List.getElem_toArray, List.getElem_cons_succ, List.getElem_cons_zero, Act.put, List.setIfInBounds_toArray, List.set_cons_zero, List.set_cons_succ]
  refine wpAnyG_done (by kernel_rfl) ?_ _
  try simp only [List.getElem_toArray, List.getElem_cons_succ, List.getElem_cons_zero, Act.put, List.setIfInBounds_toArray, List.set_cons_zero, List.set_cons_succ]
  have h10 := (H9.out.sw2.set7 (o := 1) (u := .slice a9 (ps.length + 1) c9) (ys := #[.int .i64 b, .slice a9 (ps.length + 1) c9]) rfl)
  obtain ⟨q0, q1⟩ := cells2 h10
  have HT := Lib.hid (rtop_c q0 q1 HB.out.1 (by have := HB.out; omega) (by have := HB.out; omega))
  have H10 := Lib.hid h10
  clear h10 H9 q0 q1 x0 x1 k0 k1 k2 k3 k4 k5_ k6 f0 f1 y0 y1 z0 z1 z2 z3 z4 z5 z6 c0 c1 d0 d1 d2 d3 d4 d5 d6 hS
  go_wp2_with fail
  refine HT.out.mono ?_
  rintro r0 w11 ⟨rfl, kk, rfl⟩
  go_wp2_with fail
  go_ret2
  exact ⟨_, _, rfl, HQS.out.1, Sep.drewN (Sep.docClose (H10.out.pickL (M := [_, _, _]) [0, 1] rfl)) _⟩
set_option maxRecDepth 100000 in
set_option maxHeartbeats 16000000 in
theorem rfrom_bad {w0 w : World} {g : Nat} {b : Int} {ps : List (EnM × Value)} {L : List Thing} (op : Int) (hop : op < b ∨ b + ps.length < op) (h : Sep w0 (DocT g b ps :: L) w) (h0 : 0 ≤ b) (h1 : b ≤ 4611686018427380000) (hl : ps.length ≤ 1000000) :
    Calls Tryd.prog 34 #[.pointer (some ⟨g, 0, none⟩), .int .i64 op] w fun e w' => e = .returned (.tuple #[.slice none 0 0, .int .i64 9]) ∧ Sep w0 (DocT g b ps :: L) w' := by
  obtain ⟨pv, h2⟩ := h.docOpen
  obtain ⟨pa, pc, rfl, hpc, -⟩ := h2.sw2.enForm
  obtain ⟨c0, c1⟩ := cells2 h2
  have HT := Lib.hid (rtop_c c0 c1 h0 (by omega) hl)
  have H := Lib.hid h
  clear h h2 h0 h1 hl hpc c1
  obtain ⟨t, ht⟩ : ∃ t, t = b + (ps.length : Int) := ⟨_, rfl⟩
  rw [← ht] at HT hop
  clear ht
  by_cases l0 : op < b
  · have e0 : decide (op < b) = true := decide_eq_true l0
    clear hop l0 HT
    go_enter Tryd.func34, Tryd.ntmps34
    go_wp2_with fail
    go_ret2
    exact ⟨rfl, H.out⟩
  · have e0 : decide (op < b) = false := decide_eq_false l0
    have e1 : decide (t < op) = true := decide_eq_true (by omega)
    clear hop l0
    go_enter Tryd.func34, Tryd.ntmps34
    go_wp2_with fail
    refine HT.out.mono ?_
    rintro r0 w1 ⟨rfl, kk, rfl⟩
    clear HT
    go_wp2_with fail
    go_ret2
    exact ⟨rfl, H.out.drewN _⟩
set_option maxRecDepth 100000 in
set_option maxHeartbeats 16000000 in
theorem rcut_bad {w0 w : World} {g : Nat} {b : Int} {ps : List (EnM × Value)} {L : List Thing} (op : Int) (hop : op < b ∨ b + ps.length < op) (h : Sep w0 (DocT g b ps :: L) w) (h0 : 0 ≤ b) (h1 : b ≤ 4611686018427380000) (hl : ps.length ≤ 1000000) :
    Calls Tryd.prog 37 #[.pointer (some ⟨g, 0, none⟩), .int .i64 op] w fun e w' => e = .returned (.int .i64 9) ∧ Sep w0 (DocT g b ps :: L) w' := by
  obtain ⟨pv, h2⟩ := h.docOpen
  obtain ⟨pa, pc, rfl, hpc, -⟩ := h2.sw2.enForm
  obtain ⟨c0, c1⟩ := cells2 h2
  have HT := Lib.hid (rtop_c c0 c1 h0 (by omega) hl)
  have H := Lib.hid h
  clear h h2 h0 h1 hl hpc c1
  obtain ⟨t, ht⟩ : ∃ t, t = b + (ps.length : Int) := ⟨_, rfl⟩
  rw [← ht] at HT hop
  clear ht
  by_cases l0 : op < b
  · have e0 : decide (op < b) = true := decide_eq_true l0
    clear hop l0 HT
    go_enter Tryd.func37, Tryd.ntmps37
    go_wp2_with fail
    go_ret
    exact ⟨rfl, H.out⟩
  · have e0 : decide (op < b) = false := decide_eq_false l0
    have e1 : decide (t < op) = true := decide_eq_true (by omega)
    clear hop l0
    go_enter Tryd.func37, Tryd.ntmps37
    go_wp2_with fail
    refine HT.out.mono ?_
    rintro r0 w1 ⟨rfl, kk, rfl⟩
    clear HT
    go_wp2_with fail
    go_ret
    exact ⟨rfl, H.out.drewN _⟩
set_option maxRecDepth 100000 in
set_option maxHeartbeats 16000000 in
theorem rtrim_bad {w0 w : World} {g : Nat} {b : Int} {ps : List (EnM × Value)} {L : List Thing} (op : Int) (hop : op < b ∨ b + ps.length < op) (h : Sep w0 (DocT g b ps :: L) w) (h0 : 0 ≤ b) (h1 : b ≤ 4611686018427380000) (hl : ps.length ≤ 1000000) :
    Calls Tryd.prog 38 #[.pointer (some ⟨g, 0, none⟩), .int .i64 op] w fun e w' => e = .returned (.int .i64 9) ∧ Sep w0 (DocT g b ps :: L) w' := by
  obtain ⟨pv, h2⟩ := h.docOpen
  obtain ⟨pa, pc, rfl, hpc, -⟩ := h2.sw2.enForm
  obtain ⟨c0, c1⟩ := cells2 h2
  have HT := Lib.hid (rtop_c c0 c1 h0 (by omega) hl)
  have H := Lib.hid h
  clear h h2 h0 h1 hl hpc c1
  obtain ⟨t, ht⟩ : ∃ t, t = b + (ps.length : Int) := ⟨_, rfl⟩
  rw [← ht] at HT hop
  clear ht
  by_cases l0 : op < b
  · have e0 : decide (op < b) = true := decide_eq_true l0
    clear hop l0 HT
    go_enter Tryd.func38, Tryd.ntmps38
    go_wp2_with fail
    go_ret
    exact ⟨rfl, H.out⟩
  · have e0 : decide (op < b) = false := decide_eq_false l0
    have e1 : decide (t < op) = true := decide_eq_true (by omega)
    clear hop l0
    go_enter Tryd.func38, Tryd.ntmps38
    go_wp2_with fail
    refine HT.out.mono ?_
    rintro r0 w1 ⟨rfl, kk, rfl⟩
    clear HT
    go_wp2_with fail
    go_ret
    exact ⟨rfl, H.out.drewN _⟩
set_option maxRecDepth 100000 in
set_option maxHeartbeats 16000000 in
theorem rfrom_ok {w0 w : World} {g : Nat} {b : Int} {ps : List (EnM × Value)} {L : List Thing} (op : Int) (k : Nat) (hk : k ≤ ps.length) (hop : op = b + k) (hls : ∀ q ∈ ps, q.1.p.ls.length ≤ 1000) (h : Sep w0 (DocT g b ps :: L) w) (h0 : 0 ≤ b) (h1 : b ≤ 4611686018427380000) (hl : ps.length ≤ 1000000) :
    Calls Tryd.prog 34 #[.pointer (some ⟨g, 0, none⟩), .int .i64 op] w fun e w' => ∃ u, e = .returned (.tuple #[u, .int .i64 0]) ∧ ∃ qs : List (EnM × Value), qs.map (·.1) = (ps.drop k).map (·.1) ∧ Sep w0 (EnT u qs :: DocT g b ps :: L) w' := by
  obtain ⟨pv, h2⟩ := h.docOpen
  obtain ⟨pa, pc, rfl, hpc, -⟩ := h2.sw2.enForm
  obtain ⟨c0, c1⟩ := cells2 h2
  have HT := Lib.hid (rtop_c c0 c1 h0 (by omega) hl)
  have l0 : decide (op < b) = false := decide_eq_false (by omega)
  have l1 : decide (b + (ps.length : Int) < op) = false := decide_eq_false (by omega)
  have q0 : IntKind.i64.wrap (op - b) = (k : Int) := by rw [show op - b = (k : Int) by omega]; exact IntWalk.i64_in _ (by omega)
  have k0 : (0 : Int) ≤ (k : Int) := by omega
  have k1 : (k : Int) ≤ (ps.length : Int) := by omega
  have k2 : (k : Int) ≤ (pc : Int) := by omega
  have HB := Lib.hid (And.intro h0 (And.intro h1 hl))
  obtain ⟨q, hq⟩ : ∃ q, (if pc = k then pa else Option.map (fun x => x.add (k * 7)) pa) = q := ⟨_, rfl⟩
  have hes := ens_sub k ps.length pc h2.sw2.enS rfl hk (Nat.le_refl _) hpc (Nat.le_refl _)
  rw [hq, show (ps.drop k).take (ps.length - k) = ps.drop k from List.take_of_length_le (by simp)] at hes
  have HCR : Hid (∀ j, _) := Lib.hid (fun j => copyrow_any q (pc - k) (ps.length - k) (ps.drop k) ((h.drewN j).drew) (hes.below ⟨rfl, rfl, rfl, Nat.le_refl _, fun _ _ => rfl⟩) (by simp) (by omega) (fun x hx => hls x (List.mem_of_mem_drop hx)))
  generalize b + (ps.length : Int) = t at *
  clear h h2 h0 h1 hl hpc hop hk hls hes
  go_enter Tryd.func34, Tryd.ntmps34
  go_wp2_with fail
  refine HT.out.mono ?_
  rintro r0 w1 ⟨rfl, kk, rfl⟩
  clear HT
  go_wp2_with fail
  refine wp_region_G (fun w' => w'.cell? ⟨g, 0, none⟩ = some (.int .i64 b) ∧ w'.cell? ⟨g, 1, none⟩ = some (.slice pa ps.length pc)) [11, 12, 13] (by kernel_rfl) ⟨c0, c1⟩ (fun hS => ?_)
  try dsimp only at hS
  refine wpAnyG_take' (i := 0) (v := ?v0_1rf) rfl (by kernel_rfl) (by kernel_rfl) (by kernel_rfl) (by kernel_rfl) (fun _ _ _ h => h) (Or.inl ⟨by rfl, ?hy0_1rf⟩) hS ?rest0_1rf
  case hy0_1rf => intro w hSw; (try dsimp only at hSw); go_simp; (try with_reducible rfl)
  case rest0_1rf =>
  try simp only [List.getElem_toArray, List.getElem_cons_succ, List.getElem_cons_zero, Act.put, List.setIfInBounds_toArray, List.set_cons_zero, List.set_cons_succ]
  refine wpAnyG_take' (i := 1) (v := ?v1_2rf) rfl (by kernel_rfl) (by kernel_rfl) (by kernel_rfl) (by kernel_rfl) (fun _ _ _ h => h) (Or.inl ⟨by rfl, ?hy1_2rf⟩) hS ?rest1_2rf
  case hy1_2rf => intro w hSw; (try dsimp only at hSw); go_simp; (try with_reducible rfl)
  case rest1_2rf =>
  try simp only [List.getElem_toArray, List.getElem_cons_succ, List.getElem_cons_zero, Act.put, List.setIfInBounds_toArray, List.set_cons_zero, List.set_cons_succ]
  refine wpAnyG_take' (i := 2) (v := ?v2_3rf) rfl (by kernel_rfl) (by kernel_rfl) (by kernel_rfl) (by kernel_rfl) (fun _ _ _ h => h) (Or.inl ⟨by rfl, ?hy2_3rf⟩) hS ?rest2_3rf
  case hy2_3rf => intro w hSw; (try dsimp only at hSw); go_simp; (try with_reducible rfl)
  case rest2_3rf =>
  try simp only [List.getElem_toArray, List.getElem_cons_succ, List.getElem_cons_zero, Act.put, List.setIfInBounds_toArray, List.set_cons_zero, List.set_cons_succ]
  refine wpAnyG_take' (i := 3) (v := ?v3_4rf) rfl (by kernel_rfl) (by kernel_rfl) (by kernel_rfl) (by kernel_rfl) (fun _ _ _ h => h) (Or.inl ⟨by rfl, ?hy3_4rf⟩) hS ?rest3_4rf
  case hy3_4rf => intro w hSw; (try dsimp only at hSw); go_simp; (try with_reducible rfl)
  case rest3_4rf =>
  try simp only [List.getElem_toArray, List.getElem_cons_succ, List.getElem_cons_zero, Act.put, List.setIfInBounds_toArray, List.set_cons_zero, List.set_cons_succ]
  refine wpAnyG_take' (i := 4) (v := ?v4_5rf) rfl (by kernel_rfl) (by kernel_rfl) (by kernel_rfl) (by kernel_rfl) (fun _ _ _ h => h) (Or.inl ⟨by rfl, ?hy4_5rf⟩) hS ?rest4_5rf
  case hy4_5rf => intro w hSw; (try dsimp only at hSw); go_simp; (try with_reducible rfl)
  case rest4_5rf =>
  try simp only [List.getElem_toArray, List.getElem_cons_succ, List.getElem_cons_zero, Act.put, List.setIfInBounds_toArray, List.set_cons_zero, List.set_cons_succ]
  refine wpAnyG_take' (i := 5) (v := ?v5_6rf) rfl (by kernel_rfl) (by kernel_rfl) (by kernel_rfl) (by kernel_rfl) (fun _ _ _ h => h) (Or.inl ⟨by rfl, ?hy5_6rf⟩) hS ?rest5_6rf
  case hy5_6rf => intro w hSw; (try dsimp only at hSw); go_simp; (try with_reducible rfl)
  case rest5_6rf =>
  try simp only [List.getElem_toArray, List.getElem_cons_succ, List.getElem_cons_zero, Act.put, List.setIfInBounds_toArray, List.set_cons_zero, List.set_cons_succ]
  refine wpAnyG_take' (i := 6) (v := ?v6_7rf) rfl (by kernel_rfl) (by kernel_rfl) (by kernel_rfl) (by kernel_rfl) (fun _ _ _ h => h) (Or.inl ⟨by rfl, ?hy6_7rf⟩) hS ?rest6_7rf
  case hy6_7rf => intro w hSw; (try dsimp only at hSw); go_simp; (try with_reducible rfl)
  case rest6_7rf =>
  try simp only [List.getElem_toArray, List.getElem_cons_succ, List.getElem_cons_zero, Act.put, List.setIfInBounds_toArray, List.set_cons_zero, List.set_cons_succ]
  refine wpAnyG_take' (i := 7) (v := ?v7_8rf) rfl (by kernel_rfl) (by kernel_rfl) (by kernel_rfl) (by kernel_rfl) (fun _ _ _ h => h) (Or.inl ⟨by rfl, ?hy7_8rf⟩) hS ?rest7_8rf
  case hy7_8rf => intro w hSw; (try dsimp only at hSw); go_simp; (try with_reducible rfl)
  case rest7_8rf =>
  try simp only [List.getElem_toArray, List.getElem_cons_succ, List.getElem_cons_zero, Act.put, List.setIfInBounds_toArray, List.set_cons_zero, List.set_cons_succ]
  refine wpAnyG_take' (i := 8) (v := ?v8_9rf) rfl (by kernel_rfl) (by kernel_rfl) (by kernel_rfl) (by kernel_rfl) (fun _ _ _ h => h) (Or.inl ⟨by rfl, ?hy8_9rf⟩) hS ?rest8_9rf
  case hy8_9rf => intro w hSw; (try dsimp only at hSw); go_simp; (try with_reducible rfl)
  case rest8_9rf =>
  try simp only [List.getElem_toArray, List.getElem_cons_succ, List.getElem_cons_zero, Act.put, List.setIfInBounds_toArray, List.set_cons_zero, List.set_cons_succ]
  refine wpAnyG_take' (i := 9) (v := ?v9_10rf) rfl (by kernel_rfl) (by kernel_rfl) (by kernel_rfl) (by kernel_rfl) (fun _ _ _ h => h) (Or.inl ⟨by rfl, ?hy9_10rf⟩) hS ?rest9_10rf
  case hy9_10rf => intro w hSw; (try dsimp only at hSw); go_simp; (try with_reducible rfl)
  case rest9_10rf =>
  try simp only [List.getElem_toArray, List.getElem_cons_succ, List.getElem_cons_zero, Act.put, List.setIfInBounds_toArray, List.set_cons_zero, List.set_cons_succ]
  refine wpAnyG_take' (i := 10) (v := ?v10_11rf) rfl (by kernel_rfl) (by kernel_rfl) (by kernel_rfl) (by kernel_rfl) (fun _ _ _ h => h) (Or.inl ⟨by rfl, ?hy10_11rf⟩) hS ?rest10_11rf
  case hy10_11rf => intro w hSw; (try dsimp only at hSw); go_simp; (try with_reducible rfl)
  case rest10_11rf =>
  try simp only [List.getElem_toArray, List.getElem_cons_succ, List.getElem_cons_zero, Act.put, List.setIfInBounds_toArray, List.set_cons_zero, List.set_cons_succ]
  refine wpAnyG_one (i := 11) (by kernel_rfl) rfl (fun K hK => ?_)
  go_simp
  refine Calls.mono (HCR.out _) ?_
  rintro r11 w11 ⟨u, qs, rfl, hqs, h5⟩
  obtain ⟨au, cu, rfl, -⟩ := h5.enForm
  have H5 := Lib.hid (And.intro hqs h5)
  clear hqs h5 HCR
  go_wp2_with fail
  refine hK.out _ _ (fun hno => by cases hno) ?_
  clear K hK
  try simp only [List.getElem_toArray, List.getElem_cons_succ, List.getElem_cons_zero, Act.put, List.setIfInBounds_toArray, List.set_cons_zero, List.set_cons_succ]
  refine wpAnyG_one (i := 12) (by kernel_rfl) rfl (fun K hK => ?_)
  go_simp
  refine hK.out _ _ (fun hno => by cases hno) ?_
  clear K hK
  try simp only [List.getElem_toArray, List.getElem_cons_succ, List.getElem_cons_zero, Act.put, List.setIfInBounds_toArray, List.set_cons_zero, List.set_cons_succ]
  refine wpAnyG_one (i := 13) (by kernel_rfl) rfl (fun K hK => ?_)
  go_simp
  refine hK.out _ _ (fun hno => by cases hno) ?_
  clear K hK
  try simp only [List.getElem_toArray, List.getElem_cons_succ, List.getElem_cons_zero, Act.put, List.setIfInBounds_toArray, List.set_cons_zero, List.set_cons_succ]
  refine wpAnyG_done (by kernel_rfl) ?_ _
  try simp only [List.getElem_toArray, List.getElem_cons_succ, List.getElem_cons_zero, Act.put, List.setIfInBounds_toArray, List.set_cons_zero, List.set_cons_succ]
  go_wp2_with fail
  go_ret2
  exact ⟨_, rfl, qs, H5.out.1, H5.out.2⟩
set_option maxRecDepth 100000 in
set_option maxHeartbeats 16000000 in
theorem rcut_ok {w0 w : World} {g : Nat} {b : Int} {ps : List (EnM × Value)} {L : List Thing} (op : Int) (k : Nat) (hk : k ≤ ps.length) (hop : op = b + k) (hls : ∀ q ∈ ps, q.1.p.ls.length ≤ 1000) (h : Sep w0 (DocT g b ps :: L) w) (h0 : 0 ≤ b) (h1 : b ≤ 4611686018427380000) (hl : ps.length ≤ 1000000) :
    Calls Tryd.prog 37 #[.pointer (some ⟨g, 0, none⟩), .int .i64 op] w fun e w' => e = .returned (.int .i64 0) ∧ ∃ qs : List (EnM × Value), qs.map (·.1) = (ps.take k).map (·.1) ∧ Sep w0 (DocT g b qs :: L) w' := by
  obtain ⟨pv, h2⟩ := h.docOpen
  obtain ⟨pa, pc, rfl, hpc, -⟩ := h2.sw2.enForm
  obtain ⟨c0, c1⟩ := cells2 h2
  have HT := Lib.hid (rtop_c c0 c1 h0 (by omega) hl)
  have l0 : decide (op < b) = false := decide_eq_false (by omega)
  have l1 : decide (b + (ps.length : Int) < op) = false := decide_eq_false (by omega)
  have q0 : IntKind.i64.wrap (op - b) = (k : Int) := by rw [show op - b = (k : Int) by omega]; exact IntWalk.i64_in _ (by omega)
  have k0 : (0 : Int) ≤ (k : Int) := by omega
  have k1 : (k : Int) ≤ (ps.length : Int) := by omega
  have k2 : (k : Int) ≤ (pc : Int) := by omega
  have HB := Lib.hid (And.intro h0 (And.intro h1 hl))
  have hes := ens_sub 0 k pc h2.sw2.enS rfl (Nat.zero_le _) hk (by omega) (Nat.le_refl _)
  obtain ⟨q, hq⟩ : ∃ q, (if pc = 0 then pa else Option.map (fun x => x.add (0 * 7)) pa) = q := ⟨_, rfl⟩
  rw [hq, List.drop_zero] at hes
  have hq2 : q = pa := by
    rw [← hq]
    rcases h2.sw2.enForm2 with ⟨he, -⟩ | ⟨g', c', he, -, -⟩
    · simp only [Value.slice.injEq] at he; rw [he.1]; simp
    · simp only [Value.slice.injEq] at he; rw [he.1]; simp [addr_add]
  rw [hq2] at hes
  simp only [Nat.sub_zero] at hes
  have hqa : (if pc = 0 then pa else Option.map (fun x => x.add 0) pa) = pa := by rw [hq2, Nat.zero_mul] at hq; exact hq
  have hqb : (if pc = 0 then pa else Option.map (fun x => x.add (0 * 7)) pa) = pa := by rw [hq2] at hq; exact hq
  clear hq hq2
  have HCR : Hid (∀ j, _) := Lib.hid (fun j => copyrow_any pa pc k (ps.take k) ((h2.drewN j).drew) (hes.below ⟨rfl, rfl, rfl, Nat.le_refl _, fun _ _ => rfl⟩) (by rw [List.length_take]; omega) (by omega) (fun x hx => hls x (List.mem_of_mem_take hx)))
  generalize b + (ps.length : Int) = t at *
  clear h h2 h0 h1 hl hpc hk hls hes hop
  go_enter Tryd.func37, Tryd.ntmps37
  go_wp2_with fail
  refine HT.out.mono ?_
  rintro r0 w1 ⟨rfl, kk, rfl⟩
  clear HT
  go_wp2_with fail
  refine wp_region_G (fun w' => w'.cell? ⟨g, 0, none⟩ = some (.int .i64 b) ∧ w'.cell? ⟨g, 1, none⟩ = some (.slice pa ps.length pc)) [15] (by kernel_rfl) ⟨c0, c1⟩ (fun hS => ?_)
  try dsimp only at hS
  refine wpAnyG_take' (i := 0) (v := ?v0_1rc) rfl (by kernel_rfl) (by kernel_rfl) (by kernel_rfl) (by kernel_rfl) (fun _ _ _ h => h) (Or.inl ⟨by rfl, ?hy0_1rc⟩) hS ?rest0_1rc
  case hy0_1rc => intro w hSw; (try dsimp only at hSw); go_simp; (try with_reducible rfl)
  case rest0_1rc =>
  try simp only [List.getElem_toArray, List.getElem_cons_succ, List.getElem_cons_zero, Act.put, List.setIfInBounds_toArray, List.set_cons_zero, List.set_cons_succ]
  refine wpAnyG_take' (i := 1) (v := ?v1_2rc) rfl (by kernel_rfl) (by kernel_rfl) (by kernel_rfl) (by kernel_rfl) (fun _ _ _ h => h) (Or.inl ⟨by rfl, ?hy1_2rc⟩) hS ?rest1_2rc
  case hy1_2rc => intro w hSw; (try dsimp only at hSw); go_simp; (try with_reducible rfl)
  case rest1_2rc =>
  try simp only [List.getElem_toArray, List.getElem_cons_succ, List.getElem_cons_zero, Act.put, List.setIfInBounds_toArray, List.set_cons_zero, List.set_cons_succ]
  refine wpAnyG_take' (i := 2) (v := ?v2_3rc) rfl (by kernel_rfl) (by kernel_rfl) (by kernel_rfl) (by kernel_rfl) (fun _ _ _ h => h) (Or.inl ⟨by rfl, ?hy2_3rc⟩) hS ?rest2_3rc
  case hy2_3rc => intro w hSw; (try dsimp only at hSw); go_simp; (try with_reducible rfl)
  case rest2_3rc =>
  try simp only [List.getElem_toArray, List.getElem_cons_succ, List.getElem_cons_zero, Act.put, List.setIfInBounds_toArray, List.set_cons_zero, List.set_cons_succ]
  refine wpAnyG_take' (i := 3) (v := ?v3_4rc) rfl (by kernel_rfl) (by kernel_rfl) (by kernel_rfl) (by kernel_rfl) (fun _ _ _ h => h) (Or.inl ⟨by rfl, ?hy3_4rc⟩) hS ?rest3_4rc
  case hy3_4rc => intro w hSw; (try dsimp only at hSw); go_simp; (try with_reducible rfl)
  case rest3_4rc =>
  try simp only [List.getElem_toArray, List.getElem_cons_succ, List.getElem_cons_zero, Act.put, List.setIfInBounds_toArray, List.set_cons_zero, List.set_cons_succ]
  refine wpAnyG_take' (i := 4) (v := ?v4_5rc) rfl (by kernel_rfl) (by kernel_rfl) (by kernel_rfl) (by kernel_rfl) (fun _ _ _ h => h) (Or.inl ⟨by rfl, ?hy4_5rc⟩) hS ?rest4_5rc
  case hy4_5rc => intro w hSw; (try dsimp only at hSw); go_simp; (try with_reducible rfl)
  case rest4_5rc =>
  try simp only [List.getElem_toArray, List.getElem_cons_succ, List.getElem_cons_zero, Act.put, List.setIfInBounds_toArray, List.set_cons_zero, List.set_cons_succ]
  refine wpAnyG_take' (i := 5) (v := ?v5_6rc) rfl (by kernel_rfl) (by kernel_rfl) (by kernel_rfl) (by kernel_rfl) (fun _ _ _ h => h) (Or.inl ⟨by rfl, ?hy5_6rc⟩) hS ?rest5_6rc
  case hy5_6rc => intro w hSw; (try dsimp only at hSw); go_simp; (try with_reducible rfl)
  case rest5_6rc =>
  try simp only [List.getElem_toArray, List.getElem_cons_succ, List.getElem_cons_zero, Act.put, List.setIfInBounds_toArray, List.set_cons_zero, List.set_cons_succ]
  refine wpAnyG_take' (i := 6) (v := ?v6_7rc) rfl (by kernel_rfl) (by kernel_rfl) (by kernel_rfl) (by kernel_rfl) (fun _ _ _ h => h) (Or.inl ⟨by rfl, ?hy6_7rc⟩) hS ?rest6_7rc
  case hy6_7rc => intro w hSw; (try dsimp only at hSw); go_simp; (try with_reducible rfl)
  case rest6_7rc =>
  try simp only [List.getElem_toArray, List.getElem_cons_succ, List.getElem_cons_zero, Act.put, List.setIfInBounds_toArray, List.set_cons_zero, List.set_cons_succ]
  refine wpAnyG_take' (i := 7) (v := ?v7_8rc) rfl (by kernel_rfl) (by kernel_rfl) (by kernel_rfl) (by kernel_rfl) (fun _ _ _ h => h) (Or.inl ⟨by rfl, ?hy7_8rc⟩) hS ?rest7_8rc
  case hy7_8rc => intro w hSw; (try dsimp only at hSw); go_simp; (try with_reducible rfl)
  case rest7_8rc =>
  try simp only [List.getElem_toArray, List.getElem_cons_succ, List.getElem_cons_zero, Act.put, List.setIfInBounds_toArray, List.set_cons_zero, List.set_cons_succ]
  refine wpAnyG_take' (i := 8) (v := ?v8_9rc) rfl (by kernel_rfl) (by kernel_rfl) (by kernel_rfl) (by kernel_rfl) (fun _ _ _ h => h) (Or.inl ⟨by rfl, ?hy8_9rc⟩) hS ?rest8_9rc
  case hy8_9rc => intro w hSw; (try dsimp only at hSw); go_simp; (try with_reducible rfl)
  case rest8_9rc =>
  try simp only [List.getElem_toArray, List.getElem_cons_succ, List.getElem_cons_zero, Act.put, List.setIfInBounds_toArray, List.set_cons_zero, List.set_cons_succ]
  refine wpAnyG_take' (i := 9) (v := ?v9_10rc) rfl (by kernel_rfl) (by kernel_rfl) (by kernel_rfl) (by kernel_rfl) (fun _ _ _ h => h) (Or.inl ⟨by rfl, ?hy9_10rc⟩) hS ?rest9_10rc
  case hy9_10rc => intro w hSw; (try dsimp only at hSw); go_simp; (try with_reducible rfl)
  case rest9_10rc =>
  try simp only [List.getElem_toArray, List.getElem_cons_succ, List.getElem_cons_zero, Act.put, List.setIfInBounds_toArray, List.set_cons_zero, List.set_cons_succ]
  refine wpAnyG_take' (i := 10) (v := ?v10_11rc) rfl (by kernel_rfl) (by kernel_rfl) (by kernel_rfl) (by kernel_rfl) (fun _ _ _ h => h) (Or.inl ⟨by rfl, ?hy10_11rc⟩) hS ?rest10_11rc
  case hy10_11rc => intro w hSw; (try dsimp only at hSw); go_simp; (try with_reducible rfl)
  case rest10_11rc =>
  try simp only [List.getElem_toArray, List.getElem_cons_succ, List.getElem_cons_zero, Act.put, List.setIfInBounds_toArray, List.set_cons_zero, List.set_cons_succ]
  refine wpAnyG_take' (i := 11) (v := ?v11_12rc) rfl (by kernel_rfl) (by kernel_rfl) (by kernel_rfl) (by kernel_rfl) (fun _ _ _ h => h) (Or.inl ⟨by rfl, ?hy11_12rc⟩) hS ?rest11_12rc
  case hy11_12rc => intro w hSw; (try dsimp only at hSw); go_simp; (try with_reducible rfl)
  case rest11_12rc =>
  try simp only [List.getElem_toArray, List.getElem_cons_succ, List.getElem_cons_zero, Act.put, List.setIfInBounds_toArray, List.set_cons_zero, List.set_cons_succ]
  refine wpAnyG_one (i := 12) (by kernel_rfl) rfl (fun K hK => ?_)
  go_simp
  refine Calls.mono (HCR.out _) ?_
  rintro r12 w12 ⟨u, qs, rfl, hqs, h5⟩
  obtain ⟨au, cu, rfl, -⟩ := h5.enForm
  clear c0 c1 HCR
  obtain ⟨c0, c1⟩ := cells2 h5.sw2
  obtain ⟨f0, f1, -⟩ := frz7 h5.sw2
  have h6 := (h5.sw2.set7 (o := 1) (u := .slice au qs.length cu) (ys := #[.int .i64 b, .slice au qs.length cu]) rfl)
  obtain ⟨d0, d1⟩ := cells2 h6
  obtain ⟨e0, e1, -⟩ := frz7 h6
  have H6 := Lib.hid h6
  have HQ := Lib.hid hqs
  clear hqs h5 h6
  go_wp2_with fail
  refine hK.out _ _ (fun _ => ?hS13rc) ?rest13rc
  case hS13rc => exact ⟨c0, c1⟩
  clear K hK
  try simp only [List.getElem_toArray, List.getElem_cons_succ, List.getElem_cons_zero, Act.put, List.setIfInBounds_toArray, List.set_cons_zero, List.set_cons_succ]
  refine wpAnyG_take' (i := 13) (v := ?v13_14rc) rfl (by kernel_rfl) (by kernel_rfl) (by kernel_rfl) (by kernel_rfl) (fun _ _ _ h => h) (Or.inl ⟨by rfl, ?hy13_14rc⟩) ⟨c0, c1⟩ ?rest13_14rc
  case hy13_14rc => intro w hSw; (try dsimp only at hSw); go_simp; (try with_reducible rfl)
  case rest13_14rc =>
  try simp only [List.getElem_toArray, List.getElem_cons_succ, List.getElem_cons_zero, Act.put, List.setIfInBounds_toArray, List.set_cons_zero, List.set_cons_succ]
  refine wpAnyG_take' (i := 14) (v := ?v14_15rc) rfl (by kernel_rfl) (by kernel_rfl) (by kernel_rfl) (by kernel_rfl) (fun _ _ _ h => h) (Or.inl ⟨by rfl, ?hy14_15rc⟩) ⟨c0, c1⟩ ?rest14_15rc
  case hy14_15rc => intro w hSw; (try dsimp only at hSw); go_simp; (try with_reducible rfl)
  case rest14_15rc =>
  try simp only [List.getElem_toArray, List.getElem_cons_succ, List.getElem_cons_zero, Act.put, List.setIfInBounds_toArray, List.set_cons_zero, List.set_cons_succ]
  refine wpAnyG_one (i := 15) (by kernel_rfl) rfl (fun K hK => ?_)
  go_simp
  refine hK.out _ _ (fun hno => by cases hno) ?_
  clear K hK
  try simp only [List.getElem_toArray, List.getElem_cons_succ, List.getElem_cons_zero, Act.put, List.setIfInBounds_toArray, List.set_cons_zero, List.set_cons_succ]
  refine wpAnyG_done (by kernel_rfl) ?_ _
  try simp only [List.getElem_toArray, List.getElem_cons_succ, List.getElem_cons_zero, Act.put, List.setIfInBounds_toArray, List.set_cons_zero, List.set_cons_succ]
  go_wp2_with fail
  go_ret
  exact ⟨rfl, qs, HQ.out, Sep.docClose (H6.out.pickL (M := [_, _, _]) [0, 1] rfl)⟩
set_option maxRecDepth 100000 in
set_option maxHeartbeats 16000000 in
theorem rtrim_ok {w0 w : World} {g : Nat} {b : Int} {ps : List (EnM × Value)} {L : List Thing} (op : Int) (k : Nat) (hk : k ≤ ps.length) (hop : op = b + k) (hls : ∀ q ∈ ps, q.1.p.ls.length ≤ 1000) (h : Sep w0 (DocT g b ps :: L) w) (h0 : 0 ≤ b) (h1 : b ≤ 4611686018427380000) (hl : ps.length ≤ 1000000) :
    Calls Tryd.prog 38 #[.pointer (some ⟨g, 0, none⟩), .int .i64 op] w fun e w' => e = .returned (.int .i64 0) ∧ ∃ qs : List (EnM × Value), qs.map (·.1) = (ps.drop k).map (·.1) ∧ Sep w0 (DocT g op qs :: L) w' := by
  obtain ⟨pv, h2⟩ := h.docOpen
  obtain ⟨pa, pc, rfl, hpc, -⟩ := h2.sw2.enForm
  obtain ⟨c0, c1⟩ := cells2 h2
  have HT := Lib.hid (rtop_c c0 c1 h0 (by omega) hl)
  have l0 : decide (op < b) = false := decide_eq_false (by omega)
  have l1 : decide (b + (ps.length : Int) < op) = false := decide_eq_false (by omega)
  have q0 : IntKind.i64.wrap (op - b) = (k : Int) := by rw [show op - b = (k : Int) by omega]; exact IntWalk.i64_in _ (by omega)
  have k0 : (0 : Int) ≤ (k : Int) := by omega
  have k1 : (k : Int) ≤ (ps.length : Int) := by omega
  have k2 : (k : Int) ≤ (pc : Int) := by omega
  have HB := Lib.hid (And.intro h0 (And.intro h1 hl))
  obtain ⟨q, hq⟩ : ∃ q, (if pc = k then pa else Option.map (fun x => x.add (k * 7)) pa) = q := ⟨_, rfl⟩
  have hes := ens_sub k ps.length pc h2.sw2.enS rfl hk (Nat.le_refl _) hpc (Nat.le_refl _)
  rw [hq, show (ps.drop k).take (ps.length - k) = ps.drop k from List.take_of_length_le (by simp)] at hes
  have HCR : Hid (∀ j, _) := Lib.hid (fun j => copyrow_any q (pc - k) (ps.length - k) (ps.drop k) ((h2.drewN j).drew) (hes.below ⟨rfl, rfl, rfl, Nat.le_refl _, fun _ _ => rfl⟩) (by simp) (by omega) (fun x hx => hls x (List.mem_of_mem_drop hx)))
  generalize b + (ps.length : Int) = t at *
  clear h h2 h0 h1 hl hpc hk hls hes hop
  go_enter Tryd.func38, Tryd.ntmps38
  go_wp2_with fail
  refine HT.out.mono ?_
  rintro r0 w1 ⟨rfl, kk, rfl⟩
  clear HT
  go_wp2_with fail
  refine wp_region_G (fun w' => w'.cell? ⟨g, 0, none⟩ = some (.int .i64 b) ∧ w'.cell? ⟨g, 1, none⟩ = some (.slice pa ps.length pc)) [15] (by kernel_rfl) ⟨c0, c1⟩ (fun hS => ?_)
  try dsimp only at hS
  refine wpAnyG_take' (i := 0) (v := ?v0_1rc) rfl (by kernel_rfl) (by kernel_rfl) (by kernel_rfl) (by kernel_rfl) (fun _ _ _ h => h) (Or.inl ⟨by rfl, ?hy0_1rc⟩) hS ?rest0_1rc
  case hy0_1rc => intro w hSw; (try dsimp only at hSw); go_simp; (try with_reducible rfl)
  case rest0_1rc =>
  try simp only [List.getElem_toArray, List.getElem_cons_succ, List.getElem_cons_zero, Act.put, List.setIfInBounds_toArray, List.set_cons_zero, List.set_cons_succ]
  refine wpAnyG_take' (i := 1) (v := ?v1_2rc) rfl (by kernel_rfl) (by kernel_rfl) (by kernel_rfl) (by kernel_rfl) (fun _ _ _ h => h) (Or.inl ⟨by rfl, ?hy1_2rc⟩) hS ?rest1_2rc
  case hy1_2rc => intro w hSw; (try dsimp only at hSw); go_simp; (try with_reducible rfl)
  case rest1_2rc =>
  try simp only [List.getElem_toArray, List.getElem_cons_succ, List.getElem_cons_zero, Act.put, List.setIfInBounds_toArray, List.set_cons_zero, List.set_cons_succ]
  refine wpAnyG_take' (i := 2) (v := ?v2_3rc) rfl (by kernel_rfl) (by kernel_rfl) (by kernel_rfl) (by kernel_rfl) (fun _ _ _ h => h) (Or.inl ⟨by rfl, ?hy2_3rc⟩) hS ?rest2_3rc
  case hy2_3rc => intro w hSw; (try dsimp only at hSw); go_simp; (try with_reducible rfl)
  case rest2_3rc =>
  try simp only [List.getElem_toArray, List.getElem_cons_succ, List.getElem_cons_zero, Act.put, List.setIfInBounds_toArray, List.set_cons_zero, List.set_cons_succ]
  refine wpAnyG_take' (i := 3) (v := ?v3_4rc) rfl (by kernel_rfl) (by kernel_rfl) (by kernel_rfl) (by kernel_rfl) (fun _ _ _ h => h) (Or.inl ⟨by rfl, ?hy3_4rc⟩) hS ?rest3_4rc
  case hy3_4rc => intro w hSw; (try dsimp only at hSw); go_simp; (try with_reducible rfl)
  case rest3_4rc =>
  try simp only [List.getElem_toArray, List.getElem_cons_succ, List.getElem_cons_zero, Act.put, List.setIfInBounds_toArray, List.set_cons_zero, List.set_cons_succ]
  refine wpAnyG_take' (i := 4) (v := ?v4_5rc) rfl (by kernel_rfl) (by kernel_rfl) (by kernel_rfl) (by kernel_rfl) (fun _ _ _ h => h) (Or.inl ⟨by rfl, ?hy4_5rc⟩) hS ?rest4_5rc
  case hy4_5rc => intro w hSw; (try dsimp only at hSw); go_simp; (try with_reducible rfl)
  case rest4_5rc =>
  try simp only [List.getElem_toArray, List.getElem_cons_succ, List.getElem_cons_zero, Act.put, List.setIfInBounds_toArray, List.set_cons_zero, List.set_cons_succ]
  refine wpAnyG_take' (i := 5) (v := ?v5_6rc) rfl (by kernel_rfl) (by kernel_rfl) (by kernel_rfl) (by kernel_rfl) (fun _ _ _ h => h) (Or.inl ⟨by rfl, ?hy5_6rc⟩) hS ?rest5_6rc
  case hy5_6rc => intro w hSw; (try dsimp only at hSw); go_simp; (try with_reducible rfl)
  case rest5_6rc =>
  try simp only [List.getElem_toArray, List.getElem_cons_succ, List.getElem_cons_zero, Act.put, List.setIfInBounds_toArray, List.set_cons_zero, List.set_cons_succ]
  refine wpAnyG_take' (i := 6) (v := ?v6_7rc) rfl (by kernel_rfl) (by kernel_rfl) (by kernel_rfl) (by kernel_rfl) (fun _ _ _ h => h) (Or.inl ⟨by rfl, ?hy6_7rc⟩) hS ?rest6_7rc
  case hy6_7rc => intro w hSw; (try dsimp only at hSw); go_simp; (try with_reducible rfl)
  case rest6_7rc =>
  try simp only [List.getElem_toArray, List.getElem_cons_succ, List.getElem_cons_zero, Act.put, List.setIfInBounds_toArray, List.set_cons_zero, List.set_cons_succ]
  refine wpAnyG_take' (i := 7) (v := ?v7_8rc) rfl (by kernel_rfl) (by kernel_rfl) (by kernel_rfl) (by kernel_rfl) (fun _ _ _ h => h) (Or.inl ⟨by rfl, ?hy7_8rc⟩) hS ?rest7_8rc
  case hy7_8rc => intro w hSw; (try dsimp only at hSw); go_simp; (try with_reducible rfl)
  case rest7_8rc =>
  try simp only [List.getElem_toArray, List.getElem_cons_succ, List.getElem_cons_zero, Act.put, List.setIfInBounds_toArray, List.set_cons_zero, List.set_cons_succ]
  refine wpAnyG_take' (i := 8) (v := ?v8_9rc) rfl (by kernel_rfl) (by kernel_rfl) (by kernel_rfl) (by kernel_rfl) (fun _ _ _ h => h) (Or.inl ⟨by rfl, ?hy8_9rc⟩) hS ?rest8_9rc
  case hy8_9rc => intro w hSw; (try dsimp only at hSw); go_simp; (try with_reducible rfl)
  case rest8_9rc =>
  try simp only [List.getElem_toArray, List.getElem_cons_succ, List.getElem_cons_zero, Act.put, List.setIfInBounds_toArray, List.set_cons_zero, List.set_cons_succ]
  refine wpAnyG_take' (i := 9) (v := ?v9_10rc) rfl (by kernel_rfl) (by kernel_rfl) (by kernel_rfl) (by kernel_rfl) (fun _ _ _ h => h) (Or.inl ⟨by rfl, ?hy9_10rc⟩) hS ?rest9_10rc
  case hy9_10rc => intro w hSw; (try dsimp only at hSw); go_simp; (try with_reducible rfl)
  case rest9_10rc =>
  try simp only [List.getElem_toArray, List.getElem_cons_succ, List.getElem_cons_zero, Act.put, List.setIfInBounds_toArray, List.set_cons_zero, List.set_cons_succ]
  refine wpAnyG_take' (i := 10) (v := ?v10_11rc) rfl (by kernel_rfl) (by kernel_rfl) (by kernel_rfl) (by kernel_rfl) (fun _ _ _ h => h) (Or.inl ⟨by rfl, ?hy10_11rc⟩) hS ?rest10_11rc
  case hy10_11rc => intro w hSw; (try dsimp only at hSw); go_simp; (try with_reducible rfl)
  case rest10_11rc =>
  try simp only [List.getElem_toArray, List.getElem_cons_succ, List.getElem_cons_zero, Act.put, List.setIfInBounds_toArray, List.set_cons_zero, List.set_cons_succ]
  refine wpAnyG_take' (i := 11) (v := ?v11_12rc) rfl (by kernel_rfl) (by kernel_rfl) (by kernel_rfl) (by kernel_rfl) (fun _ _ _ h => h) (Or.inl ⟨by rfl, ?hy11_12rc⟩) hS ?rest11_12rc
  case hy11_12rc => intro w hSw; (try dsimp only at hSw); go_simp; (try with_reducible rfl)
  case rest11_12rc =>
  try simp only [List.getElem_toArray, List.getElem_cons_succ, List.getElem_cons_zero, Act.put, List.setIfInBounds_toArray, List.set_cons_zero, List.set_cons_succ]
  refine wpAnyG_one (i := 12) (by kernel_rfl) rfl (fun K hK => ?_)
  go_simp
  refine Calls.mono (HCR.out _) ?_
  rintro r12 w12 ⟨u, qs, rfl, hqs, h5⟩
  obtain ⟨au, cu, rfl, -⟩ := h5.enForm
  clear c0 c1 HCR
  obtain ⟨c0, c1⟩ := cells2 h5.sw2
  obtain ⟨f0, f1, -⟩ := frz7 h5.sw2
  have h6 := (h5.sw2.set7 (o := 1) (u := .slice au qs.length cu) (ys := #[.int .i64 b, .slice au qs.length cu]) rfl)
  obtain ⟨d0, d1⟩ := cells2 h6
  obtain ⟨e0, e1, -⟩ := frz7 h6
  have H6 := Lib.hid h6
  have HQ := Lib.hid hqs
  clear hqs h5 h6
  go_wp2_with fail
  refine hK.out _ _ (fun _ => ?hS13rc) ?rest13rc
  case hS13rc => exact ⟨c0, c1⟩
  clear K hK
  try simp only [List.getElem_toArray, List.getElem_cons_succ, List.getElem_cons_zero, Act.put, List.setIfInBounds_toArray, List.set_cons_zero, List.set_cons_succ]
  refine wpAnyG_take' (i := 13) (v := ?v13_14rc) rfl (by kernel_rfl) (by kernel_rfl) (by kernel_rfl) (by kernel_rfl) (fun _ _ _ h => h) (Or.inl ⟨by rfl, ?hy13_14rc⟩) ⟨c0, c1⟩ ?rest13_14rc
  case hy13_14rc => intro w hSw; (try dsimp only at hSw); go_simp; (try with_reducible rfl)
  case rest13_14rc =>
  try simp only [List.getElem_toArray, List.getElem_cons_succ, List.getElem_cons_zero, Act.put, List.setIfInBounds_toArray, List.set_cons_zero, List.set_cons_succ]
  refine wpAnyG_take' (i := 14) (v := ?v14_15rc) rfl (by kernel_rfl) (by kernel_rfl) (by kernel_rfl) (by kernel_rfl) (fun _ _ _ h => h) (Or.inl ⟨by rfl, ?hy14_15rc⟩) ⟨c0, c1⟩ ?rest14_15rc
  case hy14_15rc => intro w hSw; (try dsimp only at hSw); go_simp; (try with_reducible rfl)
  case rest14_15rc =>
  try simp only [List.getElem_toArray, List.getElem_cons_succ, List.getElem_cons_zero, Act.put, List.setIfInBounds_toArray, List.set_cons_zero, List.set_cons_succ]
  refine wpAnyG_one (i := 15) (by kernel_rfl) rfl (fun K hK => ?_)
  go_simp
  refine hK.out _ _ (fun hno => by cases hno) ?_
  clear K hK
  try simp only [List.getElem_toArray, List.getElem_cons_succ, List.getElem_cons_zero, Act.put, List.setIfInBounds_toArray, List.set_cons_zero, List.set_cons_succ]
  refine wpAnyG_done (by kernel_rfl) ?_ _
  try simp only [List.getElem_toArray, List.getElem_cons_succ, List.getElem_cons_zero, Act.put, List.setIfInBounds_toArray, List.set_cons_zero, List.set_cons_succ]
  have H8 := Lib.hid (Sep.docClose ((H6.out.set7 (o := 0) (u := .int .i64 op) (ys := #[.int .i64 op, .slice au qs.length cu]) rfl).pickL (M := [_, _, _]) [0, 1] rfl))
  go_wp2_with fail
  go_ret
  exact ⟨rfl, qs, HQ.out, H8.out⟩
end Go.Proofs.YtpknfeokfladkaaDoor
