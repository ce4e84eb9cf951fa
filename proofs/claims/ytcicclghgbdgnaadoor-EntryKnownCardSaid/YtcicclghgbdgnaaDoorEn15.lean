/- The statement EntryBack. -/
import Derived.Test.YtcicclghgbdgnaaDoorEn5
import Derived.Test.YtcicclghgbdgnaaDoorEn7
import Derived.Test.YtcicclghgbdgnaaDoorEn12
import Derived.Test.YtcicclghgbdgnaaDoorEn14
namespace Go.Proofs.YtcicclghgbdgnaaDoor
open Go.RowKit
set_option linter.unusedVariables false
set_option linter.unusedSimpArgs false
abbrev Sd := Int × Int × Int × Int
/-- Seeds that came in. -/
def SdS (w : World) (v : Value) (n : Nat) : Prop := ∃ a c, v = .slice a n c ∧ ∀ i, i < n → ∃ b off, a = some ⟨b, off, none⟩ ∧ b < w.heap.size ∧ ∃ q : Sd, w.cell? ⟨b, off + i * 4, none⟩ = some (.int .i64 q.1) ∧ w.cell? ⟨b, off + i * 4 + 1, none⟩ = some (.int .i64 q.2.1) ∧ w.cell? ⟨b, off + i * 4 + 2, none⟩ = some (.int .i64 q.2.2.1) ∧ w.cell? ⟨b, off + i * 4 + 3, none⟩ = some (.int .i64 q.2.2.2)
theorem SdS.at {w : World} {a : Option Addr} {n n' c : Nat} (h : SdS w (.slice a n' c) n) {i : Nat} (hi : i < n) {wz : World} (hz : Below w.heap.size w wz) : ∃ b off, a = some ⟨b, off, none⟩ ∧ ∃ x y z t : Int, wz.cell? ⟨b, off + i * 4, none⟩ = some (.int .i64 x) ∧ wz.cell? ⟨b, off + i * 4 + 1, none⟩ = some (.int .i64 y) ∧ wz.cell? ⟨b, off + i * 4 + 2, none⟩ = some (.int .i64 z) ∧ wz.cell? ⟨b, off + i * 4 + 3, none⟩ = some (.int .i64 t) := by
  obtain ⟨a', c', h1, h2⟩ := h
  simp only [Value.slice.injEq] at h1
  obtain ⟨rfl, rfl, rfl⟩ := h1
  obtain ⟨b, off, rfl, hb, ⟨x, y, z, t⟩, q0, q1, q2, q3⟩ := h2 i hi
  have k : ∀ o, wz.cell? ⟨b, o, none⟩ = w.cell? ⟨b, o, none⟩ := fun o => hz.cell (p := ⟨b, o, none⟩) hb
  exact ⟨b, off, rfl, x, y, z, t, (k _).trans q0, (k _).trans q1, (k _).trans q2, (k _).trans q3⟩
theorem sd_of {w : World} {cs : List Value} (h : RdC Tryd.prog w 44 cs) : ∃ q : Sd, cs = [.int .i64 q.1, .int .i64 q.2.1, .int .i64 q.2.2.1, .int .i64 q.2.2.2] := by
  obtain ⟨hl, hf⟩ := h.struct Tryd.underlying44
  rw [show Tryd.prog.cellsOf 44 = 4 by kernel_rfl] at hl
  match cs, hl with
  | [u0, u1, u2, u3], _ =>
    have g0 := hf _ (List.mem_cons_self ..)
    have g1 := hf _ (List.mem_cons_of_mem _ (List.mem_cons_self ..))
    have g2 := hf _ (List.mem_cons_of_mem _ (List.mem_cons_of_mem _ (List.mem_cons_self ..)))
    have g3 := hf _ (List.mem_cons_of_mem _ (List.mem_cons_of_mem _ (List.mem_cons_of_mem _ (List.mem_cons_self ..))))
    rw [show Tryd.prog.cellsOf 3 = 1 by kernel_rfl] at g0 g1 g2 g3
    simp only [List.drop_zero, List.drop_succ_cons, List.take_succ_cons, List.take_zero] at g0 g1 g2 g3
    obtain ⟨k, e0, w0⟩ := g0.int Tryd.underlying3
    obtain ⟨o, e1, w1⟩ := g1.int Tryd.underlying3
    obtain ⟨n, e2, w2⟩ := g2.int Tryd.underlying3
    obtain ⟨m, e3, w3⟩ := g3.int Tryd.underlying3
    simp only [List.cons.injEq, and_true] at e0 e1 e2 e3
    exact ⟨(k, o, n, m), by rw [e0, e1, e2, e3]⟩
theorem sds_of {w : World} {v : Value} (h : RdC Tryd.prog w 41 [v]) : ∃ n, SdS w v n ∧ n ≤ maxLen := by
  obtain ⟨a, len, cap, rfl, h1, h2, h3⟩ := h.rows Tryd.underlying41 (show Tryd.prog.cellsOf 44 = 4 by kernel_rfl) (by decide)
  refine ⟨len, ⟨a, cap, rfl, fun i hi => ?_⟩, by omega⟩
  obtain ⟨b, off, ha, hb, cs, hl, hc, hr⟩ := h3 i hi
  obtain ⟨q, rfl⟩ := sd_of hr
  exact ⟨b, off, ha, hb, q, hc 0 (by simp), hc 1 (by simp), hc 2 (by simp), hc 3 (by simp)⟩
theorem sameP_of {xs ys : List (EnM × Value)} (h : ys.map (·.1) = xs.map (·.1)) : SameP xs ys := by
  have hl : ys.length = xs.length := by simpa using congrArg List.length h
  refine ⟨hl.symm, fun j hj hj' => ?_⟩
  have h1 : (ys.map (·.1))[j]? = (xs.map (·.1))[j]? := by rw [h]
  rw [List.getElem?_map, List.getElem?_map, List.getElem?_eq_getElem hj, List.getElem?_eq_getElem hj'] at h1
  simp only [Option.map_some, Option.some.injEq] at h1
  rw [h1]
  exact enSame_self _
theorem all_ok {ps : List (EnM × Value)} (h : ∀ q ∈ ps, q.1.ok = true) : rowOk ps = true := by
  unfold rowOk; rw [List.all_eq_true]; exact h
theorem rowBs_len {xs : List EnM} (h : ∀ x ∈ xs, x.ok = true) (hl : xs.length ≤ 40) : (rowBs xs).length ≤ 100000 := by
  have h1 := flat400 (xs.map rowTx) (by
    intro y hy
    obtain ⟨x, hx, rfl⟩ := List.mem_map.1 hy
    exact rowTx_len (h x hx))
  have h2 := vint_len xs.length
  unfold rowBs
  rw [List.length_append]
  rw [List.length_map] at h1
  omega
set_option maxRecDepth 100000 in
set_option maxHeartbeats 32000000 in
theorem back04 (a : Option Addr) (n c : Nat) (w : World) (hv : SdS w (.slice a n c) n) (hk : KindsAt w) (hn : n ≤ maxLen) :
    Calls Tryd.prog 5 #[.slice a n c] w fun e w' => e = .returned (.bool true) ∧ Below w.heap.size w w' := by
  have HW := Lib.hid (works4_any (Sep.start w) hk)
  have HK := Lib.hid hk
  have HV := Lib.hid hv
  have n0 : (0 : Int) ≤ (n : Int) := by omega
  have n1 : (n : Int) ≤ 9223372036854775807 := by unfold maxLen at hn; omega
  clear hv hk hn
  go_enter Tryd.func5, Tryd.ntmps5
  go_wp2_with fail
  refine HW.out.mono ?_
  rintro r0 w1 ⟨rfl, h1⟩
  have H1 := Lib.hid h1.enNil
  clear h1 HW
  go_wp2_with fail
  go_loopw [3, 4] (fun pv i wr => ∃ (j : Nat) (ps : List (EnM × Value)) (av : Option Addr) (cv : Nat), j ≤ n ∧ j ≤ 40 ∧ i = .int .i64 j ∧ pv = .slice av ps.length cv ∧ ps.length = j ∧ (∀ q ∈ ps, q.1.ok = true) ∧ Sep w [EnT (.slice av ps.length cv) ps] wr) (fun _ i _ => n - (intOf i).toNat)
  case atStart => exact ⟨0, [], none, 0, Nat.zero_le _, Nat.zero_le _, rfl, rfl, rfl, by simp, H1.out⟩
  case round =>
    obtain ⟨j, ps, av, cv, hj, hj4, rfl, rfl, hpl, hok, hs⟩ := hrel
    clear H1
    have j0 : (0 : Int) ≤ (j : Int) := by omega
    have j40 : (j : Int) ≤ 40 := by omega
    have HPS := Lib.hid (And.intro hpl hok)
    by_cases hgo : j < n ∧ j < 40
    · have hd : decide (j < n) = true := decide_eq_true hgo.1
      have hd2 : decide ((j : Int) < 40) = true := decide_eq_true (by omega)
      have j1 : (j : Int) < (n : Int) := by omega
      obtain ⟨bx, off, rfl, zc, zm, zk, zn, e0, e1, e2, e3⟩ := HV.out.at hgo.1 hs.low
      have HG := Lib.hid hgo
      have HM := Lib.hid (made4_any zc zm zk zn hs)
      clear hs hgo hpl hok hj hj4
      go_wp2_with fail
      refine HM.out.mono ?_
      rintro r0 w2 ⟨x, u, rfl, hx, h2⟩
      obtain ⟨ax, kx, rfl, -⟩ := h2.rnForm
      have h3 := h2.alloc (.cells (enC x (.slice ax x.p.ls.length kx)) 26)
      obtain ⟨b5, hb5⟩ : ∃ z, z = w2.heap.size := ⟨_, rfl⟩
      obtain ⟨w3, hw3⟩ : ∃ z, z = w2.alloc (.cells (enC x (.slice ax x.p.ls.length kx)) 26) := ⟨_, rfl⟩
      rw [← hb5, ← hw3] at h3
      have hbs := ebytes_u x (.slice ax x.p.ls.length kx) h3 (Sep.lnS h3.sw2) (HK.out.below h3.low)
      rw [hx] at hbs
      have HB := Lib.hid hbs
      unfold BysE enV eB at HB
      simp only [if_true] at HB
      have HX := Lib.hid hx
      unfold enC at h3 hw3
      obtain ⟨c0, c1, c2, c3, c4, c5, c6⟩ := cells7 h3
      unfold enV
      clear h2 h3 hbs hx e0 e1 e2 e3 HM
      go_wp2_with fail
      rw [← hw3, ← hb5]
      clear hw3 hb5
      refine HB.out.mono ?_
      rintro r0 w4 ⟨ub, rfl, h4⟩
      obtain ⟨ab, kb, rfl⟩ := h4.sl.len
      have HP := Lib.hid (eparse_any _ (entBs x) h4 h4.sl (HK.out.below h4.low) (by have := entBs_len HX.out; omega))
      clear h4 HB c0 c1 c2 c3 c4 c5 c6
      go_wp2_with fail
      refine HP.out.mono ?_
      rintro r0 w5 ⟨y, err, uy, rfl, hp, h5⟩
      rw [prsEn_back HX.out] at hp
      obtain ⟨hyx, rfl⟩ := Prod.mk.inj hp
      subst y
      obtain ⟨ay, ky, rfl, -⟩ := h5.rnForm
      have h6 := h5.alloc (.cells (enC x (.slice ay x.p.ls.length ky)) 26)
      obtain ⟨b8, hb8⟩ : ∃ z, z = w5.heap.size := ⟨_, rfl⟩
      obtain ⟨w6, hw6⟩ : ∃ z, z = w5.alloc (.cells (enC x (.slice ay x.p.ls.length ky)) 26) := ⟨_, rfl⟩
      rw [← hb8, ← hw6] at h6
      have hck := echeck_any x (.slice ax x.p.ls.length kx) h6.drew (Sep.lnS h6.drew.sw5) (HK.out.below h6.drew.low)
      rw [HX.out] at hck
      have HCK := Lib.hid hck
      unfold enV eB at HCK
      simp only [if_true] at HCK
      unfold enC at h6 hw6
      obtain ⟨c0, c1, c2, c3, c4, c5, c6⟩ := cells7 h6.sw4
      obtain ⟨d0, d1, d2, d3, d4, d5, d6⟩ := cells7 h6
      unfold enV
      clear h5 h6 hck hp HP
      go_wp2_with fail
      rw [← hw6, ← hb8]
      clear hw6 hb8
      refine wp_region_G (fun w' => w'.cell? ⟨b5, 0, none⟩ = some (.int .i64 x.c) ∧ w'.cell? ⟨b5, 1, none⟩ = some (.int .i64 x.m) ∧ w'.cell? ⟨b5, 2, none⟩ = some (.int .i64 x.p.k) ∧ w'.cell? ⟨b5, 3, none⟩ = some (.string x.p.s.1) ∧ w'.cell? ⟨b5, 4, none⟩ = some (.int .i64 x.p.o) ∧ w'.cell? ⟨b5, 5, none⟩ = some (.int .i64 x.p.n) ∧ w'.cell? ⟨b5, 6, none⟩ = some (.slice ax x.p.ls.length kx) ∧ w'.cell? ⟨b8, 0, none⟩ = some (.int .i64 x.c) ∧ w'.cell? ⟨b8, 1, none⟩ = some (.int .i64 x.m) ∧ w'.cell? ⟨b8, 2, none⟩ = some (.int .i64 x.p.k) ∧ w'.cell? ⟨b8, 3, none⟩ = some (.string x.p.s.1) ∧ w'.cell? ⟨b8, 4, none⟩ = some (.int .i64 x.p.o) ∧ w'.cell? ⟨b8, 5, none⟩ = some (.int .i64 x.p.n) ∧ w'.cell? ⟨b8, 6, none⟩ = some (.slice ay x.p.ls.length ky)) [] (by kernel_rfl) ⟨c0, c1, c2, c3, c4, c5, c6, d0, d1, d2, d3, d4, d5, d6⟩ (fun hS => ?_)
      try dsimp only at hS
      refine wpAnyG_take' (i := 0) (v := ?v0_1eb) rfl (by kernel_rfl) (by kernel_rfl) (by kernel_rfl) (by kernel_rfl) (fun _ _ _ h => h) (Or.inl ⟨by rfl, ?hy0_1eb⟩) hS ?rest0_1eb
      case hy0_1eb => intro w hSw; (try dsimp only at hSw); go_simp; (try with_reducible rfl)
      case rest0_1eb =>
      try simp only [List.getElem_toArray, List.getElem_cons_succ, List.getElem_cons_zero, Act.put, List.setIfInBounds_toArray, List.set_cons_zero, List.set_cons_succ]
      refine wpAnyG_one (i := 1) (by kernel_rfl) rfl (fun K hK => ?_)
      go_simp
      refine Calls.mono HCK.out ?_
      rintro r1 w1 ⟨rfl, h7⟩
      clear c0 c1 c2 c3 c4 c5 c6 d0 d1 d2 d3 d4 d5 d6
      obtain ⟨c0, c1, c2, c3, c4, c5, c6⟩ := cells7 h7.sw4
      obtain ⟨d0, d1, d2, d3, d4, d5, d6⟩ := cells7 h7
      have hsm := esame_any x x (.slice ax x.p.ls.length kx) (.slice ay x.p.ls.length ky) h7 (Sep.lnS h7.sw5) (Sep.lnS h7.sw2) (lns_maxl (Sep.lnS h7.sw5))
      rw [enSame_self] at hsm
      have HSM := Lib.hid hsm
      unfold enV at HSM
      clear h7 hsm HCK
      go_wp2_with fail
      refine hK.out _ _ (fun _ => ?hS2eb) ?rest2eb
      case hS2eb => exact ⟨c0, c1, c2, c3, c4, c5, c6, d0, d1, d2, d3, d4, d5, d6⟩
      clear K hK
      try simp only [List.getElem_toArray, List.getElem_cons_succ, List.getElem_cons_zero, Act.put, List.setIfInBounds_toArray, List.set_cons_zero, List.set_cons_succ]
      refine wpAnyG_take' (i := 2) (v := ?v2_3eb) rfl (by kernel_rfl) (by kernel_rfl) (by kernel_rfl) (by kernel_rfl) (fun _ _ _ h => h) (Or.inl ⟨by rfl, ?hy2_3eb⟩) ⟨c0, c1, c2, c3, c4, c5, c6, d0, d1, d2, d3, d4, d5, d6⟩ ?rest2_3eb
      case hy2_3eb => intro w hSw; (try dsimp only at hSw); go_simp; (try with_reducible rfl)
      case rest2_3eb =>
      try simp only [List.getElem_toArray, List.getElem_cons_succ, List.getElem_cons_zero, Act.put, List.setIfInBounds_toArray, List.set_cons_zero, List.set_cons_succ]
      refine wpAnyG_take' (i := 3) (v := ?v3_4eb) rfl (by kernel_rfl) (by kernel_rfl) (by kernel_rfl) (by kernel_rfl) (fun _ _ _ h => h) (Or.inl ⟨by rfl, ?hy3_4eb⟩) ⟨c0, c1, c2, c3, c4, c5, c6, d0, d1, d2, d3, d4, d5, d6⟩ ?rest3_4eb
      case hy3_4eb => intro w hSw; (try dsimp only at hSw); go_simp; (try with_reducible rfl)
      case rest3_4eb =>
      try simp only [List.getElem_toArray, List.getElem_cons_succ, List.getElem_cons_zero, Act.put, List.setIfInBounds_toArray, List.set_cons_zero, List.set_cons_succ]
      refine wpAnyG_take' (i := 4) (v := ?v4_5eb) rfl (by kernel_rfl) (by kernel_rfl) (by kernel_rfl) (by kernel_rfl) (fun _ _ _ h => h) (Or.inl ⟨by rfl, ?hy4_5eb⟩) ⟨c0, c1, c2, c3, c4, c5, c6, d0, d1, d2, d3, d4, d5, d6⟩ ?rest4_5eb
      case hy4_5eb => intro w hSw; (try dsimp only at hSw); go_simp; (try with_reducible rfl)
      case rest4_5eb =>
      try simp only [List.getElem_toArray, List.getElem_cons_succ, List.getElem_cons_zero, Act.put, List.setIfInBounds_toArray, List.set_cons_zero, List.set_cons_succ]
      refine wpAnyG_take' (i := 5) (v := ?v5_6eb) rfl (by kernel_rfl) (by kernel_rfl) (by kernel_rfl) (by kernel_rfl) (fun _ _ _ h => h) (Or.inl ⟨by rfl, ?hy5_6eb⟩) ⟨c0, c1, c2, c3, c4, c5, c6, d0, d1, d2, d3, d4, d5, d6⟩ ?rest5_6eb
      case hy5_6eb => intro w hSw; (try dsimp only at hSw); go_simp; (try with_reducible rfl)
      case rest5_6eb =>
      try simp only [List.getElem_toArray, List.getElem_cons_succ, List.getElem_cons_zero, Act.put, List.setIfInBounds_toArray, List.set_cons_zero, List.set_cons_succ]
      refine wpAnyG_take' (i := 6) (v := ?v6_7eb) rfl (by kernel_rfl) (by kernel_rfl) (by kernel_rfl) (by kernel_rfl) (fun _ _ _ h => h) (Or.inl ⟨by rfl, ?hy6_7eb⟩) ⟨c0, c1, c2, c3, c4, c5, c6, d0, d1, d2, d3, d4, d5, d6⟩ ?rest6_7eb
      case hy6_7eb => intro w hSw; (try dsimp only at hSw); go_simp; (try with_reducible rfl)
      case rest6_7eb =>
      try simp only [List.getElem_toArray, List.getElem_cons_succ, List.getElem_cons_zero, Act.put, List.setIfInBounds_toArray, List.set_cons_zero, List.set_cons_succ]
      refine wpAnyG_take' (i := 7) (v := ?v7_8eb) rfl (by kernel_rfl) (by kernel_rfl) (by kernel_rfl) (by kernel_rfl) (fun _ _ _ h => h) (Or.inl ⟨by rfl, ?hy7_8eb⟩) ⟨c0, c1, c2, c3, c4, c5, c6, d0, d1, d2, d3, d4, d5, d6⟩ ?rest7_8eb
      case hy7_8eb => intro w hSw; (try dsimp only at hSw); go_simp; (try with_reducible rfl)
      case rest7_8eb =>
      try simp only [List.getElem_toArray, List.getElem_cons_succ, List.getElem_cons_zero, Act.put, List.setIfInBounds_toArray, List.set_cons_zero, List.set_cons_succ]
      refine wpAnyG_take' (i := 8) (v := ?v8_9eb) rfl (by kernel_rfl) (by kernel_rfl) (by kernel_rfl) (by kernel_rfl) (fun _ _ _ h => h) (Or.inl ⟨by rfl, ?hy8_9eb⟩) ⟨c0, c1, c2, c3, c4, c5, c6, d0, d1, d2, d3, d4, d5, d6⟩ ?rest8_9eb
      case hy8_9eb => intro w hSw; (try dsimp only at hSw); go_simp; (try with_reducible rfl)
      case rest8_9eb =>
      try simp only [List.getElem_toArray, List.getElem_cons_succ, List.getElem_cons_zero, Act.put, List.setIfInBounds_toArray, List.set_cons_zero, List.set_cons_succ]
      refine wpAnyG_take' (i := 9) (v := ?v9_10eb) rfl (by kernel_rfl) (by kernel_rfl) (by kernel_rfl) (by kernel_rfl) (fun _ _ _ h => h) (Or.inl ⟨by rfl, ?hy9_10eb⟩) ⟨c0, c1, c2, c3, c4, c5, c6, d0, d1, d2, d3, d4, d5, d6⟩ ?rest9_10eb
      case hy9_10eb => intro w hSw; (try dsimp only at hSw); go_simp; (try with_reducible rfl)
      case rest9_10eb =>
      try simp only [List.getElem_toArray, List.getElem_cons_succ, List.getElem_cons_zero, Act.put, List.setIfInBounds_toArray, List.set_cons_zero, List.set_cons_succ]
      refine wpAnyG_take' (i := 10) (v := ?v10_11eb) rfl (by kernel_rfl) (by kernel_rfl) (by kernel_rfl) (by kernel_rfl) (fun _ _ _ h => h) (Or.inl ⟨by rfl, ?hy10_11eb⟩) ⟨c0, c1, c2, c3, c4, c5, c6, d0, d1, d2, d3, d4, d5, d6⟩ ?rest10_11eb
      case hy10_11eb => intro w hSw; (try dsimp only at hSw); go_simp; (try with_reducible rfl)
      case rest10_11eb =>
      try simp only [List.getElem_toArray, List.getElem_cons_succ, List.getElem_cons_zero, Act.put, List.setIfInBounds_toArray, List.set_cons_zero, List.set_cons_succ]
      refine wpAnyG_take' (i := 11) (v := ?v11_12eb) rfl (by kernel_rfl) (by kernel_rfl) (by kernel_rfl) (by kernel_rfl) (fun _ _ _ h => h) (Or.inl ⟨by rfl, ?hy11_12eb⟩) ⟨c0, c1, c2, c3, c4, c5, c6, d0, d1, d2, d3, d4, d5, d6⟩ ?rest11_12eb
      case hy11_12eb => intro w hSw; (try dsimp only at hSw); go_simp; (try with_reducible rfl)
      case rest11_12eb =>
      try simp only [List.getElem_toArray, List.getElem_cons_succ, List.getElem_cons_zero, Act.put, List.setIfInBounds_toArray, List.set_cons_zero, List.set_cons_succ]
      refine wpAnyG_take' (i := 12) (v := ?v12_13eb) rfl (by kernel_rfl) (by kernel_rfl) (by kernel_rfl) (by kernel_rfl) (fun _ _ _ h => h) (Or.inl ⟨by rfl, ?hy12_13eb⟩) ⟨c0, c1, c2, c3, c4, c5, c6, d0, d1, d2, d3, d4, d5, d6⟩ ?rest12_13eb
      case hy12_13eb => intro w hSw; (try dsimp only at hSw); go_simp; (try with_reducible rfl)
      case rest12_13eb =>
      try simp only [List.getElem_toArray, List.getElem_cons_succ, List.getElem_cons_zero, Act.put, List.setIfInBounds_toArray, List.set_cons_zero, List.set_cons_succ]
      refine wpAnyG_take' (i := 13) (v := ?v13_14eb) rfl (by kernel_rfl) (by kernel_rfl) (by kernel_rfl) (by kernel_rfl) (fun _ _ _ h => h) (Or.inl ⟨by rfl, ?hy13_14eb⟩) ⟨c0, c1, c2, c3, c4, c5, c6, d0, d1, d2, d3, d4, d5, d6⟩ ?rest13_14eb
      case hy13_14eb => intro w hSw; (try dsimp only at hSw); go_simp; (try with_reducible rfl)
      case rest13_14eb =>
      try simp only [List.getElem_toArray, List.getElem_cons_succ, List.getElem_cons_zero, Act.put, List.setIfInBounds_toArray, List.set_cons_zero, List.set_cons_succ]
      refine wpAnyG_one (i := 14) (by kernel_rfl) rfl (fun K hK => ?_)
      go_simp
      refine Calls.mono HSM.out ?_
      rintro r14 w14 ⟨rfl, h8⟩
      clear c0 c1 c2 c3 c4 c5 c6 d0 d1 d2 d3 d4 d5 d6
      obtain ⟨c0, c1, c2, c3, c4, c5, c6⟩ := cells7 h8.sw4
      obtain ⟨d0, d1, d2, d3, d4, d5, d6⟩ := cells7 h8
      have HCP := Lib.hid (ecopy_any x (.slice ax x.p.ls.length kx) h8 (Sep.lnS h8.sw5) (by have := ok_len (EnM.parts HX.out).2; omega))
      unfold enV at HCP
      clear h8 HSM
      go_wp2_with fail
      refine hK.out _ _ (fun _ => ?hS15eb) ?rest15eb
      case hS15eb => exact ⟨c0, c1, c2, c3, c4, c5, c6, d0, d1, d2, d3, d4, d5, d6⟩
      clear K hK
      try simp only [List.getElem_toArray, List.getElem_cons_succ, List.getElem_cons_zero, Act.put, List.setIfInBounds_toArray, List.set_cons_zero, List.set_cons_succ]
      refine wpAnyG_take' (i := 15) (v := ?v15_16eb) rfl (by kernel_rfl) (by kernel_rfl) (by kernel_rfl) (by kernel_rfl) (fun _ _ _ h => h) (Or.inl ⟨by rfl, ?hy15_16eb⟩) ⟨c0, c1, c2, c3, c4, c5, c6, d0, d1, d2, d3, d4, d5, d6⟩ ?rest15_16eb
      case hy15_16eb => intro w hSw; (try dsimp only at hSw); go_simp; (try with_reducible rfl)
      case rest15_16eb =>
      try simp only [List.getElem_toArray, List.getElem_cons_succ, List.getElem_cons_zero, Act.put, List.setIfInBounds_toArray, List.set_cons_zero, List.set_cons_succ]
      refine wpAnyG_take' (i := 16) (v := ?v16_17eb) rfl (by kernel_rfl) (by kernel_rfl) (by kernel_rfl) (by kernel_rfl) (fun _ _ _ h => h) (Or.inl ⟨by rfl, ?hy16_17eb⟩) ⟨c0, c1, c2, c3, c4, c5, c6, d0, d1, d2, d3, d4, d5, d6⟩ ?rest16_17eb
      case hy16_17eb => intro w hSw; (try dsimp only at hSw); go_simp; (try with_reducible rfl)
      case rest16_17eb =>
      try simp only [List.getElem_toArray, List.getElem_cons_succ, List.getElem_cons_zero, Act.put, List.setIfInBounds_toArray, List.set_cons_zero, List.set_cons_succ]
      refine wpAnyG_take' (i := 17) (v := ?v17_18eb) rfl (by kernel_rfl) (by kernel_rfl) (by kernel_rfl) (by kernel_rfl) (fun _ _ _ h => h) (Or.inl ⟨by rfl, ?hy17_18eb⟩) ⟨c0, c1, c2, c3, c4, c5, c6, d0, d1, d2, d3, d4, d5, d6⟩ ?rest17_18eb
      case hy17_18eb => intro w hSw; (try dsimp only at hSw); go_simp; (try with_reducible rfl)
      case rest17_18eb =>
      try simp only [List.getElem_toArray, List.getElem_cons_succ, List.getElem_cons_zero, Act.put, List.setIfInBounds_toArray, List.set_cons_zero, List.set_cons_succ]
      refine wpAnyG_take' (i := 18) (v := ?v18_19eb) rfl (by kernel_rfl) (by kernel_rfl) (by kernel_rfl) (by kernel_rfl) (fun _ _ _ h => h) (Or.inl ⟨by rfl, ?hy18_19eb⟩) ⟨c0, c1, c2, c3, c4, c5, c6, d0, d1, d2, d3, d4, d5, d6⟩ ?rest18_19eb
      case hy18_19eb => intro w hSw; (try dsimp only at hSw); go_simp; (try with_reducible rfl)
      case rest18_19eb =>
      try simp only [List.getElem_toArray, List.getElem_cons_succ, List.getElem_cons_zero, Act.put, List.setIfInBounds_toArray, List.set_cons_zero, List.set_cons_succ]
      refine wpAnyG_take' (i := 19) (v := ?v19_20eb) rfl (by kernel_rfl) (by kernel_rfl) (by kernel_rfl) (by kernel_rfl) (fun _ _ _ h => h) (Or.inl ⟨by rfl, ?hy19_20eb⟩) ⟨c0, c1, c2, c3, c4, c5, c6, d0, d1, d2, d3, d4, d5, d6⟩ ?rest19_20eb
      case hy19_20eb => intro w hSw; (try dsimp only at hSw); go_simp; (try with_reducible rfl)
      case rest19_20eb =>
      try simp only [List.getElem_toArray, List.getElem_cons_succ, List.getElem_cons_zero, Act.put, List.setIfInBounds_toArray, List.set_cons_zero, List.set_cons_succ]
      refine wpAnyG_one (i := 20) (by kernel_rfl) rfl (fun K hK => ?_)
      go_simp
      refine Calls.mono HCP.out ?_
      rintro r20 w20 ⟨uc, rfl, h9⟩
      obtain ⟨ac, kc, rfl, -⟩ := h9.rnForm
      clear c0 c1 c2 c3 c4 c5 c6 d0 d1 d2 d3 d4 d5 d6
      obtain ⟨c0, c1, c2, c3, c4, c5, c6⟩ := cells7 h9.sw5
      obtain ⟨d0, d1, d2, d3, d4, d5, d6⟩ := cells7 h9.sw2
      have hsm := esame_any x x (.slice ay x.p.ls.length ky) (.slice ac x.p.ls.length kc) h9 (Sep.lnS h9.sw3) (Sep.lnS h9) (lns_maxl (Sep.lnS h9))
      rw [enSame_self] at hsm
      have HSM := Lib.hid hsm
      unfold enV at HSM
      clear h9 hsm HCP
      go_wp2_with fail
      refine hK.out _ _ (fun _ => ?hS21eb) ?rest21eb
      case hS21eb => exact ⟨c0, c1, c2, c3, c4, c5, c6, d0, d1, d2, d3, d4, d5, d6⟩
      clear K hK
      try simp only [List.getElem_toArray, List.getElem_cons_succ, List.getElem_cons_zero, Act.put, List.setIfInBounds_toArray, List.set_cons_zero, List.set_cons_succ]
      refine wpAnyG_one (i := 21) (by kernel_rfl) rfl (fun K hK => ?_)
      go_simp
      refine Calls.mono HSM.out ?_
      rintro r21 w21 ⟨rfl, h10⟩
      clear c0 c1 c2 c3 c4 c5 c6 d0 d1 d2 d3 d4 d5 d6
      obtain ⟨c0, c1, c2, c3, c4, c5, c6⟩ := cells7 h10.sw5
      obtain ⟨d0, d1, d2, d3, d4, d5, d6⟩ := cells7 h10.sw2
      have H10 := Lib.hid h10
      clear h10 HSM
      go_wp2_with fail
      refine hK.out _ _ (fun _ => ?hS22eb) ?rest22eb
      case hS22eb => exact ⟨c0, c1, c2, c3, c4, c5, c6, d0, d1, d2, d3, d4, d5, d6⟩
      clear K hK
      try simp only [List.getElem_toArray, List.getElem_cons_succ, List.getElem_cons_zero, Act.put, List.setIfInBounds_toArray, List.set_cons_zero, List.set_cons_succ]
      refine wpAnyG_take' (i := 22) (v := ?v22_23eb) rfl (by kernel_rfl) (by kernel_rfl) (by kernel_rfl) (by kernel_rfl) (fun _ _ _ h => h) (Or.inl ⟨by rfl, ?hy22_23eb⟩) ⟨c0, c1, c2, c3, c4, c5, c6, d0, d1, d2, d3, d4, d5, d6⟩ ?rest22_23eb
      case hy22_23eb => intro w hSw; (try dsimp only at hSw); go_simp; (try with_reducible rfl)
      case rest22_23eb =>
      try simp only [List.getElem_toArray, List.getElem_cons_succ, List.getElem_cons_zero, Act.put, List.setIfInBounds_toArray, List.set_cons_zero, List.set_cons_succ]
      refine wpAnyG_take' (i := 23) (v := ?v23_24eb) rfl (by kernel_rfl) (by kernel_rfl) (by kernel_rfl) (by kernel_rfl) (fun _ _ _ h => h) (Or.inl ⟨by rfl, ?hy23_24eb⟩) ⟨c0, c1, c2, c3, c4, c5, c6, d0, d1, d2, d3, d4, d5, d6⟩ ?rest23_24eb
      case hy23_24eb => intro w hSw; (try dsimp only at hSw); go_simp; (try with_reducible rfl)
      case rest23_24eb =>
      try simp only [List.getElem_toArray, List.getElem_cons_succ, List.getElem_cons_zero, Act.put, List.setIfInBounds_toArray, List.set_cons_zero, List.set_cons_succ]
      refine wpAnyG_done (by kernel_rfl) ?_ _
      try simp only [List.getElem_toArray, List.getElem_cons_succ, List.getElem_cons_zero, Act.put, List.setIfInBounds_toArray, List.set_cons_zero, List.set_cons_succ]
      have h11 := H10.out.alloc (.cells (enC x (.slice ax x.p.ls.length kx)) 26)
      obtain ⟨a2, c2', w12, hr, h12⟩ := append_en (ty := 38) (h11.pick [0, 7, 6] rfl : Sep w [Cl w21.heap.size (enC x (.slice ax x.p.ls.length kx)) 26, EnT (.slice av ps.length cv) ps, LnR (.slice ax x.p.ls.length kx) x.p.ls] _) rfl (by have := HPS.out.1; have := HG.out.2; omega)
      unfold enC at hr
      have HAP := Lib.hid hr
      have H12 := Lib.hid h12
      clear h11 hr h12 H10 hS
      go_wp2_with (at_builtin; refine wpList_append_run rfl _ _ _ _ rfl rfl rfl HAP.out ?_)
      go_roundw
      case rel =>
        refine ⟨j + 1, ps ++ [(x, .slice ax x.p.ls.length kx)], a2, c2', HG.out.1, HG.out.2, by go_num, by rw [List.length_append, List.length_singleton], by rw [List.length_append, List.length_singleton, HPS.out.1], ?_, by rw [List.length_append, List.length_singleton]; exact H12.out⟩
        intro q hq
        rcases List.mem_append.1 hq with hq | hq
        · exact HPS.out.2 q hq
        · rw [List.mem_singleton.1 hq]; exact HX.out
      case measure => have := HG.out.1; simp [intOf]; omega
    · by_cases hjn : j < n
      · have hd : decide (j < n) = true := decide_eq_true hjn
        have hd2 : decide ((j : Int) < 40) = false := decide_eq_false (by omega)
        have j1 : (j : Int) < (n : Int) := by omega
        clear hjn
        have hro := row_any av cv ps.length ps hs hs.enS (HK.out.below hs.low) rfl (by omega)
        rw [all_ok hok] at hro
        have HRO := Lib.hid hro
        unfold BysE eB at HRO
        simp only [if_true] at HRO
        have HOK : Hid (∀ x ∈ ps.map (·.1), x.ok = true) := Lib.hid (fun y hy => by obtain ⟨q, hq, rfl⟩ := List.mem_map.1 hy; exact hok q hq)
        have HL := Lib.hid (show ps.length ≤ 40 by omega)
        clear hs hro hok hpl hj hj4 hgo HPS
        go_wp2_with fail
        refine HRO.out.mono ?_
        rintro r0 w2 ⟨ub, rfl, h2⟩
        obtain ⟨ab, kb, rfl⟩ := h2.sl.len
        have hrw := rows_any _ (rowBs (ps.map (·.1))) h2 h2.sl (HK.out.below h2.low) (by have := rowBs_len HOK.out (by rw [List.length_map]; exact HL.out); omega)
        rw [rwsOf_back HOK.out (by rw [List.length_map]; unfold U64; have := HL.out; omega)] at hrw
        have HRW := Lib.hid hrw
        unfold RwsP at HRW
        clear h2 hrw HRO
        go_wp2_with fail
        refine HRW.out.mono ?_
        rintro r0 w3 ⟨ms, um, rfl, hms, h3⟩
        dsimp only at hms ⊢
        have hlen : ms.length = ps.length := by simpa using congrArg List.length hms
        obtain ⟨am, km, rfl, -⟩ := h3.enForm
        have hsr := samerow_w av am cv km ps ms h3.sw3.enS h3.enS (by have := HL.out; omega) (by have := HL.out; omega)
        rw [hlen] at hsr ⊢
        have HSR := Lib.hid hsr
        have HSP := Lib.hid (sameP_of hms)
        have H3 := Lib.hid (h3.pick [] rfl : Sep w [] w3)
        clear h3 hms hlen hsr HRW
        have RL : ∀ (wx : World) (b : Option Addr) (n c : Nat), (Builtin.len_ #[38] 3 #[.slice b n c]).run Tryd.prog wx = .ok (.int .i64 n) wx := fun wx b n c => run_len_slice _ _ _ _ _ _ (by kernel_rfl)
        have l0 : (ps.length : Int) ≤ 40 := by have := HL.out; omega
        have l1 : (0 : Int) ≤ (ps.length : Int) := by omega
        go_wp2_with (refine HSR.out.mono ?_; rintro r0 w4 ⟨r, rfl, hr, h4⟩; obtain rfl : r = true := hr.2 HSP.out)
        go_ret
        exact ⟨rfl, (H3.out.below h4.low).low⟩
      · have hd : decide (j < n) = false := decide_eq_false hjn
        clear hjn
        have hro := row_any av cv ps.length ps hs hs.enS (HK.out.below hs.low) rfl (by omega)
        rw [all_ok hok] at hro
        have HRO := Lib.hid hro
        unfold BysE eB at HRO
        simp only [if_true] at HRO
        have HOK : Hid (∀ x ∈ ps.map (·.1), x.ok = true) := Lib.hid (fun y hy => by obtain ⟨q, hq, rfl⟩ := List.mem_map.1 hy; exact hok q hq)
        have HL := Lib.hid (show ps.length ≤ 40 by omega)
        clear hs hro hok hpl hj hj4 hgo HPS
        go_wp2_with fail
        refine HRO.out.mono ?_
        rintro r0 w2 ⟨ub, rfl, h2⟩
        obtain ⟨ab, kb, rfl⟩ := h2.sl.len
        have hrw := rows_any _ (rowBs (ps.map (·.1))) h2 h2.sl (HK.out.below h2.low) (by have := rowBs_len HOK.out (by rw [List.length_map]; exact HL.out); omega)
        rw [rwsOf_back HOK.out (by rw [List.length_map]; unfold U64; have := HL.out; omega)] at hrw
        have HRW := Lib.hid hrw
        unfold RwsP at HRW
        clear h2 hrw HRO
        go_wp2_with fail
        refine HRW.out.mono ?_
        rintro r0 w3 ⟨ms, um, rfl, hms, h3⟩
        dsimp only at hms ⊢
        have hlen : ms.length = ps.length := by simpa using congrArg List.length hms
        obtain ⟨am, km, rfl, -⟩ := h3.enForm
        have hsr := samerow_w av am cv km ps ms h3.sw3.enS h3.enS (by have := HL.out; omega) (by have := HL.out; omega)
        rw [hlen] at hsr ⊢
        have HSR := Lib.hid hsr
        have HSP := Lib.hid (sameP_of hms)
        have H3 := Lib.hid (h3.pick [] rfl : Sep w [] w3)
        clear h3 hms hlen hsr HRW
        have RL : ∀ (wx : World) (b : Option Addr) (n c : Nat), (Builtin.len_ #[38] 3 #[.slice b n c]).run Tryd.prog wx = .ok (.int .i64 n) wx := fun wx b n c => run_len_slice _ _ _ _ _ _ (by kernel_rfl)
        have l0 : (ps.length : Int) ≤ 40 := by have := HL.out; omega
        have l1 : (0 : Int) ≤ (ps.length : Int) := by omega
        go_wp2_with (refine HSR.out.mono ?_; rintro r0 w4 ⟨r, rfl, hr, h4⟩; obtain rfl : r = true := hr.2 HSP.out)
        go_ret
        exact ⟨rfl, (H3.out.below h4.low).low⟩
theorem back04_in (v : Value) (w : World) (h : RdC Tryd.prog w 41 [v]) (hk : KindsAt w) :
    Calls Tryd.prog 5 #[v] w fun e w' => e = .returned (.bool true) ∧ Below w.heap.size w w' := by
  obtain ⟨n, h1, h2⟩ := sds_of h
  obtain ⟨a, c, rfl, h3⟩ := h1
  exact back04 a n c w ⟨a, c, rfl, h3⟩ hk h2
end Go.Proofs.YtcicclghgbdgnaaDoor
