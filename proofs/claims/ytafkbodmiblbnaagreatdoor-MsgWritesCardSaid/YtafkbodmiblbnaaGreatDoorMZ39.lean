/- Stage 5, MsgWrites: what came in; the contracts; the statement's walk. -/
import Derived.Test.YtafkbodmiblbnaaGreatDoorRows
import Derived.LaidMore
import Derived.ProofKit
import Derived.OpenShut
import Derived.Stop.Joined
import Derived.Test.YtafkbodmiblbnaaGreatDoorMMw1
import Derived.Test.YtafkbodmiblbnaaGreatDoorMRm9
import Derived.Test.YtafkbodmiblbnaaGreatDoorMZ38
import Derived.Test.YtafkbodmiblbnaaGreatDoorMZ18
namespace Go.Proofs.YtafkbodmiblbnaaGreatDoor
open Go Go.RowKit
set_option linter.unusedVariables false
set_option linter.unusedSimpArgs false
theorem listM7 {cs : List Value} (h : cs.length = 7) : ∃ u0 u1 u2 u3 u4 u5 u6, cs = [u0, u1, u2, u3, u4, u5, u6] := by
  match cs, h with
  | [u0, u1, u2, u3, u4, u5, u6], _ => exact ⟨u0, u1, u2, u3, u4, u5, u6, rfl⟩
theorem listM22 {cs : List Value} (h : cs.length = 22) : ∃ u0 u1 u2 u3 u4 u5 u6 u7 u8 u9 u10 u11 u12 u13 u14 u15 u16 u17 u18 u19 u20 u21, cs = [u0, u1, u2, u3, u4, u5, u6, u7, u8, u9, u10, u11, u12, u13, u14, u15, u16, u17, u18, u19, u20, u21] := by
  match cs, h with
  | [u0, u1, u2, u3, u4, u5, u6, u7, u8, u9, u10, u11, u12, u13, u14, u15, u16, u17, u18, u19, u20, u21], _ => exact ⟨u0, u1, u2, u3, u4, u5, u6, u7, u8, u9, u10, u11, u12, u13, u14, u15, u16, u17, u18, u19, u20, u21, rfl⟩
theorem bounds_i64m {n : Int} (h : (Lit.int .i64 n).wf = true) : -9223372036854775808 ≤ n ∧ n ≤ 9223372036854775807 := by
  simp only [Lit.wf, Bool.and_eq_true, decide_eq_true_eq] at h
  exact h
theorem en_of {w : World} {cs : List Value} (h : RdC Tryz.prog w 26 cs) : ∃ (c m k : Int) (s : KS) (o n : Int) (v : Value) (ls : List Ln), cs = [.int .i64 c, .int .i64 m, .int .i64 k, .string s.1, .int .i64 o, .int .i64 n, v] ∧ LnS w v ls := by
  obtain ⟨hl, hf⟩ := h.struct Tryz.underlying26
  rw [show Tryz.prog.cellsOf 26 = 7 by kernel_rfl] at hl
  obtain ⟨u0, u1, u2, u3, u4, u5, u6, rfl⟩ := listM7 hl
  have g0 := hf _ (List.mem_cons_self ..)
  have g1 := hf _ (List.mem_cons_of_mem _ (List.mem_cons_self ..))
  have g2 := hf _ (List.mem_cons_of_mem _ (List.mem_cons_of_mem _ (List.mem_cons_self ..)))
  rw [show Tryz.prog.cellsOf 3 = 1 by kernel_rfl] at g0 g1
  rw [show Tryz.prog.cellsOf 24 = 5 by kernel_rfl] at g2
  simp only [List.drop_zero, List.drop_succ_cons, List.take_succ_cons, List.take_zero] at g0 g1 g2
  obtain ⟨c, e0, _⟩ := g0.int Tryz.underlying3
  obtain ⟨m, e1, _⟩ := g1.int Tryz.underlying3
  obtain ⟨k, s, o, n, v, ls, e2, hv, _⟩ := op_of g2
  simp only [List.cons.injEq, and_true] at e0 e1 e2
  obtain ⟨e2, e3, e4, e5, e6⟩ := e2
  exact ⟨c, m, k, s, o, n, v, ls, by rw [e0, e1, e2, e3, e4, e5, e6], hv⟩
theorem ens_of {w : World} {v : Value} (h : RdC Tryz.prog w 30 [v]) : ∃ xs : List (EnM × Value), EnS w v xs := by
  obtain ⟨a, len, cap, rfl, h1, h2, h3⟩ := h.rows Tryz.underlying30 (show Tryz.prog.cellsOf 26 = 7 by kernel_rfl) (by decide)
  by_cases h0 : len = 0
  · subst h0
    exact ⟨[], .inl ⟨a, cap, rfl, rfl⟩⟩
  · obtain ⟨b, off, rfl, hb, -⟩ := h3 0 (by omega)
    have hc : ∀ i, i < len → ∃ q : EnM × Value, En7 w b (off + i * 7) q.1 q.2 ∧ LnS w q.2 q.1.p.ls := fun i hi => by
      obtain ⟨b', off', hab, _, cs, hl, hc, hr⟩ := h3 i hi
      simp only [Option.some.injEq, Addr.mk.injEq, and_true] at hab
      obtain ⟨rfl, rfl⟩ := hab
      obtain ⟨c, m, k, s, o, n, u, ls, rfl, hv⟩ := en_of hr
      exact ⟨(⟨c, m, ⟨k, s, o, n, ls⟩⟩, u), ⟨hc 0 (by simp), hc 1 (by simp), hc 2 (by simp), hc 3 (by simp), hc 4 (by simp), hc 5 (by simp), hc 6 (by simp)⟩, hv⟩
    have hpick : ∀ i : Nat, ∃ q : EnM × Value, i < len → En7 w b (off + i * 7) q.1 q.2 ∧ LnS w q.2 q.1.p.ls := fun i => by
      by_cases hi : i < len
      · obtain ⟨q, h⟩ := hc i hi; exact ⟨q, fun _ => h⟩
      · exact ⟨(enZ0, .nilFunc), fun h => absurd h hi⟩
    obtain ⟨f, hf⟩ := Classical.axiomOfChoice hpick
    refine ⟨(List.range len).map f, .inr ⟨b, off, cap, by simp, by simpa using h1, h2, hb, fun i hi => ?_⟩⟩
    have hi' : i < len := by simpa using hi
    rw [List.getElem_map, List.getElem_range]
    exact hf i hi'
theorem sl_bd {w : World} {a : Option Addr} {n c : Nat} {l : List UInt8} (h : Sl w (.slice a n c) (bv l)) : l.length ≤ 9223372036854775807 := by
  rcases h with (⟨h1, h2⟩ | ⟨b, off, cap, h1, h2, h3, h4, h5⟩) | ⟨x, c', h1, h2⟩
  · rw [bv_nil_iff] at h2; subst h2; simp
  · rw [bv_length] at h2; unfold maxLen at h3; omega
  · rw [bv_nil_iff] at h2; subst h2; simp
theorem ens_bd {w : World} {v : Value} {xs : List (EnM × Value)} (h : EnS w v xs) : xs.length ≤ 9223372036854775807 := by
  rcases h with ⟨a, c, h1, rfl⟩ | ⟨b, off, c, h1, h2, h3, h4, h5⟩
  · simp
  · unfold maxLen at h3; omega
theorem gm_of5 {w : World} {v : Value} (h : Av Tryz.prog w 34 v) : ∃ g, v = .agg (mgC g) ∧ GmS w g ∧ g.ck.length ≤ 9223372036854775807 ∧ g.ps.length ≤ 9223372036854775807 ∧ g.ic ≤ 9223372036854775807 := by
  obtain ⟨cs, rfl, h⟩ := h
  obtain ⟨hl, hf⟩ := h.struct Tryz.underlying34
  rw [show Tryz.prog.cellsOf 34 = 22 by kernel_rfl] at hl
  obtain ⟨cs⟩ := cs
  obtain ⟨u0, u1, u2, u3, u4, u5, u6, u7, u8, u9, u10, u11, u12, u13, u14, u15, u16, u17, u18, u19, u20, u21, rfl⟩ := listM22 hl
  have g0 := hf _ (List.mem_cons_self ..)
  have g1 := hf _ (List.mem_cons_of_mem _ (List.mem_cons_self ..))
  have g2 := hf _ (List.mem_cons_of_mem _ (List.mem_cons_of_mem _ (List.mem_cons_self ..)))
  have g3 := hf _ (List.mem_cons_of_mem _ (List.mem_cons_of_mem _ (List.mem_cons_of_mem _ (List.mem_cons_self ..))))
  have g4 := hf _ (List.mem_cons_of_mem _ (List.mem_cons_of_mem _ (List.mem_cons_of_mem _ (List.mem_cons_of_mem _ (List.mem_cons_self ..)))))
  have g5 := hf _ (List.mem_cons_of_mem _ (List.mem_cons_of_mem _ (List.mem_cons_of_mem _ (List.mem_cons_of_mem _ (List.mem_cons_of_mem _ (List.mem_cons_self ..))))))
  have g6 := hf _ (List.mem_cons_of_mem _ (List.mem_cons_of_mem _ (List.mem_cons_of_mem _ (List.mem_cons_of_mem _ (List.mem_cons_of_mem _ (List.mem_cons_of_mem _ (List.mem_cons_self ..)))))))
  have g7 := hf _ (List.mem_cons_of_mem _ (List.mem_cons_of_mem _ (List.mem_cons_of_mem _ (List.mem_cons_of_mem _ (List.mem_cons_of_mem _ (List.mem_cons_of_mem _ (List.mem_cons_of_mem _ (List.mem_cons_self ..))))))))
  have g8 := hf _ (List.mem_cons_of_mem _ (List.mem_cons_of_mem _ (List.mem_cons_of_mem _ (List.mem_cons_of_mem _ (List.mem_cons_of_mem _ (List.mem_cons_of_mem _ (List.mem_cons_of_mem _ (List.mem_cons_of_mem _ (List.mem_cons_self ..)))))))))
  have g9 := hf _ (List.mem_cons_of_mem _ (List.mem_cons_of_mem _ (List.mem_cons_of_mem _ (List.mem_cons_of_mem _ (List.mem_cons_of_mem _ (List.mem_cons_of_mem _ (List.mem_cons_of_mem _ (List.mem_cons_of_mem _ (List.mem_cons_of_mem _ (List.mem_cons_self ..))))))))))
  have g10 := hf _ (List.mem_cons_of_mem _ (List.mem_cons_of_mem _ (List.mem_cons_of_mem _ (List.mem_cons_of_mem _ (List.mem_cons_of_mem _ (List.mem_cons_of_mem _ (List.mem_cons_of_mem _ (List.mem_cons_of_mem _ (List.mem_cons_of_mem _ (List.mem_cons_of_mem _ (List.mem_cons_self ..)))))))))))
  rw [show Tryz.prog.cellsOf 3 = 1 by kernel_rfl] at g0 g1 g2 g3 g4 g5 g6
  rw [show Tryz.prog.cellsOf 26 = 7 by kernel_rfl] at g7
  rw [show Tryz.prog.cellsOf 28 = 3 by kernel_rfl] at g8
  rw [show Tryz.prog.cellsOf 4 = 1 by kernel_rfl] at g9
  rw [show Tryz.prog.cellsOf 32 = 4 by kernel_rfl] at g10
  simp only [List.drop_zero, List.drop_succ_cons, List.take_succ_cons, List.take_zero] at g0 g1 g2 g3 g4 g5 g6 g7 g8 g9 g10
  obtain ⟨k, e0, -⟩ := g0.int Tryz.underlying3
  obtain ⟨f, e1, -⟩ := g1.int Tryz.underlying3
  obtain ⟨t, e2, -⟩ := g2.int Tryz.underlying3
  obtain ⟨v, e3, -⟩ := g3.int Tryz.underlying3
  obtain ⟨o, e4, -⟩ := g4.int Tryz.underlying3
  obtain ⟨cm, e5, -⟩ := g5.int Tryz.underlying3
  obtain ⟨la, e6, -⟩ := g6.int Tryz.underlying3
  obtain ⟨ec, em, pk, ps, po, pn, lv, ls, e7, hln⟩ := en_of g7
  obtain ⟨hl8, hf8⟩ := g8.struct Tryz.underlying28
  have r0 := hf8 _ (List.mem_cons_self ..)
  have r1 := hf8 _ (List.mem_cons_of_mem _ (List.mem_cons_self ..))
  have r2 := hf8 _ (List.mem_cons_of_mem _ (List.mem_cons_of_mem _ (List.mem_cons_self ..)))
  rw [show Tryz.prog.cellsOf 3 = 1 by kernel_rfl] at r0 r1 r2
  simp only [List.drop_zero, List.drop_succ_cons, List.take_succ_cons, List.take_zero] at r0 r1 r2
  obtain ⟨rc, e14, -⟩ := r0.int Tryz.underlying3
  obtain ⟨ra, e15, -⟩ := r1.int Tryz.underlying3
  obtain ⟨rb, e16, -⟩ := r2.int Tryz.underlying3
  obtain ⟨s, e17⟩ := g9.bool Tryz.underlying4
  obtain ⟨hl10, hf10⟩ := g10.struct Tryz.underlying32
  have i0 := hf10 _ (List.mem_cons_self ..)
  have i1 := hf10 _ (List.mem_cons_of_mem _ (List.mem_cons_self ..))
  have i2 := hf10 _ (List.mem_cons_of_mem _ (List.mem_cons_of_mem _ (List.mem_cons_self ..)))
  have i3 := hf10 _ (List.mem_cons_of_mem _ (List.mem_cons_of_mem _ (List.mem_cons_of_mem _ (List.mem_cons_self ..))))
  rw [show Tryz.prog.cellsOf 3 = 1 by kernel_rfl] at i0 i3
  rw [show Tryz.prog.cellsOf 29 = 1 by kernel_rfl] at i1
  rw [show Tryz.prog.cellsOf 30 = 1 by kernel_rfl] at i2
  simp only [List.drop_zero, List.drop_succ_cons, List.take_succ_cons, List.take_zero] at i0 i1 i2 i3
  obtain ⟨ib, e18, -⟩ := i0.int Tryz.underlying3
  obtain ⟨ca, cc, l, hcv, -, -, hsl⟩ := i1.bytes Tryz.underlying29 Tryz.underlying5 (by kernel_rfl)
  obtain ⟨xs, hxs⟩ := ens_of i2
  obtain ⟨ic, e21, e21w⟩ := i3.int Tryz.underlying3
  simp only [List.cons.injEq, and_true] at e0 e1 e2 e3 e4 e5 e6 e7 e14 e15 e16 e17 e18 e21
  obtain ⟨e7, e8, e9, e10, e11, e12, e13⟩ := e7
  subst hcv
  refine ⟨⟨k, f, t, v, o, cm, la, ⟨ec, em, ⟨pk, ps, po, pn, ls⟩⟩, lv, rc, ra, rb, s, ib, l, .slice ca l.length cc, xs, u20, ic⟩, ?_, ⟨hln, hsl, hxs⟩, sl_bd hsl, ens_bd hxs, (bounds_i64m e21w).2⟩
  rw [e0, e1, e2, e3, e4, e5, e6, e7, e8, e9, e10, e11, e12, e13, e14, e15, e16, e17, e18, e21]
  rfl
/-- The bytes that Bytes answers. -/
def msgB (g : MgM) : List UInt8 := if chkB g = true then sealL (bodyB g.x) else []
theorem seal_len5 (l : List UInt8) : (sealL l).length = l.length + 4 := by unfold sealL; rw [List.length_append]; rfl
theorem msgB_len (g : MgM) : (msgB g).length ≤ 70000 := by
  unfold msgB
  split
  · rename_i h
    have := body_len h
    rw [seal_len5]
    omega
  · exact Nat.zero_le _
theorem mbytes_u {w0 w : World} {L : List Thing} (g : MgM) (h : Sep w0 L w) (hg : ∀ wx, Sep w0 L wx → GmS wx g) (hk : ∀ wx, Sep w0 L wx → KindsAt wx ∧ MKindsAt wx) (hl : g.ck.length ≤ 1000000000) (hx : g.ps.length ≤ 1000000) :
    Calls Tryz.prog 6 #[.agg (mgC g)] w fun e w' => ∃ u, e = .returned (.tuple #[u, .int .i64 (if chkB g then 0 else 2)]) ∧ Sep w0 (By u (msgB g) :: L) w' := by
  cases hc : chkB g with
  | true =>
    refine (mbytes_ok g h hg hk hl hx hc).mono ?_
    rintro e w' ⟨u, h1, h2⟩
    exact ⟨u, h1, by unfold msgB; rw [if_pos hc]; exact h2⟩
  | false =>
    refine (mbytes_bad g h hg hk hl hx hc).mono ?_
    rintro e w' ⟨h1, h2⟩
    exact ⟨_, h1, by unfold msgB; rw [if_neg (by rw [hc]; simp)]; exact h2.rnil _⟩
theorem holds_nat {b : Bool} {n : Int} (h : holdsB b n = true) : ∃ m : Nat, n = m ∧ m < 9223372036854775808 := by
  unfold holdsB at h
  split at h
  · exact ⟨0, by omega, by omega⟩
  · rw [Bool.and_eq_true] at h
    have := numB_iff h.2
    exact ⟨n.toNat, by omega, by omega⟩
theorem rmbytes_u {w0 w : World} {L : List Thing} (g : MgM) (h : Sep w0 L w) (hg : ∀ wx, Sep w0 L wx → GmS wx g) (hl : g.ck.length ≤ 1000000000) (hx : g.ps.length ≤ 1000000) (hic : g.ic ≤ 9223372036854775807) :
    Calls Tryz.prog 7 #[.agg (mgC g)] w fun e w' => ∃ u, e = .returned (.tuple #[u, .int .i64 (if chkB g then 0 else 2)]) ∧ Sep w0 (By u (msgB g) :: L) w' := by
  cases hc : chkB g with
  | true =>
    have hh := hc
    unfold chkB at hh
    simp only [Bool.and_eq_true] at hh
    obtain ⟨-, -, -, n1, n2, n4, n8, -⟩ := hh
    obtain ⟨a, ha, a2⟩ := holds_nat n1
    obtain ⟨b, hb, b2⟩ := holds_nat n2
    obtain ⟨c, hcm, c2⟩ := holds_nat n4
    obtain ⟨d, hd, d2⟩ := holds_nat n8
    refine (rbytes05_ok g (hg w h) hl hx hic hc a b c d ha hb hcm hd ⟨a2, b2, c2, d2⟩).mono ?_
    rintro e w' ⟨u, h1, h2⟩
    exact ⟨u, h1, by unfold msgB; rw [if_pos hc]; exact h.onto1 h2⟩
  | false =>
    refine (rbytes05_bad g h hg hl hx hic hc).mono ?_
    rintro e w' ⟨h1, h2⟩
    exact ⟨_, h1, by unfold msgB; rw [if_neg (by rw [hc]; simp)]; exact h2.rnil _⟩
theorem bool_iff {a b : Bool} {p : Prop} (h1 : a = true ↔ p) (h2 : b = true ↔ p) : a = b := by
  cases a <;> cases b <;> simp_all
theorem rs_true {w : World} (g h : MgM) (hg : GmS w g) (hh : GmS w h) (hl : g.ck.length ≤ 1000000) (hx : g.ps.length ≤ 1000000) (e : h.x = g.x) :
    Calls Tryz.prog 16 #[.agg (mgC g), .agg (mgC h)] w fun e w' => e = .returned (.bool true) ∧ Sep w [] w' := by
  obtain ⟨e1, e2⟩ := x_eqw e
  have hck : h.ck = g.ck := congrArg MgX.ck e
  have hps : h.ps.length = g.ps.length := by have := congrArg List.length e2; simpa using this
  exact (rgsame_w g h hg hh (by omega) (by rw [hck]; omega) hx (by omega)).mono fun e w' ⟨r, he, hr, hs⟩ => ⟨by
    rw [he, gSame_refl h g (by obtain ⟨a1, a2, a3, a4, a5, a6, a7, a8, a9, a10, a11, a12, a13, a14, a15⟩ := e1; exact ⟨a1.symm, a2.symm, a3.symm, a4.symm, a5.symm, a6.symm, a7.symm, a8.symm, a9.symm, a10.symm, a11.symm, a12.symm, a13.symm, a14.symm, a15.symm⟩), hr.2 (sameP_of5w e2)]; rfl, hs⟩
theorem ri_true {w : World} (ib ic : Int) (cv ev cu eu : Value) (l : List UInt8) (xs ys : List (EnM × Value)) (hcv : Sl w cv (bv l)) (hcu : Sl w cu (bv l)) (hev : EnS w ev xs) (heu : EnS w eu ys) (hl : l.length ≤ 1000000) (hx : xs.length ≤ 1000000) (e : ys.map (·.1) = xs.map (·.1)) :
    Calls Tryz.prog 18 #[.agg (imgC ib cv ev ic), .agg (imgC ib cu eu ic)] w fun e w' => e = .returned (.bool true) ∧ Sep w [] w' := by
  have hy : ys.length = xs.length := by have := congrArg List.length e; simpa using this
  exact (rsameimg_w ib ic ib ic cv ev cu eu l l xs ys hcv hcu hev heu (by omega) (by omega) hx (by omega)).mono fun e' w' ⟨r, he, hr, hs⟩ => ⟨by
    rw [he, hr.2 (sameP_of5w e)]; simp [imgSame], hs⟩
theorem img_one {w : World} {g : MgM} (h : GmS w g) : (mgC g).all (·.oneCell') = true := by
  obtain ⟨a, c, e⟩ := h.1.len
  obtain ⟨a2, c2, e2⟩ := bv_form h.2.1
  obtain ⟨a3, c3, e3⟩ := h.2.2.len
  exact mgC_one _ (by rw [e]; rfl) (by rw [e2]; rfl) (by rw [e3]; rfl)
/-- The contracts that MsgWrites asks. -/
theorem mw_make {w : World} (g k : MgM) (hg : GmS w g) (hk : GmS w k) (hK : KindsAt w ∧ MKindsAt w) (hc : g.ck.length ≤ 20000) (hp : g.ps.length ≤ 40) (hs : g.en.p.ls.length ≤ 8) (hic : g.ic ≤ 9223372036854775807) (hb : ∀ x ∈ g.ps, x.1.p.ls.length ≤ 5864062014805) (kc : k.ck.length ≤ 20000) (kp : k.ps.length ≤ 40) :
    ∃ EA EI TP R1 R2, MW w g (mgC g) (mgC k) (imgC g.ib g.cv g.ev g.ic) (imgC k.ib k.cv k.ev k.ic) (msgB g) EA EI TP R1 R2 := by
  obtain ⟨r, hr⟩ := some_r (SameP g.ps k.ps)
  have lo : ∀ {M : List Thing} {wx : World}, Sep w M wx → Below w.heap.size w wx := fun h => h.low
  have gx : ∀ {M : List Thing} (wx : World), Sep w M wx → GmS wx g := fun wx h => hg.below h.low
  have kx : ∀ {M : List Thing} (wx : World), Sep w M wx → GmS wx k := fun wx h => hk.below h.low
  have Kx : ∀ {M : List Thing} (wx : World), Sep w M wx → KindsAt wx ∧ MKindsAt wx := fun wx h => ⟨hK.1.below h.low, hK.2.below h.low⟩
  obtain ⟨a3, c3, e3⟩ := hg.2.2.len
  refine ⟨if chkB g then 0 else 2, if ckI g.ib g.ck g.ps g.ic then 0 else 2, IntKind.i64.wrap (g.ib + (g.ps.length : Int)), gSame g k && r, imgSame g.ib g.ic g.ck k.ib k.ic k.ck && r, ?_⟩
  exact
    { szg := rfl, szk := rfl, szi := rfl, eg := rfl, ei := rfl, og := img_one hg, ok := img_one hk, bb := msgB_len g, ck := hc, ps := hp, ls := hs
      ldg := fun b M wx h => h.loadImgw
      ldk := fun b M wx h => h.loadImgw
      by_ := fun M wx h => mbytes_u g h gx Kx (by omega) (by omega)
      rby := fun M wx h => rmbytes_u g h gx (by omega) (by omega) hic
      chk := fun M wx h => (gcheck_w g (gx wx h) (Kx wx h).1 (Kx wx h).2 (by omega) (by omega)).mono fun e w' ⟨h1, h2⟩ => ⟨h1, h.below h2.low⟩
      rchk := fun M wx h => (rcheck_w g (gx wx h) (by omega) (by omega) hic).mono fun e w' ⟨h1, h2⟩ => ⟨h1, h.below h2.low⟩
      cki := fun M wx h => (mckimg_w g.ib g.ic g.cv g.ev g.ck g.ps (gx wx h).2.1 (gx wx h).2.2 (Kx wx h).1 (by omega) (by omega)).mono fun e w' ⟨h1, h2⟩ => ⟨h1, h.below h2.low⟩
      rcki := fun M wx h => (rckimg_w g.ib g.ic g.cv g.ev g.ck g.ps (gx wx h).2.1 (gx wx h).2.2 (by omega) (by omega) hic).mono fun e w' ⟨h1, h2⟩ => ⟨h1, h.below h2.low⟩
      cp := fun M wx h => (gcopy_wB g (gx wx h) (by omega) (by omega) hb (by omega)).mono fun e w' ⟨lu, cu, eu, qs, h1, h2, h3⟩ => ⟨lu, cu, eu, qs, h1, h2, h.ontoL h3⟩
      cpi := fun M wx h => (gcimg_wB g.ib g.ic g.cv g.ev g.ck g.ps (gx wx h).2.1 (gx wx h).2.2 (by omega) (by omega) hb).mono fun e w' ⟨cu, eu, qs, h1, h2, h3⟩ => ⟨cu, eu, qs, h1, h2, h.ontoL h3⟩
      rcp := fun M wx h => (rgcopy_wB g (gx wx h) (by omega) (by omega) hb (by omega)).mono fun e w' ⟨lu, cu, eu, qs, h1, h2, h3⟩ => ⟨lu, cu, eu, qs, h1, h2, h.ontoL h3⟩
      sm := fun M wx h => (gsame_w g k (gx wx h) (kx wx h) (by omega) (by omega) (by omega) (by omega)).mono fun e w' ⟨r', h1, h2, h3⟩ => ⟨by rw [h1, bool_iff h2 hr], h.below h3.low⟩
      rsm := fun M wx h => (rgsame_w g k (gx wx h) (kx wx h) (by omega) (by omega) (by omega) (by omega)).mono fun e w' ⟨r', h1, h2, h3⟩ => ⟨by rw [h1, bool_iff h2 hr], h.below h3.low⟩
      smi := fun M wx h => (msameimg_w g.ib g.ic k.ib k.ic g.cv g.ev k.cv k.ev g.ck k.ck g.ps k.ps (gx wx h).2.1 (kx wx h).2.1 (gx wx h).2.2 (kx wx h).2.2 (by omega) (by omega) (by omega) (by omega)).mono fun e w' ⟨r', h1, h2, h3⟩ => ⟨by rw [h1, bool_iff h2 hr], h.below h3.low⟩
      rsmi := fun M wx h => (rsameimg_w g.ib g.ic k.ib k.ic g.cv g.ev k.cv k.ev g.ck k.ck g.ps k.ps (gx wx h).2.1 (kx wx h).2.1 (gx wx h).2.2 (kx wx h).2.2 (by omega) (by omega) (by omega) (by omega)).mono fun e w' ⟨r', h1, h2, h3⟩ => ⟨by rw [h1, bool_iff h2 hr], h.below h3.low⟩
      sc := fun lu cu eu qs M wx hq hm h => (rs_true _ g hm (gx wx h) (by show g.ck.length ≤ _; omega) (by have := congrArg List.length hq; simp only [List.length_map] at this; show qs.length ≤ _; omega) (by unfold MgM.x; simp [hq])).mono fun e w' ⟨h1, h2⟩ => ⟨h1, h.below h2.low⟩
      sw := fun lu cu eu qs M wx hq hm h => (rs_true g _ (gx wx h) hm (by omega) (by omega) (by unfold MgM.x; simp [hq])).mono fun e w' ⟨h1, h2⟩ => ⟨h1, h.below h2.low⟩
      si := fun cu eu qs M wx hq h1 h2 h => (ri_true g.ib g.ic cu eu g.cv g.ev g.ck qs g.ps h1 (gx wx h).2.1 h2 (gx wx h).2.2 (by omega) (by have := congrArg List.length hq; simp only [List.length_map] at this; omega) hq.symm).mono fun e w' ⟨h1, h2⟩ => ⟨h1, h.below h2.low⟩
      tp := fun M wx h => by unfold imgC; rw [e3]; exact mtop_w g.ib g.ic _ g.cv a3 g.ps.length c3 h rfl
      rtp := fun M wx h => by unfold imgC; rw [e3]; exact rtop_w g.ib g.ic _ g.cv a3 g.ps.length c3 h rfl
      wk := fun M wx h => works05_any h Kx }
theorem mwrites_any (g k : MgM) (w : World) (hg : GmS w g) (hk : GmS w k) (hK : KindsAt w ∧ MKindsAt w) (hic : g.ic ≤ 9223372036854775807) (hb : ∀ x ∈ g.ps, x.1.p.ls.length ≤ 5864062014805) :
    Calls Tryz.prog 3 #[.agg (mgC g), .agg (mgC k)] w fun e w' => e = .returned (.bool true) ∧ Below w.heap.size w w' := by
  obtain ⟨EA, EI, TP, R1, R2, hs⟩ := mw_make (cutG g) (cutG k) (cutG_s hg) (cutG_s hk) hK (by show (g.ck.take 20000).length ≤ _; rw [List.length_take]; omega) (by show (g.ps.take 40).length ≤ _; rw [List.length_take]; omega) (by show (g.en.p.ls.take 8).length ≤ _; rw [List.length_take]; omega) hic (fun x hx => hb x (List.mem_of_mem_take hx)) (by show (k.ck.take 20000).length ≤ _; rw [List.length_take]; omega) (by show (k.ps.take 40).length ≤ _; rw [List.length_take]; omega)
  exact mwrites_walk (Lib.hid hs) ⟨rfl, rfl⟩ (fun M wx h => cutmsg_any g h (hg.below h.low)) (fun M wx h => cutmsg_any k h (hk.below h.low))
/-- What the statement asks. -/
theorem mwrites_in {w : World} (a0 a1 : Value) (h0 : AvV Tryz.prog w 34 a0) (h1 : AvV Tryz.prog w 34 a1) (hK : KindsAt w ∧ MKindsAt w) :
    Calls Tryz.prog 3 #[a0, a1] w fun e w' => e = .returned (.bool true) ∧ Below w.heap.size w w' := by
  obtain ⟨g, rfl, hg, -, -, hic⟩ := gm_of5 h0.av
  obtain ⟨k, rfl, hk, -, -, -⟩ := gm_of5 h1.av
  exact mwrites_any g k w hg hk hK hic (gm_lnbd h0 hg)
end Go.Proofs.YtafkbodmiblbnaaGreatDoor
/- What the row's condition says of the table of kinds. -/
namespace Go.Proofs.YtafkbodmiblbnaaGreatDoor
open Go.ChangeShapes Go.WideShapes Go.ChangeAt Go.RowKit
set_option linter.unusedVariables false
abbrev laidK {H : Type} : List (String × DataW H) := [("gimbal/item.kinds", Rows.laid_gimbal_item_kinds), ("gimbal/msg.kinds", Rows.laid_gimbal_msg_kinds)]
theorem gKinds : Tryz.prog.globalNamed "gimbal/item.kinds" = some 1 := by kernel_rfl
theorem tKinds : (Tryz.prog.globals[1]?).map (·.type) = some 137 := by kernel_rfl
theorem door_met (os : Os) (args : Array Value) : laidMetH Tryz.prog laidK ((World.doorLaid Tryz.prog 400 os).forCall (fun _ _ => 0) ⟨#[], args, []⟩).memory :=
  laidMetH_of_parts3 (fuel := 8) (laidMet_of_run' 8 (by kernel_rfl) (by kernel_rfl)) (by kernel_rfl) (by kernel_rfl)
theorem gMKinds : Tryz.prog.globalNamed "gimbal/msg.kinds" = some 0 := by kernel_rfl
theorem tMKinds : (Tryz.prog.globals[0]?).map (·.type) = some 86 := by kernel_rfl
theorem kinds_of_laid {W : World} (h : laidMetH Tryz.prog laidK W) : KindsAt W ∧ MKindsAt W := by
  rw [MakeChecks.laidMetH_plain _ _ _ (by kernel_rfl)] at h
  obtain ⟨ps, ⟨g0, t0, cs0, f0, p0, q0, hg0, ht0, hv0, hd0, ⟨g1, t1, cs1, f1, p1, q1, hg1, ht1, hv1, hd1, _, _⟩, _⟩, hr, hs⟩ := h
  obtain rfl := Option.some.inj (gKinds.symm.trans hg0)
  obtain rfl := Option.some.inj (tKinds.symm.trans ht0)
  obtain rfl := Option.some.inj (gMKinds.symm.trans hg1)
  obtain rfl := Option.some.inj (tMKinds.symm.trans ht1)
  have hcA : ∀ i (hi : i < kindsL.length), W.cell? ⟨1, i, none⟩ = some (.int .i64 kindsL[i]) := by
    obtain ⟨xs, m1, rfl, hx1, hlen, hn3, hel⟩ := DataW.trod_array Tryz.underlying137 hd0
    have c3 : Tryz.prog.cellsOf 3 = 1 := by kernel_rfl
    have c24 : Tryz.prog.cellsOf 137 = 10 := by kernel_rfl
    simp only [Prod.mk.injEq] at hx1
    have hk : xs.map (·.1) = kindsL.map (fun n => DataW.lit (.int .i64 n)) := (DataW.agg.inj hx1.1).symm
    intro i hi
    have hi10 : i < 10 := by simpa [kindsL] using hi
    have h0 := hel i hi10
    rw [List.getElem?_eq_getElem (by omega)] at h0
    obtain ⟨k, e1, e2, _⟩ := DataW.trod_int Tryz.underlying3 h0
    have hx : (xs.map (·.1))[i]? = some (DataW.lit (.int .i64 kindsL[i])) := by
      rw [hk, List.getElem?_map, List.getElem?_eq_getElem hi]; rfl
    rw [List.getElem?_map, List.getElem?_eq_getElem (by omega), e2] at hx
    have hkk : k = kindsL[i] := by simpa using hx
    subst hkk
    rw [c3, Nat.mul_one] at e1
    have hlt : i < cs0.toList.length := by rw [hlen, c24]; exact hi10
    rw [List.drop_eq_getElem_cons hlt] at e1
    simp only [List.take_succ_cons, List.take_zero, List.cons.injEq, and_true] at e1
    have hv := World.var?_cell hg0 hv0 i
    have hs : i < cs0.size := by simpa using hlt
    have e3 : cs0[i] = Value.int .i64 kindsL[i] := by simpa using e1
    rw [hv, Array.getElem?_eq_getElem hs]
    exact congrArg some e3
  have hcB : ∀ i (hi : i < mkindsL.length), W.cell? ⟨0, i, none⟩ = some (.int .i64 mkindsL[i]) := by
    obtain ⟨xs, m1, rfl, hx1, hlen, hn3, hel⟩ := DataW.trod_array Tryz.underlying86 hd1
    have c3 : Tryz.prog.cellsOf 3 = 1 := by kernel_rfl
    have c24 : Tryz.prog.cellsOf 86 = 11 := by kernel_rfl
    simp only [Prod.mk.injEq] at hx1
    have hk : xs.map (·.1) = mkindsL.map (fun n => DataW.lit (.int .i64 n)) := (DataW.agg.inj hx1.1).symm
    intro i hi
    have hi10 : i < 11 := by simpa [mkindsL] using hi
    have h0 := hel i hi10
    rw [List.getElem?_eq_getElem (by omega)] at h0
    obtain ⟨k, e1, e2, _⟩ := DataW.trod_int Tryz.underlying3 h0
    have hx : (xs.map (·.1))[i]? = some (DataW.lit (.int .i64 mkindsL[i])) := by
      rw [hk, List.getElem?_map, List.getElem?_eq_getElem hi]; rfl
    rw [List.getElem?_map, List.getElem?_eq_getElem (by omega), e2] at hx
    have hkk : k = mkindsL[i] := by simpa using hx
    subst hkk
    rw [c3, Nat.mul_one] at e1
    have hlt : i < cs1.toList.length := by rw [hlen, c24]; exact hi10
    rw [List.drop_eq_getElem_cons hlt] at e1
    simp only [List.take_succ_cons, List.take_zero, List.cons.injEq, and_true] at e1
    have hv := World.var?_cell hg1 hv1 i
    have hs : i < cs1.size := by simpa using hlt
    have e3 : cs1[i] = Value.int .i64 mkindsL[i] := by simpa using e1
    rw [hv, Array.getElem?_eq_getElem hs]
    exact congrArg some e3
  have hA := World.block_lt_of_cell? W ⟨1, 0, none⟩ (by have := hcA 0 (by decide); exact this)
  have hB := World.block_lt_of_cell? W ⟨0, 0, none⟩ (by have := hcB 0 (by decide); exact this)
  exact ⟨⟨hA, hcA⟩, ⟨hB, hcB⟩⟩
end Go.Proofs.YtafkbodmiblbnaaGreatDoor
