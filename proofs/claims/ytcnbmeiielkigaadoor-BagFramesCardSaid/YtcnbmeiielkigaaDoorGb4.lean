/- BagFrames. -/
import Derived.Test.YtcnbmeiielkigaaDoorGb3
import Derived.Test.YtcnbmeiielkigaaDoorMg4
import Derived.Test.YtcnbmeiielkigaaDoorOpOpen
import Derived.Test.YtcnbmeiielkigaaDoorBag8
namespace Go.Proofs.YtcnbmeiielkigaaDoor
open Go Go.RowKit
set_option linter.unusedVariables false
set_option linter.unusedSimpArgs false
theorem en_of {w : World} {cs : List Value} (h : RdC Tryd.prog w 35 cs) : ∃ (c m k : Int) (s : KS) (o n : Int) (v : Value) (ls : List Ln), cs = [.int .i64 c, .int .i64 m, .int .i64 k, .string s.1, .int .i64 o, .int .i64 n, v] ∧ LnS w v ls := by
  obtain ⟨hl, hf⟩ := h.struct Tryd.underlying35
  rw [show Tryd.prog.cellsOf 35 = 7 by kernel_rfl] at hl
  match cs, hl with
  | [u0, u1, u2, u3, u4, u5, u6], _ =>
    have g0 := hf _ (List.mem_cons_self ..)
    have g1 := hf _ (List.mem_cons_of_mem _ (List.mem_cons_self ..))
    have g2 := hf _ (List.mem_cons_of_mem _ (List.mem_cons_of_mem _ (List.mem_cons_self ..)))
    rw [show Tryd.prog.cellsOf 3 = 1 by kernel_rfl] at g0 g1
    rw [show Tryd.prog.cellsOf 33 = 5 by kernel_rfl] at g2
    simp only [List.drop_zero, List.drop_succ_cons, List.take_succ_cons, List.take_zero] at g0 g1 g2
    obtain ⟨c, e0, _⟩ := g0.int Tryd.underlying3
    obtain ⟨m, e1, _⟩ := g1.int Tryd.underlying3
    obtain ⟨k, s, o, n, v, ls, e2, hv, _⟩ := op_of g2
    simp only [List.cons.injEq, and_true] at e0 e1 e2
    obtain ⟨e2, e3, e4, e5, e6⟩ := e2
    exact ⟨c, m, k, s, o, n, v, ls, by rw [e0, e1, e2, e3, e4, e5, e6], hv⟩
theorem ens_of {w : World} {v : Value} (h : RdC Tryd.prog w 39 [v]) : ∃ xs : List (EnM × Value), EnS w v xs := by
  obtain ⟨a, len, cap, rfl, h1, h2, h3⟩ := h.rows Tryd.underlying39 (show Tryd.prog.cellsOf 35 = 7 by kernel_rfl) (by decide)
  by_cases h0 : len = 0
  · subst h0
    exact ⟨[], .inl ⟨a, cap, rfl, rfl⟩⟩
  · obtain ⟨b, off, rfl, hb, -⟩ := h3 0 (by omega)
    have hc : ∀ i, i < len → ∃ q : EnM × Value, En7 w b (off + i * 7) q.1 q.2 ∧ LnS w q.2 q.1.p.ls := fun i hi => by
      obtain ⟨b', off', hab, _, cs, hl, hc, hr⟩ := h3 i hi
      simp only [Option.some.injEq, Addr.mk.injEq, and_true] at hab
      obtain ⟨rfl, rfl⟩ := hab
      obtain ⟨c, m, k, s, o, n, u, ls, rfl, hv⟩ := en_of hr
      exact ⟨(⟨c, m, ⟨k, s, o, n, ls⟩⟩, u), ⟨hc 0 (by simp), hc 1 (by simp), hc 2 (by simp), hc 3 (by simp), hc 4 (by simp), hc 5 (by simp), hc 6 (by simp)⟩, hv⟩
    have hpick : ∀ i : Nat, ∃ q : EnM × Value, i < len → En7 w b (off + i * 7) q.1 q.2 ∧ LnS w q.2 q.1.p.ls := fun i => by
      by_cases hi : i < len
      · obtain ⟨q, h⟩ := hc i hi; exact ⟨q, fun _ => h⟩
      · exact ⟨(enZ0, .nilFunc), fun h => absurd h hi⟩
    obtain ⟨f, hf⟩ := Classical.axiomOfChoice hpick
    refine ⟨(List.range len).map f, .inr ⟨b, off, cap, by simp, by simpa using h1, h2, hb, fun i hi => ?_⟩⟩
    have hi' : i < len := by simpa using hi
    rw [List.getElem_map, List.getElem_range]
    exact hf i hi'
theorem sl_bd {w : World} {a : Option Addr} {n c : Nat} {l : List UInt8} (h : Sl w (.slice a n c) (bv l)) : l.length ≤ 9223372036854775807 := by
  rcases h with (⟨h1, h2⟩ | ⟨b, off, cap, h1, h2, h3, h4, h5⟩) | ⟨x, c', h1, h2⟩
  · rw [bv_nil_iff] at h2; subst h2; simp
  · rw [bv_length] at h2; unfold maxLen at h3; omega
  · rw [bv_nil_iff] at h2; subst h2; simp
theorem ens_bd {w : World} {v : Value} {xs : List (EnM × Value)} (h : EnS w v xs) : xs.length ≤ 9223372036854775807 := by
  rcases h with ⟨a, c, h1, rfl⟩ | ⟨b, off, c, h1, h2, h3, h4, h5⟩
  · simp
  · unfold maxLen at h3; omega
theorem gm_of {w : World} {v : Value} (h : Av Tryd.prog w 43 v) : ∃ g, v = .agg (mgC g) ∧ GmS w g ∧ g.ck.length ≤ 9223372036854775807 ∧ g.ps.length ≤ 9223372036854775807 := by
  obtain ⟨cs, rfl, h⟩ := h
  obtain ⟨hl, hf⟩ := h.struct Tryd.underlying43
  rw [show Tryd.prog.cellsOf 43 = 22 by kernel_rfl] at hl
  obtain ⟨cs⟩ := cs
  match cs, hl with
  | [u0, u1, u2, u3, u4, u5, u6, u7, u8, u9, u10, u11, u12, u13, u14, u15, u16, u17, u18, u19, u20, u21], _ =>
    have g0 := hf _ (List.mem_cons_self ..)
    have g1 := hf _ (List.mem_cons_of_mem _ (List.mem_cons_self ..))
    have g2 := hf _ (List.mem_cons_of_mem _ (List.mem_cons_of_mem _ (List.mem_cons_self ..)))
    have g3 := hf _ (List.mem_cons_of_mem _ (List.mem_cons_of_mem _ (List.mem_cons_of_mem _ (List.mem_cons_self ..))))
    have g4 := hf _ (List.mem_cons_of_mem _ (List.mem_cons_of_mem _ (List.mem_cons_of_mem _ (List.mem_cons_of_mem _ (List.mem_cons_self ..)))))
    have g5 := hf _ (List.mem_cons_of_mem _ (List.mem_cons_of_mem _ (List.mem_cons_of_mem _ (List.mem_cons_of_mem _ (List.mem_cons_of_mem _ (List.mem_cons_self ..))))))
    have g6 := hf _ (List.mem_cons_of_mem _ (List.mem_cons_of_mem _ (List.mem_cons_of_mem _ (List.mem_cons_of_mem _ (List.mem_cons_of_mem _ (List.mem_cons_of_mem _ (List.mem_cons_self ..)))))))
    have g7 := hf _ (List.mem_cons_of_mem _ (List.mem_cons_of_mem _ (List.mem_cons_of_mem _ (List.mem_cons_of_mem _ (List.mem_cons_of_mem _ (List.mem_cons_of_mem _ (List.mem_cons_of_mem _ (List.mem_cons_self ..))))))))
    have g8 := hf _ (List.mem_cons_of_mem _ (List.mem_cons_of_mem _ (List.mem_cons_of_mem _ (List.mem_cons_of_mem _ (List.mem_cons_of_mem _ (List.mem_cons_of_mem _ (List.mem_cons_of_mem _ (List.mem_cons_of_mem _ (List.mem_cons_self ..)))))))))
    have g9 := hf _ (List.mem_cons_of_mem _ (List.mem_cons_of_mem _ (List.mem_cons_of_mem _ (List.mem_cons_of_mem _ (List.mem_cons_of_mem _ (List.mem_cons_of_mem _ (List.mem_cons_of_mem _ (List.mem_cons_of_mem _ (List.mem_cons_of_mem _ (List.mem_cons_self ..))))))))))
    have g10 := hf _ (List.mem_cons_of_mem _ (List.mem_cons_of_mem _ (List.mem_cons_of_mem _ (List.mem_cons_of_mem _ (List.mem_cons_of_mem _ (List.mem_cons_of_mem _ (List.mem_cons_of_mem _ (List.mem_cons_of_mem _ (List.mem_cons_of_mem _ (List.mem_cons_of_mem _ (List.mem_cons_self ..)))))))))))
    rw [show Tryd.prog.cellsOf 3 = 1 by kernel_rfl] at g0 g1 g2 g3 g4 g5 g6
    rw [show Tryd.prog.cellsOf 35 = 7 by kernel_rfl] at g7
    rw [show Tryd.prog.cellsOf 37 = 3 by kernel_rfl] at g8
    rw [show Tryd.prog.cellsOf 4 = 1 by kernel_rfl] at g9
    rw [show Tryd.prog.cellsOf 41 = 4 by kernel_rfl] at g10
    simp only [List.drop_zero, List.drop_succ_cons, List.take_succ_cons, List.take_zero] at g0 g1 g2 g3 g4 g5 g6 g7 g8 g9 g10
    obtain ⟨k, e0, -⟩ := g0.int Tryd.underlying3
    obtain ⟨f, e1, -⟩ := g1.int Tryd.underlying3
    obtain ⟨t, e2, -⟩ := g2.int Tryd.underlying3
    obtain ⟨v, e3, -⟩ := g3.int Tryd.underlying3
    obtain ⟨o, e4, -⟩ := g4.int Tryd.underlying3
    obtain ⟨cm, e5, -⟩ := g5.int Tryd.underlying3
    obtain ⟨la, e6, -⟩ := g6.int Tryd.underlying3
    obtain ⟨ec, em, pk, ps, po, pn, lv, ls, e7, hln⟩ := en_of g7
    obtain ⟨hl8, hf8⟩ := g8.struct Tryd.underlying37
    have r0 := hf8 _ (List.mem_cons_self ..)
    have r1 := hf8 _ (List.mem_cons_of_mem _ (List.mem_cons_self ..))
    have r2 := hf8 _ (List.mem_cons_of_mem _ (List.mem_cons_of_mem _ (List.mem_cons_self ..)))
    rw [show Tryd.prog.cellsOf 3 = 1 by kernel_rfl] at r0 r1 r2
    simp only [List.drop_zero, List.drop_succ_cons, List.take_succ_cons, List.take_zero] at r0 r1 r2
    obtain ⟨rc, e14, -⟩ := r0.int Tryd.underlying3
    obtain ⟨ra, e15, -⟩ := r1.int Tryd.underlying3
    obtain ⟨rb, e16, -⟩ := r2.int Tryd.underlying3
    obtain ⟨s, e17⟩ := g9.bool Tryd.underlying4
    obtain ⟨hl10, hf10⟩ := g10.struct Tryd.underlying41
    have i0 := hf10 _ (List.mem_cons_self ..)
    have i1 := hf10 _ (List.mem_cons_of_mem _ (List.mem_cons_self ..))
    have i2 := hf10 _ (List.mem_cons_of_mem _ (List.mem_cons_of_mem _ (List.mem_cons_self ..)))
    have i3 := hf10 _ (List.mem_cons_of_mem _ (List.mem_cons_of_mem _ (List.mem_cons_of_mem _ (List.mem_cons_self ..))))
    rw [show Tryd.prog.cellsOf 3 = 1 by kernel_rfl] at i0 i3
    rw [show Tryd.prog.cellsOf 38 = 1 by kernel_rfl] at i1
    rw [show Tryd.prog.cellsOf 39 = 1 by kernel_rfl] at i2
    simp only [List.drop_zero, List.drop_succ_cons, List.take_succ_cons, List.take_zero] at i0 i1 i2 i3
    obtain ⟨ib, e18, -⟩ := i0.int Tryd.underlying3
    obtain ⟨ca, cc, l, hcv, -, -, hsl⟩ := i1.bytes Tryd.underlying38 Tryd.underlying5 (by kernel_rfl)
    obtain ⟨xs, hxs⟩ := ens_of i2
    obtain ⟨ic, e21, -⟩ := i3.int Tryd.underlying3
    simp only [List.cons.injEq, and_true] at e0 e1 e2 e3 e4 e5 e6 e7 e14 e15 e16 e17 e18 e21
    obtain ⟨e7, e8, e9, e10, e11, e12, e13⟩ := e7
    subst hcv
    refine ⟨⟨k, f, t, v, o, cm, la, ⟨ec, em, ⟨pk, ps, po, pn, ls⟩⟩, lv, rc, ra, rb, s, ib, l, .slice ca l.length cc, xs, u20, ic⟩, ?_, ⟨hln, hsl, hxs⟩, sl_bd hsl, ens_bd hxs⟩
    rw [e0, e1, e2, e3, e4, e5, e6, e7, e8, e9, e10, e11, e12, e13, e14, e15, e16, e17, e18, e21]
    rfl
theorem ok_len' {x : EnM} (h : x.ok = true) : x.p.ls.length ≤ 1000 := by
  unfold EnM.ok OpM.ok okB at h
  simp only [Bool.and_eq_true] at h
  have h4 := h.2.2
  unfold linB at h4
  split at h4
  · unfold linesB at h4
    simp only [Bool.and_eq_true] at h4
    have := of_decide_eq_true h4.1.1.2
    omega
  · have := of_decide_eq_true h4
    omega
theorem chk_ls {g : MgM} (h : chkB g = true) (hx : g.ps.length ≤ 900) : ∀ x ∈ g.ps, x.1.p.ls.length ≤ 1000 := by
  unfold chkB at h
  simp only [Bool.and_eq_true] at h
  have h1 := h.2.2.2.2.2.2.2.2.2
  unfold fIB at h1
  intro x hxm
  split at h1
  · unfold ckI at h1
    simp only [Bool.and_eq_true] at h1
    have := List.all_eq_true.1 h1.1.2 x hxm
    exact ok_len' this
  · simp only [Bool.and_eq_true] at h1
    have := of_decide_eq_true h1.2
    rw [List.eq_nil_of_length_eq_zero this] at hxm
    cases hxm
theorem sameP_of {xs ys : List (EnM × Value)} (h : xs.map (·.1) = ys.map (·.1)) : SameP xs ys := by
  have hl : xs.length = ys.length := by have := congrArg List.length h; simpa using this
  refine ⟨hl, fun j h1 h2 => ?_⟩
  have h9 : (xs.map (·.1))[j]? = (ys.map (·.1))[j]? := by rw [h]
  rw [List.getElem?_map, List.getElem?_map, List.getElem?_eq_getElem h1, List.getElem?_eq_getElem h2] at h9
  have : xs[j].1 = ys[j].1 := by simpa using h9
  rw [this]
  simp [enSame, sameB]
def smls (i : Nat) : List MsM := (List.range i).map fun (j : Nat) => sM (j : Int)
theorem smls_len (i : Nat) : (smls i).length = i := by simp [smls]
theorem smls_succ (i : Nat) : smls (i + 1) = smls i ++ [sM (i : Int)] := by simp [smls, List.range_succ]
theorem gm_things {w0 : World} {g : MgM} {lu cu eu : Value} {qs : List (EnM × Value)} {L : List Thing} {wx : World} (h : Sep w0 (LnR lu g.en.p.ls :: By cu g.ck :: EnT eu qs :: L) wx) : GmS wx { g with lv := lu, cv := cu, ev := eu, ps := qs } := ⟨Sep.lnS h, h.sw2.sl, h.sw3.enS⟩
theorem same_true {w : World} (g h : MgM) (hg : GmS w g) (hh : GmS w h) (hl : g.ck.length ≤ 1000000000) (hx : g.ps.length ≤ 900) (hm : h.ck.length ≤ 1000000000) (hy : h.ps.length ≤ 900)
    (h1 : g.k = h.k ∧ g.f = h.f ∧ g.t = h.t ∧ g.v = h.v ∧ g.o = h.o ∧ g.cm = h.cm ∧ g.la = h.la ∧ g.en = h.en ∧ g.rc = h.rc ∧ g.ra = h.ra ∧ g.rb = h.rb ∧ g.s = h.s ∧ g.ib = h.ib ∧ g.ic = h.ic ∧ g.ck = h.ck) (hp : g.ps.map (·.1) = h.ps.map (·.1)) :
    Calls Tryd.prog 21 #[.agg (mgC g), .agg (mgC h)] w fun e w' => e = .returned (.bool true) ∧ Sep w [] w' :=
  (gsame_w g h hg hh hl hm hx hy).mono fun e w' ⟨r, he, hr, hs⟩ => ⟨by rw [he, gSame_refl h g h1, hr.2 (sameP_of hp)]; rfl, hs⟩
def SameF (g h : MgM) : Prop := (g.k = h.k ∧ g.f = h.f ∧ g.t = h.t ∧ g.v = h.v ∧ g.o = h.o ∧ g.cm = h.cm ∧ g.la = h.la ∧ g.en = h.en ∧ g.rc = h.rc ∧ g.ra = h.ra ∧ g.rb = h.rb ∧ g.s = h.s ∧ g.ib = h.ib ∧ g.ic = h.ic ∧ g.ck = h.ck) ∧ g.ps.map (·.1) = h.ps.map (·.1)
theorem sameF_with (g : MgM) (lu cu eu : Value) (qs : List (EnM × Value)) (h : qs.map (·.1) = g.ps.map (·.1)) : SameF { g with lv := lu, cv := cu, ev := eu, ps := qs } g := ⟨⟨rfl, rfl, rfl, rfl, rfl, rfl, rfl, rfl, rfl, rfl, rfl, rfl, rfl, rfl, rfl⟩, h⟩
theorem SameF.trans {a b c : MgM} (h : SameF a b) (k : SameF b c) : SameF a c := by
  obtain ⟨⟨h1, h2, h3, h4, h5, h6, h7, h8, h9, h10, h11, h12, h13, h14, h15⟩, hp⟩ := h
  obtain ⟨⟨k1, k2, k3, k4, k5, k6, k7, k8, k9, k10, k11, k12, k13, k14, k15⟩, kp⟩ := k
  exact ⟨⟨h1.trans k1, h2.trans k2, h3.trans k3, h4.trans k4, h5.trans k5, h6.trans k6, h7.trans k7, h8.trans k8, h9.trans k9, h10.trans k10, h11.trans k11, h12.trans k12, h13.trans k13, h14.trans k14, h15.trans k15⟩, hp.trans kp⟩
theorem SameF.ckl {a b : MgM} (h : SameF a b) : a.ck.length = b.ck.length := by rw [h.1.2.2.2.2.2.2.2.2.2.2.2.2.2.2]
theorem SameF.enp {a b : MgM} (h : SameF a b) : a.en = b.en := h.1.2.2.2.2.2.2.2.1
theorem SameF.psl {a b : MgM} (h : SameF a b) : a.ps.length = b.ps.length := by have := congrArg List.length h.2; simpa using this
theorem SameF.pls {a b : MgM} (h : SameF a b) (hb : ∀ x ∈ b.ps, x.1.p.ls.length ≤ 1000) : ∀ x ∈ a.ps, x.1.p.ls.length ≤ 1000 := by
  intro x hx
  have : x.1 ∈ a.ps.map (·.1) := List.mem_map.2 ⟨x, hx, rfl⟩
  rw [h.2] at this
  obtain ⟨y, hy, e⟩ := List.mem_map.1 this
  rw [← e]
  exact hb y hy
theorem gms_one {w : World} {g : MgM} (h : GmS w g) : (mgC g).all (·.oneCell') = true := by
  obtain ⟨x1, x2, e1⟩ := h.1.len
  obtain ⟨x3, x4, e2⟩ := bv_form h.2.1
  obtain ⟨x5, x6, e3⟩ := h.2.2.len
  exact mgC_one g (by rw [e1]; rfl) (by rw [e2]; rfl) (by rw [e3]; rfl)
theorem gm_own {w0 wx : World} {g : MgM} {L : List Thing} (h : Sep w0 (LnR g.lv g.en.p.ls :: By g.cv g.ck :: EnT g.ev g.ps :: L) wx) : GmS wx g := gm_things (g := g) (lu := g.lv) (cu := g.cv) (eu := g.ev) (qs := g.ps) h
theorem gput_ok2 {w0 w : World} {b : Nat} {ms : List (Array Value)} {L : List Thing} (g : MgM) (h : Sep w0 (BagG b ms :: L) w) (hg : GmS w0 g) (hK : KindsAt w0 ∧ MKindsAt w0) (hl : g.ck.length ≤ 50) (hx : g.ps.length ≤ 8) (hls : g.en.p.ls.length ≤ 8) (hnl : ms.length < 2000) (hchk : chkB g = true) :
    Calls Tryd.prog 10 #[.pointer (some ⟨b, 0, none⟩), .agg (mgC g)] w fun e w' => ∃ g1, e = .returned (.int .i64 0) ∧ SameF g1 g ∧ Sep w0 (BagG b (ms ++ [mgC g1]) :: LnR g1.lv g1.en.p.ls :: By g1.cv g1.ck :: EnT g1.ev g1.ps :: L) w' :=
  (gput_ok g h (fun wx hs => hg.below hs.low) hK (by omega) (by omega) ⟨chk_ls hchk (by omega), by omega⟩ hnl hchk).mono fun e w' ⟨he, lu, cu, eu, qs, hq, hs⟩ => ⟨{ g with lv := lu, cv := cu, ev := eu, ps := qs }, he, sameF_with g lu cu eu qs hq, hs⟩
theorem wpList_load_on {P : Program} {ops : Array Oper} {rest : List Oper} {o : Oper} {a : Act} {w : World} {Q : Exit → Act → World → Prop} (t : TypeId) (x : Operand) (hop : o.op = .load t x) (p v : Value) (hx : a.eval x = p)
    (hr : (Instr.loadAt t p).run P w = .ok v w) (hw : Region.wanted o (yielded ops a.tmps) = true) (hK : wpList P ops Q rest (a.put o.dst v) w) : wpList P ops Q (o :: rest) a w :=
  BigFrame.wpList_want hw fun K hK' => opwp_load_run t x hop p v hx hr (hK' _ _ hK)
theorem snoc_at {α : Type} (l : List α) (x : α) (n : Nat) (h : l.length = n) (hi : n < (l ++ [x]).length) : (l ++ [x])[n] = x := by subst h; simp
theorem snoc_erase {α : Type} (l : List α) (x : α) (n : Nat) (h : l.length = n) : (l ++ [x]).eraseIdx n = l := by subst h; rw [List.eraseIdx_append_of_length_le (Nat.le_refl _)]; simp
theorem gat2 {w0 w : World} {b n : Nat} {rows : List (Array Value)} {L : List Thing} (g1 g : MgM) (h : Sep w0 (BagG b (rows ++ [mgC g1]) :: LnR g1.lv g1.en.p.ls :: By g1.cv g1.ck :: EnT g1.ev g1.ps :: L) w) (hn : rows.length = n) (hs : SameF g1 g) (hl : g.ck.length ≤ 50) (hx : g.ps.length ≤ 8) (hls : g.en.p.ls.length ≤ 8) (hchk : chkB g = true) :
    Calls Tryd.prog 16 #[.pointer (some ⟨b, 0, none⟩), .int .i64 n] w fun e w' => ∃ g2, e = .returned (.tuple #[.agg (mgC g2), .int .i64 0]) ∧ SameF g2 g ∧ Sep w0 (BagG b (rows ++ [mgC g1]) :: LnR g2.lv g2.en.p.ls :: By g2.cv g2.ck :: EnT g2.ev g2.ps :: LnR g1.lv g1.en.p.ls :: By g1.cv g1.ck :: EnT g1.ev g1.ps :: L) w' :=
  (gat_any n g1 h (by rw [List.length_append, hn]; simp) (snoc_at _ _ _ hn _) (fun wx hs => gm_own hs) (by rw [hs.ckl]; omega) (by rw [hs.psl]; omega) ⟨hs.pls (chk_ls hchk (by omega)), by rw [hs.enp]; omega⟩).mono fun e w' ⟨lu, cu, eu, qs, he, hq, h2⟩ => ⟨{ g1 with lv := lu, cv := cu, ev := eu, ps := qs }, he, (sameF_with g1 lu cu eu qs hq).trans hs, h2⟩
theorem gtake2 {w0 w : World} {b n : Nat} {rows : List (Array Value)} {L : List Thing} (g1 : MgM) (h : Sep w0 (BagG b (rows ++ [mgC g1]) :: L) w) (hn : rows.length = n) (hn9 : n < 2000) :
    Calls Tryd.prog 13 #[.pointer (some ⟨b, 0, none⟩), .int .i64 n] w fun e w' => e = .returned (.tuple #[.agg (mgC g1), .int .i64 0]) ∧ Sep w0 (BagG b rows :: L) w' :=
  (gbtake_any (w0 := w0) (w := w) (g := b) (ms := rows ++ [mgC g1]) (L := L) n h (by rw [List.length_append, hn]; simp) (by rw [List.length_append, hn]; simp; omega)).mono fun e w' ⟨u, hu, he, h2⟩ => by
    have e1 : u = mgC g1 := hu.1.trans (snoc_at _ _ _ hn _)
    rw [snoc_erase _ _ _ hn] at h2
    exact ⟨by rw [he, e1], h2⟩
theorem gsame2 {w0 w : World} (g1 g : MgM) {L : List Thing} (h : Sep w0 L w) (hg1 : GmS w g1) (hg : GmS w g) (hs : SameF g1 g) (hl : g.ck.length ≤ 50) (hx : g.ps.length ≤ 8) :
    Calls Tryd.prog 21 #[.agg (mgC g1), .agg (mgC g)] w fun e w' => e = .returned (.bool true) ∧ Sep w0 L w' :=
  (same_true g1 g hg1 hg (by rw [hs.ckl]; omega) (by rw [hs.psl]; omega) (by omega) (by omega) hs.1 hs.2).mono fun e w' ⟨he, h2⟩ => ⟨he, h.below h2.low⟩
theorem gcheck2 {w0 w : World} (g : MgM) {L : List Thing} (h : Sep w0 L w) (hg : GmS w0 g) (hK : KindsAt w0 ∧ MKindsAt w0) (hl : g.ck.length ≤ 50) (hx : g.ps.length ≤ 8) (r : Int) (hr : (if chkB g then (0 : Int) else 2) = r) :
    Calls Tryd.prog 19 #[.agg (mgC g)] w fun e w' => e = .returned (.int .i64 r) ∧ Sep w0 L w' := by
  have := gcheck_w (w := w) g (hg.below h.low) (hK.1.below h.low) (hK.2.below h.low) (by omega) (by omega)
  rw [hr] at this
  exact this.mono fun e w' ⟨he, h2⟩ => ⟨he, h.below h2.low⟩
theorem glen2 {w0 w : World} {b n : Nat} {ms : List (Array Value)} {L : List Thing} (h : Sep w0 (BagG b ms :: L) w) (N : Int) (hN : ((ms.length : Nat) : Int) = N) : Calls Tryd.prog 20 #[.pointer (some ⟨b, 0, none⟩)] w fun e w' => e = .returned (.int .i64 N) ∧ w = w' := by
  have := gblen_any h
  rw [hN] at this
  exact this
set_option maxRecDepth 100000 in
set_option maxHeartbeats 0 in
theorem bagframes_any (g0 : MgM) (a1 : Int) (w : World) (hK : KindsAt w ∧ MKindsAt w) (hg0 : GmS w g0) (hb : g0.ck.length ≤ 9223372036854775807 ∧ g0.ps.length ≤ 9223372036854775807) :
    Calls Tryd.prog 6 #[.agg (mgC g0), .int .i64 a1] w fun e w' => e = .returned (.bool true) ∧ Below w.heap.size w w' := by
  have h1 := (Sep.start w).alloc (.cells (mgC g0) 43)
  obtain ⟨b2, hb2⟩ : ∃ z, z = w.heap.size := ⟨_, rfl⟩
  obtain ⟨wa, hwa⟩ : ∃ z, z = w.alloc (.cells (mgC g0) 43) := ⟨_, rfl⟩
  rw [← hwa, ← hb2] at h1
  have HL := Lib.hid (h1.loadW 43 Tryd.underlying43 rfl (by show _ = some 22; kernel_rfl))
  have HCUT := Lib.hid (cut22_w (w := wa) g0 (hg0.below h1.low) hb)
  obtain ⟨n, hn, hn9⟩ : ∃ n : Nat, a1 % 20 = (n : Int) ∧ n < 20 := ⟨(a1 % 20).toNat, by omega, by omega⟩
  have HBR := Lib.hid (fun wx => bring_any a1 20 wx ⟨by decide, by decide⟩)
  rw [hn] at HBR
  obtain ⟨mc0, hmc0⟩ : ∃ z, z = mgC g0 := ⟨_, rfl⟩
  have hs0 : mc0.size = 22 := by rw [hmc0]; rfl
  rw [← hmc0] at h1 HL HCUT hwa ⊢
  have H1 := Lib.hid (And.intro hs0 h1)
  have HK := Lib.hid hK
  have HN := Lib.hid hn9
  have n0 : (0 : Int) ≤ (n : Int) := by omega
  have n9 : (n : Int) < 20 := by omega
  have HG0 := Lib.hid hg0
  clear h1 hg0 hb hmc0 hs0 hK hn hn9
  go_enter Tryd.func6, Tryd.ntmps6
  (try dsimp only); repeat' (first | (with_reducible show wpList _ _ _ (Oper.mk _ (Op.load 43 _) _ _ _ _ :: _) _ _; refine stopP ?_) | go_values | go_skip | go_guarded | go_step | go_upon | go_back)
  (try rw [← hwa])
  (try rw [← hb2])
  clear hwa hb2
  unfold StopP
  have hq_ := HL.out
  refine wpList_load_run rfl 43 _ rfl _ _ rfl hq_ ?_
  clear hq_ HL
  (try dsimp only); repeat' (first | go_values | go_skip | go_guarded | go_step | go_upon | go_back)
  refine HCUT.out.mono ?_
  rintro r0 w1 ⟨g, rfl, hg, hck, hps, hls, hgw, h2⟩
  clear HCUT
  have h3 := H1.out.2.below h2.low
  obtain ⟨mc, hmc⟩ : ∃ z, z = mgC g := ⟨_, rfl⟩
  have hsz : mc.size = 22 := by rw [hmc]; rfl
  have hon : mc.all (·.oneCell') = true := by
    rw [hmc]
    obtain ⟨x1, x2, e1⟩ := hg.1.len
    obtain ⟨x3, x4, e2⟩ := bv_form hg.2.1
    obtain ⟨x5, x6, e3⟩ := hg.2.2.len
    exact mgC_one g (by rw [e1]; rfl) (by rw [e2]; rfl) (by rw [e3]; rfl)
  rw [← hmc]
  have HTH := Lib.hid (show w1.there b2 0 mc.size by rw [hsz]; exact h3.thereAt 0 22 (by rw [H1.out.1]; exact Nat.le_refl _))
  have h4 := h3.storeW mc (by rw [H1.out.1, hsz])
  have HI : Hid ((Tryd.prog.info? 43).map (·.size) = some mc.size) := Lib.hid (by rw [hsz]; kernel_rfl)
  have HO : Hid (mc.all (·.oneCell') = true) := Lib.hid hon
  obtain ⟨w2, hw2⟩ : ∃ z, z = w1.setCells b2 0 mc.toList := ⟨_, rfl⟩
  rw [← hw2] at h4
  have HBN := Lib.hid (bnew_any h4)
  have HGM := Lib.hid (show GmS w g ∧ g.ck.length ≤ 50 ∧ g.ps.length ≤ 8 ∧ g.en.p.ls.length ≤ 8 from ⟨hgw w HG0.out, hck, hps, hls⟩)
  have HMC := Lib.hid (And.intro hmc hsz)
  clear h2 h3 h4 hg hck hps hls hgw hmc hsz hon HG0 H1
  (try dsimp only); repeat' (first | (with_reducible show wpList _ _ _ (Oper.mk _ (Op.store 43 _ _) _ _ _ _ :: _) _ _; refine stopP ?_) | go_values | go_skip | go_guarded | go_step | go_upon | go_back)
  unfold StopP
  refine wpList_store_mid rfl 43 (.tmp 2) (.tmp 14) rfl b2 0 mc rfl rfl HTH.out HI.out HO.out ?_
  rw [← hw2]
  clear hw2 HTH HI HO
  (try dsimp only); repeat' (first | go_values | go_skip | go_guarded | go_step | go_upon | go_back)
  refine HBN.out.mono ?_
  rintro r0 w3 ⟨b, rfl, h5⟩
  have H5 : Hid (Sep w (BagT b (smls 0) :: [Cl b2 mc 43]) w3) := Lib.hid h5
  clear HBN h5
  (try dsimp only); repeat' (first | go_values | go_skip | go_guarded | go_step | go_upon | go_back)
  refine (HBR.out _).mono ?_
  rintro r0 w4 ⟨rfl, rfl⟩
  clear HBR
  (try dsimp only); repeat' (first | go_values | go_skip | go_guarded | go_step | go_upon | go_back)
  go_loopw [7] (fun i wr => ∃ k : Nat, k ≤ n ∧ i = .int .i64 k ∧ Sep w (BagT b (smls k) :: [Cl b2 mc 43]) wr) (fun i _ => 20 - (intOf i).toNat)
  case atStart => exact ⟨0, Nat.zero_le _, rfl, H5.out⟩
  case round =>
    obtain ⟨k, hk, rfl, hs⟩ := hrel
    clear H5
    have k0 : (0 : Int) ≤ (k : Int) := by omega
    have k9 : (k : Int) ≤ 20 := by have := HN.out; omega
    by_cases hgo : k < n
    · have d0 : decide (k < n) = true := decide_eq_true hgo
      have k1 : (k : Int) < (n : Int) := by omega
      have HSM := Lib.hid (small_any (k : Int) k0 (by omega) hs)
      have HW := Lib.hid hgo
      clear hk hgo hs
      (try dsimp only); repeat' (first | go_values | go_skip | go_guarded | go_step | go_upon | go_back)
      refine HSM.out.mono ?_
      rintro r0 w5 ⟨c, hc, rfl, h5⟩
      have HPT := Lib.hid (bput_any (sM (k : Int)) h5 hc (chk_small HK.out.2 k0 (by omega)) (by rw [smls_len]; have := HW.out; have := HN.out; omega))
      clear HSM h5 hc
      (try dsimp only); repeat' (first | go_values | go_skip | go_guarded | go_step | go_upon | go_back)
      refine HPT.out.mono ?_
      rintro r0 w6 ⟨rfl, h6⟩
      rw [← smls_succ] at h6
      have H6 := Lib.hid h6
      clear HPT h6
      (try dsimp only); repeat' (first | go_values | go_skip | go_guarded | go_step | go_upon | go_back)
      go_roundw
      case rel => exact ⟨k + 1, by have := HW.out; omega, by go_num, H6.out⟩
      case measure => have := HW.out; have := HN.out; simp [intOf]; omega
    · have hkn : k = n := by omega
      subst hkn
      have d0 : decide (k < k) = false := decide_eq_false (by omega)
      obtain ⟨rows, hrl, h6⟩ := hs.bagG
      rw [smls_len] at hrl
      have HRL := Lib.hid hrl
      have HL2 := Lib.hid (h6.sw2.loadW 43 Tryd.underlying43 rfl (by rw [HMC.out.2]; kernel_rfl))
      clear hk hgo hs
      cases hchk : chkB g with
      | false =>
        have hp := gput_bad g h6 (fun wx hx => HGM.out.1.below hx.low) HK.out (by have := HGM.out.2.1; omega) (by have := HGM.out.2.2.1; omega) (by rw [hrl]; have := HN.out; omega) hchk
        rw [← HMC.out.1] at hp
        have HP := Lib.hid hp
        have HCH := Lib.hid hchk
        clear h6 hp hrl hchk
        as_aux_lemma =>
          (try dsimp only); repeat' (first | (with_reducible show wpList _ _ _ (Oper.mk _ (Op.load 43 _) _ _ _ _ :: _) _ _; refine stopP ?_) | (with_reducible show Oper.wp _ (Oper.mk _ (Op.load 43 _) _ _ _ _) _ _ _ _; refine stopP ?_) | go_values | go_skip | go_guarded | go_step | go_upon | go_back)
          unfold StopP
          have hq_ := HL2.out
          first
            | refine wpList_load_run rfl 43 _ rfl _ _ rfl hq_ ?_
            | refine opwp_load_run 43 _ rfl _ _ rfl hq_ ?_
          clear hq_ HL2
          (try dsimp only); repeat' (first | go_values | go_skip | go_guarded | go_step | go_upon | go_back)
          refine HP.out.mono ?_
          rintro r0 w7 ⟨rfl, h7⟩
          have HL3 := Lib.hid (h7.sw2.loadW 43 Tryd.underlying43 rfl (by rw [HMC.out.2]; kernel_rfl))
          have hc2 := gcheck2 g h7 HGM.out.1 HK.out HGM.out.2.1 HGM.out.2.2.1 2 (by rw [HCH.out]; rfl)
          rw [← HMC.out.1] at hc2
          have HCK := Lib.hid hc2
          clear HP h7 hc2
          (try dsimp only); repeat' (first | (with_reducible show wpList _ _ _ (Oper.mk _ (Op.load 43 _) _ _ _ _ :: _) _ _; refine stopP ?_) | (with_reducible show Oper.wp _ (Oper.mk _ (Op.load 43 _) _ _ _ _) _ _ _ _; refine stopP ?_) | go_values | go_skip | go_guarded | go_step | go_upon | go_back)
          unfold StopP
          have hq_ := HL3.out
          first
            | refine wpList_load_run rfl 43 _ rfl _ _ rfl hq_ ?_
            | refine opwp_load_run 43 _ rfl _ _ rfl hq_ ?_
          clear hq_ HL3
          (try dsimp only); repeat' (first | go_values | go_skip | go_guarded | go_step | go_upon | go_back)
          refine HCK.out.mono ?_
          rintro r0 w8 ⟨rfl, h8⟩
          have HLN := Lib.hid (glen2 (n := 0) h8 (k : Int) (by rw [HRL.out]))
          have HWK := Lib.hid (works22_any h8 HK.out.2)
          clear HCK h8
          (try dsimp only); repeat' (first | go_values | go_skip | go_guarded | go_step | go_upon | go_back)
          refine HLN.out.mono ?_
          rintro r0 w9 ⟨rfl, rfl⟩
          clear HLN
          (try dsimp only); repeat' (first | go_values | go_skip | go_guarded | go_step | go_upon | go_back)
          refine HWK.out.mono ?_
          rintro r0 w10 ⟨rfl, h10⟩
          have HZ := Lib.hid h10.low
          clear HWK h10
          (try dsimp only); repeat' (first | go_values | go_skip | go_guarded | go_step | go_upon | go_back)
          go_ret
          exact ⟨rfl, HZ.out⟩
      | true =>
        have hp := gput_ok2 g h6 HGM.out.1 HK.out HGM.out.2.1 HGM.out.2.2.1 HGM.out.2.2.2 (by rw [hrl]; have := HN.out; omega) hchk
        rw [← HMC.out.1] at hp
        have HP := Lib.hid hp
        have HCH := Lib.hid hchk
        clear h6 hp hrl hchk
        as_aux_lemma =>
          (try dsimp only); repeat' (first | (with_reducible show wpList _ _ _ (Oper.mk _ (Op.load 43 _) _ _ _ _ :: _) _ _; refine stopP ?_) | (with_reducible show Oper.wp _ (Oper.mk _ (Op.load 43 _) _ _ _ _) _ _ _ _; refine stopP ?_) | go_values | go_skip | go_guarded | go_step | go_upon | go_back)
          unfold StopP
          have hq_ := HL2.out
          first
            | refine wpList_load_run rfl 43 _ rfl _ _ rfl hq_ ?_
            | refine opwp_load_run 43 _ rfl _ _ rfl hq_ ?_
          clear hq_ HL2
          (try dsimp only); repeat' (first | go_values | go_skip | go_guarded | go_step | go_upon | go_back)
          refine HP.out.mono ?_
          rintro r0 w7 ⟨g1, rfl, hs1, h7⟩
          have HS1 := Lib.hid hs1
          have hl3 := (h7.pickL (M := [_, _, _, _, _]) [4] rfl).loadW 43 Tryd.underlying43 rfl (by rw [HMC.out.2]; kernel_rfl)
          have HL3 := Lib.hid hl3
          have hc2 := gcheck2 g h7 HGM.out.1 HK.out HGM.out.2.1 HGM.out.2.2.1 0 (by rw [HCH.out]; rfl)
          rw [← HMC.out.1] at hc2
          have HCK := Lib.hid hc2
          clear HP h7 hc2 hs1 hl3
          (try dsimp only); repeat' (first | (with_reducible show wpList _ _ _ (Oper.mk _ (Op.load 43 _) _ _ _ _ :: _) _ _; refine stopP ?_) | (with_reducible show Oper.wp _ (Oper.mk _ (Op.load 43 _) _ _ _ _) _ _ _ _; refine stopP ?_) | go_values | go_skip | go_guarded | go_step | go_upon | go_back)
          unfold StopP
          have hq_ := HL3.out
          first
            | refine wpList_load_run rfl 43 _ rfl _ _ rfl hq_ ?_
            | refine opwp_load_run 43 _ rfl _ _ rfl hq_ ?_
          clear hq_ HL3
          (try dsimp only); repeat' (first | go_values | go_skip | go_guarded | go_step | go_upon | go_back)
          refine HCK.out.mono ?_
          rintro r0 w8 ⟨rfl, h8⟩
          have HLN := Lib.hid (glen2 (n := 0) h8 ((k : Int) + 1) (by rw [List.length_append, HRL.out]; simp))
          have HAT := Lib.hid (gat2 g1 g h8 HRL.out HS1.out HGM.out.2.1 HGM.out.2.2.1 HGM.out.2.2.2 HCH.out)
          have kk : ¬ ((k : Int) + 1 = (k : Int)) := by omega
          clear HCK h8
          (try dsimp only); repeat' (first | go_values | go_skip | go_guarded | go_step | go_upon | go_back)
          refine HLN.out.mono ?_
          rintro r0 w9 ⟨rfl, rfl⟩
          clear HLN
          (try dsimp only); repeat' (first | go_values | go_skip | go_guarded | go_step | go_upon | go_back)
          refine HAT.out.mono ?_
          rintro r0 w9 ⟨g2, rfl, hs2, h9⟩
          have HS2 := Lib.hid hs2
          have hone := gms_one (gm_own h9.drop)
          obtain ⟨u2, hu2⟩ : ∃ z, z = mgC g2 := ⟨_, rfl⟩
          have hz2 : u2.size = 22 := by rw [hu2]; rfl
          rw [← hu2] at hone ⊢
          have h10 := h9.alloc (.cells #[.int .i64 0, .int .i64 0, .int .i64 0, .int .i64 0, .int .i64 0, .int .i64 0, .int .i64 0, .int .i64 0, .int .i64 0, .int .i64 0, .string ⟨#[]⟩, .int .i64 0, .int .i64 0, .slice none 0 0, .int .i64 0, .int .i64 0, .int .i64 0, .bool false, .int .i64 0, .slice none 0 0, .slice none 0 0, .int .i64 0] 43)
          have HI : Hid ((Tryd.prog.info? 43).map (·.size) = some u2.size) := Lib.hid (by rw [hz2]; kernel_rfl)
          have HO : Hid (u2.all (·.oneCell') = true) := Lib.hid hone
          have hth := h10.thereAt 0 22 (by simp)
          rw [← hz2] at hth
          have HTH := Lib.hid hth
          have h11 := h10.storeW u2 (by rw [hz2]; rfl)
          obtain ⟨b9, hb9⟩ : ∃ z, z = w9.heap.size := ⟨_, rfl⟩
          obtain ⟨w11, hw11⟩ : ∃ z, z = (w9.alloc (.cells #[.int .i64 0, .int .i64 0, .int .i64 0, .int .i64 0, .int .i64 0, .int .i64 0, .int .i64 0, .int .i64 0, .int .i64 0, .int .i64 0, .string ⟨#[]⟩, .int .i64 0, .int .i64 0, .slice none 0 0, .int .i64 0, .int .i64 0, .int .i64 0, .bool false, .int .i64 0, .slice none 0 0, .slice none 0 0, .int .i64 0] 43)).setCells w9.heap.size 0 u2.toList := ⟨_, rfl⟩
          rw [← hw11, ← hb9] at h11
          have HU2 := Lib.hid (And.intro hu2 hz2)
          have HTK := Lib.hid (gtake2 g1 h11.sw2 HRL.out (by have := HN.out; omega))
          clear HAT h9 h10 h11 hth hone hs2 hu2 hz2
          (try dsimp only); repeat' (first | (with_reducible show wpList _ _ _ (Oper.mk _ (Op.store 43 _ _) _ _ _ _ :: _) _ _; refine stopP ?_) | go_values | go_skip | go_guarded | go_step | go_upon | go_back)
          unfold StopP
          refine wpList_store_mid rfl 43 (.tmp 9) (.tmp 51) rfl w9.heap.size 0 u2 rfl rfl HTH.out HI.out HO.out ?_
          rw [← hw11, ← hb9]
          clear hw11 hb9 HTH HI HO
          (try dsimp only); repeat' (first | go_values | go_skip | go_guarded | go_step | go_upon | go_back)
          refine HTK.out.mono ?_
          rintro r0 w12 ⟨rfl, h12⟩
          have hone := gms_one (gm_own (h12.drop.drop.drop.drop.drop))
          obtain ⟨u1, hu1⟩ : ∃ z, z = mgC g1 := ⟨_, rfl⟩
          have hz1 : u1.size = 22 := by rw [hu1]; rfl
          rw [← hu1] at hone ⊢
          have h13 := h12.alloc (.cells #[.int .i64 0, .int .i64 0, .int .i64 0, .int .i64 0, .int .i64 0, .int .i64 0, .int .i64 0, .int .i64 0, .int .i64 0, .int .i64 0, .string ⟨#[]⟩, .int .i64 0, .int .i64 0, .slice none 0 0, .int .i64 0, .int .i64 0, .int .i64 0, .bool false, .int .i64 0, .slice none 0 0, .slice none 0 0, .int .i64 0] 43)
          have HI : Hid ((Tryd.prog.info? 43).map (·.size) = some u1.size) := Lib.hid (by rw [hz1]; kernel_rfl)
          have HO : Hid (u1.all (·.oneCell') = true) := Lib.hid hone
          have hth := h13.thereAt 0 22 (by simp)
          rw [← hz1] at hth
          have HTH := Lib.hid hth
          have h14 := h13.storeW u1 (by rw [hz1]; rfl)
          obtain ⟨b11, hb11⟩ : ∃ z, z = w12.heap.size := ⟨_, rfl⟩
          obtain ⟨w14, hw14⟩ : ∃ z, z = (w12.alloc (.cells #[.int .i64 0, .int .i64 0, .int .i64 0, .int .i64 0, .int .i64 0, .int .i64 0, .int .i64 0, .int .i64 0, .int .i64 0, .int .i64 0, .string ⟨#[]⟩, .int .i64 0, .int .i64 0, .slice none 0 0, .int .i64 0, .int .i64 0, .int .i64 0, .bool false, .int .i64 0, .slice none 0 0, .slice none 0 0, .int .i64 0] 43)).setCells w12.heap.size 0 u1.toList := ⟨_, rfl⟩
          rw [← hw14, ← hb11] at h14
          have HA := Lib.hid ((h14.sw3).loadW 43 Tryd.underlying43 rfl (by rw [HU2.out.2]; kernel_rfl))
          have HB := Lib.hid ((h14.pickL (M := [_, _, _, _, _, _, _, _, _, _]) [9] rfl).loadW 43 Tryd.underlying43 rfl (by rw [HMC.out.2]; kernel_rfl))
          have hsm := gsame2 g2 g h14 (gm_own h14.drop.drop.drop) (HGM.out.1.below h14.low) HS2.out HGM.out.2.1 HGM.out.2.2.1
          rw [← HU2.out.1, ← HMC.out.1] at hsm
          have HSA := Lib.hid hsm
          have HU1 := Lib.hid (And.intro hu1 hz1)
          clear HTK h12 h13 h14 hth hone hu1 hz1 hsm
          (try dsimp only); repeat' (first | (with_reducible show wpList _ _ _ (Oper.mk _ (Op.store 43 _ _) _ _ _ _ :: _) _ _; refine stopP ?_) | go_values | go_skip | go_guarded | go_step | go_upon | go_back)
          unfold StopP
          refine wpList_store_mid rfl 43 (.tmp 11) (.tmp 57) rfl w12.heap.size 0 u1 rfl rfl HTH.out HI.out HO.out ?_
          rw [← hw14, ← hb11]
          clear hw14 hb11 HTH HI HO
          (try dsimp only); repeat' (first | (with_reducible show wpList _ _ _ (Oper.mk _ (Op.load 43 _) _ _ _ _ :: _) _ _; refine stopP ?_) | go_values | go_skip | go_guarded | go_step | go_upon | go_back)
          unfold StopP
          have hq_ := HA.out
          refine wpList_load_on 43 _ rfl _ _ rfl hq_ (by rfl) ?_
          clear hq_ HA
          (try dsimp only); repeat' (first | (with_reducible show wpList _ _ _ (Oper.mk _ (Op.load 43 _) _ _ _ _ :: _) _ _; refine stopP ?_) | go_values | go_skip | go_guarded | go_step | go_upon | go_back)
          unfold StopP
          have hq_ := HB.out
          refine wpList_load_on 43 _ rfl _ _ rfl hq_ (by rfl) ?_
          clear hq_ HB
          (try dsimp only); repeat' (first | go_values | go_skip | go_guarded | go_step | go_upon | go_back)
          refine HSA.out.mono ?_
          rintro r0 w15 ⟨rfl, h15⟩
          have HA := Lib.hid (h15.loadW 43 Tryd.underlying43 rfl (by rw [HU1.out.2]; kernel_rfl))
          have HB := Lib.hid ((h15.pickL (M := [_, _, _, _, _, _, _, _, _, _]) [9] rfl).loadW 43 Tryd.underlying43 rfl (by rw [HMC.out.2]; kernel_rfl))
          have hsm := gsame2 g1 g h15 (gm_own h15.drop.drop.drop.drop.drop.drop) (HGM.out.1.below h15.low) HS1.out HGM.out.2.1 HGM.out.2.2.1
          rw [← HU1.out.1, ← HMC.out.1] at hsm
          have HSB := Lib.hid hsm
          clear HSA h15 hsm
          (try dsimp only); repeat' (first | (with_reducible show wpList _ _ _ (Oper.mk _ (Op.load 43 _) _ _ _ _ :: _) _ _; refine stopP ?_) | go_values | go_skip | go_guarded | go_step | go_upon | go_back)
          unfold StopP
          have hq_ := HA.out
          refine wpList_load_on 43 _ rfl _ _ rfl hq_ (by rfl) ?_
          clear hq_ HA
          (try dsimp only); repeat' (first | (with_reducible show wpList _ _ _ (Oper.mk _ (Op.load 43 _) _ _ _ _ :: _) _ _; refine stopP ?_) | go_values | go_skip | go_guarded | go_step | go_upon | go_back)
          unfold StopP
          have hq_ := HB.out
          refine wpList_load_on 43 _ rfl _ _ rfl hq_ (by rfl) ?_
          clear hq_ HB
          (try dsimp only); repeat' (first | go_values | go_skip | go_guarded | go_step | go_upon | go_back)
          refine HSB.out.mono ?_
          rintro r0 w16 ⟨rfl, h16⟩
          have HLN := Lib.hid (glen2 (n := 0) h16.sw2 (k : Int) (by rw [HRL.out]))
          have HWK := Lib.hid (works22_any h16 HK.out.2)
          clear HSB h16
          (try dsimp only); repeat' (first | go_values | go_skip | go_guarded | go_step | go_upon | go_back)
          refine HLN.out.mono ?_
          rintro r0 w17 ⟨rfl, rfl⟩
          clear HLN
          (try dsimp only); repeat' (first | go_values | go_skip | go_guarded | go_step | go_upon | go_back)
          refine HWK.out.mono ?_
          rintro r0 w18 ⟨rfl, h18⟩
          have HZ := Lib.hid h18.low
          clear HWK h18
          (try dsimp only); repeat' (first | go_values | go_skip | go_guarded | go_step | go_upon | go_back)
          go_ret
          exact ⟨rfl, HZ.out⟩
end Go.Proofs.YtcnbmeiielkigaaDoor
