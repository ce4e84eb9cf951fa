/- The document's Same. -/
import Derived.Deep.Slices
import Derived.Test.YtafkbodmiblbnaaGreatDoorMRm2
import Derived.Test.YtafkbodmiblbnaaGreatDoorMZ27
import Derived.Test.YtafkbodmiblbnaaGreatDoorMKit
import Derived.Test.YtafkbodmiblbnaaGreatDoorMZ21
import Derived.Test.YtafkbodmiblbnaaGreatDoorMZ03
namespace Go.Proofs.YtafkbodmiblbnaaGreatDoor
open Go Go.RowKit
set_option linter.unusedVariables false
set_option linter.unusedSimpArgs false
set_option maxRecDepth 100000 in
set_option maxHeartbeats 16000000 in
theorem rgsame_w {w : World} (g h : MgM) (hg : GmS w g) (hh : GmS w h) (hl : g.ck.length ≤ 1000000000) (hm : h.ck.length ≤ 1000000000) (hx : g.ps.length ≤ 1000000) (hy : h.ps.length ≤ 1000000) :
    Calls Tryz.prog 16 #[.agg (mgC g), .agg (mgC h)] w fun e w' => ∃ r, e = .returned (.bool (gSame g h && r)) ∧ (r = true ↔ SameP g.ps h.ps) ∧ Sep w [] w' := by
  obtain ⟨hg1, hg2, hg3⟩ := hg
  obtain ⟨hh1, hh2, hh3⟩ := hh
  have h1 := ((Sep.start w).alloc (.cells (mgC g) 34)).alloc (.cells (mgC h) 34)
  rw [show (w.alloc (.cells (mgC g) 34)).heap.size = w.heap.size + 1 by simp] at h1
  obtain ⟨wa, hwa⟩ : ∃ z, z = (w.alloc (.cells (mgC g) 34)).alloc (.cells (mgC h) 34) := ⟨_, rfl⟩
  obtain ⟨b1, hb1⟩ : ∃ z, z = w.heap.size := ⟨_, rfl⟩
  obtain ⟨b2, hb2⟩ : ∃ z, z = w.heap.size + 1 := ⟨_, rfl⟩
  rw [← hwa, ← hb2, ← hb1] at h1
  have HE := Lib.hid (resame_any g.en h.en g.lv h.lv h1 (hg1.below h1.low) (hh1.below h1.low) (lns_maxl hg1))
  have HI := Lib.hid (fun (wx : World) (hb : Below w.heap.size w wx) => rsameimg_w (w := wx) g.ib g.ic h.ib h.ic g.cv g.ev h.cv h.ev g.ck h.ck g.ps h.ps (hg2.below hb) (hh2.below hb) (hg3.below hb) (hh3.below hb) hl hm hx hy)
  obtain ⟨R, hR⟩ := some_r (SameP g.ps h.ps)
  obtain ⟨xlva, xlvc, hlv⟩ := hg1.len
  obtain ⟨xca, xcc, hcv⟩ := bv_form hg2
  obtain ⟨xea, xec2, hev⟩ := hg3.len
  obtain ⟨ylva, ylvc, ilv⟩ := hh1.len
  obtain ⟨yca, ycc, icv⟩ := bv_form hh2
  obtain ⟨yea, yec2, iev⟩ := hh3.len
  unfold gSame
  obtain ⟨xk, xf, xt, xv, xo, xcm, xla, ⟨xec, xem, ⟨xpk, xpx, xpo, xpn, xpls⟩⟩, xlv, xrc, xra, xrb, xs, xib, xck, xcv, xps, xev, xic⟩ := g
  obtain ⟨yk, yf, yt, yv, yo, ycm, yla, ⟨yec, yem, ⟨ypk, ypx, ypo, ypn, ypls⟩⟩, ylv, yrc, yra, yrb, ys, yib, yck, ycv, yps, yev, yic⟩ := h
  dsimp only at *
  subst hlv hcv hev ilv icv iev
  unfold enV at HE
  unfold imgC at HI
  unfold mgC at *
  dsimp only at *
  have HRR := Lib.hid hR
  obtain ⟨eS, heS⟩ : ∃ q, q = enSame ⟨xec, xem, ⟨xpk, xpx, xpo, xpn, xpls⟩⟩ ⟨yec, yem, ⟨ypk, ypx, ypo, ypn, ypls⟩⟩ := ⟨_, rfl⟩
  rw [← heS] at HE ⊢
  obtain ⟨iS, hiS⟩ : ∃ q, q = imgSame xib xic xck yib yic yck := ⟨_, rfl⟩
  rw [← hiS] at HI ⊢
  generalize xck.length = xnck at *
  generalize yck.length = ynck at *
  generalize xpls.length = xnls at *
  generalize ypls.length = ynls at *
  generalize xps.length = xnps at *
  generalize yps.length = ynps at *
  have x0 := h1.sw2.cell (o := 0) rfl
  have y0 := h1.cell (o := 0) rfl
  have x1 := h1.sw2.cell (o := 1) rfl
  have y1 := h1.cell (o := 1) rfl
  have x2 := h1.sw2.cell (o := 2) rfl
  have y2 := h1.cell (o := 2) rfl
  have x3 := h1.sw2.cell (o := 3) rfl
  have y3 := h1.cell (o := 3) rfl
  have x4 := h1.sw2.cell (o := 4) rfl
  have y4 := h1.cell (o := 4) rfl
  have x5 := h1.sw2.cell (o := 5) rfl
  have y5 := h1.cell (o := 5) rfl
  have x6 := h1.sw2.cell (o := 6) rfl
  have y6 := h1.cell (o := 6) rfl
  have x7 := h1.sw2.cell (o := 7) rfl
  have y7 := h1.cell (o := 7) rfl
  have x8 := h1.sw2.cell (o := 8) rfl
  have y8 := h1.cell (o := 8) rfl
  have x9 := h1.sw2.cell (o := 9) rfl
  have y9 := h1.cell (o := 9) rfl
  have x10 := h1.sw2.cell (o := 10) rfl
  have y10 := h1.cell (o := 10) rfl
  have x11 := h1.sw2.cell (o := 11) rfl
  have y11 := h1.cell (o := 11) rfl
  have x12 := h1.sw2.cell (o := 12) rfl
  have y12 := h1.cell (o := 12) rfl
  have x13 := h1.sw2.cell (o := 13) rfl
  have y13 := h1.cell (o := 13) rfl
  have H1 := Lib.hid h1
  clear h1 hg1 hg2 hg3 hh1 hh2 hh3 hl hm hx hy hR heS hiS
  by_cases zk : xk = yk
  · subst zk
    by_cases zf : xf = yf
    · subst zf
      by_cases zt : xt = yt
      · subst zt
        by_cases zv : xv = yv
        · subst zv
          by_cases zo : xo = yo
          · subst zo
            by_cases zcm : xcm = ycm
            · subst zcm
              by_cases zla : xla = yla
              · subst zla
                go_enter Tryz.func16, Tryz.ntmps16
                (try dsimp only); repeat' (first | go_values | go_skip | go_guarded | go_step | go_upon | go_back)
                (try rw [← hwa])
                (try rw [← hb2])
                (try rw [← hb1])
                clear hwa hb1 hb2
                refine HE.out.mono ?_
                rintro rE wE ⟨rfl, hE⟩
                have HsE := Lib.hid hE
                clear hE HE H1 x0 y0 x1 y1 x2 y2 x3 y3 x4 y4 x5 y5 x6 y6 x7 y7 x8 y8 x9 y9 x10 y10 x11 y11 x12 y12 x13 y13
                cases eS with
                | false =>
                  as_aux_lemma =>
                    (try dsimp only); repeat' (first | go_values | go_skip | go_guarded | go_step | go_upon | go_back)
                    go_ret
                    exact ⟨R, by show Ending.returned (Value.bool false) = _; simp, HRR.out, HsE.out.drop.drop⟩
                | true =>
                  have x14 := HsE.out.sw2.cell (o := 14) rfl
                  have y14 := HsE.out.cell (o := 14) rfl
                  have x15 := HsE.out.sw2.cell (o := 15) rfl
                  have y15 := HsE.out.cell (o := 15) rfl
                  have x16 := HsE.out.sw2.cell (o := 16) rfl
                  have y16 := HsE.out.cell (o := 16) rfl
                  have x17 := HsE.out.sw2.cell (o := 17) rfl
                  have y17 := HsE.out.cell (o := 17) rfl
                  have x18 := HsE.out.sw2.cell (o := 18) rfl
                  have y18 := HsE.out.cell (o := 18) rfl
                  have x19 := HsE.out.sw2.cell (o := 19) rfl
                  have y19 := HsE.out.cell (o := 19) rfl
                  have x20 := HsE.out.sw2.cell (o := 20) rfl
                  have y20 := HsE.out.cell (o := 20) rfl
                  have x21 := HsE.out.sw2.cell (o := 21) rfl
                  have y21 := HsE.out.cell (o := 21) rfl
                  by_cases zrc : xrc = yrc
                  · subst zrc
                    by_cases zra : xra = yra
                    · subst zra
                      by_cases zrb : xrb = yrb
                      · subst zrb
                        by_cases zs : xs = ys
                        · subst zs
                          have zss : (xs == xs) = true := by simp
                          (try dsimp only); repeat' (first | go_values | go_skip | go_guarded | go_step | go_upon | go_back)
                          refine (HI.out _ HsE.out.low).mono ?_
                          rintro rI wI ⟨r, rfl, hr, hI⟩
                          have HsI := Lib.hid (And.intro hr (HsE.out.below hI.low))
                          clear hI hr HI HsE x14 y14 x15 y15 x16 y16 x17 y17 x18 y18 x19 y19 x20 y20 x21 y21
                          (try dsimp only); repeat' (first | go_values | go_skip | go_guarded | go_step | go_upon | go_back)
                          go_ret
                          exact ⟨r, by show Ending.returned (Value.bool (iS && r)) = _; simp, HsI.out.1, HsI.out.2.drop.drop⟩
                        · as_aux_lemma =>
                            have d1 : (xs == ys) = false := beq_eq_false_iff_ne.2 zs
                            (try dsimp only); repeat' (first | go_values | go_skip | go_guarded | go_step | go_upon | go_back)
                            go_ret
                            exact ⟨R, by show Ending.returned (Value.bool false) = _; simp [zs], HRR.out, HsE.out.drop.drop⟩
                      · as_aux_lemma =>
                          have d1 : (xrb == yrb) = false := beq_eq_false_iff_ne.2 zrb
                          (try dsimp only); repeat' (first | go_values | go_skip | go_guarded | go_step | go_upon | go_back)
                          go_ret
                          exact ⟨R, by show Ending.returned (Value.bool false) = _; simp [zrb], HRR.out, HsE.out.drop.drop⟩
                    · as_aux_lemma =>
                        have d1 : (xra == yra) = false := beq_eq_false_iff_ne.2 zra
                        (try dsimp only); repeat' (first | go_values | go_skip | go_guarded | go_step | go_upon | go_back)
                        go_ret
                        exact ⟨R, by show Ending.returned (Value.bool false) = _; simp [zra], HRR.out, HsE.out.drop.drop⟩
                  · as_aux_lemma =>
                      have d1 : (xrc == yrc) = false := beq_eq_false_iff_ne.2 zrc
                      (try dsimp only); repeat' (first | go_values | go_skip | go_guarded | go_step | go_upon | go_back)
                      go_ret
                      exact ⟨R, by show Ending.returned (Value.bool false) = _; simp [zrc], HRR.out, HsE.out.drop.drop⟩
              · skip
                · have d1 : (xla == yla) = false := beq_eq_false_iff_ne.2 zla
                  clear HE HI
                  go_enter Tryz.func16, Tryz.ntmps16
                  (try dsimp only); repeat' (first | go_values | go_skip | go_guarded | go_step | go_upon | go_back)
                  (try rw [← hwa])
                  go_ret
                  exact ⟨R, by show Ending.returned (Value.bool false) = _; simp [zla], HRR.out, H1.out.drop.drop⟩
            · skip
              · have d1 : (xcm == ycm) = false := beq_eq_false_iff_ne.2 zcm
                clear HE HI
                go_enter Tryz.func16, Tryz.ntmps16
                (try dsimp only); repeat' (first | go_values | go_skip | go_guarded | go_step | go_upon | go_back)
                (try rw [← hwa])
                go_ret
                exact ⟨R, by show Ending.returned (Value.bool false) = _; simp [zcm], HRR.out, H1.out.drop.drop⟩
          · skip
            · have d1 : (xo == yo) = false := beq_eq_false_iff_ne.2 zo
              clear HE HI
              go_enter Tryz.func16, Tryz.ntmps16
              (try dsimp only); repeat' (first | go_values | go_skip | go_guarded | go_step | go_upon | go_back)
              (try rw [← hwa])
              go_ret
              exact ⟨R, by show Ending.returned (Value.bool false) = _; simp [zo], HRR.out, H1.out.drop.drop⟩
        · skip
          · have d1 : (xv == yv) = false := beq_eq_false_iff_ne.2 zv
            clear HE HI
            go_enter Tryz.func16, Tryz.ntmps16
            (try dsimp only); repeat' (first | go_values | go_skip | go_guarded | go_step | go_upon | go_back)
            (try rw [← hwa])
            go_ret
            exact ⟨R, by show Ending.returned (Value.bool false) = _; simp [zv], HRR.out, H1.out.drop.drop⟩
      · skip
        · have d1 : (xt == yt) = false := beq_eq_false_iff_ne.2 zt
          clear HE HI
          go_enter Tryz.func16, Tryz.ntmps16
          (try dsimp only); repeat' (first | go_values | go_skip | go_guarded | go_step | go_upon | go_back)
          (try rw [← hwa])
          go_ret
          exact ⟨R, by show Ending.returned (Value.bool false) = _; simp [zt], HRR.out, H1.out.drop.drop⟩
    · skip
      · have d1 : (xf == yf) = false := beq_eq_false_iff_ne.2 zf
        clear HE HI
        go_enter Tryz.func16, Tryz.ntmps16
        (try dsimp only); repeat' (first | go_values | go_skip | go_guarded | go_step | go_upon | go_back)
        (try rw [← hwa])
        go_ret
        exact ⟨R, by show Ending.returned (Value.bool false) = _; simp [zf], HRR.out, H1.out.drop.drop⟩
  · skip
    · have d1 : (xk == yk) = false := beq_eq_false_iff_ne.2 zk
      clear HE HI
      go_enter Tryz.func16, Tryz.ntmps16
      (try dsimp only); repeat' (first | go_values | go_skip | go_guarded | go_step | go_upon | go_back)
      (try rw [← hwa])
      go_ret
      exact ⟨R, by show Ending.returned (Value.bool false) = _; simp [zk], HRR.out, H1.out.drop.drop⟩
end Go.Proofs.YtafkbodmiblbnaaGreatDoor
/- What the row's shell tells of arguments of whatever type: cells that read as a value of it. -/
namespace Go.Proofs.YtafkbodmiblbnaaGreatDoor
open Go.RowKit
set_option linter.unusedVariables false
/-- Cells that read as a value of a type. -/
def RdC (P : Program) (w : World) (t : TypeId) (cs : List Value) : Prop :=
  ∃ (H : Type) (enc : TypeId × Value → H) (base : Nat) (spare : Nat → Bool) (held : Bool) (fuel : Nat) (x : DataW H × List MemPlace), DataW.trod enc P w base spare held fuel t cs = some x
/-- A struct or an array. -/
def Av (P : Program) (w : World) (t : TypeId) (v : Value) : Prop := ∃ cs : Array Value, v = .agg cs ∧ RdC P w t cs.toList
theorem RdC.int {P : Program} {w : World} {t : TypeId} {k : IntKind} {cs : List Value} (ht : P.underlying t = some (.int k)) (h : RdC P w t cs) : ∃ n, cs = [.int k n] ∧ (Lit.int k n).wf = true := by
  obtain ⟨H, enc, base, spare, held, fuel, x, hf⟩ := h
  cases fuel with
  | zero => simp [DataW.trod] at hf
  | succ m =>
    rw [DataW.trod_step] at hf
    unfold DataW.trodStep at hf
    simp only [ht] at hf
    split at hf <;> simp_all
theorem RdC.bool {P : Program} {w : World} {t : TypeId} {cs : List Value} (ht : P.underlying t = some .bool) (h : RdC P w t cs) : ∃ b, cs = [.bool b] := by
  obtain ⟨H, enc, base, spare, held, fuel, x, hf⟩ := h
  cases fuel with
  | zero => simp [DataW.trod] at hf
  | succ m =>
    rw [DataW.trod_step] at hf
    unfold DataW.trodStep at hf
    simp only [ht] at hf
    split at hf <;> simp_all
theorem RdC.slice {P : Program} {w : World} {t e : TypeId} {cs : List Value} (ht : P.underlying t = some (.slice e)) (h : RdC P w t cs) :
    cs = [.slice none 0 0] ∨ ∃ a len cap, cs = [.slice (some a) len cap] ∧ len ≤ cap ∧ cap ≤ maxLen ∧
      ∀ i, i < len → ∃ cs', cs'.length = P.cellsOf e ∧ (∀ j, j < P.cellsOf e → w.cell? ((a.add (i * P.cellsOf e)).add j) = cs'[j]?) ∧ RdC P w e cs' := by
  obtain ⟨H, enc, base, spare, held, fuel, x, hf⟩ := h
  rcases Go.Deep.open_slice ht hf with ⟨h0, _⟩ | ⟨a, len, cap, m, n, D, Pl, rfl, _, hl, hm, hmm, _, hel⟩
  · exact .inl h0
  · refine .inr ⟨a, len, cap, rfl, hl, hm, fun i hi => ?_⟩
    obtain ⟨cs', h1, h2⟩ := hel i (by rw [hmm]; split <;> omega)
    have h3 := World.cells?_some h1
    exact ⟨cs', h3.2.1, h3.2.2, H, enc, base, spare, held, n, _, h2⟩
theorem RdC.array {P : Program} {w : World} {t e : TypeId} {n : Nat} {cs : List Value} (ht : P.underlying t = some (.array n e)) (h : RdC P w t cs) :
    cs.length = P.cellsOf t ∧ ∀ i, i < n → RdC P w e ((cs.drop (i * P.cellsOf e)).take (P.cellsOf e)) := by
  obtain ⟨H, enc, base, spare, held, fuel, x, hf⟩ := h
  cases fuel with
  | zero => simp [DataW.trod] at hf
  | succ m =>
    rw [DataW.trod_step] at hf
    unfold DataW.trodStep at hf
    simp only [ht] at hf
    split at hf
    · rename_i hl
      refine ⟨hl, fun i hi => ?_⟩
      obtain ⟨ys, hy, _⟩ := Option.map_eq_some_iff.1 hf
      cases hr : DataW.trod enc P w base spare held m e ((cs.drop (i * P.cellsOf e)).take (P.cellsOf e)) with
      | none => rw [mapM_none_of (List.mem_range.2 hi) hr] at hy; cases hy
      | some y => exact ⟨H, enc, base, spare, held, m, y, hr⟩
    · cases hf
theorem RdC.struct {P : Program} {w : World} {t : TypeId} {fs : Array Field} {cs : List Value} (ht : P.underlying t = some (.struct fs)) (h : RdC P w t cs) :
    cs.length = P.cellsOf t ∧ ∀ f ∈ fs.toList, RdC P w f.type ((cs.drop f.offset).take (P.cellsOf f.type)) := by
  obtain ⟨H, enc, base, spare, held, fuel, x, hf⟩ := h
  cases fuel with
  | zero => simp [DataW.trod] at hf
  | succ m =>
    rw [DataW.trod_step] at hf
    unfold DataW.trodStep at hf
    simp only [ht] at hf
    split at hf
    · rename_i hl
      refine ⟨hl, fun f hi => ?_⟩
      obtain ⟨ys, hy, _⟩ := Option.map_eq_some_iff.1 hf
      cases hr : DataW.trod enc P w base spare held m f.type ((cs.drop f.offset).take (P.cellsOf f.type)) with
      | none => rw [mapM_none_of hi hr] at hy; cases hy
      | some y => exact ⟨H, enc, base, spare, held, m, y, hr⟩
    · cases hf
/-- A slice of cells, each by itself. -/
theorem RdC.cells1 {P : Program} {w : World} {t e : TypeId} {v : Value} (ht : P.underlying t = some (.slice e)) (hc : P.cellsOf e = 1) (h : RdC P w t [v]) :
    ∃ (a : Option Addr) (cap : Nat) (vs : List Value), v = .slice a vs.length cap ∧ vs.length ≤ cap ∧ cap ≤ maxLen ∧ Sl w (.slice a vs.length cap) vs ∧ ∀ u ∈ vs, RdC P w e [u] := by
  rcases h.slice ht with h0 | ⟨a, len, cap, h0, hl, hm, hel⟩
  · simp only [List.cons.injEq, and_true] at h0
    subst h0
    exact ⟨none, 0, [], rfl, Nat.le_refl _, Nat.zero_le _, .inl (.inl ⟨rfl, rfl⟩), fun _ h => by cases h⟩
  · simp only [List.cons.injEq, and_true] at h0
    subst h0
    rw [hc] at hel
    have hall : ∀ i, i < len → ∃ u, w.cell? (a.add i) = some u ∧ RdC P w e [u] := by
      intro i hi
      obtain ⟨cs', h1, h2, h3⟩ := hel i hi
      match cs', h1 with
      | [u], _ =>
        refine ⟨u, ?_, h3⟩
        have := h2 0 (by omega)
        rw [Nat.mul_one] at this
        have ha : (a.add i).add 0 = a.add i := by unfold Addr.add; cases (a.spot) <;> simp
        rw [ha] at this
        simpa using this
    by_cases h0 : len = 0
    · subst h0
      exact ⟨some a, cap, [], rfl, hl, hm, .inr ⟨a, cap, rfl, rfl⟩, fun _ h => by cases h⟩
    · have hx : ∃ b off, a = ⟨b, off, none⟩ := by
        obtain ⟨u, h1, _⟩ := hall 0 (by omega)
        obtain ⟨b, off, sp⟩ := a
        cases sp with
        | none => exact ⟨b, off, rfl⟩
        | some s => simp [Addr.add, World.cell?] at h1; split at h1 <;> simp at h1
      obtain ⟨b, off, rfl⟩ := hx
      have hadd : ∀ j, (⟨b, off, none⟩ : Addr).add j = ⟨b, off + j, none⟩ := fun j => by unfold Addr.add; split <;> simp_all
      let g : Nat → Value := fun i => (w.cell? ⟨b, off + i, none⟩).getD (.bool false)
      have hg : ∀ i, i < len → w.cell? ⟨b, off + i, none⟩ = some (g i) ∧ RdC P w e [g i] := by
        intro i hi
        obtain ⟨u, h1, h2⟩ := hall i hi
        rw [hadd] at h1
        have : g i = u := by show (w.cell? ⟨b, off + i, none⟩).getD _ = u; rw [h1]; rfl
        rw [this]
        exact ⟨h1, h2⟩
      have hb : b < w.heap.size := World.block_lt_of_cell? w ⟨b, off + 0, none⟩ (hg 0 (by omega)).1
      refine ⟨some ⟨b, off, none⟩, cap, (List.range len).map g, by simp, by simpa using hl, hm, .inl (.inr ⟨b, off, cap, rfl, by simpa using hl, hm, hb, fun j u hj => ?_⟩), fun u hu => ?_⟩
      · rw [List.getElem?_map] at hj
        obtain ⟨i, hi, rfl⟩ := Option.map_eq_some_iff.1 hj
        rw [List.getElem?_range] at hi
        · cases hi
          have hj2 : j < len := by
            rcases Nat.lt_or_ge j len with h | h
            · exact h
            · rw [List.getElem?_eq_none (by simpa using h)] at hj; cases hj
          exact (hg j hj2).1
        · rcases Nat.lt_or_ge j len with h | h
          · exact h
          · rw [List.getElem?_eq_none (by simpa using h)] at hj; cases hj
      · obtain ⟨i, hi, rfl⟩ := List.mem_map.1 hu
        exact (hg i (List.mem_range.1 hi)).2
/-- .. of bytes. -/
theorem RdC.bytes {P : Program} {w : World} {t e : TypeId} {v : Value} (ht : P.underlying t = some (.slice e)) (he : P.underlying e = some (.int .u8)) (hc : P.cellsOf e = 1) (h : RdC P w t [v]) :
    ∃ (a : Option Addr) (cap : Nat) (l : List UInt8), v = .slice a l.length cap ∧ l.length ≤ cap ∧ cap ≤ maxLen ∧ Sl w (.slice a l.length cap) (bv l) := by
  obtain ⟨a, cap, vs, rfl, h1, h2, h3, h4⟩ := h.cells1 ht hc
  obtain ⟨l, rfl⟩ : ∃ l : List UInt8, vs = bv l := by
    clear h1 h3 h
    induction vs with
    | nil => exact ⟨[], rfl⟩
    | cons u vs ih =>
      obtain ⟨l, rfl⟩ := ih fun u hu => h4 u (List.mem_cons_of_mem _ hu)
      obtain ⟨n, hn, hw⟩ := (h4 u (List.mem_cons_self ..)).int he
      simp only [List.cons.injEq, and_true] at hn
      subst hn
      have := bounds_u8 hw
      refine ⟨UInt8.ofNat n.toNat :: l, ?_⟩
      simp only [bv, List.map_cons, List.cons.injEq, Value.int.injEq, true_and, and_true]
      rw [UInt8.toNat_ofNat']
      omega
  rw [bv_length] at h1 h3
  exact ⟨a, cap, l, by rw [bv_length], h1, h2, h3⟩
end Go.Proofs.YtafkbodmiblbnaaGreatDoor
/- Slices of structs that came in. -/
namespace Go.Proofs.YtafkbodmiblbnaaGreatDoor
open Go.RowKit
set_option linter.unusedVariables false
/-- A slice whose elements take c cells each. -/
theorem RdC.rows {P : Program} {w : World} {t e : TypeId} {v : Value} {c : Nat} (ht : P.underlying t = some (.slice e)) (hc : P.cellsOf e = c) (hpos : 0 < c) (h : RdC P w t [v]) :
    ∃ (a : Option Addr) (len cap : Nat), v = .slice a len cap ∧ len ≤ cap ∧ cap ≤ maxLen ∧
      ∀ i, i < len → ∃ b off, a = some ⟨b, off, none⟩ ∧ b < w.heap.size ∧ ∃ cs : List Value, cs.length = c ∧ (∀ j (hj : j < cs.length), w.cell? ⟨b, off + i * c + j, none⟩ = some cs[j]) ∧ RdC P w e cs := by
  rcases h.slice ht with h0 | ⟨a, len, cap, h0, hl, hm, hel⟩
  · simp only [List.cons.injEq, and_true] at h0
    subst h0
    exact ⟨none, 0, 0, rfl, Nat.le_refl _, Nat.zero_le _, fun i hi => by omega⟩
  · simp only [List.cons.injEq, and_true] at h0
    subst h0
    refine ⟨some a, len, cap, rfl, hl, hm, fun i hi => ?_⟩
    obtain ⟨cs, h1, h2, h3⟩ := hel i hi
    rw [hc] at h1 h2
    have hx : ∃ b off, a = ⟨b, off, none⟩ := by
      obtain ⟨cs', g1, g2, _⟩ := hel 0 (by omega)
      have h4 := g2 0 (by omega)
      obtain ⟨b, off, sp⟩ := a
      cases sp with
      | none => exact ⟨b, off, rfl⟩
      | some s =>
        rw [List.getElem?_eq_getElem (by omega)] at h4
        simp [Addr.add, World.cell?] at h4
        split at h4 <;> simp at h4
    obtain ⟨b, off, rfl⟩ := hx
    have hadd : ∀ o j, (⟨b, o, none⟩ : Addr).add j = ⟨b, o + j, none⟩ := fun o j => by unfold Addr.add; split <;> simp_all
    have hcell : ∀ j (hj : j < cs.length), w.cell? ⟨b, off + i * c + j, none⟩ = some cs[j] := fun j hj => by
      have h4 := h2 j (by omega)
      rw [hadd, hadd, List.getElem?_eq_getElem hj] at h4
      exact h4
    exact ⟨b, off, rfl, World.block_lt_of_cell? w ⟨b, off + i * c + 0, none⟩ (hcell 0 (by omega)), cs, h1, hcell, h3⟩
end Go.Proofs.YtafkbodmiblbnaaGreatDoor
/- What came in, with its weights: how many bytes each slice takes. -/
namespace Go.Proofs.YtafkbodmiblbnaaGreatDoor
open Go Go.RowKit
set_option linter.unusedVariables false
set_option linter.unusedSimpArgs false
/-- Cells that read as a value of a type, each slice of it no larger than memory. -/
def RdV (P : Program) (w : World) (t : TypeId) (cs : List Value) : Prop :=
  ∃ (H : Type) (enc : TypeId × Value → H) (base : Nat) (spare : Nat → Bool) (held : Bool) (fuel : Nat) (x : DataW H × List MemPlace), DataW.trod enc P w base spare held fuel t cs = some x ∧ ∀ n ∈ x.1.weights P t, n ≤ reachBytes
def AvV (P : Program) (w : World) (t : TypeId) (v : Value) : Prop := ∃ cs : Array Value, v = .agg cs ∧ RdV P w t cs.toList
theorem RdV.rdc {P : Program} {w : World} {t : TypeId} {cs : List Value} (h : RdV P w t cs) : RdC P w t cs := by
  obtain ⟨H, enc, base, spare, held, fuel, x, hf, -⟩ := h
  exact ⟨H, enc, base, spare, held, fuel, x, hf⟩
theorem AvV.av {P : Program} {w : World} {t : TypeId} {v : Value} (h : AvV P w t v) : Av P w t v := by
  obtain ⟨cs, h1, h2⟩ := h
  exact ⟨cs, h1, h2.rdc⟩
theorem weightsAll_mem {H : Type} {P : Program} {e : TypeId} : ∀ {l : List (DataW H)} {d : DataW H}, d ∈ l → ∀ n ∈ d.weights P e, n ∈ DataW.weightsAll P e l
  | x :: l, d, hd, n, hn => by
    rw [DataW.weightsAll]
    rcases List.mem_cons.1 hd with rfl | hd
    · exact List.mem_append_left _ hn
    · exact List.mem_append_right _ (weightsAll_mem hd n hn)
theorem each_mem {H α : Type} {P : Program} {ty : α → TypeId} {r : α → Option (DataW H × List MemPlace)} : ∀ {fs : List α} {ys : List (DataW H × List MemPlace)}, fs.mapM r = some ys → ∀ f ∈ fs, ∃ y, r f = some y ∧ ∀ n ∈ y.1.weights P (ty f), n ∈ DataW.weightsEach P (fs.map ty) (ys.map (·.1))
  | [], ys, h, f, hf => by cases hf
  | g :: fs, ys, h, f, hf => by
    rw [List.mapM_cons] at h
    cases hg : r g with
    | none => rw [hg] at h; simp at h
    | some y0 =>
      rw [hg] at h
      cases hr : fs.mapM r with
      | none => rw [hr] at h; simp at h
      | some ys0 =>
        rw [hr] at h
        simp only [Option.pure_def, Option.bind_eq_bind, Option.bind_some, Option.some.injEq] at h
        subst h
        rcases List.mem_cons.1 hf with rfl | hf
        · refine ⟨y0, hg, fun n hn => ?_⟩
          show n ∈ DataW.weights P (ty f) y0.1 ++ _
          exact List.mem_append_left _ hn
        · obtain ⟨y, h1, h2⟩ := each_mem (P := P) (ty := ty) hr f hf
          refine ⟨y, h1, fun n hn => ?_⟩
          show n ∈ DataW.weights P (ty g) y0.1 ++ _
          exact List.mem_append_right _ (h2 n hn)
theorem RdV.struct {P : Program} {w : World} {t : TypeId} {fs : Array Field} {cs : List Value} (ht : P.underlying t = some (.struct fs)) (h : RdV P w t cs) :
    cs.length = P.cellsOf t ∧ ∀ f ∈ fs.toList, RdV P w f.type ((cs.drop f.offset).take (P.cellsOf f.type)) := by
  obtain ⟨H, enc, base, spare, held, fuel, x, hf, hw⟩ := h
  cases fuel with
  | zero => simp [DataW.trod] at hf
  | succ m =>
    rw [DataW.trod_step] at hf
    unfold DataW.trodStep at hf
    simp only [ht] at hf
    split at hf
    · rename_i hl
      refine ⟨hl, fun f hi => ?_⟩
      obtain ⟨ys, hy, hx⟩ := Option.map_eq_some_iff.1 hf
      subst hx
      obtain ⟨y, h1, h2⟩ := each_mem (P := P) (ty := fun f : Field => f.type) hy f hi
      refine ⟨H, enc, base, spare, held, m, y, h1, fun n hn => hw n ?_⟩
      have h3 := h2 n hn
      unfold DataW.weights
      rw [ht]
      exact h3
    · cases hf
theorem RdV.slice {P : Program} {w : World} {t e : TypeId} {cs : List Value} (ht : P.underlying t = some (.slice e)) (h : RdV P w t cs) :
    cs = [.slice none 0 0] ∨ ∃ a len cap, cs = [.slice (some a) len cap] ∧ len ≤ cap ∧ cap ≤ maxLen ∧ len * P.bytesOf e ≤ reachBytes ∧
      ∀ i, i < len → ∃ cs', cs'.length = P.cellsOf e ∧ (∀ j, j < P.cellsOf e → w.cell? ((a.add (i * P.cellsOf e)).add j) = cs'[j]?) ∧ RdV P w e cs' := by
  obtain ⟨H, enc, base, spare, held, fuel, x, hf, hw⟩ := h
  rcases Go.Deep.open_slice ht hf with ⟨h0, _⟩ | ⟨a, len, cap, m, n, D, Pl, rfl, _, hl, hm, hmm, hx, hel⟩
  · exact .inl h0
  · subst hx
    have hW : ∀ z ∈ (len + (m - len)) * P.bytesOf e :: (DataW.weightsAll P e ((List.range len).map D) ++ DataW.weightsAll P e ((List.range (m - len)).map fun j => D (len + j))), z ≤ reachBytes := by
      intro z hz
      refine hw z ?_
      unfold DataW.weights
      rw [ht]
      simpa using hz
    have hle : len * P.bytesOf e ≤ reachBytes := Nat.le_trans (Nat.mul_le_mul_right _ (by omega)) (hW _ (List.mem_cons_self ..))
    refine .inr ⟨a, len, cap, rfl, hl, hm, hle, fun i hi => ?_⟩
    obtain ⟨cs', h1, h2⟩ := hel i (by rw [hmm]; split <;> omega)
    have h3 := World.cells?_some h1
    refine ⟨cs', h3.2.1, h3.2.2, H, enc, base, spare, held, n, _, h2, fun z hz => hW z ?_⟩
    exact List.mem_cons_of_mem _ (List.mem_append_left _ (weightsAll_mem (List.mem_map.2 ⟨i, by simpa using hi, rfl⟩) z hz))
theorem list5 {cs : List Value} (h : cs.length = 5) : ∃ u0 u1 u2 u3 u4, cs = [u0, u1, u2, u3, u4] := by
  match cs, h with
  | [u0, u1, u2, u3, u4], _ => exact ⟨u0, u1, u2, u3, u4, rfl⟩
theorem list7 {cs : List Value} (h : cs.length = 7) : ∃ u0 u1 u2 u3 u4 u5 u6, cs = [u0, u1, u2, u3, u4, u5, u6] := by
  match cs, h with
  | [u0, u1, u2, u3, u4, u5, u6], _ => exact ⟨u0, u1, u2, u3, u4, u5, u6, rfl⟩
theorem op_lnbd {w : World} {cs : List Value} (h : RdV Tryz.prog w 24 cs) {a : Option Addr} {n c : Nat} (hn : cs[4]? = some (.slice a n c)) : n ≤ 5864062014805 := by
  obtain ⟨hl, hf⟩ := h.struct Tryz.underlying24
  rw [show Tryz.prog.cellsOf 24 = 5 by kernel_rfl] at hl
  obtain ⟨u0, u1, u2, u3, u4, rfl⟩ := list5 hl
  have g4 := hf _ (List.mem_cons_of_mem _ (List.mem_cons_of_mem _ (List.mem_cons_of_mem _ (List.mem_cons_of_mem _ (List.mem_cons_self ..)))))
  rw [show Tryz.prog.cellsOf 22 = 1 by kernel_rfl] at g4
  simp only [List.drop_zero, List.drop_succ_cons, List.take_succ_cons, List.take_zero] at g4
  simp only [List.getElem?_cons_succ, List.getElem?_cons_zero, Option.some.injEq] at hn
  subst hn
  rcases g4.slice Tryz.underlying22 with h0 | ⟨a', len, cap, h0, h1, h2, h3, -⟩
  · simp only [List.cons.injEq, and_true, Value.slice.injEq] at h0
    omega
  · simp only [List.cons.injEq, and_true, Value.slice.injEq] at h0
    obtain ⟨-, rfl, -⟩ := h0
    rw [show Tryz.prog.bytesOf 48 = 24 by kernel_rfl] at h3
    unfold reachBytes at h3
    omega
theorem en_lnbd {w : World} {cs : List Value} (h : RdV Tryz.prog w 26 cs) {a : Option Addr} {n c : Nat} (hn : cs[6]? = some (.slice a n c)) : n ≤ 5864062014805 := by
  obtain ⟨hl, hf⟩ := h.struct Tryz.underlying26
  rw [show Tryz.prog.cellsOf 26 = 7 by kernel_rfl] at hl
  obtain ⟨u0, u1, u2, u3, u4, u5, u6, rfl⟩ := list7 hl
  have g2 := hf _ (List.mem_cons_of_mem _ (List.mem_cons_of_mem _ (List.mem_cons_self ..)))
  rw [show Tryz.prog.cellsOf 24 = 5 by kernel_rfl] at g2
  simp only [List.drop_zero, List.drop_succ_cons, List.take_succ_cons, List.take_zero] at g2
  exact op_lnbd g2 (by simpa using hn)
theorem ens_lnbd {w : World} {v : Value} {xs : List (EnM × Value)} (h : RdV Tryz.prog w 30 [v]) (hx : EnS w v xs) : ∀ x ∈ xs, x.1.p.ls.length ≤ 5864062014805 := by
  intro x hm
  obtain ⟨i, hi, rfl⟩ := List.getElem_of_mem hm
  rcases hx with ⟨a, c, -, rfl⟩ | ⟨b, off, c, rfl, h1, h2, h3, h4⟩
  · cases hi
  rcases h.slice Tryz.underlying30 with h0 | ⟨a', len, cap, h0, k1, k2, k3, k4⟩
  · simp at h0
  · simp only [List.cons.injEq, and_true, Value.slice.injEq, Option.some.injEq] at h0
    obtain ⟨rfl, hlen, -⟩ := h0
    obtain ⟨cs, c1, c2, c3⟩ := k4 i (by omega)
    rw [show Tryz.prog.cellsOf 26 = 7 by kernel_rfl] at c1 c2
    obtain ⟨⟨a0, a1, a2, a3, a4, a5, a6⟩, hv⟩ := h4 i hi
    obtain ⟨va, vc, hvv⟩ := hv.len
    have c6 := c2 6 (by omega)
    have hadd : ∀ b o j, (⟨b, o, none⟩ : Addr).add j = ⟨b, o + j, none⟩ := fun b o j => by unfold Addr.add; split <;> simp_all
    rw [hadd, hadd, a6, hvv] at c6
    exact en_lnbd c3 c6.symm
/-- .. of a message that came in. -/
theorem gm_lnbd {w : World} {g : MgM} (h : AvV Tryz.prog w 34 (.agg (mgC g))) (hg : GmS w g) : ∀ x ∈ g.ps, x.1.p.ls.length ≤ 5864062014805 := by
  obtain ⟨cs, hcs, h⟩ := h
  obtain rfl : mgC g = cs := by injection hcs
  obtain ⟨hl, hf⟩ := h.struct Tryz.underlying34
  have g10 := hf _ (List.mem_cons_of_mem _ (List.mem_cons_of_mem _ (List.mem_cons_of_mem _ (List.mem_cons_of_mem _ (List.mem_cons_of_mem _ (List.mem_cons_of_mem _ (List.mem_cons_of_mem _ (List.mem_cons_of_mem _ (List.mem_cons_of_mem _ (List.mem_cons_of_mem _ (List.mem_cons_self ..)))))))))))
  rw [show Tryz.prog.cellsOf 32 = 4 by kernel_rfl] at g10
  unfold mgC at g10
  simp only [List.drop_zero, List.drop_succ_cons, List.take_succ_cons, List.take_zero] at g10
  obtain ⟨hl10, hf10⟩ := g10.struct Tryz.underlying32
  have i2 := hf10 _ (List.mem_cons_of_mem _ (List.mem_cons_of_mem _ (List.mem_cons_self ..)))
  rw [show Tryz.prog.cellsOf 30 = 1 by kernel_rfl] at i2
  simp only [List.drop_zero, List.drop_succ_cons, List.take_succ_cons, List.take_zero] at i2
  exact ens_lnbd i2 hg.2.2
end Go.Proofs.YtafkbodmiblbnaaGreatDoor
/- Ops, results and lines that came in. -/
namespace Go.Proofs.YtafkbodmiblbnaaGreatDoor
open Go.RowKit
set_option linter.unusedVariables false
theorem RdC.str {P : Program} {w : World} {t : TypeId} {cs : List Value} (ht : P.underlying t = some .string) (h : RdC P w t cs) : ∃ s : KS, cs = [.string s.1] := by
  obtain ⟨H, enc, base, spare, held, fuel, x, hf⟩ := h
  cases fuel with
  | zero => simp [DataW.trod] at hf
  | succ m =>
    rw [DataW.trod_step] at hf
    unfold DataW.trodStep at hf
    simp only [ht] at hf
    split at hf
    all_goals first | (exfalso; simp_all; done) | skip
    rename_i s _
    split at hf
    · rename_i hs
      exact ⟨⟨s, hs⟩, rfl⟩
    · cases hf
theorem listN2 {cs : List Value} (h : cs.length = 2) : ∃ u0 u1, cs = [u0, u1] := by
  match cs, h with
  | [u0, u1], _ => exact ⟨u0, u1, rfl⟩
theorem listN5 {cs : List Value} (h : cs.length = 5) : ∃ u0 u1 u2 u3 u4, cs = [u0, u1, u2, u3, u4] := by
  match cs, h with
  | [u0, u1, u2, u3, u4], _ => exact ⟨u0, u1, u2, u3, u4, rfl⟩
theorem lineCells : Tryz.prog.cellsOf 48 = 2 := by kernel_rfl
theorem ln_of {w : World} {cs : List Value} (h : RdC Tryz.prog w 48 cs) : ∃ l : Ln, cs = [.string l.1.1, .int .i64 l.2] := by
  obtain ⟨hl, hf⟩ := h.struct Tryz.underlying48
  rw [lineCells] at hl
  obtain ⟨u0, u1, rfl⟩ := listN2 hl
  have g0 := hf _ (List.mem_cons_self ..)
  have g1 := hf _ (List.mem_cons_of_mem _ (List.mem_cons_self ..))
  rw [show Tryz.prog.cellsOf 9 = 1 by kernel_rfl] at g0
  rw [show Tryz.prog.cellsOf 3 = 1 by kernel_rfl] at g1
  simp only [List.drop_zero, List.drop_succ_cons, List.take_succ_cons, List.take_zero] at g0 g1
  obtain ⟨s, e0⟩ := g0.str Tryz.underlying9
  obtain ⟨n, e1, _⟩ := g1.int Tryz.underlying3
  simp only [List.cons.injEq, and_true] at e0 e1
  exact ⟨(s, n), by rw [e0, e1]⟩
theorem lns_of {w : World} {v : Value} (h : RdC Tryz.prog w 22 [v]) : ∃ ls : List Ln, LnS w v ls := by
  obtain ⟨a, len, cap, rfl, h1, h2, h3⟩ := h.rows Tryz.underlying22 lineCells (by decide)
  by_cases h0 : len = 0
  · subst h0
    rcases a with _ | a
    · rcases h.slice Tryz.underlying22 with h4 | ⟨a, _, _, h4, _⟩
      · simp only [List.cons.injEq, and_true, Value.slice.injEq] at h4
        exact ⟨[], .inl ⟨none, cap, rfl, fun _ => h4.2.2, rfl⟩⟩
      · simp only [List.cons.injEq, and_true, Value.slice.injEq] at h4
        cases h4.1
    · exact ⟨[], .inl ⟨some a, cap, rfl, (fun h => nomatch h), rfl⟩⟩
  · obtain ⟨b, off, rfl, hb, -⟩ := h3 0 (by omega)
    have hc : ∀ i, i < len → ∃ l : Ln, w.cell? ⟨b, off + i * 2, none⟩ = some (.string l.1.1) ∧ w.cell? ⟨b, off + i * 2 + 1, none⟩ = some (.int .i64 l.2) := fun i hi => by
      obtain ⟨b', off', hab, _, cs, hl, hc, hr⟩ := h3 i hi
      simp only [Option.some.injEq, Addr.mk.injEq, and_true] at hab
      obtain ⟨rfl, rfl⟩ := hab
      obtain ⟨l, rfl⟩ := ln_of hr
      exact ⟨l, hc 0 (by simp), hc 1 (by simp)⟩
    have hpick : ∀ i : Nat, ∃ l : Ln, i < len → w.cell? ⟨b, off + i * 2, none⟩ = some (.string l.1.1) ∧ w.cell? ⟨b, off + i * 2 + 1, none⟩ = some (.int .i64 l.2) := fun i => by
      by_cases hi : i < len
      · obtain ⟨l, h⟩ := hc i hi; exact ⟨l, fun _ => h⟩
      · exact ⟨(⟨⟨#[]⟩, Nat.zero_le _⟩, 0), fun h => absurd h hi⟩
    obtain ⟨f, hf⟩ := Classical.axiomOfChoice hpick
    refine ⟨(List.range len).map f, .inr ⟨b, off, cap, by simp, by simpa using h1, h2, hb, fun i hi => ?_⟩⟩
    have hi' : i < len := by simpa using hi
    rw [List.getElem_map, List.getElem_range]
    exact hf i hi'
theorem op_of {w : World} {cs : List Value} (h : RdC Tryz.prog w 24 cs) : ∃ (k : Int) (s : KS) (o n : Int) (v : Value) (ls : List Ln), cs = [.int .i64 k, .string s.1, .int .i64 o, .int .i64 n, v] ∧ LnS w v ls ∧ (Lit.int .i64 k).wf = true ∧ (Lit.int .i64 o).wf = true ∧ (Lit.int .i64 n).wf = true := by
  obtain ⟨hl, hf⟩ := h.struct Tryz.underlying24
  rw [show Tryz.prog.cellsOf 24 = 5 by kernel_rfl] at hl
  obtain ⟨u0, u1, u2, u3, u4, rfl⟩ := listN5 hl
  have g0 := hf _ (List.mem_cons_self ..)
  have g1 := hf _ (List.mem_cons_of_mem _ (List.mem_cons_self ..))
  have g2 := hf _ (List.mem_cons_of_mem _ (List.mem_cons_of_mem _ (List.mem_cons_self ..)))
  have g3 := hf _ (List.mem_cons_of_mem _ (List.mem_cons_of_mem _ (List.mem_cons_of_mem _ (List.mem_cons_self ..))))
  have g4 := hf _ (List.mem_cons_of_mem _ (List.mem_cons_of_mem _ (List.mem_cons_of_mem _ (List.mem_cons_of_mem _ (List.mem_cons_self ..)))))
  rw [show Tryz.prog.cellsOf 9 = 1 by kernel_rfl] at g1
  rw [show Tryz.prog.cellsOf 3 = 1 by kernel_rfl] at g0 g2 g3
  rw [show Tryz.prog.cellsOf 22 = 1 by kernel_rfl] at g4
  simp only [List.drop_zero, List.drop_succ_cons, List.take_succ_cons, List.take_zero] at g0 g1 g2 g3 g4
  obtain ⟨k, e0, w0⟩ := g0.int Tryz.underlying3
  obtain ⟨s, e1⟩ := g1.str Tryz.underlying9
  obtain ⟨o, e2, w2⟩ := g2.int Tryz.underlying3
  obtain ⟨n, e3, w3⟩ := g3.int Tryz.underlying3
  obtain ⟨ls, e4⟩ := lns_of g4
  simp only [List.cons.injEq, and_true] at e0 e1 e2 e3
  exact ⟨k, s, o, n, u4, ls, by rw [e0, e1, e2, e3], e4, w0, w2, w3⟩
theorem Av.op {w : World} {v : Value} (h : Av Tryz.prog w 24 v) : ∃ (k : Int) (s : KS) (o n : Int) (u : Value) (ls : List Ln), v = .agg #[.int .i64 k, .string s.1, .int .i64 o, .int .i64 n, u] ∧ LnS w u ls ∧ (Lit.int .i64 k).wf = true ∧ (Lit.int .i64 o).wf = true ∧ (Lit.int .i64 n).wf = true := by
  obtain ⟨cs, rfl, h⟩ := h
  obtain ⟨k, s, o, n, u, ls, e, h⟩ := op_of h
  exact ⟨k, s, o, n, u, ls, congrArg Value.agg (Array.toList_inj.1 e), h⟩
end Go.Proofs.YtafkbodmiblbnaaGreatDoor
