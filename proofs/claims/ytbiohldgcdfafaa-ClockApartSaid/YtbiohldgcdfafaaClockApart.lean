/- The walk of ClockApart. -/
import Derived.Test.YtbiohldgcdfafaaClockWorks
import Derived.Test.YtbiohldgcdfafaaInts
import Derived.Deep.RegionHeld3
namespace Go.Proofs.Ytbiohldgcdfafaa
open Go.RowKit
set_option linter.unusedVariables false
/-- A pair of integers in a block. -/
def Pr (w : World) (b : Nat) (x y : Int) : Prop := w.heap[b]? = some (.cells #[.int .i64 x, .int .i64 y] 37 (0, 0))
/-- A pair of clocks in a block. -/
def Pp (w : World) (b : Nat) (x y : Value) : Prop := w.heap[b]? = some (.cells #[x, y] 38 (0, 0))
/-- Two clocks, their limits, and how many ticks are gone. -/
structure Two (w : World) (b0 b1 b2 g0 g1 : Nat) (n0 n1 p0 p1 : Int) : Prop where
  lim : Pr w b0 n0 n1
  ptr : Pp w b1 (.pointer (some ⟨g0, 0, none⟩)) (.pointer (some ⟨g1, 0, none⟩))
  gone : Pr w b2 p0 p1
  k0 : Ck w g0 n0 (min p0 n0)
  k1 : Ck w g1 n1 (min p1 n1)
theorem Pr.cells {w : World} {b : Nat} {x y : Int} (h : Pr w b x y) : w.cell? ⟨b, 0, none⟩ = some (.int .i64 x) ∧ w.cell? ⟨b, 1, none⟩ = some (.int .i64 y) ∧ w.frozen? ⟨b, 0, none⟩ = false ∧ w.frozen? ⟨b, 1, none⟩ = false := by
  unfold Pr at h
  refine ⟨?_, ?_, ?_, ?_⟩
  · unfold World.cell?; rw [h]; rfl
  · unfold World.cell?; rw [h]; rfl
  · unfold World.frozen?; rw [h]; rfl
  · unfold World.frozen?; rw [h]; rfl
theorem Pp.cells {w : World} {b : Nat} {x y : Value} (h : Pp w b x y) : w.cell? ⟨b, 0, none⟩ = some x ∧ w.cell? ⟨b, 1, none⟩ = some y ∧ w.frozen? ⟨b, 0, none⟩ = false ∧ w.frozen? ⟨b, 1, none⟩ = false := by
  unfold Pp at h
  refine ⟨?_, ?_, ?_, ?_⟩
  · unfold World.cell?; rw [h]; rfl
  · unfold World.cell?; rw [h]; rfl
  · unfold World.frozen?; rw [h]; rfl
  · unfold World.frozen?; rw [h]; rfl
theorem Pr.below {w w' : World} {b : Nat} {x y : Int} (h : Pr w b x y) (hb : Below w.heap.size w w') : Pr w' b x y := by
  unfold Pr; rw [hb.block b (Array.getElem?_eq_some_iff.1 h).1]; exact h
theorem Pp.below {w w' : World} {b : Nat} {x y : Value} (h : Pp w b x y) (hb : Below w.heap.size w w') : Pp w' b x y := by
  unfold Pp; rw [hb.block b (Array.getElem?_eq_some_iff.1 h).1]; exact h
theorem Pr.upd {w w' : World} {b g : Nat} {x y : Int} (h : Pr w b x y) (hu : Upd g w w') (hne : b ≠ g) : Pr w' b x y := by
  unfold Pr; rw [hu.block b (Array.getElem?_eq_some_iff.1 h).1 hne]; exact h
theorem Pp.upd {w w' : World} {b g : Nat} {x y : Value} (h : Pp w b x y) (hu : Upd g w w') (hne : b ≠ g) : Pp w' b x y := by
  unfold Pp; rw [hu.block b (Array.getElem?_eq_some_iff.1 h).1 hne]; exact h
theorem Pp.set0 {w : World} {b : Nat} {x y : Value} (h : Pp w b x y) (z : Value) : Pp (w.setCell ⟨b, 0, none⟩ z) b z y := heap_setCell_at h _
theorem Pp.set1 {w : World} {b : Nat} {x y : Value} (h : Pp w b x y) (z : Value) : Pp (w.setCell ⟨b, 1, none⟩ z) b x z := heap_setCell_at h _
theorem Pr.set0 {w : World} {b : Nat} {x y : Int} (h : Pr w b x y) (z : Int) : Pr (w.setCell ⟨b, 0, none⟩ (.int .i64 z)) b z y := heap_setCell_at h _
theorem Pr.set1 {w : World} {b : Nat} {x y : Int} (h : Pr w b x y) (z : Int) : Pr (w.setCell ⟨b, 1, none⟩ (.int .i64 z)) b x z := heap_setCell_at h _
theorem Upd.set {a w : World} {g : Nat} (h : Upd g a w) (o : Nat) (u : Value) : Upd g a (w.setCell ⟨g, o, none⟩ u) := h.setCell o u
theorem half_fits (x : Int) (h : -9223372036854775808 ≤ x ∧ x ≤ 9223372036854775807) : IntKind.i64.wrap (x.tdiv 2) = x.tdiv 2 := by
  have h1 := Int.tmod_add_mul_tdiv x 2
  have h2 := Int.tmod_lt_of_pos x (show (0 : Int) < 2 by omega)
  have h3 := Int.lt_tmod_of_pos x (show (0 : Int) < 2 by omega)
  exact IntWalk.i64_in _ (by omega)
theorem left_max (g : Nat) (n p : Int) (w : World) (h : Ck w g n (min p n)) (h1 : 1 ≤ n) (h2 : n ≤ 1000) (hp : 0 ≤ p) :
    Calls Try.prog 14 #[.pointer (some ⟨g, 0, none⟩)] w fun e w' => e = .returned (.int .i64 (max 0 (n - p))) ∧ ∃ k, w' = w.drewN k := by
  have := left_ok g n (min p n) w h h1 h2 (by omega) (by omega)
  rw [show n - min p n = max 0 (n - p) by omega] at this
  exact this
theorem Two.drewN {w : World} {b0 b1 b2 g0 g1 : Nat} {n0 n1 p0 p1 : Int} (h : Two w b0 b1 b2 g0 g1 n0 n1 p0 p1) (k : Nat) : Two (w.drewN k) b0 b1 b2 g0 g1 n0 n1 p0 p1 := ⟨h.lim, h.ptr, h.gone, h.k0, h.k1⟩
theorem below_drewN {B : Nat} {a w : World} (h : Below B a w) (k : Nat) : Below B a (w.drewN k) := ⟨h.os, h.tape, h.output, h.size, h.block⟩
set_option maxRecDepth 8000 in
set_option maxHeartbeats 1000000 in
theorem apart_walk (a0 a1 : Int) (a : Option Addr) (c : Nat) (l : List Int) (w : World) (h : Sl w (.slice a l.length c) (iv .i64 l)) (hW : ∀ k (hk : k < l.length), -9223372036854775808 ≤ l[k] ∧ l[k] ≤ 9223372036854775807) :
    Calls Try.prog 6 #[.int .i64 a0, .int .i64 a1, .slice a l.length c] w fun e w' => e = .returned (.bool true) ∧ Below w.heap.size w w' := by
  have H := Lib.hid h
  have HW := Lib.hid hW
  clear h hW
  go_enter Try.func6, Try.ntmps6
  go_wp2_with fail
  refine (bring_any a0 1000 _ (by unfold Sm; omega)).mono ?_
  rintro r0 w2 ⟨rfl, rfl⟩
  go_wp2_with fail
  refine (bring_any a1 1000 _ (by unfold Sm; omega)).mono ?_
  rintro r0 w2 ⟨rfl, rfl⟩
  have hw0 : IntKind.i64.wrap (1 + a0 % 1000) = 1 + a0 % 1000 := IntWalk.i64_in _ (by omega)
  have hw1 : IntKind.i64.wrap (1 + a1 % 1000) = 1 + a1 % 1000 := IntWalk.i64_in _ (by omega)
  have hn : 1 ≤ 1 + a0 % 1000 ∧ 1 + a0 % 1000 ≤ 1000 := by omega
  have hm : 1 ≤ 1 + a1 % 1000 ∧ 1 + a1 % 1000 ≤ 1000 := by omega
  go_wp2_with fail
  clear hw0 hw1
  generalize 1 + a0 % 1000 = n0 at *
  generalize 1 + a1 % 1000 = n1 at *
  obtain ⟨hn1, hn2⟩ := hn
  obtain ⟨hm1, hm2⟩ := hm
  have hba := (Below.refl w.heap.size w).alloc (Nat.le_refl _) (.cells #[.int .i64 n0, .int .i64 n1] 37)
  have hlim : Pr (w.alloc (.cells #[.int .i64 n0, .int .i64 n1] 37)) w.heap.size n0 n1 := heap_alloc_new w _
  have hlt : (w.alloc (.cells #[.int .i64 n0, .int .i64 n1] 37)).heap.size = w.heap.size + 1 := by simp
  generalize w.alloc (.cells #[.int .i64 n0, .int .i64 n1] 37) = W1 at *
  have hbb := below_alloc hba (.cells #[.pointer none, .pointer none] 38)
  have hptr : Pp (W1.alloc (.cells #[.pointer none, .pointer none] 38)) (w.heap.size + 1) (.pointer none) (.pointer none) := by rw [← hlt]; exact heap_alloc_new W1 _
  have hlim2 := hlim.below ((Below.refl W1.heap.size W1).alloc (Nat.le_refl _) (.cells #[.pointer none, .pointer none] 38))
  have hlt2 : (W1.alloc (.cells #[.pointer none, .pointer none] 38)).heap.size = w.heap.size + 1 + 1 := by rw [← hlt]; simp
  generalize W1.alloc (.cells #[.pointer none, .pointer none] 38) = W2 at *
  have hbc := below_alloc hbb (.cells #[.int .i64 0, .int .i64 0] 37)
  have hgone : Pr (W2.alloc (.cells #[.int .i64 0, .int .i64 0] 37)) (w.heap.size + 1 + 1) 0 0 := by rw [← hlt2]; exact heap_alloc_new W2 _
  have hlim3 := hlim2.below ((Below.refl W2.heap.size W2).alloc (Nat.le_refl _) (.cells #[.int .i64 0, .int .i64 0] 37))
  have hptr3 := hptr.below ((Below.refl W2.heap.size W2).alloc (Nat.le_refl _) (.cells #[.int .i64 0, .int .i64 0] 37))
  have hlt3 : (W2.alloc (.cells #[.int .i64 0, .int .i64 0] 37)).heap.size = w.heap.size + 1 + 1 + 1 := by rw [← hlt2]; simp
  generalize W2.alloc (.cells #[.int .i64 0, .int .i64 0] 37) = W3 at *
  clear hba hbb hlim hlim2 hptr hlt hlt2
  obtain ⟨b0, hb0⟩ : ∃ b, b = w.heap.size := ⟨_, rfl⟩
  obtain ⟨b1, hb1⟩ : ∃ b, b = w.heap.size + 1 := ⟨_, rfl⟩
  obtain ⟨b2, hb2⟩ : ∃ b, b = w.heap.size + 1 + 1 := ⟨_, rfl⟩
  simp only [← hb2] at hgone ⊢
  simp only [← hb1] at hptr3 ⊢
  simp only [← hb0] at hlim3 ⊢
  have Hb0 := Lib.hid hb0
  have Hb1 := Lib.hid hb1
  have Hb2 := Lib.hid hb2
  clear hb0 hb1 hb2
  have Hbc := Lib.hid hbc
  have Hlim := Lib.hid hlim3
  have Hptr := Lib.hid hptr3
  have Hgone := Lib.hid hgone
  clear hbc hlim3 hptr3 hgone
  go_loopw [10] (fun i wr => (i = .int .i64 0 ∧ Pr wr b0 n0 n1 ∧ Pp wr b1 (.pointer none) (.pointer none) ∧ Pr wr b2 0 0 ∧ Below w.heap.size w wr ∧ b2 < wr.heap.size) ∨ (i = .int .i64 1 ∧ ∃ g0, b2 < g0 ∧ Pr wr b0 n0 n1 ∧ Pp wr b1 (.pointer (some ⟨g0, 0, none⟩)) (.pointer none) ∧ Pr wr b2 0 0 ∧ Below w.heap.size w wr ∧ Ck wr g0 n0 0) ∨ (i = .int .i64 2 ∧ ∃ g0 g1, b2 < g0 ∧ g0 < g1 ∧ Two wr b0 b1 b2 g0 g1 n0 n1 0 0 ∧ Below w.heap.size w wr)) (fun i _ => 2 - (intOf i).toNat)
  case atStart => exact .inl ⟨rfl, Hlim.out, Hptr.out, Hgone.out, Hbc.out, by have := Hb2.out; omega⟩
  case round =>
    clear Hlim Hptr Hgone Hbc hlt3
    rcases hrel with ⟨rfl, hl, hp, hg, hb, hlt⟩ | ⟨rfl, g0, hg0, hl, hp, hg, hb, hk⟩ | ⟨rfl, g0, g1, hg0, hg1, htwo, hb⟩
    · have hcl := hl.cells.1
      have HL := Lib.hid hl
      have HP := Lib.hid hp
      have HG := Lib.hid hg
      clear hl hp hg
      go_wp2_with fail
      refine (cnew_ok n0 _ (by omega) (by omega)).mono ?_
      rintro r0 w2 ⟨⟨g, rfl, hg, hk⟩, hb2⟩
      have hp2 := HP.out.below hb2
      have hl2 := HL.out.below hb2
      have hq2 := HG.out.below hb2
      have hbw2 := below_step hb hb2
      obtain ⟨_, _, c3, _⟩ := hp2.cells
      have hu : Upd b1 w2 (w2.setCell ⟨b1, 0, none⟩ (.pointer (some ⟨g, 0, none⟩))) := (Upd.refl b1 w2).setCell 0 _
      have hne0 : b0 ≠ b1 := by have := Hb0.out; have := Hb1.out; omega
      have hne2 : b2 ≠ b1 := by have := Hb2.out; have := Hb1.out; omega
      have hne3 : g ≠ b1 := by have := Hb2.out; have := Hb1.out; omega
      have hgb : b2 < g := by omega
      have hfin : Hid (Pr (w2.setCell ⟨b1, 0, none⟩ (.pointer (some ⟨g, 0, none⟩))) b0 n0 n1 ∧ Pp (w2.setCell ⟨b1, 0, none⟩ (.pointer (some ⟨g, 0, none⟩))) b1 (.pointer (some ⟨g, 0, none⟩)) (.pointer none) ∧ Pr (w2.setCell ⟨b1, 0, none⟩ (.pointer (some ⟨g, 0, none⟩))) b2 0 0 ∧ Below w.heap.size w (w2.setCell ⟨b1, 0, none⟩ (.pointer (some ⟨g, 0, none⟩))) ∧ Ck (w2.setCell ⟨b1, 0, none⟩ (.pointer (some ⟨g, 0, none⟩))) g n0 0) :=
        Lib.hid ⟨hl2.upd hu hne0, hp2.set0 _, hq2.upd hu hne2, hbw2.trans (hu.below (by have := Hb1.out; omega) hbw2.size), hk.upd hu hne3⟩
      clear hcl HL HP HG hp2 hl2 hq2 hbw2 hu hk hb2 hb hne0 hne2 hne3 hg
      go_wp2_with fail
      go_roundw
      case rel => exact .inr (.inl ⟨rfl, g, hgb, hfin.out⟩)
      case measure => simp [intOf]
    · have hcl := hl.cells.2.1
      have HL := Lib.hid hl
      have HP := Lib.hid hp
      have HG := Lib.hid hg
      have HK := Lib.hid hk
      clear hl hp hg hk
      go_wp2_with fail
      refine (cnew_ok n1 _ (by omega) (by omega)).mono ?_
      rintro r0 w2 ⟨⟨g, rfl, hg, hk⟩, hb2⟩
      have hp2 := HP.out.below hb2
      have hl2 := HL.out.below hb2
      have hq2 := HG.out.below hb2
      have hk2 := HK.out.below hb2
      have hbw2 := below_step hb hb2
      obtain ⟨_, _, _, c3⟩ := hp2.cells
      have hu : Upd b1 w2 (w2.setCell ⟨b1, 1, none⟩ (.pointer (some ⟨g, 0, none⟩))) := (Upd.refl b1 w2).setCell 1 _
      have hgg : g0 < g := by have := HK.out.lt; omega
      have hne0 : b0 ≠ b1 := by have := Hb0.out; have := Hb1.out; omega
      have hne2 : b2 ≠ b1 := by have := Hb2.out; have := Hb1.out; omega
      have hne3 : g ≠ b1 := by have := Hb2.out; have := Hb1.out; omega
      have hne4 : g0 ≠ b1 := by have := Hb2.out; have := Hb1.out; omega
      have hfin : Hid (Two (w2.setCell ⟨b1, 1, none⟩ (.pointer (some ⟨g, 0, none⟩))) b0 b1 b2 g0 g n0 n1 0 0 ∧ Below w.heap.size w (w2.setCell ⟨b1, 1, none⟩ (.pointer (some ⟨g, 0, none⟩)))) :=
        Lib.hid ⟨⟨hl2.upd hu hne0, hp2.set1 _, hq2.upd hu hne2, by rw [show min 0 n0 = 0 by omega]; exact hk2.upd hu hne4, by rw [show min 0 n1 = 0 by omega]; exact hk.upd hu hne3⟩, hbw2.trans (hu.below (by have := Hb1.out; omega) hbw2.size)⟩
      clear hcl HL HP HG HK hp2 hl2 hq2 hbw2 hu hk hk2 hb2 hb hne0 hne2 hne3 hne4 hg
      go_wp2_with fail
      go_roundw
      case rel => exact .inr (.inr ⟨rfl, g0, g, hg0, hgg, hfin.out⟩)
      case measure => simp [intOf]
    · have HT := Lib.hid htwo
      clear htwo
      go_wp2_with fail
      go_loopw [13] (fun i wr => ∃ (k p0 p1 : Nat), k ≤ 300 ∧ i = .int .i64 k ∧ p0 ≤ k ∧ p1 ≤ k ∧ Two wr b0 b1 b2 g0 g1 n0 n1 p0 p1 ∧ Below w.heap.size w wr) (fun i _ => 300 - (intOf i).toNat)
      case atStart => exact ⟨0, 0, 0, by omega, rfl, by omega, by omega, HT.out, hb⟩
      case round =>
        obtain ⟨k, p0, p1, hk, rfl, hp0, hp1, htwo, hbr⟩ := hrel
        clear HT hb
        have hb := hbr
        have HT := Lib.hid htwo
        clear hbr
        by_cases hkl : k < l.length ∧ k < 300
        · obtain ⟨hk1, hk2⟩ := hkl
          have hs := H.out.keep hb.size fun b _ hlt => hb.block b hlt
          obtain ⟨bb, off, rfl, hll, hc⟩ := hs.at (by omega)
          have hcj := hc k _ (iv_get .i64 l k hk1)
          have HLw := Lib.hid (HW.out k hk1)
          clear hs hc hll
          obtain ⟨d0, d1, _, _⟩ := htwo.lim.cells
          obtain ⟨d2, d3, d6, d7⟩ := htwo.gone.cells
          obtain ⟨d4, d5, _, _⟩ := htwo.ptr.cells
          clear htwo
          go_wp2_with fail
          refine (bring_any _ 2 _ (by unfold Sm; omega)).mono ?_
          rintro r0 w3 ⟨rfl, rfl⟩
          obtain hx | hx : l[k] % 2 = 0 ∨ l[k] % 2 = 1 := by omega
          · rw [hx]
            have hwq : IntKind.i64.wrap (l[k].tdiv 2) = l[k].tdiv 2 := half_fits _ HLw.out
            go_wp2_with fail
            refine (bring_any _ 9 _ (by unfold Sm; omega)).mono ?_
            rintro r0 w3 ⟨rfl, rfl⟩
            generalize l[k].tdiv 2 % 9 = y9 at *
            by_cases h9 : y9 = 0
            · obtain rfl := h9
              have h9 := True.intro
              go_wp2_with fail
              refine (creset_ok g0 n0 _ _ (by exact HT.out.k0) (by omega)).mono ?_
              rintro r0 w5 ⟨⟨x5, rfl⟩, hk5, hu5⟩
              obtain ⟨_, _, f20, f21⟩ := (HT.out.gone.upd hu5 (by have := Hb2.out; omega)).cells
              have hu6 : Upd b2 w5 (w5.setCell ⟨b2, 0, none⟩ (.int .i64 0)) := (Upd.refl b2 w5).setCell 0 _
              have hbw5 := hb.trans (hu5.below (by have := Hb2.out; omega) hb.size)
              have hfin : Hid (Two (w5.setCell ⟨b2, 0, none⟩ (.int .i64 0)) b0 b1 b2 g0 g1 n0 n1 (0) (p1) ∧ Below w.heap.size w (w5.setCell ⟨b2, 0, none⟩ (.int .i64 0))) :=
                Lib.hid ⟨⟨(HT.out.lim.upd hu5 (by have := Hb2.out; have := Hb0.out; omega)).upd hu6 (by have := Hb2.out; have := Hb0.out; omega), (HT.out.ptr.upd hu5 (by have := Hb2.out; have := Hb1.out; omega)).upd hu6 (by have := Hb2.out; have := Hb1.out; omega), (HT.out.gone.upd hu5 (by have := Hb2.out; omega)).set0 0, by rw [show min 0 n0 = 0 by omega]; exact hk5.upd hu6 (by omega), (HT.out.k1.upd hu5 (by omega)).upd hu6 (by omega)⟩, hbw5.trans (hu6.below (by have := Hb2.out; omega) hbw5.size)⟩
              clear hk5 hu5 hu6 hbw5 hb HT d0 d1 d2 d3 d4 d5 d6 d7 hcj hwq h9
              go_wp2_with fail
              go_loopw [15] (fun i wz => ∃ (t : Nat), t ≤ 2 ∧ i = .int .i64 t ∧ Two wz b0 b1 b2 g0 g1 n0 n1 (0) (p1) ∧ Below w.heap.size w wz) (fun i _ => 2 - (intOf i).toNat)
              case atStart => exact ⟨0, by omega, rfl, hfin.out.1, hfin.out.2⟩
              case round =>
                obtain ⟨t, ht, rfl, htz, hbz⟩ := hrel
                clear hfin
                have HZ := Lib.hid htz
                obtain ⟨e0, e1, _, _⟩ := htz.lim.cells
                obtain ⟨e2, e3, _, _⟩ := htz.gone.cells
                obtain ⟨e4, e5, _, _⟩ := htz.ptr.cells
                clear htz
                obtain rfl | rfl | rfl : t = 0 ∨ t = 1 ∨ t = 2 := by omega
                · have hws : IntKind.i64.wrap (n0 - (0)) = n0 - (0) := IntWalk.i64_in _ (by omega)
                  go_wp2_with fail
                  go_quiet (first | (go_at_call 14; exact Calls.quiet_of (left_max g0 n0 (0) _ (by exact HZ.out.k0) (by omega) (by omega) (by omega))))
                  clear hws e0 e1 e2 e3 e4 e5
                  go_wp2_with fail
                  go_roundw
                  case rel => exact ⟨1, by omega, rfl, HZ.out.drewN _, below_drewN hbz _⟩
                  case measure => simp [intOf]
                · have hws : IntKind.i64.wrap (n1 - (p1)) = n1 - (p1) := IntWalk.i64_in _ (by omega)
                  go_wp2_with fail
                  go_quiet (first | (go_at_call 14; exact Calls.quiet_of (left_max g1 n1 (p1) _ (by exact HZ.out.k1) (by omega) (by omega) (by omega))))
                  clear hws e0 e1 e2 e3 e4 e5
                  go_wp2_with fail
                  go_roundw
                  case rel => exact ⟨2, by omega, rfl, HZ.out.drewN _, below_drewN hbz _⟩
                  case measure => simp [intOf]
                · clear e0 e1 e2 e3 e4 e5
                  go_wp2_with fail
                  go_roundw
                  case rel => exact ⟨k + 1, 0, p1, by omega, by go_num, by omega, by omega, by exact HZ.out, hbz⟩
                  case measure => simp [intOf]; omega
            · have hwg : IntKind.i64.wrap ((p0 : Int) + 1) = (p0 : Int) + 1 := IntWalk.i64_in _ (by omega)
              go_wp2_with fail
              have hu6 : Upd b2 wr (wr.setCell ⟨b2, 0, none⟩ (.int .i64 ((p0 : Int) + 1))) := (Upd.refl b2 wr).setCell 0 _
              have hl6 := HT.out.lim.upd hu6 (by have := Hb2.out; have := Hb0.out; omega)
              have hp6 := HT.out.ptr.upd hu6 (by have := Hb2.out; have := Hb1.out; omega)
              have hg6 := HT.out.gone.set0 ((p0 : Int) + 1)
              have hc6 := HT.out.k0.upd hu6 (by omega)
              have ho6 := HT.out.k1.upd hu6 (by omega)
              have hb6 := hb.trans (hu6.below (by have := Hb2.out; omega) hb.size)
              generalize wr.setCell ⟨b2, 0, none⟩ (.int .i64 ((p0 : Int) + 1)) = W6 at *
              clear hu6 hb HT d0 d1 d2 d3 d4 d5 d6 d7 hcj hwq h9
              have y1 : W6.cell? ⟨b0, 0, none⟩ = some (.int .i64 n0) := by have := hl6.cells; simp [this]
              have y2 : W6.cell? ⟨b2, 0, none⟩ = some (.int .i64 ((p0 : Int) + 1)) := by have := hg6.cells; simp [this]
              have y3 : W6.cell? ⟨b1, 0, none⟩ = some (.pointer (some ⟨g0, 0, none⟩)) := by have := hp6.cells; simp [this]
              have HL := Lib.hid hl6
              have HPp := Lib.hid hp6
              have HG := Lib.hid hg6
              have HC := Lib.hid hc6
              have HO := Lib.hid ho6
              have HB := Lib.hid hb6
              have hpc : Hid (∀ wx : World, Ck wx g0 n0 (min (p0 : Int) n0) → Calls Try.prog 10 #[.pointer (some ⟨g0, 0, none⟩)] wx fun r w' => r = .returned (.bool (decide (n0 ≤ (p0 : Int) + 1))) ∧ Ck w' g0 n0 (min ((p0 : Int) + 1) n0) ∧ Upd g0 wx w') := Lib.hid (fun wx h => tick_at g0 n0 _ _ _ wx h (by omega) (by omega) (by omega) (by omega) (by rw [Bool.eq_iff_iff]; simp; omega) (by omega))
              have hx1 : b0 ≠ g0 := by have := Hb2.out; have := Hb0.out; omega
              have hx2 : b2 ≠ g0 := by omega
              have hx3 : b1 ≠ g0 := by have := Hb2.out; have := Hb1.out; omega
              have hx4 : g1 ≠ g0 := by omega
              clear hl6 hp6 hg6 hc6 ho6 hb6 hwg
              go_region_held3 (fun w' => w'.cell? ⟨b0, 0, none⟩ = some (.int .i64 n0) ∧ w'.cell? ⟨b2, 0, none⟩ = some (.int .i64 ((p0 : Int) + 1)) ∧ w'.cell? ⟨b1, 0, none⟩ = some (.pointer (some ⟨g0, 0, none⟩))) (go_keep) (first | (go_at_call 10; refine Calls.mono (hpc.out _ (by exact HC.out)) ?_; rintro r0 wx ⟨rfl, hkx, hux⟩; have z1 := (World.cell?_of_block (a := ⟨b0, 0, none⟩) (hux.block _ (World.block_lt_of_cell? _ _ y1) hx1)).trans y1; have z2 := (World.cell?_of_block (a := ⟨b2, 0, none⟩) (hux.block _ (World.block_lt_of_cell? _ _ y2) hx2)).trans y2; have z3 := (World.cell?_of_block (a := ⟨b1, 0, none⟩) (hux.block _ (World.block_lt_of_cell? _ _ y3) hx3)).trans y3))
              have hur : Upd g0 W6 wx := ((Upd.refl g0 W6).drew).trans hux
              have hfin : Hid (Two wx b0 b1 b2 g0 g1 n0 n1 ((p0 : Int) + 1) (p1) ∧ Below w.heap.size w wx) :=
                Lib.hid ⟨⟨HL.out.upd hur hx1, HPp.out.upd hur hx3, HG.out.upd hur hx2, hkx, HO.out.upd hur hx4⟩, HB.out.trans (hur.below (by have := Hb2.out; omega) HB.out.size)⟩
              clear hkx hux hur hpc y1 y2 y3 HL HPp HG HC HO HB hx1 hx2 hx3 hx4
              go_wp2_with fail
              go_loopw [15] (fun i wz => ∃ (t : Nat), t ≤ 2 ∧ i = .int .i64 t ∧ Two wz b0 b1 b2 g0 g1 n0 n1 ((p0 : Int) + 1) (p1) ∧ Below w.heap.size w wz) (fun i _ => 2 - (intOf i).toNat)
              case atStart => exact ⟨0, by omega, rfl, hfin.out.1, hfin.out.2⟩
              case round =>
                obtain ⟨t, ht, rfl, htz, hbz⟩ := hrel
                clear hfin
                have HZ := Lib.hid htz
                obtain ⟨e0, e1, _, _⟩ := htz.lim.cells
                obtain ⟨e2, e3, _, _⟩ := htz.gone.cells
                obtain ⟨e4, e5, _, _⟩ := htz.ptr.cells
                clear htz
                obtain rfl | rfl | rfl : t = 0 ∨ t = 1 ∨ t = 2 := by omega
                · have hws : IntKind.i64.wrap (n0 - ((p0 : Int) + 1)) = n0 - ((p0 : Int) + 1) := IntWalk.i64_in _ (by omega)
                  go_wp2_with fail
                  go_quiet (first | (go_at_call 14; exact Calls.quiet_of (left_max g0 n0 ((p0 : Int) + 1) _ (by exact HZ.out.k0) (by omega) (by omega) (by omega))))
                  clear hws e0 e1 e2 e3 e4 e5
                  go_wp2_with fail
                  go_roundw
                  case rel => exact ⟨1, by omega, rfl, HZ.out.drewN _, below_drewN hbz _⟩
                  case measure => simp [intOf]
                · have hws : IntKind.i64.wrap (n1 - (p1)) = n1 - (p1) := IntWalk.i64_in _ (by omega)
                  go_wp2_with fail
                  go_quiet (first | (go_at_call 14; exact Calls.quiet_of (left_max g1 n1 (p1) _ (by exact HZ.out.k1) (by omega) (by omega) (by omega))))
                  clear hws e0 e1 e2 e3 e4 e5
                  go_wp2_with fail
                  go_roundw
                  case rel => exact ⟨2, by omega, rfl, HZ.out.drewN _, below_drewN hbz _⟩
                  case measure => simp [intOf]
                · clear e0 e1 e2 e3 e4 e5
                  go_wp2_with fail
                  go_roundw
                  case rel => exact ⟨k + 1, p0 + 1, p1, by omega, by go_num, by omega, by omega, by exact HZ.out, hbz⟩
                  case measure => simp [intOf]; omega
          · rw [hx]
            have hwq : IntKind.i64.wrap (l[k].tdiv 2) = l[k].tdiv 2 := half_fits _ HLw.out
            go_wp2_with fail
            refine (bring_any _ 9 _ (by unfold Sm; omega)).mono ?_
            rintro r0 w3 ⟨rfl, rfl⟩
            generalize l[k].tdiv 2 % 9 = y9 at *
            by_cases h9 : y9 = 0
            · obtain rfl := h9
              have h9 := True.intro
              go_wp2_with fail
              refine (creset_ok g1 n1 _ _ (by exact HT.out.k1) (by omega)).mono ?_
              rintro r0 w5 ⟨⟨x5, rfl⟩, hk5, hu5⟩
              obtain ⟨_, _, f20, f21⟩ := (HT.out.gone.upd hu5 (by have := Hb2.out; omega)).cells
              have hu6 : Upd b2 w5 (w5.setCell ⟨b2, 1, none⟩ (.int .i64 0)) := (Upd.refl b2 w5).setCell 1 _
              have hbw5 := hb.trans (hu5.below (by have := Hb2.out; omega) hb.size)
              have hfin : Hid (Two (w5.setCell ⟨b2, 1, none⟩ (.int .i64 0)) b0 b1 b2 g0 g1 n0 n1 (p0) (0) ∧ Below w.heap.size w (w5.setCell ⟨b2, 1, none⟩ (.int .i64 0))) :=
                Lib.hid ⟨⟨(HT.out.lim.upd hu5 (by have := Hb2.out; have := Hb0.out; omega)).upd hu6 (by have := Hb2.out; have := Hb0.out; omega), (HT.out.ptr.upd hu5 (by have := Hb2.out; have := Hb1.out; omega)).upd hu6 (by have := Hb2.out; have := Hb1.out; omega), (HT.out.gone.upd hu5 (by have := Hb2.out; omega)).set1 0, (HT.out.k0.upd hu5 (by omega)).upd hu6 (by omega), by rw [show min 0 n1 = 0 by omega]; exact hk5.upd hu6 (by omega)⟩, hbw5.trans (hu6.below (by have := Hb2.out; omega) hbw5.size)⟩
              clear hk5 hu5 hu6 hbw5 hb HT d0 d1 d2 d3 d4 d5 d6 d7 hcj hwq h9
              go_wp2_with fail
              go_loopw [15] (fun i wz => ∃ (t : Nat), t ≤ 2 ∧ i = .int .i64 t ∧ Two wz b0 b1 b2 g0 g1 n0 n1 (p0) (0) ∧ Below w.heap.size w wz) (fun i _ => 2 - (intOf i).toNat)
              case atStart => exact ⟨0, by omega, rfl, hfin.out.1, hfin.out.2⟩
              case round =>
                obtain ⟨t, ht, rfl, htz, hbz⟩ := hrel
                clear hfin
                have HZ := Lib.hid htz
                obtain ⟨e0, e1, _, _⟩ := htz.lim.cells
                obtain ⟨e2, e3, _, _⟩ := htz.gone.cells
                obtain ⟨e4, e5, _, _⟩ := htz.ptr.cells
                clear htz
                obtain rfl | rfl | rfl : t = 0 ∨ t = 1 ∨ t = 2 := by omega
                · have hws : IntKind.i64.wrap (n0 - (p0)) = n0 - (p0) := IntWalk.i64_in _ (by omega)
                  go_wp2_with fail
                  go_quiet (first | (go_at_call 14; exact Calls.quiet_of (left_max g0 n0 (p0) _ (by exact HZ.out.k0) (by omega) (by omega) (by omega))))
                  clear hws e0 e1 e2 e3 e4 e5
                  go_wp2_with fail
                  go_roundw
                  case rel => exact ⟨1, by omega, rfl, HZ.out.drewN _, below_drewN hbz _⟩
                  case measure => simp [intOf]
                · have hws : IntKind.i64.wrap (n1 - (0)) = n1 - (0) := IntWalk.i64_in _ (by omega)
                  go_wp2_with fail
                  go_quiet (first | (go_at_call 14; exact Calls.quiet_of (left_max g1 n1 (0) _ (by exact HZ.out.k1) (by omega) (by omega) (by omega))))
                  clear hws e0 e1 e2 e3 e4 e5
                  go_wp2_with fail
                  go_roundw
                  case rel => exact ⟨2, by omega, rfl, HZ.out.drewN _, below_drewN hbz _⟩
                  case measure => simp [intOf]
                · clear e0 e1 e2 e3 e4 e5
                  go_wp2_with fail
                  go_roundw
                  case rel => exact ⟨k + 1, p0, 0, by omega, by go_num, by omega, by omega, by exact HZ.out, hbz⟩
                  case measure => simp [intOf]; omega
            · have hwg : IntKind.i64.wrap ((p1 : Int) + 1) = (p1 : Int) + 1 := IntWalk.i64_in _ (by omega)
              go_wp2_with fail
              have hu6 : Upd b2 wr (wr.setCell ⟨b2, 1, none⟩ (.int .i64 ((p1 : Int) + 1))) := (Upd.refl b2 wr).setCell 1 _
              have hl6 := HT.out.lim.upd hu6 (by have := Hb2.out; have := Hb0.out; omega)
              have hp6 := HT.out.ptr.upd hu6 (by have := Hb2.out; have := Hb1.out; omega)
              have hg6 := HT.out.gone.set1 ((p1 : Int) + 1)
              have hc6 := HT.out.k1.upd hu6 (by omega)
              have ho6 := HT.out.k0.upd hu6 (by omega)
              have hb6 := hb.trans (hu6.below (by have := Hb2.out; omega) hb.size)
              generalize wr.setCell ⟨b2, 1, none⟩ (.int .i64 ((p1 : Int) + 1)) = W6 at *
              clear hu6 hb HT d0 d1 d2 d3 d4 d5 d6 d7 hcj hwq h9
              have y1 : W6.cell? ⟨b0, 1, none⟩ = some (.int .i64 n1) := by have := hl6.cells; simp [this]
              have y2 : W6.cell? ⟨b2, 1, none⟩ = some (.int .i64 ((p1 : Int) + 1)) := by have := hg6.cells; simp [this]
              have y3 : W6.cell? ⟨b1, 1, none⟩ = some (.pointer (some ⟨g1, 0, none⟩)) := by have := hp6.cells; simp [this]
              have HL := Lib.hid hl6
              have HPp := Lib.hid hp6
              have HG := Lib.hid hg6
              have HC := Lib.hid hc6
              have HO := Lib.hid ho6
              have HB := Lib.hid hb6
              have hpc : Hid (∀ wx : World, Ck wx g1 n1 (min (p1 : Int) n1) → Calls Try.prog 10 #[.pointer (some ⟨g1, 0, none⟩)] wx fun r w' => r = .returned (.bool (decide (n1 ≤ (p1 : Int) + 1))) ∧ Ck w' g1 n1 (min ((p1 : Int) + 1) n1) ∧ Upd g1 wx w') := Lib.hid (fun wx h => tick_at g1 n1 _ _ _ wx h (by omega) (by omega) (by omega) (by omega) (by rw [Bool.eq_iff_iff]; simp; omega) (by omega))
              have hx1 : b0 ≠ g1 := by have := Hb2.out; have := Hb0.out; omega
              have hx2 : b2 ≠ g1 := by omega
              have hx3 : b1 ≠ g1 := by have := Hb2.out; have := Hb1.out; omega
              have hx4 : g0 ≠ g1 := by omega
              clear hl6 hp6 hg6 hc6 ho6 hb6 hwg
              go_region_held3 (fun w' => w'.cell? ⟨b0, 1, none⟩ = some (.int .i64 n1) ∧ w'.cell? ⟨b2, 1, none⟩ = some (.int .i64 ((p1 : Int) + 1)) ∧ w'.cell? ⟨b1, 1, none⟩ = some (.pointer (some ⟨g1, 0, none⟩))) (go_keep) (first | (go_at_call 10; refine Calls.mono (hpc.out _ (by exact HC.out)) ?_; rintro r0 wx ⟨rfl, hkx, hux⟩; have z1 := (World.cell?_of_block (a := ⟨b0, 1, none⟩) (hux.block _ (World.block_lt_of_cell? _ _ y1) hx1)).trans y1; have z2 := (World.cell?_of_block (a := ⟨b2, 1, none⟩) (hux.block _ (World.block_lt_of_cell? _ _ y2) hx2)).trans y2; have z3 := (World.cell?_of_block (a := ⟨b1, 1, none⟩) (hux.block _ (World.block_lt_of_cell? _ _ y3) hx3)).trans y3))
              have hur : Upd g1 W6 wx := ((Upd.refl g1 W6).drew).trans hux
              have hfin : Hid (Two wx b0 b1 b2 g0 g1 n0 n1 (p0) ((p1 : Int) + 1) ∧ Below w.heap.size w wx) :=
                Lib.hid ⟨⟨HL.out.upd hur hx1, HPp.out.upd hur hx3, HG.out.upd hur hx2, HO.out.upd hur hx4, hkx⟩, HB.out.trans (hur.below (by have := Hb2.out; omega) HB.out.size)⟩
              clear hkx hux hur hpc y1 y2 y3 HL HPp HG HC HO HB hx1 hx2 hx3 hx4
              go_wp2_with fail
              go_loopw [15] (fun i wz => ∃ (t : Nat), t ≤ 2 ∧ i = .int .i64 t ∧ Two wz b0 b1 b2 g0 g1 n0 n1 (p0) ((p1 : Int) + 1) ∧ Below w.heap.size w wz) (fun i _ => 2 - (intOf i).toNat)
              case atStart => exact ⟨0, by omega, rfl, hfin.out.1, hfin.out.2⟩
              case round =>
                obtain ⟨t, ht, rfl, htz, hbz⟩ := hrel
                clear hfin
                have HZ := Lib.hid htz
                obtain ⟨e0, e1, _, _⟩ := htz.lim.cells
                obtain ⟨e2, e3, _, _⟩ := htz.gone.cells
                obtain ⟨e4, e5, _, _⟩ := htz.ptr.cells
                clear htz
                obtain rfl | rfl | rfl : t = 0 ∨ t = 1 ∨ t = 2 := by omega
                · have hws : IntKind.i64.wrap (n0 - (p0)) = n0 - (p0) := IntWalk.i64_in _ (by omega)
                  go_wp2_with fail
                  go_quiet (first | (go_at_call 14; exact Calls.quiet_of (left_max g0 n0 (p0) _ (by exact HZ.out.k0) (by omega) (by omega) (by omega))))
                  clear hws e0 e1 e2 e3 e4 e5
                  go_wp2_with fail
                  go_roundw
                  case rel => exact ⟨1, by omega, rfl, HZ.out.drewN _, below_drewN hbz _⟩
                  case measure => simp [intOf]
                · have hws : IntKind.i64.wrap (n1 - ((p1 : Int) + 1)) = n1 - ((p1 : Int) + 1) := IntWalk.i64_in _ (by omega)
                  go_wp2_with fail
                  go_quiet (first | (go_at_call 14; exact Calls.quiet_of (left_max g1 n1 ((p1 : Int) + 1) _ (by exact HZ.out.k1) (by omega) (by omega) (by omega))))
                  clear hws e0 e1 e2 e3 e4 e5
                  go_wp2_with fail
                  go_roundw
                  case rel => exact ⟨2, by omega, rfl, HZ.out.drewN _, below_drewN hbz _⟩
                  case measure => simp [intOf]
                · clear e0 e1 e2 e3 e4 e5
                  go_wp2_with fail
                  go_roundw
                  case rel => exact ⟨k + 1, p0, p1 + 1, by omega, by go_num, by omega, by omega, by exact HZ.out, hbz⟩
                  case measure => simp [intOf]; omega
        · clear htwo
          by_cases hk1 : k < l.length
          · have hk2 : ¬ k < 300 := by omega
            clear hkl
            go_wp2_with (go_at_call 18; refine (works_any _).mono ?_; rintro r0 w6 ⟨rfl, hb6⟩)
            go_ret
            exact ⟨rfl, below_step hb hb6⟩
          · clear hkl
            go_wp2_with (go_at_call 18; refine (works_any _).mono ?_; rintro r0 w6 ⟨rfl, hb6⟩)
            go_ret
            exact ⟨rfl, below_step hb hb6⟩
end Go.Proofs.Ytbiohldgcdfafaa
