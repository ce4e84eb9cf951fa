/- The document's SameImage, CopyImage, Copy. -/
import Derived.Test.YtafkbodmiblbnaaGreatDoorMRm0
import Derived.Test.YtafkbodmiblbnaaGreatDoorMZ24
namespace Go.Proofs.YtafkbodmiblbnaaGreatDoor
open Go Go.RowKit
set_option linter.unusedVariables false
set_option linter.unusedSimpArgs false
theorem reqB_any {w0 w : World} {L : List Thing} (v u : Value) (l m : List UInt8) (h : Sep w0 L w) (hv : Sl w v (bv l)) (hu : Sl w u (bv m)) (hl : l.length ≤ 1000000000) (hm : m.length ≤ 1000000000) :
    Calls Tryz.prog 12 #[v, u] w fun e w' => e = .returned (.bool (decide (l = m))) ∧ Sep w0 L w' :=
  (eqBytes_any v u l m w hv hu).mono fun e w' ⟨h1, h2⟩ => ⟨by rw [h1]; by_cases e : l = m <;> simp [e], h2 ▸ h⟩
set_option maxRecDepth 100000 in
set_option maxHeartbeats 8000000 in
theorem rsameimg_w {w : World} (ib ic jb jc : Int) (cv ev cu eu : Value) (l m : List UInt8) (xs ys : List (EnM × Value)) (hcv : Sl w cv (bv l)) (hcu : Sl w cu (bv m)) (hev : EnS w ev xs) (heu : EnS w eu ys)
    (hl : l.length ≤ 1000000000) (hm : m.length ≤ 1000000000) (hx : xs.length ≤ 1000000) (hy : ys.length ≤ 1000000) :
    Calls Tryz.prog 18 #[.agg (imgC ib cv ev ic), .agg (imgC jb cu eu jc)] w fun e w' => ∃ r, e = .returned (.bool (imgSame ib ic l jb jc m && r)) ∧ (r = true ↔ SameP xs ys) ∧ Sep w [] w' := by
  obtain ⟨ca, cc, rfl⟩ := bv_form hcv
  obtain ⟨da, dc, rfl⟩ := bv_form hcu
  obtain ⟨ea, ec, rfl⟩ := hev.len
  obtain ⟨fa, fc, rfl⟩ := heu.len
  have h1 := ((Sep.start w).alloc (.cells (imgC ib (.slice ca l.length cc) (.slice ea xs.length ec) ic) 32)).alloc (.cells (imgC jb (.slice da m.length dc) (.slice fa ys.length fc) jc) 32)
  rw [show (w.alloc (.cells (imgC ib (.slice ca l.length cc) (.slice ea xs.length ec) ic) 32)).heap.size = w.heap.size + 1 by simp] at h1
  have HE := Lib.hid (reqB_any (.slice ca l.length cc) (.slice da m.length dc) l m h1 (hcv.below h1.low) (hcu.below h1.low) hl hm)
  have HR := Lib.hid (fun (wx : World) (hb : Below w.heap.size w wx) => resamerow_w (w := wx) ea fa ec fc xs ys (hev.below hb) (heu.below hb) hx hy)
  obtain ⟨b1, hb1⟩ : ∃ q, q = w.heap.size := ⟨_, rfl⟩
  obtain ⟨b2, hb2⟩ : ∃ q, q = w.heap.size + 1 := ⟨_, rfl⟩
  obtain ⟨wa, hwa⟩ : ∃ q, q = (w.alloc (.cells (imgC ib (.slice ca l.length cc) (.slice ea xs.length ec) ic) 32)).alloc (.cells (imgC jb (.slice da m.length dc) (.slice fa ys.length fc) jc) 32) := ⟨_, rfl⟩
  rw [← hwa, ← hb2, ← hb1] at HE
  rw [← hwa, ← hb2, ← hb1] at h1
  unfold imgC at *
  obtain ⟨p0, p1, p2, p3⟩ := cells4i h1.sw2
  obtain ⟨q0, q1, q2, q3⟩ := cells4i h1
  have H1 := Lib.hid h1.drop.drop
  obtain ⟨R, hR⟩ := some_r (SameP xs ys)
  have HRR := Lib.hid hR
  generalize l.length = nl at *
  generalize m.length = nm at *
  generalize xs.length = nx at *
  generalize ys.length = ny at *
  clear h1 hcv hcu hev heu hl hm hx hy hR
  unfold imgSame
  by_cases hib : ib = jb
  · subst hib
    by_cases hic : ic = jc
    · subst hic
      go_enter Tryz.func18, Tryz.ntmps18
      (try dsimp only); repeat' (first | go_values | go_skip | go_guarded | go_step | go_upon | go_back)
      (try rw [← hwa])
      (try rw [← hb2, ← hb1])
      clear hwa hb1 hb2
      refine HE.out.mono ?_
      rintro r0 w1 ⟨rfl, h2⟩
      clear p0 p1 p2 p3 q0 q1 q2 q3 HE
      cases hlm : decide (l = m) with
      | true =>
        obtain ⟨p0, p1, p2, p3⟩ := cells4i h2.sw2
        obtain ⟨q0, q1, q2, q3⟩ := cells4i h2
        have HR2 := Lib.hid (HR.out w1 h2.low)
        have H2 := Lib.hid h2
        clear h2 HR
        (try dsimp only); repeat' (first | go_values | go_skip | go_guarded | go_step | go_upon | go_back)
        refine HR2.out.mono ?_
        rintro r1 w2 ⟨r, rfl, hr, h3⟩
        have H3 := Lib.hid (And.intro hr (H2.out.below h3.low).drop.drop)
        clear HR2 h3 hr
        (try dsimp only); repeat' (first | go_values | go_skip | go_guarded | go_step | go_upon | go_back)
        go_ret
        exact ⟨r, by show Ending.returned (Value.bool r) = _; simp [hlm], H3.out.1, H3.out.2⟩
      | false =>
        have H2 := Lib.hid h2.drop.drop
        clear h2
        (try dsimp only); repeat' (first | go_values | go_skip | go_guarded | go_step | go_upon | go_back)
        go_ret
        exact ⟨R, by show Ending.returned (Value.bool false) = _; simp [hlm], HRR.out, H2.out⟩
    · have d1 : (ic == jc) = false := beq_eq_false_iff_ne.2 hic
      have d2 : decide (ic = jc) = false := decide_eq_false hic
      rw [d2]
      go_enter Tryz.func18, Tryz.ntmps18
      (try dsimp only); repeat' (first | go_values | go_skip | go_guarded | go_step | go_upon | go_back)
      (try rw [← hwa])
      go_ret
      exact ⟨R, by show Ending.returned (Value.bool false) = _; simp, HRR.out, H1.out⟩
  · have d1 : (ib == jb) = false := beq_eq_false_iff_ne.2 hib
    have d2 : decide (ib = jb) = false := decide_eq_false hib
    rw [d2]
    go_enter Tryz.func18, Tryz.ntmps18
    (try dsimp only); repeat' (first | go_values | go_skip | go_guarded | go_step | go_upon | go_back)
    (try rw [← hwa])
    go_ret
    exact ⟨R, by show Ending.returned (Value.bool false) = _; simp, HRR.out, H1.out⟩
end Go.Proofs.YtafkbodmiblbnaaGreatDoor
