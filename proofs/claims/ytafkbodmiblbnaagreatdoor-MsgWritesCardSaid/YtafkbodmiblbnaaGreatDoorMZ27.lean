/- Stage 5: works. -/
import Derived.Test.YtafkbodmiblbnaaGreatDoorMMb2
import Derived.Test.YtafkbodmiblbnaaGreatDoorMZ25
import Derived.Test.YtafkbodmiblbnaaGreatDoorMZ04
import Derived.Test.YtafkbodmiblbnaaGreatDoorMZ24
import Derived.Test.YtafkbodmiblbnaaGreatDoorMZ06
import Derived.Test.YtafkbodmiblbnaaGreatDoorMZ09
namespace Go.Proofs.YtafkbodmiblbnaaGreatDoor
open Go Go.RowKit
set_option linter.unusedVariables false
set_option linter.unusedSimpArgs false
theorem bldB6 (w : World) (c0 c1 c2 c3 c4 c5 : Int) : (Instr.buildSlice 29 6 #[(0, .int .u8 c0), (1, .int .u8 c1), (2, .int .u8 c2), (3, .int .u8 c3), (4, .int .u8 c4), (5, .int .u8 c5)]).run Tryz.prog w = .ok (.slice (some ⟨w.heap.size, 0, none⟩) 6 6) (w.alloc (.cells #[.int .u8 c0, .int .u8 c1, .int .u8 c2, .int .u8 c3, .int .u8 c4, .int .u8 c5] 5)) := by
  simp [go_sem]
theorem wpList_bldB6 {w : World} {ops : Array Oper} {rest : List Oper} {o : Oper} {a : Act} {Q : Exit → Act → World → Prop} (hw : Region.wanted o (yielded ops a.tmps) = true) (x0 x1 x2 x3 x4 x5 : Operand) (ho : o.op = .buildSlice 29 6 #[(0, x0), (1, x1), (2, x2), (3, x3), (4, x4), (5, x5)]) {c0 c1 c2 c3 c4 c5 : Int} (h0 : a.eval x0 = .int .u8 c0) (h1 : a.eval x1 = .int .u8 c1) (h2 : a.eval x2 = .int .u8 c2) (h3 : a.eval x3 = .int .u8 c3) (h4 : a.eval x4 = .int .u8 c4) (h5 : a.eval x5 = .int .u8 c5)
    (h : wpList Tryz.prog ops Q rest (a.put o.dst (.slice (some ⟨w.heap.size, 0, none⟩) 6 6)) (w.alloc (.cells #[.int .u8 c0, .int .u8 c1, .int .u8 c2, .int .u8 c3, .int .u8 c4, .int .u8 c5] 5))) : wpList Tryz.prog ops Q (o :: rest) a w := by
  refine BigFrame.wpList_want hw fun K hK => ?_
  unfold Oper.wp
  simp [execOp, ho, h0, h1, h2, h3, h4, h5, bldB6, Result.andThen]
  exact hK _ _ h
theorem bldB12 (w : World) (c0 c1 c2 c3 c4 c5 c6 c7 c8 c9 c10 c11 : Int) : (Instr.buildSlice 29 12 #[(0, .int .u8 c0), (1, .int .u8 c1), (2, .int .u8 c2), (3, .int .u8 c3), (4, .int .u8 c4), (5, .int .u8 c5), (6, .int .u8 c6), (7, .int .u8 c7), (8, .int .u8 c8), (9, .int .u8 c9), (10, .int .u8 c10), (11, .int .u8 c11)]).run Tryz.prog w = .ok (.slice (some ⟨w.heap.size, 0, none⟩) 12 12) (w.alloc (.cells #[.int .u8 c0, .int .u8 c1, .int .u8 c2, .int .u8 c3, .int .u8 c4, .int .u8 c5, .int .u8 c6, .int .u8 c7, .int .u8 c8, .int .u8 c9, .int .u8 c10, .int .u8 c11] 5)) := by
  simp [go_sem]
theorem wpList_bldB12 {w : World} {ops : Array Oper} {rest : List Oper} {o : Oper} {a : Act} {Q : Exit → Act → World → Prop} (hw : Region.wanted o (yielded ops a.tmps) = true) (x0 x1 x2 x3 x4 x5 x6 x7 x8 x9 x10 x11 : Operand) (ho : o.op = .buildSlice 29 12 #[(0, x0), (1, x1), (2, x2), (3, x3), (4, x4), (5, x5), (6, x6), (7, x7), (8, x8), (9, x9), (10, x10), (11, x11)]) {c0 c1 c2 c3 c4 c5 c6 c7 c8 c9 c10 c11 : Int} (h0 : a.eval x0 = .int .u8 c0) (h1 : a.eval x1 = .int .u8 c1) (h2 : a.eval x2 = .int .u8 c2) (h3 : a.eval x3 = .int .u8 c3) (h4 : a.eval x4 = .int .u8 c4) (h5 : a.eval x5 = .int .u8 c5) (h6 : a.eval x6 = .int .u8 c6) (h7 : a.eval x7 = .int .u8 c7) (h8 : a.eval x8 = .int .u8 c8) (h9 : a.eval x9 = .int .u8 c9) (h10 : a.eval x10 = .int .u8 c10) (h11 : a.eval x11 = .int .u8 c11)
    (h : wpList Tryz.prog ops Q rest (a.put o.dst (.slice (some ⟨w.heap.size, 0, none⟩) 12 12)) (w.alloc (.cells #[.int .u8 c0, .int .u8 c1, .int .u8 c2, .int .u8 c3, .int .u8 c4, .int .u8 c5, .int .u8 c6, .int .u8 c7, .int .u8 c8, .int .u8 c9, .int .u8 c10, .int .u8 c11] 5))) : wpList Tryz.prog ops Q (o :: rest) a w := by
  refine BigFrame.wpList_want hw fun K hK => ?_
  unfold Oper.wp
  simp [execOp, ho, h0, h1, h2, h3, h4, h5, h6, h7, h8, h9, h10, h11, bldB12, Result.andThen]
  exact hK _ _ h

def gA : MgM := ⟨4, 1, 0, 2, 300, 0, 0, ⟨0, 0, OpM.zero⟩, .slice none 0 0, 0, 0, 0, false, 0, [], .slice none 0 0, [], .slice none 0 0, 0⟩
def gB : MgM := ⟨2, 0, 17, 1, 5, 0, 0, ⟨2, 9, OpM.zero⟩, .slice none 0 0, 0, 5, 0, true, 0, [], .slice none 0 0, [], .slice none 0 0, 0⟩
def gC : MgM := ⟨4, 0, 0, 0, 0, 1, 0, ⟨0, 0, OpM.zero⟩, .slice none 0 0, 0, 0, 0, false, 0, [], .slice none 0 0, [], .slice none 0 0, 0⟩
theorem gA_c : mgC gA = #[.int .i64 4, .int .i64 1, .int .i64 0, .int .i64 2, .int .i64 300, .int .i64 0, .int .i64 0, .int .i64 0, .int .i64 0, .int .i64 0, .string ⟨#[]⟩, .int .i64 0, .int .i64 0, .slice none 0 0, .int .i64 0, .int .i64 0, .int .i64 0, .bool false, .int .i64 0, .slice none 0 0, .slice none 0 0, .int .i64 0] := rfl
theorem gB_c : mgC gB = #[.int .i64 2, .int .i64 0, .int .i64 17, .int .i64 1, .int .i64 5, .int .i64 0, .int .i64 0, .int .i64 2, .int .i64 9, .int .i64 0, .string ⟨#[]⟩, .int .i64 0, .int .i64 0, .slice none 0 0, .int .i64 0, .int .i64 5, .int .i64 0, .bool true, .int .i64 0, .slice none 0 0, .slice none 0 0, .int .i64 0] := rfl
theorem gC_c : mgC gC = #[.int .i64 4, .int .i64 0, .int .i64 0, .int .i64 0, .int .i64 0, .int .i64 1, .int .i64 0, .int .i64 0, .int .i64 0, .int .i64 0, .string ⟨#[]⟩, .int .i64 0, .int .i64 0, .slice none 0 0, .int .i64 0, .int .i64 0, .int .i64 0, .bool false, .int .i64 0, .slice none 0 0, .slice none 0 0, .int .i64 0] := rfl
theorem gA_k : chkB gA = true := by decide
theorem gB_k : chkB gB = true := by decide
theorem gC_k : chkB gC = false := by decide
theorem gA_b : bodyB gA.x = ([4, 1, 0, 2, 172, 2] : List UInt8) := by decide
theorem gB_b : bodyB gB.x = ([2, 0, 17, 1, 5, 2, 9, 3, 0, 5, 0, 1] : List UInt8) := by decide
theorem gm_nil (w : World) (g : MgM) (h : g.lv = .slice none 0 0 ∧ g.en.p.ls = [] ∧ g.cv = .slice none 0 0 ∧ g.ck = [] ∧ g.ev = .slice none 0 0 ∧ g.ps = []) : GmS w g := by
  obtain ⟨h1, h2, h3, h4, h5, h6⟩ := h
  unfold GmS
  rw [h1, h2, h3, h4, h5, h6]
  exact ⟨lnNilM w, .inl (.inl ⟨rfl, rfl⟩), .inl ⟨none, 0, rfl, rfl⟩⟩
theorem litB6 : (#[.int .u8 4, .int .u8 1, .int .u8 0, .int .u8 2, .int .u8 172, .int .u8 2] : Array Value).toList = bv ([4, 1, 0, 2, 172, 2] : List UInt8) := rfl
theorem litB12 : (#[.int .u8 2, .int .u8 0, .int .u8 17, .int .u8 1, .int .u8 5, .int .u8 2, .int .u8 9, .int .u8 3, .int .u8 0, .int .u8 5, .int .u8 0, .int .u8 1] : Array Value).toList = bv ([2, 0, 17, 1, 5, 2, 9, 3, 0, 5, 0, 1] : List UInt8) := rfl
set_option maxRecDepth 100000 in
set_option maxHeartbeats 16000000 in
theorem works05_any {w0 w : World} {L : List Thing} (h : Sep w0 L w) (hk : ∀ wx, Sep w0 L wx → KindsAt wx ∧ MKindsAt wx) : Calls Tryz.prog 23 #[] w fun e w' => e = .returned (.bool true) ∧ Sep w0 L w' := by
  have hA := mbytes_ok gA h (fun wx _ => gm_nil wx gA ⟨rfl, rfl, rfl, rfl, rfl, rfl⟩) hk (by show (0 : Nat) ≤ _; omega) (by show (0 : Nat) ≤ _; omega) gA_k
  rw [gA_c, gA_b] at hA
  have HA := Lib.hid hA
  have HK := Lib.hid hk
  clear h hk hA
  go_enter Tryz.func23, Tryz.ntmps23
  (try dsimp only); repeat' (first | go_values | go_skip | go_guarded | go_step | go_upon | go_back)
  refine HA.out.mono ?_
  rintro r0 w1 ⟨u1, rfl, h1⟩
  have hB := mbytes_ok gB h1 (fun wx _ => gm_nil wx gB ⟨rfl, rfl, rfl, rfl, rfl, rfl⟩) (fun wx hx => HK.out wx hx.drop) (by show (0 : Nat) ≤ _; omega) (by show (0 : Nat) ≤ _; omega) gB_k
  rw [gB_c, gB_b] at hB
  have HB := Lib.hid hB
  obtain ⟨a1, c1, rfl⟩ := h1.sl.len
  clear h1 hB HA
  (try dsimp only); repeat' (first | go_values | go_skip | go_guarded | go_step | go_upon | go_back)
  refine HB.out.mono ?_
  rintro r0 w2 ⟨u2, rfl, h2⟩
  obtain ⟨a2, c2, rfl⟩ := h2.sl.len
  have HO := Lib.hid (open_seal ([4, 1, 0, 2, 172, 2] : List UInt8) h2 h2.sw2.sl (by decide))
  clear HB h2
  (try dsimp only); repeat' (first | go_values | go_skip | go_guarded | go_step | go_upon | go_back)
  refine HO.out.mono ?_
  rintro r0 w3 ⟨u3, rfl, h3⟩
  obtain ⟨a3, c3, rfl⟩ := h3.sl.len
  have HO2 := Lib.hid (open_seal ([2, 0, 17, 1, 5, 2, 9, 3, 0, 5, 0, 1] : List UInt8) h3 h3.sw2.sl (by decide))
  clear HO h3
  (try dsimp only); repeat' (first | go_values | go_skip | go_guarded | go_step | go_upon | go_back)
  refine HO2.out.mono ?_
  rintro r0 w4 ⟨u4, rfl, h4⟩
  obtain ⟨a4, c4, rfl⟩ := h4.sl.len
  have h5 := (h4.alloc (.cells #[.int .u8 4, .int .u8 1, .int .u8 0, .int .u8 2, .int .u8 172, .int .u8 2] 5)).asRow 6 rfl (by unfold maxLen; omega)
  rw [litB6] at h5
  have HE1 := Lib.hid (eqBytes_any _ _ ([4, 1, 0, 2, 172, 2] : List UInt8) ([4, 1, 0, 2, 172, 2] : List UInt8) _ h5.sw3.sl h5.sl)
  obtain ⟨w5, hw5⟩ : ∃ z, z = w4.alloc (.cells #[.int .u8 4, .int .u8 1, .int .u8 0, .int .u8 2, .int .u8 172, .int .u8 2] 5) := ⟨_, rfl⟩
  obtain ⟨b5, hb5⟩ : ∃ z, z = w4.heap.size := ⟨_, rfl⟩
  rw [← hw5, ← hb5] at h5
  rw [← hw5, ← hb5] at HE1
  have H5 := Lib.hid h5
  clear HO2 h4 h5
  (try dsimp only); repeat' (first | (with_reducible show wpList _ _ _ (Oper.mk _ (Op.buildSlice _ 6 _) _ _ _ _ :: _) _ _; refine stopP ?_) | go_values | go_skip | go_guarded | go_step | go_upon | go_back)
  unfold StopP
  refine wpList_bldB6 (by rfl) _ _ _ _ _ _ rfl rfl rfl rfl rfl rfl rfl ?_
  rw [← hw5, ← hb5]
  clear hw5 hb5
  (try dsimp only); repeat' (first | go_values | go_skip | go_guarded | go_step | go_upon | go_back)
  refine HE1.out.mono ?_
  rintro r0 w6 ⟨rfl, rfl⟩
  rw [show (([4, 1, 0, 2, 172, 2] : List UInt8) == ([4, 1, 0, 2, 172, 2] : List UInt8)) = true by decide]
  have h7 := (H5.out.alloc (.cells #[.int .u8 2, .int .u8 0, .int .u8 17, .int .u8 1, .int .u8 5, .int .u8 2, .int .u8 9, .int .u8 3, .int .u8 0, .int .u8 5, .int .u8 0, .int .u8 1] 5)).asRow 12 rfl (by unfold maxLen; omega)
  rw [litB12] at h7
  have HE2 := Lib.hid (eqBytes_any _ _ ([2, 0, 17, 1, 5, 2, 9, 3, 0, 5, 0, 1] : List UInt8) ([2, 0, 17, 1, 5, 2, 9, 3, 0, 5, 0, 1] : List UInt8) _ h7.sw3.sl h7.sl)
  obtain ⟨w7, hw7⟩ : ∃ z, z = w5.alloc (.cells #[.int .u8 2, .int .u8 0, .int .u8 17, .int .u8 1, .int .u8 5, .int .u8 2, .int .u8 9, .int .u8 3, .int .u8 0, .int .u8 5, .int .u8 0, .int .u8 1] 5) := ⟨_, rfl⟩
  obtain ⟨b7, hb7⟩ : ∃ z, z = w5.heap.size := ⟨_, rfl⟩
  rw [← hw7, ← hb7] at h7
  rw [← hw7, ← hb7] at HE2
  have H7 : Hid (Sep w0 L w7) := Lib.hid h7.drop.drop.drop.drop.drop.drop
  clear HE1 H5 h7
  (try dsimp only); repeat' (first | (with_reducible show wpList _ _ _ (Oper.mk _ (Op.buildSlice _ 12 _) _ _ _ _ :: _) _ _; refine stopP ?_) | go_values | go_skip | go_guarded | go_step | go_upon | go_back)
  unfold StopP
  refine wpList_bldB12 (by rfl) _ _ _ _ _ _ _ _ _ _ _ _ rfl rfl rfl rfl rfl rfl rfl rfl rfl rfl rfl rfl rfl ?_
  rw [← hw7, ← hb7]
  clear hw7 hb7
  (try dsimp only); repeat' (first | go_values | go_skip | go_guarded | go_step | go_upon | go_back)
  refine HE2.out.mono ?_
  rintro r0 w8 ⟨rfl, rfl⟩
  rw [show (([2, 0, 17, 1, 5, 2, 9, 3, 0, 5, 0, 1] : List UInt8) == ([2, 0, 17, 1, 5, 2, 9, 3, 0, 5, 0, 1] : List UInt8)) = true by decide]
  have hC := gcheck_w (w := w7) gC (gm_nil w7 gC ⟨rfl, rfl, rfl, rfl, rfl, rfl⟩) (HK.out w7 H7.out).1 (HK.out w7 H7.out).2 (by show (0 : Nat) ≤ _; omega) (by show (0 : Nat) ≤ _; omega)
  rw [gC_c, gC_k, if_neg (by simp)] at hC
  have HC := Lib.hid hC
  clear hC HE2
  (try dsimp only); repeat' (first | go_values | go_skip | go_guarded | go_step | go_upon | go_back)
  refine HC.out.mono ?_
  rintro r0 w9 ⟨rfl, h9⟩
  have H9 := Lib.hid (H7.out.below h9.low)
  have hI := mckimg_w (w := w9) 1 0 (.slice none 0 0) (.slice none 0 0) [] [] (.inl (.inl ⟨rfl, rfl⟩)) (.inl ⟨none, 0, rfl, rfl⟩) (HK.out w9 H9.out).1 (by show (0 : Nat) ≤ _; omega) (by show (0 : Nat) ≤ _; omega)
  rw [show ckI 1 [] [] 0 = false by decide, if_neg (by simp)] at hI
  unfold imgC at hI
  have HI := Lib.hid hI
  clear hI HC h9 H7
  (try dsimp only); repeat' (first | go_values | go_skip | go_guarded | go_step | go_upon | go_back)
  refine HI.out.mono ?_
  rintro r0 w10 ⟨rfl, h10⟩
  have H10 := Lib.hid (H9.out.below h10.low)
  clear HI h10 H9
  (try dsimp only); repeat' (first | go_values | go_skip | go_guarded | go_step | go_upon | go_back)
  go_ret
  exact ⟨rfl, H10.out⟩
end Go.Proofs.YtafkbodmiblbnaaGreatDoor
/- Package msg, of all messages: Same. -/
namespace Go.Proofs.YtafkbodmiblbnaaGreatDoor
open Go Go.RowKit
set_option linter.unusedVariables false
set_option linter.unusedSimpArgs false
/-- Whether two messages are the same, but for their entries. -/
def gSame (g h : MgM) : Bool := decide (g.k = h.k) && (decide (g.f = h.f) && (decide (g.t = h.t) && (decide (g.v = h.v) && (decide (g.o = h.o) && (decide (g.cm = h.cm) && (decide (g.la = h.la) && (enSame g.en h.en && (decide (g.rc = h.rc) && (decide (g.ra = h.ra) && (decide (g.rb = h.rb) && (decide (g.s = h.s) && imgSame g.ib g.ic g.ck h.ib h.ic h.ck)))))))))))
theorem gSame_refl (g h : MgM) (h1 : h.k = g.k ∧ h.f = g.f ∧ h.t = g.t ∧ h.v = g.v ∧ h.o = g.o ∧ h.cm = g.cm ∧ h.la = g.la ∧ h.en = g.en ∧ h.rc = g.rc ∧ h.ra = g.ra ∧ h.rb = g.rb ∧ h.s = g.s ∧ h.ib = g.ib ∧ h.ic = g.ic ∧ h.ck = g.ck) : gSame h g = true := by
  obtain ⟨a1, a2, a3, a4, a5, a6, a7, a8, a9, a10, a11, a12, a13, a14, a15⟩ := h1
  unfold gSame imgSame
  rw [a1, a2, a3, a4, a5, a6, a7, a8, a9, a10, a11, a12, a13, a14, a15]
  simp [enSame, sameB]
set_option maxRecDepth 100000 in
set_option maxHeartbeats 16000000 in
theorem gsame_w {w : World} (g h : MgM) (hg : GmS w g) (hh : GmS w h) (hl : g.ck.length ≤ 1000000000) (hm : h.ck.length ≤ 1000000000) (hx : g.ps.length ≤ 1000000) (hy : h.ps.length ≤ 1000000) :
    Calls Tryz.prog 15 #[.agg (mgC g), .agg (mgC h)] w fun e w' => ∃ r, e = .returned (.bool (gSame g h && r)) ∧ (r = true ↔ SameP g.ps h.ps) ∧ Sep w [] w' := by
  obtain ⟨hg1, hg2, hg3⟩ := hg
  obtain ⟨hh1, hh2, hh3⟩ := hh
  have h1 := ((Sep.start w).alloc (.cells (mgC g) 34)).alloc (.cells (mgC h) 34)
  rw [show (w.alloc (.cells (mgC g) 34)).heap.size = w.heap.size + 1 by simp] at h1
  obtain ⟨wa, hwa⟩ : ∃ z, z = (w.alloc (.cells (mgC g) 34)).alloc (.cells (mgC h) 34) := ⟨_, rfl⟩
  obtain ⟨b1, hb1⟩ : ∃ z, z = w.heap.size := ⟨_, rfl⟩
  obtain ⟨b2, hb2⟩ : ∃ z, z = w.heap.size + 1 := ⟨_, rfl⟩
  rw [← hwa, ← hb2, ← hb1] at h1
  have HE := Lib.hid (esame_any g.en h.en g.lv h.lv h1 (hg1.below h1.low) (hh1.below h1.low) (lns_maxl hg1))
  have HI := Lib.hid (fun (wx : World) (hb : Below w.heap.size w wx) => msameimg_w (w := wx) g.ib g.ic h.ib h.ic g.cv g.ev h.cv h.ev g.ck h.ck g.ps h.ps (hg2.below hb) (hh2.below hb) (hg3.below hb) (hh3.below hb) hl hm hx hy)
  obtain ⟨R, hR⟩ := some_r (SameP g.ps h.ps)
  obtain ⟨xlva, xlvc, hlv⟩ := hg1.len
  obtain ⟨xca, xcc, hcv⟩ := bv_form hg2
  obtain ⟨xea, xec2, hev⟩ := hg3.len
  obtain ⟨ylva, ylvc, ilv⟩ := hh1.len
  obtain ⟨yca, ycc, icv⟩ := bv_form hh2
  obtain ⟨yea, yec2, iev⟩ := hh3.len
  unfold gSame
  obtain ⟨xk, xf, xt, xv, xo, xcm, xla, ⟨xec, xem, ⟨xpk, xpx, xpo, xpn, xpls⟩⟩, xlv, xrc, xra, xrb, xs, xib, xck, xcv, xps, xev, xic⟩ := g
  obtain ⟨yk, yf, yt, yv, yo, ycm, yla, ⟨yec, yem, ⟨ypk, ypx, ypo, ypn, ypls⟩⟩, ylv, yrc, yra, yrb, ys, yib, yck, ycv, yps, yev, yic⟩ := h
  dsimp only at *
  subst hlv hcv hev ilv icv iev
  unfold enV at HE
  unfold imgC at HI
  unfold mgC at *
  dsimp only at *
  have HRR := Lib.hid hR
  obtain ⟨eS, heS⟩ : ∃ q, q = enSame ⟨xec, xem, ⟨xpk, xpx, xpo, xpn, xpls⟩⟩ ⟨yec, yem, ⟨ypk, ypx, ypo, ypn, ypls⟩⟩ := ⟨_, rfl⟩
  rw [← heS] at HE ⊢
  obtain ⟨iS, hiS⟩ : ∃ q, q = imgSame xib xic xck yib yic yck := ⟨_, rfl⟩
  rw [← hiS] at HI ⊢
  generalize xck.length = xnck at *
  generalize yck.length = ynck at *
  generalize xpls.length = xnls at *
  generalize ypls.length = ynls at *
  generalize xps.length = xnps at *
  generalize yps.length = ynps at *
  have x0 := h1.sw2.cell (o := 0) rfl
  have y0 := h1.cell (o := 0) rfl
  have x1 := h1.sw2.cell (o := 1) rfl
  have y1 := h1.cell (o := 1) rfl
  have x2 := h1.sw2.cell (o := 2) rfl
  have y2 := h1.cell (o := 2) rfl
  have x3 := h1.sw2.cell (o := 3) rfl
  have y3 := h1.cell (o := 3) rfl
  have x4 := h1.sw2.cell (o := 4) rfl
  have y4 := h1.cell (o := 4) rfl
  have x5 := h1.sw2.cell (o := 5) rfl
  have y5 := h1.cell (o := 5) rfl
  have x6 := h1.sw2.cell (o := 6) rfl
  have y6 := h1.cell (o := 6) rfl
  have x7 := h1.sw2.cell (o := 7) rfl
  have y7 := h1.cell (o := 7) rfl
  have x8 := h1.sw2.cell (o := 8) rfl
  have y8 := h1.cell (o := 8) rfl
  have x9 := h1.sw2.cell (o := 9) rfl
  have y9 := h1.cell (o := 9) rfl
  have x10 := h1.sw2.cell (o := 10) rfl
  have y10 := h1.cell (o := 10) rfl
  have x11 := h1.sw2.cell (o := 11) rfl
  have y11 := h1.cell (o := 11) rfl
  have x12 := h1.sw2.cell (o := 12) rfl
  have y12 := h1.cell (o := 12) rfl
  have x13 := h1.sw2.cell (o := 13) rfl
  have y13 := h1.cell (o := 13) rfl
  have H1 := Lib.hid h1
  clear h1 hg1 hg2 hg3 hh1 hh2 hh3 hl hm hx hy hR heS hiS
  by_cases zk : xk = yk
  · subst zk
    by_cases zf : xf = yf
    · subst zf
      by_cases zt : xt = yt
      · subst zt
        by_cases zv : xv = yv
        · subst zv
          by_cases zo : xo = yo
          · subst zo
            by_cases zcm : xcm = ycm
            · subst zcm
              by_cases zla : xla = yla
              · subst zla
                go_enter Tryz.func15, Tryz.ntmps15
                (try dsimp only); repeat' (first | go_values | go_skip | go_guarded | go_step | go_upon | go_back)
                (try rw [← hwa])
                (try rw [← hb2])
                (try rw [← hb1])
                clear hwa hb1 hb2
                refine HE.out.mono ?_
                rintro rE wE ⟨rfl, hE⟩
                have HsE := Lib.hid hE
                clear hE HE H1 x0 y0 x1 y1 x2 y2 x3 y3 x4 y4 x5 y5 x6 y6 x7 y7 x8 y8 x9 y9 x10 y10 x11 y11 x12 y12 x13 y13
                cases eS with
                | false =>
                  as_aux_lemma =>
                    (try dsimp only); repeat' (first | go_values | go_skip | go_guarded | go_step | go_upon | go_back)
                    go_ret
                    exact ⟨R, by show Ending.returned (Value.bool false) = _; simp, HRR.out, HsE.out.drop.drop⟩
                | true =>
                  have x14 := HsE.out.sw2.cell (o := 14) rfl
                  have y14 := HsE.out.cell (o := 14) rfl
                  have x15 := HsE.out.sw2.cell (o := 15) rfl
                  have y15 := HsE.out.cell (o := 15) rfl
                  have x16 := HsE.out.sw2.cell (o := 16) rfl
                  have y16 := HsE.out.cell (o := 16) rfl
                  have x17 := HsE.out.sw2.cell (o := 17) rfl
                  have y17 := HsE.out.cell (o := 17) rfl
                  have x18 := HsE.out.sw2.cell (o := 18) rfl
                  have y18 := HsE.out.cell (o := 18) rfl
                  have x19 := HsE.out.sw2.cell (o := 19) rfl
                  have y19 := HsE.out.cell (o := 19) rfl
                  have x20 := HsE.out.sw2.cell (o := 20) rfl
                  have y20 := HsE.out.cell (o := 20) rfl
                  have x21 := HsE.out.sw2.cell (o := 21) rfl
                  have y21 := HsE.out.cell (o := 21) rfl
                  by_cases zrc : xrc = yrc
                  · subst zrc
                    by_cases zra : xra = yra
                    · subst zra
                      by_cases zrb : xrb = yrb
                      · subst zrb
                        by_cases zs : xs = ys
                        · subst zs
                          have zss : (xs == xs) = true := by simp
                          (try dsimp only); repeat' (first | go_values | go_skip | go_guarded | go_step | go_upon | go_back)
                          refine (HI.out _ HsE.out.low).mono ?_
                          rintro rI wI ⟨r, rfl, hr, hI⟩
                          have HsI := Lib.hid (And.intro hr (HsE.out.below hI.low))
                          clear hI hr HI HsE x14 y14 x15 y15 x16 y16 x17 y17 x18 y18 x19 y19 x20 y20 x21 y21
                          (try dsimp only); repeat' (first | go_values | go_skip | go_guarded | go_step | go_upon | go_back)
                          go_ret
                          exact ⟨r, by show Ending.returned (Value.bool (iS && r)) = _; simp, HsI.out.1, HsI.out.2.drop.drop⟩
                        · as_aux_lemma =>
                            have d1 : (xs == ys) = false := beq_eq_false_iff_ne.2 zs
                            (try dsimp only); repeat' (first | go_values | go_skip | go_guarded | go_step | go_upon | go_back)
                            go_ret
                            exact ⟨R, by show Ending.returned (Value.bool false) = _; simp [zs], HRR.out, HsE.out.drop.drop⟩
                      · as_aux_lemma =>
                          have d1 : (xrb == yrb) = false := beq_eq_false_iff_ne.2 zrb
                          (try dsimp only); repeat' (first | go_values | go_skip | go_guarded | go_step | go_upon | go_back)
                          go_ret
                          exact ⟨R, by show Ending.returned (Value.bool false) = _; simp [zrb], HRR.out, HsE.out.drop.drop⟩
                    · as_aux_lemma =>
                        have d1 : (xra == yra) = false := beq_eq_false_iff_ne.2 zra
                        (try dsimp only); repeat' (first | go_values | go_skip | go_guarded | go_step | go_upon | go_back)
                        go_ret
                        exact ⟨R, by show Ending.returned (Value.bool false) = _; simp [zra], HRR.out, HsE.out.drop.drop⟩
                  · as_aux_lemma =>
                      have d1 : (xrc == yrc) = false := beq_eq_false_iff_ne.2 zrc
                      (try dsimp only); repeat' (first | go_values | go_skip | go_guarded | go_step | go_upon | go_back)
                      go_ret
                      exact ⟨R, by show Ending.returned (Value.bool false) = _; simp [zrc], HRR.out, HsE.out.drop.drop⟩
              · skip
                · have d1 : (xla == yla) = false := beq_eq_false_iff_ne.2 zla
                  clear HE HI
                  go_enter Tryz.func15, Tryz.ntmps15
                  (try dsimp only); repeat' (first | go_values | go_skip | go_guarded | go_step | go_upon | go_back)
                  (try rw [← hwa])
                  go_ret
                  exact ⟨R, by show Ending.returned (Value.bool false) = _; simp [zla], HRR.out, H1.out.drop.drop⟩
            · skip
              · have d1 : (xcm == ycm) = false := beq_eq_false_iff_ne.2 zcm
                clear HE HI
                go_enter Tryz.func15, Tryz.ntmps15
                (try dsimp only); repeat' (first | go_values | go_skip | go_guarded | go_step | go_upon | go_back)
                (try rw [← hwa])
                go_ret
                exact ⟨R, by show Ending.returned (Value.bool false) = _; simp [zcm], HRR.out, H1.out.drop.drop⟩
          · skip
            · have d1 : (xo == yo) = false := beq_eq_false_iff_ne.2 zo
              clear HE HI
              go_enter Tryz.func15, Tryz.ntmps15
              (try dsimp only); repeat' (first | go_values | go_skip | go_guarded | go_step | go_upon | go_back)
              (try rw [← hwa])
              go_ret
              exact ⟨R, by show Ending.returned (Value.bool false) = _; simp [zo], HRR.out, H1.out.drop.drop⟩
        · skip
          · have d1 : (xv == yv) = false := beq_eq_false_iff_ne.2 zv
            clear HE HI
            go_enter Tryz.func15, Tryz.ntmps15
            (try dsimp only); repeat' (first | go_values | go_skip | go_guarded | go_step | go_upon | go_back)
            (try rw [← hwa])
            go_ret
            exact ⟨R, by show Ending.returned (Value.bool false) = _; simp [zv], HRR.out, H1.out.drop.drop⟩
      · skip
        · have d1 : (xt == yt) = false := beq_eq_false_iff_ne.2 zt
          clear HE HI
          go_enter Tryz.func15, Tryz.ntmps15
          (try dsimp only); repeat' (first | go_values | go_skip | go_guarded | go_step | go_upon | go_back)
          (try rw [← hwa])
          go_ret
          exact ⟨R, by show Ending.returned (Value.bool false) = _; simp [zt], HRR.out, H1.out.drop.drop⟩
    · skip
      · have d1 : (xf == yf) = false := beq_eq_false_iff_ne.2 zf
        clear HE HI
        go_enter Tryz.func15, Tryz.ntmps15
        (try dsimp only); repeat' (first | go_values | go_skip | go_guarded | go_step | go_upon | go_back)
        (try rw [← hwa])
        go_ret
        exact ⟨R, by show Ending.returned (Value.bool false) = _; simp [zf], HRR.out, H1.out.drop.drop⟩
  · skip
    · have d1 : (xk == yk) = false := beq_eq_false_iff_ne.2 zk
      clear HE HI
      go_enter Tryz.func15, Tryz.ntmps15
      (try dsimp only); repeat' (first | go_values | go_skip | go_guarded | go_step | go_upon | go_back)
      (try rw [← hwa])
      go_ret
      exact ⟨R, by show Ending.returned (Value.bool false) = _; simp [zk], HRR.out, H1.out.drop.drop⟩
end Go.Proofs.YtafkbodmiblbnaaGreatDoor
/- Lemmas for MsgWrites. -/
namespace Go.Proofs.YtafkbodmiblbnaaGreatDoor
open Go Go.RowKit
set_option linter.unusedVariables false
set_option linter.unusedSimpArgs false
theorem sl_capw {w : World} {a : Option Addr} {n c : Nat} {l : List UInt8} (h : Sl w (.slice a n c) (bv l)) (hl : l.length = n) : n ≤ c := by
  subst hl
  rcases h with (⟨hv, hx⟩ | ⟨b, off, cap, hv, h1, h2, h3, hc⟩) | ⟨x, c', hv, hx⟩
  · simp only [Value.slice.injEq] at hv; omega
  · simp only [Value.slice.injEq] at hv; obtain ⟨rfl, h5, rfl⟩ := hv; rw [bv_length] at h1; exact h1
  · simp only [Value.slice.injEq] at hv; obtain ⟨rfl, h5, rfl⟩ := hv; omega
theorem xor_u8w (a b : Nat) (ha : a < 256) (hb : b < 256) : bits .xor .u8 (a : Int) (b : Int) = ((a ^^^ b : Nat) : Int) := by
  have hx : a ^^^ b < 2 ^ 8 := Nat.xor_lt_two_pow (by omega) (by omega)
  have h1 : (BitVec.ofInt 8 (a : Int)).toNat = a := by
    rw [BitVec.ofInt_natCast, BitVec.toNat_ofNat]; exact Nat.mod_eq_of_lt (by omega)
  have h2 : (BitVec.ofInt 8 (b : Int)).toNat = b := by
    rw [BitVec.ofInt_natCast, BitVec.toNat_ofNat]; exact Nat.mod_eq_of_lt (by omega)
  show IntKind.u8.wrap ((BitVec.ofInt 8 (a : Int) ^^^ BitVec.ofInt 8 (b : Int)).toNat : Int) = _
  rw [BitVec.toNat_xor, h1, h2]
  simp [IntKind.wrap, IntKind.bits, IntKind.signed]
  omega
theorem yld_loadw {P : Program} {o : Oper} {e : Operand → Value} {t : TypeId} {x : Operand} {p v : Value} {w : World} (hop : o.op = .load t x) (hx : e x = p) (hr : (Instr.loadAt t p).run P w = .ok v w) : (execOp e o).run P w = .ok (.value v) w := by
  simp [execOp, hop, hx, hr]
theorem Sep.loadImgw {w0 w : World} {b : Nat} {g : MgM} {L : List Thing} (h : Sep w0 (Cl b (mgC g) 34 :: L) w) : (Instr.loadAt 32 (.pointer (some ⟨b, 18, none⟩))).run Tryz.prog w = .ok (.agg (imgC g.ib g.cv g.ev g.ic)) w := by
  have h1 := run_loadAt_mid (P := Tryz.prog) w b 18 32 [.int .i64 g.ib, g.cv, g.ev, .int .i64 g.ic] _ (fun j v hj => by
    have hj4 : j < 4 := by
      rcases Nat.lt_or_ge j 4 with h4 | h4
      · exact h4
      · rw [List.getElem?_eq_none (by simpa using h4)] at hj; cases hj
    match j, hj4 with
    | 0, _ => cases hj; exact h.cell rfl
    | 1, _ => cases hj; exact h.cell rfl
    | 2, _ => cases hj; exact h.cell rfl
    | 3, _ => cases hj; exact h.cell rfl) Tryz.underlying32 rfl (by kernel_rfl)
  exact h1
theorem gm_things5w {w0 : World} {g : MgM} {lu cu eu : Value} {qs : List (EnM × Value)} {L : List Thing} {wx : World} (h : Sep w0 (LnR lu g.en.p.ls :: By cu g.ck :: EnT eu qs :: L) wx) : GmS wx { g with lv := lu, cv := cu, ev := eu, ps := qs } := ⟨Sep.lnS h, h.sw2.sl, h.sw3.enS⟩
theorem sameP_of5w {xs ys : List (EnM × Value)} (h : ys.map (·.1) = xs.map (·.1)) : SameP xs ys := by
  have hl : ys.length = xs.length := by have := congrArg List.length h; simpa using this
  refine ⟨hl.symm, fun j h1 h2 => ?_⟩
  have h3 : (ys.map (·.1))[j]? = (xs.map (·.1))[j]? := by rw [h]
  rw [List.getElem?_map, List.getElem?_map, List.getElem?_eq_getElem h1, List.getElem?_eq_getElem h2] at h3
  simp only [Option.map_some, Option.some.injEq] at h3
  rw [h3]
  exact enSame_self _
theorem x_eqw {g h : MgM} (e : g.x = h.x) : (g.k = h.k ∧ g.f = h.f ∧ g.t = h.t ∧ g.v = h.v ∧ g.o = h.o ∧ g.cm = h.cm ∧ g.la = h.la ∧ g.en = h.en ∧ g.rc = h.rc ∧ g.ra = h.ra ∧ g.rb = h.rb ∧ g.s = h.s ∧ g.ib = h.ib ∧ g.ic = h.ic ∧ g.ck = h.ck) ∧ g.ps.map (·.1) = h.ps.map (·.1) :=
  ⟨⟨congrArg MgX.k e, congrArg MgX.f e, congrArg MgX.t e, congrArg MgX.v e, congrArg MgX.o e, congrArg MgX.cm e, congrArg MgX.la e, congrArg MgX.en e, congrArg MgX.rc e, congrArg MgX.ra e, congrArg MgX.rb e, congrArg MgX.s e, congrArg MgX.ib e, congrArg MgX.ic e, congrArg MgX.ck e⟩, congrArg MgX.es e⟩
end Go.Proofs.YtafkbodmiblbnaaGreatDoor
/- A cell of a row of structs of one's own is stored to. -/
namespace Go.Proofs.YtafkbodmiblbnaaGreatDoor
open Go.RowKit
set_option linter.unusedVariables false
theorem Sep.rnSet {w0 w : World} {sz n : Nat} {e : TypeId} {v : Value} {xs : List Value} {L : List Thing} (h : Sep w0 (Rn sz e v n xs :: L) w) (hp : 0 < n) :
    ∃ b c, v = .slice (some ⟨b, 0, none⟩) n c ∧ n ≤ c ∧ c ≤ maxLen ∧ b < w.heap.size ∧ xs.length = n * sz ∧ (∀ k (hk : k < xs.length), w.cell? ⟨b, k, none⟩ = some xs[k]) ∧ (∀ k, w.frozen? ⟨b, k, none⟩ = false) ∧
      ∀ k x, k < xs.length → Sep w0 (Rn sz e v n (xs.set k x) :: L) (w.setCell ⟨b, k, none⟩ x) := by
  have ho := h.rn
  rcases ho.2 with ⟨_, h0⟩ | ⟨b, c, cur, rfl, hb, hh, h1, h2, h3, h4⟩
  · omega
  · refine ⟨b, c, rfl, h1, h2, (ownsRow_lt ho b rfl).2, ho.1, fun k hk => ?_, fun k => ?_, fun k x hk => ?_⟩
    · have hj2 : k < n * sz := by rw [← ho.1]; exact hk
      unfold World.cell?
      rw [hh]
      have h5 : (cur.toList.take (n * sz))[k]? = some xs[k] := by rw [h4]; exact List.getElem?_eq_getElem hk
      rw [List.getElem?_take, if_pos hj2] at h5
      simpa using h5
    · unfold World.frozen?; rw [hh]; simp
    · refine h.change (loc_rn _ _ _ _ _) fun F hF hlt => ⟨F, ⟨⟨w0.heap.size, ?_, .inr ⟨b, c, cur.setIfInBounds k x, rfl, hb, heap_setCell_at hh x, h1, h2, by simpa using h3, ?_⟩⟩, hF.2⟩, fun j hj => ⟨.inl hj, by have := hlt j hj; simpa [World.setCell] using this⟩, chg_setCell ((hF.2 b).2 rfl) k x⟩
      · rw [List.length_set]; exact ho.1
      · rw [Array.toList_setIfInBounds, List.take_set]
        exact congrArg (fun l => List.set l k x) h4
end Go.Proofs.YtafkbodmiblbnaaGreatDoor
