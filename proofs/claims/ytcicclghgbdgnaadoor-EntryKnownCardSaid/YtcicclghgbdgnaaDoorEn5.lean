/- The statement's own (stage 4): works. -/
import Derived.Test.YtcicclghgbdgnaaDoorEn3
import Derived.Test.YtcicclghgbdgnaaDoorEn4
namespace Go.Proofs.YtcicclghgbdgnaaDoor
open Go.RowKit
set_option linter.unusedVariables false
set_option linter.unusedSimpArgs false
theorem lnN4 (w : World) : LnS w (.slice none 0 0) [] := .inl ⟨none, 0, rfl, fun _ => rfl, rfl⟩
theorem Sep.litS4 {w0 w : World} {g n : Nat} {xs : Array Value} {L : List Thing} (l : List UInt8) (h : Sep w0 (Cl g xs 5 :: L) w) (hx : xs.toList = bv l) (hn : l.length = n) (h1 : n ≤ 1000) : Sl w (.slice (some ⟨g, 0, none⟩) n n) (bv l) := by
  subst hn
  have hs : xs.size = l.length := by rw [← Array.length_toList, hx, bv_length]
  have h2 := h.asRow l.length hs (by unfold maxLen; omega)
  rw [hx] at h2
  have h3 : Sep w0 (By (.slice (some ⟨g, 0, none⟩) l.length l.length) l :: L) w := h2
  exact h3.sl
def enX : EnM := ⟨2, 300, ⟨6, sZ, 5, 0, []⟩⟩
theorem Sep.en1 {w0 w : World} {b : Nat} {x : EnM} {v : Value} {L : List Thing} (h : Sep w0 (Cl b (enC x v) 26 :: L) w) (hv : LnS w v x.p.ls) : EnS w (.slice (some ⟨b, 0, none⟩) 1 1) [(x, v)] := by
  refine .inr ⟨b, 0, 1, rfl, Nat.le_refl _, by unfold maxLen; omega, h.blk_lt.2, fun i hi => ?_⟩
  obtain rfl : i = 0 := by simp at hi; exact hi
  unfold enC at h
  exact ⟨⟨h.cell rfl, h.cell rfl, h.cell rfl, h.cell rfl, h.cell rfl, h.cell rfl, h.cell rfl⟩, hv⟩
set_option maxRecDepth 100000 in
set_option maxHeartbeats 16000000 in
theorem works4_w {w : World} (hk : KindsAt w) : Calls Tryd.prog 17 #[] w fun e w' => e = .returned (.bool true) ∧ Sep w [] w' := by
  have HK := Lib.hid hk
  have h1 := (Sep.start w).alloc (.cells (enC enX (.slice none 0 0)) 26)
  have hb := ebytes_u enX (.slice none 0 0) h1 (lnN4 _) (HK.out.below h1.low)
  rw [show enX.ok = true by kernel_rfl, show entBs enX = [2, 172, 2, 6, 5] by kernel_rfl] at hb
  have HB := Lib.hid hb
  unfold BysE enV eB at HB
  dsimp only [enX] at HB
  simp only [if_true] at HB
  unfold enC at h1 HB
  dsimp only [enX] at h1 HB
  obtain ⟨c0, c1, c2, c3, c4, c5, c6⟩ := cells7 h1
  have hz : sZ.1 = ⟨#[]⟩ := rfl
  rw [hz] at HB c3
  clear hk hb h1 hz
  go_enter Tryd.func17, Tryd.ntmps17
  go_wp2_with fail
  refine HB.out.mono ?_
  rintro r0 w1 ⟨u1, rfl, h2⟩
  clear HB c0 c1 c2 c3 c4 c5 c6
  obtain ⟨a1, k1, rfl⟩ := h2.sl.len
  obtain ⟨c0, c1, c2, c3, c4, c5, c6⟩ := cells7 h2.sw2
  have h3 := h2.alloc (.cells (enC enX (.slice none 0 0)) 26)
  have hr := row_any (some ⟨w1.heap.size, 0, none⟩) 1 1 [(enX, .slice none 0 0)] h3 (h3.en1 (lnN4 _)) (HK.out.below h3.low) rfl (by omega)
  rw [show rowOk [(enX, .slice none 0 0)] = true by kernel_rfl, show rowBs ([(enX, (Value.slice none 0 0))].map (·.1)) = [1, 5, 2, 172, 2, 6, 5] by kernel_rfl] at hr
  have HR := Lib.hid hr
  unfold BysE eB at HR
  simp only [if_true] at HR
  unfold enC at HR
  dsimp only [enX] at HR
  clear h2 h3 hr
  go_wp2_with fail
  refine HR.out.mono ?_
  rintro r0 w2 ⟨u2, rfl, h4⟩
  clear HR c0 c1 c2 c3 c4 c5 c6
  obtain ⟨a2, k2, rfl⟩ := h4.sl.len
  have h5 := h4.alloc (.cells #[.int .u8 8, .int .u8 1, .int .u8 6, .int .u8 5] 5)
  have HP := Lib.hid (eparse_any (.slice (some ⟨w2.heap.size, 0, none⟩) 4 4) [8, 1, 6, 5] h5 (h5.litS4 [8, 1, 6, 5] rfl rfl (by decide)) (HK.out.below h5.low) (by decide))
  clear h4 h5
  go_wp2_with fail
  refine HP.out.mono ?_
  rintro r0 v11 ⟨x', err, u', rfl, hx, h6⟩
  rw [show prsEn [8, 1, 6, 5] = (EnM.zero, 4) by kernel_rfl] at hx
  obtain ⟨rfl, rfl⟩ := Prod.mk.inj hx
  obtain ⟨av11, cv11, rfl, -⟩ := h6.rnForm
  have h11 : Sep w [By (.slice a2 (bv [1, 5, 2, 172, 2, 6, 5]).length k2) [1, 5, 2, 172, 2, 6, 5], By (.slice a1 (bv [2, 172, 2, 6, 5]).length k1) [2, 172, 2, 6, 5]] (v11.alloc (.cells #[.int .i64 0, .int .i64 0, .int .i64 0, .string ⟨#[]⟩, .int .i64 0, .int .i64 0, .slice av11 0 cv11] 26)) := (h6.pick [2, 4] rfl).alloc0 _
  unfold enV
  dsimp only [EnM.zero, OpM.zero, List.length_nil]
  rw [show sZ.1 = (⟨#[]⟩ : ByteArray) from rfl]
  clear hx h6 HP
  have h5 := h11.alloc (.cells #[.int .u8 2, .int .u8 0, .int .u8 6, .int .u8 5] 5)
  rw [show (v11.alloc (.cells #[.int .i64 0, .int .i64 0, .int .i64 0, .string ⟨#[]⟩, .int .i64 0, .int .i64 0, .slice av11 0 cv11] 26)).heap.size = v11.heap.size + 1 by simp] at h5
  have HP := Lib.hid (eparse_any (.slice (some ⟨v11.heap.size + 1, 0, none⟩) 4 4) [2, 0, 6, 5] h5 (h5.litS4 [2, 0, 6, 5] rfl rfl (by decide)) (HK.out.below h5.low) (by decide))
  clear h11 h5
  go_wp2_with fail
  refine HP.out.mono ?_
  rintro r0 v12 ⟨x', err, u', rfl, hx, h6⟩
  rw [show prsEn [2, 0, 6, 5] = (EnM.zero, 4) by kernel_rfl] at hx
  obtain ⟨rfl, rfl⟩ := Prod.mk.inj hx
  obtain ⟨av12, cv12, rfl, -⟩ := h6.rnForm
  have h12 : Sep w [By (.slice a2 (bv [1, 5, 2, 172, 2, 6, 5]).length k2) [1, 5, 2, 172, 2, 6, 5], By (.slice a1 (bv [2, 172, 2, 6, 5]).length k1) [2, 172, 2, 6, 5]] (v12.alloc (.cells #[.int .i64 0, .int .i64 0, .int .i64 0, .string ⟨#[]⟩, .int .i64 0, .int .i64 0, .slice av12 0 cv12] 26)) := (h6.pick [2, 3] rfl).alloc0 _
  unfold enV
  dsimp only [EnM.zero, OpM.zero, List.length_nil]
  rw [show sZ.1 = (⟨#[]⟩ : ByteArray) from rfl]
  clear hx h6 HP
  have h5 := h12.alloc (.cells #[.int .u8 2] 5)
  rw [show (v12.alloc (.cells #[.int .i64 0, .int .i64 0, .int .i64 0, .string ⟨#[]⟩, .int .i64 0, .int .i64 0, .slice av12 0 cv12] 26)).heap.size = v12.heap.size + 1 by simp] at h5
  have HP := Lib.hid (eparse_any (.slice (some ⟨v12.heap.size + 1, 0, none⟩) 1 1) [2] h5 (h5.litS4 [2] rfl rfl (by decide)) (HK.out.below h5.low) (by decide))
  clear h12 h5
  go_wp2_with fail
  refine HP.out.mono ?_
  rintro r0 v13 ⟨x', err, u', rfl, hx, h6⟩
  rw [show prsEn [2] = (EnM.zero, 3) by kernel_rfl] at hx
  obtain ⟨rfl, rfl⟩ := Prod.mk.inj hx
  obtain ⟨av13, cv13, rfl, -⟩ := h6.rnForm
  have h13 : Sep w [By (.slice a2 (bv [1, 5, 2, 172, 2, 6, 5]).length k2) [1, 5, 2, 172, 2, 6, 5], By (.slice a1 (bv [2, 172, 2, 6, 5]).length k1) [2, 172, 2, 6, 5]] (v13.alloc (.cells #[.int .i64 0, .int .i64 0, .int .i64 0, .string ⟨#[]⟩, .int .i64 0, .int .i64 0, .slice av13 0 cv13] 26)) := (h6.pick [2, 3] rfl).alloc0 _
  unfold enV
  dsimp only [EnM.zero, OpM.zero, List.length_nil]
  rw [show sZ.1 = (⟨#[]⟩ : ByteArray) from rfl]
  clear hx h6 HP
  have h8 := h13.alloc (.cells #[.int .u8 2, .int .u8 172, .int .u8 2, .int .u8 6, .int .u8 5] 5)
  rw [show (v13.alloc (.cells #[.int .i64 0, .int .i64 0, .int .i64 0, .string ⟨#[]⟩, .int .i64 0, .int .i64 0, .slice av13 0 cv13] 26)).heap.size = v13.heap.size + 1 by simp] at h8
  have HQ1 := Lib.hid (eqBytes_any _ _ [2, 172, 2, 6, 5] [2, 172, 2, 6, 5] _ h8.sw3.sl (h8.litS4 [2, 172, 2, 6, 5] rfl rfl (by decide)))
  rw [show (([2, 172, 2, 6, 5] : List UInt8) == [2, 172, 2, 6, 5]) = true from rfl] at HQ1
  have H8 := Lib.hid h8
  clear h8 h13
  go_wp2_with (refine HQ1.out.mono ?_; rintro r0 wq ⟨rfl, rfl⟩)
  have h9 := H8.out.alloc (.cells #[.int .u8 1, .int .u8 5, .int .u8 2, .int .u8 172, .int .u8 2, .int .u8 6, .int .u8 5] 5)
  rw [show ((v13.alloc (.cells #[.int .i64 0, .int .i64 0, .int .i64 0, .string ⟨#[]⟩, .int .i64 0, .int .i64 0, .slice av13 0 cv13] 26)).alloc (.cells #[.int .u8 2, .int .u8 172, .int .u8 2, .int .u8 6, .int .u8 5] 5)).heap.size = v13.heap.size + 1 + 1 by simp] at h9
  have HQ2 := Lib.hid (eqBytes_any _ _ [1, 5, 2, 172, 2, 6, 5] [1, 5, 2, 172, 2, 6, 5] _ h9.sw3.sl (h9.litS4 [1, 5, 2, 172, 2, 6, 5] rfl rfl (by decide)))
  rw [show (([1, 5, 2, 172, 2, 6, 5] : List UInt8) == [1, 5, 2, 172, 2, 6, 5]) = true from rfl] at HQ2
  have H9 := Lib.hid (Sep.nil h9.low)
  clear h9 HQ1 H8
  go_wp2_with (refine HQ2.out.mono ?_; rintro r0 wq ⟨rfl, rfl⟩)
  go_ret
  exact ⟨rfl, H9.out⟩
theorem works4_any {w0 w : World} {L : List Thing} (h : Sep w0 L w) (hk : KindsAt w) :
    Calls Tryd.prog 17 #[] w fun e w' => e = .returned (.bool true) ∧ Sep w0 L w' :=
  (works4_w hk).mono fun e w' ⟨h1, h2⟩ => ⟨h1, h.below h2.low⟩
end Go.Proofs.YtcicclghgbdgnaaDoor
