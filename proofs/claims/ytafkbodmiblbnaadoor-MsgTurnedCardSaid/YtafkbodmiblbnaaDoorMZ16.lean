/- Contract of bits.Put. -/
import Derived.Test.YtafkbodmiblbnaaDoorMBits
import Derived.Test.YtafkbodmiblbnaaDoorMZ02
namespace Go.Proofs.YtafkbodmiblbnaaDoor
open Go.RowKit
set_option linter.unusedVariables false

/-- The lowest c bytes of a number, the most significant first. -/
def beL : Nat → Nat → List UInt8
  | 0, _ => []
  | c + 1, n => UInt8.ofNat (n / 256 ^ c) :: beL c n
theorem beL_len (c n : Nat) : (beL c n).length = c := by induction c with | zero => rfl | succ c ih => simp [beL, ih]

theorem put_arg (v : Value) (s : Int) (n : Nat) (w : World) (hs : isSize s = false) :
    Calls Tryd.prog 68 #[v, .int .i64 s, .int .u64 n] w fun e w' => e = .returned (.tuple #[.slice none 0 0, .int .i64 2]) ∧ w = w' := by
  go_enter Tryd.func68, Tryd.ntmps68
  go_wp2_with (go_at_call 76; refine (isSize_any _ _).mono ?_; rw [hs]; rintro e w1 ⟨rfl, rfl⟩)
  go_ret2
  exact ⟨rfl, rfl⟩



def zeros (c : Nat) : Array Value := Array.replicate c (.int .u8 0)
theorem be_byte (n j : Nat) : (n : Int) / 2 ^ (8 * j) % 256 = (UInt8.ofNat (n / 256 ^ j)).toNat := by
  have h : (2 : Nat) ^ (8 * j) = 256 ^ j := by rw [Nat.pow_mul]
  rw [UInt8.toNat_ofNat', ← h]
  simp
theorem be_set (c j n : Nat) (hj : j < c) (cur : Array Value) (h : cur.toList = List.replicate (c - j) (.int .u8 0) ++ bv (beL j n)) :
    (cur.setIfInBounds (c - 1 - j) (.int .u8 ((n : Int) / 2 ^ (8 * j) % 256))).toList = List.replicate (c - (j + 1)) (.int .u8 0) ++ bv (beL (j + 1) n) := by
  rw [Array.toList_setIfInBounds, h, be_byte, show c - j = (c - (j + 1)) + 1 by omega, List.replicate_succ', List.append_assoc, List.set_append_right _ _ (by simp; omega)]
  simp [beL, bv, show c - 1 - j - (c - (j + 1)) = 0 by omega]
theorem be_cell {wr : World} {g c j n : Nat} {e : TypeId} (hj : j < c) {cur : Array Value} (hg : wr.heap[g]? = some (.cells cur e (0, 0))) (h : cur.toList = List.replicate (c - j) (.int .u8 0) ++ bv (beL j n)) :
    wr.cell? ⟨g, c - 1 - j, none⟩ = some (.int .u8 0) ∧ wr.frozen? ⟨g, c - 1 - j, none⟩ = false := by
  constructor
  · rw [cell_of_row wr _ _ cur _ _ hg, ← Array.getElem?_toList, h, List.getElem?_append_left (by simp; omega), List.getElem?_replicate, if_pos (by omega)]
  · unfold World.frozen?; rw [hg]; simp

theorem put_range1 (v : Value) (n : Nat) (w : World) (h : (((n : Int) / 256) != 0) = true) :
    Calls Tryd.prog 68 #[v, .int .i64 8, .int .u64 n] w fun e w' => e = .returned (.tuple #[.slice none 0 0, .int .i64 9]) ∧ w = w' := by
  go_enter Tryd.func68, Tryd.ntmps68
  go_wp2_with (go_at_call 76; refine (isSize_any _ _).mono ?_; rw [show isSize 8 = true from rfl]; rintro e w1 ⟨rfl, rfl⟩)
  go_ret2
  exact ⟨rfl, rfl⟩

theorem make1 (w : World) : (Instr.makeSlice 24 (.int .i64 1) (.int .i64 1)).run Tryd.prog w =
    .ok (.slice (some ⟨w.heap.size, 0, none⟩) 1 1) (w.alloc (.cells (zeros 1) 5)) := by kernel_rfl

set_option maxRecDepth 100000 in
theorem put_ok1 (v : Value) (l : List UInt8) (n : Nat) (w : World) (h : (((n : Int) / 256) != 0) = false) (hv : Sl w v (bv l)) (hlen : l.length ≤ 1099511627776) :
    Calls Tryd.prog 68 #[v, .int .i64 8, .int .u64 n] w fun e w' => (∃ v', e = .returned (.tuple #[v', .int .i64 0]) ∧ Own w' w.heap.size 5 v' (bv (l ++ beL 1 n))) ∧ Below w.heap.size w w' := by
  obtain ⟨a0, c0, rfl⟩ := hv.len
  generalize (bv l).length = n0 at hv
  have H := Lib.hid hv
  clear hv
  have hmk := make1
  have hg1 := heap_alloc_new w (.cells (zeros 1) 5)
  have hb1 : Below w.heap.size w (w.alloc (.cells (zeros 1) 5)) := (Below.refl _ w).alloc (Nat.le_refl _) _
  have hs1 : w.heap.size < (w.alloc (.cells (zeros 1) 5)).heap.size := by simp
  go_enter Tryd.func68, Tryd.ntmps68
  go_wp2_with (go_at_call 76; refine (isSize_any _ _).mono ?_; rw [show isSize 8 = true from rfl]; rintro e w1 ⟨rfl, rfl⟩)
  clear hmk h
  generalize w.alloc (.cells (zeros 1) 5) = w1 at *
  go_loopw [24] (fun i wr => ∃ (j : Nat) (cur : Array Value), j ≤ 1 ∧ i = .int .i64 j ∧ wr.heap[w.heap.size]? = some (.cells cur 5 (0, 0)) ∧ cur.toList = List.replicate (1 - j) (.int .u8 0) ++ bv (beL j n) ∧ Below w.heap.size w wr) (fun i _ => 1 - (intOf i).toNat)
  case atStart => exact ⟨0, _, Nat.zero_le _, rfl, hg1, by simp [zeros, beL, bv], hb1⟩
  case round =>
    clear hg1 hb1 hs1
    obtain ⟨j, cur, hj, rfl, hg, hcur, hb⟩ := hrel
    by_cases hlt : j < 1
    · obtain rfl : j = 0 := by omega
      obtain ⟨hcell, hfr⟩ := be_cell hlt hg hcur
      have hset := be_set 1 0 n hlt cur hcur
      rw [show (n : Int) / 2 ^ (8 * 0) = n by simp] at hset
      simp only [show 1 - 1 - 0 = 0 from rfl] at hcell hfr hset
      have Hg := Lib.hid hg
      have Hset := Lib.hid hset
      clear hg hcur hset
      go_wp2
      go_roundw
      case rel => exact ⟨1, _, by omega, rfl, heap_setCell_at Hg.out _, Hset.out, hb.setCell (Nat.le_refl _) _⟩
      case measure => simp [intOf]
    · obtain rfl : j = 1 := by omega
      have ho : Own wr w.heap.size 5 (.slice (some ⟨w.heap.size, 0, none⟩) 1 1) (bv (beL 1 n)) := by
        have hl : (bv (beL 1 n)).length = 1 := by rw [bv_length, beL_len]
        have hcs : cur.size = 1 := by rw [← Array.length_toList, hcur]; simp [bv_length, beL_len]
        show wr.ownsRow _ _ 1 _ (bv (beL 1 n)).length _
        rw [hl]
        exact ⟨by rw [hl], .inr ⟨w.heap.size, 1, cur, rfl, Nat.le_refl _, hg, Nat.le_refl _, by unfold maxLen; omega, by rw [hcs], by rw [hcur]; simp; exact List.take_of_length_le (by rw [hl]; omega)⟩⟩
      have hl2 : l.length + (beL 1 n).length ≤ 2199023255552 := by rw [beL_len]; omega
      clear hg hcur
      go_wp2_with fail
      refine (concat_lit2 _ _ l _ _ (H.out.below hb) ho.sl hl2 _).mono ?_
      rintro e w2 ⟨⟨v2, rfl, ho2⟩, hb2⟩
      go_wp2
      go_ret2
      exact ⟨⟨v2, rfl, ho2.base hb.size⟩, hb.trans (hb2.mono hb.size)⟩

theorem put_range2 (v : Value) (n : Nat) (w : World) (h : (((n : Int) / 65536) != 0) = true) :
    Calls Tryd.prog 68 #[v, .int .i64 16, .int .u64 n] w fun e w' => e = .returned (.tuple #[.slice none 0 0, .int .i64 9]) ∧ w = w' := by
  go_enter Tryd.func68, Tryd.ntmps68
  go_wp2_with (go_at_call 76; refine (isSize_any _ _).mono ?_; rw [show isSize 16 = true from rfl]; rintro e w1 ⟨rfl, rfl⟩)
  go_ret2
  exact ⟨rfl, rfl⟩

theorem make2 (w : World) : (Instr.makeSlice 24 (.int .i64 2) (.int .i64 2)).run Tryd.prog w =
    .ok (.slice (some ⟨w.heap.size, 0, none⟩) 2 2) (w.alloc (.cells (zeros 2) 5)) := by kernel_rfl

set_option maxRecDepth 100000 in
theorem put_ok2 (v : Value) (l : List UInt8) (n : Nat) (w : World) (h : (((n : Int) / 65536) != 0) = false) (hv : Sl w v (bv l)) (hlen : l.length ≤ 1099511627776) :
    Calls Tryd.prog 68 #[v, .int .i64 16, .int .u64 n] w fun e w' => (∃ v', e = .returned (.tuple #[v', .int .i64 0]) ∧ Own w' w.heap.size 5 v' (bv (l ++ beL 2 n))) ∧ Below w.heap.size w w' := by
  obtain ⟨a0, c0, rfl⟩ := hv.len
  generalize (bv l).length = n0 at hv
  have H := Lib.hid hv
  clear hv
  have hmk := make2
  have hg1 := heap_alloc_new w (.cells (zeros 2) 5)
  have hb1 : Below w.heap.size w (w.alloc (.cells (zeros 2) 5)) := (Below.refl _ w).alloc (Nat.le_refl _) _
  have hs1 : w.heap.size < (w.alloc (.cells (zeros 2) 5)).heap.size := by simp
  go_enter Tryd.func68, Tryd.ntmps68
  go_wp2_with (go_at_call 76; refine (isSize_any _ _).mono ?_; rw [show isSize 16 = true from rfl]; rintro e w1 ⟨rfl, rfl⟩)
  clear hmk h
  generalize w.alloc (.cells (zeros 2) 5) = w1 at *
  go_loopw [24] (fun i wr => ∃ (j : Nat) (cur : Array Value), j ≤ 2 ∧ i = .int .i64 j ∧ wr.heap[w.heap.size]? = some (.cells cur 5 (0, 0)) ∧ cur.toList = List.replicate (2 - j) (.int .u8 0) ++ bv (beL j n) ∧ Below w.heap.size w wr) (fun i _ => 2 - (intOf i).toNat)
  case atStart => exact ⟨0, _, Nat.zero_le _, rfl, hg1, by simp [zeros, beL, bv], hb1⟩
  case round =>
    clear hg1 hb1 hs1
    obtain ⟨j, cur, hj, rfl, hg, hcur, hb⟩ := hrel
    by_cases hlt : j < 2
    · obtain ⟨hcell, hfr⟩ := be_cell hlt hg hcur
      have hset := be_set 2 j n hlt cur hcur
      simp only [show 2 - 1 = 1 from rfl] at hcell hfr hset
      have Hg := Lib.hid hg
      have Hset := Lib.hid hset
      clear hg hcur hset
      go_wp2
      go_roundw
      case rel => exact ⟨j + 1, _, by omega, by go_num, heap_setCell_at Hg.out _, Hset.out, hb.setCell (Nat.le_refl _) _⟩
      case measure => simp [intOf]; omega
    · obtain rfl : j = 2 := by omega
      have ho : Own wr w.heap.size 5 (.slice (some ⟨w.heap.size, 0, none⟩) 2 2) (bv (beL 2 n)) := by
        have hl : (bv (beL 2 n)).length = 2 := by rw [bv_length, beL_len]
        have hcs : cur.size = 2 := by rw [← Array.length_toList, hcur]; simp [bv_length, beL_len]
        show wr.ownsRow _ _ 1 _ (bv (beL 2 n)).length _
        rw [hl]
        exact ⟨by rw [hl], .inr ⟨w.heap.size, 2, cur, rfl, Nat.le_refl _, hg, Nat.le_refl _, by unfold maxLen; omega, by rw [hcs], by rw [hcur]; simp; exact List.take_of_length_le (by rw [hl]; omega)⟩⟩
      have hl2 : l.length + (beL 2 n).length ≤ 2199023255552 := by rw [beL_len]; omega
      clear hg hcur
      go_wp2_with fail
      refine (concat_lit2 _ _ l _ _ (H.out.below hb) ho.sl hl2 _).mono ?_
      rintro e w2 ⟨⟨v2, rfl, ho2⟩, hb2⟩
      go_wp2
      go_ret2
      exact ⟨⟨v2, rfl, ho2.base hb.size⟩, hb.trans (hb2.mono hb.size)⟩

theorem put_range4 (v : Value) (n : Nat) (w : World) (h : (((n : Int) / 4294967296) != 0) = true) :
    Calls Tryd.prog 68 #[v, .int .i64 32, .int .u64 n] w fun e w' => e = .returned (.tuple #[.slice none 0 0, .int .i64 9]) ∧ w = w' := by
  go_enter Tryd.func68, Tryd.ntmps68
  go_wp2_with (go_at_call 76; refine (isSize_any _ _).mono ?_; rw [show isSize 32 = true from rfl]; rintro e w1 ⟨rfl, rfl⟩)
  go_ret2
  exact ⟨rfl, rfl⟩

theorem make4 (w : World) : (Instr.makeSlice 24 (.int .i64 4) (.int .i64 4)).run Tryd.prog w =
    .ok (.slice (some ⟨w.heap.size, 0, none⟩) 4 4) (w.alloc (.cells (zeros 4) 5)) := by kernel_rfl

set_option maxRecDepth 100000 in
theorem put_ok4 (v : Value) (l : List UInt8) (n : Nat) (w : World) (h : (((n : Int) / 4294967296) != 0) = false) (hv : Sl w v (bv l)) (hlen : l.length ≤ 1099511627776) :
    Calls Tryd.prog 68 #[v, .int .i64 32, .int .u64 n] w fun e w' => (∃ v', e = .returned (.tuple #[v', .int .i64 0]) ∧ Own w' w.heap.size 5 v' (bv (l ++ beL 4 n))) ∧ Below w.heap.size w w' := by
  obtain ⟨a0, c0, rfl⟩ := hv.len
  generalize (bv l).length = n0 at hv
  have H := Lib.hid hv
  clear hv
  have hmk := make4
  have hg1 := heap_alloc_new w (.cells (zeros 4) 5)
  have hb1 : Below w.heap.size w (w.alloc (.cells (zeros 4) 5)) := (Below.refl _ w).alloc (Nat.le_refl _) _
  have hs1 : w.heap.size < (w.alloc (.cells (zeros 4) 5)).heap.size := by simp
  go_enter Tryd.func68, Tryd.ntmps68
  go_wp2_with (go_at_call 76; refine (isSize_any _ _).mono ?_; rw [show isSize 32 = true from rfl]; rintro e w1 ⟨rfl, rfl⟩)
  clear hmk h
  generalize w.alloc (.cells (zeros 4) 5) = w1 at *
  go_loopw [24] (fun i wr => ∃ (j : Nat) (cur : Array Value), j ≤ 4 ∧ i = .int .i64 j ∧ wr.heap[w.heap.size]? = some (.cells cur 5 (0, 0)) ∧ cur.toList = List.replicate (4 - j) (.int .u8 0) ++ bv (beL j n) ∧ Below w.heap.size w wr) (fun i _ => 4 - (intOf i).toNat)
  case atStart => exact ⟨0, _, Nat.zero_le _, rfl, hg1, by simp [zeros, beL, bv], hb1⟩
  case round =>
    clear hg1 hb1 hs1
    obtain ⟨j, cur, hj, rfl, hg, hcur, hb⟩ := hrel
    by_cases hlt : j < 4
    · obtain ⟨hcell, hfr⟩ := be_cell hlt hg hcur
      have hset := be_set 4 j n hlt cur hcur
      simp only [show 4 - 1 = 3 from rfl] at hcell hfr hset
      have Hg := Lib.hid hg
      have Hset := Lib.hid hset
      clear hg hcur hset
      go_wp2
      go_roundw
      case rel => exact ⟨j + 1, _, by omega, by go_num, heap_setCell_at Hg.out _, Hset.out, hb.setCell (Nat.le_refl _) _⟩
      case measure => simp [intOf]; omega
    · obtain rfl : j = 4 := by omega
      have ho : Own wr w.heap.size 5 (.slice (some ⟨w.heap.size, 0, none⟩) 4 4) (bv (beL 4 n)) := by
        have hl : (bv (beL 4 n)).length = 4 := by rw [bv_length, beL_len]
        have hcs : cur.size = 4 := by rw [← Array.length_toList, hcur]; simp [bv_length, beL_len]
        show wr.ownsRow _ _ 1 _ (bv (beL 4 n)).length _
        rw [hl]
        exact ⟨by rw [hl], .inr ⟨w.heap.size, 4, cur, rfl, Nat.le_refl _, hg, Nat.le_refl _, by unfold maxLen; omega, by rw [hcs], by rw [hcur]; simp; exact List.take_of_length_le (by rw [hl]; omega)⟩⟩
      have hl2 : l.length + (beL 4 n).length ≤ 2199023255552 := by rw [beL_len]; omega
      clear hg hcur
      go_wp2_with fail
      refine (concat_lit2 _ _ l _ _ (H.out.below hb) ho.sl hl2 _).mono ?_
      rintro e w2 ⟨⟨v2, rfl, ho2⟩, hb2⟩
      go_wp2
      go_ret2
      exact ⟨⟨v2, rfl, ho2.base hb.size⟩, hb.trans (hb2.mono hb.size)⟩

theorem put_range8 (v : Value) (n : Nat) (w : World) (h : (((n : Int) / 18446744073709551616) != 0) = true) :
    Calls Tryd.prog 68 #[v, .int .i64 64, .int .u64 n] w fun e w' => e = .returned (.tuple #[.slice none 0 0, .int .i64 9]) ∧ w = w' := by
  go_enter Tryd.func68, Tryd.ntmps68
  go_wp2_with (go_at_call 76; refine (isSize_any _ _).mono ?_; rw [show isSize 64 = true from rfl]; rintro e w1 ⟨rfl, rfl⟩)
  go_ret2
  exact ⟨rfl, rfl⟩

theorem make8 (w : World) : (Instr.makeSlice 24 (.int .i64 8) (.int .i64 8)).run Tryd.prog w =
    .ok (.slice (some ⟨w.heap.size, 0, none⟩) 8 8) (w.alloc (.cells (zeros 8) 5)) := by kernel_rfl

set_option maxRecDepth 100000 in
theorem put_ok8 (v : Value) (l : List UInt8) (n : Nat) (w : World) (h : (((n : Int) / 18446744073709551616) != 0) = false) (hv : Sl w v (bv l)) (hlen : l.length ≤ 1099511627776) :
    Calls Tryd.prog 68 #[v, .int .i64 64, .int .u64 n] w fun e w' => (∃ v', e = .returned (.tuple #[v', .int .i64 0]) ∧ Own w' w.heap.size 5 v' (bv (l ++ beL 8 n))) ∧ Below w.heap.size w w' := by
  obtain ⟨a0, c0, rfl⟩ := hv.len
  generalize (bv l).length = n0 at hv
  have H := Lib.hid hv
  clear hv
  have hmk := make8
  have hg1 := heap_alloc_new w (.cells (zeros 8) 5)
  have hb1 : Below w.heap.size w (w.alloc (.cells (zeros 8) 5)) := (Below.refl _ w).alloc (Nat.le_refl _) _
  have hs1 : w.heap.size < (w.alloc (.cells (zeros 8) 5)).heap.size := by simp
  go_enter Tryd.func68, Tryd.ntmps68
  go_wp2_with (go_at_call 76; refine (isSize_any _ _).mono ?_; rw [show isSize 64 = true from rfl]; rintro e w1 ⟨rfl, rfl⟩)
  clear hmk h
  generalize w.alloc (.cells (zeros 8) 5) = w1 at *
  go_loopw [24] (fun i wr => ∃ (j : Nat) (cur : Array Value), j ≤ 8 ∧ i = .int .i64 j ∧ wr.heap[w.heap.size]? = some (.cells cur 5 (0, 0)) ∧ cur.toList = List.replicate (8 - j) (.int .u8 0) ++ bv (beL j n) ∧ Below w.heap.size w wr) (fun i _ => 8 - (intOf i).toNat)
  case atStart => exact ⟨0, _, Nat.zero_le _, rfl, hg1, by simp [zeros, beL, bv], hb1⟩
  case round =>
    clear hg1 hb1 hs1
    obtain ⟨j, cur, hj, rfl, hg, hcur, hb⟩ := hrel
    by_cases hlt : j < 8
    · obtain ⟨hcell, hfr⟩ := be_cell hlt hg hcur
      have hset := be_set 8 j n hlt cur hcur
      simp only [show 8 - 1 = 7 from rfl] at hcell hfr hset
      have Hg := Lib.hid hg
      have Hset := Lib.hid hset
      clear hg hcur hset
      go_wp2
      go_roundw
      case rel => exact ⟨j + 1, _, by omega, by go_num, heap_setCell_at Hg.out _, Hset.out, hb.setCell (Nat.le_refl _) _⟩
      case measure => simp [intOf]; omega
    · obtain rfl : j = 8 := by omega
      have ho : Own wr w.heap.size 5 (.slice (some ⟨w.heap.size, 0, none⟩) 8 8) (bv (beL 8 n)) := by
        have hl : (bv (beL 8 n)).length = 8 := by rw [bv_length, beL_len]
        have hcs : cur.size = 8 := by rw [← Array.length_toList, hcur]; simp [bv_length, beL_len]
        show wr.ownsRow _ _ 1 _ (bv (beL 8 n)).length _
        rw [hl]
        exact ⟨by rw [hl], .inr ⟨w.heap.size, 8, cur, rfl, Nat.le_refl _, hg, Nat.le_refl _, by unfold maxLen; omega, by rw [hcs], by rw [hcur]; simp; exact List.take_of_length_le (by rw [hl]; omega)⟩⟩
      have hl2 : l.length + (beL 8 n).length ≤ 2199023255552 := by rw [beL_len]; omega
      clear hg hcur
      go_wp2_with fail
      refine (concat_lit2 _ _ l _ _ (H.out.below hb) ho.sl hl2 _).mono ?_
      rintro e w2 ⟨⟨v2, rfl, ho2⟩, hb2⟩
      go_wp2
      go_ret2
      exact ⟨⟨v2, rfl, ho2.base hb.size⟩, hb.trans (hb2.mono hb.size)⟩

/-- Put at a size that is one. -/
theorem put_ok (c : Nat) (hc : c = 1 ∨ c = 2 ∨ c = 4 ∨ c = 8) (v : Value) (l : List UInt8) (n : Nat) (w : World) (h : n < 256 ^ c) (hv : Sl w v (bv l)) (hlen : l.length ≤ 1099511627776) :
    Calls Tryd.prog 68 #[v, .int .i64 (8 * c : Nat), .int .u64 n] w fun e w' => (∃ v', e = .returned (.tuple #[v', .int .i64 0]) ∧ Own w' w.heap.size 5 v' (bv (l ++ beL c n))) ∧ Below w.heap.size w w' := by
  rcases hc with rfl | rfl | rfl | rfl
  · exact put_ok1 v l n w (by rw [bne_eq_false_iff_eq]; omega) hv hlen
  · exact put_ok2 v l n w (by rw [bne_eq_false_iff_eq]; omega) hv hlen
  · exact put_ok4 v l n w (by rw [bne_eq_false_iff_eq]; omega) hv hlen
  · exact put_ok8 v l n w (by rw [bne_eq_false_iff_eq]; omega) hv hlen
theorem put_range (c : Nat) (hc : c = 1 ∨ c = 2 ∨ c = 4 ∨ c = 8) (v : Value) (n : Nat) (w : World) (h : ¬ n < 256 ^ c) :
    Calls Tryd.prog 68 #[v, .int .i64 (8 * c : Nat), .int .u64 n] w fun e w' => e = .returned (.tuple #[.slice none 0 0, .int .i64 9]) ∧ w = w' := by
  rcases hc with rfl | rfl | rfl | rfl
  · exact put_range1 v n w (by rw [bne_iff_ne]; omega)
  · exact put_range2 v n w (by rw [bne_iff_ne]; omega)
  · exact put_range4 v n w (by rw [bne_iff_ne]; omega)
  · exact put_range8 v n w (by rw [bne_iff_ne]; omega)

end Go.Proofs.YtafkbodmiblbnaaDoor
/- Rotations and reversals, bit by bit: plain mathematics. -/
namespace Go.Proofs.YtafkbodmiblbnaaDoor
open Go.RowKit

theorem u64_bit {n : Nat} (h : U64 n) {j : Nat} (hj : 64 ≤ j) : n.testBit j = false := by
  apply Nat.testBit_lt_two_pow
  have : 2 ^ 64 ≤ 2 ^ j := Nat.pow_le_pow_right (by omega) hj
  unfold U64 at h; omega
theorem eq_of_bits {a b : Nat} (ha : U64 a) (hb : U64 b) (h : ∀ j, j < 64 → a.testBit j = b.testBit j) : a = b := by
  apply Nat.eq_of_testBit_eq
  intro j
  by_cases hj : j < 64
  · exact h j hj
  · rw [u64_bit ha (by omega), u64_bit hb (by omega)]
theorem rotl_bit (n r j : Nat) (hj : j < 64) : (rotl n r).testBit j = (decide (r ≤ j) && n.testBit (j - r) || n.testBit (j + (64 - r))) := by
  unfold rotl
  rw [Nat.testBit_or, Nat.testBit_mod_two_pow, Nat.testBit_mul_two_pow, Nat.testBit_div_two_pow]
  simp [hj]
theorem rotl_at (n r i : Nat) (hn : U64 n) (hr : r < 64) (hi : i < 64) : (rotl n r).testBit ((i + r) % 64) = n.testBit i := by
  rw [rotl_bit n r _ (Nat.mod_lt _ (by omega))]
  by_cases h : i + r < 64
  · rw [Nat.mod_eq_of_lt h]
    simp only [show r ≤ i + r by omega, decide_true, Bool.true_and, Nat.add_sub_cancel]
    rw [u64_bit hn (show 64 ≤ i + r + (64 - r) by omega), Bool.or_false]
  · rw [show (i + r) % 64 = i + r - 64 by omega]
    simp only [show ¬ r ≤ i + r - 64 by omega, decide_false, Bool.false_and, Bool.false_or]
    congr 1; omega
theorem rot_back (n : Nat) (k : Int) (hn : U64 n) : rot (rot n k) (-k) = n := by
  unfold rot
  obtain ⟨r, hr, e⟩ : ∃ r : Nat, r < 64 ∧ (k % 64).toNat = r := ⟨_, by omega, rfl⟩
  have e2 : ((-k) % 64).toNat = (64 - r) % 64 := by omega
  rw [e, e2]
  apply eq_of_bits (rotl_u64 _ _ (rotl_u64 _ _ hn)) hn
  intro j hj
  have h1 := rotl_at (rotl n r) ((64 - r) % 64) ((j + r) % 64) (rotl_u64 _ _ hn) (by omega) (by omega)
  rw [show ((j + r) % 64 + (64 - r) % 64) % 64 = j by omega] at h1
  rw [h1, rotl_at n r j hn hr hj]
theorem rot_64 (n : Nat) (hn : U64 n) : rot n 64 = n := by
  unfold rot rotl
  unfold U64 at hn
  simp
  rw [Nat.mod_eq_of_lt hn, Nat.div_eq_of_lt hn, Nat.or_zero]
theorem revF_bit (c t n i : Nat) (hc : c ≤ 64) (ht : t < 2 ^ (64 - c)) : (revF c t n).testBit i = if i < c then n.testBit (c - 1 - i) else t.testBit (i - c) := by
  induction c generalizing t n with
  | zero => simp [revF]
  | succ c ih =>
    have hp : 2 ^ (64 - c) = 2 ^ (64 - (c + 1)) * 2 := by rw [← Nat.pow_succ]; congr 1; omega
    have hlt : t * 2 ≤ 2 ^ 64 - 2 := by
      have : 2 ^ (64 - (c + 1)) ≤ 2 ^ 63 := Nat.pow_le_pow_right (by omega) (by omega)
      omega
    have e : t * 2 % 2 ^ 64 ||| n % 2 = t * 2 + n % 2 := by
      rw [Nat.mod_eq_of_lt (by omega), Nat.mul_comm]
      exact (Nat.two_pow_add_eq_or_of_lt (i := 1) (b := n % 2) (by omega) t).symm
    rw [revF, e, ih _ _ (by omega) (by omega)]
    by_cases h1 : i < c
    · rw [if_pos h1, if_pos (by omega), Nat.testBit_div_two]
      congr 1; omega
    · rw [if_neg h1]
      by_cases h2 : i = c
      · subst h2
        rw [if_pos (by omega), Nat.sub_self, show i + 1 - 1 - i = 0 by omega]
        simp only [Nat.testBit_zero]
        congr 2; omega
      · rw [if_neg (by omega), show i - c = (i - (c + 1)) + 1 by omega, Nat.testBit_succ]
        congr 1; omega
theorem rev_bit (n w i : Nat) (hw : w ≤ 64) : (rev n w).testBit i = (decide (i < w) && n.testBit (w - 1 - i)) := by
  unfold rev
  rw [show (min (max (w : Int) 0) 64).toNat = w by omega, revF_bit w 0 n i hw (Nat.pow_pos (by decide))]
  by_cases h : i < w
  · rw [if_pos h]; simp [h]
  · rw [if_neg h]; simp [h]
theorem rev_rev (n : Nat) (hn : U64 n) : rev (rev n 64) 64 = n := by
  apply eq_of_bits (rev_u64 _ _) hn
  intro j hj
  have h1 := rev_bit (rev n 64) 64 j (by omega)
  have h2 := rev_bit n 64 (63 - j) (by omega)
  simp only [show j < 64 from hj, show 63 - j < 64 by omega, decide_true, Bool.true_and] at h1 h2
  rw [show ((64 : Nat) : Int) = 64 from rfl] at h1 h2
  rw [h1, show 64 - 1 - j = 63 - j by omega, h2]
  congr 1; omega
/-- Bit i of a number, as the program asks for it. -/
theorem bit_at (n i : Nat) (hn : U64 n) : bits BinOp.and IntKind.u64 ((n : Int) / 2 ^ i) 1 = ((n.testBit i).toNat : Int) := by
  have e : ((n : Int) / 2 ^ i) = ((n / 2 ^ i : Nat) : Int) := by simp
  have h64 : U64 (n / 2 ^ i) := Nat.lt_of_le_of_lt (Nat.div_le_self _ _) hn
  rw [e, and_one _ h64, Nat.testBit_eq_decide_div_mod_eq]
  have : n / 2 ^ i % 2 = 0 ∨ n / 2 ^ i % 2 = 1 := by omega
  rcases this with h | h <;> simp [h]
end Go.Proofs.YtafkbodmiblbnaaDoor
