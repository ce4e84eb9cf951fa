/- Package item: which answers may be. -/
import Derived.Test.YtafkbodmiblbnaaGreatDoorMZ01
import Derived.Test.YtafkbodmiblbnaaGreatDoorMItem9
import Derived.Test.YtafkbodmiblbnaaGreatDoorMZ09
import Derived.Test.YtafkbodmiblbnaaGreatDoorMZ05
namespace Go.Proofs.YtafkbodmiblbnaaGreatDoor
open Go.RowKit
set_option linter.unusedVariables false
set_option linter.unusedSimpArgs false
def resB (k a b : Int) : Bool := decide (0 ≤ k ∧ k ≤ 6 ∧ 0 ≤ a ∧ 0 ≤ b ∧ a ≤ 2147483647 ∧ b ≤ 2147483647)
def okE (x : Bool) : Int := if x then 0 else 2
theorem res_any (k a b : Int) (w : World) : Calls Tryz.prog 88 #[.agg #[.int .i64 k, .int .i64 a, .int .i64 b]] w fun e w' => e = .returned (.int .i64 (okE (resB k a b))) ∧ w' = w.alloc (.cells #[.int .i64 k, .int .i64 a, .int .i64 b] 28) := by
  by_cases h0 : k < 0
  · have hb : resB k a b = false := decide_eq_false fun h => by omega
    rw [hb]
    clear hb
    go_enter Tryz.func88, Tryz.ntmps88
    go_wp2
    go_ret
    exact ⟨rfl, rfl⟩
  · by_cases h1 : 6 < k
    · have hb : resB k a b = false := decide_eq_false fun h => by omega
      rw [hb]
      clear hb
      go_enter Tryz.func88, Tryz.ntmps88
      go_wp2
      go_ret
      exact ⟨rfl, rfl⟩
    · have k0 : 0 ≤ k := by omega
      have k1 : k ≤ 6 := by omega
      rcases Int.lt_trichotomy a b with hab | rfl | hab
      · by_cases h2 : a < 0
        · have hb : resB k a b = false := decide_eq_false fun h => by omega
          rw [hb]
          clear hb
          go_enter Tryz.func88, Tryz.ntmps88
          go_wp2
          go_ret
          exact ⟨rfl, rfl⟩
        · have h2' : 0 ≤ a := by omega
          by_cases h3 : 2147483647 < b
          · have hb : resB k a b = false := decide_eq_false fun h => by omega
            rw [hb]
            clear hb
            go_enter Tryz.func88, Tryz.ntmps88
            go_wp2
            go_ret
            exact ⟨rfl, rfl⟩
          · have h3' : b ≤ 2147483647 := by omega
            have hb : resB k a b = true := decide_eq_true (by omega)
            rw [hb]
            clear hb
            go_enter Tryz.func88, Tryz.ntmps88
            go_wp2
            go_ret
            exact ⟨rfl, rfl⟩
      · by_cases h2 : a < 0
        · have hb : resB k a a = false := decide_eq_false fun h => by omega
          rw [hb]
          clear hb
          go_enter Tryz.func88, Tryz.ntmps88
          go_wp2
          go_ret
          exact ⟨rfl, rfl⟩
        · have h2' : 0 ≤ a := by omega
          by_cases h3 : 2147483647 < a
          · have hb : resB k a a = false := decide_eq_false fun h => by omega
            rw [hb]
            clear hb
            go_enter Tryz.func88, Tryz.ntmps88
            go_wp2
            go_ret
            exact ⟨rfl, rfl⟩
          · have h3' : a ≤ 2147483647 := by omega
            have hb : resB k a a = true := decide_eq_true (by omega)
            rw [hb]
            clear hb
            go_enter Tryz.func88, Tryz.ntmps88
            go_wp2
            go_ret
            exact ⟨rfl, rfl⟩
      · by_cases h2 : b < 0
        · have hb : resB k a b = false := decide_eq_false fun h => by omega
          rw [hb]
          clear hb
          go_enter Tryz.func88, Tryz.ntmps88
          go_wp2
          go_ret
          exact ⟨rfl, rfl⟩
        · have h2' : 0 ≤ b := by omega
          by_cases h3 : 2147483647 < a
          · have hb : resB k a b = false := decide_eq_false fun h => by omega
            rw [hb]
            clear hb
            go_enter Tryz.func88, Tryz.ntmps88
            go_wp2
            go_ret
            exact ⟨rfl, rfl⟩
          · have h3' : a ≤ 2147483647 := by omega
            have hb : resB k a b = true := decide_eq_true (by omega)
            rw [hb]
            clear hb
            go_enter Tryz.func88, Tryz.ntmps88
            go_wp2
            go_ret
            exact ⟨rfl, rfl⟩
end Go.Proofs.YtafkbodmiblbnaaGreatDoor
/- Package item: ParseRes. -/
namespace Go.Proofs.YtafkbodmiblbnaaGreatDoor
open Go.RowKit
set_option linter.unusedVariables false
set_option linter.unusedSimpArgs false
theorem cells3 {w0 w : World} {b : Nat} {v0 v1 v2 : Value} {t : TypeId} {L : List Thing} (h : Sep w0 (Cl b #[v0, v1, v2] t :: L) w) :
    w.cell? ⟨b, 0, none⟩ = some v0 ∧ w.cell? ⟨b, 1, none⟩ = some v1 ∧ w.cell? ⟨b, 2, none⟩ = some v2 := ⟨h.cell rfl, h.cell rfl, h.cell rfl⟩
end Go.Proofs.YtafkbodmiblbnaaGreatDoor
/- The document's own item: Copy, CheckRes. -/
namespace Go.Proofs.YtafkbodmiblbnaaGreatDoor
open Go.RowKit
set_option linter.unusedVariables false
set_option linter.unusedSimpArgs false
theorem resB_eq (k a b : Int) : resB k a b = (wthB k 0 6 && wthB a 0 2147483647 && wthB b 0 2147483647) := by
  unfold resB wthB
  rw [Bool.eq_iff_iff]
  simp only [decide_eq_true_eq, Bool.and_eq_true]
  omega
set_option maxHeartbeats 4000000 in
theorem rres_any {w0 w : World} {L : List Thing} (k a b : Int) (h : Sep w0 L w) :
    Calls Tryz.prog 58 #[.agg #[.int .i64 k, .int .i64 a, .int .i64 b]] w fun e w' => e = .returned (.int .i64 (okE (resB k a b))) ∧ Sep w0 L w' := by
  have H1 := Lib.hid (h.alloc0 (.cells #[.int .i64 k, .int .i64 a, .int .i64 b] 28))
  have HK := Lib.hid (fun wx => within_any k 0 6 wx)
  have HA := Lib.hid (fun wx => within_any a 0 2147483647 wx)
  have HB := Lib.hid (fun wx => within_any b 0 2147483647 wx)
  rw [resB_eq]
  clear h
  cases e1 : wthB k 0 6 with
  | false =>
    rw [e1] at HK
    clear e1
    go_enter Tryz.func58, Tryz.ntmps58
    go_wp2_with ((with_reducible refine (HK.out _).mono ?_); rintro r9 w9 ⟨rfl, rfl⟩)
    go_ret
    exact ⟨rfl, H1.out⟩
  | true =>
    rw [e1] at HK
    clear e1
    cases e2 : wthB a 0 2147483647 with
    | false =>
      rw [e2] at HA
      clear e2
      go_enter Tryz.func58, Tryz.ntmps58
      go_wp2_with (first | ((with_reducible refine (HK.out _).mono ?_); rintro r9 w9 ⟨rfl, rfl⟩) | ((with_reducible refine (HA.out _).mono ?_); rintro r9 w9 ⟨rfl, rfl⟩))
      go_ret
      exact ⟨rfl, H1.out⟩
    | true =>
      rw [e2] at HA
      clear e2
      cases e3 : wthB b 0 2147483647 with
      | false =>
        rw [e3] at HB
        clear e3
        go_enter Tryz.func58, Tryz.ntmps58
        go_wp2_with (first | ((with_reducible refine (HK.out _).mono ?_); rintro r9 w9 ⟨rfl, rfl⟩) | ((with_reducible refine (HA.out _).mono ?_); rintro r9 w9 ⟨rfl, rfl⟩) | ((with_reducible refine (HB.out _).mono ?_); rintro r9 w9 ⟨rfl, rfl⟩))
        go_ret
        exact ⟨rfl, H1.out⟩
      | true =>
        rw [e3] at HB
        clear e3
        go_enter Tryz.func58, Tryz.ntmps58
        go_wp2_with (first | ((with_reducible refine (HK.out _).mono ?_); rintro r9 w9 ⟨rfl, rfl⟩) | ((with_reducible refine (HA.out _).mono ?_); rintro r9 w9 ⟨rfl, rfl⟩) | ((with_reducible refine (HB.out _).mono ?_); rintro r9 w9 ⟨rfl, rfl⟩))
        go_ret
        exact ⟨rfl, H1.out⟩
end Go.Proofs.YtafkbodmiblbnaaGreatDoor
/- Contract of bits.Put. -/
namespace Go.Proofs.YtafkbodmiblbnaaGreatDoor
open Go.RowKit
set_option linter.unusedVariables false

/-- The lowest c bytes of a number, the most significant first. -/
def beL : Nat → Nat → List UInt8
  | 0, _ => []
  | c + 1, n => UInt8.ofNat (n / 256 ^ c) :: beL c n
theorem beL_len (c n : Nat) : (beL c n).length = c := by induction c with | zero => rfl | succ c ih => simp [beL, ih]

def zeros (c : Nat) : Array Value := Array.replicate c (.int .u8 0)
theorem be_byte (n j : Nat) : (n : Int) / 2 ^ (8 * j) % 256 = (UInt8.ofNat (n / 256 ^ j)).toNat := by
  have h : (2 : Nat) ^ (8 * j) = 256 ^ j := by rw [Nat.pow_mul]
  rw [UInt8.toNat_ofNat', ← h]
  simp
theorem be_set (c j n : Nat) (hj : j < c) (cur : Array Value) (h : cur.toList = List.replicate (c - j) (.int .u8 0) ++ bv (beL j n)) :
    (cur.setIfInBounds (c - 1 - j) (.int .u8 ((n : Int) / 2 ^ (8 * j) % 256))).toList = List.replicate (c - (j + 1)) (.int .u8 0) ++ bv (beL (j + 1) n) := by
  rw [Array.toList_setIfInBounds, h, be_byte, show c - j = (c - (j + 1)) + 1 by omega, List.replicate_succ', List.append_assoc, List.set_append_right _ _ (by simp; omega)]
  simp [beL, bv, show c - 1 - j - (c - (j + 1)) = 0 by omega]
theorem be_cell {wr : World} {g c j n : Nat} {e : TypeId} (hj : j < c) {cur : Array Value} (hg : wr.heap[g]? = some (.cells cur e (0, 0))) (h : cur.toList = List.replicate (c - j) (.int .u8 0) ++ bv (beL j n)) :
    wr.cell? ⟨g, c - 1 - j, none⟩ = some (.int .u8 0) ∧ wr.frozen? ⟨g, c - 1 - j, none⟩ = false := by
  constructor
  · rw [cell_of_row wr _ _ cur _ _ hg, ← Array.getElem?_toList, h, List.getElem?_append_left (by simp; omega), List.getElem?_replicate, if_pos (by omega)]
  · unfold World.frozen?; rw [hg]; simp

theorem make1 (w : World) : (Instr.makeSlice 29 (.int .i64 1) (.int .i64 1)).run Tryz.prog w =
    .ok (.slice (some ⟨w.heap.size, 0, none⟩) 1 1) (w.alloc (.cells (zeros 1) 5)) := by kernel_rfl

set_option maxRecDepth 100000 in
theorem put_ok1 (v : Value) (l : List UInt8) (n : Nat) (w : World) (h : (((n : Int) / 256) != 0) = false) (hv : Sl w v (bv l)) (hlen : l.length ≤ 1099511627776) :
    Calls Tryz.prog 115 #[v, .int .i64 8, .int .u64 n] w fun e w' => (∃ v', e = .returned (.tuple #[v', .int .i64 0]) ∧ Own w' w.heap.size 5 v' (bv (l ++ beL 1 n))) ∧ Below w.heap.size w w' := by
  obtain ⟨a0, c0, rfl⟩ := hv.len
  generalize (bv l).length = n0 at hv
  have H := Lib.hid hv
  clear hv
  have hmk := make1
  have hg1 := heap_alloc_new w (.cells (zeros 1) 5)
  have hb1 : Below w.heap.size w (w.alloc (.cells (zeros 1) 5)) := (Below.refl _ w).alloc (Nat.le_refl _) _
  have hs1 : w.heap.size < (w.alloc (.cells (zeros 1) 5)).heap.size := by simp
  go_enter Tryz.func115, Tryz.ntmps115
  go_wp2_with (go_at_call 146; refine (isSize_any _ _).mono ?_; rw [show isSize 8 = true from rfl]; rintro e w1 ⟨rfl, rfl⟩)
  clear hmk h
  generalize w.alloc (.cells (zeros 1) 5) = w1 at *
  go_loopw [24] (fun i wr => ∃ (j : Nat) (cur : Array Value), j ≤ 1 ∧ i = .int .i64 j ∧ wr.heap[w.heap.size]? = some (.cells cur 5 (0, 0)) ∧ cur.toList = List.replicate (1 - j) (.int .u8 0) ++ bv (beL j n) ∧ Below w.heap.size w wr) (fun i _ => 1 - (intOf i).toNat)
  case atStart => exact ⟨0, _, Nat.zero_le _, rfl, hg1, by simp [zeros, beL, bv], hb1⟩
  case round =>
    clear hg1 hb1 hs1
    obtain ⟨j, cur, hj, rfl, hg, hcur, hb⟩ := hrel
    by_cases hlt : j < 1
    · obtain rfl : j = 0 := by omega
      obtain ⟨hcell, hfr⟩ := be_cell hlt hg hcur
      have hset := be_set 1 0 n hlt cur hcur
      rw [show (n : Int) / 2 ^ (8 * 0) = n by simp] at hset
      simp only [show 1 - 1 - 0 = 0 from rfl] at hcell hfr hset
      have Hg := Lib.hid hg
      have Hset := Lib.hid hset
      clear hg hcur hset
      go_wp2
      go_roundw
      case rel => exact ⟨1, _, by omega, rfl, heap_setCell_at Hg.out _, Hset.out, hb.setCell (Nat.le_refl _) _⟩
      case measure => simp [intOf]
    · obtain rfl : j = 1 := by omega
      have ho : Own wr w.heap.size 5 (.slice (some ⟨w.heap.size, 0, none⟩) 1 1) (bv (beL 1 n)) := by
        have hl : (bv (beL 1 n)).length = 1 := by rw [bv_length, beL_len]
        have hcs : cur.size = 1 := by rw [← Array.length_toList, hcur]; simp [bv_length, beL_len]
        show wr.ownsRow _ _ 1 _ (bv (beL 1 n)).length _
        rw [hl]
        exact ⟨by rw [hl], .inr ⟨w.heap.size, 1, cur, rfl, Nat.le_refl _, hg, Nat.le_refl _, by unfold maxLen; omega, by rw [hcs], by rw [hcur]; simp; exact List.take_of_length_le (by rw [hl]; omega)⟩⟩
      have hl2 : l.length + (beL 1 n).length ≤ 2199023255552 := by rw [beL_len]; omega
      clear hg hcur
      go_wp2_with fail
      refine (concat_lit2 _ _ l _ _ (H.out.below hb) ho.sl hl2 _).mono ?_
      rintro e w2 ⟨⟨v2, rfl, ho2⟩, hb2⟩
      go_wp2
      go_ret2
      exact ⟨⟨v2, rfl, ho2.base hb.size⟩, hb.trans (hb2.mono hb.size)⟩

theorem make2 (w : World) : (Instr.makeSlice 29 (.int .i64 2) (.int .i64 2)).run Tryz.prog w =
    .ok (.slice (some ⟨w.heap.size, 0, none⟩) 2 2) (w.alloc (.cells (zeros 2) 5)) := by kernel_rfl

set_option maxRecDepth 100000 in
theorem put_ok2 (v : Value) (l : List UInt8) (n : Nat) (w : World) (h : (((n : Int) / 65536) != 0) = false) (hv : Sl w v (bv l)) (hlen : l.length ≤ 1099511627776) :
    Calls Tryz.prog 115 #[v, .int .i64 16, .int .u64 n] w fun e w' => (∃ v', e = .returned (.tuple #[v', .int .i64 0]) ∧ Own w' w.heap.size 5 v' (bv (l ++ beL 2 n))) ∧ Below w.heap.size w w' := by
  obtain ⟨a0, c0, rfl⟩ := hv.len
  generalize (bv l).length = n0 at hv
  have H := Lib.hid hv
  clear hv
  have hmk := make2
  have hg1 := heap_alloc_new w (.cells (zeros 2) 5)
  have hb1 : Below w.heap.size w (w.alloc (.cells (zeros 2) 5)) := (Below.refl _ w).alloc (Nat.le_refl _) _
  have hs1 : w.heap.size < (w.alloc (.cells (zeros 2) 5)).heap.size := by simp
  go_enter Tryz.func115, Tryz.ntmps115
  go_wp2_with (go_at_call 146; refine (isSize_any _ _).mono ?_; rw [show isSize 16 = true from rfl]; rintro e w1 ⟨rfl, rfl⟩)
  clear hmk h
  generalize w.alloc (.cells (zeros 2) 5) = w1 at *
  go_loopw [24] (fun i wr => ∃ (j : Nat) (cur : Array Value), j ≤ 2 ∧ i = .int .i64 j ∧ wr.heap[w.heap.size]? = some (.cells cur 5 (0, 0)) ∧ cur.toList = List.replicate (2 - j) (.int .u8 0) ++ bv (beL j n) ∧ Below w.heap.size w wr) (fun i _ => 2 - (intOf i).toNat)
  case atStart => exact ⟨0, _, Nat.zero_le _, rfl, hg1, by simp [zeros, beL, bv], hb1⟩
  case round =>
    clear hg1 hb1 hs1
    obtain ⟨j, cur, hj, rfl, hg, hcur, hb⟩ := hrel
    by_cases hlt : j < 2
    · obtain ⟨hcell, hfr⟩ := be_cell hlt hg hcur
      have hset := be_set 2 j n hlt cur hcur
      simp only [show 2 - 1 = 1 from rfl] at hcell hfr hset
      have Hg := Lib.hid hg
      have Hset := Lib.hid hset
      clear hg hcur hset
      go_wp2
      go_roundw
      case rel => exact ⟨j + 1, _, by omega, by go_num, heap_setCell_at Hg.out _, Hset.out, hb.setCell (Nat.le_refl _) _⟩
      case measure => simp [intOf]; omega
    · obtain rfl : j = 2 := by omega
      have ho : Own wr w.heap.size 5 (.slice (some ⟨w.heap.size, 0, none⟩) 2 2) (bv (beL 2 n)) := by
        have hl : (bv (beL 2 n)).length = 2 := by rw [bv_length, beL_len]
        have hcs : cur.size = 2 := by rw [← Array.length_toList, hcur]; simp [bv_length, beL_len]
        show wr.ownsRow _ _ 1 _ (bv (beL 2 n)).length _
        rw [hl]
        exact ⟨by rw [hl], .inr ⟨w.heap.size, 2, cur, rfl, Nat.le_refl _, hg, Nat.le_refl _, by unfold maxLen; omega, by rw [hcs], by rw [hcur]; simp; exact List.take_of_length_le (by rw [hl]; omega)⟩⟩
      have hl2 : l.length + (beL 2 n).length ≤ 2199023255552 := by rw [beL_len]; omega
      clear hg hcur
      go_wp2_with fail
      refine (concat_lit2 _ _ l _ _ (H.out.below hb) ho.sl hl2 _).mono ?_
      rintro e w2 ⟨⟨v2, rfl, ho2⟩, hb2⟩
      go_wp2
      go_ret2
      exact ⟨⟨v2, rfl, ho2.base hb.size⟩, hb.trans (hb2.mono hb.size)⟩

theorem make4 (w : World) : (Instr.makeSlice 29 (.int .i64 4) (.int .i64 4)).run Tryz.prog w =
    .ok (.slice (some ⟨w.heap.size, 0, none⟩) 4 4) (w.alloc (.cells (zeros 4) 5)) := by kernel_rfl

set_option maxRecDepth 100000 in
theorem put_ok4 (v : Value) (l : List UInt8) (n : Nat) (w : World) (h : (((n : Int) / 4294967296) != 0) = false) (hv : Sl w v (bv l)) (hlen : l.length ≤ 1099511627776) :
    Calls Tryz.prog 115 #[v, .int .i64 32, .int .u64 n] w fun e w' => (∃ v', e = .returned (.tuple #[v', .int .i64 0]) ∧ Own w' w.heap.size 5 v' (bv (l ++ beL 4 n))) ∧ Below w.heap.size w w' := by
  obtain ⟨a0, c0, rfl⟩ := hv.len
  generalize (bv l).length = n0 at hv
  have H := Lib.hid hv
  clear hv
  have hmk := make4
  have hg1 := heap_alloc_new w (.cells (zeros 4) 5)
  have hb1 : Below w.heap.size w (w.alloc (.cells (zeros 4) 5)) := (Below.refl _ w).alloc (Nat.le_refl _) _
  have hs1 : w.heap.size < (w.alloc (.cells (zeros 4) 5)).heap.size := by simp
  go_enter Tryz.func115, Tryz.ntmps115
  go_wp2_with (go_at_call 146; refine (isSize_any _ _).mono ?_; rw [show isSize 32 = true from rfl]; rintro e w1 ⟨rfl, rfl⟩)
  clear hmk h
  generalize w.alloc (.cells (zeros 4) 5) = w1 at *
  go_loopw [24] (fun i wr => ∃ (j : Nat) (cur : Array Value), j ≤ 4 ∧ i = .int .i64 j ∧ wr.heap[w.heap.size]? = some (.cells cur 5 (0, 0)) ∧ cur.toList = List.replicate (4 - j) (.int .u8 0) ++ bv (beL j n) ∧ Below w.heap.size w wr) (fun i _ => 4 - (intOf i).toNat)
  case atStart => exact ⟨0, _, Nat.zero_le _, rfl, hg1, by simp [zeros, beL, bv], hb1⟩
  case round =>
    clear hg1 hb1 hs1
    obtain ⟨j, cur, hj, rfl, hg, hcur, hb⟩ := hrel
    by_cases hlt : j < 4
    · obtain ⟨hcell, hfr⟩ := be_cell hlt hg hcur
      have hset := be_set 4 j n hlt cur hcur
      simp only [show 4 - 1 = 3 from rfl] at hcell hfr hset
      have Hg := Lib.hid hg
      have Hset := Lib.hid hset
      clear hg hcur hset
      go_wp2
      go_roundw
      case rel => exact ⟨j + 1, _, by omega, by go_num, heap_setCell_at Hg.out _, Hset.out, hb.setCell (Nat.le_refl _) _⟩
      case measure => simp [intOf]; omega
    · obtain rfl : j = 4 := by omega
      have ho : Own wr w.heap.size 5 (.slice (some ⟨w.heap.size, 0, none⟩) 4 4) (bv (beL 4 n)) := by
        have hl : (bv (beL 4 n)).length = 4 := by rw [bv_length, beL_len]
        have hcs : cur.size = 4 := by rw [← Array.length_toList, hcur]; simp [bv_length, beL_len]
        show wr.ownsRow _ _ 1 _ (bv (beL 4 n)).length _
        rw [hl]
        exact ⟨by rw [hl], .inr ⟨w.heap.size, 4, cur, rfl, Nat.le_refl _, hg, Nat.le_refl _, by unfold maxLen; omega, by rw [hcs], by rw [hcur]; simp; exact List.take_of_length_le (by rw [hl]; omega)⟩⟩
      have hl2 : l.length + (beL 4 n).length ≤ 2199023255552 := by rw [beL_len]; omega
      clear hg hcur
      go_wp2_with fail
      refine (concat_lit2 _ _ l _ _ (H.out.below hb) ho.sl hl2 _).mono ?_
      rintro e w2 ⟨⟨v2, rfl, ho2⟩, hb2⟩
      go_wp2
      go_ret2
      exact ⟨⟨v2, rfl, ho2.base hb.size⟩, hb.trans (hb2.mono hb.size)⟩

theorem make8 (w : World) : (Instr.makeSlice 29 (.int .i64 8) (.int .i64 8)).run Tryz.prog w =
    .ok (.slice (some ⟨w.heap.size, 0, none⟩) 8 8) (w.alloc (.cells (zeros 8) 5)) := by kernel_rfl

set_option maxRecDepth 100000 in
theorem put_ok8 (v : Value) (l : List UInt8) (n : Nat) (w : World) (h : (((n : Int) / 18446744073709551616) != 0) = false) (hv : Sl w v (bv l)) (hlen : l.length ≤ 1099511627776) :
    Calls Tryz.prog 115 #[v, .int .i64 64, .int .u64 n] w fun e w' => (∃ v', e = .returned (.tuple #[v', .int .i64 0]) ∧ Own w' w.heap.size 5 v' (bv (l ++ beL 8 n))) ∧ Below w.heap.size w w' := by
  obtain ⟨a0, c0, rfl⟩ := hv.len
  generalize (bv l).length = n0 at hv
  have H := Lib.hid hv
  clear hv
  have hmk := make8
  have hg1 := heap_alloc_new w (.cells (zeros 8) 5)
  have hb1 : Below w.heap.size w (w.alloc (.cells (zeros 8) 5)) := (Below.refl _ w).alloc (Nat.le_refl _) _
  have hs1 : w.heap.size < (w.alloc (.cells (zeros 8) 5)).heap.size := by simp
  go_enter Tryz.func115, Tryz.ntmps115
  go_wp2_with (go_at_call 146; refine (isSize_any _ _).mono ?_; rw [show isSize 64 = true from rfl]; rintro e w1 ⟨rfl, rfl⟩)
  clear hmk h
  generalize w.alloc (.cells (zeros 8) 5) = w1 at *
  go_loopw [24] (fun i wr => ∃ (j : Nat) (cur : Array Value), j ≤ 8 ∧ i = .int .i64 j ∧ wr.heap[w.heap.size]? = some (.cells cur 5 (0, 0)) ∧ cur.toList = List.replicate (8 - j) (.int .u8 0) ++ bv (beL j n) ∧ Below w.heap.size w wr) (fun i _ => 8 - (intOf i).toNat)
  case atStart => exact ⟨0, _, Nat.zero_le _, rfl, hg1, by simp [zeros, beL, bv], hb1⟩
  case round =>
    clear hg1 hb1 hs1
    obtain ⟨j, cur, hj, rfl, hg, hcur, hb⟩ := hrel
    by_cases hlt : j < 8
    · obtain ⟨hcell, hfr⟩ := be_cell hlt hg hcur
      have hset := be_set 8 j n hlt cur hcur
      simp only [show 8 - 1 = 7 from rfl] at hcell hfr hset
      have Hg := Lib.hid hg
      have Hset := Lib.hid hset
      clear hg hcur hset
      go_wp2
      go_roundw
      case rel => exact ⟨j + 1, _, by omega, by go_num, heap_setCell_at Hg.out _, Hset.out, hb.setCell (Nat.le_refl _) _⟩
      case measure => simp [intOf]; omega
    · obtain rfl : j = 8 := by omega
      have ho : Own wr w.heap.size 5 (.slice (some ⟨w.heap.size, 0, none⟩) 8 8) (bv (beL 8 n)) := by
        have hl : (bv (beL 8 n)).length = 8 := by rw [bv_length, beL_len]
        have hcs : cur.size = 8 := by rw [← Array.length_toList, hcur]; simp [bv_length, beL_len]
        show wr.ownsRow _ _ 1 _ (bv (beL 8 n)).length _
        rw [hl]
        exact ⟨by rw [hl], .inr ⟨w.heap.size, 8, cur, rfl, Nat.le_refl _, hg, Nat.le_refl _, by unfold maxLen; omega, by rw [hcs], by rw [hcur]; simp; exact List.take_of_length_le (by rw [hl]; omega)⟩⟩
      have hl2 : l.length + (beL 8 n).length ≤ 2199023255552 := by rw [beL_len]; omega
      clear hg hcur
      go_wp2_with fail
      refine (concat_lit2 _ _ l _ _ (H.out.below hb) ho.sl hl2 _).mono ?_
      rintro e w2 ⟨⟨v2, rfl, ho2⟩, hb2⟩
      go_wp2
      go_ret2
      exact ⟨⟨v2, rfl, ho2.base hb.size⟩, hb.trans (hb2.mono hb.size)⟩

/-- Put at a size that is one. -/
theorem put_ok (c : Nat) (hc : c = 1 ∨ c = 2 ∨ c = 4 ∨ c = 8) (v : Value) (l : List UInt8) (n : Nat) (w : World) (h : n < 256 ^ c) (hv : Sl w v (bv l)) (hlen : l.length ≤ 1099511627776) :
    Calls Tryz.prog 115 #[v, .int .i64 (8 * c : Nat), .int .u64 n] w fun e w' => (∃ v', e = .returned (.tuple #[v', .int .i64 0]) ∧ Own w' w.heap.size 5 v' (bv (l ++ beL c n))) ∧ Below w.heap.size w w' := by
  rcases hc with rfl | rfl | rfl | rfl
  · exact put_ok1 v l n w (by rw [bne_eq_false_iff_eq]; omega) hv hlen
  · exact put_ok2 v l n w (by rw [bne_eq_false_iff_eq]; omega) hv hlen
  · exact put_ok4 v l n w (by rw [bne_eq_false_iff_eq]; omega) hv hlen
  · exact put_ok8 v l n w (by rw [bne_eq_false_iff_eq]; omega) hv hlen
end Go.Proofs.YtafkbodmiblbnaaGreatDoor
/- Rotations and reversals, bit by bit: plain mathematics. -/
namespace Go.Proofs.YtafkbodmiblbnaaGreatDoor
open Go.RowKit

end Go.Proofs.YtafkbodmiblbnaaGreatDoor
