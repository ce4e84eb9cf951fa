/- The walk of BitsKnown. -/
import Derived.Test.YtlfccpmjlgcjpaaBitsReads
import Derived.Test.YtlfccpmjlgcjpaaBitsNil
import Derived.Test.YtlfccpmjlgcjpaaBitsWrites2
import Derived.Test.YtlfccpmjlgcjpaaBitsZig
namespace Go.Proofs.Ytlfccpmjlgcjpaa
open Go.RowKit
set_option linter.unusedVariables false
/-- A literal of integers in new memory. -/
theorem sl_ilit (w : World) (e : TypeId) (k : IntKind) (l : List Int) (cs : Array Value) (hc : cs.toList = iv k l) (h : l.length ≤ 1000) : Sl (w.alloc (.cells cs e)) (.slice (some ⟨w.heap.size, 0, none⟩) l.length l.length) (iv k l) := by
  refine .inl (.inr ⟨w.heap.size, 0, l.length, by rw [iv_length], by rw [iv_length]; omega, by unfold maxLen; omega, by simp, fun j u hj => ?_⟩)
  unfold World.cell?
  rw [show (w.alloc (.cells cs e)).heap[w.heap.size]? = some (.cells cs e (0, 0)) from heap_alloc_new w _]
  rw [← hc] at hj
  simpa using hj
theorem sl_heap {w w' : World} {v : Value} {xs : List Value} (h : Sl w v xs) (hh : w'.heap = w.heap) : Sl w' v xs := h.keep (by rw [hh]; exact Nat.le_refl _) fun b _ _ => by rw [hh]
/-- .. of bytes of the call's own. -/
theorem reads_any (v : Value) (m : List UInt8) (a2 : Option Addr) (c2 : Nat) (l : List Int) (w : World) (h : SlS w v (bv m)) (hl : m.length ≤ 1000) (h2 : Sl w (.slice a2 l.length c2) (iv .i64 l)) (hcl : l.length ≤ 60) :
    Calls Try.prog 37 #[v, .slice a2 l.length c2] w fun e w' => e = .returned (.bool true) ∧ Below w.heap.size w w' := by
  have hs := h.sl
  rcases h with ⟨rfl, hx⟩ | ⟨b, off, cap, rfl, h1, h2', h3, hc⟩
  · obtain rfl : m = [] := (bv_nil_iff m).1 hx
    exact reads_walk none 0 [] a2 c2 l w hs (by simp) hl h2 hcl
  · rw [bv_length] at h1 hs ⊢
    exact reads_walk _ cap m a2 c2 l w hs h1 hl h2 hcl
theorem reads_two (w : World) (n k : Nat) (m : List UInt8) (l : List Int) (cs ds : Array Value) (e1 e2 : TypeId) (hn : m.length = n) (hk : l.length = k) (hc : cs.toList = bv m) (hd : ds.toList = iv .i64 l) (hl : n ≤ 1000) (hcl : k ≤ 60) :
    Calls Try.prog 37 #[.slice (some ⟨w.heap.size, 0, none⟩) n n, .slice (some ⟨w.heap.size + 1, 0, none⟩) k k] ((w.alloc (.cells cs e1)).alloc (.cells ds e2)) fun e w' => e = .returned (.bool true) ∧ Below ((w.alloc (.cells cs e1)).alloc (.cells ds e2)).heap.size ((w.alloc (.cells cs e1)).alloc (.cells ds e2)) w' := by
  subst hn hk
  have h2 := sl_ilit (w.alloc (.cells cs e1)) e2 .i64 l ds hd (by omega)
  have h1 := (sl_lit w cs m hc hl e1).below ((Below.refl (w.alloc (.cells cs e1)).heap.size (w.alloc (.cells cs e1))).alloc (Nat.le_refl _) (.cells ds e2))
  rw [show (w.alloc (.cells cs e1)).heap.size = w.heap.size + 1 by simp] at h2
  exact reads_walk _ _ m _ _ l _ h1 (Nat.le_refl _) hl h2 hcl
/-- A reader that is none: nil, or one of nothing. -/
def NR (B : Nat) (w : World) (v : Value) (e : Int) : Prop := v = .pointer none ∨ ∃ g, v = .pointer (some ⟨g, 0, none⟩) ∧ Rd w g [] e ∧ B ≤ g
theorem nr_err (B : Nat) (v : Value) (w : World) (h : NR B w v 0) : Calls Try.prog 34 #[v] w fun r w' => r = .returned (.int .i64 0) ∧ w = w' := by
  rcases h with rfl | ⟨g, rfl, h, _⟩
  · exact nil_err w
  · exact err_any g [] 0 w h
theorem nr_end (B : Nat) (v : Value) (w : World) (h : NR B w v 0) : Calls Try.prog 35 #[v] w fun r w' => r = .returned (.int .i64 0) ∧ w = w' := by
  rcases h with rfl | ⟨g, rfl, h, _⟩
  · exact nil_end w
  · exact end_any g [] 0 w h
theorem nr_left (B : Nat) (v : Value) (w : World) (h : NR B w v 0) : Calls Try.prog 33 #[v] w fun r w' => r = .returned (.int .i64 0) ∧ w = w' := by
  rcases h with rfl | ⟨g, rfl, h, _⟩
  · exact nil_left w
  · exact left_any g [] 0 w h
theorem nr_num (B : Nat) (v : Value) (w : World) (hB : B ≤ w.heap.size) (h : NR B w v 0) : Calls Try.prog 29 #[v, .int .i64 8] w fun r w' => r = .returned (.int .u64 0) ∧ NR B w' v 3 ∧ Below B w w' := by
  rcases h with rfl | ⟨g, rfl, h, hg⟩
  · exact (nil_num w).mono fun r w' h => ⟨h.1, .inl rfl, h.2 ▸ Below.refl _ _⟩
  · exact (rnum_any g 8 [] 0 w h).mono fun r w' h => ⟨h.1, .inr ⟨g, rfl, h.2.1, hg⟩, h.2.2.below hg hB⟩
theorem nr_varint (B : Nat) (v : Value) (w : World) (hB : B ≤ w.heap.size) (h : NR B w v 3) : Calls Try.prog 30 #[v] w fun r w' => r = .returned (.int .u64 0) ∧ NR B w' v 3 ∧ Below B w w' := by
  rcases h with rfl | ⟨g, rfl, h, hg⟩
  · exact (nil_varint w).mono fun r w' h => ⟨h.1, .inl rfl, h.2 ▸ Below.refl _ _⟩
  · exact (rvarint_any g [] 3 w h).mono fun r w' h => ⟨h.1, .inr ⟨g, rfl, h.2.1, hg⟩, h.2.2.below hg hB⟩
theorem nr_int (B : Nat) (v : Value) (w : World) (hB : B ≤ w.heap.size) (h : NR B w v 3) : Calls Try.prog 31 #[v] w fun r w' => r = .returned (.int .i64 0) ∧ NR B w' v 3 ∧ Below B w w' := by
  rcases h with rfl | ⟨g, rfl, h, hg⟩
  · exact (nil_int w).mono fun r w' h => ⟨h.1, .inl rfl, h.2 ▸ Below.refl _ _⟩
  · exact (rint_any g [] 3 w h).mono fun r w' h => ⟨h.1, .inr ⟨g, rfl, h.2.1, hg⟩, h.2.2.below hg hB⟩
theorem nr_text (B : Nat) (v : Value) (w : World) (hB : B ≤ w.heap.size) (h : NR B w v 3) : Calls Try.prog 32 #[v] w fun r w' => r = .returned (.slice none 0 0) ∧ Below B w w' := by
  rcases h with rfl | ⟨g, rfl, h, hg⟩
  · exact (nil_text w).mono fun r w' h => ⟨h.1, h.2 ▸ Below.refl _ _⟩
  · exact (rtext_err g [] 3 w h (by decide)).mono fun r w' h => ⟨h.1, h.2.2.below hg hB⟩
theorem nr_keep {B : Nat} {w w' : World} {v : Value} {e : Int} (h : NR B w v e) (hb : Below w.heap.size w w') : NR B w' v e := by
  rcases h with rfl | ⟨g, rfl, h, hg⟩
  · exact .inl rfl
  · exact .inr ⟨g, rfl, h.keep hb, hg⟩
theorem nr_new (w : World) (B : Nat) (hB : B ≤ w.heap.size) : NR B (w.alloc (.cells #[.slice none 0 0, .int .i64 0] 52)) (.pointer (some ⟨w.heap.size, 0, none⟩)) 0 :=
  .inr ⟨_, rfl, ⟨_, heap_alloc_new w _, sls_nil _, fun _ h => by cases h⟩, hB⟩
set_option maxRecDepth 8000 in
set_option maxHeartbeats 2000000 in
theorem bknown_walk (w : World) : Calls Try.prog 8 #[] w fun e w' => e = .returned (.bool true) ∧ Below w.heap.size w w' := by
  go_enter Try.func8, Try.ntmps8
  go_wp2_with fail
  have hE : Sl (w.alloc (.cells #[.int .i64 (-9223372036854775808), .int .i64 (-65), .int .i64 (-64), .int .i64 (-1), .int .i64 0, .int .i64 1, .int .i64 7, .int .i64 8, .int .i64 16, .int .i64 32, .int .i64 63, .int .i64 64, .int .i64 65, .int .i64 9223372036854775807] 3)) (.slice (some ⟨w.heap.size, 0, none⟩) 14 14) (iv .i64 [-9223372036854775808, -65, -64, -1, 0, 1, 7, 8, 16, 32, 63, 64, 65, 9223372036854775807]) := sl_ilit w _ .i64 [-9223372036854775808, -65, -64, -1, 0, 1, 7, 8, 16, 32, 63, 64, 65, 9223372036854775807] _ rfl (by decide)
  have hb1 := (Below.refl w.heap.size w).alloc (Nat.le_refl _) (.cells #[.int .i64 (-9223372036854775808), .int .i64 (-65), .int .i64 (-64), .int .i64 (-1), .int .i64 0, .int .i64 1, .int .i64 7, .int .i64 8, .int .i64 16, .int .i64 32, .int .i64 63, .int .i64 64, .int .i64 65, .int .i64 9223372036854775807] 3)
  have hz1 : (w.alloc (.cells #[.int .i64 (-9223372036854775808), .int .i64 (-65), .int .i64 (-64), .int .i64 (-1), .int .i64 0, .int .i64 1, .int .i64 7, .int .i64 8, .int .i64 16, .int .i64 32, .int .i64 63, .int .i64 64, .int .i64 65, .int .i64 9223372036854775807] 3)).heap.size = w.heap.size + 1 := by simp
  obtain ⟨E, hEe⟩ : ∃ E : List Int, E = [-9223372036854775808, -65, -64, -1, 0, 1, 7, 8, 16, 32, 63, 64, 65, 9223372036854775807] := ⟨_, rfl⟩
  have hEl : E.length = 14 := by rw [hEe]; rfl
  have hEw : ∀ x ∈ E, I64 x := by rw [hEe]; unfold I64; decide
  rw [← hEe] at hE
  clear hEe
  generalize w.alloc (.cells #[.int .i64 (-9223372036854775808), .int .i64 (-65), .int .i64 (-64), .int .i64 (-1), .int .i64 0, .int .i64 1, .int .i64 7, .int .i64 8, .int .i64 16, .int .i64 32, .int .i64 63, .int .i64 64, .int .i64 65, .int .i64 9223372036854775807] 3) = W1 at *
  rw [← hz1]
  have hL : Sl (W1.alloc (.cells #[.int .u64 0, .int .u64 1, .int .u64 127, .int .u64 128, .int .u64 255, .int .u64 256, .int .u64 65535, .int .u64 65536, .int .u64 4294967295, .int .u64 4294967296, .int .u64 9223372036854775807, .int .u64 9223372036854775808, .int .u64 18446744073709551615] 23)) (.slice (some ⟨W1.heap.size, 0, none⟩) 13 13) (iv .u64 [0, 1, 127, 128, 255, 256, 65535, 65536, 4294967295, 4294967296, 9223372036854775807, 9223372036854775808, 18446744073709551615]) := sl_ilit W1 _ .u64 [0, 1, 127, 128, 255, 256, 65535, 65536, 4294967295, 4294967296, 9223372036854775807, 9223372036854775808, 18446744073709551615] _ rfl (by decide)
  have hb2 := (Below.refl W1.heap.size W1).alloc (Nat.le_refl _) (.cells #[.int .u64 0, .int .u64 1, .int .u64 127, .int .u64 128, .int .u64 255, .int .u64 256, .int .u64 65535, .int .u64 65536, .int .u64 4294967295, .int .u64 4294967296, .int .u64 9223372036854775807, .int .u64 9223372036854775808, .int .u64 18446744073709551615] 23)
  obtain ⟨L, hLe⟩ : ∃ L : List Int, L = [0, 1, 127, 128, 255, 256, 65535, 65536, 4294967295, 4294967296, 9223372036854775807, 9223372036854775808, 18446744073709551615] := ⟨_, rfl⟩
  have hLl : L.length = 13 := by rw [hLe]; rfl
  have hLw : ∀ x ∈ L, 0 ≤ x ∧ U64 x.toNat := by rw [hLe]; unfold U64; decide
  rw [← hLe] at hL
  clear hLe
  generalize W1.alloc (.cells #[.int .u64 0, .int .u64 1, .int .u64 127, .int .u64 128, .int .u64 255, .int .u64 256, .int .u64 65535, .int .u64 65536, .int .u64 4294967295, .int .u64 4294967296, .int .u64 9223372036854775807, .int .u64 9223372036854775808, .int .u64 18446744073709551615] 23) = W2 at *
  have hE2 := hE.below hb2
  have hb := below_step hb1 hb2
  obtain ⟨x1, hx1⟩ : ∃ x, x = w.heap.size := ⟨_, rfl⟩
  obtain ⟨x2, hx2⟩ : ∃ x, x = W1.heap.size := ⟨_, rfl⟩
  have hbW : ∀ wz, Below W2.heap.size W2 wz → Below w.heap.size w wz := fun wz h => below_step hb h
  have Hn := Lib.hid hbW
  rw [← hx1] at hE hE2 ⊢
  rw [← hx2] at hL ⊢
  clear hx1 hx2 hE hb1 hb2 hz1 hbW hb
  have HE : Hid (∀ (j : Nat), j < 14 → ∃ x : Int, I64 x ∧ ∀ (wz : World), Below W2.heap.size W2 wz → wz.cell? ⟨x1, j, none⟩ = some (.int .i64 x)) := Lib.hid fun j hj => ⟨_, hEw _ (List.getElem_mem (l := E) (n := j) (by omega)), fun wz hz => by have := hE2.cellAt (by omega) (iv_get .i64 E j (by omega)) hz; rwa [Nat.zero_add] at this⟩
  have HU : Hid (∀ (j : Nat), j < 13 → ∃ u : Nat, U64 u ∧ ∀ (wz : World), Below W2.heap.size W2 wz → wz.cell? ⟨x2, j, none⟩ = some (.int .u64 u)) := Lib.hid fun j hj => by
    have h2 := hLw _ (List.getElem_mem (l := L) (n := j) (by omega))
    obtain ⟨u, hu⟩ := Int.eq_ofNat_of_zero_le h2.1
    rw [hu] at h2
    refine ⟨u, by simpa using h2.2, fun wz hz => ?_⟩
    have h1 := hL.cellAt (by omega) (iv_get .u64 L j (by omega)) hz
    rw [Nat.zero_add, hu] at h1
    exact h1
  clear hL hE2 hLl hEl hEw hLw
  clear E L W1
  go_loopw [3] (fun i wr => ∃ k : Nat, k ≤ 14 ∧ i = .int .i64 k ∧ Below W2.heap.size W2 wr) (fun i _ => 14 - (intOf i).toNat)
  case atStart => exact ⟨0, by omega, rfl, Below.refl _ _⟩
  case round =>
    obtain ⟨k, hk, rfl, hz⟩ := hrel
    by_cases hk14 : k < 14
    · have hkd : decide ((k : Int) < 14) = true := decide_eq_true (by omega)
      go_wp2_with fail
      go_loopw [4] (fun i wr => ∃ j : Nat, j ≤ 13 ∧ i = .int .i64 j ∧ Below W2.heap.size W2 wr) (fun i _ => 13 - (intOf i).toNat)
      case atStart => exact ⟨0, by omega, rfl, hz⟩
      case round =>
        obtain ⟨j, hj, rfl, hy⟩ := hrel
        clear hz
        by_cases hj13 : j < 13
        · obtain ⟨x, hx, hcx⟩ := HE.out k (by omega)
          obtain ⟨m, hm⟩ : ∃ m : Nat, 13 - k = m := ⟨_, rfl⟩
          have hm14 : m < 14 := by omega
          have hs : IntKind.i64.wrap ((13 : Int) - (k : Int)) = (m : Int) := by rw [IntWalk.i64_in _ (by omega)]; omega
          have hs' : IntKind.i64.wrap (13 : Int) = 13 := by decide
          obtain ⟨y, hy', hcy⟩ := HE.out m hm14
          obtain ⟨u, hu, hcu⟩ := HU.out j (by omega)
          have HS : Hid (∀ (wz : World), Below W2.heap.size W2 wz → wz.cell? ⟨x1, k, none⟩ = some (.int .i64 x) ∧ wz.cell? ⟨x1, m, none⟩ = some (.int .i64 y) ∧ wz.cell? ⟨x2, j, none⟩ = some (.int .u64 u)) := Lib.hid fun wz hz => ⟨hcx wz hz, hcy wz hz, hcu wz hz⟩
          have HW : Hid (∀ wx : World, wx.heap = (wr.alloc (.cells #[.int .u8 7] 5)).heap → Calls Try.prog 3 #[.slice (some ⟨wr.heap.size, 0, none⟩) 1 1, .int .u64 u, .int .i64 x] wx fun e w' => e = .returned (.bool true) ∧ Below wx.heap.size wx w') :=
            Lib.hid fun wx hh => writes_all u x _ 1 [7] wx hu hx (sl_heap (sl_lit wr #[.int .u8 7] [7] rfl (by decide) _) hh) (by decide)
          have HZ : Hid (∀ wx : World, Calls Try.prog 5 #[.int .i64 x, .int .u64 u, .int .i64 y] wx fun e w' => e = .returned (.bool true) ∧ Below wx.heap.size wx w') := Lib.hid fun wx => zig_walk x u y wx hx hu hy'
          have HV : Hid (∀ wx : World, Calls Try.prog 13 #[.slice none 0 0, .int .u64 u] wx fun e w' => (∃ v', e = .returned v' ∧ Own w' wx.heap.size 5 v' (bv ([] ++ vint u))) ∧ Below wx.heap.size wx w') := Lib.hid fun wx => varint_any _ [] u wx (.inl (.inl ⟨rfl, rfl⟩)) hu (by decide)
          have HR : Hid (∀ (wx : World) (v : Value) (g : Nat), SlS wx v (bv ([] ++ vint u)) → Sl wx (.slice (some ⟨g, 0, none⟩) 3 3) (iv .i64 [4, 4, (k : Int)]) → Calls Try.prog 37 #[v, .slice (some ⟨g, 0, none⟩) 3 3] wx fun e w' => e = .returned (.bool true) ∧ Below wx.heap.size wx w') :=
            Lib.hid fun wx v g h1 h2 => reads_any v _ _ 3 [4, 4, (k : Int)] wx h1 (by have := vint_len u; simp; omega) h2 (by simp)
          have HY := Lib.hid hy
          have ⟨hcx0, hcy0, hcu0⟩ := HS.out _ hy
          have bk0 : (0 : Int) ≤ (k : Int) := by omega
          have bk1 : (k : Int) < 14 := by omega
          have bm0 : (0 : Int) ≤ (m : Int) := by omega
          have bm1 : (m : Int) < 14 := by omega
          have bj0 : (0 : Int) ≤ (j : Int) := by omega
          have bj1 : (j : Int) < 13 := by omega
          clear hcx hcy hcu hx hy' hu hy hm
          go_wp2_with fail
          go_region_held3 (fun w' => w'.cell? ⟨x1, k, none⟩ = some (.int .i64 x) ∧ w'.cell? ⟨x1, m, none⟩ = some (.int .i64 y) ∧ w'.cell? ⟨x2, j, none⟩ = some (.int .u64 u)) (go_keep) (first | (go_at_call 3; refine Calls.mono (HW.out _ (by exact rfl)) ?_; rintro r0 w3 ⟨rfl, hb3⟩; have HY3 := Lib.hid (below_step (below_alloc HY.out.drew _) hb3); have ⟨hcx3, hcy3, hcu3⟩ := HS.out _ HY3.out; clear hb3) | (go_at_call 5; refine Calls.mono (HZ.out _) ?_; rintro r0 w4 ⟨rfl, hb4⟩; have HY4 := Lib.hid (below_step HY3.out hb4); have ⟨hcx4, hcy4, hcu4⟩ := HS.out _ HY4.out; clear hb4) | (go_at_call 13; refine Calls.mono (HV.out _) ?_; rintro r0 w5 ⟨⟨v5, rfl, ho5⟩, hb5⟩; have HY5 := Lib.hid (below_step (by first | exact HY4.out | exact below_alloc HY4.out _) hb5); have ⟨hcx5, hcy5, hcu5⟩ := HS.out _ HY5.out) | (go_at_call 37; refine Calls.mono (HR.out _ _ _ (by first | exact ho5.sls | exact ho5.sls.below ((Below.refl _ _).alloc (Nat.le_refl _) _)) (by first | exact sl_ilit w5 _ .i64 [4, 4, (k : Int)] _ rfl (by simp) | exact (sl_ilit w4 _ .i64 [4, 4, (k : Int)] _ rfl (by simp)).below hb5)) ?_; rintro r0 w6 ⟨rfl, hb6⟩; have HY6 := Lib.hid (below_step (by first | exact HY5.out | exact below_alloc HY5.out _) hb6); have ⟨hcx6, hcy6, hcu6⟩ := HS.out _ HY6.out))
          all_goals
            have HYz : Hid (Below W2.heap.size W2 _) := HY6
            clear HW HZ HV HR hcx0 hcy0 hcu0 hs hs'
            go_wp2_with fail
            go_roundw
            case rel => exact ⟨j + 1, by omega, by go_num, HYz.out⟩
            case measure => simp [intOf]; omega
        · go_wp2_with fail
          go_roundw
          case rel => exact ⟨k + 1, by omega, by go_num, hy⟩
          case measure => simp [intOf]; omega
    · go_wp2_with fail
      have hN : Sl (wr.alloc (.cells #[.int .u8 255, .int .u8 255, .int .u8 255, .int .u8 255, .int .u8 255, .int .u8 255, .int .u8 255, .int .u8 255, .int .u8 255] 5)) (.slice (some ⟨wr.heap.size, 0, none⟩) 9 9) (bv [255, 255, 255, 255, 255, 255, 255, 255, 255]) := sl_lit wr _ [255, 255, 255, 255, 255, 255, 255, 255, 255] rfl (by decide) _
      have hb3 := Hn.out _ (below_alloc hz (.cells #[.int .u8 255, .int .u8 255, .int .u8 255, .int .u8 255, .int .u8 255, .int .u8 255, .int .u8 255, .int .u8 255, .int .u8 255] 5))
      obtain ⟨nine, hnine⟩ : ∃ l : List UInt8, l = [255, 255, 255, 255, 255, 255, 255, 255, 255] := ⟨_, rfl⟩
      have hnl : nine.length = 9 := by rw [hnine]; rfl
      rw [← hnine] at hN
      clear hnine HE HU hz Hn
      generalize wr.alloc (.cells #[.int .u8 255, .int .u8 255, .int .u8 255, .int .u8 255, .int .u8 255, .int .u8 255, .int .u8 255, .int .u8 255, .int .u8 255] 5) = W3 at *
      obtain ⟨x3, hx3⟩ : ∃ x, x = wr.heap.size := ⟨_, rfl⟩
      rw [← hx3] at hN ⊢
      clear hx3 hk14 hk
      have HN := Lib.hid hN
      have HB := Lib.hid hb3
      have HL := Lib.hid hnl
      clear hN hb3 hnl
      go_loopw [6] (fun i wr => ∃ c : Nat, c ≤ 256 ∧ i = .int .i64 c ∧ Below W3.heap.size W3 wr) (fun i _ => 256 - (intOf i).toNat)
      case atStart => exact ⟨0, by omega, rfl, Below.refl _ _⟩
      case round =>
        obtain ⟨c, hc, rfl, hy⟩ := hrel
        by_cases hc256 : c < 256
        · obtain ⟨b, rfl⟩ : ∃ b : UInt8, c = b.toNat := ⟨UInt8.ofNat c, by simp; omega⟩
          have HY := Lib.hid hy
          clear hy
          go_wp2_with fail
          refine (copyBytes_any _ nine _ (HN.out.below HY.out) (by rw [HL.out]; decide)).mono ?_
          rintro r0 w1 ⟨⟨v1, rfl, ho1⟩, hb1⟩
          have hba := hb1.alloc (hb1.size) (.cells #[.int .u8 b.toNat] 5)
          obtain ⟨v2, w2, hr2, ho2, hg2, _⟩ := append8 (ty := 22) (ho1.below ((Below.refl w1.heap.size w1).alloc (Nat.le_refl _) (.cells #[.int .u8 b.toNat] 5))) (sl_lit w1 #[.int .u8 b.toNat] [b] rfl (by simp) 5) (by rw [HL.out]; simp) (by have := hb1.size; simp; omega)
          have HY2 := Lib.hid (below_step HY.out (hba.trans (below_grown hg2 hba.size (by intro k hk; exact (ho1.lt k hk).1))))
          have Hr2 := Lib.hid hr2
          have HO2 := Lib.hid ho2
          clear hba hr2 hg2 hb1 ho1 ho2
          go_wp2_with (at_builtin; refine wpList_append_run rfl _ _ _ _ rfl rfl rfl Hr2.out ?_)
          refine (reads_any _ _ _ 1 [4] _ (HO2.out.sls.below ((Below.refl _ _).alloc (Nat.le_refl _) _)) (by have := HL.out; simp; omega) (sl_ilit w2 _ .i64 [4] _ rfl (by decide)) (by decide)).mono ?_
          rintro r0 w3 ⟨rfl, hb3⟩
          have HY3 := Lib.hid (below_step (below_alloc HY2.out _) hb3)
          clear hb3 HY2 Hr2 HO2 HY
          go_wp2_with fail
          refine (reads_two w3 3 3 [b, 0, 1] [6, 7, 0] _ _ _ _ rfl rfl rfl rfl (by decide) (by decide)).mono ?_
          rintro r0 w4 ⟨rfl, hb4⟩
          have HY4 := Lib.hid (below_step (below_alloc (below_alloc HY3.out _) _) hb4)
          clear hb4 HY3
          go_wp2_with fail
          refine (reads_two w4 2 2 [255, b] [4, 0] _ _ _ _ rfl rfl rfl rfl (by decide) (by decide)).mono ?_
          rintro r0 w5 ⟨rfl, hb5⟩
          have HY5 := Lib.hid (below_step (below_alloc (below_alloc HY4.out _) _) hb5)
          clear hb5 HY4
          go_wp2_with fail
          go_roundw
          case rel => exact ⟨b.toNat + 1, by omega, by go_num, HY5.out⟩
          case measure => simp [intOf]; omega
        · clear HN HL
          go_wp2_with fail
          have HY := Lib.hid (below_step HB.out hy)
          clear HB hy
          go_loopw [7, 8] (fun v i wz => ∃ k : Nat, k ≤ 2 ∧ i = .int .i64 k ∧ NR w.heap.size wz v 0 ∧ Below w.heap.size w wz) (fun _ i _ => 2 - (intOf i).toNat)
          case atStart => exact ⟨0, by omega, rfl, .inl rfl, HY.out⟩
          case round =>
            obtain ⟨k, hk, rfl, hv, hy⟩ := hrel
            have HV := Lib.hid hv
            have HZ := Lib.hid hy
            have HS0 := Lib.hid hy.size
            clear hv hy
            by_cases hk2 : k < 2
            · go_wp2_with (first | (go_at_call 34; refine (nr_err _ _ _ HV.out).mono ?_; rintro r0 w1 ⟨rfl, rfl⟩) | (go_at_call 35; refine (nr_end _ _ _ HV.out).mono ?_; rintro r0 w1 ⟨rfl, rfl⟩) | (go_at_call 33; refine (nr_left _ _ _ HV.out).mono ?_; rintro r0 w1 ⟨rfl, rfl⟩))
              refine (nr_num _ _ _ HS0.out HV.out).mono ?_
              rintro r0 w1 ⟨rfl, hv1, hb1⟩
              have HZ1 := Lib.hid (HZ.out.trans hb1)
              have HV1 := Lib.hid hv1
              clear hv1 hb1 HV HZ HS0
              go_wp2_with fail
              refine (nr_varint _ _ _ HZ1.out.size HV1.out).mono ?_
              rintro r0 w2 ⟨rfl, hv1, hb1⟩
              have HZ2 := Lib.hid (HZ1.out.trans hb1)
              have HV2 := Lib.hid hv1
              clear hv1 hb1 HV1 HZ1
              go_wp2_with fail
              refine (nr_int _ _ _ HZ2.out.size HV2.out).mono ?_
              rintro r0 w3 ⟨rfl, hv1, hb1⟩
              have HZ3 := Lib.hid (HZ2.out.trans hb1)
              have HV3 := Lib.hid hv1
              clear hv1 hb1 HV2 HZ2
              go_wp2_with fail
              refine (nr_text _ _ _ HZ3.out.size HV3.out).mono ?_
              rintro r0 w4 ⟨rfl, hb1⟩
              have HZ4 := Lib.hid (HZ3.out.trans hb1)
              clear hb1 HV3 HZ3
              go_wp2_with fail
              go_roundw
              case rel => exact ⟨k + 1, by omega, by go_num, nr_new _ _ HZ4.out.size, below_alloc HZ4.out _⟩
              case measure => simp [intOf]; omega
            · go_wp2_with fail
              refine (works_any _).mono ?_
              rintro r0 w1 ⟨rfl, hb1⟩
              have HZ1 := Lib.hid (below_step HZ.out hb1)
              have HV1 := Lib.hid (nr_keep HV.out hb1)
              clear hb1 HZ HV HS0
              go_wp2_with (go_at_call 34; refine (nr_err _ _ _ HV1.out).mono ?_; rintro r0 w1 ⟨rfl, rfl⟩)
              go_ret
              exact ⟨rfl, HZ1.out⟩
end Go.Proofs.Ytlfccpmjlgcjpaa
