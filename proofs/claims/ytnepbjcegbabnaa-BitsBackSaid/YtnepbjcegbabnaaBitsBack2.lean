/- The walk of BitsBack, where the tail is longer than a hundred bytes. -/
import Derived.Test.YtnepbjcegbabnaaBitsBack
namespace Go.Proofs.Ytnepbjcegbabnaa
open Go.RowKit
set_option linter.unusedVariables false

set_option maxHeartbeats 2000000 in
set_option maxRecDepth 100000 in
theorem back_walk100 (u : Nat) (n : Int) (a : Option Addr) (c : Nat) (m0 : List UInt8) (w : World) (hu : U64 u) (hn : I64 n) (h0 : Sl w (.slice a m0.length c) (bv m0)) (hlc : m0.length ≤ c) (hl0 : 100 < m0.length) :
    Calls Try.prog 4 #[.int .u64 u, .int .i64 n, .slice a m0.length c] w fun e w' => e = .returned (.bool true) ∧ Below w.heap.size w w' := by
  obtain ⟨m, hm, h⟩ : ∃ m : List UInt8, m.length = 100 ∧ Sl w (.slice a 100 c) (bv m) := ⟨m0.take 100, by rw [List.length_take]; omega, sl_pre h0 (by omega)⟩
  have Hm := Lib.hid hm
  have hl : m.length ≤ 100 := by omega
  have H := Lib.hid h
  have Hu := Lib.hid hu
  clear h hu h0 hm
  go_enter Try.func4, Try.ntmps4
  go_wp2_with fail
  refine (works_any _).mono ?_
  rintro r0 w1 ⟨rfl, hb1⟩
  have hz := szs_made w1 3
  have hb2 := below_alloc hb1 (.cells #[.int .i64 8, .int .i64 16, .int .i64 32, .int .i64 64] 3)
  go_wp2_with fail
  go_loopw [7, 9] (fun v i wr => ∃ j : Nat, j ≤ 4 ∧ i = .int .i64 j ∧ Sl wr v (bv (bpre u j)) ∧ Szs wr w1.heap.size ∧ Below w.heap.size w wr) (fun _ i _ => 4 - (intOf i).toNat)
  case atStart => exact ⟨0, by omega, rfl, sl_nil _, hz, hb2⟩
  case round =>
    clear hz hb2
    obtain ⟨j, hj, rfl, hs, hz, hb⟩ := hrel
    by_cases hj4 : j < 4
    · obtain ⟨av, cv, rfl⟩ := hs.len
      have hzj := hz j hj4
      rw [bv_length] at hs ⊢
      have hpl := bpre_len u j hj
      obtain ⟨x, hx⟩ : ∃ x : Nat, x = u / 2 ^ (64 - 8 * szc j) := ⟨_, rfl⟩
      have hxl : x < 256 ^ szc j := by rw [hx]; exact fld_lt u Hu.out j
      have hpc := fun (wx : World) (h : wx.heap = wr.heap) => put_ok (szc j) (szc_or j) (.slice av (bpre u j).length cv) (bpre u j) x wx hxl (hs.keep (by rw [h]; exact Nat.le_refl _) (fun b _ _ => by rw [h])) (by omega)
      have hnext : bpre u (j + 1) = bpre u j ++ beL (szc j) x := by rw [hx]; rfl
      have HN := Lib.hid hnext
      have HP := Lib.hid hpc
      have Hs := Lib.hid hs
      have Hz := Lib.hid hz
      clear hpc hs hz hxl hnext
      obtain rfl | rfl | rfl | rfl : j = 0 ∨ j = 1 ∨ j = 2 ∨ j = 3 := by omega
      · have hK : ((u : Int) / 72057594037927936) = (x : Int) := by rw [hx]; simp [szc]
        simp only [szc] at hzj
        have hzlt := World.block_lt_of_cell? wr _ hzj
        have HP' : Hid (∀ wx : World, wx.heap = wr.heap → Calls Try.prog 10 #[.slice av (bpre u 0).length cv, .int .i64 8, .int .u64 x] wx fun e w' => (∃ v', e = .returned (.tuple #[v', .int .i64 0]) ∧ Own w' wx.heap.size 5 v' (bv (bpre u 0 ++ beL (szc 0) x))) ∧ Below wx.heap.size wx w') := Lib.hid (fun wx h => HP.out wx h)
        have hw : IntKind.i64.wrap 56 = 56 := by decide
        have hq : ((8 : Int)).tdiv 8 = 1 := by decide
        clear hx
        go_wp2_with fail
        go_region_held3 (fun w' => w'.cell? ⟨w1.heap.size, 0, none⟩ = some (.int .i64 8)) (go_keep) (first | (go_at_call 10; refine Calls.mono (HP'.out _ (by exact rfl)) ?_; rintro e wx ⟨⟨v', rfl, ho⟩, hbx⟩; have hzx := (hbx.cell (p := ⟨w1.heap.size, 0, none⟩) hzlt).trans hzj))
        obtain ⟨a', c', hv'⟩ : ∃ a' c', v' = .slice a' ((bpre u 0).length + 1) c' := by
          obtain ⟨a', c', h⟩ := ho.sl.len
          rw [bv_length, List.length_append, beL_len] at h
          exact ⟨a', c', h⟩
        subst hv'
        have hzx' : wx.cell? ⟨w1.heap.size, 0, none⟩ = some (.int .i64 8) := hzx
        have hbr : Below wr.heap.size wr wx := ((Below.refl wr.heap.size wr).drew).trans hbx
        have hbx2 : Below w.heap.size w wx := hb.trans (hbr.mono hb.size)
        have hsx : Sl wx (.slice a' ((bpre u 0).length + 1) c') (bv (bpre u (0 + 1))) := by rw [HN.out]; exact ho.sl
        have hzz := Hz.out.below hbr
        have Hsx := Lib.hid hsx
        have Hzz := Lib.hid hzz
        clear hzx hsx hzz ho hbx hbr hK hw
        go_wp2_with fail
        go_roundw
        case rel => exact ⟨0 + 1, by omega, rfl, Hsx.out, Hzz.out, hbx2⟩
        case measure => simp [intOf]
      · have hK : ((u : Int) / 281474976710656) = (x : Int) := by rw [hx]; simp [szc]
        simp only [szc] at hzj
        have hzlt := World.block_lt_of_cell? wr _ hzj
        have HP' : Hid (∀ wx : World, wx.heap = wr.heap → Calls Try.prog 10 #[.slice av (bpre u 1).length cv, .int .i64 16, .int .u64 x] wx fun e w' => (∃ v', e = .returned (.tuple #[v', .int .i64 0]) ∧ Own w' wx.heap.size 5 v' (bv (bpre u 1 ++ beL (szc 1) x))) ∧ Below wx.heap.size wx w') := Lib.hid (fun wx h => HP.out wx h)
        have hw : IntKind.i64.wrap 48 = 48 := by decide
        have hq : ((16 : Int)).tdiv 8 = 2 := by decide
        clear hx
        go_wp2_with fail
        go_region_held3 (fun w' => w'.cell? ⟨w1.heap.size, 1, none⟩ = some (.int .i64 16)) (go_keep) (first | (go_at_call 10; refine Calls.mono (HP'.out _ (by exact rfl)) ?_; rintro e wx ⟨⟨v', rfl, ho⟩, hbx⟩; have hzx := (hbx.cell (p := ⟨w1.heap.size, 1, none⟩) hzlt).trans hzj))
        obtain ⟨a', c', hv'⟩ : ∃ a' c', v' = .slice a' ((bpre u 1).length + 2) c' := by
          obtain ⟨a', c', h⟩ := ho.sl.len
          rw [bv_length, List.length_append, beL_len] at h
          exact ⟨a', c', h⟩
        subst hv'
        have hzx' : wx.cell? ⟨w1.heap.size, 1, none⟩ = some (.int .i64 16) := hzx
        have hbr : Below wr.heap.size wr wx := ((Below.refl wr.heap.size wr).drew).trans hbx
        have hbx2 : Below w.heap.size w wx := hb.trans (hbr.mono hb.size)
        have hsx : Sl wx (.slice a' ((bpre u 1).length + 2) c') (bv (bpre u (1 + 1))) := by rw [HN.out]; exact ho.sl
        have hzz := Hz.out.below hbr
        have Hsx := Lib.hid hsx
        have Hzz := Lib.hid hzz
        clear hzx hsx hzz ho hbx hbr hK hw
        go_wp2_with fail
        go_roundw
        case rel => exact ⟨1 + 1, by omega, rfl, Hsx.out, Hzz.out, hbx2⟩
        case measure => simp [intOf]
      · have hK : ((u : Int) / 4294967296) = (x : Int) := by rw [hx]; simp [szc]
        simp only [szc] at hzj
        have hzlt := World.block_lt_of_cell? wr _ hzj
        have HP' : Hid (∀ wx : World, wx.heap = wr.heap → Calls Try.prog 10 #[.slice av (bpre u 2).length cv, .int .i64 32, .int .u64 x] wx fun e w' => (∃ v', e = .returned (.tuple #[v', .int .i64 0]) ∧ Own w' wx.heap.size 5 v' (bv (bpre u 2 ++ beL (szc 2) x))) ∧ Below wx.heap.size wx w') := Lib.hid (fun wx h => HP.out wx h)
        have hw : IntKind.i64.wrap 32 = 32 := by decide
        have hq : ((32 : Int)).tdiv 8 = 4 := by decide
        clear hx
        go_wp2_with fail
        go_region_held3 (fun w' => w'.cell? ⟨w1.heap.size, 2, none⟩ = some (.int .i64 32)) (go_keep) (first | (go_at_call 10; refine Calls.mono (HP'.out _ (by exact rfl)) ?_; rintro e wx ⟨⟨v', rfl, ho⟩, hbx⟩; have hzx := (hbx.cell (p := ⟨w1.heap.size, 2, none⟩) hzlt).trans hzj))
        obtain ⟨a', c', hv'⟩ : ∃ a' c', v' = .slice a' ((bpre u 2).length + 4) c' := by
          obtain ⟨a', c', h⟩ := ho.sl.len
          rw [bv_length, List.length_append, beL_len] at h
          exact ⟨a', c', h⟩
        subst hv'
        have hzx' : wx.cell? ⟨w1.heap.size, 2, none⟩ = some (.int .i64 32) := hzx
        have hbr : Below wr.heap.size wr wx := ((Below.refl wr.heap.size wr).drew).trans hbx
        have hbx2 : Below w.heap.size w wx := hb.trans (hbr.mono hb.size)
        have hsx : Sl wx (.slice a' ((bpre u 2).length + 4) c') (bv (bpre u (2 + 1))) := by rw [HN.out]; exact ho.sl
        have hzz := Hz.out.below hbr
        have Hsx := Lib.hid hsx
        have Hzz := Lib.hid hzz
        clear hzx hsx hzz ho hbx hbr hK hw
        go_wp2_with fail
        go_roundw
        case rel => exact ⟨2 + 1, by omega, rfl, Hsx.out, Hzz.out, hbx2⟩
        case measure => simp [intOf]
      · obtain rfl : u = x := by rw [hx]; simp [szc]
        clear hx
        simp only [szc] at hzj
        have hzlt := World.block_lt_of_cell? wr _ hzj
        have HP' : Hid (∀ wx : World, wx.heap = wr.heap → Calls Try.prog 10 #[.slice av (bpre u 3).length cv, .int .i64 64, .int .u64 u] wx fun e w' => (∃ v', e = .returned (.tuple #[v', .int .i64 0]) ∧ Own w' wx.heap.size 5 v' (bv (bpre u 3 ++ beL (szc 3) u))) ∧ Below wx.heap.size wx w') := Lib.hid (fun wx h => HP.out wx h)
        have hw : IntKind.i64.wrap 0 = 0 := by decide
        have hq : ((64 : Int)).tdiv 8 = 8 := by decide
        go_wp2_with fail
        go_region_held3 (fun w' => w'.cell? ⟨w1.heap.size, 3, none⟩ = some (.int .i64 64)) (go_keep) (first | (go_at_call 10; refine Calls.mono (HP'.out _ (by exact rfl)) ?_; rintro e wx ⟨⟨v', rfl, ho⟩, hbx⟩; have hzx := (hbx.cell (p := ⟨w1.heap.size, 3, none⟩) hzlt).trans hzj))
        obtain ⟨a', c', hv'⟩ : ∃ a' c', v' = .slice a' ((bpre u 3).length + 8) c' := by
          obtain ⟨a', c', h⟩ := ho.sl.len
          rw [bv_length, List.length_append, beL_len] at h
          exact ⟨a', c', h⟩
        subst hv'
        have hzx' : wx.cell? ⟨w1.heap.size, 3, none⟩ = some (.int .i64 64) := hzx
        have hbr : Below wr.heap.size wr wx := ((Below.refl wr.heap.size wr).drew).trans hbx
        have hbx2 : Below w.heap.size w wx := hb.trans (hbr.mono hb.size)
        have hsx : Sl wx (.slice a' ((bpre u 3).length + 8) c') (bv (bpre u (3 + 1))) := by rw [HN.out]; exact ho.sl
        have hzz := Hz.out.below hbr
        have Hsx := Lib.hid hsx
        have Hzz := Lib.hid hzz
        clear hzx hsx hzz ho hbx hbr hw
        go_wp2_with fail
        go_roundw
        case rel => exact ⟨3 + 1, by omega, rfl, Hsx.out, Hzz.out, hbx2⟩
        case measure => simp [intOf]
    · obtain rfl : j = 4 := by omega
      obtain ⟨av, cv, rfl⟩ := hs.len
      have Hs := Lib.hid hs
      have Hz := Lib.hid hz
      clear hs hz
      have hp4 : (bpre u 4).length ≤ 100 := bpre_len u 4 (by omega)
      have hv1 := vint_len u
      have hv2 := vint_len (zig n)
      have hv3 := vint_len m.length
      go_wp2_with fail
      refine (varint_any _ (bpre u 4) u _ Hs.out Hu.out (by omega)).mono ?_
      rintro r0 w2 ⟨⟨v2, rfl, ho2⟩, hb2⟩
      have hbw := below_step hb hb2
      have hzz := Hz.out.below hb2
      have Ho := Lib.hid ho2.sl
      clear ho2 hb2 hb Hs Hz
      go_wp2_with fail
      refine (int_any _ (bpre u 4 ++ vint u) n _ Ho.out hn (by simp; omega)).mono ?_
      rintro r0 w3 ⟨⟨v3, rfl, ho3⟩, hb3⟩
      have hbw := below_step hbw hb3
      have hzz := hzz.below hb3
      have Ho3 := Lib.hid ho3.sl
      clear ho3 hb3 Ho
      go_wp2_with fail
      refine (text_any _ _ (bpre u 4 ++ vint u ++ vint (zig n)) m _ Ho3.out (H.out.keep hbw.size (fun b _ hlt => hbw.block b hlt)) (by simp; omega)).mono ?_
      rintro r0 w4 ⟨⟨v4, rfl, ho4⟩, hb4⟩
      have hbw := below_step hbw hb4
      have hzz := hzz.below hb4
      have hlt4 := World.block_lt_of_cell? w4 _ (hzz 0 (by omega))
      have Ho4 := Lib.hid ho4.sl
      clear ho4 hb4 Ho3
      go_wp2_with fail
      refine (copyBytes_any _ (bpre u 4 ++ vint u ++ vint (zig n) ++ vint m.length ++ m) _ Ho4.out (by simp; omega)).mono ?_
      rintro r0 w5 ⟨⟨v5, rfl, ho5⟩, hb5⟩
      have hbw5 := below_step hbw hb5
      have hzz := hzz.below hb5
      obtain ⟨v6, w6, hr6, ho6, hg6, _⟩ := append8 (ty := 22) ho5 (H.out.keep hbw5.size (fun b _ hlt => hbw5.block b hlt)) (by simp; omega) hb5.size
      have hb6 : Below w4.heap.size w5 w6 := below_grown hg6 hb5.size (fun k hk => (ho5.lt k hk).1)
      have hbw6 : Below w.heap.size w w6 := hbw5.trans (hb6.mono hbw.size)
      have hz6 : Szs w6 w1.heap.size := fun j hj => by
        have h1 := hzz j hj
        rw [hb6.cell (p := ⟨w1.heap.size, j, none⟩) hlt4]; exact h1
      have H6 := Lib.hid hr6
      have Ho6 := Lib.hid ho6.sl
      clear ho5 hb5 hr6 ho6 hg6 hb6 Ho4
      go_wp2_with (at_builtin; refine wpList_append_run rfl _ _ _ _ rfl rfl rfl H6.out ?_)
      refine (read_any _ (bpre u 4 ++ vint u ++ vint (zig n) ++ vint m.length ++ m ++ m) _ Ho6.out (by simp; omega)).mono ?_
      rintro r0 w7 ⟨⟨g, rfl, hg, hr7⟩, hb7⟩
      have hne : w1.heap.size ≠ g := by
        have h6 : w1.heap.size < w6.heap.size := World.block_lt_of_cell? w6 _ (hz6 0 (by omega))
        omega
      have hbw7 := below_step hbw6 hb7
      have hz7 := hz6.below hb7
      have hgw : w.heap.size ≤ g := Nat.le_trans hbw6.size hg
      have hT : bpre u 4 ++ vint u ++ vint (zig n) ++ vint m.length ++ m ++ m = bsuf u (vint u ++ (vint (zig n) ++ (vint m.length ++ (m ++ m)))) 4 := by rw [bsuf_all]; simp
      rw [hT] at hr7
      clear hT H6 Ho6 hb7 hz6 hzz hbw6 hbw5 hbw hb1 hp4 hv1 hv2 hv3 hlt4
      go_wp2_with fail
      go_loopw [13] (fun i wr => ∃ k : Nat, k ≤ 4 ∧ i = .int .i64 ((4 - k : Nat) : Int) ∧ Rd wr g (bsuf u (vint u ++ (vint (zig n) ++ (vint m.length ++ (m ++ m)))) k) 0 ∧ Szs wr w1.heap.size ∧ Below w.heap.size w wr) (fun i _ => 4 - (intOf i).toNat)
      case atStart => exact ⟨4, by omega, rfl, hr7, hz7, hbw7⟩
      case round =>
        clear hr7 hz7 hbw7
        obtain ⟨k, hk, rfl, hr, hz, hb⟩ := hrel
        have Hr := Lib.hid hr
        have Hz := Lib.hid hz
        clear hr hz
        obtain rfl | rfl | rfl | rfl | rfl : k = 4 ∨ k = 3 ∨ k = 2 ∨ k = 1 ∨ k = 0 := by omega
        · have hzj : wr.cell? ⟨w1.heap.size, 0, none⟩ = some (Value.int .i64 8) := Hz.out 0 (by omega)
          have hnum : ∀ wx : World, wx.heap = wx.heap → True := fun _ _ => trivial
          have hN : rdN 1 (bsuf u (vint u ++ (vint (zig n) ++ (vint m.length ++ (m ++ m)))) 4) = (u / 2 ^ (64 - 8 * 1), bsuf u (vint u ++ (vint (zig n) ++ (vint m.length ++ (m ++ m)))) 3, 0) := rdN_beL 1 _ _ (fld_lt u Hu.out 0)
          have hK : ((u / 2 ^ (64 - 8 * 1) : Nat) : Int) = ((u : Int) / 72057594037927936) := by simp
          have hpc : Hid (∀ wx : World, Rd wx g (bsuf u (vint u ++ (vint (zig n) ++ (vint m.length ++ (m ++ m)))) 4) 0 → Calls Try.prog 29 #[.pointer (some ⟨g, 0, none⟩), .int .i64 8] wx fun r w' => r = .returned (.int .u64 ((u : Int) / 72057594037927936)) ∧ Rd w' g (bsuf u (vint u ++ (vint (zig n) ++ (vint m.length ++ (m ++ m)))) 3) 0 ∧ Upd g wx w') := Lib.hid (fun wx h => by
            have := rnum1 g _ wx h
            rw [hN] at this
            dsimp only at this
            rw [hK] at this
            exact this)
          have hw : IntKind.i64.wrap 56 = 56 := by decide
          clear hN hK hnum
          go_wp2_with fail
          go_region_held3 (fun w' => w'.cell? ⟨w1.heap.size, 0, none⟩ = some (.int .i64 8)) (go_keep) (first | (go_at_call 29; refine Calls.mono (hpc.out _ (by exact Hr.out)) ?_; rintro r0 wx ⟨rfl, hrx, hux⟩; have hzx := (World.cell?_of_block (a := ⟨w1.heap.size, 0, none⟩) (hux.block _ (World.block_lt_of_cell? _ _ hzj) hne)).trans hzj))
          have hur : Upd g wr wx := ((Upd.refl g wr).drew).trans hux
          have hzz := Hz.out.upd hur hne
          have hbb : Below w.heap.size w wx := hb.trans (hur.below hgw hb.size)
          have Hrx := Lib.hid hrx
          have Hzz := Lib.hid hzz
          clear hrx hzz hux hur hpc hw hb hzj
          go_wp2_with fail
          go_roundw
          case rel => exact ⟨3, by omega, rfl, Hrx.out, Hzz.out, hbb⟩
          case measure => simp [intOf]
        · have hzj : wr.cell? ⟨w1.heap.size, 1, none⟩ = some (Value.int .i64 16) := Hz.out 1 (by omega)
          have hnum : ∀ wx : World, wx.heap = wx.heap → True := fun _ _ => trivial
          have hN : rdN 2 (bsuf u (vint u ++ (vint (zig n) ++ (vint m.length ++ (m ++ m)))) 3) = (u / 2 ^ (64 - 8 * 2), bsuf u (vint u ++ (vint (zig n) ++ (vint m.length ++ (m ++ m)))) 2, 0) := rdN_beL 2 _ _ (fld_lt u Hu.out 1)
          have hK : ((u / 2 ^ (64 - 8 * 2) : Nat) : Int) = ((u : Int) / 281474976710656) := by simp
          have hpc : Hid (∀ wx : World, Rd wx g (bsuf u (vint u ++ (vint (zig n) ++ (vint m.length ++ (m ++ m)))) 3) 0 → Calls Try.prog 29 #[.pointer (some ⟨g, 0, none⟩), .int .i64 16] wx fun r w' => r = .returned (.int .u64 ((u : Int) / 281474976710656)) ∧ Rd w' g (bsuf u (vint u ++ (vint (zig n) ++ (vint m.length ++ (m ++ m)))) 2) 0 ∧ Upd g wx w') := Lib.hid (fun wx h => by
            have := rnum2 g _ wx h
            rw [hN] at this
            dsimp only at this
            rw [hK] at this
            exact this)
          have hw : IntKind.i64.wrap 48 = 48 := by decide
          clear hN hK hnum
          go_wp2_with fail
          go_region_held3 (fun w' => w'.cell? ⟨w1.heap.size, 1, none⟩ = some (.int .i64 16)) (go_keep) (first | (go_at_call 29; refine Calls.mono (hpc.out _ (by exact Hr.out)) ?_; rintro r0 wx ⟨rfl, hrx, hux⟩; have hzx := (World.cell?_of_block (a := ⟨w1.heap.size, 1, none⟩) (hux.block _ (World.block_lt_of_cell? _ _ hzj) hne)).trans hzj))
          have hur : Upd g wr wx := ((Upd.refl g wr).drew).trans hux
          have hzz := Hz.out.upd hur hne
          have hbb : Below w.heap.size w wx := hb.trans (hur.below hgw hb.size)
          have Hrx := Lib.hid hrx
          have Hzz := Lib.hid hzz
          clear hrx hzz hux hur hpc hw hb hzj
          go_wp2_with fail
          go_roundw
          case rel => exact ⟨2, by omega, rfl, Hrx.out, Hzz.out, hbb⟩
          case measure => simp [intOf]
        · have hzj : wr.cell? ⟨w1.heap.size, 2, none⟩ = some (Value.int .i64 32) := Hz.out 2 (by omega)
          have hnum : ∀ wx : World, wx.heap = wx.heap → True := fun _ _ => trivial
          have hN : rdN 4 (bsuf u (vint u ++ (vint (zig n) ++ (vint m.length ++ (m ++ m)))) 2) = (u / 2 ^ (64 - 8 * 4), bsuf u (vint u ++ (vint (zig n) ++ (vint m.length ++ (m ++ m)))) 1, 0) := rdN_beL 4 _ _ (fld_lt u Hu.out 2)
          have hK : ((u / 2 ^ (64 - 8 * 4) : Nat) : Int) = ((u : Int) / 4294967296) := by simp
          have hpc : Hid (∀ wx : World, Rd wx g (bsuf u (vint u ++ (vint (zig n) ++ (vint m.length ++ (m ++ m)))) 2) 0 → Calls Try.prog 29 #[.pointer (some ⟨g, 0, none⟩), .int .i64 32] wx fun r w' => r = .returned (.int .u64 ((u : Int) / 4294967296)) ∧ Rd w' g (bsuf u (vint u ++ (vint (zig n) ++ (vint m.length ++ (m ++ m)))) 1) 0 ∧ Upd g wx w') := Lib.hid (fun wx h => by
            have := rnum4 g _ wx h
            rw [hN] at this
            dsimp only at this
            rw [hK] at this
            exact this)
          have hw : IntKind.i64.wrap 32 = 32 := by decide
          clear hN hK hnum
          go_wp2_with fail
          go_region_held3 (fun w' => w'.cell? ⟨w1.heap.size, 2, none⟩ = some (.int .i64 32)) (go_keep) (first | (go_at_call 29; refine Calls.mono (hpc.out _ (by exact Hr.out)) ?_; rintro r0 wx ⟨rfl, hrx, hux⟩; have hzx := (World.cell?_of_block (a := ⟨w1.heap.size, 2, none⟩) (hux.block _ (World.block_lt_of_cell? _ _ hzj) hne)).trans hzj))
          have hur : Upd g wr wx := ((Upd.refl g wr).drew).trans hux
          have hzz := Hz.out.upd hur hne
          have hbb : Below w.heap.size w wx := hb.trans (hur.below hgw hb.size)
          have Hrx := Lib.hid hrx
          have Hzz := Lib.hid hzz
          clear hrx hzz hux hur hpc hw hb hzj
          go_wp2_with fail
          go_roundw
          case rel => exact ⟨1, by omega, rfl, Hrx.out, Hzz.out, hbb⟩
          case measure => simp [intOf]
        · have hzj : wr.cell? ⟨w1.heap.size, 3, none⟩ = some (Value.int .i64 64) := Hz.out 3 (by omega)
          have hnum : ∀ wx : World, wx.heap = wx.heap → True := fun _ _ => trivial
          have hN : rdN 8 (bsuf u (vint u ++ (vint (zig n) ++ (vint m.length ++ (m ++ m)))) 1) = (u / 2 ^ (64 - 8 * 8), bsuf u (vint u ++ (vint (zig n) ++ (vint m.length ++ (m ++ m)))) 0, 0) := rdN_beL 8 _ _ (fld_lt u Hu.out 3)
          have hK : ((u / 2 ^ (64 - 8 * 8) : Nat) : Int) = (u : Int) := by simp
          have hpc : Hid (∀ wx : World, Rd wx g (bsuf u (vint u ++ (vint (zig n) ++ (vint m.length ++ (m ++ m)))) 1) 0 → Calls Try.prog 29 #[.pointer (some ⟨g, 0, none⟩), .int .i64 64] wx fun r w' => r = .returned (.int .u64 (u : Int)) ∧ Rd w' g (bsuf u (vint u ++ (vint (zig n) ++ (vint m.length ++ (m ++ m)))) 0) 0 ∧ Upd g wx w') := Lib.hid (fun wx h => by
            have := rnum8 g _ wx h
            rw [hN] at this
            dsimp only at this
            rw [hK] at this
            exact this)
          have hw : IntKind.i64.wrap 0 = 0 := by decide
          clear hN hK hnum
          go_wp2_with fail
          go_region_held3 (fun w' => w'.cell? ⟨w1.heap.size, 3, none⟩ = some (.int .i64 64)) (go_keep) (first | (go_at_call 29; refine Calls.mono (hpc.out _ (by exact Hr.out)) ?_; rintro r0 wx ⟨rfl, hrx, hux⟩; have hzx := (World.cell?_of_block (a := ⟨w1.heap.size, 3, none⟩) (hux.block _ (World.block_lt_of_cell? _ _ hzj) hne)).trans hzj))
          have hur : Upd g wr wx := ((Upd.refl g wr).drew).trans hux
          have hzz := Hz.out.upd hur hne
          have hbb : Below w.heap.size w wx := hb.trans (hur.below hgw hb.size)
          have Hrx := Lib.hid hrx
          have Hzz := Lib.hid hzz
          clear hrx hzz hux hur hpc hw hb hzj
          go_wp2_with fail
          go_roundw
          case rel => exact ⟨0, by omega, rfl, Hrx.out, Hzz.out, hbb⟩
          case measure => simp [intOf]
        · have hv1 := vint_len u
          have hv2 := vint_len (zig n)
          have hv3 := vint_len m.length
          have hV := rdV_back u (vint (zig n) ++ (vint m.length ++ (m ++ m))) Hu.out
          have hI : rdVe (vint (zig n) ++ (vint m.length ++ (m ++ m))) 0 = _ := rdV_back (zig n) (vint m.length ++ (m ++ m)) (zig_u64 hn)
          have hX := rdT_back m m (by unfold U64; omega)
          have hE : endErr m 0 = if 0 < m.length then 4 else 0 := by unfold endErr; simp
          have HV := Lib.hid hV
          have HI := Lib.hid hI
          have HX := Lib.hid hX
          have HE := Lib.hid hE
          clear hV hI hX hE
          go_wp2_with fail
          refine (rvarint_ok g (vint u ++ (vint (zig n) ++ (vint m.length ++ (m ++ m)))) _ Hr.out).mono ?_
          rw [HV.out]
          rintro r0 w8 ⟨rfl, hr8, hu8⟩
          have hb8 : Below w.heap.size w w8 := hb.trans (hu8.below hgw hb.size)
          have Hr8 := Lib.hid hr8
          clear hr8 hu8 Hr hb
          go_wp2_with fail
          refine (rint_any g (vint (zig n) ++ (vint m.length ++ (m ++ m))) 0 _ Hr8.out).mono ?_
          rw [HI.out]
          dsimp only
          rw [zag_zig]
          rintro r0 w9 ⟨rfl, hr9, hu9⟩
          have hb9 : Below w.heap.size w w9 := hb8.trans (hu9.below hgw hb8.size)
          have Hr9 := Lib.hid hr9
          clear hr9 hu9 Hr8 hb8
          go_wp2_with fail
          refine (rtext_ok g (vint m.length ++ (m ++ m)) _ Hr9.out (by simp; omega)).mono ?_
          rw [HX.out]
          rintro r0 w10 ⟨⟨v10, rfl, ho10⟩, hr10, hu10⟩
          have hb10 : Below w.heap.size w w10 := hb9.trans (hu10.below hgw hb9.size)
          have Hr10 := Lib.hid hr10
          have Ho10 := Lib.hid ho10.sl
          clear hr10 hu10 Hr9 hb9 ho10
          go_wp2_with fail
          refine (eqBytes_any _ _ m m _ Ho10.out (H.out.keep hb10.size (fun b _ hlt => hb10.block b hlt))).mono ?_
          rintro r0 w11 ⟨rfl, rfl⟩
          rw [show (m == m) = true from beq_self_eq_true _]
          have HE2 : Hid (endErr m 0 = 4) := Lib.hid (by rw [HE.out, if_pos (by rw [Hm.out]; omega)])
          go_wp2_with (first | (go_at_call 33; refine (left_any _ _ _ _ Hr10.out).mono ?_; rw [Hm.out]; rintro r0 w12 ⟨rfl, rfl⟩) | (go_at_call 34; refine (err_any _ _ _ _ Hr10.out).mono ?_; rintro r0 w12 ⟨rfl, rfl⟩) | (go_at_call 35; refine (end_any _ _ _ _ Hr10.out).mono ?_; rw [HE2.out]; rintro r0 w12 ⟨rfl, rfl⟩))
          go_ret
          exact ⟨rfl, hb10⟩

theorem back_all (u : Nat) (n : Int) (a : Option Addr) (c : Nat) (m : List UInt8) (w : World) (hu : U64 u) (hn : I64 n) (h : Sl w (.slice a m.length c) (bv m)) (hlc : m.length ≤ c) :
    Calls Try.prog 4 #[.int .u64 u, .int .i64 n, .slice a m.length c] w fun e w' => e = .returned (.bool true) ∧ Below w.heap.size w w' := by
  by_cases hl : m.length ≤ 100
  · exact back_walk u n a c m w hu hn h hlc hl
  · exact back_walk100 u n a c m w hu hn h hlc (by omega)
end Go.Proofs.Ytnepbjcegbabnaa
