/- The walk of BitsWrites, where there are more than three hundred bytes. -/
import Derived.Test.YtlfccpmjlgcjpaaBitsWrites
namespace Go.Proofs.Ytlfccpmjlgcjpaa
open Go.RowKit
set_option linter.unusedVariables false

set_option maxHeartbeats 2000000 in
set_option maxRecDepth 100000 in
theorem writes_walk300 (n : Nat) (k : Int) (a : Option Addr) (c : Nat) (m0 : List UInt8) (w : World) (hn : U64 n) (hk : I64 k) (h0 : Sl w (.slice a m0.length c) (bv m0)) (hlc : m0.length ≤ c) (hl : 300 < m0.length) :
    Calls Try.prog 3 #[.slice a m0.length c, .int .u64 n, .int .i64 k] w fun e w' => e = .returned (.bool true) ∧ Below w.heap.size w w' := by
  obtain ⟨m, hm, h⟩ : ∃ m : List UInt8, m.length = 300 ∧ Sl w (.slice a 300 c) (bv m) := ⟨m0.take 300, by rw [List.length_take]; omega, sl_pre h0 (by omega)⟩
  have Hm := Lib.hid hm
  have hml : m.length ≤ 300 := by omega
  have H := Lib.hid h
  have Hn := Lib.hid hn
  clear h hn h0 hm
  go_enter Try.func3, Try.ntmps3
  go_wp2_with fail
  refine (copyBytes_any _ m _ H.out (by have := Hm.out; omega)).mono ?_
  rintro r0 w1 ⟨⟨v1, rfl, ho1⟩, hb1⟩
  have hz := wz_made w1 k 3
  have hb2 := below_alloc hb1 (.cells #[.int .i64 8, .int .i64 16, .int .i64 32, .int .i64 64, .int .i64 k] 3)
  have ho2 := Own.alloc ho1 (.cells #[.int .i64 8, .int .i64 16, .int .i64 32, .int .i64 64, .int .i64 k] 3)
  have hbase : w.heap.size ≤ w1.heap.size := hb1.size
  have hlt1 : ∀ g, v1.ownBlock = some g → g < w1.heap.size := fun g hg => (ho1.lt g hg).2
  clear ho1 hb1
  go_wp2_with fail
  go_loopw [9] (fun i wr => ∃ j : Nat, j ≤ 5 ∧ i = .int .i64 j ∧ Own wr w.heap.size 5 v1 (bv m) ∧ Wz wr w1.heap.size k ∧ Below w.heap.size w wr) (fun i _ => 5 - (intOf i).toNat)
  case atStart => exact ⟨0, by omega, rfl, ho2, hz, hb2⟩
  case round =>
    clear hz hb2 ho2
    obtain ⟨j, hj, rfl, ho, hz, hb⟩ := hrel
    have hz0 := hz
    by_cases hj5 : j < 5
    · have hzj := hz j hj5
      have Hz := Lib.hid hz
      have Ho := Lib.hid ho
      clear hz hz0 ho hlt1
      generalize wsz k j = s at *
      go_wp2_with fail
      refine (put_all v1 m s n _ Ho.out.sl (by have := Hm.out; omega)).mono ?_
      rintro r0 w2 ⟨⟨v2, rfl, ho2⟩, hb2⟩
      have hzj2 := cell_later hb2 hzj
      have hbw2 := below_step hb hb2
      have Ho2 := Lib.hid ho2
      have Ho1 := Lib.hid (Own.below Ho.out hb2)
      have Hz2 := Lib.hid (Hz.out.below hb2)
      clear hzj Ho Hz hb hb2 ho2
      go_wp2_with fail
      refine (rput_all _ m s n _ (H.out.keep hbw2.size (fun b _ hlt => hbw2.block b hlt)) Hn.out (by have := Hm.out; omega)).mono ?_
      rintro r0 w3 ⟨⟨v3, rfl, ho3⟩, hb3⟩
      have hbw3 := below_step hbw2 hb3
      have Hs2 := Lib.hid (Ho2.out.sl.below hb3)
      have Hs3 := Lib.hid ho3.sl
      have Ho1' := Lib.hid (Own.below Ho1.out hb3)
      have Hz3 := Lib.hid (Hz2.out.below hb3)
      clear hzj2 Ho2 Ho1 Hz2 hbw2 hb3 ho3
      go_wp2_with fail
      refine (eqBytes_any _ _ _ _ _ Hs2.out Hs3.out).mono ?_
      rw [beq_self_eq_true]
      rintro r0 w4 ⟨rfl, rfl⟩
      go_wp2_with fail
      go_roundw
      case rel => exact ⟨j + 1, by omega, by go_num, Ho1'.out, Hz3.out, hbw3⟩
      case measure => simp [intOf]; omega
    · clear hz
      have hlen := ho.sl.len
      rw [bv_length] at hlen
      obtain ⟨a1, c1, rfl⟩ := hlen
      have hlt1' : ∀ g, a1 = some ⟨g, 0, none⟩ → g < w1.heap.size := fun g hg => hlt1 g (by rw [hg]; rfl)
      have hw1 : w1.heap.size ≤ wr.heap.size := by
        have h5 := World.block_lt_of_cell? wr _ (hz0 0 (by omega))
        exact Nat.le_of_lt h5
      clear hz0
      have Ho := Lib.hid ho
      clear ho hlt1
      go_wp2_with fail
      refine (varint_any _ m n _ Ho.out.sl Hn.out (by have := Hm.out; omega)).mono ?_
      rintro r0 w2 ⟨⟨v2, rfl, ho2⟩, hb2⟩
      have hbw2 := below_step hb hb2
      have Ho1 := Lib.hid (Own.below Ho.out hb2)
      have hne2 : ∀ g, a1 = some ⟨g, 0, none⟩ → v2.ownBlock ≠ some g := fun g hg => ho2.ne (by have := hlt1' g hg; omega)
      have hsz2 := hb2.size
      have Hv := Lib.hid ho2.sl
      clear ho2 hb2 hb Ho
      go_wp2_with fail
      refine (text_any _ _ m m _ Ho1.out.sl (H.out.keep hbw2.size (fun b _ hlt => hbw2.block b hlt)) (by have := Hm.out; omega)).mono ?_
      rintro r0 w3 ⟨⟨v3, rfl, ho3⟩, hb3⟩
      have hbw3 := below_step hbw2 hb3
      have Ho3 := Lib.hid (Own.below Ho1.out hb3)
      have hne3 : ∀ g, a1 = some ⟨g, 0, none⟩ → v3.ownBlock ≠ some g := fun g hg => ho3.ne (by have := hlt1' g hg; omega)
      have Hv3 := Lib.hid (Hv.out.below hb3)
      have Ht := Lib.hid ho3.sl
      clear ho3 hb3 hbw2 Ho1 Hv
      go_wp2_with fail
      refine (rvarint_ref _ m n _ (H.out.keep hbw3.size (fun b _ hlt => hbw3.block b hlt)) Hn.out (by have := Hm.out; omega)).mono ?_
      rintro r0 w4 ⟨⟨v4, rfl, ho4⟩, hb4⟩
      have hbw4 := below_step hbw3 hb4
      have Ho4 := Lib.hid (Own.below Ho3.out hb4)
      have Hv4 := Lib.hid (Hv3.out.below hb4)
      have Ht4 := Lib.hid (Ht.out.below hb4)
      have Hx := Lib.hid ho4.sl
      clear ho4 hb4 hbw3 Ho3 Hv3 Ht
      go_wp2_with fail
      refine (eqBytes_any _ _ _ _ _ Hv4.out Hx.out).mono ?_
      rw [beq_self_eq_true]
      rintro r0 w5 ⟨rfl, rfl⟩
      clear Hx
      go_wp2_with fail
      refine (int_any _ m k _ Ho4.out.sl hk (by have := Hm.out; omega)).mono ?_
      rintro r0 w5 ⟨⟨v5, rfl, ho5⟩, hb5⟩
      have hbw5 := below_step hbw4 hb5
      have Ho5 := Lib.hid (Own.below Ho4.out hb5)
      have Hv5 := Lib.hid (Hv4.out.below hb5)
      have Ht5 := Lib.hid (Ht4.out.below hb5)
      have Hx := Lib.hid ho5.sl
      clear ho5 hb5 hbw4 Ho4 Hv4 Ht4
      go_wp2_with fail
      refine (rint_ref _ m k _ (H.out.keep hbw5.size (fun b _ hlt => hbw5.block b hlt)) hk (by have := Hm.out; omega)).mono ?_
      rintro r0 w6 ⟨⟨v6, rfl, ho6⟩, hb6⟩
      have hbw6 := below_step hbw5 hb6
      have Ho6 := Lib.hid (Own.below Ho5.out hb6)
      have Hv6 := Lib.hid (Hv5.out.below hb6)
      have Ht6 := Lib.hid (Ht5.out.below hb6)
      have Hx6 := Lib.hid (Hx.out.below hb6)
      have Hy := Lib.hid ho6.sl
      clear ho6 hb6 hbw5 Ho5 Hv5 Ht5 Hx
      go_wp2_with fail
      refine (eqBytes_any _ _ _ _ _ Hx6.out Hy.out).mono ?_
      rw [beq_self_eq_true]
      rintro r0 w7 ⟨rfl, rfl⟩
      clear Hx6 Hy
      go_wp2_with fail
      refine (rtext_ref _ _ m m _ (H.out.keep hbw6.size (fun b _ hlt => hbw6.block b hlt)) (H.out.keep hbw6.size (fun b _ hlt => hbw6.block b hlt)) (by have := Hm.out; omega)).mono ?_
      rintro r0 w7 ⟨⟨v7, rfl, ho7⟩, hb7⟩
      have hbw7 := below_step hbw6 hb7
      have Ho7 := Lib.hid (Own.below Ho6.out hb7)
      have Hv7 := Lib.hid (Hv6.out.below hb7)
      have Ht7 := Lib.hid (Ht6.out.below hb7)
      have Hx := Lib.hid ho7.sl
      clear ho7 hb7 hbw6 Ho6 Hv6 Ht6
      go_wp2_with fail
      refine (eqBytes_any _ _ _ _ _ Ht7.out Hx.out).mono ?_
      rw [beq_self_eq_true]
      rintro r0 w8 ⟨rfl, rfl⟩
      clear Hx
      have hmut := mut_of_own Ho7.out
      have hv7 := Hv7.out
      have ht7 := Ht7.out
      clear Ho7 Hv7 Ht7
      go_wp2_with fail
      go_loopw [17] (fun i wr => ∃ j : Nat, j ≤ m.length ∧ i = .int .i64 j ∧ Mut wr w.heap.size a1 m.length ∧ Sl wr v2 (bv (m ++ vint n)) ∧ Sl wr v3 (bv (m ++ vint m.length ++ m)) ∧ Below w.heap.size w wr) (fun i _ => m.length - (intOf i).toNat)
      case atStart => exact ⟨0, by omega, rfl, hmut, hv7, ht7, hbw7⟩
      case round =>
        clear hmut hv7 ht7 hbw7
        obtain ⟨j, hj, rfl, hmu, hsv, hst, hbb⟩ := hrel
        by_cases hjm : j < m.length
        · rcases hmu with h0 | ⟨g, cur, rfl, hgB, hg, hcur⟩
          · omega
          obtain ⟨z, hz⟩ := hcur j hjm
          have hcell : wr.cell? ⟨g, j, none⟩ = some (.int .u8 z) := by rw [cell_of_row _ _ _ cur _ _ hg]; exact hz
          have hfr : wr.frozen? ⟨g, j, none⟩ = false := by unfold World.frozen?; rw [hg]; simp
          have n2 := hne2 g rfl
          have n3 := hne3 g rfl
          have Hg := Lib.hid hg
          have Hc := Lib.hid hcur
          have Hsv := Lib.hid hsv
          have Hst := Lib.hid hst
          clear hg hcur hsv hst hz hne2 hne3 hlt1'
          have hm2 := Lib.hid (mut_set Hg.out Hc.out (j := j) (bits BinOp.xor IntKind.u8 z 90) hgB)
          go_wp2_with fail
          go_roundw
          case rel => exact ⟨j + 1, by omega, by go_num, hm2.out, Hsv.out.upd ((Upd.refl g wr).setCell j _) n2, Hst.out.upd ((Upd.refl g wr).setCell j _) n3, hbb.setCell hgB _⟩
          case measure => simp [intOf]; omega
        · have Hv := Lib.hid hsv
          have Ht := Lib.hid hst
          clear hmu hsv hst hne2 hne3 hlt1'
          go_wp2_with fail
          refine (rvarint_ref _ m n _ (H.out.keep hbb.size (fun b _ hlt => hbb.block b hlt)) Hn.out (by have := Hm.out; omega)).mono ?_
          rintro r0 w11 ⟨⟨v11, rfl, ho11⟩, hb11⟩
          have hbw11 := below_step hbb hb11
          have Hv11 := Lib.hid (Hv.out.below hb11)
          have Ht11 := Lib.hid (Ht.out.below hb11)
          have Hx := Lib.hid ho11.sl
          clear ho11 hb11 hbb Hv Ht
          go_wp2_with fail
          refine (eqBytes_any _ _ _ _ _ Hv11.out Hx.out).mono ?_
          rw [beq_self_eq_true]
          rintro r0 w12 ⟨rfl, rfl⟩
          clear Hx Hv11
          go_wp2_with fail
          refine (rtext_ref _ _ m m _ (H.out.keep hbw11.size (fun b _ hlt => hbw11.block b hlt)) (H.out.keep hbw11.size (fun b _ hlt => hbw11.block b hlt)) (by have := Hm.out; omega)).mono ?_
          rintro r0 w12 ⟨⟨v12, rfl, ho12⟩, hb12⟩
          have hbw12 := below_step hbw11 hb12
          have Ht12 := Lib.hid (Ht11.out.below hb12)
          have Hx := Lib.hid ho12.sl
          clear ho12 hb12 hbw11 Ht11
          go_wp2_with fail
          refine (eqBytes_any _ _ _ _ _ Ht12.out Hx.out).mono ?_
          rw [beq_self_eq_true]
          rintro r0 w13 ⟨rfl, rfl⟩
          clear Hx Ht12
          go_wp2_with (first | (go_at_call 19; refine (zig_any k _ hk).mono ?_; rintro r0 w13 ⟨rfl, rfl⟩) | (go_at_call 20; refine (rzig_any k _ hk).mono ?_; rintro r0 w13 ⟨rfl, rfl⟩) | (go_at_call 21; refine (zag_any n _ Hn.out).mono ?_; rintro r0 w13 ⟨rfl, rfl⟩) | (go_at_call 22; refine (rzag_any n _ Hn.out).mono ?_; rintro r0 w13 ⟨rfl, rfl⟩) | (go_at_call 23; refine (rotate_any n k _ Hn.out hk).mono ?_; rintro r0 w13 ⟨rfl, rfl⟩) | (go_at_call 24; refine (rrotate_any n k _ Hn.out).mono ?_; rintro r0 w13 ⟨rfl, rfl⟩) | (go_at_call 25; refine (reverse_any n k _ Hn.out).mono ?_; rintro r0 w13 ⟨rfl, rfl⟩) | (go_at_call 26; refine (rreverse_any n k _ Hn.out).mono ?_; rintro r0 w13 ⟨rfl, rfl⟩) | (go_at_call 27; refine (works_any _).mono ?_; rintro r0 w13 ⟨rfl, hb13⟩))
          go_ret
          exact ⟨rfl, below_step hbw12 hb13⟩

theorem writes_all (n : Nat) (k : Int) (a : Option Addr) (c : Nat) (m : List UInt8) (w : World) (hn : U64 n) (hk : I64 k) (h : Sl w (.slice a m.length c) (bv m)) (hlc : m.length ≤ c) :
    Calls Try.prog 3 #[.slice a m.length c, .int .u64 n, .int .i64 k] w fun e w' => e = .returned (.bool true) ∧ Below w.heap.size w w' := by
  by_cases hl : m.length ≤ 300
  · exact writes_walk n k a c m w hn hk h hlc hl
  · exact writes_walk300 n k a c m w hn hk h hlc (by omega)
end Go.Proofs.Ytlfccpmjlgcjpaa
