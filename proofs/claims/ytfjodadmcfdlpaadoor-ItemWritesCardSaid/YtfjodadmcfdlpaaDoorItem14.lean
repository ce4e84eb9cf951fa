/- The statement's own: works. -/
import Derived.Test.YtfjodadmcfdlpaaDoorItem13
namespace Go.Proofs.YtfjodadmcfdlpaaDoor
open Go.RowKit
set_option linter.unusedVariables false
set_option linter.unusedSimpArgs false
def ksOf (l : List UInt8) (h : l.length ≤ 100) : KS := ⟨⟨l.toArray⟩, by unfold maxLen; show l.toArray.size ≤ _; simp; omega⟩
/-- 'bytes' of an op, its bytes a literal. -/
theorem lawBytes_lit {w0 w : World} {L : List Thing} (k : Int) (s : KS) (o n : Int) (v : Value) (ls : List Ln) (xs : Array Value) (wl : List UInt8) (h : Sep w0 L w) (hv : LnS w v ls) (hk : KindsAt w) (hb : okB k s o n ls = true) (hx : xs.toList = bv wl) (he : opBs k s o n ls = wl) (bq nq : Nat) (hbq : w.heap.size = bq) (hnq : xs.size = nq) :
    Calls Tryd.prog 49 #[.agg #[.int .i64 k, .string s.1, .int .i64 o, .int .i64 n, v], .slice (some ⟨bq, 0, none⟩) nq nq] (w.alloc (.cells xs 5)) fun e w' => e = .returned (.bool true) ∧ Sep w0 L w' := by
  subst hbq
  subst hnq
  have h1 := h.alloc (.cells xs 5)
  have hlow : Below w.heap.size w (w.alloc (.cells xs 5)) := (Below.refl _ w).alloc (Nat.le_refl _) _
  have hl := opBs_len hb
  have hsz : xs.size = wl.length := by rw [← Array.length_toList, hx, bv_length]
  have h2 := h1.asRow xs.size rfl (by rw [hsz, ← he]; unfold maxLen; omega)
  rw [hx] at h2
  exact (lawBytes_any k s o n v _ ls wl h2 (hv.below hlow) (hk.below hlow) hb h2.sl he).mono fun e w' ⟨h3, h4⟩ => ⟨h3, h4.drop⟩
theorem lnNil (w : World) : LnS w (.slice none 0 0) [] := .inl ⟨none, 0, rfl, fun _ => rfl, rfl⟩
set_option maxRecDepth 100000 in
set_option maxHeartbeats 16000000 in
theorem works_any {w0 w : World} {L : List Thing} (h : Sep w0 L w) (hk : KindsAt w) :
    Calls Tryd.prog 25 #[] w fun e w' => e = .returned (.bool true) ∧ Sep w0 L w' := by
  suffices hs : Calls Tryd.prog 25 #[] w fun e w' => e = .returned (.bool true) ∧ Sep w [] w' from hs.mono fun e w' ⟨h1, h2⟩ => ⟨h1, h.below h2.low⟩
  clear h
  have HK := Lib.hid hk
  clear hk
  have h1 := (Sep.start w).alloc (.cells #[.string ⟨#[97]⟩, .int .i64 1, .string ⟨#[98]⟩, .int .i64 2] 39)
  have H1 := Lib.hid h1
  clear h1
  have HL : Hid (∀ wx L, Sep w (Cl w.heap.size #[.string ⟨#[97]⟩, .int .i64 1, .string ⟨#[98]⟩, .int .i64 2] 39 :: L) wx → LnS wx (.slice (some ⟨w.heap.size, 0, none⟩) 2 2) [(ksOf [97] (by simp), 1), (ksOf [98] (by simp), 2)]) := Lib.hid fun wx L hx => by
    refine .inr ⟨w.heap.size, 0, 2, rfl, Nat.le_refl _, by unfold maxLen; omega, hx.blk_lt.2, fun i hi => ?_⟩
    have hi2 : i < 2 := hi
    rcases (show i = 0 ∨ i = 1 by omega) with rfl | rfl
    · exact ⟨hx.cell rfl, hx.cell rfl⟩
    · exact ⟨hx.cell rfl, hx.cell rfl⟩
  have HB1 := Lib.hid (lawBytes_lit 1 (ksOf [97, 98] (by simp)) 0 300 _ [] #[.int .u8 1, .int .u8 2, .int .u8 97, .int .u8 98, .int .u8 172, .int .u8 2] [1, 2, 97, 98, 172, 2] H1.out (lnNil _) (HK.out.below H1.out.low) (by kernel_rfl) rfl (by kernel_rfl) (w.heap.size + 1) 6 (Array.size_push ..) rfl)
  go_enter Tryd.func25, Tryd.ntmps25
  go_wp2_with fail
  refine HB1.out.mono ?_
  rintro r0 w1 ⟨rfl, h2⟩
  clear HB1
  have HB2 := Lib.hid (lawBytes_lit 3 (ksOf [] (by simp)) 7 9 _ _ #[.int .u8 3, .int .u8 7, .int .u8 9, .int .u8 2, .int .u8 1, .int .u8 97, .int .u8 1, .int .u8 1, .int .u8 98, .int .u8 2] [3, 7, 9, 2, 1, 97, 1, 1, 98, 2] h2 (HL.out _ _ h2) (HK.out.below h2.low) (by kernel_rfl) rfl (by kernel_rfl) _ 10 rfl rfl)
  go_wp2_with fail
  refine HB2.out.mono ?_
  rintro r0 w2 ⟨rfl, h3⟩
  clear HB2 h2 H1
  have HB3 := Lib.hid (lawBytes_lit 2 (ksOf [97] (by simp)) 0 (-1) _ [] #[.int .u8 2, .int .u8 1, .int .u8 97, .int .u8 1] [2, 1, 97, 1] h3 (lnNil _) (HK.out.below h3.low) (by kernel_rfl) rfl (by kernel_rfl) _ 4 rfl rfl)
  go_wp2_with fail
  refine HB3.out.mono ?_
  rintro r0 w3 ⟨rfl, h4⟩
  clear HB3 h3
  have HB4 := Lib.hid (lawBytes_lit 6 (ksOf [] (by simp)) 5 0 _ [] #[.int .u8 6, .int .u8 5] [6, 5] h4 (lnNil _) (HK.out.below h4.low) (by kernel_rfl) rfl (by kernel_rfl) _ 2 rfl rfl)
  go_wp2_with fail
  refine HB4.out.mono ?_
  rintro r0 w4 ⟨rfl, h5⟩
  clear HB4 h4
  have HB5 := Lib.hid (lawBytes_lit 7 (ksOf [] (by simp)) 0 200 _ [] #[.int .u8 7, .int .u8 200, .int .u8 1] [7, 200, 1] h5 (lnNil _) (HK.out.below h5.low) (by kernel_rfl) rfl (by kernel_rfl) _ 3 rfl rfl)
  go_wp2_with fail
  refine HB5.out.mono ?_
  rintro r0 w5 ⟨rfl, h6⟩
  clear HB5 h5
  have HC1 := Lib.hid (check_any 1 (ksOf [97, 98] (by simp)) 0 0 (.slice none 0 0) [] h6 (lnNil _) (HK.out.below h6.low))
  rw [show okB 1 (ksOf [97, 98] (by simp)) 0 0 [] = false by kernel_rfl] at HC1
  go_wp2_with fail
  refine HC1.out.mono ?_
  rintro r0 w6 ⟨rfl, h7⟩
  clear HC1 h6
  have HC1 := Lib.hid (check_any 3 (ksOf [] (by simp)) 1 1 (.slice none 0 0) [] h7 (lnNil _) (HK.out.below h7.low))
  rw [show okB 3 (ksOf [] (by simp)) 1 1 [] = false by kernel_rfl] at HC1
  go_wp2_with fail
  refine HC1.out.mono ?_
  rintro r0 w7 ⟨rfl, h8⟩
  clear HC1 h7
  have HC1 := Lib.hid (check_any 6 (ksOf [] (by simp)) 5 1 (.slice none 0 0) [] h8 (lnNil _) (HK.out.below h8.low))
  rw [show okB 6 (ksOf [] (by simp)) 5 1 [] = false by kernel_rfl] at HC1
  go_wp2_with fail
  refine HC1.out.mono ?_
  rintro r0 w8 ⟨rfl, h9⟩
  clear HC1 h8
  go_wp2_with fail
  go_ret
  exact ⟨rfl, .nil h9.low⟩
end Go.Proofs.YtfjodadmcfdlpaaDoor
