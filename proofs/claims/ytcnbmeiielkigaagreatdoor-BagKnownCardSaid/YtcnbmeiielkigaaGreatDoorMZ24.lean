/- The document's own rows of entries: Row, SameRow, CopyRow. -/
import Derived.Test.YtcnbmeiielkigaaGreatDoorMZ21
import Derived.Test.YtcnbmeiielkigaaGreatDoorMZ06
import Derived.Test.YtcnbmeiielkigaaGreatDoorMRefI6
namespace Go.Proofs.YtcnbmeiielkigaaGreatDoor
open Go Go.RowKit
set_option linter.unusedVariables false
set_option linter.unusedSimpArgs false
set_option maxRecDepth 100000 in
set_option maxHeartbeats 16000000 in
theorem resamerow_w {w : World} (a a' : Option Addr) (c c' : Nat) (xs ys : List (EnM × Value)) (hx : EnS w (.slice a xs.length c) xs) (hy : EnS w (.slice a' ys.length c') ys) (hl : xs.length ≤ 1000000) (hl' : ys.length ≤ 1000000) :
  Calls Tryz.prog 63 #[.slice a xs.length c, .slice a' ys.length c'] w fun e w' => ∃ r : Bool, e = .returned (.bool r) ∧ (r = true ↔ SameP xs ys) ∧ Sep w [] w' := by
 have HX := Lib.hid hx
 have HY := Lib.hid hy
 have n0 : (xs.length : Int) ≤ 1000000 := by omega
 have n1 : (ys.length : Int) ≤ 1000000 := by omega
 clear hx hy hl hl'
 obtain ⟨n, hn⟩ : ∃ n, n = xs.length := ⟨_, rfl⟩
 obtain ⟨n', hn'⟩ : ∃ n, n = ys.length := ⟨_, rfl⟩
 rw [← hn] at HX n0 ⊢
 rw [← hn'] at HY n1 ⊢
 have HN := Lib.hid (And.intro hn hn')
 clear hn hn'
 by_cases hll : n = n'
 ·subst hll
  go_enter Tryz.func63, Tryz.ntmps63
  go_wp2_with fail
  go_loopw [5] (fun i wr => ∃ k : Nat, k ≤ n ∧ i = .int .i64 k ∧ (∀ j (h : j < xs.length) (h' : j < ys.length), j < k → enSame xs[j].1 ys[j].1 = true) ∧ Sep w [] wr) (fun i _ => n - (intOf i).toNat)
  case atStart => exact ⟨0, Nat.zero_le _, rfl, (fun j _ _ h => absurd h (by omega)), Sep.start w⟩
  case round =>
   obtain ⟨k, hk, rfl, hall, hs⟩ := hrel
   have k0 : (0 : Int) ≤ (k : Int) := by omega
   by_cases hkn : k < n
   ·have hkx : k < xs.length := by have := HN.out.1; omega
    have hky : k < ys.length := by have := HN.out.2; omega
    have hd : decide (k < n) = true := decide_eq_true hkn
    have k1 : (k : Int) < (n : Int) := by omega
    obtain ⟨⟨x, v⟩, hxv⟩ : ∃ z, z = xs[k] := ⟨_, rfl⟩
    obtain ⟨⟨y, u⟩, hyu⟩ : ∃ z, z = ys[k] := ⟨_, rfl⟩
    obtain ⟨bx, off, rfl, -, hnc, -, -, hln⟩ := HX.out.at hkx
    obtain ⟨by', off', rfl, -, hnc', -, -, hlu⟩ := HY.out.at hky
    rw [← hxv] at hln
    rw [← hyu] at hlu
    dsimp only at hln hlu
    obtain ⟨av, kv, rfl⟩ := hln.len
    obtain ⟨au, ku, rfl⟩ := hlu.len
    have HSC : Hid (∀ w', Below wr.drew.heap.size wr.drew w' → (w'.cell? ⟨bx, off + k * 7, none⟩ = some (.int .i64 x.c) ∧ w'.cell? ⟨bx, off + k * 7 + 1, none⟩ = some (.int .i64 x.m) ∧ w'.cell? ⟨bx, off + k * 7 + 2, none⟩ = some (.int .i64 x.p.k) ∧ w'.cell? ⟨bx, off + k * 7 + 3, none⟩ = some (.string x.p.s.1) ∧ w'.cell? ⟨bx, off + k * 7 + 4, none⟩ = some (.int .i64 x.p.o) ∧ w'.cell? ⟨bx, off + k * 7 + 5, none⟩ = some (.int .i64 x.p.n) ∧ w'.cell? ⟨bx, off + k * 7 + 6, none⟩ = some (.slice av x.p.ls.length kv)) ∧ (w'.cell? ⟨by', off' + k * 7, none⟩ = some (.int .i64 y.c) ∧ w'.cell? ⟨by', off' + k * 7 + 1, none⟩ = some (.int .i64 y.m) ∧ w'.cell? ⟨by', off' + k * 7 + 2, none⟩ = some (.int .i64 y.p.k) ∧ w'.cell? ⟨by', off' + k * 7 + 3, none⟩ = some (.string y.p.s.1) ∧ w'.cell? ⟨by', off' + k * 7 + 4, none⟩ = some (.int .i64 y.p.o) ∧ w'.cell? ⟨by', off' + k * 7 + 5, none⟩ = some (.int .i64 y.p.n) ∧ w'.cell? ⟨by', off' + k * 7 + 6, none⟩ = some (.slice au y.p.ls.length ku))) := Lib.hid fun w' hb => by
     have h1 : Sep w [] w' := hs.drew.below hb
     obtain ⟨b1, o1, hab, -, -, -, e, -⟩ := (HX.out.below h1.low).at hkx
     simp only [Option.some.injEq, Addr.mk.injEq, and_true] at hab
     obtain ⟨rfl, rfl⟩ := hab
     obtain ⟨b2, o2, hab, -, -, -, d, -⟩ := (HY.out.below h1.low).at hky
     simp only [Option.some.injEq, Addr.mk.injEq, and_true] at hab
     obtain ⟨rfl, rfl⟩ := hab
     rw [← hxv] at e
     rw [← hyu] at d
     exact ⟨e, d⟩
    have HS := Lib.hid (resame_any x y _ _ (Sep.start wr.drew) (hln.below hs.drew.low) (hlu.below hs.drew.low) (lns_maxl hln))
    unfold enV at HS
    have HW := Lib.hid hs.drew
    have HXV := Lib.hid (And.intro hxv (And.intro hyu hkn))
    have HAL := Lib.hid hall
    clear hs hln hlu hxv hyu hall hk hkn
    cases hsm : enSame x y with
    | true =>
     rw [hsm] at HS
     have HT := Lib.hid hsm
     clear hsm
     go_wp2_with fail
     refine wp_region_G (fun w' => (w'.cell? ⟨bx, off + k * 7, none⟩ = some (.int .i64 x.c) ∧ w'.cell? ⟨bx, off + k * 7 + 1, none⟩ = some (.int .i64 x.m) ∧ w'.cell? ⟨bx, off + k * 7 + 2, none⟩ = some (.int .i64 x.p.k) ∧ w'.cell? ⟨bx, off + k * 7 + 3, none⟩ = some (.string x.p.s.1) ∧ w'.cell? ⟨bx, off + k * 7 + 4, none⟩ = some (.int .i64 x.p.o) ∧ w'.cell? ⟨bx, off + k * 7 + 5, none⟩ = some (.int .i64 x.p.n) ∧ w'.cell? ⟨bx, off + k * 7 + 6, none⟩ = some (.slice av x.p.ls.length kv)) ∧ (w'.cell? ⟨by', off' + k * 7, none⟩ = some (.int .i64 y.c) ∧ w'.cell? ⟨by', off' + k * 7 + 1, none⟩ = some (.int .i64 y.m) ∧ w'.cell? ⟨by', off' + k * 7 + 2, none⟩ = some (.int .i64 y.p.k) ∧ w'.cell? ⟨by', off' + k * 7 + 3, none⟩ = some (.string y.p.s.1) ∧ w'.cell? ⟨by', off' + k * 7 + 4, none⟩ = some (.int .i64 y.p.o) ∧ w'.cell? ⟨by', off' + k * 7 + 5, none⟩ = some (.int .i64 y.p.n) ∧ w'.cell? ⟨by', off' + k * 7 + 6, none⟩ = some (.slice au y.p.ls.length ku))) [] (by kernel_rfl) (HSC.out _ (Below.refl _ _)) (fun hS => ?_)
     try dsimp only at hS
     refine wpAnyG_tk (i := 0) (v := ?v0_1rst) rfl (Or.inl ⟨by rfl, ?a_⟩) hS ?b_
     case a_ => intro w hSw; (try dsimp only at hSw); go_simp; (try with_reducible rfl)
     case b_ =>
     try simp only [nz0, nz1, nz2, Act.put, nz3, nz4, nz5]
     refine wpAnyG_tk (i := 1) (v := ?v1_2rst) rfl (Or.inl ⟨by rfl, ?a_⟩) hS ?b_
     case a_ => intro w hSw; (try dsimp only at hSw); go_simp; (try with_reducible rfl)
     case b_ =>
     try simp only [nz0, nz1, nz2, Act.put, nz3, nz4, nz5]
     refine wpAnyG_tk (i := 2) (v := ?v2_3rst) rfl (Or.inl ⟨by rfl, ?a_⟩) hS ?b_
     case a_ => intro w hSw; (try dsimp only at hSw); go_simp; (try with_reducible rfl)
     case b_ =>
     try simp only [nz0, nz1, nz2, Act.put, nz3, nz4, nz5]
     refine wpAnyG_tk (i := 3) (v := ?v3_4rst) rfl (Or.inl ⟨by rfl, ?a_⟩) hS ?b_
     case a_ => intro w hSw; (try dsimp only at hSw); go_simp; (try with_reducible rfl)
     case b_ =>
     try simp only [nz0, nz1, nz2, Act.put, nz3, nz4, nz5]
     refine wpAnyG_tk (i := 4) (v := ?v4_5rst) rfl (Or.inl ⟨by rfl, ?a_⟩) hS ?b_
     case a_ => intro w hSw; (try dsimp only at hSw); go_simp; (try with_reducible rfl)
     case b_ =>
     try simp only [nz0, nz1, nz2, Act.put, nz3, nz4, nz5]
     refine wpAnyG_tk (i := 5) (v := ?v5_6rst) rfl (Or.inl ⟨by rfl, ?a_⟩) hS ?b_
     case a_ => intro w hSw; (try dsimp only at hSw); go_simp; (try with_reducible rfl)
     case b_ =>
     try simp only [nz0, nz1, nz2, Act.put, nz3, nz4, nz5]
     refine wpAnyG_tk (i := 6) (v := ?v6_7rst) rfl (Or.inl ⟨by rfl, ?a_⟩) hS ?b_
     case a_ => intro w hSw; (try dsimp only at hSw); go_simp; (try with_reducible rfl)
     case b_ =>
     try simp only [nz0, nz1, nz2, Act.put, nz3, nz4, nz5]
     refine wpAnyG_tk (i := 7) (v := ?v7_8rst) rfl (Or.inl ⟨by rfl, ?a_⟩) hS ?b_
     case a_ => intro w hSw; (try dsimp only at hSw); go_simp; (try with_reducible rfl)
     case b_ =>
     try simp only [nz0, nz1, nz2, Act.put, nz3, nz4, nz5]
     refine wpAnyG_one (i := 8) (by kernel_rfl) rfl (fun K hK => ?_)
     go_simp
     refine Calls.mono HS.out ?_
     rintro r9 w5 ⟨rfl, h6⟩
     have HF := Lib.hid h6
     clear h6
     go_wp2_with fail
     refine hK.out _ _ (fun _ => ?hS9rst) ?rest9rst
     case hS9rst => exact HSC.out _ HF.out.low
     clear K hK
     try simp only [nz0, nz1, nz2, Act.put, nz3, nz4, nz5]
     refine wpAnyG_tk (i := 9) (v := ?v9_10rst) rfl (Or.inl ⟨by rfl, ?a_⟩) (HSC.out _ HF.out.low) ?b_
     case a_ => intro w hSw; (try dsimp only at hSw); go_simp; (try with_reducible rfl)
     case b_ =>
     try simp only [nz0, nz1, nz2, Act.put, nz3, nz4, nz5]
     refine wpAnyG_done (by kernel_rfl) ?_ _
     try simp only [nz0, nz1, nz2, Act.put, nz3, nz4, nz5]
     have HE := Lib.hid (HW.out.below HF.out.low)
     clear hS HS HF HW HSC
     go_wp2_with fail
     go_roundw
     case rel =>
      refine ⟨k + 1, HXV.out.2.2, by go_num, fun j h h' hj => ?_, HE.out⟩
      by_cases hjk : j = k
      ·subst hjk; rw [← HXV.out.1, ← HXV.out.2.1]; exact HT.out
      ·exact HAL.out j h h' (by omega)
     case measure => have := HXV.out.2.2; simp [intOf]; omega
    | false =>
     rw [hsm] at HS
     have HT : Hid (¬ SameP xs ys) := Lib.hid fun hh => by
      have := hh.2 k hkx hky
      rw [← HXV.out.1, ← HXV.out.2.1] at this
      rw [show enSame x y = true from this] at hsm; cases hsm
     clear hsm
     go_wp2_with fail
     refine wp_region_G (fun w' => (w'.cell? ⟨bx, off + k * 7, none⟩ = some (.int .i64 x.c) ∧ w'.cell? ⟨bx, off + k * 7 + 1, none⟩ = some (.int .i64 x.m) ∧ w'.cell? ⟨bx, off + k * 7 + 2, none⟩ = some (.int .i64 x.p.k) ∧ w'.cell? ⟨bx, off + k * 7 + 3, none⟩ = some (.string x.p.s.1) ∧ w'.cell? ⟨bx, off + k * 7 + 4, none⟩ = some (.int .i64 x.p.o) ∧ w'.cell? ⟨bx, off + k * 7 + 5, none⟩ = some (.int .i64 x.p.n) ∧ w'.cell? ⟨bx, off + k * 7 + 6, none⟩ = some (.slice av x.p.ls.length kv)) ∧ (w'.cell? ⟨by', off' + k * 7, none⟩ = some (.int .i64 y.c) ∧ w'.cell? ⟨by', off' + k * 7 + 1, none⟩ = some (.int .i64 y.m) ∧ w'.cell? ⟨by', off' + k * 7 + 2, none⟩ = some (.int .i64 y.p.k) ∧ w'.cell? ⟨by', off' + k * 7 + 3, none⟩ = some (.string y.p.s.1) ∧ w'.cell? ⟨by', off' + k * 7 + 4, none⟩ = some (.int .i64 y.p.o) ∧ w'.cell? ⟨by', off' + k * 7 + 5, none⟩ = some (.int .i64 y.p.n) ∧ w'.cell? ⟨by', off' + k * 7 + 6, none⟩ = some (.slice au y.p.ls.length ku))) [] (by kernel_rfl) (HSC.out _ (Below.refl _ _)) (fun hS => ?_)
     try dsimp only at hS
     refine wpAnyG_tk (i := 0) (v := ?v0_1rsf) rfl (Or.inl ⟨by rfl, ?a_⟩) hS ?b_
     case a_ => intro w hSw; (try dsimp only at hSw); go_simp; (try with_reducible rfl)
     case b_ =>
     try simp only [nz0, nz1, nz2, Act.put, nz3, nz4, nz5]
     refine wpAnyG_tk (i := 1) (v := ?v1_2rsf) rfl (Or.inl ⟨by rfl, ?a_⟩) hS ?b_
     case a_ => intro w hSw; (try dsimp only at hSw); go_simp; (try with_reducible rfl)
     case b_ =>
     try simp only [nz0, nz1, nz2, Act.put, nz3, nz4, nz5]
     refine wpAnyG_tk (i := 2) (v := ?v2_3rsf) rfl (Or.inl ⟨by rfl, ?a_⟩) hS ?b_
     case a_ => intro w hSw; (try dsimp only at hSw); go_simp; (try with_reducible rfl)
     case b_ =>
     try simp only [nz0, nz1, nz2, Act.put, nz3, nz4, nz5]
     refine wpAnyG_tk (i := 3) (v := ?v3_4rsf) rfl (Or.inl ⟨by rfl, ?a_⟩) hS ?b_
     case a_ => intro w hSw; (try dsimp only at hSw); go_simp; (try with_reducible rfl)
     case b_ =>
     try simp only [nz0, nz1, nz2, Act.put, nz3, nz4, nz5]
     refine wpAnyG_tk (i := 4) (v := ?v4_5rsf) rfl (Or.inl ⟨by rfl, ?a_⟩) hS ?b_
     case a_ => intro w hSw; (try dsimp only at hSw); go_simp; (try with_reducible rfl)
     case b_ =>
     try simp only [nz0, nz1, nz2, Act.put, nz3, nz4, nz5]
     refine wpAnyG_tk (i := 5) (v := ?v5_6rsf) rfl (Or.inl ⟨by rfl, ?a_⟩) hS ?b_
     case a_ => intro w hSw; (try dsimp only at hSw); go_simp; (try with_reducible rfl)
     case b_ =>
     try simp only [nz0, nz1, nz2, Act.put, nz3, nz4, nz5]
     refine wpAnyG_tk (i := 6) (v := ?v6_7rsf) rfl (Or.inl ⟨by rfl, ?a_⟩) hS ?b_
     case a_ => intro w hSw; (try dsimp only at hSw); go_simp; (try with_reducible rfl)
     case b_ =>
     try simp only [nz0, nz1, nz2, Act.put, nz3, nz4, nz5]
     refine wpAnyG_tk (i := 7) (v := ?v7_8rsf) rfl (Or.inl ⟨by rfl, ?a_⟩) hS ?b_
     case a_ => intro w hSw; (try dsimp only at hSw); go_simp; (try with_reducible rfl)
     case b_ =>
     try simp only [nz0, nz1, nz2, Act.put, nz3, nz4, nz5]
     refine wpAnyG_one (i := 8) (by kernel_rfl) rfl (fun K hK => ?_)
     go_simp
     refine Calls.mono HS.out ?_
     rintro r9 w5 ⟨rfl, h6⟩
     have HF := Lib.hid h6
     clear h6
     go_wp2_with fail
     refine hK.out _ _ (fun _ => ?hS9rsf) ?rest9rsf
     case hS9rsf => exact HSC.out _ HF.out.low
     clear K hK
     try simp only [nz0, nz1, nz2, Act.put, nz3, nz4, nz5]
     refine wpAnyG_tk (i := 9) (v := ?v9_10rsf) rfl (Or.inl ⟨by rfl, ?a_⟩) (HSC.out _ HF.out.low) ?b_
     case a_ => intro w hSw; (try dsimp only at hSw); go_simp; (try with_reducible rfl)
     case b_ =>
     try simp only [nz0, nz1, nz2, Act.put, nz3, nz4, nz5]
     refine wpAnyG_done (by kernel_rfl) ?_ _
     try simp only [nz0, nz1, nz2, Act.put, nz3, nz4, nz5]
     have HE := Lib.hid (HW.out.below HF.out.low)
     clear hS HS HF HW HSC
     go_wp2_with fail
     go_ret
     exact ⟨false, rfl, ⟨(fun h => by cases h), fun h => absurd h HT.out⟩, HE.out⟩
   ·have hd : decide (k < n) = false := decide_eq_false hkn
    have HF := Lib.hid hs
    have HT : Hid (SameP xs ys) := Lib.hid ⟨by have := HN.out; omega, fun j h h' => hall j h h' (by have := HN.out.1; omega)⟩
    clear hs hall hk hkn
    go_wp2_with fail
    go_ret
    exact ⟨true, rfl, ⟨fun _ => HT.out, fun _ => rfl⟩, HF.out⟩
 ·have hne : ((n : Int) != (n' : Int)) = true := by rw [bne_iff_ne]; omega
  have HT : Hid (¬ SameP xs ys) := Lib.hid fun hh => by have := HN.out; have := hh.1; omega
  clear hll
  go_enter Tryz.func63, Tryz.ntmps63
  go_wp2_with fail
  go_ret
  exact ⟨false, rfl, ⟨(fun h => by cases h), fun h => absurd h HT.out⟩, Sep.start w⟩
end Go.Proofs.YtcnbmeiielkigaaGreatDoor
/- The document's SameImage, CopyImage, Copy. -/
namespace Go.Proofs.YtcnbmeiielkigaaGreatDoor
open Go Go.RowKit
set_option linter.unusedVariables false
set_option linter.unusedSimpArgs false
theorem reqB_any {w0 w : World} {L : List Thing} (v u : Value) (l m : List UInt8) (h : Sep w0 L w) (hv : Sl w v (bv l)) (hu : Sl w u (bv m)) (hl : l.length ≤ 1000000000) (hm : m.length ≤ 1000000000) :
  Calls Tryz.prog 62 #[v, u] w fun e w' => e = .returned (.bool (decide (l = m))) ∧ Sep w0 L w' :=
 (eqBytes_any v u l m w hv hu).mono fun e w' ⟨h1, h2⟩ => ⟨by rw [h1]; by_cases e : l = m <;> simp [e], h2 ▸ h⟩
set_option maxRecDepth 100000 in
set_option maxHeartbeats 8000000 in
theorem rsameimg_w {w : World} (ib ic jb jc : Int) (cv ev cu eu : Value) (l m : List UInt8) (xs ys : List (EnM × Value)) (hcv : Sl w cv (bv l)) (hcu : Sl w cu (bv m)) (hev : EnS w ev xs) (heu : EnS w eu ys)
  (hl : l.length ≤ 1000000000) (hm : m.length ≤ 1000000000) (hx : xs.length ≤ 1000000) (hy : ys.length ≤ 1000000) :
  Calls Tryz.prog 45 #[.agg (imgC ib cv ev ic), .agg (imgC jb cu eu jc)] w fun e w' => ∃ r, e = .returned (.bool (imgSame ib ic l jb jc m && r)) ∧ (r = true ↔ SameP xs ys) ∧ Sep w [] w' := by
 obtain ⟨ca, cc, rfl⟩ := bv_form hcv
 obtain ⟨da, dc, rfl⟩ := bv_form hcu
 obtain ⟨ea, ec, rfl⟩ := hev.len
 obtain ⟨fa, fc, rfl⟩ := heu.len
 have h1 := ((Sep.start w).alloc (.cells (imgC ib (.slice ca l.length cc) (.slice ea xs.length ec) ic) 38)).alloc (.cells (imgC jb (.slice da m.length dc) (.slice fa ys.length fc) jc) 38)
 rw [show (w.alloc (.cells (imgC ib (.slice ca l.length cc) (.slice ea xs.length ec) ic) 38)).heap.size = w.heap.size + 1 by simp] at h1
 have HE := Lib.hid (reqB_any (.slice ca l.length cc) (.slice da m.length dc) l m h1 (hcv.below h1.low) (hcu.below h1.low) hl hm)
 have HR := Lib.hid (fun (wx : World) (hb : Below w.heap.size w wx) => resamerow_w (w := wx) ea fa ec fc xs ys (hev.below hb) (heu.below hb) hx hy)
 obtain ⟨b1, hb1⟩ : ∃ q, q = w.heap.size := ⟨_, rfl⟩
 obtain ⟨b2, hb2⟩ : ∃ q, q = w.heap.size + 1 := ⟨_, rfl⟩
 obtain ⟨wa, hwa⟩ : ∃ q, q = (w.alloc (.cells (imgC ib (.slice ca l.length cc) (.slice ea xs.length ec) ic) 38)).alloc (.cells (imgC jb (.slice da m.length dc) (.slice fa ys.length fc) jc) 38) := ⟨_, rfl⟩
 rw [← hwa, ← hb2, ← hb1] at HE
 rw [← hwa, ← hb2, ← hb1] at h1
 unfold imgC at *
 obtain ⟨p0, p1, p2, p3⟩ := cells4i h1.sw2
 obtain ⟨q0, q1, q2, q3⟩ := cells4i h1
 have H1 := Lib.hid h1.drop.drop
 obtain ⟨R, hR⟩ := some_r (SameP xs ys)
 have HRR := Lib.hid hR
 generalize l.length = nl at *
 generalize m.length = nm at *
 generalize xs.length = nx at *
 generalize ys.length = ny at *
 clear h1 hcv hcu hev heu hl hm hx hy hR
 unfold imgSame
 by_cases hib : ib = jb
 ·subst hib
  by_cases hic : ic = jc
  ·subst hic
   go_enter Tryz.func45, Tryz.ntmps45
   (try dsimp only); repeat' (first | go_values | go_skip | go_guarded | go_step | go_upon | go_back)
   (try rw [← hwa])
   (try rw [← hb2, ← hb1])
   clear hwa hb1 hb2
   refine HE.out.mono ?_
   rintro r0 w1 ⟨rfl, h2⟩
   clear p0 p1 p2 p3 q0 q1 q2 q3 HE
   cases hlm : decide (l = m) with
   | true =>
    obtain ⟨p0, p1, p2, p3⟩ := cells4i h2.sw2
    obtain ⟨q0, q1, q2, q3⟩ := cells4i h2
    have HR2 := Lib.hid (HR.out w1 h2.low)
    have H2 := Lib.hid h2
    clear h2 HR
    (try dsimp only); repeat' (first | go_values | go_skip | go_guarded | go_step | go_upon | go_back)
    refine HR2.out.mono ?_
    rintro r1 w2 ⟨r, rfl, hr, h3⟩
    have H3 := Lib.hid (And.intro hr (H2.out.below h3.low).drop.drop)
    clear HR2 h3 hr
    (try dsimp only); repeat' (first | go_values | go_skip | go_guarded | go_step | go_upon | go_back)
    go_ret
    exact ⟨r, by show Ending.returned (Value.bool r) = _; simp [hlm], H3.out.1, H3.out.2⟩
   | false =>
    have H2 := Lib.hid h2.drop.drop
    clear h2
    (try dsimp only); repeat' (first | go_values | go_skip | go_guarded | go_step | go_upon | go_back)
    go_ret
    exact ⟨R, by show Ending.returned (Value.bool false) = _; simp [hlm], HRR.out, H2.out⟩
  ·have d1 : (ic == jc) = false := beq_eq_false_iff_ne.2 hic
   have d2 : decide (ic = jc) = false := decide_eq_false hic
   rw [d2]
   go_enter Tryz.func45, Tryz.ntmps45
   (try dsimp only); repeat' (first | go_values | go_skip | go_guarded | go_step | go_upon | go_back)
   (try rw [← hwa])
   go_ret
   exact ⟨R, by show Ending.returned (Value.bool false) = _; simp, HRR.out, H1.out⟩
 ·have d1 : (ib == jb) = false := beq_eq_false_iff_ne.2 hib
  have d2 : decide (ib = jb) = false := decide_eq_false hib
  rw [d2]
  go_enter Tryz.func45, Tryz.ntmps45
  (try dsimp only); repeat' (first | go_values | go_skip | go_guarded | go_step | go_upon | go_back)
  (try rw [← hwa])
  go_ret
  exact ⟨R, by show Ending.returned (Value.bool false) = _; simp, HRR.out, H1.out⟩
end Go.Proofs.YtcnbmeiielkigaaGreatDoor
