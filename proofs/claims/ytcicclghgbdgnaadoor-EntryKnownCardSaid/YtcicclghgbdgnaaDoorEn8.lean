/- The statement EntryRows. -/
import Derived.Test.YtcicclghgbdgnaaDoorEn5
import Derived.Test.YtcicclghgbdgnaaDoorEn7
import Derived.Test.YtcicclghgbdgnaaDoorEnOf
import Derived.Test.YtcicclghgbdgnaaDoorBkF
namespace Go.Proofs.YtcicclghgbdgnaaDoor
open Go.RowKit
set_option linter.unusedVariables false
set_option linter.unusedSimpArgs false
theorem ens_take {w : World} {a : Option Addr} {n c : Nat} {xs : List (EnM × Value)} (h : EnS w (.slice a n c) xs) (m : Nat) (hm : m ≤ n) : EnS w (.slice a m c) (xs.take m) ∧ (xs.take m).length = m ∧ m ≤ c ∨ m = 0 ∧ xs.take m = [] := by
  rcases h with ⟨a', c', h1, rfl⟩ | ⟨b, off, c', h1, h2, h3, h4, h5⟩
  · simp only [Value.slice.injEq] at h1
    obtain ⟨rfl, rfl, rfl⟩ := h1
    obtain rfl : m = 0 := by omega
    exact .inr ⟨rfl, rfl⟩
  · simp only [Value.slice.injEq] at h1
    obtain ⟨rfl, rfl, rfl⟩ := h1
    have hl : (xs.take m).length = m := by rw [List.length_take]; omega
    refine .inl ⟨.inr ⟨b, off, c, by rw [hl], by rw [hl]; omega, h3, h4, fun i hi => ?_⟩, hl, by omega⟩
    have := h5 i (by omega)
    rw [List.getElem_take]
    exact this
theorem sameP_self (xs : List (EnM × Value)) : SameP xs xs := ⟨rfl, fun j h h' => enSame_self _⟩
set_option maxRecDepth 100000 in
set_option maxHeartbeats 16000000 in
theorem rows04 (a a' : Option Addr) (nx ny c c' m m' : Nat) (xs ys : List (EnM × Value)) (w : World) (hx : EnS w (.slice a m c) xs) (hy : EnS w (.slice a' m' c') ys) (hlx : xs.length = m) (hly : ys.length = m') (hm : m ≤ 40) (hm' : m' ≤ 40) (hmx : (if (40 : Int) < (nx : Int) then (40 : Int) else (nx : Int)) = (m : Int)) (hmy : (if (40 : Int) < (ny : Int) then (40 : Int) else (ny : Int)) = (m' : Int)) (hc : m ≤ c) (hc' : m' ≤ c') (hk : KindsAt w) :
    Calls Tryd.prog 4 #[.slice a nx c, .slice a' ny c'] w fun e w' => e = .returned (.bool true) ∧ Below w.heap.size w w' := by
  have HX := Lib.hid hx
  have HY := Lib.hid hy
  have HK := Lib.hid hk
  have HL := Lib.hid (And.intro hlx (And.intro hly (And.intro hm hm')))
  clear hx hy hk hlx hly
  go_enter Tryd.func4, Tryd.ntmps4
  go_wp2_with fail
  refine wp_region_G (fun w' => True) [] (by kernel_rfl) trivial (fun hS => ?_)
  try dsimp only at hS
  refine wpAnyG_take' (i := 0) (v := ?v0_1rr) rfl (by kernel_rfl) (by kernel_rfl) (by kernel_rfl) (by kernel_rfl) (fun _ _ _ h => h) (Or.inl ⟨by rfl, ?hy0_1rr⟩) trivial ?rest0_1rr
  case hy0_1rr => intro w hSw; (try dsimp only at hSw); go_simp; (try with_reducible rfl)
  case rest0_1rr =>
  try simp only [List.getElem_toArray, List.getElem_cons_succ, List.getElem_cons_zero, Act.put, List.setIfInBounds_toArray, List.set_cons_zero, List.set_cons_succ]
  refine wpAnyG_take' (i := 1) (v := ?v1_2rr) rfl (by kernel_rfl) (by kernel_rfl) (by kernel_rfl) (by kernel_rfl) (fun _ _ _ h => h) (Or.inl ⟨by rfl, ?hy1_2rr⟩) trivial ?rest1_2rr
  case hy1_2rr => intro w hSw; (try dsimp only at hSw); go_simp; (try with_reducible rfl)
  case rest1_2rr =>
  try simp only [List.getElem_toArray, List.getElem_cons_succ, List.getElem_cons_zero, Act.put, List.setIfInBounds_toArray, List.set_cons_zero, List.set_cons_succ]
  refine wpAnyG_take' (i := 2) (v := ?v2_3rr) rfl (by kernel_rfl) (by kernel_rfl) (by kernel_rfl) (by kernel_rfl) (fun _ _ _ h => h) (Or.inl ⟨by rfl, ?hy2_3rr⟩) trivial ?rest2_3rr
  case hy2_3rr => intro w hSw; (try dsimp only at hSw); go_simp; (try with_reducible rfl)
  case rest2_3rr =>
  try simp only [List.getElem_toArray, List.getElem_cons_succ, List.getElem_cons_zero, Act.put, List.setIfInBounds_toArray, List.set_cons_zero, List.set_cons_succ]
  refine wpAnyG_take' (i := 3) (v := ?v3_4rr) rfl (by kernel_rfl) (by kernel_rfl) (by kernel_rfl) (by kernel_rfl) (fun _ _ _ h => h) (Or.inl ⟨by rfl, ?hy3_4rr⟩) trivial ?rest3_4rr
  case hy3_4rr => intro w hSw; (try dsimp only at hSw); go_simp; (try with_reducible rfl)
  case rest3_4rr =>
  try simp only [List.getElem_toArray, List.getElem_cons_succ, List.getElem_cons_zero, Act.put, List.setIfInBounds_toArray, List.set_cons_zero, List.set_cons_succ]
  refine wpAnyG_take' (i := 4) (v := ?v4_5rr) rfl (by kernel_rfl) (by kernel_rfl) (by kernel_rfl) (by kernel_rfl) (fun _ _ _ h => h) (Or.inl ⟨by rfl, ?hy4_5rr⟩) trivial ?rest4_5rr
  case hy4_5rr => intro w hSw; (try dsimp only at hSw); go_simp; (try with_reducible rfl)
  case rest4_5rr =>
  try simp only [List.getElem_toArray, List.getElem_cons_succ, List.getElem_cons_zero, Act.put, List.setIfInBounds_toArray, List.set_cons_zero, List.set_cons_succ]
  refine wpAnyG_take' (i := 5) (v := ?v5_6rr) rfl (by kernel_rfl) (by kernel_rfl) (by kernel_rfl) (by kernel_rfl) (fun _ _ _ h => h) (Or.inl ⟨by rfl, ?hy5_6rr⟩) trivial ?rest5_6rr
  case hy5_6rr => intro w hSw; (try dsimp only at hSw); go_simp; (try with_reducible rfl)
  case rest5_6rr =>
  try simp only [List.getElem_toArray, List.getElem_cons_succ, List.getElem_cons_zero, Act.put, List.setIfInBounds_toArray, List.set_cons_zero, List.set_cons_succ]
  refine wpAnyG_take' (i := 6) (v := ?v6_7rr) rfl (by kernel_rfl) (by kernel_rfl) (by kernel_rfl) (by kernel_rfl) (fun _ _ _ h => h) (Or.inl ⟨by rfl, ?hy6_7rr⟩) trivial ?rest6_7rr
  case hy6_7rr => intro w hSw; (try dsimp only at hSw); go_simp; (try with_reducible rfl)
  case rest6_7rr =>
  try simp only [List.getElem_toArray, List.getElem_cons_succ, List.getElem_cons_zero, Act.put, List.setIfInBounds_toArray, List.set_cons_zero, List.set_cons_succ]
  refine wpAnyG_take' (i := 7) (v := ?v7_8rr) rfl (by kernel_rfl) (by kernel_rfl) (by kernel_rfl) (by kernel_rfl) (fun _ _ _ h => h) (Or.inl ⟨by rfl, ?hy7_8rr⟩) trivial ?rest7_8rr
  case hy7_8rr => intro w hSw; (try dsimp only at hSw); go_simp; (try with_reducible rfl)
  case rest7_8rr =>
  try simp only [List.getElem_toArray, List.getElem_cons_succ, List.getElem_cons_zero, Act.put, List.setIfInBounds_toArray, List.set_cons_zero, List.set_cons_succ]
  refine wpAnyG_take' (i := 8) (v := ?v8_9rr) rfl (by kernel_rfl) (by kernel_rfl) (by kernel_rfl) (by kernel_rfl) (fun _ _ _ h => h) (Or.inl ⟨by rfl, ?hy8_9rr⟩) trivial ?rest8_9rr
  case hy8_9rr => intro w hSw; (try dsimp only at hSw); go_simp; (try with_reducible rfl)
  case rest8_9rr =>
  try simp only [List.getElem_toArray, List.getElem_cons_succ, List.getElem_cons_zero, Act.put, List.setIfInBounds_toArray, List.set_cons_zero, List.set_cons_succ]
  refine wpAnyG_take' (i := 9) (v := ?v9_10rr) rfl (by kernel_rfl) (by kernel_rfl) (by kernel_rfl) (by kernel_rfl) (fun _ _ _ h => h) (Or.inl ⟨by rfl, ?hy9_10rr⟩) trivial ?rest9_10rr
  case hy9_10rr => intro w hSw; (try dsimp only at hSw); go_simp; (try with_reducible rfl)
  case rest9_10rr =>
  try simp only [List.getElem_toArray, List.getElem_cons_succ, List.getElem_cons_zero, Act.put, List.setIfInBounds_toArray, List.set_cons_zero, List.set_cons_succ]
  refine wpAnyG_one (i := 10) (by kernel_rfl) rfl (fun K hK => ?_)
  go_simp
  refine hK.out _ _ (fun _ => ?hS11rr) ?rest11rr
  case hS11rr => exact trivial
  clear K hK
  try simp only [List.getElem_toArray, List.getElem_cons_succ, List.getElem_cons_zero, Act.put, List.setIfInBounds_toArray, List.set_cons_zero, List.set_cons_succ]
  refine wpAnyG_one (i := 11) (by kernel_rfl) rfl (fun K hK => ?_)
  go_simp
  refine hK.out _ _ (fun _ => ?hS12rr) ?rest12rr
  case hS12rr => exact trivial
  clear K hK
  try simp only [List.getElem_toArray, List.getElem_cons_succ, List.getElem_cons_zero, Act.put, List.setIfInBounds_toArray, List.set_cons_zero, List.set_cons_succ]
  refine wpAnyG_done (by kernel_rfl) ?_ _
  try simp only [List.getElem_toArray, List.getElem_cons_succ, List.getElem_cons_zero, Act.put, List.setIfInBounds_toArray, List.set_cons_zero, List.set_cons_succ]
  clear hS
  have hd := (Sep.start w).drew
  have HR1 := Lib.hid (row_any a c m xs hd (HX.out.below hd.low) (HK.out.below hd.low) HL.out.1 (by omega))
  obtain ⟨ea, hea⟩ : ∃ z, z = eB (rowOk xs) := ⟨_, rfl⟩
  have HEA := Lib.hid hea.symm
  unfold BysE at HR1
  rw [HEA.out] at HR1
  clear hd hea hmx hmy hc hc'
  go_wp2_with fail
  refine HR1.out.mono ?_
  rintro r0 w1 ⟨u1, rfl, h1⟩
  have HR2 := Lib.hid (rerow_any a c m xs h1 (HX.out.below h1.low) HL.out.1 (by omega))
  unfold BysE at HR2
  rw [HEA.out] at HR2
  clear HR1 h1
  go_wp2_with fail
  refine HR2.out.mono ?_
  rintro r0 w2 ⟨u2, rfl, h2⟩
  have HQ := Lib.hid (eqBytes_any u2 u2 _ _ w2 h2.sl h2.sl)
  have HQ1 := Lib.hid (eqBytes_any u1 u2 _ _ w2 h2.sw2.sl h2.sl)
  rw [show ∀ l : List UInt8, (l == l) = true from fun l => beq_self_eq_true l] at HQ1
  have hs1 := samerow_w a a' c c' xs ys (HL.out.1.symm ▸ HX.out.below h2.low) (HL.out.2.1.symm ▸ HY.out.below h2.low) (by have := HL.out; omega) (by have := HL.out; omega)
  rw [HL.out.1, HL.out.2.1] at hs1
  have HS1 := Lib.hid hs1
  have H2 := Lib.hid (Sep.nil h2.low)
  clear HR2 h2 HQ hs1
  go_wp2_with (refine HQ1.out.mono ?_; rintro r9 w9 ⟨rfl, rfl⟩)
  refine HS1.out.mono ?_
  rintro r0 w3 ⟨r1, rfl, hr1, h3⟩
  have h3' := H2.out.below h3.low
  have hs2 := resamerow_w a a' c c' xs ys (HL.out.1.symm ▸ HX.out.below h3'.low) (HL.out.2.1.symm ▸ HY.out.below h3'.low) (by have := HL.out; omega) (by have := HL.out; omega)
  rw [HL.out.1, HL.out.2.1] at hs2
  have HS2 := Lib.hid hs2
  have H3 := Lib.hid h3'
  have HR := Lib.hid hr1
  clear HS1 HQ1 H2 h3 h3' hs2 hr1
  go_wp2_with fail
  refine HS2.out.mono ?_
  rintro r0 w4 ⟨r2, rfl, hr2, h4⟩
  obtain rfl : r1 = r2 := by rw [Bool.eq_iff_iff, HR.out, hr2]
  have h4' := H3.out.below h4.low
  have hs3 := samerow_w a a c c xs xs (HL.out.1.symm ▸ HX.out.below h4'.low) (HL.out.1.symm ▸ HX.out.below h4'.low) (by have := HL.out; omega) (by have := HL.out; omega)
  rw [HL.out.1] at hs3
  have HS3 := Lib.hid hs3
  have H4 := Lib.hid h4'
  clear HS2 H3 h4 h4' hs3 hr2 HR
  go_wp2_with fail
  refine HS3.out.mono ?_
  rintro r0 w5 ⟨r3, rfl, hr3, h5⟩
  obtain rfl : r3 = true := hr3.2 (sameP_self xs)
  have h5' := H4.out.below h5.low
  have HW := Lib.hid (works4_any h5' (HK.out.below h5'.low))
  clear HS3 H4 h5 h5' hr3
  go_wp2_with (refine HW.out.mono ?_; rintro r0 w22 ⟨rfl, h22⟩)
  go_ret
  exact ⟨rfl, h22.low⟩
theorem ens_of {w : World} {v : Value} (h : RdC Tryd.prog w 38 [v]) : ∃ xs : List (EnM × Value), EnS w v xs := by
  obtain ⟨a, len, cap, rfl, h1, h2, h3⟩ := h.rows Tryd.underlying38 (show Tryd.prog.cellsOf 26 = 7 by kernel_rfl) (by decide)
  by_cases h0 : len = 0
  · subst h0
    exact ⟨[], .inl ⟨a, cap, rfl, rfl⟩⟩
  · obtain ⟨b, off, rfl, hb, -⟩ := h3 0 (by omega)
    have hc : ∀ i, i < len → ∃ q : EnM × Value, En7 w b (off + i * 7) q.1 q.2 ∧ LnS w q.2 q.1.p.ls := fun i hi => by
      obtain ⟨b', off', hab, _, cs, hl, hc, hr⟩ := h3 i hi
      simp only [Option.some.injEq, Addr.mk.injEq, and_true] at hab
      obtain ⟨rfl, rfl⟩ := hab
      obtain ⟨c, m, k, s, o, n, u, ls, rfl, hv⟩ := en_of hr
      exact ⟨(⟨c, m, ⟨k, s, o, n, ls⟩⟩, u), ⟨hc 0 (by simp), hc 1 (by simp), hc 2 (by simp), hc 3 (by simp), hc 4 (by simp), hc 5 (by simp), hc 6 (by simp)⟩, hv⟩
    have hpick : ∀ i : Nat, ∃ q : EnM × Value, i < len → En7 w b (off + i * 7) q.1 q.2 ∧ LnS w q.2 q.1.p.ls := fun i => by
      by_cases hi : i < len
      · obtain ⟨q, h⟩ := hc i hi; exact ⟨q, fun _ => h⟩
      · exact ⟨(enX, .nilFunc), fun h => absurd h hi⟩
    obtain ⟨f, hf⟩ := Classical.axiomOfChoice hpick
    refine ⟨(List.range len).map f, .inr ⟨b, off, cap, by simp, by simpa using h1, h2, hb, fun i hi => ?_⟩⟩
    have hi' : i < len := by simpa using hi
    rw [List.getElem_map, List.getElem_range]
    exact hf i hi'
theorem ens_cut {w : World} {v : Value} {xs : List (EnM × Value)} (h : EnS w v xs) : ∃ a n c m zs, v = .slice a n c ∧ EnS w (.slice a m c) zs ∧ zs.length = m ∧ m ≤ 40 ∧ (if (40 : Int) < (n : Int) then (40 : Int) else (n : Int)) = (m : Int) ∧ m ≤ c := by
  obtain ⟨a, c, rfl⟩ := h.len
  obtain ⟨m, h1, h2, h3, h4⟩ := min_len xs.length 40
  rcases ens_take h m h1 with ⟨e1, e2, e3⟩ | ⟨rfl, e2⟩
  · exact ⟨a, xs.length, c, m, _, rfl, e1, e2, h2, h3, e3⟩
  · exact ⟨a, xs.length, c, 0, [], rfl, .inl ⟨a, c, rfl, rfl⟩, rfl, h2, h3, Nat.zero_le _⟩
theorem rows04_in (v v' : Value) (w : World) (h : RdC Tryd.prog w 38 [v]) (h' : RdC Tryd.prog w 38 [v']) (hk : KindsAt w) :
    Calls Tryd.prog 4 #[v, v'] w fun e w' => e = .returned (.bool true) ∧ Below w.heap.size w w' := by
  obtain ⟨xs, hx⟩ := ens_of h
  obtain ⟨ys, hy⟩ := ens_of h'
  obtain ⟨a, n, c, m, zs, rfl, x1, x2, x3, x4, x5⟩ := ens_cut hx
  obtain ⟨a', n', c', m', zs', rfl, y1, y2, y3, y4, y5⟩ := ens_cut hy
  exact rows04 a a' n n' c c' m m' zs zs' w x1 y1 x2 y2 x3 y3 x4 y4 x5 y5 hk
end Go.Proofs.YtcicclghgbdgnaaDoor
