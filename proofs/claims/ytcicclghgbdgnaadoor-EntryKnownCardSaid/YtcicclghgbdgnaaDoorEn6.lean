/- The statement EntryWrites. -/
import Derived.Test.YtcicclghgbdgnaaDoorEn5
import Derived.Test.YtcicclghgbdgnaaDoorBkF
import Derived.Test.YtcicclghgbdgnaaDoorHeldList
import Derived.Test.YtcicclghgbdgnaaDoorBkB
import Derived.Test.YtcicclghgbdgnaaDoorItem25
namespace Go.Proofs.YtcicclghgbdgnaaDoor
open Go.RowKit
set_option linter.unusedVariables false
set_option linter.unusedSimpArgs false
theorem lnCells_put4 : ∀ (ls : List Ln) (i : Nat) (x : Int) (hi : i < ls.length), (lnCells ls).set (i * 2 + 1) (.int .i64 x) = lnCells (ls.set i (ls[i].1, x))
  | l :: ls, 0, x, _ => rfl
  | l :: ls, i + 1, x, hi => by
    have hi' : i < ls.length := by simpa using hi
    have h := lnCells_put4 ls i x hi'
    rw [List.set_cons_succ, List.getElem_cons_succ]
    show (Value.string l.1.1 :: .int .i64 l.2 :: lnCells ls).set ((i + 1) * 2 + 1) _ = Value.string l.1.1 :: .int .i64 l.2 :: lnCells (ls.set i (ls[i].1, x))
    rw [show (i + 1) * 2 + 1 = (i * 2 + 1) + 1 + 1 by omega, List.set_cons_succ, List.set_cons_succ, h]
set_option maxRecDepth 100000 in
set_option maxHeartbeats 16000000 in
theorem writes04 (x y : EnM) (a a' : Option Addr) (nx ny c c' m m' : Nat) (w : World) (hx : LnS w (.slice a m c) x.p.ls) (hy : LnS w (.slice a' m' c') y.p.ls) (hlx : x.p.ls.length = m) (hly : y.p.ls.length = m') (hm8 : m ≤ 8) (hmx : (if (8 : Int) < (nx : Int) then (8 : Int) else (nx : Int)) = (m : Int)) (hmy : (if (8 : Int) < (ny : Int) then (8 : Int) else (ny : Int)) = (m' : Int)) (hc : m ≤ c) (hc' : m' ≤ c') (hk : KindsAt w) :
    Calls Tryd.prog 3 #[enV x (.slice a nx c), enV y (.slice a' ny c')] w fun e w' => e = .returned (.bool true) ∧ Below w.heap.size w w' := by
  have h1 := ((Sep.start w).alloc (.cells (enC x (.slice a nx c)) 26)).alloc (.cells (enC y (.slice a' ny c')) 26)
  rw [show (w.alloc (.cells (enC x (.slice a nx c)) 26)).heap.size = w.heap.size + 1 by simp] at h1
  obtain ⟨b2, hb2⟩ : ∃ z, z = w.heap.size := ⟨_, rfl⟩
  obtain ⟨b3, hb3⟩ : ∃ z, z = b2 + 1 := ⟨_, rfl⟩
  obtain ⟨w1, hw1⟩ : ∃ z, z = (w.alloc (.cells (enC x (.slice a nx c)) 26)).alloc (.cells (enC y (.slice a' ny c')) 26) := ⟨_, rfl⟩
  rw [← hw1, ← hb2, ← hb3] at h1
  unfold enC at h1 hw1
  have C6 := Lib.hid (cells7 h1.drew.sw2).2.2.2.2.2.2
  have D6 := Lib.hid (cells7 h1.drew).2.2.2.2.2.2
  have c6 := C6.out
  have f6 := (frz7 h1.drew.sw2).2.2.2.2.2.2
  have h2' := h1.sw2.setCell 6 (.slice a m c)
  have h2 := h2'.drew
  have d6 := (cells7 h2.sw2).2.2.2.2.2.2
  have g6 := (frz7 h2.sw2).2.2.2.2.2.2
  have D7 := Lib.hid d6
  have h3 : Sep w (Cl b3 #[.int .i64 y.c, .int .i64 y.m, .int .i64 y.p.k, .string y.p.s.1, .int .i64 y.p.o, .int .i64 y.p.n, .slice a' m' c'] 26 :: Cl b2 #[.int .i64 x.c, .int .i64 x.m, .int .i64 x.p.k, .string x.p.s.1, .int .i64 x.p.o, .int .i64 x.p.n, .slice a m c] 26 :: []) _ := (h2'.sw2.setCell 6 (.slice a' m' c')).drew
  have H3 := Lib.hid h3
  have HX := Lib.hid hx
  have HY := Lib.hid hy
  have HK := Lib.hid hk
  have HLX := Lib.hid hlx
  have HLY := Lib.hid hly
  unfold enV
  clear h1 h2 h2' h3 hx hy hk hlx hly
  go_enter Tryd.func3, Tryd.ntmps3
  go_wp2_with fail
  rw [← hw1, ← hb2, ← hb3]
  clear hw1 hb2 hb3
  refine wp_region_H [(20, fun w' => w'.cell? ⟨b2, 6, none⟩ = some (.slice a nx c)), (23, fun w' => w'.cell? ⟨b3, 6, none⟩ = some (.slice a' ny c'))] #[false, false, false, false, false, false, false, false, false, false, false, false, false, false, false, false, false, false, false, false, false, false, false, false] (by kernel_rfl) (by kernel_rfl) (by intro p hp; simp only [List.mem_cons, List.not_mem_nil, or_false] at hp; rcases hp with rfl | rfl; exact C6.out; exact D6.out) (fun hS => ?_)
  refine wpAnyH_read (i := 0) (v := ?v0_1ra) 20 (List.mem_cons_self ..) (by kernel_rfl) rfl (by kernel_rfl) (by kernel_rfl) (by kernel_rfl) (by kernel_rfl) (fun _ _ _ h => h) (Or.inl ⟨by rfl, ?hy0_1ra⟩) hS ?rest0_1ra
  case hy0_1ra => intro w hSw; (try dsimp only at hSw); go_simp; (try with_reducible rfl)
  case rest0_1ra =>
  try simp only [List.getElem_toArray, List.getElem_cons_succ, List.getElem_cons_zero, Act.put, List.setIfInBounds_toArray, List.set_cons_zero, List.set_cons_succ]
  refine wpAnyH_read (i := 1) (v := ?v1_2ra) 20 (List.mem_cons_self ..) (by kernel_rfl) rfl (by kernel_rfl) (by kernel_rfl) (by kernel_rfl) (by kernel_rfl) (fun _ _ _ h => h) (Or.inl ⟨by rfl, ?hy1_2ra⟩) hS ?rest1_2ra
  case hy1_2ra => intro w hSw; (try dsimp only at hSw); go_simp; (try with_reducible rfl)
  case rest1_2ra =>
  try simp only [List.getElem_toArray, List.getElem_cons_succ, List.getElem_cons_zero, Act.put, List.setIfInBounds_toArray, List.set_cons_zero, List.set_cons_succ]
  refine wpAnyH_read (i := 2) (v := ?v2_3ra) 20 (List.mem_cons_self ..) (by kernel_rfl) rfl (by kernel_rfl) (by kernel_rfl) (by kernel_rfl) (by kernel_rfl) (fun _ _ _ h => h) (Or.inl ⟨by rfl, ?hy2_3ra⟩) hS ?rest2_3ra
  case hy2_3ra => intro w hSw; (try dsimp only at hSw); go_simp; (try with_reducible rfl)
  case rest2_3ra =>
  try simp only [List.getElem_toArray, List.getElem_cons_succ, List.getElem_cons_zero, Act.put, List.setIfInBounds_toArray, List.set_cons_zero, List.set_cons_succ]
  refine wpAnyH_read (i := 3) (v := ?v3_4ra) 20 (List.mem_cons_self ..) (by kernel_rfl) rfl (by kernel_rfl) (by kernel_rfl) (by kernel_rfl) (by kernel_rfl) (fun _ _ _ h => h) (Or.inl ⟨by rfl, ?hy3_4ra⟩) hS ?rest3_4ra
  case hy3_4ra => intro w hSw; (try dsimp only at hSw); go_simp; (try with_reducible rfl)
  case rest3_4ra =>
  try simp only [List.getElem_toArray, List.getElem_cons_succ, List.getElem_cons_zero, Act.put, List.setIfInBounds_toArray, List.set_cons_zero, List.set_cons_succ]
  refine wpAnyH_read (i := 4) (v := ?v4_5ra) 20 (List.mem_cons_self ..) (by kernel_rfl) rfl (by kernel_rfl) (by kernel_rfl) (by kernel_rfl) (by kernel_rfl) (fun _ _ _ h => h) (Or.inl ⟨by rfl, ?hy4_5ra⟩) hS ?rest4_5ra
  case hy4_5ra => intro w hSw; (try dsimp only at hSw); go_simp; (try with_reducible rfl)
  case rest4_5ra =>
  try simp only [List.getElem_toArray, List.getElem_cons_succ, List.getElem_cons_zero, Act.put, List.setIfInBounds_toArray, List.set_cons_zero, List.set_cons_succ]
  refine wpAnyH_read (i := 5) (v := ?v5_6ra) 20 (List.mem_cons_self ..) (by kernel_rfl) rfl (by kernel_rfl) (by kernel_rfl) (by kernel_rfl) (by kernel_rfl) (fun _ _ _ h => h) (Or.inl ⟨by rfl, ?hy5_6ra⟩) hS ?rest5_6ra
  case hy5_6ra => intro w hSw; (try dsimp only at hSw); go_simp; (try with_reducible rfl)
  case rest5_6ra =>
  try simp only [List.getElem_toArray, List.getElem_cons_succ, List.getElem_cons_zero, Act.put, List.setIfInBounds_toArray, List.set_cons_zero, List.set_cons_succ]
  refine wpAnyH_read (i := 6) (v := ?v6_7ra) 20 (List.mem_cons_self ..) (by kernel_rfl) rfl (by kernel_rfl) (by kernel_rfl) (by kernel_rfl) (by kernel_rfl) (fun _ _ _ h => h) (Or.inl ⟨by rfl, ?hy6_7ra⟩) hS ?rest6_7ra
  case hy6_7ra => intro w hSw; (try dsimp only at hSw); go_simp; (try with_reducible rfl)
  case rest6_7ra =>
  try simp only [List.getElem_toArray, List.getElem_cons_succ, List.getElem_cons_zero, Act.put, List.setIfInBounds_toArray, List.set_cons_zero, List.set_cons_succ]
  refine wpAnyH_read (i := 7) (v := ?v7_8ra) 20 (List.mem_cons_self ..) (by kernel_rfl) rfl (by kernel_rfl) (by kernel_rfl) (by kernel_rfl) (by kernel_rfl) (fun _ _ _ h => h) (Or.inl ⟨by rfl, ?hy7_8ra⟩) hS ?rest7_8ra
  case hy7_8ra => intro w hSw; (try dsimp only at hSw); go_simp; (try with_reducible rfl)
  case rest7_8ra =>
  try simp only [List.getElem_toArray, List.getElem_cons_succ, List.getElem_cons_zero, Act.put, List.setIfInBounds_toArray, List.set_cons_zero, List.set_cons_succ]
  refine wpAnyH_read (i := 8) (v := ?v8_9ra) 20 (List.mem_cons_self ..) (by kernel_rfl) rfl (by kernel_rfl) (by kernel_rfl) (by kernel_rfl) (by kernel_rfl) (fun _ _ _ h => h) (Or.inl ⟨by rfl, ?hy8_9ra⟩) hS ?rest8_9ra
  case hy8_9ra => intro w hSw; (try dsimp only at hSw); go_simp; (try with_reducible rfl)
  case rest8_9ra =>
  try simp only [List.getElem_toArray, List.getElem_cons_succ, List.getElem_cons_zero, Act.put, List.setIfInBounds_toArray, List.set_cons_zero, List.set_cons_succ]
  refine wpAnyH_read (i := 9) (v := ?v9_10ra) 23 (List.mem_cons_of_mem _ (List.mem_cons_self ..)) (by kernel_rfl) rfl (by kernel_rfl) (by kernel_rfl) (by kernel_rfl) (by kernel_rfl) (fun _ _ _ h => h) (Or.inl ⟨by rfl, ?hy9_10ra⟩) hS ?rest9_10ra
  case hy9_10ra => intro w hSw; (try dsimp only at hSw); go_simp; (try with_reducible rfl)
  case rest9_10ra =>
  try simp only [List.getElem_toArray, List.getElem_cons_succ, List.getElem_cons_zero, Act.put, List.setIfInBounds_toArray, List.set_cons_zero, List.set_cons_succ]
  refine wpAnyH_read (i := 10) (v := ?v10_11ra) 23 (List.mem_cons_of_mem _ (List.mem_cons_self ..)) (by kernel_rfl) rfl (by kernel_rfl) (by kernel_rfl) (by kernel_rfl) (by kernel_rfl) (fun _ _ _ h => h) (Or.inl ⟨by rfl, ?hy10_11ra⟩) hS ?rest10_11ra
  case hy10_11ra => intro w hSw; (try dsimp only at hSw); go_simp; (try with_reducible rfl)
  case rest10_11ra =>
  try simp only [List.getElem_toArray, List.getElem_cons_succ, List.getElem_cons_zero, Act.put, List.setIfInBounds_toArray, List.set_cons_zero, List.set_cons_succ]
  refine wpAnyH_read (i := 11) (v := ?v11_12ra) 23 (List.mem_cons_of_mem _ (List.mem_cons_self ..)) (by kernel_rfl) rfl (by kernel_rfl) (by kernel_rfl) (by kernel_rfl) (by kernel_rfl) (fun _ _ _ h => h) (Or.inl ⟨by rfl, ?hy11_12ra⟩) hS ?rest11_12ra
  case hy11_12ra => intro w hSw; (try dsimp only at hSw); go_simp; (try with_reducible rfl)
  case rest11_12ra =>
  try simp only [List.getElem_toArray, List.getElem_cons_succ, List.getElem_cons_zero, Act.put, List.setIfInBounds_toArray, List.set_cons_zero, List.set_cons_succ]
  refine wpAnyH_read (i := 12) (v := ?v12_13ra) 23 (List.mem_cons_of_mem _ (List.mem_cons_self ..)) (by kernel_rfl) rfl (by kernel_rfl) (by kernel_rfl) (by kernel_rfl) (by kernel_rfl) (fun _ _ _ h => h) (Or.inl ⟨by rfl, ?hy12_13ra⟩) hS ?rest12_13ra
  case hy12_13ra => intro w hSw; (try dsimp only at hSw); go_simp; (try with_reducible rfl)
  case rest12_13ra =>
  try simp only [List.getElem_toArray, List.getElem_cons_succ, List.getElem_cons_zero, Act.put, List.setIfInBounds_toArray, List.set_cons_zero, List.set_cons_succ]
  refine wpAnyH_read (i := 13) (v := ?v13_14ra) 23 (List.mem_cons_of_mem _ (List.mem_cons_self ..)) (by kernel_rfl) rfl (by kernel_rfl) (by kernel_rfl) (by kernel_rfl) (by kernel_rfl) (fun _ _ _ h => h) (Or.inl ⟨by rfl, ?hy13_14ra⟩) hS ?rest13_14ra
  case hy13_14ra => intro w hSw; (try dsimp only at hSw); go_simp; (try with_reducible rfl)
  case rest13_14ra =>
  try simp only [List.getElem_toArray, List.getElem_cons_succ, List.getElem_cons_zero, Act.put, List.setIfInBounds_toArray, List.set_cons_zero, List.set_cons_succ]
  refine wpAnyH_read (i := 14) (v := ?v14_15ra) 23 (List.mem_cons_of_mem _ (List.mem_cons_self ..)) (by kernel_rfl) rfl (by kernel_rfl) (by kernel_rfl) (by kernel_rfl) (by kernel_rfl) (fun _ _ _ h => h) (Or.inl ⟨by rfl, ?hy14_15ra⟩) hS ?rest14_15ra
  case hy14_15ra => intro w hSw; (try dsimp only at hSw); go_simp; (try with_reducible rfl)
  case rest14_15ra =>
  try simp only [List.getElem_toArray, List.getElem_cons_succ, List.getElem_cons_zero, Act.put, List.setIfInBounds_toArray, List.set_cons_zero, List.set_cons_succ]
  refine wpAnyH_read (i := 15) (v := ?v15_16ra) 23 (List.mem_cons_of_mem _ (List.mem_cons_self ..)) (by kernel_rfl) rfl (by kernel_rfl) (by kernel_rfl) (by kernel_rfl) (by kernel_rfl) (fun _ _ _ h => h) (Or.inl ⟨by rfl, ?hy15_16ra⟩) hS ?rest15_16ra
  case hy15_16ra => intro w hSw; (try dsimp only at hSw); go_simp; (try with_reducible rfl)
  case rest15_16ra =>
  try simp only [List.getElem_toArray, List.getElem_cons_succ, List.getElem_cons_zero, Act.put, List.setIfInBounds_toArray, List.set_cons_zero, List.set_cons_succ]
  refine wpAnyH_read (i := 16) (v := ?v16_17ra) 23 (List.mem_cons_of_mem _ (List.mem_cons_self ..)) (by kernel_rfl) rfl (by kernel_rfl) (by kernel_rfl) (by kernel_rfl) (by kernel_rfl) (fun _ _ _ h => h) (Or.inl ⟨by rfl, ?hy16_17ra⟩) hS ?rest16_17ra
  case hy16_17ra => intro w hSw; (try dsimp only at hSw); go_simp; (try with_reducible rfl)
  case rest16_17ra =>
  try simp only [List.getElem_toArray, List.getElem_cons_succ, List.getElem_cons_zero, Act.put, List.setIfInBounds_toArray, List.set_cons_zero, List.set_cons_succ]
  refine wpAnyH_read (i := 17) (v := ?v17_18ra) 23 (List.mem_cons_of_mem _ (List.mem_cons_self ..)) (by kernel_rfl) rfl (by kernel_rfl) (by kernel_rfl) (by kernel_rfl) (by kernel_rfl) (fun _ _ _ h => h) (Or.inl ⟨by rfl, ?hy17_18ra⟩) hS ?rest17_18ra
  case hy17_18ra => intro w hSw; (try dsimp only at hSw); go_simp; (try with_reducible rfl)
  case rest17_18ra =>
  try simp only [List.getElem_toArray, List.getElem_cons_succ, List.getElem_cons_zero, Act.put, List.setIfInBounds_toArray, List.set_cons_zero, List.set_cons_succ]
  refine wpAnyH_read (i := 18) (v := ?v18_19ra) 23 (List.mem_cons_of_mem _ (List.mem_cons_self ..)) (by kernel_rfl) rfl (by kernel_rfl) (by kernel_rfl) (by kernel_rfl) (by kernel_rfl) (fun _ _ _ h => h) (Or.inl ⟨by rfl, ?hy18_19ra⟩) hS ?rest18_19ra
  case hy18_19ra => intro w hSw; (try dsimp only at hSw); go_simp; (try with_reducible rfl)
  case rest18_19ra =>
  try simp only [List.getElem_toArray, List.getElem_cons_succ, List.getElem_cons_zero, Act.put, List.setIfInBounds_toArray, List.set_cons_zero, List.set_cons_succ]
  refine wpAnyH_read (i := 19) (v := ?v19_20ra) 23 (List.mem_cons_of_mem _ (List.mem_cons_self ..)) (by kernel_rfl) rfl (by kernel_rfl) (by kernel_rfl) (by kernel_rfl) (by kernel_rfl) (fun _ _ _ h => h) (Or.inl ⟨by rfl, ?hy19_20ra⟩) hS ?rest19_20ra
  case hy19_20ra => intro w hSw; (try dsimp only at hSw); go_simp; (try with_reducible rfl)
  case rest19_20ra =>
  try simp only [List.getElem_toArray, List.getElem_cons_succ, List.getElem_cons_zero, Act.put, List.setIfInBounds_toArray, List.set_cons_zero, List.set_cons_succ]
  refine wpAnyH_one (i := 20) (by kernel_rfl) rfl (fun K hK => ?_)
  go_simp
  refine hK.out _ _ ?hS21ra ?rest21ra
  case hS21ra => (intro p hp hl; simp only [List.mem_cons, List.not_mem_nil, or_false] at hp; rcases hp with rfl | rfl; (exact absurd (hl.symm.trans (by kernel_rfl)) Bool.false_ne_true); exact D7.out)
  case rest21ra =>
  clear K hK
  try simp only [List.getElem_toArray, List.getElem_cons_succ, List.getElem_cons_zero, Act.put, List.setIfInBounds_toArray, List.set_cons_zero, List.set_cons_succ]
  refine wpAnyH_one (i := 21) (by kernel_rfl) rfl (fun K hK => ?_)
  go_simp
  refine hK.out _ _ ?hS22ra ?rest22ra
  case hS22ra => (intro p hp hl; simp only [List.mem_cons, List.not_mem_nil, or_false] at hp; rcases hp with rfl | rfl; (exact absurd (hl.symm.trans (by kernel_rfl)) Bool.false_ne_true); exact D7.out)
  case rest22ra =>
  clear K hK
  try simp only [List.getElem_toArray, List.getElem_cons_succ, List.getElem_cons_zero, Act.put, List.setIfInBounds_toArray, List.set_cons_zero, List.set_cons_succ]
  refine wpAnyH_one (i := 22) (by kernel_rfl) rfl (fun K hK => ?_)
  go_simp
  refine hK.out _ _ ?hS23ra ?rest23ra
  case hS23ra => (intro p hp hl; simp only [List.mem_cons, List.not_mem_nil, or_false] at hp; rcases hp with rfl | rfl; (exact absurd (hl.symm.trans (by kernel_rfl)) Bool.false_ne_true); exact D7.out)
  case rest23ra =>
  clear K hK
  try simp only [List.getElem_toArray, List.getElem_cons_succ, List.getElem_cons_zero, Act.put, List.setIfInBounds_toArray, List.set_cons_zero, List.set_cons_succ]
  refine wpAnyH_one (i := 23) (by kernel_rfl) rfl (fun K hK => ?_)
  go_simp
  refine hK.out _ _ ?hS24ra ?rest24ra
  case hS24ra => (intro p hp hl; simp only [List.mem_cons, List.not_mem_nil, or_false] at hp; rcases hp with rfl | rfl; (exact absurd (hl.symm.trans (by kernel_rfl)) Bool.false_ne_true); (exact absurd (hl.symm.trans (by kernel_rfl)) Bool.false_ne_true))
  case rest24ra =>
  clear K hK
  try simp only [List.getElem_toArray, List.getElem_cons_succ, List.getElem_cons_zero, Act.put, List.setIfInBounds_toArray, List.set_cons_zero, List.set_cons_succ]
  refine wpAnyH_done (by kernel_rfl) ?_ _
  try simp only [List.getElem_toArray, List.getElem_cons_succ, List.getElem_cons_zero, Act.put, List.setIfInBounds_toArray, List.set_cons_zero, List.set_cons_succ]
  clear hS C6 D6 D7 c6 f6 d6 g6 hmx hmy hc hc'
  have h3 := H3.out
  clear H3
  generalize ((w1.setCell ⟨b2, 6, none⟩ (.slice a m c)).setCell ⟨b3, 6, none⟩ (.slice a' m' c')).drew = w3 at *
  obtain ⟨ea, hea⟩ : ∃ z, z = eB x.ok := ⟨_, rfl⟩
  obtain ⟨eb, heb⟩ : ∃ z, z = enSame x y := ⟨_, rfl⟩
  have HEA := Lib.hid hea.symm
  have HEB := Lib.hid heb.symm
  have HB := Lib.hid (ebytes_u x _ h3 (HX.out.below h3.low) (HK.out.below h3.low))
  unfold BysE enV at HB
  rw [HEA.out] at HB
  obtain ⟨c0, c1, c2, c3, c4, c5, c6⟩ := cells7 h3.sw2
  clear h3 hea heb
  go_wp2_with fail
  refine HB.out.mono ?_
  rintro r0 w4 ⟨ua, rfl, h4⟩
  clear HB c0 c1 c2 c3 c4 c5 c6
  have HB := Lib.hid (rebytes_u x _ h4 (HX.out.below h4.low) (by rw [HLX.out]; omega))
  unfold BysE enV at HB
  rw [HEA.out] at HB
  obtain ⟨c0, c1, c2, c3, c4, c5, c6⟩ := cells7 h4.sw3
  clear h4
  go_wp2_with fail
  refine HB.out.mono ?_
  rintro r0 w5 ⟨ub, rfl, h5⟩
  clear HB c0 c1 c2 c3 c4 c5 c6
  have HB := Lib.hid (ecopy_any x _ h5 (HX.out.below h5.low) (by rw [HLX.out]; omega))
  unfold enV at HB
  obtain ⟨c0, c1, c2, c3, c4, c5, c6⟩ := cells7 h5.sw4
  clear h5
  go_wp2_with fail
  refine HB.out.mono ?_
  rintro r0 w6 ⟨ux, rfl, h6⟩
  clear HB c0 c1 c2 c3 c4 c5 c6
  obtain ⟨ax, cx, rfl, -⟩ := h6.rnForm
  rw [HLX.out] at h6
  rw [HLX.out]
  have h9 := h6.alloc (.cells #[.int .i64 x.c, .int .i64 x.m, .int .i64 x.p.k, .string x.p.s.1, .int .i64 x.p.o, .int .i64 x.p.n, .slice ax m cx] 26)
  obtain ⟨b9, hb9⟩ : ∃ z, z = w6.heap.size := ⟨_, rfl⟩
  obtain ⟨w9, hw9⟩ : ∃ z, z = w6.alloc (.cells #[.int .i64 x.c, .int .i64 x.m, .int .i64 x.p.k, .string x.p.s.1, .int .i64 x.p.o, .int .i64 x.p.n, .slice ax m cx] 26) := ⟨_, rfl⟩
  rw [← hw9, ← hb9] at h9
  have H9 := Lib.hid h9
  have HK1 := Lib.hid (echeck_any x _ h9.drew (HX.out.below h9.drew.low) (HK.out.below h9.drew.low))
  unfold enV at HK1
  rw [HEA.out] at HK1
  clear h6 h9
  go_wp2_with fail
  rw [← hw9]
  rw [← hb9]
  clear hw9 hb9
  refine wp_region_G (fun w' => (w'.cell? ⟨b2, 0, none⟩ = some (.int .i64 x.c) ∧ w'.cell? ⟨b2, 1, none⟩ = some (.int .i64 x.m) ∧ w'.cell? ⟨b2, 2, none⟩ = some (.int .i64 x.p.k) ∧ w'.cell? ⟨b2, 3, none⟩ = some (.string x.p.s.1) ∧ w'.cell? ⟨b2, 4, none⟩ = some (.int .i64 x.p.o) ∧ w'.cell? ⟨b2, 5, none⟩ = some (.int .i64 x.p.n) ∧ w'.cell? ⟨b2, 6, none⟩ = some (.slice a m c)) ∧ (w'.cell? ⟨b3, 0, none⟩ = some (.int .i64 y.c) ∧ w'.cell? ⟨b3, 1, none⟩ = some (.int .i64 y.m) ∧ w'.cell? ⟨b3, 2, none⟩ = some (.int .i64 y.p.k) ∧ w'.cell? ⟨b3, 3, none⟩ = some (.string y.p.s.1) ∧ w'.cell? ⟨b3, 4, none⟩ = some (.int .i64 y.p.o) ∧ w'.cell? ⟨b3, 5, none⟩ = some (.int .i64 y.p.n) ∧ w'.cell? ⟨b3, 6, none⟩ = some (.slice a' m' c')) ∧ (w'.cell? ⟨b9, 0, none⟩ = some (.int .i64 x.c) ∧ w'.cell? ⟨b9, 1, none⟩ = some (.int .i64 x.m) ∧ w'.cell? ⟨b9, 2, none⟩ = some (.int .i64 x.p.k) ∧ w'.cell? ⟨b9, 3, none⟩ = some (.string x.p.s.1) ∧ w'.cell? ⟨b9, 4, none⟩ = some (.int .i64 x.p.o) ∧ w'.cell? ⟨b9, 5, none⟩ = some (.int .i64 x.p.n) ∧ w'.cell? ⟨b9, 6, none⟩ = some (.slice ax m cx))) [] (by kernel_rfl) ⟨cells7 H9.out.drew.sw6, cells7 H9.out.drew.sw5, cells7 H9.out.drew⟩ (fun hS => ?_)
  try dsimp only at hS
  refine wpAnyG_take' (i := 0) (v := ?v0_1rb) rfl (by kernel_rfl) (by kernel_rfl) (by kernel_rfl) (by kernel_rfl) (fun _ _ _ h => h) (Or.inl ⟨by rfl, ?hy0_1rb⟩) hS ?rest0_1rb
  case hy0_1rb => intro w hSw; (try dsimp only at hSw); go_simp; (try with_reducible rfl)
  case rest0_1rb =>
  try simp only [List.getElem_toArray, List.getElem_cons_succ, List.getElem_cons_zero, Act.put, List.setIfInBounds_toArray, List.set_cons_zero, List.set_cons_succ]
  refine wpAnyG_take' (i := 2) (v := ?v2_2rb) rfl (by kernel_rfl) (by kernel_rfl) (by kernel_rfl) (by kernel_rfl) (fun _ _ _ h => h) (Or.inl ⟨by rfl, ?hy2_2rb⟩) hS ?rest2_2rb
  case hy2_2rb => intro w hSw; (try dsimp only at hSw); go_simp; (try with_reducible rfl)
  case rest2_2rb =>
  try simp only [List.getElem_toArray, List.getElem_cons_succ, List.getElem_cons_zero, Act.put, List.setIfInBounds_toArray, List.set_cons_zero, List.set_cons_succ]
  refine wpAnyG_one (i := 1) (by kernel_rfl) rfl (fun K hK => ?_)
  go_simp
  refine Calls.mono HK1.out ?_
  rintro r9 v1 ⟨rfl, hv1⟩
  have V1 := Lib.hid hv1
  have HK2 := Lib.hid (recheck_any x _ hv1 (HX.out.below hv1.low) (by rw [HLX.out]; omega))
  unfold enV at HK2
  rw [HEA.out] at HK2
  clear hv1
  go_wp2_with fail
  refine hK.out _ _ (fun _ => ?hS3rb) ?rest3rb
  case hS3rb => exact ⟨cells7 V1.out.sw6, cells7 V1.out.sw5, cells7 V1.out⟩
  clear K hK
  try simp only [List.getElem_toArray, List.getElem_cons_succ, List.getElem_cons_zero, Act.put, List.setIfInBounds_toArray, List.set_cons_zero, List.set_cons_succ]
  refine wpAnyG_one (i := 3) (by kernel_rfl) rfl (fun K hK => ?_)
  go_simp
  refine Calls.mono HK2.out ?_
  rintro r9 v2 ⟨rfl, hv2⟩
  have V2 := Lib.hid hv2
  have HQ1 := Lib.hid (eqBytes_any ua ub _ _ v2 hv2.sw4.sl hv2.sw3.sl)
  rw [show ∀ l : List UInt8, (l == l) = true from fun l => beq_self_eq_true l] at HQ1
  have HS1 := Lib.hid (esame_any x y _ _ hv2 (HX.out.below hv2.low) (HY.out.below hv2.low) (by rw [HLX.out]; omega))
  unfold enV at HS1
  rw [HEB.out] at HS1
  clear hv2
  go_wp2_with fail
  refine hK.out _ _ (fun _ => ?hS4rb) ?rest4rb
  case hS4rb => exact ⟨cells7 V2.out.sw6, cells7 V2.out.sw5, cells7 V2.out⟩
  clear K hK
  try simp only [List.getElem_toArray, List.getElem_cons_succ, List.getElem_cons_zero, Act.put, List.setIfInBounds_toArray, List.set_cons_zero, List.set_cons_succ]
  refine wpAnyG_take' (i := 4) (v := ?v4_5rb) rfl (by kernel_rfl) (by kernel_rfl) (by kernel_rfl) (by kernel_rfl) (fun _ _ _ h => h) (Or.inl ⟨by rfl, ?hy4_5rb⟩) ⟨cells7 V2.out.sw6, cells7 V2.out.sw5, cells7 V2.out⟩ ?rest4_5rb
  case hy4_5rb => intro w hSw; (try dsimp only at hSw); go_simp; (try with_reducible rfl)
  case rest4_5rb =>
  try simp only [List.getElem_toArray, List.getElem_cons_succ, List.getElem_cons_zero, Act.put, List.setIfInBounds_toArray, List.set_cons_zero, List.set_cons_succ]
  refine wpAnyG_take' (i := 5) (v := ?v5_6rb) rfl (by kernel_rfl) (by kernel_rfl) (by kernel_rfl) (by kernel_rfl) (fun _ _ _ h => h) (Or.inl ⟨by rfl, ?hy5_6rb⟩) ⟨cells7 V2.out.sw6, cells7 V2.out.sw5, cells7 V2.out⟩ ?rest5_6rb
  case hy5_6rb => intro w hSw; (try dsimp only at hSw); go_simp; (try with_reducible rfl)
  case rest5_6rb =>
  try simp only [List.getElem_toArray, List.getElem_cons_succ, List.getElem_cons_zero, Act.put, List.setIfInBounds_toArray, List.set_cons_zero, List.set_cons_succ]
  refine wpAnyG_take' (i := 6) (v := ?v6_7rb) rfl (by kernel_rfl) (by kernel_rfl) (by kernel_rfl) (by kernel_rfl) (fun _ _ _ h => h) (Or.inl ⟨by rfl, ?hy6_7rb⟩) ⟨cells7 V2.out.sw6, cells7 V2.out.sw5, cells7 V2.out⟩ ?rest6_7rb
  case hy6_7rb => intro w hSw; (try dsimp only at hSw); go_simp; (try with_reducible rfl)
  case rest6_7rb =>
  try simp only [List.getElem_toArray, List.getElem_cons_succ, List.getElem_cons_zero, Act.put, List.setIfInBounds_toArray, List.set_cons_zero, List.set_cons_succ]
  refine wpAnyG_take' (i := 7) (v := ?v7_8rb) rfl (by kernel_rfl) (by kernel_rfl) (by kernel_rfl) (by kernel_rfl) (fun _ _ _ h => h) (Or.inl ⟨by rfl, ?hy7_8rb⟩) ⟨cells7 V2.out.sw6, cells7 V2.out.sw5, cells7 V2.out⟩ ?rest7_8rb
  case hy7_8rb => intro w hSw; (try dsimp only at hSw); go_simp; (try with_reducible rfl)
  case rest7_8rb =>
  try simp only [List.getElem_toArray, List.getElem_cons_succ, List.getElem_cons_zero, Act.put, List.setIfInBounds_toArray, List.set_cons_zero, List.set_cons_succ]
  refine wpAnyG_one (i := 8) (by kernel_rfl) rfl (fun K hK => ?_)
  go_simp
  refine Calls.mono HQ1.out ?_
  rintro r9 wq ⟨rfl, rfl⟩
  go_wp2_with fail
  refine hK.out _ _ (fun _ => ?hS9rb) ?rest9rb
  case hS9rb => exact ⟨cells7 V2.out.sw6, cells7 V2.out.sw5, cells7 V2.out⟩
  clear K hK
  try simp only [List.getElem_toArray, List.getElem_cons_succ, List.getElem_cons_zero, Act.put, List.setIfInBounds_toArray, List.set_cons_zero, List.set_cons_succ]
  refine wpAnyG_take' (i := 9) (v := ?v9_10rb) rfl (by kernel_rfl) (by kernel_rfl) (by kernel_rfl) (by kernel_rfl) (fun _ _ _ h => h) (Or.inl ⟨by rfl, ?hy9_10rb⟩) ⟨cells7 V2.out.sw6, cells7 V2.out.sw5, cells7 V2.out⟩ ?rest9_10rb
  case hy9_10rb => intro w hSw; (try dsimp only at hSw); go_simp; (try with_reducible rfl)
  case rest9_10rb =>
  try simp only [List.getElem_toArray, List.getElem_cons_succ, List.getElem_cons_zero, Act.put, List.setIfInBounds_toArray, List.set_cons_zero, List.set_cons_succ]
  refine wpAnyG_take' (i := 10) (v := ?v10_11rb) rfl (by kernel_rfl) (by kernel_rfl) (by kernel_rfl) (by kernel_rfl) (fun _ _ _ h => h) (Or.inl ⟨by rfl, ?hy10_11rb⟩) ⟨cells7 V2.out.sw6, cells7 V2.out.sw5, cells7 V2.out⟩ ?rest10_11rb
  case hy10_11rb => intro w hSw; (try dsimp only at hSw); go_simp; (try with_reducible rfl)
  case rest10_11rb =>
  try simp only [List.getElem_toArray, List.getElem_cons_succ, List.getElem_cons_zero, Act.put, List.setIfInBounds_toArray, List.set_cons_zero, List.set_cons_succ]
  refine wpAnyG_take' (i := 11) (v := ?v11_12rb) rfl (by kernel_rfl) (by kernel_rfl) (by kernel_rfl) (by kernel_rfl) (fun _ _ _ h => h) (Or.inl ⟨by rfl, ?hy11_12rb⟩) ⟨cells7 V2.out.sw6, cells7 V2.out.sw5, cells7 V2.out⟩ ?rest11_12rb
  case hy11_12rb => intro w hSw; (try dsimp only at hSw); go_simp; (try with_reducible rfl)
  case rest11_12rb =>
  try simp only [List.getElem_toArray, List.getElem_cons_succ, List.getElem_cons_zero, Act.put, List.setIfInBounds_toArray, List.set_cons_zero, List.set_cons_succ]
  refine wpAnyG_take' (i := 12) (v := ?v12_13rb) rfl (by kernel_rfl) (by kernel_rfl) (by kernel_rfl) (by kernel_rfl) (fun _ _ _ h => h) (Or.inl ⟨by rfl, ?hy12_13rb⟩) ⟨cells7 V2.out.sw6, cells7 V2.out.sw5, cells7 V2.out⟩ ?rest12_13rb
  case hy12_13rb => intro w hSw; (try dsimp only at hSw); go_simp; (try with_reducible rfl)
  case rest12_13rb =>
  try simp only [List.getElem_toArray, List.getElem_cons_succ, List.getElem_cons_zero, Act.put, List.setIfInBounds_toArray, List.set_cons_zero, List.set_cons_succ]
  refine wpAnyG_take' (i := 13) (v := ?v13_14rb) rfl (by kernel_rfl) (by kernel_rfl) (by kernel_rfl) (by kernel_rfl) (fun _ _ _ h => h) (Or.inl ⟨by rfl, ?hy13_14rb⟩) ⟨cells7 V2.out.sw6, cells7 V2.out.sw5, cells7 V2.out⟩ ?rest13_14rb
  case hy13_14rb => intro w hSw; (try dsimp only at hSw); go_simp; (try with_reducible rfl)
  case rest13_14rb =>
  try simp only [List.getElem_toArray, List.getElem_cons_succ, List.getElem_cons_zero, Act.put, List.setIfInBounds_toArray, List.set_cons_zero, List.set_cons_succ]
  refine wpAnyG_take' (i := 14) (v := ?v14_15rb) rfl (by kernel_rfl) (by kernel_rfl) (by kernel_rfl) (by kernel_rfl) (fun _ _ _ h => h) (Or.inl ⟨by rfl, ?hy14_15rb⟩) ⟨cells7 V2.out.sw6, cells7 V2.out.sw5, cells7 V2.out⟩ ?rest14_15rb
  case hy14_15rb => intro w hSw; (try dsimp only at hSw); go_simp; (try with_reducible rfl)
  case rest14_15rb =>
  try simp only [List.getElem_toArray, List.getElem_cons_succ, List.getElem_cons_zero, Act.put, List.setIfInBounds_toArray, List.set_cons_zero, List.set_cons_succ]
  refine wpAnyG_take' (i := 15) (v := ?v15_16rb) rfl (by kernel_rfl) (by kernel_rfl) (by kernel_rfl) (by kernel_rfl) (fun _ _ _ h => h) (Or.inl ⟨by rfl, ?hy15_16rb⟩) ⟨cells7 V2.out.sw6, cells7 V2.out.sw5, cells7 V2.out⟩ ?rest15_16rb
  case hy15_16rb => intro w hSw; (try dsimp only at hSw); go_simp; (try with_reducible rfl)
  case rest15_16rb =>
  try simp only [List.getElem_toArray, List.getElem_cons_succ, List.getElem_cons_zero, Act.put, List.setIfInBounds_toArray, List.set_cons_zero, List.set_cons_succ]
  refine wpAnyG_take' (i := 16) (v := ?v16_17rb) rfl (by kernel_rfl) (by kernel_rfl) (by kernel_rfl) (by kernel_rfl) (fun _ _ _ h => h) (Or.inl ⟨by rfl, ?hy16_17rb⟩) ⟨cells7 V2.out.sw6, cells7 V2.out.sw5, cells7 V2.out⟩ ?rest16_17rb
  case hy16_17rb => intro w hSw; (try dsimp only at hSw); go_simp; (try with_reducible rfl)
  case rest16_17rb =>
  try simp only [List.getElem_toArray, List.getElem_cons_succ, List.getElem_cons_zero, Act.put, List.setIfInBounds_toArray, List.set_cons_zero, List.set_cons_succ]
  refine wpAnyG_take' (i := 17) (v := ?v17_18rb) rfl (by kernel_rfl) (by kernel_rfl) (by kernel_rfl) (by kernel_rfl) (fun _ _ _ h => h) (Or.inl ⟨by rfl, ?hy17_18rb⟩) ⟨cells7 V2.out.sw6, cells7 V2.out.sw5, cells7 V2.out⟩ ?rest17_18rb
  case hy17_18rb => intro w hSw; (try dsimp only at hSw); go_simp; (try with_reducible rfl)
  case rest17_18rb =>
  try simp only [List.getElem_toArray, List.getElem_cons_succ, List.getElem_cons_zero, Act.put, List.setIfInBounds_toArray, List.set_cons_zero, List.set_cons_succ]
  refine wpAnyG_take' (i := 18) (v := ?v18_19rb) rfl (by kernel_rfl) (by kernel_rfl) (by kernel_rfl) (by kernel_rfl) (fun _ _ _ h => h) (Or.inl ⟨by rfl, ?hy18_19rb⟩) ⟨cells7 V2.out.sw6, cells7 V2.out.sw5, cells7 V2.out⟩ ?rest18_19rb
  case hy18_19rb => intro w hSw; (try dsimp only at hSw); go_simp; (try with_reducible rfl)
  case rest18_19rb =>
  try simp only [List.getElem_toArray, List.getElem_cons_succ, List.getElem_cons_zero, Act.put, List.setIfInBounds_toArray, List.set_cons_zero, List.set_cons_succ]
  refine wpAnyG_take' (i := 20) (v := ?v20_20rb) rfl (by kernel_rfl) (by kernel_rfl) (by kernel_rfl) (by kernel_rfl) (fun _ _ _ h => h) (Or.inl ⟨by rfl, ?hy20_20rb⟩) ⟨cells7 V2.out.sw6, cells7 V2.out.sw5, cells7 V2.out⟩ ?rest20_20rb
  case hy20_20rb => intro w hSw; (try dsimp only at hSw); go_simp; (try with_reducible rfl)
  case rest20_20rb =>
  try simp only [List.getElem_toArray, List.getElem_cons_succ, List.getElem_cons_zero, Act.put, List.setIfInBounds_toArray, List.set_cons_zero, List.set_cons_succ]
  refine wpAnyG_take' (i := 21) (v := ?v21_21rb) rfl (by kernel_rfl) (by kernel_rfl) (by kernel_rfl) (by kernel_rfl) (fun _ _ _ h => h) (Or.inl ⟨by rfl, ?hy21_21rb⟩) ⟨cells7 V2.out.sw6, cells7 V2.out.sw5, cells7 V2.out⟩ ?rest21_21rb
  case hy21_21rb => intro w hSw; (try dsimp only at hSw); go_simp; (try with_reducible rfl)
  case rest21_21rb =>
  try simp only [List.getElem_toArray, List.getElem_cons_succ, List.getElem_cons_zero, Act.put, List.setIfInBounds_toArray, List.set_cons_zero, List.set_cons_succ]
  refine wpAnyG_one (i := 19) (by kernel_rfl) rfl (fun K hK => ?_)
  go_simp
  refine Calls.mono HS1.out ?_
  rintro r9 v3 ⟨rfl, hv3⟩
  have V3 := Lib.hid hv3
  have HS2 := Lib.hid (resame_any x y _ _ hv3 (HX.out.below hv3.low) (HY.out.below hv3.low) (by rw [HLX.out]; omega))
  unfold enV at HS2
  rw [HEB.out] at HS2
  clear hv3
  go_wp2_with fail
  refine hK.out _ _ (fun _ => ?hS22rb) ?rest22rb
  case hS22rb => exact ⟨cells7 V3.out.sw6, cells7 V3.out.sw5, cells7 V3.out⟩
  clear K hK
  try simp only [List.getElem_toArray, List.getElem_cons_succ, List.getElem_cons_zero, Act.put, List.setIfInBounds_toArray, List.set_cons_zero, List.set_cons_succ]
  refine wpAnyG_one (i := 22) (by kernel_rfl) rfl (fun K hK => ?_)
  go_simp
  refine Calls.mono HS2.out ?_
  rintro r9 v4 ⟨rfl, hv4⟩
  have V4 := Lib.hid hv4
  have HS3 := Lib.hid (resame_any x x _ _ hv4 (HX.out.below hv4.low) (Sep.lnS hv4.sw2) (by rw [HLX.out]; omega))
  unfold enV at HS3
  rw [enSame_self] at HS3
  clear hv4
  go_wp2_with fail
  refine hK.out _ _ (fun _ => ?hS23rb) ?rest23rb
  case hS23rb => exact ⟨cells7 V4.out.sw6, cells7 V4.out.sw5, cells7 V4.out⟩
  clear K hK
  try simp only [List.getElem_toArray, List.getElem_cons_succ, List.getElem_cons_zero, Act.put, List.setIfInBounds_toArray, List.set_cons_zero, List.set_cons_succ]
  refine wpAnyG_take' (i := 23) (v := ?v23_24rb) rfl (by kernel_rfl) (by kernel_rfl) (by kernel_rfl) (by kernel_rfl) (fun _ _ _ h => h) (Or.inl ⟨by rfl, ?hy23_24rb⟩) ⟨cells7 V4.out.sw6, cells7 V4.out.sw5, cells7 V4.out⟩ ?rest23_24rb
  case hy23_24rb => intro w hSw; (try dsimp only at hSw); go_simp; (try with_reducible rfl)
  case rest23_24rb =>
  try simp only [List.getElem_toArray, List.getElem_cons_succ, List.getElem_cons_zero, Act.put, List.setIfInBounds_toArray, List.set_cons_zero, List.set_cons_succ]
  refine wpAnyG_take' (i := 24) (v := ?v24_25rb) rfl (by kernel_rfl) (by kernel_rfl) (by kernel_rfl) (by kernel_rfl) (fun _ _ _ h => h) (Or.inl ⟨by rfl, ?hy24_25rb⟩) ⟨cells7 V4.out.sw6, cells7 V4.out.sw5, cells7 V4.out⟩ ?rest24_25rb
  case hy24_25rb => intro w hSw; (try dsimp only at hSw); go_simp; (try with_reducible rfl)
  case rest24_25rb =>
  try simp only [List.getElem_toArray, List.getElem_cons_succ, List.getElem_cons_zero, Act.put, List.setIfInBounds_toArray, List.set_cons_zero, List.set_cons_succ]
  refine wpAnyG_take' (i := 25) (v := ?v25_26rb) rfl (by kernel_rfl) (by kernel_rfl) (by kernel_rfl) (by kernel_rfl) (fun _ _ _ h => h) (Or.inl ⟨by rfl, ?hy25_26rb⟩) ⟨cells7 V4.out.sw6, cells7 V4.out.sw5, cells7 V4.out⟩ ?rest25_26rb
  case hy25_26rb => intro w hSw; (try dsimp only at hSw); go_simp; (try with_reducible rfl)
  case rest25_26rb =>
  try simp only [List.getElem_toArray, List.getElem_cons_succ, List.getElem_cons_zero, Act.put, List.setIfInBounds_toArray, List.set_cons_zero, List.set_cons_succ]
  refine wpAnyG_take' (i := 26) (v := ?v26_27rb) rfl (by kernel_rfl) (by kernel_rfl) (by kernel_rfl) (by kernel_rfl) (fun _ _ _ h => h) (Or.inl ⟨by rfl, ?hy26_27rb⟩) ⟨cells7 V4.out.sw6, cells7 V4.out.sw5, cells7 V4.out⟩ ?rest26_27rb
  case hy26_27rb => intro w hSw; (try dsimp only at hSw); go_simp; (try with_reducible rfl)
  case rest26_27rb =>
  try simp only [List.getElem_toArray, List.getElem_cons_succ, List.getElem_cons_zero, Act.put, List.setIfInBounds_toArray, List.set_cons_zero, List.set_cons_succ]
  refine wpAnyG_take' (i := 27) (v := ?v27_28rb) rfl (by kernel_rfl) (by kernel_rfl) (by kernel_rfl) (by kernel_rfl) (fun _ _ _ h => h) (Or.inl ⟨by rfl, ?hy27_28rb⟩) ⟨cells7 V4.out.sw6, cells7 V4.out.sw5, cells7 V4.out⟩ ?rest27_28rb
  case hy27_28rb => intro w hSw; (try dsimp only at hSw); go_simp; (try with_reducible rfl)
  case rest27_28rb =>
  try simp only [List.getElem_toArray, List.getElem_cons_succ, List.getElem_cons_zero, Act.put, List.setIfInBounds_toArray, List.set_cons_zero, List.set_cons_succ]
  refine wpAnyG_one (i := 28) (by kernel_rfl) rfl (fun K hK => ?_)
  go_simp
  refine Calls.mono HS3.out ?_
  rintro r9 v5 ⟨rfl, hv5⟩
  have V5 := Lib.hid hv5
  clear hv5
  go_wp2_with fail
  refine hK.out _ _ (fun _ => ?hS29rb) ?rest29rb
  case hS29rb => exact ⟨cells7 V5.out.sw6, cells7 V5.out.sw5, cells7 V5.out⟩
  clear K hK
  try simp only [List.getElem_toArray, List.getElem_cons_succ, List.getElem_cons_zero, Act.put, List.setIfInBounds_toArray, List.set_cons_zero, List.set_cons_succ]
  refine wpAnyG_take' (i := 29) (v := ?v29_30rb) rfl (by kernel_rfl) (by kernel_rfl) (by kernel_rfl) (by kernel_rfl) (fun _ _ _ h => h) (Or.inl ⟨by rfl, ?hy29_30rb⟩) ⟨cells7 V5.out.sw6, cells7 V5.out.sw5, cells7 V5.out⟩ ?rest29_30rb
  case hy29_30rb => intro w hSw; (try dsimp only at hSw); go_simp; (try with_reducible rfl)
  case rest29_30rb =>
  try simp only [List.getElem_toArray, List.getElem_cons_succ, List.getElem_cons_zero, Act.put, List.setIfInBounds_toArray, List.set_cons_zero, List.set_cons_succ]
  refine wpAnyG_take' (i := 30) (v := ?v30_31rb) rfl (by kernel_rfl) (by kernel_rfl) (by kernel_rfl) (by kernel_rfl) (fun _ _ _ h => h) (Or.inl ⟨by rfl, ?hy30_31rb⟩) ⟨cells7 V5.out.sw6, cells7 V5.out.sw5, cells7 V5.out⟩ ?rest30_31rb
  case hy30_31rb => intro w hSw; (try dsimp only at hSw); go_simp; (try with_reducible rfl)
  case rest30_31rb =>
  try simp only [List.getElem_toArray, List.getElem_cons_succ, List.getElem_cons_zero, Act.put, List.setIfInBounds_toArray, List.set_cons_zero, List.set_cons_succ]
  refine wpAnyG_done (by kernel_rfl) ?_ _
  try simp only [List.getElem_toArray, List.getElem_cons_succ, List.getElem_cons_zero, Act.put, List.setIfInBounds_toArray, List.set_cons_zero, List.set_cons_succ]
  have h10 := V5.out
  have HC := Lib.hid (recopy_any x _ h10 (HX.out.below h10.low) (by rw [HLX.out]; omega))
  unfold enV at HC
  obtain ⟨c0, c1, c2, c3, c4, c5, c6⟩ := cells7 h10.sw6
  clear h10 hS HK1 HK2 HQ1 HS1 HS2 HS3 H9 V1 V2 V3 V4 V5
  go_wp2_with fail
  refine HC.out.mono ?_
  rintro r0 w11 ⟨uw, rfl, h11⟩
  clear HC c0 c1 c2 c3 c4 c5 c6
  obtain ⟨aw, cw, rfl, -⟩ := h11.rnForm
  rw [HLX.out] at h11
  rw [HLX.out]
  have h12 := h11.alloc (.cells #[.int .i64 x.c, .int .i64 x.m, .int .i64 x.p.k, .string x.p.s.1, .int .i64 x.p.o, .int .i64 x.p.n, .slice aw m cw] 26)
  obtain ⟨b10, hb10⟩ : ∃ z, z = w11.heap.size := ⟨_, rfl⟩
  obtain ⟨w12, hw12⟩ : ∃ z, z = w11.alloc (.cells #[.int .i64 x.c, .int .i64 x.m, .int .i64 x.p.k, .string x.p.s.1, .int .i64 x.p.o, .int .i64 x.p.n, .slice aw m cw] 26) := ⟨_, rfl⟩
  rw [← hw12, ← hb10] at h12
  have H12 : Hid (Sep w (LnR (.slice ax m cx) x.p.ls :: Cl b10 #[.int .i64 x.c, .int .i64 x.m, .int .i64 x.p.k, .string x.p.s.1, .int .i64 x.p.o, .int .i64 x.p.n, .slice aw m cw] 26 :: LnR (.slice aw m cw) x.p.ls :: Cl b9 #[.int .i64 x.c, .int .i64 x.m, .int .i64 x.p.k, .string x.p.s.1, .int .i64 x.p.o, .int .i64 x.p.n, .slice ax m cx] 26 :: Cl b2 #[.int .i64 x.c, .int .i64 x.m, .int .i64 x.p.k, .string x.p.s.1, .int .i64 x.p.o, .int .i64 x.p.n, .slice a m c] 26 :: []) w12) := Lib.hid (h12.pick [3, 0, 1, 2, 7] rfl)
  clear h11 h12
  go_wp2_with fail
  rw [← hw12]
  rw [← hb10]
  clear hw12 hb10
  go_loopw [11] (fun i wr => ∃ (j : Nat) (lx : List Ln), j ≤ m ∧ i = .int .i64 j ∧ lx.length = m ∧ Sep w (LnR (.slice ax m cx) lx :: Cl b10 #[.int .i64 x.c, .int .i64 x.m, .int .i64 x.p.k, .string x.p.s.1, .int .i64 x.p.o, .int .i64 x.p.n, .slice aw m cw] 26 :: LnR (.slice aw m cw) x.p.ls :: Cl b9 #[.int .i64 x.c, .int .i64 x.m, .int .i64 x.p.k, .string x.p.s.1, .int .i64 x.p.o, .int .i64 x.p.n, .slice ax m cx] 26 :: Cl b2 #[.int .i64 x.c, .int .i64 x.m, .int .i64 x.p.k, .string x.p.s.1, .int .i64 x.p.o, .int .i64 x.p.n, .slice a m c] 26 :: []) wr) (fun i _ => m - (intOf i).toNat)
  case atStart => exact ⟨0, x.p.ls, Nat.zero_le _, rfl, HLX.out, H12.out⟩
  case round =>
    obtain ⟨j, lx, hj, rfl, hlx, hs⟩ := hrel
    clear H12
    have j0 : (0 : Int) ≤ (j : Int) := by omega
    have j8 : (j : Int) ≤ 8 := by omega
    obtain ⟨c0, c1, c2, c3, c4, c5, c6⟩ := cells7 hs.sw4
    by_cases hjn : j < m
    · have hd : decide (j < m) = true := decide_eq_true hjn
      have j1 : (j : Int) < (m : Int) := by omega
      have hjx : j < lx.length := by omega
      obtain ⟨bx, k5, hv5, hlc, hcm, hb5, hxl, e5, g5, hset⟩ := hs.rnSet (by omega)
      simp only [Value.slice.injEq] at hv5
      obtain ⟨rfl, -, rfl⟩ := hv5
      have e6 := e5 (j * 2 + 1) (by rw [hxl]; omega)
      have hcl := (lnCells_at lx j hjx).2
      rw [(List.getElem?_eq_some_iff.1 hcl).2] at e6
      have g6 := g5 (j * 2 + 1)
      have hx := hset (j * 2 + 1) (.int .i64 (-9)) (by rw [hxl]; omega)
      rw [lnCells_put4 lx j _ hjx] at hx
      have HF := Lib.hid (show Sep w (LnR (.slice (some ⟨bx, 0, none⟩) m cx) (lx.set j (lx[j].1, -9)) :: Cl b10 #[.int .i64 x.c, .int .i64 x.m, .int .i64 x.p.k, .string x.p.s.1, .int .i64 x.p.o, .int .i64 x.p.n, .slice aw m cw] 26 :: LnR (.slice aw m cw) x.p.ls :: Cl b9 #[.int .i64 x.c, .int .i64 x.m, .int .i64 x.p.k, .string x.p.s.1, .int .i64 x.p.o, .int .i64 x.p.n, .slice (some ⟨bx, 0, none⟩) m cx] 26 :: Cl b2 #[.int .i64 x.c, .int .i64 x.m, .int .i64 x.p.k, .string x.p.s.1, .int .i64 x.p.o, .int .i64 x.p.n, .slice a m c] 26 :: []) (wr.setCell ⟨bx, j * 2 + 1, none⟩ (.int .i64 (-9))) from by
        unfold LnR
        rw [List.length_set]
        exact hx)
      have HJ := Lib.hid (And.intro hjn hlx)
      generalize lx[j].2 = yy at *
      generalize lx[j].1 = nm at *
      clear hs hx hset e5 g5 hcl hxl hlc hlx hjx hjn
      go_wp2_with fail
      go_roundw
      case rel => exact ⟨j + 1, _, by have := HJ.out.1; omega, by go_num, by rw [List.length_set]; exact HJ.out.2, HF.out⟩
      case measure => have := HJ.out.1; simp [intOf]; omega
    · have hd : decide (j < m) = false := decide_eq_false hjn
      obtain ⟨d0, d1, d2, d3, d4, d5, d6⟩ := cells7 hs.sw5
      obtain ⟨e0, e1, e2, e3, e4, e5, e6⟩ := cells7 hs.sw2
      have HSM := Lib.hid (resame_any x x _ _ hs (HX.out.below hs.low) (Sep.lnS hs.sw3) (by rw [HLX.out]; omega))
      unfold enV at HSM
      rw [enSame_self] at HSM
      clear hs hjn hlx
      go_wp2_with fail
      refine HSM.out.mono ?_
      rintro r0 w21 ⟨rfl, h21⟩
      have HW := Lib.hid (works4_any h21 (HK.out.below h21.low))
      clear h21 HSM
      go_wp2_with (refine HW.out.mono ?_; rintro r0 w22 ⟨rfl, h22⟩)
      go_ret
      exact ⟨rfl, h22.low⟩
end Go.Proofs.YtcicclghgbdgnaaDoor
