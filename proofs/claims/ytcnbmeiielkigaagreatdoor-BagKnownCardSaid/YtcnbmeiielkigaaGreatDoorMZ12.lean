/- The document's own item: Check. -/
import Derived.Test.YtcnbmeiielkigaaGreatDoorMZ08
import Derived.Test.YtcnbmeiielkigaaGreatDoorMItem5
import Derived.Test.YtcnbmeiielkigaaGreatDoorMZ03
import Derived.Test.YtcnbmeiielkigaaGreatDoorMZ00
namespace Go.Proofs.YtcnbmeiielkigaaGreatDoor
open Go.RowKit
set_option linter.unusedVariables false
set_option linter.unusedSimpArgs false
/-- What a kind is, said by tests. -/
structure KindIs (k : Int) (wi sk od ad nu re : Bool) : Prop where
 wi : wthB k 1 9 = wi
 sk : skuK k = sk
 od : ordK k = od
 ad : (k == 2) = ad
 nu : numK k = nu
 re : (k == 3) = re
theorem kind_is (k : Int) : (fieldsOf k = 5 ∧ KindIs k true true false false true false) ∨ (fieldsOf k = 9 ∧ KindIs k true true false true true false) ∨ (fieldsOf k = 22 ∧ KindIs k true false true false true true) ∨
  (fieldsOf k = 2 ∧ KindIs k true false true false false false) ∨ (fieldsOf k = 4 ∧ KindIs k true false false false true false) ∨ (fieldsOf k = 1 ∧ KindIs k true true false false false false) ∨ (fieldsOf k = 0 ∧ KindIs k false false false false false false) := by
 by_cases h : 1 ≤ k ∧ k ≤ 9
 ·rcases (show k = 1 ∨ k = 2 ∨ k = 3 ∨ k = 4 ∨ k = 5 ∨ k = 6 ∨ k = 7 ∨ k = 8 ∨ k = 9 by omega) with rfl | rfl | rfl | rfl | rfl | rfl | rfl | rfl | rfl
  ·exact .inl ⟨by decide, ⟨rfl, rfl, rfl, rfl, rfl, rfl⟩⟩
  ·exact .inr (.inl ⟨by decide, ⟨rfl, rfl, rfl, rfl, rfl, rfl⟩⟩)
  ·exact .inr (.inr (.inl ⟨by decide, ⟨rfl, rfl, rfl, rfl, rfl, rfl⟩⟩))
  ·exact .inr (.inr (.inr (.inl ⟨by decide, ⟨rfl, rfl, rfl, rfl, rfl, rfl⟩⟩)))
  ·exact .inr (.inr (.inr (.inl ⟨by decide, ⟨rfl, rfl, rfl, rfl, rfl, rfl⟩⟩)))
  ·exact .inr (.inr (.inr (.inl ⟨by decide, ⟨rfl, rfl, rfl, rfl, rfl, rfl⟩⟩)))
  ·exact .inr (.inr (.inr (.inr (.inl ⟨by decide, ⟨rfl, rfl, rfl, rfl, rfl, rfl⟩⟩))))
  ·exact .inr (.inr (.inr (.inr (.inr (.inl ⟨by decide, ⟨rfl, rfl, rfl, rfl, rfl, rfl⟩⟩)))))
  ·exact .inr (.inr (.inr (.inl ⟨by decide, ⟨rfl, rfl, rfl, rfl, rfl, rfl⟩⟩)))
 ·have hf : fieldsOf k = 0 := by
   rcases Classical.em (fieldsOf k = 0) with h0 | h0
   ·exact h0
   ·exact absurd (fields_ne h0) h
  refine .inr (.inr (.inr (.inr (.inr (.inr ⟨hf, ⟨?_, ?_, ?_, ?_, ?_, ?_⟩⟩)))))
  ·unfold wthB; rw [Bool.and_eq_false_iff]; simp only [decide_eq_false_iff_not]; omega
  ·unfold skuK; simp only [Bool.or_eq_false_iff, beq_eq_false_iff_ne]; omega
  ·unfold ordK; simp only [Bool.or_eq_false_iff, beq_eq_false_iff_ne, Bool.and_eq_false_iff, decide_eq_false_iff_not]; omega
  ·rw [beq_eq_false_iff_ne]; omega
  ·unfold numK; simp only [Bool.or_eq_false_iff, beq_eq_false_iff_ne, Bool.and_eq_false_iff, decide_eq_false_iff_not]; omega
  ·rw [beq_eq_false_iff_ne]; omega
theorem chgB_eq (n : Int) : chgB n = (wthB n (-2147483647) 2147483647 && (n != 0)) := by
 unfold chgB wthB
 by_cases h : n = 0
 ·subst h; rfl
 ·rw [show decide (n ≠ 0) = true from decide_eq_true h, show (n != 0) = true by rw [bne_iff_ne]; exact h]; simp
set_option maxRecDepth 100000 in
set_option maxHeartbeats 16000000 in
theorem rcheck_5 (k : Int) (sku : KS) (ord n : Int) (v : Value) (ls : List Ln) (w : World) (hk : KindIs k true true false false true false) (hv : LnS w v ls) (hl : ls.length ≤ 9223372036854775807) :
  Calls Tryz.prog 96 #[.agg #[.int .i64 k, .string sku.1, .int .i64 ord, .int .i64 n, v]] w fun e w' => e = .returned (.int .i64 (if skuB 5 sku && ordB 5 ord && cntB 5 n && linB 5 ls then 0 else 2)) ∧ Sep w [] w' := by
 obtain ⟨a, c, rfl⟩ := hv.len
 have h1 := (Sep.start w).alloc (.cells (opCells k sku ord n (.slice a ls.length c)) 30)
 have HW := Lib.hid (fun wx => within_any k 1 9 wx)
 have HS := Lib.hid (fun wx => hasSku_any k wx)
 have HO := Lib.hid (fun wx => hasOrder_any k wx)
 have HN := Lib.hid (fun wx => hasN_any k wx)
 rw [hk.wi] at HW
 rw [hk.sk] at HS
 rw [hk.od] at HO
 rw [hk.nu] at HN
 have had := hk.ad
 have hre := hk.re
 have HNm := Lib.hid (fun wx => rname_any sku.1 wx sku.2)
 have HQn := Lib.hid (fun wx => within_any n 1 2147483647 wx)
 rw [wthB_qty] at HQn
 obtain ⟨c0, c1, c2, c3, c4⟩ := op_cells h1
 have HLOW := Lib.hid h1.low
 unfold opCells at *
 clear h1 hv hk
 obtain ⟨r, hr, hp⟩ : ∃ r : Int, r = (if skuB 5 sku && ordB 5 ord && cntB 5 n && linB 5 ls then 0 else 2) ∧ ((nameB sku.1 = false ∧ r = 2) ∨ (nameB sku.1 = true ∧ (ord == 0) = false ∧ r = 2) ∨ (nameB sku.1 = true ∧ (ord == 0) = true ∧ qtyB n = false ∧ r = 2) ∨ (nameB sku.1 = true ∧ (ord == 0) = true ∧ qtyB n = true ∧ ((ls.length : Int) == 0) = false ∧ r = 2) ∨ (nameB sku.1 = true ∧ (ord == 0) = true ∧ qtyB n = true ∧ ((ls.length : Int) == 0) = true ∧ r = 0)) := by
  refine ⟨_, rfl, ?_⟩
  have s1 : skuB 5 sku = nameB sku.1 := rfl
  have s2 : ordB 5 ord = (ord == 0) := rfl
  have s3 : cntB 5 n = qtyB n := rfl
  have s4 : linB 5 ls = ((ls.length : Int) == 0) := rfl
  rw [s1, s2, s3, s4]
  cases nameB sku.1 <;> cases (ord == 0) <;> cases qtyB n <;> cases ((ls.length : Int) == 0) <;> simp
 rw [← hr]
 clear hr
 rcases hp with ⟨e1, rfl⟩ | ⟨e1, e2, rfl⟩ | ⟨e1, e2, e3, rfl⟩ | ⟨e1, e2, e3, e4, rfl⟩ | ⟨e1, e2, e3, e4, rfl⟩
 ·rw [e1] at HNm
  clear e1
  go_enter Tryz.func96, Tryz.ntmps96
  go_wp2_with (first | ((with_reducible refine (HW.out _).mono ?_); rintro r9 w9 ⟨rfl, rfl⟩) | ((with_reducible refine (HS.out _).mono ?_); rintro r9 w9 ⟨rfl, rfl⟩) | ((with_reducible refine (HO.out _).mono ?_); rintro r9 w9 ⟨rfl, rfl⟩) | ((with_reducible refine (HN.out _).mono ?_); rintro r9 w9 ⟨rfl, rfl⟩) | ((with_reducible refine (HNm.out _).mono ?_); rintro r9 w9 ⟨rfl, rfl⟩) | ((with_reducible refine (HQn.out _).mono ?_); rintro r9 w9 ⟨rfl, rfl⟩))
  go_ret
  exact ⟨rfl, .nil HLOW.out⟩
 ·rw [e1] at HNm
  clear e1
  go_enter Tryz.func96, Tryz.ntmps96
  go_wp2_with (first | ((with_reducible refine (HW.out _).mono ?_); rintro r9 w9 ⟨rfl, rfl⟩) | ((with_reducible refine (HS.out _).mono ?_); rintro r9 w9 ⟨rfl, rfl⟩) | ((with_reducible refine (HO.out _).mono ?_); rintro r9 w9 ⟨rfl, rfl⟩) | ((with_reducible refine (HN.out _).mono ?_); rintro r9 w9 ⟨rfl, rfl⟩) | ((with_reducible refine (HNm.out _).mono ?_); rintro r9 w9 ⟨rfl, rfl⟩) | ((with_reducible refine (HQn.out _).mono ?_); rintro r9 w9 ⟨rfl, rfl⟩))
  go_ret
  exact ⟨rfl, .nil HLOW.out⟩
 ·rw [e1] at HNm
  clear e1
  rw [e3] at HQn
  clear e3
  go_enter Tryz.func96, Tryz.ntmps96
  go_wp2_with (first | ((with_reducible refine (HW.out _).mono ?_); rintro r9 w9 ⟨rfl, rfl⟩) | ((with_reducible refine (HS.out _).mono ?_); rintro r9 w9 ⟨rfl, rfl⟩) | ((with_reducible refine (HO.out _).mono ?_); rintro r9 w9 ⟨rfl, rfl⟩) | ((with_reducible refine (HN.out _).mono ?_); rintro r9 w9 ⟨rfl, rfl⟩) | ((with_reducible refine (HNm.out _).mono ?_); rintro r9 w9 ⟨rfl, rfl⟩) | ((with_reducible refine (HQn.out _).mono ?_); rintro r9 w9 ⟨rfl, rfl⟩))
  go_ret
  exact ⟨rfl, .nil HLOW.out⟩
 ·rw [e1] at HNm
  clear e1
  rw [e3] at HQn
  clear e3
  go_enter Tryz.func96, Tryz.ntmps96
  go_wp2_with (first | ((with_reducible refine (HW.out _).mono ?_); rintro r9 w9 ⟨rfl, rfl⟩) | ((with_reducible refine (HS.out _).mono ?_); rintro r9 w9 ⟨rfl, rfl⟩) | ((with_reducible refine (HO.out _).mono ?_); rintro r9 w9 ⟨rfl, rfl⟩) | ((with_reducible refine (HN.out _).mono ?_); rintro r9 w9 ⟨rfl, rfl⟩) | ((with_reducible refine (HNm.out _).mono ?_); rintro r9 w9 ⟨rfl, rfl⟩) | ((with_reducible refine (HQn.out _).mono ?_); rintro r9 w9 ⟨rfl, rfl⟩))
  go_ret
  exact ⟨rfl, .nil HLOW.out⟩
 ·rw [e1] at HNm
  clear e1
  rw [e3] at HQn
  clear e3
  go_enter Tryz.func96, Tryz.ntmps96
  go_wp2_with (first | ((with_reducible refine (HW.out _).mono ?_); rintro r9 w9 ⟨rfl, rfl⟩) | ((with_reducible refine (HS.out _).mono ?_); rintro r9 w9 ⟨rfl, rfl⟩) | ((with_reducible refine (HO.out _).mono ?_); rintro r9 w9 ⟨rfl, rfl⟩) | ((with_reducible refine (HN.out _).mono ?_); rintro r9 w9 ⟨rfl, rfl⟩) | ((with_reducible refine (HNm.out _).mono ?_); rintro r9 w9 ⟨rfl, rfl⟩) | ((with_reducible refine (HQn.out _).mono ?_); rintro r9 w9 ⟨rfl, rfl⟩))
  go_ret
  exact ⟨rfl, .nil HLOW.out⟩
set_option maxRecDepth 100000 in
set_option maxHeartbeats 16000000 in
theorem rcheck_9 (k : Int) (sku : KS) (ord n : Int) (v : Value) (ls : List Ln) (w : World) (hk : KindIs k true true false true true false) (hv : LnS w v ls) (hl : ls.length ≤ 9223372036854775807) :
  Calls Tryz.prog 96 #[.agg #[.int .i64 k, .string sku.1, .int .i64 ord, .int .i64 n, v]] w fun e w' => e = .returned (.int .i64 (if skuB 9 sku && ordB 9 ord && cntB 9 n && linB 9 ls then 0 else 2)) ∧ Sep w [] w' := by
 obtain ⟨a, c, rfl⟩ := hv.len
 have h1 := (Sep.start w).alloc (.cells (opCells k sku ord n (.slice a ls.length c)) 30)
 have HW := Lib.hid (fun wx => within_any k 1 9 wx)
 have HS := Lib.hid (fun wx => hasSku_any k wx)
 have HO := Lib.hid (fun wx => hasOrder_any k wx)
 have HN := Lib.hid (fun wx => hasN_any k wx)
 rw [hk.wi] at HW
 rw [hk.sk] at HS
 rw [hk.od] at HO
 rw [hk.nu] at HN
 have had := hk.ad
 have hre := hk.re
 have HNm := Lib.hid (fun wx => rname_any sku.1 wx sku.2)
 have HQn := Lib.hid (fun wx => within_any n (-2147483647) 2147483647 wx)
 obtain ⟨c0, c1, c2, c3, c4⟩ := op_cells h1
 have HLOW := Lib.hid h1.low
 unfold opCells at *
 clear h1 hv hk
 obtain ⟨r, hr, hp⟩ : ∃ r : Int, r = (if skuB 9 sku && ordB 9 ord && cntB 9 n && linB 9 ls then 0 else 2) ∧ ((nameB sku.1 = false ∧ r = 2) ∨ (nameB sku.1 = true ∧ (ord == 0) = false ∧ r = 2) ∨ (nameB sku.1 = true ∧ (ord == 0) = true ∧ chgB n = false ∧ r = 2) ∨ (nameB sku.1 = true ∧ (ord == 0) = true ∧ chgB n = true ∧ ((ls.length : Int) == 0) = false ∧ r = 2) ∨ (nameB sku.1 = true ∧ (ord == 0) = true ∧ chgB n = true ∧ ((ls.length : Int) == 0) = true ∧ r = 0)) := by
  refine ⟨_, rfl, ?_⟩
  have s1 : skuB 9 sku = nameB sku.1 := rfl
  have s2 : ordB 9 ord = (ord == 0) := rfl
  have s3 : cntB 9 n = chgB n := rfl
  have s4 : linB 9 ls = ((ls.length : Int) == 0) := rfl
  rw [s1, s2, s3, s4]
  cases nameB sku.1 <;> cases (ord == 0) <;> cases chgB n <;> cases ((ls.length : Int) == 0) <;> simp
 rw [← hr]
 clear hr
 have hp3 : chgB n = false → (wthB n (-2147483647) 2147483647 = false ∨ (wthB n (-2147483647) 2147483647 = true ∧ (n != 0) = false)) := by
  rw [chgB_eq]; cases wthB n (-2147483647) 2147483647 <;> cases (n != 0) <;> simp
 have hp4 : chgB n = true → (wthB n (-2147483647) 2147483647 = true ∧ (n != 0) = true) := by
  rw [chgB_eq]; cases wthB n (-2147483647) 2147483647 <;> cases (n != 0) <;> simp
 have HP3 := Lib.hid hp3
 have HP4 := Lib.hid hp4
 clear hp3 hp4
 rcases hp with ⟨e1, rfl⟩ | ⟨e1, e2, rfl⟩ | ⟨e1, e2, e3, rfl⟩ | ⟨e1, e2, e3, e4, rfl⟩ | ⟨e1, e2, e3, e4, rfl⟩
 ·rw [e1] at HNm
  clear e1
  clear HP3 HP4
  go_enter Tryz.func96, Tryz.ntmps96
  go_wp2_with (first | ((with_reducible refine (HW.out _).mono ?_); rintro r9 w9 ⟨rfl, rfl⟩) | ((with_reducible refine (HS.out _).mono ?_); rintro r9 w9 ⟨rfl, rfl⟩) | ((with_reducible refine (HO.out _).mono ?_); rintro r9 w9 ⟨rfl, rfl⟩) | ((with_reducible refine (HN.out _).mono ?_); rintro r9 w9 ⟨rfl, rfl⟩) | ((with_reducible refine (HNm.out _).mono ?_); rintro r9 w9 ⟨rfl, rfl⟩) | ((with_reducible refine (HQn.out _).mono ?_); rintro r9 w9 ⟨rfl, rfl⟩))
  go_ret
  exact ⟨rfl, .nil HLOW.out⟩
 ·rw [e1] at HNm
  clear e1
  clear HP3 HP4
  go_enter Tryz.func96, Tryz.ntmps96
  go_wp2_with (first | ((with_reducible refine (HW.out _).mono ?_); rintro r9 w9 ⟨rfl, rfl⟩) | ((with_reducible refine (HS.out _).mono ?_); rintro r9 w9 ⟨rfl, rfl⟩) | ((with_reducible refine (HO.out _).mono ?_); rintro r9 w9 ⟨rfl, rfl⟩) | ((with_reducible refine (HN.out _).mono ?_); rintro r9 w9 ⟨rfl, rfl⟩) | ((with_reducible refine (HNm.out _).mono ?_); rintro r9 w9 ⟨rfl, rfl⟩) | ((with_reducible refine (HQn.out _).mono ?_); rintro r9 w9 ⟨rfl, rfl⟩))
  go_ret
  exact ⟨rfl, .nil HLOW.out⟩
 ·rcases HP3.out e3 with q1 | ⟨q1, q2⟩
  ·rw [e1] at HNm
   clear e1
   rw [q1] at HQn
   clear q1 e3 HP3 HP4
   go_enter Tryz.func96, Tryz.ntmps96
   go_wp2_with (first | ((with_reducible refine (HW.out _).mono ?_); rintro r9 w9 ⟨rfl, rfl⟩) | ((with_reducible refine (HS.out _).mono ?_); rintro r9 w9 ⟨rfl, rfl⟩) | ((with_reducible refine (HO.out _).mono ?_); rintro r9 w9 ⟨rfl, rfl⟩) | ((with_reducible refine (HN.out _).mono ?_); rintro r9 w9 ⟨rfl, rfl⟩) | ((with_reducible refine (HNm.out _).mono ?_); rintro r9 w9 ⟨rfl, rfl⟩) | ((with_reducible refine (HQn.out _).mono ?_); rintro r9 w9 ⟨rfl, rfl⟩))
   go_ret
   exact ⟨rfl, .nil HLOW.out⟩
  ·rw [e1] at HNm
   clear e1
   rw [q1] at HQn
   clear q1 e3 HP3 HP4
   go_enter Tryz.func96, Tryz.ntmps96
   go_wp2_with (first | ((with_reducible refine (HW.out _).mono ?_); rintro r9 w9 ⟨rfl, rfl⟩) | ((with_reducible refine (HS.out _).mono ?_); rintro r9 w9 ⟨rfl, rfl⟩) | ((with_reducible refine (HO.out _).mono ?_); rintro r9 w9 ⟨rfl, rfl⟩) | ((with_reducible refine (HN.out _).mono ?_); rintro r9 w9 ⟨rfl, rfl⟩) | ((with_reducible refine (HNm.out _).mono ?_); rintro r9 w9 ⟨rfl, rfl⟩) | ((with_reducible refine (HQn.out _).mono ?_); rintro r9 w9 ⟨rfl, rfl⟩))
   go_ret
   exact ⟨rfl, .nil HLOW.out⟩
 ·obtain ⟨q1, q2⟩ := HP4.out e3
  rw [q1] at HQn
  clear q1 e3 HP3 HP4
  rw [e1] at HNm
  clear e1
  go_enter Tryz.func96, Tryz.ntmps96
  go_wp2_with (first | ((with_reducible refine (HW.out _).mono ?_); rintro r9 w9 ⟨rfl, rfl⟩) | ((with_reducible refine (HS.out _).mono ?_); rintro r9 w9 ⟨rfl, rfl⟩) | ((with_reducible refine (HO.out _).mono ?_); rintro r9 w9 ⟨rfl, rfl⟩) | ((with_reducible refine (HN.out _).mono ?_); rintro r9 w9 ⟨rfl, rfl⟩) | ((with_reducible refine (HNm.out _).mono ?_); rintro r9 w9 ⟨rfl, rfl⟩) | ((with_reducible refine (HQn.out _).mono ?_); rintro r9 w9 ⟨rfl, rfl⟩))
  go_ret
  exact ⟨rfl, .nil HLOW.out⟩
 ·obtain ⟨q1, q2⟩ := HP4.out e3
  rw [q1] at HQn
  clear q1 e3 HP3 HP4
  rw [e1] at HNm
  clear e1
  go_enter Tryz.func96, Tryz.ntmps96
  go_wp2_with (first | ((with_reducible refine (HW.out _).mono ?_); rintro r9 w9 ⟨rfl, rfl⟩) | ((with_reducible refine (HS.out _).mono ?_); rintro r9 w9 ⟨rfl, rfl⟩) | ((with_reducible refine (HO.out _).mono ?_); rintro r9 w9 ⟨rfl, rfl⟩) | ((with_reducible refine (HN.out _).mono ?_); rintro r9 w9 ⟨rfl, rfl⟩) | ((with_reducible refine (HNm.out _).mono ?_); rintro r9 w9 ⟨rfl, rfl⟩) | ((with_reducible refine (HQn.out _).mono ?_); rintro r9 w9 ⟨rfl, rfl⟩))
  go_ret
  exact ⟨rfl, .nil HLOW.out⟩
set_option maxRecDepth 100000 in
set_option maxHeartbeats 16000000 in
theorem rcheck_22 (k : Int) (sku : KS) (ord n : Int) (v : Value) (ls : List Ln) (w : World) (hk : KindIs k true false true false true true) (hv : LnS w v ls) (hl : ls.length ≤ 9223372036854775807) :
  Calls Tryz.prog 96 #[.agg #[.int .i64 k, .string sku.1, .int .i64 ord, .int .i64 n, v]] w fun e w' => e = .returned (.int .i64 (if skuB 22 sku && ordB 22 ord && cntB 22 n && linB 22 ls then 0 else 2)) ∧ Sep w [] w' := by
 obtain ⟨a, c, rfl⟩ := hv.len
 have h1 := (Sep.start w).alloc (.cells (opCells k sku ord n (.slice a ls.length c)) 30)
 have HW := Lib.hid (fun wx => within_any k 1 9 wx)
 have HS := Lib.hid (fun wx => hasSku_any k wx)
 have HO := Lib.hid (fun wx => hasOrder_any k wx)
 have HN := Lib.hid (fun wx => hasN_any k wx)
 rw [hk.wi] at HW
 rw [hk.sk] at HS
 rw [hk.od] at HO
 rw [hk.nu] at HN
 have had := hk.ad
 have hre := hk.re
 have HQo := Lib.hid (fun wx => within_any ord 1 2147483647 wx)
 rw [wthB_qty] at HQo
 have HQn := Lib.hid (fun wx => within_any n 1 2147483647 wx)
 rw [wthB_qty] at HQn
 have HLn := Lib.hid (rlines_any (.slice a ls.length c) ls h1 (hv.below h1.low) hl)
 obtain ⟨c0, c1, c2, c3, c4⟩ := op_cells h1
 have HLOW := Lib.hid h1.low
 unfold opCells at *
 clear h1 hv hk
 obtain ⟨r, hr, hp⟩ : ∃ r : Int, r = (if skuB 22 sku && ordB 22 ord && cntB 22 n && linB 22 ls then 0 else 2) ∧ ((sku.1.toList.isEmpty = false ∧ r = 2) ∨ (sku.1.toList.isEmpty = true ∧ qtyB ord = false ∧ r = 2) ∨ (sku.1.toList.isEmpty = true ∧ qtyB ord = true ∧ qtyB n = false ∧ r = 2) ∨ (sku.1.toList.isEmpty = true ∧ qtyB ord = true ∧ qtyB n = true ∧ linesB ls = false ∧ r = 2) ∨ (sku.1.toList.isEmpty = true ∧ qtyB ord = true ∧ qtyB n = true ∧ linesB ls = true ∧ r = 0)) := by
  refine ⟨_, rfl, ?_⟩
  have s1 : skuB 22 sku = sku.1.toList.isEmpty := rfl
  have s2 : ordB 22 ord = qtyB ord := rfl
  have s3 : cntB 22 n = qtyB n := rfl
  have s4 : linB 22 ls = linesB ls := rfl
  rw [s1, s2, s3, s4]
  cases sku.1.toList.isEmpty <;> cases qtyB ord <;> cases qtyB n <;> cases linesB ls <;> simp
 rw [← hr]
 clear hr
 rcases hp with ⟨e1, rfl⟩ | ⟨e1, e2, rfl⟩ | ⟨e1, e2, e3, rfl⟩ | ⟨e1, e2, e3, e4, rfl⟩ | ⟨e1, e2, e3, e4, rfl⟩
 ·skip
  go_enter Tryz.func96, Tryz.ntmps96
  go_wp2_with (first | ((with_reducible refine (HW.out _).mono ?_); rintro r9 w9 ⟨rfl, rfl⟩) | ((with_reducible refine (HS.out _).mono ?_); rintro r9 w9 ⟨rfl, rfl⟩) | ((with_reducible refine (HO.out _).mono ?_); rintro r9 w9 ⟨rfl, rfl⟩) | ((with_reducible refine (HN.out _).mono ?_); rintro r9 w9 ⟨rfl, rfl⟩) | ((with_reducible refine (HQo.out _).mono ?_); rintro r9 w9 ⟨rfl, rfl⟩) | ((with_reducible refine (HQn.out _).mono ?_); rintro r9 w9 ⟨rfl, rfl⟩) | ((with_reducible refine HLn.out.mono ?_); rintro r9 w9 ⟨rfl, h9⟩))
  go_ret
  first | exact ⟨rfl, .nil HLOW.out⟩ | exact ⟨rfl, .nil h9.low⟩
 ·rw [e2] at HQo
  clear e2
  go_enter Tryz.func96, Tryz.ntmps96
  go_wp2_with (first | ((with_reducible refine (HW.out _).mono ?_); rintro r9 w9 ⟨rfl, rfl⟩) | ((with_reducible refine (HS.out _).mono ?_); rintro r9 w9 ⟨rfl, rfl⟩) | ((with_reducible refine (HO.out _).mono ?_); rintro r9 w9 ⟨rfl, rfl⟩) | ((with_reducible refine (HN.out _).mono ?_); rintro r9 w9 ⟨rfl, rfl⟩) | ((with_reducible refine (HQo.out _).mono ?_); rintro r9 w9 ⟨rfl, rfl⟩) | ((with_reducible refine (HQn.out _).mono ?_); rintro r9 w9 ⟨rfl, rfl⟩) | ((with_reducible refine HLn.out.mono ?_); rintro r9 w9 ⟨rfl, h9⟩))
  go_ret
  first | exact ⟨rfl, .nil HLOW.out⟩ | exact ⟨rfl, .nil h9.low⟩
 ·rw [e2] at HQo
  clear e2
  rw [e3] at HQn
  clear e3
  go_enter Tryz.func96, Tryz.ntmps96
  go_wp2_with (first | ((with_reducible refine (HW.out _).mono ?_); rintro r9 w9 ⟨rfl, rfl⟩) | ((with_reducible refine (HS.out _).mono ?_); rintro r9 w9 ⟨rfl, rfl⟩) | ((with_reducible refine (HO.out _).mono ?_); rintro r9 w9 ⟨rfl, rfl⟩) | ((with_reducible refine (HN.out _).mono ?_); rintro r9 w9 ⟨rfl, rfl⟩) | ((with_reducible refine (HQo.out _).mono ?_); rintro r9 w9 ⟨rfl, rfl⟩) | ((with_reducible refine (HQn.out _).mono ?_); rintro r9 w9 ⟨rfl, rfl⟩) | ((with_reducible refine HLn.out.mono ?_); rintro r9 w9 ⟨rfl, h9⟩))
  go_ret
  first | exact ⟨rfl, .nil HLOW.out⟩ | exact ⟨rfl, .nil h9.low⟩
 ·rw [e2] at HQo
  clear e2
  rw [e3] at HQn
  clear e3
  rw [e4] at HLn
  clear e4
  go_enter Tryz.func96, Tryz.ntmps96
  go_wp2_with (first | ((with_reducible refine (HW.out _).mono ?_); rintro r9 w9 ⟨rfl, rfl⟩) | ((with_reducible refine (HS.out _).mono ?_); rintro r9 w9 ⟨rfl, rfl⟩) | ((with_reducible refine (HO.out _).mono ?_); rintro r9 w9 ⟨rfl, rfl⟩) | ((with_reducible refine (HN.out _).mono ?_); rintro r9 w9 ⟨rfl, rfl⟩) | ((with_reducible refine (HQo.out _).mono ?_); rintro r9 w9 ⟨rfl, rfl⟩) | ((with_reducible refine (HQn.out _).mono ?_); rintro r9 w9 ⟨rfl, rfl⟩) | ((with_reducible refine HLn.out.mono ?_); rintro r9 w9 ⟨rfl, h9⟩))
  go_ret
  first | exact ⟨rfl, .nil HLOW.out⟩ | exact ⟨rfl, .nil h9.low⟩
 ·rw [e2] at HQo
  clear e2
  rw [e3] at HQn
  clear e3
  rw [e4] at HLn
  clear e4
  go_enter Tryz.func96, Tryz.ntmps96
  go_wp2_with (first | ((with_reducible refine (HW.out _).mono ?_); rintro r9 w9 ⟨rfl, rfl⟩) | ((with_reducible refine (HS.out _).mono ?_); rintro r9 w9 ⟨rfl, rfl⟩) | ((with_reducible refine (HO.out _).mono ?_); rintro r9 w9 ⟨rfl, rfl⟩) | ((with_reducible refine (HN.out _).mono ?_); rintro r9 w9 ⟨rfl, rfl⟩) | ((with_reducible refine (HQo.out _).mono ?_); rintro r9 w9 ⟨rfl, rfl⟩) | ((with_reducible refine (HQn.out _).mono ?_); rintro r9 w9 ⟨rfl, rfl⟩) | ((with_reducible refine HLn.out.mono ?_); rintro r9 w9 ⟨rfl, h9⟩))
  go_ret
  first | exact ⟨rfl, .nil HLOW.out⟩ | exact ⟨rfl, .nil h9.low⟩
set_option maxRecDepth 100000 in
set_option maxHeartbeats 16000000 in
theorem rcheck_2 (k : Int) (sku : KS) (ord n : Int) (v : Value) (ls : List Ln) (w : World) (hk : KindIs k true false true false false false) (hv : LnS w v ls) (hl : ls.length ≤ 9223372036854775807) :
  Calls Tryz.prog 96 #[.agg #[.int .i64 k, .string sku.1, .int .i64 ord, .int .i64 n, v]] w fun e w' => e = .returned (.int .i64 (if skuB 2 sku && ordB 2 ord && cntB 2 n && linB 2 ls then 0 else 2)) ∧ Sep w [] w' := by
 obtain ⟨a, c, rfl⟩ := hv.len
 have h1 := (Sep.start w).alloc (.cells (opCells k sku ord n (.slice a ls.length c)) 30)
 have HW := Lib.hid (fun wx => within_any k 1 9 wx)
 have HS := Lib.hid (fun wx => hasSku_any k wx)
 have HO := Lib.hid (fun wx => hasOrder_any k wx)
 have HN := Lib.hid (fun wx => hasN_any k wx)
 rw [hk.wi] at HW
 rw [hk.sk] at HS
 rw [hk.od] at HO
 rw [hk.nu] at HN
 have had := hk.ad
 have hre := hk.re
 have HQo := Lib.hid (fun wx => within_any ord 1 2147483647 wx)
 rw [wthB_qty] at HQo
 obtain ⟨c0, c1, c2, c3, c4⟩ := op_cells h1
 have HLOW := Lib.hid h1.low
 unfold opCells at *
 clear h1 hv hk
 obtain ⟨r, hr, hp⟩ : ∃ r : Int, r = (if skuB 2 sku && ordB 2 ord && cntB 2 n && linB 2 ls then 0 else 2) ∧ ((sku.1.toList.isEmpty = false ∧ r = 2) ∨ (sku.1.toList.isEmpty = true ∧ qtyB ord = false ∧ r = 2) ∨ (sku.1.toList.isEmpty = true ∧ qtyB ord = true ∧ (n == 0) = false ∧ r = 2) ∨ (sku.1.toList.isEmpty = true ∧ qtyB ord = true ∧ (n == 0) = true ∧ ((ls.length : Int) == 0) = false ∧ r = 2) ∨ (sku.1.toList.isEmpty = true ∧ qtyB ord = true ∧ (n == 0) = true ∧ ((ls.length : Int) == 0) = true ∧ r = 0)) := by
  refine ⟨_, rfl, ?_⟩
  have s1 : skuB 2 sku = sku.1.toList.isEmpty := rfl
  have s2 : ordB 2 ord = qtyB ord := rfl
  have s3 : cntB 2 n = (n == 0) := rfl
  have s4 : linB 2 ls = ((ls.length : Int) == 0) := rfl
  rw [s1, s2, s3, s4]
  cases sku.1.toList.isEmpty <;> cases qtyB ord <;> cases (n == 0) <;> cases ((ls.length : Int) == 0) <;> simp
 rw [← hr]
 clear hr
 rcases hp with ⟨e1, rfl⟩ | ⟨e1, e2, rfl⟩ | ⟨e1, e2, e3, rfl⟩ | ⟨e1, e2, e3, e4, rfl⟩ | ⟨e1, e2, e3, e4, rfl⟩
 ·skip
  go_enter Tryz.func96, Tryz.ntmps96
  go_wp2_with (first | ((with_reducible refine (HW.out _).mono ?_); rintro r9 w9 ⟨rfl, rfl⟩) | ((with_reducible refine (HS.out _).mono ?_); rintro r9 w9 ⟨rfl, rfl⟩) | ((with_reducible refine (HO.out _).mono ?_); rintro r9 w9 ⟨rfl, rfl⟩) | ((with_reducible refine (HN.out _).mono ?_); rintro r9 w9 ⟨rfl, rfl⟩) | ((with_reducible refine (HQo.out _).mono ?_); rintro r9 w9 ⟨rfl, rfl⟩))
  go_ret
  exact ⟨rfl, .nil HLOW.out⟩
 ·rw [e2] at HQo
  clear e2
  go_enter Tryz.func96, Tryz.ntmps96
  go_wp2_with (first | ((with_reducible refine (HW.out _).mono ?_); rintro r9 w9 ⟨rfl, rfl⟩) | ((with_reducible refine (HS.out _).mono ?_); rintro r9 w9 ⟨rfl, rfl⟩) | ((with_reducible refine (HO.out _).mono ?_); rintro r9 w9 ⟨rfl, rfl⟩) | ((with_reducible refine (HN.out _).mono ?_); rintro r9 w9 ⟨rfl, rfl⟩) | ((with_reducible refine (HQo.out _).mono ?_); rintro r9 w9 ⟨rfl, rfl⟩))
  go_ret
  exact ⟨rfl, .nil HLOW.out⟩
 ·rw [e2] at HQo
  clear e2
  go_enter Tryz.func96, Tryz.ntmps96
  go_wp2_with (first | ((with_reducible refine (HW.out _).mono ?_); rintro r9 w9 ⟨rfl, rfl⟩) | ((with_reducible refine (HS.out _).mono ?_); rintro r9 w9 ⟨rfl, rfl⟩) | ((with_reducible refine (HO.out _).mono ?_); rintro r9 w9 ⟨rfl, rfl⟩) | ((with_reducible refine (HN.out _).mono ?_); rintro r9 w9 ⟨rfl, rfl⟩) | ((with_reducible refine (HQo.out _).mono ?_); rintro r9 w9 ⟨rfl, rfl⟩))
  go_ret
  exact ⟨rfl, .nil HLOW.out⟩
 ·rw [e2] at HQo
  clear e2
  go_enter Tryz.func96, Tryz.ntmps96
  go_wp2_with (first | ((with_reducible refine (HW.out _).mono ?_); rintro r9 w9 ⟨rfl, rfl⟩) | ((with_reducible refine (HS.out _).mono ?_); rintro r9 w9 ⟨rfl, rfl⟩) | ((with_reducible refine (HO.out _).mono ?_); rintro r9 w9 ⟨rfl, rfl⟩) | ((with_reducible refine (HN.out _).mono ?_); rintro r9 w9 ⟨rfl, rfl⟩) | ((with_reducible refine (HQo.out _).mono ?_); rintro r9 w9 ⟨rfl, rfl⟩))
  go_ret
  exact ⟨rfl, .nil HLOW.out⟩
 ·rw [e2] at HQo
  clear e2
  go_enter Tryz.func96, Tryz.ntmps96
  go_wp2_with (first | ((with_reducible refine (HW.out _).mono ?_); rintro r9 w9 ⟨rfl, rfl⟩) | ((with_reducible refine (HS.out _).mono ?_); rintro r9 w9 ⟨rfl, rfl⟩) | ((with_reducible refine (HO.out _).mono ?_); rintro r9 w9 ⟨rfl, rfl⟩) | ((with_reducible refine (HN.out _).mono ?_); rintro r9 w9 ⟨rfl, rfl⟩) | ((with_reducible refine (HQo.out _).mono ?_); rintro r9 w9 ⟨rfl, rfl⟩))
  go_ret
  exact ⟨rfl, .nil HLOW.out⟩
set_option maxRecDepth 100000 in
set_option maxHeartbeats 16000000 in
theorem rcheck_4 (k : Int) (sku : KS) (ord n : Int) (v : Value) (ls : List Ln) (w : World) (hk : KindIs k true false false false true false) (hv : LnS w v ls) (hl : ls.length ≤ 9223372036854775807) :
  Calls Tryz.prog 96 #[.agg #[.int .i64 k, .string sku.1, .int .i64 ord, .int .i64 n, v]] w fun e w' => e = .returned (.int .i64 (if skuB 4 sku && ordB 4 ord && cntB 4 n && linB 4 ls then 0 else 2)) ∧ Sep w [] w' := by
 obtain ⟨a, c, rfl⟩ := hv.len
 have h1 := (Sep.start w).alloc (.cells (opCells k sku ord n (.slice a ls.length c)) 30)
 have HW := Lib.hid (fun wx => within_any k 1 9 wx)
 have HS := Lib.hid (fun wx => hasSku_any k wx)
 have HO := Lib.hid (fun wx => hasOrder_any k wx)
 have HN := Lib.hid (fun wx => hasN_any k wx)
 rw [hk.wi] at HW
 rw [hk.sk] at HS
 rw [hk.od] at HO
 rw [hk.nu] at HN
 have had := hk.ad
 have hre := hk.re
 have HQn := Lib.hid (fun wx => within_any n 1 2147483647 wx)
 rw [wthB_qty] at HQn
 obtain ⟨c0, c1, c2, c3, c4⟩ := op_cells h1
 have HLOW := Lib.hid h1.low
 unfold opCells at *
 clear h1 hv hk
 obtain ⟨r, hr, hp⟩ : ∃ r : Int, r = (if skuB 4 sku && ordB 4 ord && cntB 4 n && linB 4 ls then 0 else 2) ∧ ((sku.1.toList.isEmpty = false ∧ r = 2) ∨ (sku.1.toList.isEmpty = true ∧ (ord == 0) = false ∧ r = 2) ∨ (sku.1.toList.isEmpty = true ∧ (ord == 0) = true ∧ qtyB n = false ∧ r = 2) ∨ (sku.1.toList.isEmpty = true ∧ (ord == 0) = true ∧ qtyB n = true ∧ ((ls.length : Int) == 0) = false ∧ r = 2) ∨ (sku.1.toList.isEmpty = true ∧ (ord == 0) = true ∧ qtyB n = true ∧ ((ls.length : Int) == 0) = true ∧ r = 0)) := by
  refine ⟨_, rfl, ?_⟩
  have s1 : skuB 4 sku = sku.1.toList.isEmpty := rfl
  have s2 : ordB 4 ord = (ord == 0) := rfl
  have s3 : cntB 4 n = qtyB n := rfl
  have s4 : linB 4 ls = ((ls.length : Int) == 0) := rfl
  rw [s1, s2, s3, s4]
  cases sku.1.toList.isEmpty <;> cases (ord == 0) <;> cases qtyB n <;> cases ((ls.length : Int) == 0) <;> simp
 rw [← hr]
 clear hr
 rcases hp with ⟨e1, rfl⟩ | ⟨e1, e2, rfl⟩ | ⟨e1, e2, e3, rfl⟩ | ⟨e1, e2, e3, e4, rfl⟩ | ⟨e1, e2, e3, e4, rfl⟩
 ·skip
  go_enter Tryz.func96, Tryz.ntmps96
  go_wp2_with (first | ((with_reducible refine (HW.out _).mono ?_); rintro r9 w9 ⟨rfl, rfl⟩) | ((with_reducible refine (HS.out _).mono ?_); rintro r9 w9 ⟨rfl, rfl⟩) | ((with_reducible refine (HO.out _).mono ?_); rintro r9 w9 ⟨rfl, rfl⟩) | ((with_reducible refine (HN.out _).mono ?_); rintro r9 w9 ⟨rfl, rfl⟩) | ((with_reducible refine (HQn.out _).mono ?_); rintro r9 w9 ⟨rfl, rfl⟩))
  go_ret
  exact ⟨rfl, .nil HLOW.out⟩
 ·skip
  go_enter Tryz.func96, Tryz.ntmps96
  go_wp2_with (first | ((with_reducible refine (HW.out _).mono ?_); rintro r9 w9 ⟨rfl, rfl⟩) | ((with_reducible refine (HS.out _).mono ?_); rintro r9 w9 ⟨rfl, rfl⟩) | ((with_reducible refine (HO.out _).mono ?_); rintro r9 w9 ⟨rfl, rfl⟩) | ((with_reducible refine (HN.out _).mono ?_); rintro r9 w9 ⟨rfl, rfl⟩) | ((with_reducible refine (HQn.out _).mono ?_); rintro r9 w9 ⟨rfl, rfl⟩))
  go_ret
  exact ⟨rfl, .nil HLOW.out⟩
 ·rw [e3] at HQn
  clear e3
  go_enter Tryz.func96, Tryz.ntmps96
  go_wp2_with (first | ((with_reducible refine (HW.out _).mono ?_); rintro r9 w9 ⟨rfl, rfl⟩) | ((with_reducible refine (HS.out _).mono ?_); rintro r9 w9 ⟨rfl, rfl⟩) | ((with_reducible refine (HO.out _).mono ?_); rintro r9 w9 ⟨rfl, rfl⟩) | ((with_reducible refine (HN.out _).mono ?_); rintro r9 w9 ⟨rfl, rfl⟩) | ((with_reducible refine (HQn.out _).mono ?_); rintro r9 w9 ⟨rfl, rfl⟩))
  go_ret
  exact ⟨rfl, .nil HLOW.out⟩
 ·rw [e3] at HQn
  clear e3
  go_enter Tryz.func96, Tryz.ntmps96
  go_wp2_with (first | ((with_reducible refine (HW.out _).mono ?_); rintro r9 w9 ⟨rfl, rfl⟩) | ((with_reducible refine (HS.out _).mono ?_); rintro r9 w9 ⟨rfl, rfl⟩) | ((with_reducible refine (HO.out _).mono ?_); rintro r9 w9 ⟨rfl, rfl⟩) | ((with_reducible refine (HN.out _).mono ?_); rintro r9 w9 ⟨rfl, rfl⟩) | ((with_reducible refine (HQn.out _).mono ?_); rintro r9 w9 ⟨rfl, rfl⟩))
  go_ret
  exact ⟨rfl, .nil HLOW.out⟩
 ·rw [e3] at HQn
  clear e3
  go_enter Tryz.func96, Tryz.ntmps96
  go_wp2_with (first | ((with_reducible refine (HW.out _).mono ?_); rintro r9 w9 ⟨rfl, rfl⟩) | ((with_reducible refine (HS.out _).mono ?_); rintro r9 w9 ⟨rfl, rfl⟩) | ((with_reducible refine (HO.out _).mono ?_); rintro r9 w9 ⟨rfl, rfl⟩) | ((with_reducible refine (HN.out _).mono ?_); rintro r9 w9 ⟨rfl, rfl⟩) | ((with_reducible refine (HQn.out _).mono ?_); rintro r9 w9 ⟨rfl, rfl⟩))
  go_ret
  exact ⟨rfl, .nil HLOW.out⟩
set_option maxRecDepth 100000 in
set_option maxHeartbeats 16000000 in
theorem rcheck_1 (k : Int) (sku : KS) (ord n : Int) (v : Value) (ls : List Ln) (w : World) (hk : KindIs k true true false false false false) (hv : LnS w v ls) (hl : ls.length ≤ 9223372036854775807) :
  Calls Tryz.prog 96 #[.agg #[.int .i64 k, .string sku.1, .int .i64 ord, .int .i64 n, v]] w fun e w' => e = .returned (.int .i64 (if skuB 1 sku && ordB 1 ord && cntB 1 n && linB 1 ls then 0 else 2)) ∧ Sep w [] w' := by
 obtain ⟨a, c, rfl⟩ := hv.len
 have h1 := (Sep.start w).alloc (.cells (opCells k sku ord n (.slice a ls.length c)) 30)
 have HW := Lib.hid (fun wx => within_any k 1 9 wx)
 have HS := Lib.hid (fun wx => hasSku_any k wx)
 have HO := Lib.hid (fun wx => hasOrder_any k wx)
 have HN := Lib.hid (fun wx => hasN_any k wx)
 rw [hk.wi] at HW
 rw [hk.sk] at HS
 rw [hk.od] at HO
 rw [hk.nu] at HN
 have had := hk.ad
 have hre := hk.re
 have HNm := Lib.hid (fun wx => rname_any sku.1 wx sku.2)
 obtain ⟨c0, c1, c2, c3, c4⟩ := op_cells h1
 have HLOW := Lib.hid h1.low
 unfold opCells at *
 clear h1 hv hk
 obtain ⟨r, hr, hp⟩ : ∃ r : Int, r = (if skuB 1 sku && ordB 1 ord && cntB 1 n && linB 1 ls then 0 else 2) ∧ ((nameB sku.1 = false ∧ r = 2) ∨ (nameB sku.1 = true ∧ (ord == 0) = false ∧ r = 2) ∨ (nameB sku.1 = true ∧ (ord == 0) = true ∧ (n == 0) = false ∧ r = 2) ∨ (nameB sku.1 = true ∧ (ord == 0) = true ∧ (n == 0) = true ∧ ((ls.length : Int) == 0) = false ∧ r = 2) ∨ (nameB sku.1 = true ∧ (ord == 0) = true ∧ (n == 0) = true ∧ ((ls.length : Int) == 0) = true ∧ r = 0)) := by
  refine ⟨_, rfl, ?_⟩
  have s1 : skuB 1 sku = nameB sku.1 := rfl
  have s2 : ordB 1 ord = (ord == 0) := rfl
  have s3 : cntB 1 n = (n == 0) := rfl
  have s4 : linB 1 ls = ((ls.length : Int) == 0) := rfl
  rw [s1, s2, s3, s4]
  cases nameB sku.1 <;> cases (ord == 0) <;> cases (n == 0) <;> cases ((ls.length : Int) == 0) <;> simp
 rw [← hr]
 clear hr
 rcases hp with ⟨e1, rfl⟩ | ⟨e1, e2, rfl⟩ | ⟨e1, e2, e3, rfl⟩ | ⟨e1, e2, e3, e4, rfl⟩ | ⟨e1, e2, e3, e4, rfl⟩
 ·rw [e1] at HNm
  clear e1
  go_enter Tryz.func96, Tryz.ntmps96
  go_wp2_with (first | ((with_reducible refine (HW.out _).mono ?_); rintro r9 w9 ⟨rfl, rfl⟩) | ((with_reducible refine (HS.out _).mono ?_); rintro r9 w9 ⟨rfl, rfl⟩) | ((with_reducible refine (HO.out _).mono ?_); rintro r9 w9 ⟨rfl, rfl⟩) | ((with_reducible refine (HN.out _).mono ?_); rintro r9 w9 ⟨rfl, rfl⟩) | ((with_reducible refine (HNm.out _).mono ?_); rintro r9 w9 ⟨rfl, rfl⟩))
  go_ret
  exact ⟨rfl, .nil HLOW.out⟩
 ·rw [e1] at HNm
  clear e1
  go_enter Tryz.func96, Tryz.ntmps96
  go_wp2_with (first | ((with_reducible refine (HW.out _).mono ?_); rintro r9 w9 ⟨rfl, rfl⟩) | ((with_reducible refine (HS.out _).mono ?_); rintro r9 w9 ⟨rfl, rfl⟩) | ((with_reducible refine (HO.out _).mono ?_); rintro r9 w9 ⟨rfl, rfl⟩) | ((with_reducible refine (HN.out _).mono ?_); rintro r9 w9 ⟨rfl, rfl⟩) | ((with_reducible refine (HNm.out _).mono ?_); rintro r9 w9 ⟨rfl, rfl⟩))
  go_ret
  exact ⟨rfl, .nil HLOW.out⟩
 ·rw [e1] at HNm
  clear e1
  go_enter Tryz.func96, Tryz.ntmps96
  go_wp2_with (first | ((with_reducible refine (HW.out _).mono ?_); rintro r9 w9 ⟨rfl, rfl⟩) | ((with_reducible refine (HS.out _).mono ?_); rintro r9 w9 ⟨rfl, rfl⟩) | ((with_reducible refine (HO.out _).mono ?_); rintro r9 w9 ⟨rfl, rfl⟩) | ((with_reducible refine (HN.out _).mono ?_); rintro r9 w9 ⟨rfl, rfl⟩) | ((with_reducible refine (HNm.out _).mono ?_); rintro r9 w9 ⟨rfl, rfl⟩))
  go_ret
  exact ⟨rfl, .nil HLOW.out⟩
 ·rw [e1] at HNm
  clear e1
  go_enter Tryz.func96, Tryz.ntmps96
  go_wp2_with (first | ((with_reducible refine (HW.out _).mono ?_); rintro r9 w9 ⟨rfl, rfl⟩) | ((with_reducible refine (HS.out _).mono ?_); rintro r9 w9 ⟨rfl, rfl⟩) | ((with_reducible refine (HO.out _).mono ?_); rintro r9 w9 ⟨rfl, rfl⟩) | ((with_reducible refine (HN.out _).mono ?_); rintro r9 w9 ⟨rfl, rfl⟩) | ((with_reducible refine (HNm.out _).mono ?_); rintro r9 w9 ⟨rfl, rfl⟩))
  go_ret
  exact ⟨rfl, .nil HLOW.out⟩
 ·rw [e1] at HNm
  clear e1
  go_enter Tryz.func96, Tryz.ntmps96
  go_wp2_with (first | ((with_reducible refine (HW.out _).mono ?_); rintro r9 w9 ⟨rfl, rfl⟩) | ((with_reducible refine (HS.out _).mono ?_); rintro r9 w9 ⟨rfl, rfl⟩) | ((with_reducible refine (HO.out _).mono ?_); rintro r9 w9 ⟨rfl, rfl⟩) | ((with_reducible refine (HN.out _).mono ?_); rintro r9 w9 ⟨rfl, rfl⟩) | ((with_reducible refine (HNm.out _).mono ?_); rintro r9 w9 ⟨rfl, rfl⟩))
  go_ret
  exact ⟨rfl, .nil HLOW.out⟩
set_option maxRecDepth 100000 in
set_option maxHeartbeats 16000000 in
theorem rcheck_0 (k : Int) (sku : KS) (ord n : Int) (v : Value) (ls : List Ln) (w : World) (hk : KindIs k false false false false false false) (hv : LnS w v ls) (hl : ls.length ≤ 9223372036854775807) :
  Calls Tryz.prog 96 #[.agg #[.int .i64 k, .string sku.1, .int .i64 ord, .int .i64 n, v]] w fun e w' => e = .returned (.int .i64 (2)) ∧ Sep w [] w' := by
 obtain ⟨a, c, rfl⟩ := hv.len
 have h1 := (Sep.start w).alloc (.cells (opCells k sku ord n (.slice a ls.length c)) 30)
 have HW := Lib.hid (fun wx => within_any k 1 9 wx)
 have HS := Lib.hid (fun wx => hasSku_any k wx)
 have HO := Lib.hid (fun wx => hasOrder_any k wx)
 have HN := Lib.hid (fun wx => hasN_any k wx)
 rw [hk.wi] at HW
 rw [hk.sk] at HS
 rw [hk.od] at HO
 rw [hk.nu] at HN
 have had := hk.ad
 have hre := hk.re
 obtain ⟨c0, c1, c2, c3, c4⟩ := op_cells h1
 have HLOW := Lib.hid h1.low
 unfold opCells at *
 clear h1 hv hk
 go_enter Tryz.func96, Tryz.ntmps96
 go_wp2_with (first | ((with_reducible refine (HW.out _).mono ?_); rintro r9 w9 ⟨rfl, rfl⟩) | ((with_reducible refine (HS.out _).mono ?_); rintro r9 w9 ⟨rfl, rfl⟩) | ((with_reducible refine (HO.out _).mono ?_); rintro r9 w9 ⟨rfl, rfl⟩) | ((with_reducible refine (HN.out _).mono ?_); rintro r9 w9 ⟨rfl, rfl⟩))
 go_ret
 exact ⟨rfl, .nil HLOW.out⟩
theorem rcheck_any {w0 w : World} {L : List Thing} (k : Int) (sku : KS) (ord n : Int) (v : Value) (ls : List Ln) (h : Sep w0 L w) (hv : LnS w v ls) (hl : ls.length ≤ 9223372036854775807) :
  Calls Tryz.prog 96 #[.agg #[.int .i64 k, .string sku.1, .int .i64 ord, .int .i64 n, v]] w fun e w' => e = .returned (.int .i64 (if okB k sku ord n ls then 0 else 2)) ∧ Sep w0 L w' := by
 suffices hh : Calls Tryz.prog 96 #[.agg #[.int .i64 k, .string sku.1, .int .i64 ord, .int .i64 n, v]] w fun e w' => e = .returned (.int .i64 (if okB k sku ord n ls then 0 else 2)) ∧ Sep w [] w' from hh.mono fun e w' ⟨h1, h2⟩ => ⟨h1, h.below h2.low⟩
 rcases kind_is k with ⟨hf, hk⟩ | ⟨hf, hk⟩ | ⟨hf, hk⟩ | ⟨hf, hk⟩ | ⟨hf, hk⟩ | ⟨hf, hk⟩ | ⟨hf, hk⟩
 ·have := rcheck_5 k sku ord n v ls w hk hv hl; simpa [okB, hf] using this
 ·have := rcheck_9 k sku ord n v ls w hk hv hl; simpa [okB, hf] using this
 ·have := rcheck_22 k sku ord n v ls w hk hv hl; simpa [okB, hf] using this
 ·have := rcheck_2 k sku ord n v ls w hk hv hl; simpa [okB, hf] using this
 ·have := rcheck_4 k sku ord n v ls w hk hv hl; simpa [okB, hf] using this
 ·have := rcheck_1 k sku ord n v ls w hk hv hl; simpa [okB, hf] using this
 ·have := rcheck_0 k sku ord n v ls w hk hv hl; simpa [okB, hf] using this
end Go.Proofs.YtcnbmeiielkigaaGreatDoor
/- The document's own item: Same. -/
namespace Go.Proofs.YtcnbmeiielkigaaGreatDoor
open Go.RowKit
set_option linter.unusedVariables false
set_option linter.unusedSimpArgs false
theorem sameB_split (k : Int) (s : KS) (o n : Int) (ls : List Ln) (k' : Int) (s' : KS) (o' n' : Int) (ls' : List Ln) :
  (k ≠ k' ∧ sameB k s o n ls k' s' o' n' ls' = false) ∨ (k = k' ∧ s.1 ≠ s'.1 ∧ sameB k s o n ls k' s' o' n' ls' = false) ∨ (k = k' ∧ s.1 = s'.1 ∧ o ≠ o' ∧ sameB k s o n ls k' s' o' n' ls' = false) ∨
  (k = k' ∧ s.1 = s'.1 ∧ o = o' ∧ n ≠ n' ∧ sameB k s o n ls k' s' o' n' ls' = false) ∨ (k = k' ∧ s.1 = s'.1 ∧ o = o' ∧ n = n' ∧ ls.length ≠ ls'.length ∧ sameB k s o n ls k' s' o' n' ls' = false) ∨
  (k = k' ∧ s.1 = s'.1 ∧ o = o' ∧ n = n' ∧ ls.length = ls'.length ∧ sameB k s o n ls k' s' o' n' ls' = decide (ls = ls')) := by
 by_cases h1 : k = k'
 ·by_cases h2 : s.1 = s'.1
  ·by_cases h3 : o = o'
   ·by_cases h4 : n = n'
    ·by_cases h5 : ls.length = ls'.length
     ·exact .inr (.inr (.inr (.inr (.inr ⟨h1, h2, h3, h4, h5, by simp [sameB, h1, h2, h3, h4]⟩))))
     ·exact .inr (.inr (.inr (.inr (.inl ⟨h1, h2, h3, h4, h5, by
       have : decide (ls = ls') = false := decide_eq_false fun e => h5 (by rw [e])
       unfold sameB; rw [this]; simp⟩))))
    ·exact .inr (.inr (.inr (.inl ⟨h1, h2, h3, h4, by simp [sameB, h4]⟩)))
   ·exact .inr (.inr (.inl ⟨h1, h2, h3, by simp [sameB, h3]⟩))
  ·exact .inr (.inl ⟨h1, h2, by simp [sameB, h2]⟩)
 ·exact .inl ⟨h1, by simp [sameB, h1]⟩
set_option maxRecDepth 100000 in
set_option maxHeartbeats 16000000 in
theorem rsame_any {w0 w : World} {L : List Thing} (k : Int) (s : KS) (o n : Int) (v : Value) (la : List Ln) (k' : Int) (s' : KS) (o' n' : Int) (v' : Value) (lb : List Ln) (h : Sep w0 L w) (ha : LnS w v la) (hb : LnS w v' lb) (hl : la.length ≤ 9223372036854775807) :
  Calls Tryz.prog 61 #[.agg #[.int .i64 k, .string s.1, .int .i64 o, .int .i64 n, v], .agg #[.int .i64 k', .string s'.1, .int .i64 o', .int .i64 n', v']] w fun e w' => e = .returned (.bool (sameB k s o n la k' s' o' n' lb)) ∧ Sep w0 L w' := by
 suffices hh : Calls Tryz.prog 61 #[.agg #[.int .i64 k, .string s.1, .int .i64 o, .int .i64 n, v], .agg #[.int .i64 k', .string s'.1, .int .i64 o', .int .i64 n', v']] w fun e w' => e = .returned (.bool (sameB k s o n la k' s' o' n' lb)) ∧ Sep w [] w' from hh.mono fun e w' ⟨h1, h2⟩ => ⟨h1, h.below h2.low⟩
 clear h
 obtain ⟨aa, ca, rfl⟩ := ha.len
 obtain ⟨ab, cb, rfl⟩ := hb.len
 obtain ⟨wa, hwa⟩ : ∃ z, z = (w.alloc (.cells (opCells k s o n (.slice aa la.length ca)) 30)).alloc (.cells (opCells k' s' o' n' (.slice ab lb.length cb)) 30) := ⟨_, rfl⟩
 have h1 := ((Sep.start w).alloc (.cells (opCells k s o n (.slice aa la.length ca)) 30)).alloc (.cells (opCells k' s' o' n' (.slice ab lb.length cb)) 30)
 rw [← hwa] at h1
 rw [show (w.alloc (.cells (opCells k s o n (.slice aa la.length ca)) 30)).heap.size = w.heap.size + 1 by simp] at h1
 obtain ⟨b1, hb1⟩ : ∃ z, z = w.heap.size := ⟨_, rfl⟩
 obtain ⟨b2, hb2⟩ : ∃ z, z = w.heap.size + 1 := ⟨_, rfl⟩
 rw [← hb2, ← hb1] at h1
 have HA := Lib.hid (ha.below h1.low)
 have HB := Lib.hid (hb.below h1.low)
 have HS := Lib.hid h1
 obtain ⟨p0, p1, p2, p3, p4⟩ := op_cells h1.sw2
 obtain ⟨q0, q1, q2, q3, q4⟩ := op_cells h1
 unfold opCells at hwa
 clear ha hb h1
 rcases sameB_split k s o n la k' s' o' n' lb with ⟨e1, er⟩ | ⟨rfl, e1, er⟩ | ⟨rfl, e2, e1, er⟩ | ⟨rfl, e2, rfl, e1, er⟩ | ⟨rfl, e2, rfl, rfl, e1, er⟩ | ⟨rfl, e2, rfl, rfl, hne, er⟩
 ·rw [er]
  have x1 : (k != k') = true := by rw [bne_iff_ne]; exact e1
  clear er e1
  go_enter Tryz.func61, Tryz.ntmps61
  go_wp2_with fail
  go_ret
  exact ⟨rfl, by first | exact .nil HS.out.low | (rw [← hwa]; exact .nil HS.out.low)⟩
 ·rw [er]
  have x1 : (s.1.toList != s'.1.toList) = true := by rw [bne, str_ne e1]; rfl
  have x0 : (s.1.toList == s'.1.toList) = false := str_ne e1
  clear er e1
  go_enter Tryz.func61, Tryz.ntmps61
  go_wp2_with fail
  go_ret
  exact ⟨rfl, by first | exact .nil HS.out.low | (rw [← hwa]; exact .nil HS.out.low)⟩
 ·rw [er]
  have x1 : (o != o') = true := by rw [bne_iff_ne]; exact e1
  obtain rfl : s = s' := Subtype.ext e2
  clear er e1 e2
  go_enter Tryz.func61, Tryz.ntmps61
  go_wp2_with fail
  go_ret
  exact ⟨rfl, by first | exact .nil HS.out.low | (rw [← hwa]; exact .nil HS.out.low)⟩
 ·rw [er]
  have x1 : (n != n') = true := by rw [bne_iff_ne]; exact e1
  obtain rfl : s = s' := Subtype.ext e2
  clear er e1 e2
  go_enter Tryz.func61, Tryz.ntmps61
  go_wp2_with fail
  go_ret
  exact ⟨rfl, by first | exact .nil HS.out.low | (rw [← hwa]; exact .nil HS.out.low)⟩
 ·rw [er]
  have x1 : (((la.length : Nat) : Int) != ((lb.length : Nat) : Int)) = true := by rw [bne_iff_ne]; omega
  have x2 : (la.length != lb.length) = true := by rw [bne_iff_ne]; exact e1
  obtain rfl : s = s' := Subtype.ext e2
  clear er e1 e2
  go_enter Tryz.func61, Tryz.ntmps61
  go_wp2_with fail
  go_ret
  exact ⟨rfl, by first | exact .nil HS.out.low | (rw [← hwa]; exact .nil HS.out.low)⟩
 ·rw [er]
  clear er
  obtain rfl : s = s' := Subtype.ext e2
  have hn : (((la.length : Nat) : Int) != ((lb.length : Nat) : Int)) = false := by simp [hne]
  have hn' : (la.length != lb.length) = false := by simp [hne]
  have HN := Lib.hid hne
  obtain ⟨r, hr⟩ : ∃ r : Bool, r = decide (la = lb) := ⟨_, rfl⟩
  rw [← hr]
  have HR := Lib.hid hr
  clear hne hr
  go_enter Tryz.func61, Tryz.ntmps61
  go_wp2_with fail
  rw [← hwa]
  rw [← hb2]
  rw [← hb1]
  clear hwa hb1 hb2
  go_wp2_with fail
  go_loopw [5] (fun i wr => ∃ k m : Nat, k ≤ la.length ∧ i = .int .i64 k ∧ la.take k = lb.take k ∧ wr = wa.drewN m) (fun i _ => la.length - (intOf i).toNat)
  case atStart => exact ⟨0, 0, by omega, rfl, rfl, rfl⟩
  case round =>
   obtain ⟨j, m, hk, rfl, ht, rfl⟩ := hrel
   have k0 : (0 : Int) ≤ (j : Int) := by omega
   have kb : (j : Int) ≤ 9223372036854775807 := by omega
   by_cases hkn : j < la.length
   ·have hd : decide (j < la.length) = true := decide_eq_true hkn
    have hkb : j < lb.length := by have := HN.out; omega
    have k1 : (j : Int) < (la.length : Int) := by omega
    have k2 : (j : Int) < (lb.length : Int) := by omega
    obtain ⟨-, -, -, b3, o3, rfl, -, hc1⟩ := HA.out.at hkn
    obtain ⟨-, -, -, b4, o4, rfl, -, hc2⟩ := HB.out.at hkb
    obtain ⟨c0, c1⟩ := hc1 wa (Below.refl _ wa)
    obtain ⟨d0, d1⟩ := hc2 wa (Below.refl _ wa)
    by_cases he : la[j] = lb[j]
    ·have HT := Lib.hid (takeL_succ ht hkn hkb he)
     rw [← he] at d0 d1
     generalize la[j] = z at *
     clear ht hc1 hc2 hkn hkb he
     go_wp2_with fail
     go_quiet (fail)
     go_wp2_with fail
     go_roundw
     case rel => exact ⟨j + 1, m + nq, of_decide_eq_true hd, by go_num, HT.out, by simp [World.drewN, Nat.add_assoc]⟩
     case measure => have hkn := of_decide_eq_true hd; simp [intOf]; omega
    ·have HF : Hid (r = false) := Lib.hid (by
      rw [HR.out]
      exact decide_eq_false fun e => by subst e; exact he rfl)
     generalize la[j] = z at *
     generalize lb[j] = z' at *
     by_cases hs : z.1.1 = z'.1.1
     ·have e2 : (z.2 == z'.2) = false := by
       rw [beq_eq_false_iff_ne]
       exact fun h => he (Prod.ext (Subtype.ext hs) h)
      rw [← hs] at d0
      clear ht hc1 hc2 hkn hkb he hs
      go_wp2_with fail
      go_quiet (fail)
      go_wp2_with fail
      go_ret
      rw [HF.out]
      exact ⟨rfl, .nil ((HS.out.drewN m).drewN nq).low⟩
     ·have e3 : (z.1.1.toList == z'.1.1.toList) = false := str_ne hs
      have e4 : (z.1.1.toList != z'.1.1.toList) = true := by rw [bne, e3]; rfl
      clear ht hc1 hc2 hkn hkb he hs
      go_wp2_with fail
      go_quiet (fail)
      go_wp2_with fail
      go_ret
      rw [HF.out]
      exact ⟨rfl, .nil ((HS.out.drewN m).drewN nq).low⟩
   ·have hd : decide (j < la.length) = false := decide_eq_false hkn
    have HF : Hid (r = true) := Lib.hid (by
     rw [HR.out]
     have hkl : j = la.length := by omega
     rw [hkl, List.take_length, HN.out, List.take_length] at ht
     exact decide_eq_true ht)
    clear ht hkn
    go_wp2_with fail
    go_ret
    rw [HF.out]
    exact ⟨rfl, .nil (HS.out.drewN m).low⟩
end Go.Proofs.YtcnbmeiielkigaaGreatDoor
/- More of things beside each other. -/
namespace Go.Proofs.YtcnbmeiielkigaaGreatDoor
open Go.RowKit
set_option linter.unusedVariables false
end Go.Proofs.YtcnbmeiielkigaaGreatDoor
