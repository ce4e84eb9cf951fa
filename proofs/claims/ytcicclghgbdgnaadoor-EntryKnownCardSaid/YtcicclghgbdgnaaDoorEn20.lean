/- The statement EntryKnown. -/
import Derived.Test.YtcicclghgbdgnaaDoorEn19
namespace Go.Proofs.YtcicclghgbdgnaaDoor
open Go.RowKit
set_option linter.unusedVariables false
set_option linter.unusedSimpArgs false
theorem exec_build {P : Program} {o : Oper} {a : Act} {w : World} (t : TypeId) (parts : Array (Nat × Operand)) (ho : o.op = .build t parts) (cells : Array Value)
    (hc : P.built t (parts.map fun (i, x) => (i, a.eval x)).toList = some cells) : (execOp a.eval o).run P w = Result.ok (Next.value (.agg cells)) w := by
  unfold execOp
  simp only [ho, Sem.run_bind, run_build w t _ cells hc, Result.andThen_ok]
  rfl
theorem step_wanted {P : Program} {ops : Array Oper} {o : Oper} {a : Act} {w : World} {K : Act → World → Prop} {Q : Exit → Act → World → Prop} {E : Prop} (hw : Region.wanted o (yielded ops a.tmps) = true) (h : Oper.wp P o a w K Q) :
    if Region.wanted o (yielded ops a.tmps) = true then Oper.wp P o a w K Q else E := by
  rw [if_pos hw]; exact h
theorem builtE1 : Tryd.prog.built 26 [(1, .int .i64 1), (2, .agg #[.int .i64 6, .string ⟨#[]⟩, .int .i64 5, .int .i64 0, .slice none 0 0])] = some #[.int .i64 0, .int .i64 1, .int .i64 6, .string ⟨#[]⟩, .int .i64 5, .int .i64 0, .slice none 0 0] := by kernel_rfl
set_option maxRecDepth 100000 in
set_option maxHeartbeats 64000000 in
theorem known04 (w : World) (hk : KindsAt w) : Calls Tryd.prog 7 #[] w fun e w' => e = .returned (.bool true) ∧ Below w.heap.size w w' := by
  have HKA := Lib.hid hk
  clear hk
  go_enter Tryd.func7, Tryd.ntmps7
  (try dsimp only); repeat' (first | go_values | go_skip | go_guarded | go_step | go_upon | go_back)
  obtain ⟨ea, hea⟩ : ∃ x : Array Value, x = #[.int .i64 (-9223372036854775808), .int .i64 (-1), .int .i64 0, .int .i64 1, .int .i64 7, .int .i64 8, .int .i64 2147483647, .int .i64 2147483648, .int .i64 9223372036854775807] := ⟨_, rfl⟩
  have HEA : Hid (∀ i : Nat, i < 9 → ∃ z : Int, ea[i]? = some (.int .i64 z)) := Lib.hid fun i hi => getI [-9223372036854775808, -1, 0, 1, 7, 8, 2147483647, 2147483648, 9223372036854775807] ea (by rw [hea]; rfl) i hi
  have h1 := ((Sep.start w).alloc (.cells #[(.int .i64 6), (.string ⟨#[]⟩), (.int .i64 5), (.int .i64 0), (.slice none 0 0)] 24)).alloc (.cells ea 3)
  rw [show (w.alloc (.cells #[(.int .i64 6), (.string ⟨#[]⟩), (.int .i64 5), (.int .i64 0), (.slice none 0 0)] 24)).heap.size = w.heap.size + 1 by simp] at h1
  rw [← hea]
  obtain ⟨W, hW⟩ : ∃ z, z = (w.alloc (.cells #[(.int .i64 6), (.string ⟨#[]⟩), (.int .i64 5), (.int .i64 0), (.slice none 0 0)] 24)).alloc (.cells ea 3) := ⟨_, rfl⟩
  obtain ⟨b1, hb1⟩ : ∃ z, z = w.heap.size := ⟨_, rfl⟩
  obtain ⟨b2, hb2⟩ : ∃ z, z = w.heap.size + 1 := ⟨_, rfl⟩
  rw [← hW, ← hb2, ← hb1] at h1
  rw [← hW, ← hb2, ← hb1]
  have H1 := Lib.hid h1
  clear hea h1 hW hb1 hb2
  go_loopw [3] (fun i wr => ∃ q : Nat, q ≤ 9 ∧ i = .int .i64 q ∧ Sep w [Cl b2 ea 3, Cl b1 #[(.int .i64 6), (.string ⟨#[]⟩), (.int .i64 5), (.int .i64 0), (.slice none 0 0)] 24] wr) (fun i _ => 9 - (intOf i).toNat)
  case atStart => exact ⟨0, by omega, rfl, H1.out⟩
  case round =>
    obtain ⟨i, hi, rfl, hs⟩ := hrel
    clear H1
    have i0 : (0 : Int) ≤ (i : Int) := by omega
    by_cases hi9 : i < 9
    · have hd9 : decide ((i : Int) < 9) = true := decide_eq_true (by omega)
      have hi9' : (i : Int) < 9 := by omega
      have HI := Lib.hid hi9
      obtain ⟨z, hz⟩ := HEA.out i hi9
      have e0 := hs.cell hz
      obtain ⟨s0, s1, s2, s3, s4⟩ := cells5 hs.sw2
      have HS := Lib.hid hs
      have HZ := Lib.hid hz
      clear hs hz hi hi9
      (try dsimp only); repeat' (first | go_values | go_skip | go_guarded | go_step | go_upon | go_back)
      refine wp_region_G (fun w' => w'.cell? ⟨b2, i, none⟩ = some (.int .i64 z) ∧ w'.cell? ⟨b1, 0, none⟩ = some (.int .i64 6) ∧ w'.cell? ⟨b1, 1, none⟩ = some (.string ⟨#[]⟩) ∧ w'.cell? ⟨b1, 2, none⟩ = some (.int .i64 5) ∧ w'.cell? ⟨b1, 3, none⟩ = some (.int .i64 0) ∧ w'.cell? ⟨b1, 4, none⟩ = some (.slice none 0 0)) [25] (by kernel_rfl) ⟨e0, s0, s1, s2, s3, s4⟩ (fun hS => ?_)
      try dsimp only at hS
      refine wpAnyG_take' (i := 0) (v := ?v0_1r6) rfl (by kernel_rfl) (by kernel_rfl) (by kernel_rfl) (by kernel_rfl) (fun _ _ _ h => h) (Or.inl ⟨by rfl, ?hy0_1r6⟩) hS ?rest0_1r6
      case hy0_1r6 => intro w hSw; (try dsimp only at hSw); go_simp; (try with_reducible rfl)
      case rest0_1r6 =>
      try simp only [List.getElem_toArray, List.getElem_cons_succ, List.getElem_cons_zero, Act.put, List.setIfInBounds_toArray, List.set_cons_zero, List.set_cons_succ]
      refine wpAnyG_take' (i := 1) (v := ?v1_2r6) rfl (by kernel_rfl) (by kernel_rfl) (by kernel_rfl) (by kernel_rfl) (fun _ _ _ h => h) (Or.inl ⟨by rfl, ?hy1_2r6⟩) hS ?rest1_2r6
      case hy1_2r6 => intro w hSw; (try dsimp only at hSw); go_simp; (try with_reducible rfl)
      case rest1_2r6 =>
      try simp only [List.getElem_toArray, List.getElem_cons_succ, List.getElem_cons_zero, Act.put, List.setIfInBounds_toArray, List.set_cons_zero, List.set_cons_succ]
      refine wpAnyG_take' (i := 2) (v := ?v2_3r6) rfl (by kernel_rfl) (by kernel_rfl) (by kernel_rfl) (by kernel_rfl) (fun _ _ _ h => h) (Or.inl ⟨by rfl, ?hy2_3r6⟩) hS ?rest2_3r6
      case hy2_3r6 => intro w hSw; (try dsimp only at hSw); go_simp; (try with_reducible rfl)
      case rest2_3r6 =>
      try simp only [List.getElem_toArray, List.getElem_cons_succ, List.getElem_cons_zero, Act.put, List.setIfInBounds_toArray, List.set_cons_zero, List.set_cons_succ]
      refine wpAnyG_take' (i := 3) (v := ?v3_4r6) rfl (by kernel_rfl) (by kernel_rfl) (by kernel_rfl) (by kernel_rfl) (fun _ _ _ h => h) (Or.inl ⟨by rfl, ?hy3_4r6⟩) hS ?rest3_4r6
      case hy3_4r6 => intro w hSw; (try dsimp only at hSw); go_simp; (try with_reducible rfl)
      case rest3_4r6 =>
      try simp only [List.getElem_toArray, List.getElem_cons_succ, List.getElem_cons_zero, Act.put, List.setIfInBounds_toArray, List.set_cons_zero, List.set_cons_succ]
      refine wpAnyG_take' (i := 4) (v := ?v4_5r6) rfl (by kernel_rfl) (by kernel_rfl) (by kernel_rfl) (by kernel_rfl) (fun _ _ _ h => h) (Or.inl ⟨by rfl, ?hy4_5r6⟩) hS ?rest4_5r6
      case hy4_5r6 => intro w hSw; (try dsimp only at hSw); go_simp; (try with_reducible rfl)
      case rest4_5r6 =>
      try simp only [List.getElem_toArray, List.getElem_cons_succ, List.getElem_cons_zero, Act.put, List.setIfInBounds_toArray, List.set_cons_zero, List.set_cons_succ]
      refine wpAnyG_take' (i := 5) (v := ?v5_6r6) rfl (by kernel_rfl) (by kernel_rfl) (by kernel_rfl) (by kernel_rfl) (fun _ _ _ h => h) (Or.inl ⟨by rfl, ?hy5_6r6⟩) hS ?rest5_6r6
      case hy5_6r6 => intro w hSw; (try dsimp only at hSw); go_simp; (try with_reducible rfl)
      case rest5_6r6 =>
      try simp only [List.getElem_toArray, List.getElem_cons_succ, List.getElem_cons_zero, Act.put, List.setIfInBounds_toArray, List.set_cons_zero, List.set_cons_succ]
      refine wpAnyG_take' (i := 6) (v := ?v6_7r6) rfl (by kernel_rfl) (by kernel_rfl) (by kernel_rfl) (by kernel_rfl) (fun _ _ _ h => h) (Or.inl ⟨by rfl, ?hy6_7r6⟩) hS ?rest6_7r6
      case hy6_7r6 => intro w hSw; (try dsimp only at hSw); go_simp; (try with_reducible rfl)
      case rest6_7r6 =>
      try simp only [List.getElem_toArray, List.getElem_cons_succ, List.getElem_cons_zero, Act.put, List.setIfInBounds_toArray, List.set_cons_zero, List.set_cons_succ]
      refine wpAnyG_take' (i := 7) (v := ?v7_8r6) rfl (by kernel_rfl) (by kernel_rfl) (by kernel_rfl) (by kernel_rfl) (fun _ _ _ h => h) (Or.inl ⟨by rfl, ?hy7_8r6⟩) hS ?rest7_8r6
      case hy7_8r6 => intro w hSw; (try dsimp only at hSw); go_simp; (try with_reducible rfl)
      case rest7_8r6 =>
      try simp only [List.getElem_toArray, List.getElem_cons_succ, List.getElem_cons_zero, Act.put, List.setIfInBounds_toArray, List.set_cons_zero, List.set_cons_succ]
      refine wpAnyG_take' (i := 8) (v := ?v8_9r6) rfl (by kernel_rfl) (by kernel_rfl) (by kernel_rfl) (by kernel_rfl) (fun _ _ _ h => h) (Or.inl ⟨by rfl, ?hy8_9r6⟩) hS ?rest8_9r6
      case hy8_9r6 => intro w hSw; (try dsimp only at hSw); go_simp; (try with_reducible rfl)
      case rest8_9r6 =>
      try simp only [List.getElem_toArray, List.getElem_cons_succ, List.getElem_cons_zero, Act.put, List.setIfInBounds_toArray, List.set_cons_zero, List.set_cons_succ]
      refine wpAnyG_take' (i := 9) (v := ?v9_10r6) rfl (by kernel_rfl) (by kernel_rfl) (by kernel_rfl) (by kernel_rfl) (fun _ _ _ h => h) (Or.inl ⟨by rfl, ?hy9_10r6⟩) hS ?rest9_10r6
      case hy9_10r6 => intro w hSw; (try dsimp only at hSw); go_simp; (try with_reducible rfl)
      case rest9_10r6 =>
      try simp only [List.getElem_toArray, List.getElem_cons_succ, List.getElem_cons_zero, Act.put, List.setIfInBounds_toArray, List.set_cons_zero, List.set_cons_succ]
      refine wpAnyG_take' (i := 10) (v := ?v10_11r6) rfl (by kernel_rfl) (by kernel_rfl) (by kernel_rfl) (by kernel_rfl) (fun _ _ _ h => h) (Or.inl ⟨by rfl, ?hy10_11r6⟩) hS ?rest10_11r6
      case hy10_11r6 => intro w hSw; (try dsimp only at hSw); go_simp; (try with_reducible rfl)
      case rest10_11r6 =>
      try simp only [List.getElem_toArray, List.getElem_cons_succ, List.getElem_cons_zero, Act.put, List.setIfInBounds_toArray, List.set_cons_zero, List.set_cons_succ]
      refine wpAnyG_take' (i := 11) (v := ?v11_12r6) rfl (by kernel_rfl) (by kernel_rfl) (by kernel_rfl) (by kernel_rfl) (fun _ _ _ h => h) (Or.inl ⟨by rfl, ?hy11_12r6⟩) hS ?rest11_12r6
      case hy11_12r6 => intro w hSw; (try dsimp only at hSw); go_simp; (try with_reducible rfl)
      case rest11_12r6 =>
      try simp only [List.getElem_toArray, List.getElem_cons_succ, List.getElem_cons_zero, Act.put, List.setIfInBounds_toArray, List.set_cons_zero, List.set_cons_succ]
      refine wpAnyG_take' (i := 12) (v := ?v12_13r6) rfl (by kernel_rfl) (by kernel_rfl) (by kernel_rfl) (by kernel_rfl) (fun _ _ _ h => h) (Or.inl ⟨by rfl, ?hy12_13r6⟩) hS ?rest12_13r6
      case hy12_13r6 => intro w hSw; (try dsimp only at hSw); go_simp; (try with_reducible rfl)
      case rest12_13r6 =>
      try simp only [List.getElem_toArray, List.getElem_cons_succ, List.getElem_cons_zero, Act.put, List.setIfInBounds_toArray, List.set_cons_zero, List.set_cons_succ]
      refine wpAnyG_take' (i := 13) (v := ?v13_14r6) rfl (by kernel_rfl) (by kernel_rfl) (by kernel_rfl) (by kernel_rfl) (fun _ _ _ h => h) (Or.inl ⟨by rfl, ?hy13_14r6⟩) hS ?rest13_14r6
      case hy13_14r6 => intro w hSw; (try dsimp only at hSw); go_simp; (try with_reducible rfl)
      case rest13_14r6 =>
      try simp only [List.getElem_toArray, List.getElem_cons_succ, List.getElem_cons_zero, Act.put, List.setIfInBounds_toArray, List.set_cons_zero, List.set_cons_succ]
      refine wpAnyG_take' (i := 14) (v := ?v14_15r6) rfl (by kernel_rfl) (by kernel_rfl) (by kernel_rfl) (by kernel_rfl) (fun _ _ _ h => h) (Or.inl ⟨by rfl, ?hy14_15r6⟩) hS ?rest14_15r6
      case hy14_15r6 => intro w hSw; (try dsimp only at hSw); go_simp; (try with_reducible rfl)
      case rest14_15r6 =>
      try simp only [List.getElem_toArray, List.getElem_cons_succ, List.getElem_cons_zero, Act.put, List.setIfInBounds_toArray, List.set_cons_zero, List.set_cons_succ]
      refine wpAnyG_take' (i := 15) (v := ?v15_16r6) rfl (by kernel_rfl) (by kernel_rfl) (by kernel_rfl) (by kernel_rfl) (fun _ _ _ h => h) (Or.inl ⟨by rfl, ?hy15_16r6⟩) hS ?rest15_16r6
      case hy15_16r6 => intro w hSw; (try dsimp only at hSw); go_simp; (try with_reducible rfl)
      case rest15_16r6 =>
      try simp only [List.getElem_toArray, List.getElem_cons_succ, List.getElem_cons_zero, Act.put, List.setIfInBounds_toArray, List.set_cons_zero, List.set_cons_succ]
      refine wpAnyG_take' (i := 16) (v := ?v16_17r6) rfl (by kernel_rfl) (by kernel_rfl) (by kernel_rfl) (by kernel_rfl) (fun _ _ _ h => h) (Or.inl ⟨by rfl, ?hy16_17r6⟩) hS ?rest16_17r6
      case hy16_17r6 => intro w hSw; (try dsimp only at hSw); go_simp; (try with_reducible rfl)
      case rest16_17r6 =>
      try simp only [List.getElem_toArray, List.getElem_cons_succ, List.getElem_cons_zero, Act.put, List.setIfInBounds_toArray, List.set_cons_zero, List.set_cons_succ]
      refine wpAnyG_take' (i := 17) (v := ?v17_18r6) rfl (by kernel_rfl) (by kernel_rfl) (by kernel_rfl) (by kernel_rfl) (fun _ _ _ h => h) (Or.inl ⟨by rfl, ?hy17_18r6⟩) hS ?rest17_18r6
      case hy17_18r6 => intro w hSw; (try dsimp only at hSw); go_simp; (try with_reducible rfl)
      case rest17_18r6 =>
      try simp only [List.getElem_toArray, List.getElem_cons_succ, List.getElem_cons_zero, Act.put, List.setIfInBounds_toArray, List.set_cons_zero, List.set_cons_succ]
      refine wpAnyG_take' (i := 18) (v := ?v18_19r6) rfl (by kernel_rfl) (by kernel_rfl) (by kernel_rfl) (by kernel_rfl) (fun _ _ _ h => h) (Or.inl ⟨by rfl, ?hy18_19r6⟩) hS ?rest18_19r6
      case hy18_19r6 => intro w hSw; (try dsimp only at hSw); go_simp; (try with_reducible rfl)
      case rest18_19r6 =>
      try simp only [List.getElem_toArray, List.getElem_cons_succ, List.getElem_cons_zero, Act.put, List.setIfInBounds_toArray, List.set_cons_zero, List.set_cons_succ]
      refine wpAnyG_take' (i := 19) (v := ?v19_20r6) rfl (by kernel_rfl) (by kernel_rfl) (by kernel_rfl) (by kernel_rfl) (fun _ _ _ h => h) (Or.inl ⟨by rfl, ?hy19_20r6⟩) hS ?rest19_20r6
      case hy19_20r6 => intro w hSw; (try dsimp only at hSw); go_simp; (try with_reducible rfl)
      case rest19_20r6 =>
      try simp only [List.getElem_toArray, List.getElem_cons_succ, List.getElem_cons_zero, Act.put, List.setIfInBounds_toArray, List.set_cons_zero, List.set_cons_succ]
      refine wpAnyG_take' (i := 20) (v := ?v20_21r6) rfl (by kernel_rfl) (by kernel_rfl) (by kernel_rfl) (by kernel_rfl) (fun _ _ _ h => h) (Or.inl ⟨by rfl, ?hy20_21r6⟩) hS ?rest20_21r6
      case hy20_21r6 => intro w hSw; (try dsimp only at hSw); go_simp; (try with_reducible rfl)
      case rest20_21r6 =>
      try simp only [List.getElem_toArray, List.getElem_cons_succ, List.getElem_cons_zero, Act.put, List.setIfInBounds_toArray, List.set_cons_zero, List.set_cons_succ]
      refine wpAnyG_take' (i := 21) (v := ?v21_22r6) rfl (by kernel_rfl) (by kernel_rfl) (by kernel_rfl) (by kernel_rfl) (fun _ _ _ h => h) (Or.inl ⟨by rfl, ?hy21_22r6⟩) hS ?rest21_22r6
      case hy21_22r6 => intro w hSw; (try dsimp only at hSw); go_simp; (try with_reducible rfl)
      case rest21_22r6 =>
      try simp only [List.getElem_toArray, List.getElem_cons_succ, List.getElem_cons_zero, Act.put, List.setIfInBounds_toArray, List.set_cons_zero, List.set_cons_succ]
      refine wpAnyG_take' (i := 22) (v := ?v22_23r6) rfl (by kernel_rfl) (by kernel_rfl) (by kernel_rfl) (by kernel_rfl) (fun _ _ _ h => h) (Or.inl ⟨by rfl, ?hy22_23r6⟩) hS ?rest22_23r6
      case hy22_23r6 => intro w hSw; (try dsimp only at hSw); go_simp; (try with_reducible rfl)
      case rest22_23r6 =>
      try simp only [List.getElem_toArray, List.getElem_cons_succ, List.getElem_cons_zero, Act.put, List.setIfInBounds_toArray, List.set_cons_zero, List.set_cons_succ]
      refine wpAnyG_take' (i := 23) (v := ?v23_24r6) rfl (by kernel_rfl) (by kernel_rfl) (by kernel_rfl) (by kernel_rfl) (fun _ _ _ h => h) (Or.inl ⟨by rfl, ?hy23_24r6⟩) hS ?rest23_24r6
      case hy23_24r6 => intro w hSw; (try dsimp only at hSw); go_simp; (try with_reducible rfl)
      case rest23_24r6 =>
      try simp only [List.getElem_toArray, List.getElem_cons_succ, List.getElem_cons_zero, Act.put, List.setIfInBounds_toArray, List.set_cons_zero, List.set_cons_succ]
      refine wpAnyG_one (i := 24) (by kernel_rfl) rfl (fun K hK => ?_)
      refine opwp_buildE4 (l := (enCs (lM z)).toArray) _ _ _ _ rfl rfl rfl rfl rfl rfl ?_
      have HN4 := Lib.hid (HS.out.drew.alloc (.cells (enCs (lM z)).toArray 26))
      refine hK.out _ _ (fun _ => ?hS25r6) ?rest25r6
      case hS25r6 => exact (by obtain ⟨x0, x1, x2, x3, x4⟩ := cells5 HN4.out.sw3; exact ⟨HN4.out.sw2.cell HZ.out, x0, x1, x2, x3, x4⟩)
      clear K hK
      try simp only [List.getElem_toArray, List.getElem_cons_succ, List.getElem_cons_zero, Act.put, List.setIfInBounds_toArray, List.set_cons_zero, List.set_cons_succ]
      refine wpAnyG_one (i := 25) (by kernel_rfl) rfl (fun K hK => ?_)
      go_simp
      refine hK.out _ _ (fun hno => by cases hno) ?_
      clear K hK
      try simp only [List.getElem_toArray, List.getElem_cons_succ, List.getElem_cons_zero, Act.put, List.setIfInBounds_toArray, List.set_cons_zero, List.set_cons_succ]
      refine wpAnyG_done (by kernel_rfl) ?_ _
      try simp only [List.getElem_toArray, List.getElem_cons_succ, List.getElem_cons_zero, Act.put, List.setIfInBounds_toArray, List.set_cons_zero, List.set_cons_succ]
      have h4 := (HS.out.alloc (.cells (enCs (lM z)).toArray 26)).drew
      obtain ⟨b4, hb4⟩ : ∃ q, q = wr.heap.size := ⟨_, rfl⟩
      obtain ⟨W4, hW4⟩ : ∃ q, q = (wr.alloc (.cells (enCs (lM z)).toArray 26)).drew := ⟨_, rfl⟩
      rw [← hb4, ← hW4] at h4
      rw [← hW4, ← hb4]
      have H4 := Lib.hid h4
      clear h4 hW4 hb4 e0 s0 s1 s2 s3 s4 HN4 HS hS
      (try dsimp only); repeat' (first | go_values | go_skip | go_guarded | go_step | go_upon | go_back)
      go_loopw [5] (fun i wz => ∃ k : Nat, k ≤ 4 ∧ i = .int .i64 k ∧ Sep w [Cl b4 (enCs (lM z)).toArray 26, Cl b2 ea 3, Cl b1 #[(.int .i64 6), (.string ⟨#[]⟩), (.int .i64 5), (.int .i64 0), (.slice none 0 0)] 24] wz) (fun i _ => 4 - (intOf i).toNat)
      case atStart => exact ⟨0, by omega, rfl, H4.out⟩
      case round =>
        obtain ⟨k, hk, rfl, hs⟩ := hrel
        clear H4
        by_cases hk4 : k < 4
        · rcases (show k = 0 ∨ k = 1 ∨ k = 2 ∨ k = 3 by omega) with rfl | rfl | rfl | rfl
          · as_aux_lemma =>
              clear hk hk4
              have hwk : IntKind.i64.wrap 1 = 1 := by kernel_rfl
              have HS := Lib.hid hs
              have HC1 := Lib.hid (writes04_s ⟨z, 1, shipM⟩ ⟨z, 1, shipM⟩ nilV nilV hs.drew (lnK _) (lnK _) (HKA.out.below hs.drew.low))
              unfold enV shipM sZ nilV at HC1
              dsimp only at HC1
              have g0 : wr.cell? ⟨b4, 0, none⟩ = some (.int .i64 z) ∧ wr.cell? ⟨b4, 1, none⟩ = some (.int .i64 1) ∧ wr.cell? ⟨b4, 2, none⟩ = some (.int .i64 6) ∧ wr.cell? ⟨b4, 3, none⟩ = some (.string ⟨#[]⟩) ∧ wr.cell? ⟨b4, 4, none⟩ = some (.int .i64 5) ∧ wr.cell? ⟨b4, 5, none⟩ = some (.int .i64 0) ∧ wr.cell? ⟨b4, 6, none⟩ = some (.slice none 0 0) ∧ wr.cell? ⟨b1, 0, none⟩ = some (.int .i64 6) ∧ wr.cell? ⟨b1, 1, none⟩ = some (.string ⟨#[]⟩) ∧ wr.cell? ⟨b1, 2, none⟩ = some (.int .i64 5) ∧ wr.cell? ⟨b1, 3, none⟩ = some (.int .i64 0) ∧ wr.cell? ⟨b1, 4, none⟩ = some (.slice none 0 0) := ⟨hs.cell rfl, hs.cell rfl, hs.cell rfl, hs.cell rfl, hs.cell rfl, hs.cell rfl, hs.cell rfl, hs.sw3.cell rfl, hs.sw3.cell rfl, hs.sw3.cell rfl, hs.sw3.cell rfl, hs.sw3.cell rfl⟩
              clear hs
              (try dsimp only); repeat' (first | go_values | go_skip | go_guarded | go_step | go_upon | go_back)
              refine wp_region_G (fun w' => w'.cell? ⟨b4, 0, none⟩ = some (.int .i64 z) ∧ w'.cell? ⟨b4, 1, none⟩ = some (.int .i64 1) ∧ w'.cell? ⟨b4, 2, none⟩ = some (.int .i64 6) ∧ w'.cell? ⟨b4, 3, none⟩ = some (.string ⟨#[]⟩) ∧ w'.cell? ⟨b4, 4, none⟩ = some (.int .i64 5) ∧ w'.cell? ⟨b4, 5, none⟩ = some (.int .i64 0) ∧ w'.cell? ⟨b4, 6, none⟩ = some (.slice none 0 0) ∧ w'.cell? ⟨b1, 0, none⟩ = some (.int .i64 6) ∧ w'.cell? ⟨b1, 1, none⟩ = some (.string ⟨#[]⟩) ∧ w'.cell? ⟨b1, 2, none⟩ = some (.int .i64 5) ∧ w'.cell? ⟨b1, 3, none⟩ = some (.int .i64 0) ∧ w'.cell? ⟨b1, 4, none⟩ = some (.slice none 0 0)) [] (by kernel_rfl) g0 (fun hS => ?_)
              try dsimp only at hS
              refine wpAnyG_take' (i := 0) (v := ?v0_1k0) rfl (by kernel_rfl) (by kernel_rfl) (by kernel_rfl) (by kernel_rfl) (fun _ _ _ h => h) (Or.inl ⟨by rfl, ?hy0_1k0⟩) g0 ?rest0_1k0
              case hy0_1k0 => intro w hSw; (try dsimp only at hSw); go_simp; (try with_reducible rfl)
              case rest0_1k0 =>
              try simp only [List.getElem_toArray, List.getElem_cons_succ, List.getElem_cons_zero, Act.put, List.setIfInBounds_toArray, List.set_cons_zero, List.set_cons_succ]
              refine wpAnyG_take' (i := 1) (v := ?v1_2k0) rfl (by kernel_rfl) (by kernel_rfl) (by kernel_rfl) (by kernel_rfl) (fun _ _ _ h => h) (Or.inl ⟨by rfl, ?hy1_2k0⟩) g0 ?rest1_2k0
              case hy1_2k0 => intro w hSw; (try dsimp only at hSw); go_simp; (try with_reducible rfl)
              case rest1_2k0 =>
              try simp only [List.getElem_toArray, List.getElem_cons_succ, List.getElem_cons_zero, Act.put, List.setIfInBounds_toArray, List.set_cons_zero, List.set_cons_succ]
              refine wpAnyG_take' (i := 2) (v := ?v2_3k0) rfl (by kernel_rfl) (by kernel_rfl) (by kernel_rfl) (by kernel_rfl) (fun _ _ _ h => h) (Or.inl ⟨by rfl, ?hy2_3k0⟩) g0 ?rest2_3k0
              case hy2_3k0 => intro w hSw; (try dsimp only at hSw); go_simp; (try with_reducible rfl)
              case rest2_3k0 =>
              try simp only [List.getElem_toArray, List.getElem_cons_succ, List.getElem_cons_zero, Act.put, List.setIfInBounds_toArray, List.set_cons_zero, List.set_cons_succ]
              refine wpAnyG_take' (i := 3) (v := ?v3_4k0) rfl (by kernel_rfl) (by kernel_rfl) (by kernel_rfl) (by kernel_rfl) (fun _ _ _ h => h) (Or.inl ⟨by rfl, ?hy3_4k0⟩) g0 ?rest3_4k0
              case hy3_4k0 => intro w hSw; (try dsimp only at hSw); go_simp; (try with_reducible rfl)
              case rest3_4k0 =>
              try simp only [List.getElem_toArray, List.getElem_cons_succ, List.getElem_cons_zero, Act.put, List.setIfInBounds_toArray, List.set_cons_zero, List.set_cons_succ]
              refine wpAnyG_take' (i := 4) (v := ?v4_5k0) rfl (by kernel_rfl) (by kernel_rfl) (by kernel_rfl) (by kernel_rfl) (fun _ _ _ h => h) (Or.inl ⟨by rfl, ?hy4_5k0⟩) g0 ?rest4_5k0
              case hy4_5k0 => intro w hSw; (try dsimp only at hSw); go_simp; (try with_reducible rfl)
              case rest4_5k0 =>
              try simp only [List.getElem_toArray, List.getElem_cons_succ, List.getElem_cons_zero, Act.put, List.setIfInBounds_toArray, List.set_cons_zero, List.set_cons_succ]
              refine wpAnyG_take' (i := 5) (v := ?v5_6k0) rfl (by kernel_rfl) (by kernel_rfl) (by kernel_rfl) (by kernel_rfl) (fun _ _ _ h => h) (Or.inl ⟨by rfl, ?hy5_6k0⟩) g0 ?rest5_6k0
              case hy5_6k0 => intro w hSw; (try dsimp only at hSw); go_simp; (try with_reducible rfl)
              case rest5_6k0 =>
              try simp only [List.getElem_toArray, List.getElem_cons_succ, List.getElem_cons_zero, Act.put, List.setIfInBounds_toArray, List.set_cons_zero, List.set_cons_succ]
              refine wpAnyG_take' (i := 6) (v := ?v6_7k0) rfl (by kernel_rfl) (by kernel_rfl) (by kernel_rfl) (by kernel_rfl) (fun _ _ _ h => h) (Or.inl ⟨by rfl, ?hy6_7k0⟩) g0 ?rest6_7k0
              case hy6_7k0 => intro w hSw; (try dsimp only at hSw); go_simp; (try with_reducible rfl)
              case rest6_7k0 =>
              try simp only [List.getElem_toArray, List.getElem_cons_succ, List.getElem_cons_zero, Act.put, List.setIfInBounds_toArray, List.set_cons_zero, List.set_cons_succ]
              refine wpAnyG_one (i := 7) (by kernel_rfl) rfl (fun K hK => ?_)
              go_simp
              refine Calls.mono HC1.out ?_
              rintro r9 w5 ⟨rfl, h5⟩
              have g5 : w5.cell? ⟨b4, 0, none⟩ = some (.int .i64 z) ∧ w5.cell? ⟨b4, 1, none⟩ = some (.int .i64 1) ∧ w5.cell? ⟨b4, 2, none⟩ = some (.int .i64 6) ∧ w5.cell? ⟨b4, 3, none⟩ = some (.string ⟨#[]⟩) ∧ w5.cell? ⟨b4, 4, none⟩ = some (.int .i64 5) ∧ w5.cell? ⟨b4, 5, none⟩ = some (.int .i64 0) ∧ w5.cell? ⟨b4, 6, none⟩ = some (.slice none 0 0) ∧ w5.cell? ⟨b1, 0, none⟩ = some (.int .i64 6) ∧ w5.cell? ⟨b1, 1, none⟩ = some (.string ⟨#[]⟩) ∧ w5.cell? ⟨b1, 2, none⟩ = some (.int .i64 5) ∧ w5.cell? ⟨b1, 3, none⟩ = some (.int .i64 0) ∧ w5.cell? ⟨b1, 4, none⟩ = some (.slice none 0 0) := ⟨h5.cell rfl, h5.cell rfl, h5.cell rfl, h5.cell rfl, h5.cell rfl, h5.cell rfl, h5.cell rfl, h5.sw3.cell rfl, h5.sw3.cell rfl, h5.sw3.cell rfl, h5.sw3.cell rfl, h5.sw3.cell rfl⟩
              have HC2 := Lib.hid (rows04_s _ _ _ _ h5 (ens_first (lM_ens h5) 1 (by omega) (by omega) : EnS _ (.slice (some ⟨b4, 0, none⟩) 1 4) _) (lM_ens h5) (HKA.out.below h5.low))
              clear g0 HC1 HS hS h5
              (try dsimp only); repeat' (first | go_values | go_skip | go_guarded | go_step | go_upon | go_back)
              refine hK.out _ _ (fun _ => ?hS8k0) ?rest8k0
              case hS8k0 => exact g5
              clear K hK
              try simp only [List.getElem_toArray, List.getElem_cons_succ, List.getElem_cons_zero, Act.put, List.setIfInBounds_toArray, List.set_cons_zero, List.set_cons_succ]
              refine wpAnyG_take' (i := 8) (v := ?v8_9k0) rfl (by kernel_rfl) (by kernel_rfl) (by kernel_rfl) (by kernel_rfl) (fun _ _ _ h => h) (Or.inl ⟨by rfl, ?hy8_9k0⟩) g5 ?rest8_9k0
              case hy8_9k0 => intro w hSw; (try dsimp only at hSw); go_simp; (try with_reducible rfl)
              case rest8_9k0 =>
              try simp only [List.getElem_toArray, List.getElem_cons_succ, List.getElem_cons_zero, Act.put, List.setIfInBounds_toArray, List.set_cons_zero, List.set_cons_succ]
              refine wpAnyG_take' (i := 9) (v := ?v9_10k0) rfl (by kernel_rfl) (by kernel_rfl) (by kernel_rfl) (by kernel_rfl) (fun _ _ _ h => h) (Or.inl ⟨by rfl, ?hy9_10k0⟩) g5 ?rest9_10k0
              case hy9_10k0 => intro w hSw; (try dsimp only at hSw); go_simp; (try with_reducible rfl)
              case rest9_10k0 =>
              try simp only [List.getElem_toArray, List.getElem_cons_succ, List.getElem_cons_zero, Act.put, List.setIfInBounds_toArray, List.set_cons_zero, List.set_cons_succ]
              refine wpAnyG_take' (i := 10) (v := ?v10_11k0) rfl (by kernel_rfl) (by kernel_rfl) (by kernel_rfl) (by kernel_rfl) (fun _ _ _ h => h) (Or.inl ⟨by rfl, ?hy10_11k0⟩) g5 ?rest10_11k0
              case hy10_11k0 => intro w hSw; (try dsimp only at hSw); go_simp; (try with_reducible rfl)
              case rest10_11k0 =>
              try simp only [List.getElem_toArray, List.getElem_cons_succ, List.getElem_cons_zero, Act.put, List.setIfInBounds_toArray, List.set_cons_zero, List.set_cons_succ]
              refine wpAnyG_take' (i := 11) (v := ?v11_12k0) rfl (by kernel_rfl) (by kernel_rfl) (by kernel_rfl) (by kernel_rfl) (fun _ _ _ h => h) (Or.inl ⟨by rfl, ?hy11_12k0⟩) g5 ?rest11_12k0
              case hy11_12k0 => intro w hSw; (try dsimp only at hSw); go_simp; (try with_reducible rfl)
              case rest11_12k0 =>
              try simp only [List.getElem_toArray, List.getElem_cons_succ, List.getElem_cons_zero, Act.put, List.setIfInBounds_toArray, List.set_cons_zero, List.set_cons_succ]
              refine wpAnyG_take' (i := 12) (v := ?v12_13k0) rfl (by kernel_rfl) (by kernel_rfl) (by kernel_rfl) (by kernel_rfl) (fun _ _ _ h => h) (Or.inl ⟨by rfl, ?hy12_13k0⟩) g5 ?rest12_13k0
              case hy12_13k0 => intro w hSw; (try dsimp only at hSw); go_simp; (try with_reducible rfl)
              case rest12_13k0 =>
              try simp only [List.getElem_toArray, List.getElem_cons_succ, List.getElem_cons_zero, Act.put, List.setIfInBounds_toArray, List.set_cons_zero, List.set_cons_succ]
              refine wpAnyG_take' (i := 13) (v := ?v13_14k0) rfl (by kernel_rfl) (by kernel_rfl) (by kernel_rfl) (by kernel_rfl) (fun _ _ _ h => h) (Or.inl ⟨by rfl, ?hy13_14k0⟩) g5 ?rest13_14k0
              case hy13_14k0 => intro w hSw; (try dsimp only at hSw); go_simp; (try with_reducible rfl)
              case rest13_14k0 =>
              try simp only [List.getElem_toArray, List.getElem_cons_succ, List.getElem_cons_zero, Act.put, List.setIfInBounds_toArray, List.set_cons_zero, List.set_cons_succ]
              refine wpAnyG_take' (i := 14) (v := ?v14_15k0) rfl (by kernel_rfl) (by kernel_rfl) (by kernel_rfl) (by kernel_rfl) (fun _ _ _ h => h) (Or.inl ⟨by rfl, ?hy14_15k0⟩) g5 ?rest14_15k0
              case hy14_15k0 => intro w hSw; (try dsimp only at hSw); go_simp; (try with_reducible rfl)
              case rest14_15k0 =>
              try simp only [List.getElem_toArray, List.getElem_cons_succ, List.getElem_cons_zero, Act.put, List.setIfInBounds_toArray, List.set_cons_zero, List.set_cons_succ]
              refine wpAnyG_take' (i := 15) (v := ?v15_16k0) rfl (by kernel_rfl) (by kernel_rfl) (by kernel_rfl) (by kernel_rfl) (fun _ _ _ h => h) (Or.inl ⟨by rfl, ?hy15_16k0⟩) g5 ?rest15_16k0
              case hy15_16k0 => intro w hSw; (try dsimp only at hSw); go_simp; (try with_reducible rfl)
              case rest15_16k0 =>
              try simp only [List.getElem_toArray, List.getElem_cons_succ, List.getElem_cons_zero, Act.put, List.setIfInBounds_toArray, List.set_cons_zero, List.set_cons_succ]
              refine wpAnyG_take' (i := 16) (v := ?v16_17k0) rfl (by kernel_rfl) (by kernel_rfl) (by kernel_rfl) (by kernel_rfl) (fun _ _ _ h => h) (Or.inl ⟨by rfl, ?hy16_17k0⟩) g5 ?rest16_17k0
              case hy16_17k0 => intro w hSw; (try dsimp only at hSw); go_simp; (try with_reducible rfl)
              case rest16_17k0 =>
              try simp only [List.getElem_toArray, List.getElem_cons_succ, List.getElem_cons_zero, Act.put, List.setIfInBounds_toArray, List.set_cons_zero, List.set_cons_succ]
              refine wpAnyG_one (i := 17) (by kernel_rfl) rfl (fun K hK => ?_)
              go_simp
              refine Calls.mono HC2.out ?_
              rintro r9 w6 ⟨rfl, h6⟩
              have g6 : w6.cell? ⟨b4, 0, none⟩ = some (.int .i64 z) ∧ w6.cell? ⟨b4, 1, none⟩ = some (.int .i64 1) ∧ w6.cell? ⟨b4, 2, none⟩ = some (.int .i64 6) ∧ w6.cell? ⟨b4, 3, none⟩ = some (.string ⟨#[]⟩) ∧ w6.cell? ⟨b4, 4, none⟩ = some (.int .i64 5) ∧ w6.cell? ⟨b4, 5, none⟩ = some (.int .i64 0) ∧ w6.cell? ⟨b4, 6, none⟩ = some (.slice none 0 0) ∧ w6.cell? ⟨b1, 0, none⟩ = some (.int .i64 6) ∧ w6.cell? ⟨b1, 1, none⟩ = some (.string ⟨#[]⟩) ∧ w6.cell? ⟨b1, 2, none⟩ = some (.int .i64 5) ∧ w6.cell? ⟨b1, 3, none⟩ = some (.int .i64 0) ∧ w6.cell? ⟨b1, 4, none⟩ = some (.slice none 0 0) := ⟨h6.cell rfl, h6.cell rfl, h6.cell rfl, h6.cell rfl, h6.cell rfl, h6.cell rfl, h6.cell rfl, h6.sw3.cell rfl, h6.sw3.cell rfl, h6.sw3.cell rfl, h6.sw3.cell rfl, h6.sw3.cell rfl⟩
              have h7 := h6.alloc (.cells (enCs [(⟨0, 1, shipM⟩, nilV), (⟨z, 1, shipM⟩, nilV)]).toArray 26)
              have HC3 := Lib.hid (rows04_s (.slice (some ⟨w6.heap.size, 0, none⟩) 2 2) (.slice (some ⟨b4, 0, none⟩) 4 4) _ _ h7 (h7.clEn (fun i hi => by have h2 : i < 2 := hi; rcases (show i = 0 ∨ i = 1 by omega) with rfl | rfl <;> exact lnK _) rfl (by omega)) (lM_ens h7.sw2) (HKA.out.below h7.low))
              have g7 : (w6.alloc (.cells (enCs [(⟨0, 1, shipM⟩, nilV), (⟨z, 1, shipM⟩, nilV)]).toArray 26)).cell? ⟨b4, 0, none⟩ = some (.int .i64 z) ∧ (w6.alloc (.cells (enCs [(⟨0, 1, shipM⟩, nilV), (⟨z, 1, shipM⟩, nilV)]).toArray 26)).cell? ⟨b4, 1, none⟩ = some (.int .i64 1) ∧ (w6.alloc (.cells (enCs [(⟨0, 1, shipM⟩, nilV), (⟨z, 1, shipM⟩, nilV)]).toArray 26)).cell? ⟨b4, 2, none⟩ = some (.int .i64 6) ∧ (w6.alloc (.cells (enCs [(⟨0, 1, shipM⟩, nilV), (⟨z, 1, shipM⟩, nilV)]).toArray 26)).cell? ⟨b4, 3, none⟩ = some (.string ⟨#[]⟩) ∧ (w6.alloc (.cells (enCs [(⟨0, 1, shipM⟩, nilV), (⟨z, 1, shipM⟩, nilV)]).toArray 26)).cell? ⟨b4, 4, none⟩ = some (.int .i64 5) ∧ (w6.alloc (.cells (enCs [(⟨0, 1, shipM⟩, nilV), (⟨z, 1, shipM⟩, nilV)]).toArray 26)).cell? ⟨b4, 5, none⟩ = some (.int .i64 0) ∧ (w6.alloc (.cells (enCs [(⟨0, 1, shipM⟩, nilV), (⟨z, 1, shipM⟩, nilV)]).toArray 26)).cell? ⟨b4, 6, none⟩ = some (.slice none 0 0) ∧ (w6.alloc (.cells (enCs [(⟨0, 1, shipM⟩, nilV), (⟨z, 1, shipM⟩, nilV)]).toArray 26)).cell? ⟨b1, 0, none⟩ = some (.int .i64 6) ∧ (w6.alloc (.cells (enCs [(⟨0, 1, shipM⟩, nilV), (⟨z, 1, shipM⟩, nilV)]).toArray 26)).cell? ⟨b1, 1, none⟩ = some (.string ⟨#[]⟩) ∧ (w6.alloc (.cells (enCs [(⟨0, 1, shipM⟩, nilV), (⟨z, 1, shipM⟩, nilV)]).toArray 26)).cell? ⟨b1, 2, none⟩ = some (.int .i64 5) ∧ (w6.alloc (.cells (enCs [(⟨0, 1, shipM⟩, nilV), (⟨z, 1, shipM⟩, nilV)]).toArray 26)).cell? ⟨b1, 3, none⟩ = some (.int .i64 0) ∧ (w6.alloc (.cells (enCs [(⟨0, 1, shipM⟩, nilV), (⟨z, 1, shipM⟩, nilV)]).toArray 26)).cell? ⟨b1, 4, none⟩ = some (.slice none 0 0) := ⟨h7.sw2.cell rfl, h7.sw2.cell rfl, h7.sw2.cell rfl, h7.sw2.cell rfl, h7.sw2.cell rfl, h7.sw2.cell rfl, h7.sw2.cell rfl, h7.sw4.cell rfl, h7.sw4.cell rfl, h7.sw4.cell rfl, h7.sw4.cell rfl, h7.sw4.cell rfl⟩
              clear g5 HC2 h6 h7
              (try dsimp only); repeat' (first | go_values | go_skip | go_guarded | go_step | go_upon | go_back)
              refine hK.out _ _ (fun _ => ?hS18k0) ?rest18k0
              case hS18k0 => exact g6
              clear K hK
              try simp only [List.getElem_toArray, List.getElem_cons_succ, List.getElem_cons_zero, Act.put, List.setIfInBounds_toArray, List.set_cons_zero, List.set_cons_succ]
              refine wpAnyG_take' (i := 18) (v := ?v18_19k0) rfl (by kernel_rfl) (by kernel_rfl) (by kernel_rfl) (by kernel_rfl) (fun _ _ _ h => h) (Or.inl ⟨by rfl, ?hy18_19k0⟩) g6 ?rest18_19k0
              case hy18_19k0 => intro w hSw; (try dsimp only at hSw); go_simp; (try with_reducible rfl)
              case rest18_19k0 =>
              try simp only [List.getElem_toArray, List.getElem_cons_succ, List.getElem_cons_zero, Act.put, List.setIfInBounds_toArray, List.set_cons_zero, List.set_cons_succ]
              refine wpAnyG_take' (i := 19) (v := ?v19_20k0) rfl (by kernel_rfl) (by kernel_rfl) (by kernel_rfl) (by kernel_rfl) (fun _ _ _ h => h) (Or.inl ⟨by rfl, ?hy19_20k0⟩) g6 ?rest19_20k0
              case hy19_20k0 => intro w hSw; (try dsimp only at hSw); go_simp; (try with_reducible rfl)
              case rest19_20k0 =>
              try simp only [List.getElem_toArray, List.getElem_cons_succ, List.getElem_cons_zero, Act.put, List.setIfInBounds_toArray, List.set_cons_zero, List.set_cons_succ]
              refine wpAnyG_take' (i := 20) (v := ?v20_21k0) rfl (by kernel_rfl) (by kernel_rfl) (by kernel_rfl) (by kernel_rfl) (fun _ _ _ h => h) (Or.inl ⟨by rfl, ?hy20_21k0⟩) g6 ?rest20_21k0
              case hy20_21k0 => intro w hSw; (try dsimp only at hSw); go_simp; (try with_reducible rfl)
              case rest20_21k0 =>
              try simp only [List.getElem_toArray, List.getElem_cons_succ, List.getElem_cons_zero, Act.put, List.setIfInBounds_toArray, List.set_cons_zero, List.set_cons_succ]
              refine wpAnyG_take' (i := 21) (v := ?v21_22k0) rfl (by kernel_rfl) (by kernel_rfl) (by kernel_rfl) (by kernel_rfl) (fun _ _ _ h => h) (Or.inl ⟨by rfl, ?hy21_22k0⟩) g6 ?rest21_22k0
              case hy21_22k0 => intro w hSw; (try dsimp only at hSw); go_simp; (try with_reducible rfl)
              case rest21_22k0 =>
              try simp only [List.getElem_toArray, List.getElem_cons_succ, List.getElem_cons_zero, Act.put, List.setIfInBounds_toArray, List.set_cons_zero, List.set_cons_succ]
              refine wpAnyG_take' (i := 22) (v := .agg #[.int .i64 0, .int .i64 1, .int .i64 6, .string ⟨#[]⟩, .int .i64 5, .int .i64 0, .slice none 0 0]) rfl (by kernel_rfl) (by kernel_rfl) (by kernel_rfl) (by kernel_rfl) (fun _ _ _ h => h) (Or.inl ⟨by rfl, ?hy22_23k0⟩) g6 ?rest22_23k0
              case hy22_23k0 => intro w hSw; exact exec_build 26 #[(1, .const (.int .i64 1)), (2, .tmp 70)] rfl _ (by rw [Array.toList_map]; exact builtE1)
              case rest22_23k0 =>
              try simp only [List.getElem_toArray, List.getElem_cons_succ, List.getElem_cons_zero, Act.put, List.setIfInBounds_toArray, List.set_cons_zero, List.set_cons_succ]
              refine wpAnyG_take' (i := 23) (v := ?v23_24k0) rfl (by kernel_rfl) (by kernel_rfl) (by kernel_rfl) (by kernel_rfl) (fun _ _ _ h => h) (Or.inl ⟨by rfl, ?hy23_24k0⟩) g6 ?rest23_24k0
              case hy23_24k0 => intro w hSw; (try dsimp only at hSw); go_simp; (try with_reducible rfl)
              case rest23_24k0 =>
              try simp only [List.getElem_toArray, List.getElem_cons_succ, List.getElem_cons_zero, Act.put, List.setIfInBounds_toArray, List.set_cons_zero, List.set_cons_succ]
              refine wpAnyG_take' (i := 24) (v := ?v24_25k0) rfl (by kernel_rfl) (by kernel_rfl) (by kernel_rfl) (by kernel_rfl) (fun _ _ _ h => h) (Or.inl ⟨by rfl, ?hy24_25k0⟩) g6 ?rest24_25k0
              case hy24_25k0 => intro w hSw; (try dsimp only at hSw); go_simp; (try with_reducible rfl)
              case rest24_25k0 =>
              try simp only [List.getElem_toArray, List.getElem_cons_succ, List.getElem_cons_zero, Act.put, List.setIfInBounds_toArray, List.set_cons_zero, List.set_cons_succ]
              refine wpAnyG_take' (i := 25) (v := ?v25_26k0) rfl (by kernel_rfl) (by kernel_rfl) (by kernel_rfl) (by kernel_rfl) (fun _ _ _ h => h) (Or.inl ⟨by rfl, ?hy25_26k0⟩) g6 ?rest25_26k0
              case hy25_26k0 => intro w hSw; (try dsimp only at hSw); go_simp; (try with_reducible rfl)
              case rest25_26k0 =>
              try simp only [List.getElem_toArray, List.getElem_cons_succ, List.getElem_cons_zero, Act.put, List.setIfInBounds_toArray, List.set_cons_zero, List.set_cons_succ]
              refine wpAnyG_take' (i := 26) (v := ?v26_27k0) rfl (by kernel_rfl) (by kernel_rfl) (by kernel_rfl) (by kernel_rfl) (fun _ _ _ h => h) (Or.inl ⟨by rfl, ?hy26_27k0⟩) g6 ?rest26_27k0
              case hy26_27k0 => intro w hSw; (try dsimp only at hSw); go_simp; (try with_reducible rfl)
              case rest26_27k0 =>
              try simp only [List.getElem_toArray, List.getElem_cons_succ, List.getElem_cons_zero, Act.put, List.setIfInBounds_toArray, List.set_cons_zero, List.set_cons_succ]
              refine wpAnyG_take' (i := 28) (v := ?v28_28k0) rfl (by kernel_rfl) (by kernel_rfl) (by kernel_rfl) (by kernel_rfl) (fun _ _ _ h => h) (Or.inl ⟨by rfl, ?hy28_28k0⟩) g6 ?rest28_28k0
              case hy28_28k0 => intro w hSw; (try dsimp only at hSw); go_simp; (try with_reducible rfl)
              case rest28_28k0 =>
              try simp only [List.getElem_toArray, List.getElem_cons_succ, List.getElem_cons_zero, Act.put, List.setIfInBounds_toArray, List.set_cons_zero, List.set_cons_succ]
              refine wpAnyG_one (i := 27) (by kernel_rfl) rfl (fun K hK => ?_)
              refine step_wanted (by first | rfl | kernel_rfl) ?_
              refine opwp_buildE2 (c0_0 := (.int .i64 0)) (c0_1 := (.int .i64 1)) (c0_2 := (.int .i64 6)) (c0_3 := (.string ⟨#[]⟩)) (c0_4 := (.int .i64 5)) (c0_5 := (.int .i64 0)) (c0_6 := (.slice none 0 0)) (c1_0 := (.int .i64 z)) (c1_1 := (.int .i64 1)) (c1_2 := (.int .i64 6)) (c1_3 := (.string ⟨#[]⟩)) (c1_4 := (.int .i64 5)) (c1_5 := (.int .i64 0)) (c1_6 := (.slice none 0 0)) (l := (enCs [(⟨0, 1, shipM⟩, nilV), (⟨z, 1, shipM⟩, nilV)]).toArray) _ _ rfl (by kernel_rfl) (by kernel_rfl) (by kernel_rfl) ?_
              refine hK.out _ _ (fun _ => ?hS29k0) ?rest29k0
              case hS29k0 => exact g7
              clear K hK
              try simp only [List.getElem_toArray, List.getElem_cons_succ, List.getElem_cons_zero, Act.put, List.setIfInBounds_toArray, List.set_cons_zero, List.set_cons_succ]
              refine wpAnyG_one (i := 29) (by kernel_rfl) rfl (fun K hK => ?_)
              go_simp
              refine Calls.mono HC3.out ?_
              rintro r9 w8 ⟨rfl, h8⟩
              have h8 := h8.drop
              have g8 : w8.cell? ⟨b4, 0, none⟩ = some (.int .i64 z) ∧ w8.cell? ⟨b4, 1, none⟩ = some (.int .i64 1) ∧ w8.cell? ⟨b4, 2, none⟩ = some (.int .i64 6) ∧ w8.cell? ⟨b4, 3, none⟩ = some (.string ⟨#[]⟩) ∧ w8.cell? ⟨b4, 4, none⟩ = some (.int .i64 5) ∧ w8.cell? ⟨b4, 5, none⟩ = some (.int .i64 0) ∧ w8.cell? ⟨b4, 6, none⟩ = some (.slice none 0 0) ∧ w8.cell? ⟨b1, 0, none⟩ = some (.int .i64 6) ∧ w8.cell? ⟨b1, 1, none⟩ = some (.string ⟨#[]⟩) ∧ w8.cell? ⟨b1, 2, none⟩ = some (.int .i64 5) ∧ w8.cell? ⟨b1, 3, none⟩ = some (.int .i64 0) ∧ w8.cell? ⟨b1, 4, none⟩ = some (.slice none 0 0) := ⟨h8.cell rfl, h8.cell rfl, h8.cell rfl, h8.cell rfl, h8.cell rfl, h8.cell rfl, h8.cell rfl, h8.sw3.cell rfl, h8.sw3.cell rfl, h8.sw3.cell rfl, h8.sw3.cell rfl, h8.sw3.cell rfl⟩
              have H8 := Lib.hid h8
              clear g6 g7 HC3 h8
              (try dsimp only); repeat' (first | go_values | go_skip | go_guarded | go_step | go_upon | go_back)
              refine hK.out _ _ (fun _ => ?hS30k0) ?rest30k0
              case hS30k0 => exact g8
              clear K hK
              try simp only [List.getElem_toArray, List.getElem_cons_succ, List.getElem_cons_zero, Act.put, List.setIfInBounds_toArray, List.set_cons_zero, List.set_cons_succ]
              refine wpAnyG_take' (i := 30) (v := ?v30_31k0) rfl (by kernel_rfl) (by kernel_rfl) (by kernel_rfl) (by kernel_rfl) (fun _ _ _ h => h) (Or.inl ⟨by rfl, ?hy30_31k0⟩) g8 ?rest30_31k0
              case hy30_31k0 => intro w hSw; (try dsimp only at hSw); go_simp; (try with_reducible rfl)
              case rest30_31k0 =>
              try simp only [List.getElem_toArray, List.getElem_cons_succ, List.getElem_cons_zero, Act.put, List.setIfInBounds_toArray, List.set_cons_zero, List.set_cons_succ]
              refine wpAnyG_take' (i := 31) (v := ?v31_32k0) rfl (by kernel_rfl) (by kernel_rfl) (by kernel_rfl) (by kernel_rfl) (fun _ _ _ h => h) (Or.inl ⟨by rfl, ?hy31_32k0⟩) g8 ?rest31_32k0
              case hy31_32k0 => intro w hSw; (try dsimp only at hSw); go_simp; (try with_reducible rfl)
              case rest31_32k0 =>
              try simp only [List.getElem_toArray, List.getElem_cons_succ, List.getElem_cons_zero, Act.put, List.setIfInBounds_toArray, List.set_cons_zero, List.set_cons_succ]
              refine wpAnyG_done (by kernel_rfl) ?_ _
              try simp only [List.getElem_toArray, List.getElem_cons_succ, List.getElem_cons_zero, Act.put, List.setIfInBounds_toArray, List.set_cons_zero, List.set_cons_succ]
              clear g8
              (try dsimp only); repeat' (first | go_values | go_skip | go_guarded | go_step | go_upon | go_back)
              go_roundw
              case rel => exact ⟨1, by omega, rfl, H8.out⟩
              case measure => simp [intOf]
          · as_aux_lemma =>
              clear hk hk4
              have hwk : IntKind.i64.wrap 2 = 2 := by kernel_rfl
              have HS := Lib.hid hs
              have HC1 := Lib.hid (writes04_s ⟨0, z, shipM⟩ ⟨z, 1, shipM⟩ nilV nilV hs.drew (lnK _) (lnK _) (HKA.out.below hs.drew.low))
              unfold enV shipM sZ nilV at HC1
              dsimp only at HC1
              have g0 : wr.cell? ⟨b4, 7, none⟩ = some (.int .i64 0) ∧ wr.cell? ⟨b4, 8, none⟩ = some (.int .i64 z) ∧ wr.cell? ⟨b4, 9, none⟩ = some (.int .i64 6) ∧ wr.cell? ⟨b4, 10, none⟩ = some (.string ⟨#[]⟩) ∧ wr.cell? ⟨b4, 11, none⟩ = some (.int .i64 5) ∧ wr.cell? ⟨b4, 12, none⟩ = some (.int .i64 0) ∧ wr.cell? ⟨b4, 13, none⟩ = some (.slice none 0 0) ∧ wr.cell? ⟨b4, 0, none⟩ = some (.int .i64 z) ∧ wr.cell? ⟨b4, 1, none⟩ = some (.int .i64 1) ∧ wr.cell? ⟨b4, 2, none⟩ = some (.int .i64 6) ∧ wr.cell? ⟨b4, 3, none⟩ = some (.string ⟨#[]⟩) ∧ wr.cell? ⟨b4, 4, none⟩ = some (.int .i64 5) ∧ wr.cell? ⟨b4, 5, none⟩ = some (.int .i64 0) ∧ wr.cell? ⟨b4, 6, none⟩ = some (.slice none 0 0) ∧ wr.cell? ⟨b1, 0, none⟩ = some (.int .i64 6) ∧ wr.cell? ⟨b1, 1, none⟩ = some (.string ⟨#[]⟩) ∧ wr.cell? ⟨b1, 2, none⟩ = some (.int .i64 5) ∧ wr.cell? ⟨b1, 3, none⟩ = some (.int .i64 0) ∧ wr.cell? ⟨b1, 4, none⟩ = some (.slice none 0 0) := ⟨hs.cell rfl, hs.cell rfl, hs.cell rfl, hs.cell rfl, hs.cell rfl, hs.cell rfl, hs.cell rfl, hs.cell rfl, hs.cell rfl, hs.cell rfl, hs.cell rfl, hs.cell rfl, hs.cell rfl, hs.cell rfl, hs.sw3.cell rfl, hs.sw3.cell rfl, hs.sw3.cell rfl, hs.sw3.cell rfl, hs.sw3.cell rfl⟩
              clear hs
              (try dsimp only); repeat' (first | go_values | go_skip | go_guarded | go_step | go_upon | go_back)
              refine wp_region_G (fun w' => w'.cell? ⟨b4, 7, none⟩ = some (.int .i64 0) ∧ w'.cell? ⟨b4, 8, none⟩ = some (.int .i64 z) ∧ w'.cell? ⟨b4, 9, none⟩ = some (.int .i64 6) ∧ w'.cell? ⟨b4, 10, none⟩ = some (.string ⟨#[]⟩) ∧ w'.cell? ⟨b4, 11, none⟩ = some (.int .i64 5) ∧ w'.cell? ⟨b4, 12, none⟩ = some (.int .i64 0) ∧ w'.cell? ⟨b4, 13, none⟩ = some (.slice none 0 0) ∧ w'.cell? ⟨b4, 0, none⟩ = some (.int .i64 z) ∧ w'.cell? ⟨b4, 1, none⟩ = some (.int .i64 1) ∧ w'.cell? ⟨b4, 2, none⟩ = some (.int .i64 6) ∧ w'.cell? ⟨b4, 3, none⟩ = some (.string ⟨#[]⟩) ∧ w'.cell? ⟨b4, 4, none⟩ = some (.int .i64 5) ∧ w'.cell? ⟨b4, 5, none⟩ = some (.int .i64 0) ∧ w'.cell? ⟨b4, 6, none⟩ = some (.slice none 0 0) ∧ w'.cell? ⟨b1, 0, none⟩ = some (.int .i64 6) ∧ w'.cell? ⟨b1, 1, none⟩ = some (.string ⟨#[]⟩) ∧ w'.cell? ⟨b1, 2, none⟩ = some (.int .i64 5) ∧ w'.cell? ⟨b1, 3, none⟩ = some (.int .i64 0) ∧ w'.cell? ⟨b1, 4, none⟩ = some (.slice none 0 0)) [] (by kernel_rfl) g0 (fun hS => ?_)
              try dsimp only at hS
              refine wpAnyG_take' (i := 0) (v := ?v0_1k1) rfl (by kernel_rfl) (by kernel_rfl) (by kernel_rfl) (by kernel_rfl) (fun _ _ _ h => h) (Or.inl ⟨by rfl, ?hy0_1k1⟩) g0 ?rest0_1k1
              case hy0_1k1 => intro w hSw; (try dsimp only at hSw); go_simp; (try with_reducible rfl)
              case rest0_1k1 =>
              try simp only [List.getElem_toArray, List.getElem_cons_succ, List.getElem_cons_zero, Act.put, List.setIfInBounds_toArray, List.set_cons_zero, List.set_cons_succ]
              refine wpAnyG_take' (i := 1) (v := ?v1_2k1) rfl (by kernel_rfl) (by kernel_rfl) (by kernel_rfl) (by kernel_rfl) (fun _ _ _ h => h) (Or.inl ⟨by rfl, ?hy1_2k1⟩) g0 ?rest1_2k1
              case hy1_2k1 => intro w hSw; (try dsimp only at hSw); go_simp; (try with_reducible rfl)
              case rest1_2k1 =>
              try simp only [List.getElem_toArray, List.getElem_cons_succ, List.getElem_cons_zero, Act.put, List.setIfInBounds_toArray, List.set_cons_zero, List.set_cons_succ]
              refine wpAnyG_take' (i := 2) (v := ?v2_3k1) rfl (by kernel_rfl) (by kernel_rfl) (by kernel_rfl) (by kernel_rfl) (fun _ _ _ h => h) (Or.inl ⟨by rfl, ?hy2_3k1⟩) g0 ?rest2_3k1
              case hy2_3k1 => intro w hSw; (try dsimp only at hSw); go_simp; (try with_reducible rfl)
              case rest2_3k1 =>
              try simp only [List.getElem_toArray, List.getElem_cons_succ, List.getElem_cons_zero, Act.put, List.setIfInBounds_toArray, List.set_cons_zero, List.set_cons_succ]
              refine wpAnyG_take' (i := 3) (v := ?v3_4k1) rfl (by kernel_rfl) (by kernel_rfl) (by kernel_rfl) (by kernel_rfl) (fun _ _ _ h => h) (Or.inl ⟨by rfl, ?hy3_4k1⟩) g0 ?rest3_4k1
              case hy3_4k1 => intro w hSw; (try dsimp only at hSw); go_simp; (try with_reducible rfl)
              case rest3_4k1 =>
              try simp only [List.getElem_toArray, List.getElem_cons_succ, List.getElem_cons_zero, Act.put, List.setIfInBounds_toArray, List.set_cons_zero, List.set_cons_succ]
              refine wpAnyG_take' (i := 4) (v := ?v4_5k1) rfl (by kernel_rfl) (by kernel_rfl) (by kernel_rfl) (by kernel_rfl) (fun _ _ _ h => h) (Or.inl ⟨by rfl, ?hy4_5k1⟩) g0 ?rest4_5k1
              case hy4_5k1 => intro w hSw; (try dsimp only at hSw); go_simp; (try with_reducible rfl)
              case rest4_5k1 =>
              try simp only [List.getElem_toArray, List.getElem_cons_succ, List.getElem_cons_zero, Act.put, List.setIfInBounds_toArray, List.set_cons_zero, List.set_cons_succ]
              refine wpAnyG_take' (i := 5) (v := ?v5_6k1) rfl (by kernel_rfl) (by kernel_rfl) (by kernel_rfl) (by kernel_rfl) (fun _ _ _ h => h) (Or.inl ⟨by rfl, ?hy5_6k1⟩) g0 ?rest5_6k1
              case hy5_6k1 => intro w hSw; (try dsimp only at hSw); go_simp; (try with_reducible rfl)
              case rest5_6k1 =>
              try simp only [List.getElem_toArray, List.getElem_cons_succ, List.getElem_cons_zero, Act.put, List.setIfInBounds_toArray, List.set_cons_zero, List.set_cons_succ]
              refine wpAnyG_take' (i := 6) (v := ?v6_7k1) rfl (by kernel_rfl) (by kernel_rfl) (by kernel_rfl) (by kernel_rfl) (fun _ _ _ h => h) (Or.inl ⟨by rfl, ?hy6_7k1⟩) g0 ?rest6_7k1
              case hy6_7k1 => intro w hSw; (try dsimp only at hSw); go_simp; (try with_reducible rfl)
              case rest6_7k1 =>
              try simp only [List.getElem_toArray, List.getElem_cons_succ, List.getElem_cons_zero, Act.put, List.setIfInBounds_toArray, List.set_cons_zero, List.set_cons_succ]
              refine wpAnyG_one (i := 7) (by kernel_rfl) rfl (fun K hK => ?_)
              go_simp
              refine Calls.mono HC1.out ?_
              rintro r9 w5 ⟨rfl, h5⟩
              have g5 : w5.cell? ⟨b4, 7, none⟩ = some (.int .i64 0) ∧ w5.cell? ⟨b4, 8, none⟩ = some (.int .i64 z) ∧ w5.cell? ⟨b4, 9, none⟩ = some (.int .i64 6) ∧ w5.cell? ⟨b4, 10, none⟩ = some (.string ⟨#[]⟩) ∧ w5.cell? ⟨b4, 11, none⟩ = some (.int .i64 5) ∧ w5.cell? ⟨b4, 12, none⟩ = some (.int .i64 0) ∧ w5.cell? ⟨b4, 13, none⟩ = some (.slice none 0 0) ∧ w5.cell? ⟨b4, 0, none⟩ = some (.int .i64 z) ∧ w5.cell? ⟨b4, 1, none⟩ = some (.int .i64 1) ∧ w5.cell? ⟨b4, 2, none⟩ = some (.int .i64 6) ∧ w5.cell? ⟨b4, 3, none⟩ = some (.string ⟨#[]⟩) ∧ w5.cell? ⟨b4, 4, none⟩ = some (.int .i64 5) ∧ w5.cell? ⟨b4, 5, none⟩ = some (.int .i64 0) ∧ w5.cell? ⟨b4, 6, none⟩ = some (.slice none 0 0) ∧ w5.cell? ⟨b1, 0, none⟩ = some (.int .i64 6) ∧ w5.cell? ⟨b1, 1, none⟩ = some (.string ⟨#[]⟩) ∧ w5.cell? ⟨b1, 2, none⟩ = some (.int .i64 5) ∧ w5.cell? ⟨b1, 3, none⟩ = some (.int .i64 0) ∧ w5.cell? ⟨b1, 4, none⟩ = some (.slice none 0 0) := ⟨h5.cell rfl, h5.cell rfl, h5.cell rfl, h5.cell rfl, h5.cell rfl, h5.cell rfl, h5.cell rfl, h5.cell rfl, h5.cell rfl, h5.cell rfl, h5.cell rfl, h5.cell rfl, h5.cell rfl, h5.cell rfl, h5.sw3.cell rfl, h5.sw3.cell rfl, h5.sw3.cell rfl, h5.sw3.cell rfl, h5.sw3.cell rfl⟩
              have HC2 := Lib.hid (rows04_s _ _ _ _ h5 (ens_first (lM_ens h5) 2 (by omega) (by omega) : EnS _ (.slice (some ⟨b4, 0, none⟩) 2 4) _) (ens_drop (lM_ens h5) 1 (by omega) : EnS _ (.slice (some ⟨b4, 7, none⟩) 3 3) _) (HKA.out.below h5.low))
              clear g0 HC1 HS hS h5
              (try dsimp only); repeat' (first | go_values | go_skip | go_guarded | go_step | go_upon | go_back)
              refine hK.out _ _ (fun _ => ?hS8k1) ?rest8k1
              case hS8k1 => exact g5
              clear K hK
              try simp only [List.getElem_toArray, List.getElem_cons_succ, List.getElem_cons_zero, Act.put, List.setIfInBounds_toArray, List.set_cons_zero, List.set_cons_succ]
              refine wpAnyG_take' (i := 8) (v := ?v8_9k1) rfl (by kernel_rfl) (by kernel_rfl) (by kernel_rfl) (by kernel_rfl) (fun _ _ _ h => h) (Or.inl ⟨by rfl, ?hy8_9k1⟩) g5 ?rest8_9k1
              case hy8_9k1 => intro w hSw; (try dsimp only at hSw); go_simp; (try with_reducible rfl)
              case rest8_9k1 =>
              try simp only [List.getElem_toArray, List.getElem_cons_succ, List.getElem_cons_zero, Act.put, List.setIfInBounds_toArray, List.set_cons_zero, List.set_cons_succ]
              refine wpAnyG_take' (i := 9) (v := ?v9_10k1) rfl (by kernel_rfl) (by kernel_rfl) (by kernel_rfl) (by kernel_rfl) (fun _ _ _ h => h) (Or.inl ⟨by rfl, ?hy9_10k1⟩) g5 ?rest9_10k1
              case hy9_10k1 => intro w hSw; (try dsimp only at hSw); go_simp; (try with_reducible rfl)
              case rest9_10k1 =>
              try simp only [List.getElem_toArray, List.getElem_cons_succ, List.getElem_cons_zero, Act.put, List.setIfInBounds_toArray, List.set_cons_zero, List.set_cons_succ]
              refine wpAnyG_take' (i := 10) (v := ?v10_11k1) rfl (by kernel_rfl) (by kernel_rfl) (by kernel_rfl) (by kernel_rfl) (fun _ _ _ h => h) (Or.inl ⟨by rfl, ?hy10_11k1⟩) g5 ?rest10_11k1
              case hy10_11k1 => intro w hSw; (try dsimp only at hSw); go_simp; (try with_reducible rfl)
              case rest10_11k1 =>
              try simp only [List.getElem_toArray, List.getElem_cons_succ, List.getElem_cons_zero, Act.put, List.setIfInBounds_toArray, List.set_cons_zero, List.set_cons_succ]
              refine wpAnyG_take' (i := 11) (v := ?v11_12k1) rfl (by kernel_rfl) (by kernel_rfl) (by kernel_rfl) (by kernel_rfl) (fun _ _ _ h => h) (Or.inl ⟨by rfl, ?hy11_12k1⟩) g5 ?rest11_12k1
              case hy11_12k1 => intro w hSw; (try dsimp only at hSw); go_simp; (try with_reducible rfl)
              case rest11_12k1 =>
              try simp only [List.getElem_toArray, List.getElem_cons_succ, List.getElem_cons_zero, Act.put, List.setIfInBounds_toArray, List.set_cons_zero, List.set_cons_succ]
              refine wpAnyG_take' (i := 12) (v := ?v12_13k1) rfl (by kernel_rfl) (by kernel_rfl) (by kernel_rfl) (by kernel_rfl) (fun _ _ _ h => h) (Or.inl ⟨by rfl, ?hy12_13k1⟩) g5 ?rest12_13k1
              case hy12_13k1 => intro w hSw; (try dsimp only at hSw); go_simp; (try with_reducible rfl)
              case rest12_13k1 =>
              try simp only [List.getElem_toArray, List.getElem_cons_succ, List.getElem_cons_zero, Act.put, List.setIfInBounds_toArray, List.set_cons_zero, List.set_cons_succ]
              refine wpAnyG_take' (i := 13) (v := ?v13_14k1) rfl (by kernel_rfl) (by kernel_rfl) (by kernel_rfl) (by kernel_rfl) (fun _ _ _ h => h) (Or.inl ⟨by rfl, ?hy13_14k1⟩) g5 ?rest13_14k1
              case hy13_14k1 => intro w hSw; (try dsimp only at hSw); go_simp; (try with_reducible rfl)
              case rest13_14k1 =>
              try simp only [List.getElem_toArray, List.getElem_cons_succ, List.getElem_cons_zero, Act.put, List.setIfInBounds_toArray, List.set_cons_zero, List.set_cons_succ]
              refine wpAnyG_take' (i := 14) (v := ?v14_15k1) rfl (by kernel_rfl) (by kernel_rfl) (by kernel_rfl) (by kernel_rfl) (fun _ _ _ h => h) (Or.inl ⟨by rfl, ?hy14_15k1⟩) g5 ?rest14_15k1
              case hy14_15k1 => intro w hSw; (try dsimp only at hSw); go_simp; (try with_reducible rfl)
              case rest14_15k1 =>
              try simp only [List.getElem_toArray, List.getElem_cons_succ, List.getElem_cons_zero, Act.put, List.setIfInBounds_toArray, List.set_cons_zero, List.set_cons_succ]
              refine wpAnyG_take' (i := 15) (v := ?v15_16k1) rfl (by kernel_rfl) (by kernel_rfl) (by kernel_rfl) (by kernel_rfl) (fun _ _ _ h => h) (Or.inl ⟨by rfl, ?hy15_16k1⟩) g5 ?rest15_16k1
              case hy15_16k1 => intro w hSw; (try dsimp only at hSw); go_simp; (try with_reducible rfl)
              case rest15_16k1 =>
              try simp only [List.getElem_toArray, List.getElem_cons_succ, List.getElem_cons_zero, Act.put, List.setIfInBounds_toArray, List.set_cons_zero, List.set_cons_succ]
              refine wpAnyG_take' (i := 16) (v := ?v16_17k1) rfl (by kernel_rfl) (by kernel_rfl) (by kernel_rfl) (by kernel_rfl) (fun _ _ _ h => h) (Or.inl ⟨by rfl, ?hy16_17k1⟩) g5 ?rest16_17k1
              case hy16_17k1 => intro w hSw; (try dsimp only at hSw); go_simp; (try with_reducible rfl)
              case rest16_17k1 =>
              try simp only [List.getElem_toArray, List.getElem_cons_succ, List.getElem_cons_zero, Act.put, List.setIfInBounds_toArray, List.set_cons_zero, List.set_cons_succ]
              refine wpAnyG_one (i := 17) (by kernel_rfl) rfl (fun K hK => ?_)
              go_simp
              refine Calls.mono HC2.out ?_
              rintro r9 w6 ⟨rfl, h6⟩
              have g6 : w6.cell? ⟨b4, 7, none⟩ = some (.int .i64 0) ∧ w6.cell? ⟨b4, 8, none⟩ = some (.int .i64 z) ∧ w6.cell? ⟨b4, 9, none⟩ = some (.int .i64 6) ∧ w6.cell? ⟨b4, 10, none⟩ = some (.string ⟨#[]⟩) ∧ w6.cell? ⟨b4, 11, none⟩ = some (.int .i64 5) ∧ w6.cell? ⟨b4, 12, none⟩ = some (.int .i64 0) ∧ w6.cell? ⟨b4, 13, none⟩ = some (.slice none 0 0) ∧ w6.cell? ⟨b4, 0, none⟩ = some (.int .i64 z) ∧ w6.cell? ⟨b4, 1, none⟩ = some (.int .i64 1) ∧ w6.cell? ⟨b4, 2, none⟩ = some (.int .i64 6) ∧ w6.cell? ⟨b4, 3, none⟩ = some (.string ⟨#[]⟩) ∧ w6.cell? ⟨b4, 4, none⟩ = some (.int .i64 5) ∧ w6.cell? ⟨b4, 5, none⟩ = some (.int .i64 0) ∧ w6.cell? ⟨b4, 6, none⟩ = some (.slice none 0 0) ∧ w6.cell? ⟨b1, 0, none⟩ = some (.int .i64 6) ∧ w6.cell? ⟨b1, 1, none⟩ = some (.string ⟨#[]⟩) ∧ w6.cell? ⟨b1, 2, none⟩ = some (.int .i64 5) ∧ w6.cell? ⟨b1, 3, none⟩ = some (.int .i64 0) ∧ w6.cell? ⟨b1, 4, none⟩ = some (.slice none 0 0) := ⟨h6.cell rfl, h6.cell rfl, h6.cell rfl, h6.cell rfl, h6.cell rfl, h6.cell rfl, h6.cell rfl, h6.cell rfl, h6.cell rfl, h6.cell rfl, h6.cell rfl, h6.cell rfl, h6.cell rfl, h6.cell rfl, h6.sw3.cell rfl, h6.sw3.cell rfl, h6.sw3.cell rfl, h6.sw3.cell rfl, h6.sw3.cell rfl⟩
              have h7 := h6.alloc (.cells (enCs [(⟨0, 1, shipM⟩, nilV), (⟨0, z, shipM⟩, nilV)]).toArray 26)
              have HC3 := Lib.hid (rows04_s (.slice (some ⟨w6.heap.size, 0, none⟩) 2 2) (.slice (some ⟨b4, 0, none⟩) 4 4) _ _ h7 (h7.clEn (fun i hi => by have h2 : i < 2 := hi; rcases (show i = 0 ∨ i = 1 by omega) with rfl | rfl <;> exact lnK _) rfl (by omega)) (lM_ens h7.sw2) (HKA.out.below h7.low))
              have g7 : (w6.alloc (.cells (enCs [(⟨0, 1, shipM⟩, nilV), (⟨0, z, shipM⟩, nilV)]).toArray 26)).cell? ⟨b4, 7, none⟩ = some (.int .i64 0) ∧ (w6.alloc (.cells (enCs [(⟨0, 1, shipM⟩, nilV), (⟨0, z, shipM⟩, nilV)]).toArray 26)).cell? ⟨b4, 8, none⟩ = some (.int .i64 z) ∧ (w6.alloc (.cells (enCs [(⟨0, 1, shipM⟩, nilV), (⟨0, z, shipM⟩, nilV)]).toArray 26)).cell? ⟨b4, 9, none⟩ = some (.int .i64 6) ∧ (w6.alloc (.cells (enCs [(⟨0, 1, shipM⟩, nilV), (⟨0, z, shipM⟩, nilV)]).toArray 26)).cell? ⟨b4, 10, none⟩ = some (.string ⟨#[]⟩) ∧ (w6.alloc (.cells (enCs [(⟨0, 1, shipM⟩, nilV), (⟨0, z, shipM⟩, nilV)]).toArray 26)).cell? ⟨b4, 11, none⟩ = some (.int .i64 5) ∧ (w6.alloc (.cells (enCs [(⟨0, 1, shipM⟩, nilV), (⟨0, z, shipM⟩, nilV)]).toArray 26)).cell? ⟨b4, 12, none⟩ = some (.int .i64 0) ∧ (w6.alloc (.cells (enCs [(⟨0, 1, shipM⟩, nilV), (⟨0, z, shipM⟩, nilV)]).toArray 26)).cell? ⟨b4, 13, none⟩ = some (.slice none 0 0) ∧ (w6.alloc (.cells (enCs [(⟨0, 1, shipM⟩, nilV), (⟨0, z, shipM⟩, nilV)]).toArray 26)).cell? ⟨b4, 0, none⟩ = some (.int .i64 z) ∧ (w6.alloc (.cells (enCs [(⟨0, 1, shipM⟩, nilV), (⟨0, z, shipM⟩, nilV)]).toArray 26)).cell? ⟨b4, 1, none⟩ = some (.int .i64 1) ∧ (w6.alloc (.cells (enCs [(⟨0, 1, shipM⟩, nilV), (⟨0, z, shipM⟩, nilV)]).toArray 26)).cell? ⟨b4, 2, none⟩ = some (.int .i64 6) ∧ (w6.alloc (.cells (enCs [(⟨0, 1, shipM⟩, nilV), (⟨0, z, shipM⟩, nilV)]).toArray 26)).cell? ⟨b4, 3, none⟩ = some (.string ⟨#[]⟩) ∧ (w6.alloc (.cells (enCs [(⟨0, 1, shipM⟩, nilV), (⟨0, z, shipM⟩, nilV)]).toArray 26)).cell? ⟨b4, 4, none⟩ = some (.int .i64 5) ∧ (w6.alloc (.cells (enCs [(⟨0, 1, shipM⟩, nilV), (⟨0, z, shipM⟩, nilV)]).toArray 26)).cell? ⟨b4, 5, none⟩ = some (.int .i64 0) ∧ (w6.alloc (.cells (enCs [(⟨0, 1, shipM⟩, nilV), (⟨0, z, shipM⟩, nilV)]).toArray 26)).cell? ⟨b4, 6, none⟩ = some (.slice none 0 0) ∧ (w6.alloc (.cells (enCs [(⟨0, 1, shipM⟩, nilV), (⟨0, z, shipM⟩, nilV)]).toArray 26)).cell? ⟨b1, 0, none⟩ = some (.int .i64 6) ∧ (w6.alloc (.cells (enCs [(⟨0, 1, shipM⟩, nilV), (⟨0, z, shipM⟩, nilV)]).toArray 26)).cell? ⟨b1, 1, none⟩ = some (.string ⟨#[]⟩) ∧ (w6.alloc (.cells (enCs [(⟨0, 1, shipM⟩, nilV), (⟨0, z, shipM⟩, nilV)]).toArray 26)).cell? ⟨b1, 2, none⟩ = some (.int .i64 5) ∧ (w6.alloc (.cells (enCs [(⟨0, 1, shipM⟩, nilV), (⟨0, z, shipM⟩, nilV)]).toArray 26)).cell? ⟨b1, 3, none⟩ = some (.int .i64 0) ∧ (w6.alloc (.cells (enCs [(⟨0, 1, shipM⟩, nilV), (⟨0, z, shipM⟩, nilV)]).toArray 26)).cell? ⟨b1, 4, none⟩ = some (.slice none 0 0) := ⟨h7.sw2.cell rfl, h7.sw2.cell rfl, h7.sw2.cell rfl, h7.sw2.cell rfl, h7.sw2.cell rfl, h7.sw2.cell rfl, h7.sw2.cell rfl, h7.sw2.cell rfl, h7.sw2.cell rfl, h7.sw2.cell rfl, h7.sw2.cell rfl, h7.sw2.cell rfl, h7.sw2.cell rfl, h7.sw2.cell rfl, h7.sw4.cell rfl, h7.sw4.cell rfl, h7.sw4.cell rfl, h7.sw4.cell rfl, h7.sw4.cell rfl⟩
              clear g5 HC2 h6 h7
              (try dsimp only); repeat' (first | go_values | go_skip | go_guarded | go_step | go_upon | go_back)
              refine hK.out _ _ (fun _ => ?hS18k1) ?rest18k1
              case hS18k1 => exact g6
              clear K hK
              try simp only [List.getElem_toArray, List.getElem_cons_succ, List.getElem_cons_zero, Act.put, List.setIfInBounds_toArray, List.set_cons_zero, List.set_cons_succ]
              refine wpAnyG_take' (i := 18) (v := ?v18_19k1) rfl (by kernel_rfl) (by kernel_rfl) (by kernel_rfl) (by kernel_rfl) (fun _ _ _ h => h) (Or.inl ⟨by rfl, ?hy18_19k1⟩) g6 ?rest18_19k1
              case hy18_19k1 => intro w hSw; (try dsimp only at hSw); go_simp; (try with_reducible rfl)
              case rest18_19k1 =>
              try simp only [List.getElem_toArray, List.getElem_cons_succ, List.getElem_cons_zero, Act.put, List.setIfInBounds_toArray, List.set_cons_zero, List.set_cons_succ]
              refine wpAnyG_take' (i := 19) (v := ?v19_20k1) rfl (by kernel_rfl) (by kernel_rfl) (by kernel_rfl) (by kernel_rfl) (fun _ _ _ h => h) (Or.inl ⟨by rfl, ?hy19_20k1⟩) g6 ?rest19_20k1
              case hy19_20k1 => intro w hSw; (try dsimp only at hSw); go_simp; (try with_reducible rfl)
              case rest19_20k1 =>
              try simp only [List.getElem_toArray, List.getElem_cons_succ, List.getElem_cons_zero, Act.put, List.setIfInBounds_toArray, List.set_cons_zero, List.set_cons_succ]
              refine wpAnyG_take' (i := 20) (v := ?v20_21k1) rfl (by kernel_rfl) (by kernel_rfl) (by kernel_rfl) (by kernel_rfl) (fun _ _ _ h => h) (Or.inl ⟨by rfl, ?hy20_21k1⟩) g6 ?rest20_21k1
              case hy20_21k1 => intro w hSw; (try dsimp only at hSw); go_simp; (try with_reducible rfl)
              case rest20_21k1 =>
              try simp only [List.getElem_toArray, List.getElem_cons_succ, List.getElem_cons_zero, Act.put, List.setIfInBounds_toArray, List.set_cons_zero, List.set_cons_succ]
              refine wpAnyG_take' (i := 21) (v := ?v21_22k1) rfl (by kernel_rfl) (by kernel_rfl) (by kernel_rfl) (by kernel_rfl) (fun _ _ _ h => h) (Or.inl ⟨by rfl, ?hy21_22k1⟩) g6 ?rest21_22k1
              case hy21_22k1 => intro w hSw; (try dsimp only at hSw); go_simp; (try with_reducible rfl)
              case rest21_22k1 =>
              try simp only [List.getElem_toArray, List.getElem_cons_succ, List.getElem_cons_zero, Act.put, List.setIfInBounds_toArray, List.set_cons_zero, List.set_cons_succ]
              refine wpAnyG_take' (i := 22) (v := .agg #[.int .i64 0, .int .i64 1, .int .i64 6, .string ⟨#[]⟩, .int .i64 5, .int .i64 0, .slice none 0 0]) rfl (by kernel_rfl) (by kernel_rfl) (by kernel_rfl) (by kernel_rfl) (fun _ _ _ h => h) (Or.inl ⟨by rfl, ?hy22_23k1⟩) g6 ?rest22_23k1
              case hy22_23k1 => intro w hSw; exact exec_build 26 #[(1, .const (.int .i64 1)), (2, .tmp 70)] rfl _ (by rw [Array.toList_map]; exact builtE1)
              case rest22_23k1 =>
              try simp only [List.getElem_toArray, List.getElem_cons_succ, List.getElem_cons_zero, Act.put, List.setIfInBounds_toArray, List.set_cons_zero, List.set_cons_succ]
              refine wpAnyG_take' (i := 23) (v := ?v23_24k1) rfl (by kernel_rfl) (by kernel_rfl) (by kernel_rfl) (by kernel_rfl) (fun _ _ _ h => h) (Or.inl ⟨by rfl, ?hy23_24k1⟩) g6 ?rest23_24k1
              case hy23_24k1 => intro w hSw; (try dsimp only at hSw); go_simp; (try with_reducible rfl)
              case rest23_24k1 =>
              try simp only [List.getElem_toArray, List.getElem_cons_succ, List.getElem_cons_zero, Act.put, List.setIfInBounds_toArray, List.set_cons_zero, List.set_cons_succ]
              refine wpAnyG_take' (i := 24) (v := ?v24_25k1) rfl (by kernel_rfl) (by kernel_rfl) (by kernel_rfl) (by kernel_rfl) (fun _ _ _ h => h) (Or.inl ⟨by rfl, ?hy24_25k1⟩) g6 ?rest24_25k1
              case hy24_25k1 => intro w hSw; (try dsimp only at hSw); go_simp; (try with_reducible rfl)
              case rest24_25k1 =>
              try simp only [List.getElem_toArray, List.getElem_cons_succ, List.getElem_cons_zero, Act.put, List.setIfInBounds_toArray, List.set_cons_zero, List.set_cons_succ]
              refine wpAnyG_take' (i := 25) (v := ?v25_26k1) rfl (by kernel_rfl) (by kernel_rfl) (by kernel_rfl) (by kernel_rfl) (fun _ _ _ h => h) (Or.inl ⟨by rfl, ?hy25_26k1⟩) g6 ?rest25_26k1
              case hy25_26k1 => intro w hSw; (try dsimp only at hSw); go_simp; (try with_reducible rfl)
              case rest25_26k1 =>
              try simp only [List.getElem_toArray, List.getElem_cons_succ, List.getElem_cons_zero, Act.put, List.setIfInBounds_toArray, List.set_cons_zero, List.set_cons_succ]
              refine wpAnyG_take' (i := 26) (v := ?v26_27k1) rfl (by kernel_rfl) (by kernel_rfl) (by kernel_rfl) (by kernel_rfl) (fun _ _ _ h => h) (Or.inl ⟨by rfl, ?hy26_27k1⟩) g6 ?rest26_27k1
              case hy26_27k1 => intro w hSw; (try dsimp only at hSw); go_simp; (try with_reducible rfl)
              case rest26_27k1 =>
              try simp only [List.getElem_toArray, List.getElem_cons_succ, List.getElem_cons_zero, Act.put, List.setIfInBounds_toArray, List.set_cons_zero, List.set_cons_succ]
              refine wpAnyG_take' (i := 28) (v := ?v28_28k1) rfl (by kernel_rfl) (by kernel_rfl) (by kernel_rfl) (by kernel_rfl) (fun _ _ _ h => h) (Or.inl ⟨by rfl, ?hy28_28k1⟩) g6 ?rest28_28k1
              case hy28_28k1 => intro w hSw; (try dsimp only at hSw); go_simp; (try with_reducible rfl)
              case rest28_28k1 =>
              try simp only [List.getElem_toArray, List.getElem_cons_succ, List.getElem_cons_zero, Act.put, List.setIfInBounds_toArray, List.set_cons_zero, List.set_cons_succ]
              refine wpAnyG_one (i := 27) (by kernel_rfl) rfl (fun K hK => ?_)
              refine step_wanted (by first | rfl | kernel_rfl) ?_
              refine opwp_buildE2 (c0_0 := (.int .i64 0)) (c0_1 := (.int .i64 1)) (c0_2 := (.int .i64 6)) (c0_3 := (.string ⟨#[]⟩)) (c0_4 := (.int .i64 5)) (c0_5 := (.int .i64 0)) (c0_6 := (.slice none 0 0)) (c1_0 := (.int .i64 0)) (c1_1 := (.int .i64 z)) (c1_2 := (.int .i64 6)) (c1_3 := (.string ⟨#[]⟩)) (c1_4 := (.int .i64 5)) (c1_5 := (.int .i64 0)) (c1_6 := (.slice none 0 0)) (l := (enCs [(⟨0, 1, shipM⟩, nilV), (⟨0, z, shipM⟩, nilV)]).toArray) _ _ rfl (by kernel_rfl) (by kernel_rfl) (by kernel_rfl) ?_
              refine hK.out _ _ (fun _ => ?hS29k1) ?rest29k1
              case hS29k1 => exact g7
              clear K hK
              try simp only [List.getElem_toArray, List.getElem_cons_succ, List.getElem_cons_zero, Act.put, List.setIfInBounds_toArray, List.set_cons_zero, List.set_cons_succ]
              refine wpAnyG_one (i := 29) (by kernel_rfl) rfl (fun K hK => ?_)
              go_simp
              refine Calls.mono HC3.out ?_
              rintro r9 w8 ⟨rfl, h8⟩
              have h8 := h8.drop
              have g8 : w8.cell? ⟨b4, 7, none⟩ = some (.int .i64 0) ∧ w8.cell? ⟨b4, 8, none⟩ = some (.int .i64 z) ∧ w8.cell? ⟨b4, 9, none⟩ = some (.int .i64 6) ∧ w8.cell? ⟨b4, 10, none⟩ = some (.string ⟨#[]⟩) ∧ w8.cell? ⟨b4, 11, none⟩ = some (.int .i64 5) ∧ w8.cell? ⟨b4, 12, none⟩ = some (.int .i64 0) ∧ w8.cell? ⟨b4, 13, none⟩ = some (.slice none 0 0) ∧ w8.cell? ⟨b4, 0, none⟩ = some (.int .i64 z) ∧ w8.cell? ⟨b4, 1, none⟩ = some (.int .i64 1) ∧ w8.cell? ⟨b4, 2, none⟩ = some (.int .i64 6) ∧ w8.cell? ⟨b4, 3, none⟩ = some (.string ⟨#[]⟩) ∧ w8.cell? ⟨b4, 4, none⟩ = some (.int .i64 5) ∧ w8.cell? ⟨b4, 5, none⟩ = some (.int .i64 0) ∧ w8.cell? ⟨b4, 6, none⟩ = some (.slice none 0 0) ∧ w8.cell? ⟨b1, 0, none⟩ = some (.int .i64 6) ∧ w8.cell? ⟨b1, 1, none⟩ = some (.string ⟨#[]⟩) ∧ w8.cell? ⟨b1, 2, none⟩ = some (.int .i64 5) ∧ w8.cell? ⟨b1, 3, none⟩ = some (.int .i64 0) ∧ w8.cell? ⟨b1, 4, none⟩ = some (.slice none 0 0) := ⟨h8.cell rfl, h8.cell rfl, h8.cell rfl, h8.cell rfl, h8.cell rfl, h8.cell rfl, h8.cell rfl, h8.cell rfl, h8.cell rfl, h8.cell rfl, h8.cell rfl, h8.cell rfl, h8.cell rfl, h8.cell rfl, h8.sw3.cell rfl, h8.sw3.cell rfl, h8.sw3.cell rfl, h8.sw3.cell rfl, h8.sw3.cell rfl⟩
              have H8 := Lib.hid h8
              clear g6 g7 HC3 h8
              (try dsimp only); repeat' (first | go_values | go_skip | go_guarded | go_step | go_upon | go_back)
              refine hK.out _ _ (fun _ => ?hS30k1) ?rest30k1
              case hS30k1 => exact g8
              clear K hK
              try simp only [List.getElem_toArray, List.getElem_cons_succ, List.getElem_cons_zero, Act.put, List.setIfInBounds_toArray, List.set_cons_zero, List.set_cons_succ]
              refine wpAnyG_take' (i := 30) (v := ?v30_31k1) rfl (by kernel_rfl) (by kernel_rfl) (by kernel_rfl) (by kernel_rfl) (fun _ _ _ h => h) (Or.inl ⟨by rfl, ?hy30_31k1⟩) g8 ?rest30_31k1
              case hy30_31k1 => intro w hSw; (try dsimp only at hSw); go_simp; (try with_reducible rfl)
              case rest30_31k1 =>
              try simp only [List.getElem_toArray, List.getElem_cons_succ, List.getElem_cons_zero, Act.put, List.setIfInBounds_toArray, List.set_cons_zero, List.set_cons_succ]
              refine wpAnyG_take' (i := 31) (v := ?v31_32k1) rfl (by kernel_rfl) (by kernel_rfl) (by kernel_rfl) (by kernel_rfl) (fun _ _ _ h => h) (Or.inl ⟨by rfl, ?hy31_32k1⟩) g8 ?rest31_32k1
              case hy31_32k1 => intro w hSw; (try dsimp only at hSw); go_simp; (try with_reducible rfl)
              case rest31_32k1 =>
              try simp only [List.getElem_toArray, List.getElem_cons_succ, List.getElem_cons_zero, Act.put, List.setIfInBounds_toArray, List.set_cons_zero, List.set_cons_succ]
              refine wpAnyG_done (by kernel_rfl) ?_ _
              try simp only [List.getElem_toArray, List.getElem_cons_succ, List.getElem_cons_zero, Act.put, List.setIfInBounds_toArray, List.set_cons_zero, List.set_cons_succ]
              clear g8
              (try dsimp only); repeat' (first | go_values | go_skip | go_guarded | go_step | go_upon | go_back)
              go_roundw
              case rel => exact ⟨2, by omega, rfl, H8.out⟩
              case measure => simp [intOf]
          · as_aux_lemma =>
              clear hk hk4
              have hwk : IntKind.i64.wrap 3 = 3 := by kernel_rfl
              have HS := Lib.hid hs
              have HC1 := Lib.hid (writes04_s ⟨0, 1, ⟨z, sZ, 1, 0, []⟩⟩ ⟨z, 1, shipM⟩ nilV nilV hs.drew (lnK _) (lnK _) (HKA.out.below hs.drew.low))
              unfold enV shipM sZ nilV at HC1
              dsimp only at HC1
              have g0 : wr.cell? ⟨b4, 14, none⟩ = some (.int .i64 0) ∧ wr.cell? ⟨b4, 15, none⟩ = some (.int .i64 1) ∧ wr.cell? ⟨b4, 16, none⟩ = some (.int .i64 z) ∧ wr.cell? ⟨b4, 17, none⟩ = some (.string ⟨#[]⟩) ∧ wr.cell? ⟨b4, 18, none⟩ = some (.int .i64 1) ∧ wr.cell? ⟨b4, 19, none⟩ = some (.int .i64 0) ∧ wr.cell? ⟨b4, 20, none⟩ = some (.slice none 0 0) ∧ wr.cell? ⟨b4, 0, none⟩ = some (.int .i64 z) ∧ wr.cell? ⟨b4, 1, none⟩ = some (.int .i64 1) ∧ wr.cell? ⟨b4, 2, none⟩ = some (.int .i64 6) ∧ wr.cell? ⟨b4, 3, none⟩ = some (.string ⟨#[]⟩) ∧ wr.cell? ⟨b4, 4, none⟩ = some (.int .i64 5) ∧ wr.cell? ⟨b4, 5, none⟩ = some (.int .i64 0) ∧ wr.cell? ⟨b4, 6, none⟩ = some (.slice none 0 0) ∧ wr.cell? ⟨b1, 0, none⟩ = some (.int .i64 6) ∧ wr.cell? ⟨b1, 1, none⟩ = some (.string ⟨#[]⟩) ∧ wr.cell? ⟨b1, 2, none⟩ = some (.int .i64 5) ∧ wr.cell? ⟨b1, 3, none⟩ = some (.int .i64 0) ∧ wr.cell? ⟨b1, 4, none⟩ = some (.slice none 0 0) := ⟨hs.cell rfl, hs.cell rfl, hs.cell rfl, hs.cell rfl, hs.cell rfl, hs.cell rfl, hs.cell rfl, hs.cell rfl, hs.cell rfl, hs.cell rfl, hs.cell rfl, hs.cell rfl, hs.cell rfl, hs.cell rfl, hs.sw3.cell rfl, hs.sw3.cell rfl, hs.sw3.cell rfl, hs.sw3.cell rfl, hs.sw3.cell rfl⟩
              clear hs
              (try dsimp only); repeat' (first | go_values | go_skip | go_guarded | go_step | go_upon | go_back)
              refine wp_region_G (fun w' => w'.cell? ⟨b4, 14, none⟩ = some (.int .i64 0) ∧ w'.cell? ⟨b4, 15, none⟩ = some (.int .i64 1) ∧ w'.cell? ⟨b4, 16, none⟩ = some (.int .i64 z) ∧ w'.cell? ⟨b4, 17, none⟩ = some (.string ⟨#[]⟩) ∧ w'.cell? ⟨b4, 18, none⟩ = some (.int .i64 1) ∧ w'.cell? ⟨b4, 19, none⟩ = some (.int .i64 0) ∧ w'.cell? ⟨b4, 20, none⟩ = some (.slice none 0 0) ∧ w'.cell? ⟨b4, 0, none⟩ = some (.int .i64 z) ∧ w'.cell? ⟨b4, 1, none⟩ = some (.int .i64 1) ∧ w'.cell? ⟨b4, 2, none⟩ = some (.int .i64 6) ∧ w'.cell? ⟨b4, 3, none⟩ = some (.string ⟨#[]⟩) ∧ w'.cell? ⟨b4, 4, none⟩ = some (.int .i64 5) ∧ w'.cell? ⟨b4, 5, none⟩ = some (.int .i64 0) ∧ w'.cell? ⟨b4, 6, none⟩ = some (.slice none 0 0) ∧ w'.cell? ⟨b1, 0, none⟩ = some (.int .i64 6) ∧ w'.cell? ⟨b1, 1, none⟩ = some (.string ⟨#[]⟩) ∧ w'.cell? ⟨b1, 2, none⟩ = some (.int .i64 5) ∧ w'.cell? ⟨b1, 3, none⟩ = some (.int .i64 0) ∧ w'.cell? ⟨b1, 4, none⟩ = some (.slice none 0 0)) [] (by kernel_rfl) g0 (fun hS => ?_)
              try dsimp only at hS
              refine wpAnyG_take' (i := 0) (v := ?v0_1k2) rfl (by kernel_rfl) (by kernel_rfl) (by kernel_rfl) (by kernel_rfl) (fun _ _ _ h => h) (Or.inl ⟨by rfl, ?hy0_1k2⟩) g0 ?rest0_1k2
              case hy0_1k2 => intro w hSw; (try dsimp only at hSw); go_simp; (try with_reducible rfl)
              case rest0_1k2 =>
              try simp only [List.getElem_toArray, List.getElem_cons_succ, List.getElem_cons_zero, Act.put, List.setIfInBounds_toArray, List.set_cons_zero, List.set_cons_succ]
              refine wpAnyG_take' (i := 1) (v := ?v1_2k2) rfl (by kernel_rfl) (by kernel_rfl) (by kernel_rfl) (by kernel_rfl) (fun _ _ _ h => h) (Or.inl ⟨by rfl, ?hy1_2k2⟩) g0 ?rest1_2k2
              case hy1_2k2 => intro w hSw; (try dsimp only at hSw); go_simp; (try with_reducible rfl)
              case rest1_2k2 =>
              try simp only [List.getElem_toArray, List.getElem_cons_succ, List.getElem_cons_zero, Act.put, List.setIfInBounds_toArray, List.set_cons_zero, List.set_cons_succ]
              refine wpAnyG_take' (i := 2) (v := ?v2_3k2) rfl (by kernel_rfl) (by kernel_rfl) (by kernel_rfl) (by kernel_rfl) (fun _ _ _ h => h) (Or.inl ⟨by rfl, ?hy2_3k2⟩) g0 ?rest2_3k2
              case hy2_3k2 => intro w hSw; (try dsimp only at hSw); go_simp; (try with_reducible rfl)
              case rest2_3k2 =>
              try simp only [List.getElem_toArray, List.getElem_cons_succ, List.getElem_cons_zero, Act.put, List.setIfInBounds_toArray, List.set_cons_zero, List.set_cons_succ]
              refine wpAnyG_take' (i := 3) (v := ?v3_4k2) rfl (by kernel_rfl) (by kernel_rfl) (by kernel_rfl) (by kernel_rfl) (fun _ _ _ h => h) (Or.inl ⟨by rfl, ?hy3_4k2⟩) g0 ?rest3_4k2
              case hy3_4k2 => intro w hSw; (try dsimp only at hSw); go_simp; (try with_reducible rfl)
              case rest3_4k2 =>
              try simp only [List.getElem_toArray, List.getElem_cons_succ, List.getElem_cons_zero, Act.put, List.setIfInBounds_toArray, List.set_cons_zero, List.set_cons_succ]
              refine wpAnyG_take' (i := 4) (v := ?v4_5k2) rfl (by kernel_rfl) (by kernel_rfl) (by kernel_rfl) (by kernel_rfl) (fun _ _ _ h => h) (Or.inl ⟨by rfl, ?hy4_5k2⟩) g0 ?rest4_5k2
              case hy4_5k2 => intro w hSw; (try dsimp only at hSw); go_simp; (try with_reducible rfl)
              case rest4_5k2 =>
              try simp only [List.getElem_toArray, List.getElem_cons_succ, List.getElem_cons_zero, Act.put, List.setIfInBounds_toArray, List.set_cons_zero, List.set_cons_succ]
              refine wpAnyG_take' (i := 5) (v := ?v5_6k2) rfl (by kernel_rfl) (by kernel_rfl) (by kernel_rfl) (by kernel_rfl) (fun _ _ _ h => h) (Or.inl ⟨by rfl, ?hy5_6k2⟩) g0 ?rest5_6k2
              case hy5_6k2 => intro w hSw; (try dsimp only at hSw); go_simp; (try with_reducible rfl)
              case rest5_6k2 =>
              try simp only [List.getElem_toArray, List.getElem_cons_succ, List.getElem_cons_zero, Act.put, List.setIfInBounds_toArray, List.set_cons_zero, List.set_cons_succ]
              refine wpAnyG_take' (i := 6) (v := ?v6_7k2) rfl (by kernel_rfl) (by kernel_rfl) (by kernel_rfl) (by kernel_rfl) (fun _ _ _ h => h) (Or.inl ⟨by rfl, ?hy6_7k2⟩) g0 ?rest6_7k2
              case hy6_7k2 => intro w hSw; (try dsimp only at hSw); go_simp; (try with_reducible rfl)
              case rest6_7k2 =>
              try simp only [List.getElem_toArray, List.getElem_cons_succ, List.getElem_cons_zero, Act.put, List.setIfInBounds_toArray, List.set_cons_zero, List.set_cons_succ]
              refine wpAnyG_one (i := 7) (by kernel_rfl) rfl (fun K hK => ?_)
              go_simp
              refine Calls.mono HC1.out ?_
              rintro r9 w5 ⟨rfl, h5⟩
              have g5 : w5.cell? ⟨b4, 14, none⟩ = some (.int .i64 0) ∧ w5.cell? ⟨b4, 15, none⟩ = some (.int .i64 1) ∧ w5.cell? ⟨b4, 16, none⟩ = some (.int .i64 z) ∧ w5.cell? ⟨b4, 17, none⟩ = some (.string ⟨#[]⟩) ∧ w5.cell? ⟨b4, 18, none⟩ = some (.int .i64 1) ∧ w5.cell? ⟨b4, 19, none⟩ = some (.int .i64 0) ∧ w5.cell? ⟨b4, 20, none⟩ = some (.slice none 0 0) ∧ w5.cell? ⟨b4, 0, none⟩ = some (.int .i64 z) ∧ w5.cell? ⟨b4, 1, none⟩ = some (.int .i64 1) ∧ w5.cell? ⟨b4, 2, none⟩ = some (.int .i64 6) ∧ w5.cell? ⟨b4, 3, none⟩ = some (.string ⟨#[]⟩) ∧ w5.cell? ⟨b4, 4, none⟩ = some (.int .i64 5) ∧ w5.cell? ⟨b4, 5, none⟩ = some (.int .i64 0) ∧ w5.cell? ⟨b4, 6, none⟩ = some (.slice none 0 0) ∧ w5.cell? ⟨b1, 0, none⟩ = some (.int .i64 6) ∧ w5.cell? ⟨b1, 1, none⟩ = some (.string ⟨#[]⟩) ∧ w5.cell? ⟨b1, 2, none⟩ = some (.int .i64 5) ∧ w5.cell? ⟨b1, 3, none⟩ = some (.int .i64 0) ∧ w5.cell? ⟨b1, 4, none⟩ = some (.slice none 0 0) := ⟨h5.cell rfl, h5.cell rfl, h5.cell rfl, h5.cell rfl, h5.cell rfl, h5.cell rfl, h5.cell rfl, h5.cell rfl, h5.cell rfl, h5.cell rfl, h5.cell rfl, h5.cell rfl, h5.cell rfl, h5.cell rfl, h5.sw3.cell rfl, h5.sw3.cell rfl, h5.sw3.cell rfl, h5.sw3.cell rfl, h5.sw3.cell rfl⟩
              have HC2 := Lib.hid (rows04_s _ _ _ _ h5 (ens_first (lM_ens h5) 3 (by omega) (by omega) : EnS _ (.slice (some ⟨b4, 0, none⟩) 3 4) _) (ens_drop (lM_ens h5) 2 (by omega) : EnS _ (.slice (some ⟨b4, 14, none⟩) 2 2) _) (HKA.out.below h5.low))
              clear g0 HC1 HS hS h5
              (try dsimp only); repeat' (first | go_values | go_skip | go_guarded | go_step | go_upon | go_back)
              refine hK.out _ _ (fun _ => ?hS8k2) ?rest8k2
              case hS8k2 => exact g5
              clear K hK
              try simp only [List.getElem_toArray, List.getElem_cons_succ, List.getElem_cons_zero, Act.put, List.setIfInBounds_toArray, List.set_cons_zero, List.set_cons_succ]
              refine wpAnyG_take' (i := 8) (v := ?v8_9k2) rfl (by kernel_rfl) (by kernel_rfl) (by kernel_rfl) (by kernel_rfl) (fun _ _ _ h => h) (Or.inl ⟨by rfl, ?hy8_9k2⟩) g5 ?rest8_9k2
              case hy8_9k2 => intro w hSw; (try dsimp only at hSw); go_simp; (try with_reducible rfl)
              case rest8_9k2 =>
              try simp only [List.getElem_toArray, List.getElem_cons_succ, List.getElem_cons_zero, Act.put, List.setIfInBounds_toArray, List.set_cons_zero, List.set_cons_succ]
              refine wpAnyG_take' (i := 9) (v := ?v9_10k2) rfl (by kernel_rfl) (by kernel_rfl) (by kernel_rfl) (by kernel_rfl) (fun _ _ _ h => h) (Or.inl ⟨by rfl, ?hy9_10k2⟩) g5 ?rest9_10k2
              case hy9_10k2 => intro w hSw; (try dsimp only at hSw); go_simp; (try with_reducible rfl)
              case rest9_10k2 =>
              try simp only [List.getElem_toArray, List.getElem_cons_succ, List.getElem_cons_zero, Act.put, List.setIfInBounds_toArray, List.set_cons_zero, List.set_cons_succ]
              refine wpAnyG_take' (i := 10) (v := ?v10_11k2) rfl (by kernel_rfl) (by kernel_rfl) (by kernel_rfl) (by kernel_rfl) (fun _ _ _ h => h) (Or.inl ⟨by rfl, ?hy10_11k2⟩) g5 ?rest10_11k2
              case hy10_11k2 => intro w hSw; (try dsimp only at hSw); go_simp; (try with_reducible rfl)
              case rest10_11k2 =>
              try simp only [List.getElem_toArray, List.getElem_cons_succ, List.getElem_cons_zero, Act.put, List.setIfInBounds_toArray, List.set_cons_zero, List.set_cons_succ]
              refine wpAnyG_take' (i := 11) (v := ?v11_12k2) rfl (by kernel_rfl) (by kernel_rfl) (by kernel_rfl) (by kernel_rfl) (fun _ _ _ h => h) (Or.inl ⟨by rfl, ?hy11_12k2⟩) g5 ?rest11_12k2
              case hy11_12k2 => intro w hSw; (try dsimp only at hSw); go_simp; (try with_reducible rfl)
              case rest11_12k2 =>
              try simp only [List.getElem_toArray, List.getElem_cons_succ, List.getElem_cons_zero, Act.put, List.setIfInBounds_toArray, List.set_cons_zero, List.set_cons_succ]
              refine wpAnyG_take' (i := 12) (v := ?v12_13k2) rfl (by kernel_rfl) (by kernel_rfl) (by kernel_rfl) (by kernel_rfl) (fun _ _ _ h => h) (Or.inl ⟨by rfl, ?hy12_13k2⟩) g5 ?rest12_13k2
              case hy12_13k2 => intro w hSw; (try dsimp only at hSw); go_simp; (try with_reducible rfl)
              case rest12_13k2 =>
              try simp only [List.getElem_toArray, List.getElem_cons_succ, List.getElem_cons_zero, Act.put, List.setIfInBounds_toArray, List.set_cons_zero, List.set_cons_succ]
              refine wpAnyG_take' (i := 13) (v := ?v13_14k2) rfl (by kernel_rfl) (by kernel_rfl) (by kernel_rfl) (by kernel_rfl) (fun _ _ _ h => h) (Or.inl ⟨by rfl, ?hy13_14k2⟩) g5 ?rest13_14k2
              case hy13_14k2 => intro w hSw; (try dsimp only at hSw); go_simp; (try with_reducible rfl)
              case rest13_14k2 =>
              try simp only [List.getElem_toArray, List.getElem_cons_succ, List.getElem_cons_zero, Act.put, List.setIfInBounds_toArray, List.set_cons_zero, List.set_cons_succ]
              refine wpAnyG_take' (i := 14) (v := ?v14_15k2) rfl (by kernel_rfl) (by kernel_rfl) (by kernel_rfl) (by kernel_rfl) (fun _ _ _ h => h) (Or.inl ⟨by rfl, ?hy14_15k2⟩) g5 ?rest14_15k2
              case hy14_15k2 => intro w hSw; (try dsimp only at hSw); go_simp; (try with_reducible rfl)
              case rest14_15k2 =>
              try simp only [List.getElem_toArray, List.getElem_cons_succ, List.getElem_cons_zero, Act.put, List.setIfInBounds_toArray, List.set_cons_zero, List.set_cons_succ]
              refine wpAnyG_take' (i := 15) (v := ?v15_16k2) rfl (by kernel_rfl) (by kernel_rfl) (by kernel_rfl) (by kernel_rfl) (fun _ _ _ h => h) (Or.inl ⟨by rfl, ?hy15_16k2⟩) g5 ?rest15_16k2
              case hy15_16k2 => intro w hSw; (try dsimp only at hSw); go_simp; (try with_reducible rfl)
              case rest15_16k2 =>
              try simp only [List.getElem_toArray, List.getElem_cons_succ, List.getElem_cons_zero, Act.put, List.setIfInBounds_toArray, List.set_cons_zero, List.set_cons_succ]
              refine wpAnyG_take' (i := 16) (v := ?v16_17k2) rfl (by kernel_rfl) (by kernel_rfl) (by kernel_rfl) (by kernel_rfl) (fun _ _ _ h => h) (Or.inl ⟨by rfl, ?hy16_17k2⟩) g5 ?rest16_17k2
              case hy16_17k2 => intro w hSw; (try dsimp only at hSw); go_simp; (try with_reducible rfl)
              case rest16_17k2 =>
              try simp only [List.getElem_toArray, List.getElem_cons_succ, List.getElem_cons_zero, Act.put, List.setIfInBounds_toArray, List.set_cons_zero, List.set_cons_succ]
              refine wpAnyG_one (i := 17) (by kernel_rfl) rfl (fun K hK => ?_)
              go_simp
              refine Calls.mono HC2.out ?_
              rintro r9 w6 ⟨rfl, h6⟩
              have g6 : w6.cell? ⟨b4, 14, none⟩ = some (.int .i64 0) ∧ w6.cell? ⟨b4, 15, none⟩ = some (.int .i64 1) ∧ w6.cell? ⟨b4, 16, none⟩ = some (.int .i64 z) ∧ w6.cell? ⟨b4, 17, none⟩ = some (.string ⟨#[]⟩) ∧ w6.cell? ⟨b4, 18, none⟩ = some (.int .i64 1) ∧ w6.cell? ⟨b4, 19, none⟩ = some (.int .i64 0) ∧ w6.cell? ⟨b4, 20, none⟩ = some (.slice none 0 0) ∧ w6.cell? ⟨b4, 0, none⟩ = some (.int .i64 z) ∧ w6.cell? ⟨b4, 1, none⟩ = some (.int .i64 1) ∧ w6.cell? ⟨b4, 2, none⟩ = some (.int .i64 6) ∧ w6.cell? ⟨b4, 3, none⟩ = some (.string ⟨#[]⟩) ∧ w6.cell? ⟨b4, 4, none⟩ = some (.int .i64 5) ∧ w6.cell? ⟨b4, 5, none⟩ = some (.int .i64 0) ∧ w6.cell? ⟨b4, 6, none⟩ = some (.slice none 0 0) ∧ w6.cell? ⟨b1, 0, none⟩ = some (.int .i64 6) ∧ w6.cell? ⟨b1, 1, none⟩ = some (.string ⟨#[]⟩) ∧ w6.cell? ⟨b1, 2, none⟩ = some (.int .i64 5) ∧ w6.cell? ⟨b1, 3, none⟩ = some (.int .i64 0) ∧ w6.cell? ⟨b1, 4, none⟩ = some (.slice none 0 0) := ⟨h6.cell rfl, h6.cell rfl, h6.cell rfl, h6.cell rfl, h6.cell rfl, h6.cell rfl, h6.cell rfl, h6.cell rfl, h6.cell rfl, h6.cell rfl, h6.cell rfl, h6.cell rfl, h6.cell rfl, h6.cell rfl, h6.sw3.cell rfl, h6.sw3.cell rfl, h6.sw3.cell rfl, h6.sw3.cell rfl, h6.sw3.cell rfl⟩
              have h7 := h6.alloc (.cells (enCs [(⟨0, 1, shipM⟩, nilV), (⟨0, 1, ⟨z, sZ, 1, 0, []⟩⟩, nilV)]).toArray 26)
              have HC3 := Lib.hid (rows04_s (.slice (some ⟨w6.heap.size, 0, none⟩) 2 2) (.slice (some ⟨b4, 0, none⟩) 4 4) _ _ h7 (h7.clEn (fun i hi => by have h2 : i < 2 := hi; rcases (show i = 0 ∨ i = 1 by omega) with rfl | rfl <;> exact lnK _) rfl (by omega)) (lM_ens h7.sw2) (HKA.out.below h7.low))
              have g7 : (w6.alloc (.cells (enCs [(⟨0, 1, shipM⟩, nilV), (⟨0, 1, ⟨z, sZ, 1, 0, []⟩⟩, nilV)]).toArray 26)).cell? ⟨b4, 14, none⟩ = some (.int .i64 0) ∧ (w6.alloc (.cells (enCs [(⟨0, 1, shipM⟩, nilV), (⟨0, 1, ⟨z, sZ, 1, 0, []⟩⟩, nilV)]).toArray 26)).cell? ⟨b4, 15, none⟩ = some (.int .i64 1) ∧ (w6.alloc (.cells (enCs [(⟨0, 1, shipM⟩, nilV), (⟨0, 1, ⟨z, sZ, 1, 0, []⟩⟩, nilV)]).toArray 26)).cell? ⟨b4, 16, none⟩ = some (.int .i64 z) ∧ (w6.alloc (.cells (enCs [(⟨0, 1, shipM⟩, nilV), (⟨0, 1, ⟨z, sZ, 1, 0, []⟩⟩, nilV)]).toArray 26)).cell? ⟨b4, 17, none⟩ = some (.string ⟨#[]⟩) ∧ (w6.alloc (.cells (enCs [(⟨0, 1, shipM⟩, nilV), (⟨0, 1, ⟨z, sZ, 1, 0, []⟩⟩, nilV)]).toArray 26)).cell? ⟨b4, 18, none⟩ = some (.int .i64 1) ∧ (w6.alloc (.cells (enCs [(⟨0, 1, shipM⟩, nilV), (⟨0, 1, ⟨z, sZ, 1, 0, []⟩⟩, nilV)]).toArray 26)).cell? ⟨b4, 19, none⟩ = some (.int .i64 0) ∧ (w6.alloc (.cells (enCs [(⟨0, 1, shipM⟩, nilV), (⟨0, 1, ⟨z, sZ, 1, 0, []⟩⟩, nilV)]).toArray 26)).cell? ⟨b4, 20, none⟩ = some (.slice none 0 0) ∧ (w6.alloc (.cells (enCs [(⟨0, 1, shipM⟩, nilV), (⟨0, 1, ⟨z, sZ, 1, 0, []⟩⟩, nilV)]).toArray 26)).cell? ⟨b4, 0, none⟩ = some (.int .i64 z) ∧ (w6.alloc (.cells (enCs [(⟨0, 1, shipM⟩, nilV), (⟨0, 1, ⟨z, sZ, 1, 0, []⟩⟩, nilV)]).toArray 26)).cell? ⟨b4, 1, none⟩ = some (.int .i64 1) ∧ (w6.alloc (.cells (enCs [(⟨0, 1, shipM⟩, nilV), (⟨0, 1, ⟨z, sZ, 1, 0, []⟩⟩, nilV)]).toArray 26)).cell? ⟨b4, 2, none⟩ = some (.int .i64 6) ∧ (w6.alloc (.cells (enCs [(⟨0, 1, shipM⟩, nilV), (⟨0, 1, ⟨z, sZ, 1, 0, []⟩⟩, nilV)]).toArray 26)).cell? ⟨b4, 3, none⟩ = some (.string ⟨#[]⟩) ∧ (w6.alloc (.cells (enCs [(⟨0, 1, shipM⟩, nilV), (⟨0, 1, ⟨z, sZ, 1, 0, []⟩⟩, nilV)]).toArray 26)).cell? ⟨b4, 4, none⟩ = some (.int .i64 5) ∧ (w6.alloc (.cells (enCs [(⟨0, 1, shipM⟩, nilV), (⟨0, 1, ⟨z, sZ, 1, 0, []⟩⟩, nilV)]).toArray 26)).cell? ⟨b4, 5, none⟩ = some (.int .i64 0) ∧ (w6.alloc (.cells (enCs [(⟨0, 1, shipM⟩, nilV), (⟨0, 1, ⟨z, sZ, 1, 0, []⟩⟩, nilV)]).toArray 26)).cell? ⟨b4, 6, none⟩ = some (.slice none 0 0) ∧ (w6.alloc (.cells (enCs [(⟨0, 1, shipM⟩, nilV), (⟨0, 1, ⟨z, sZ, 1, 0, []⟩⟩, nilV)]).toArray 26)).cell? ⟨b1, 0, none⟩ = some (.int .i64 6) ∧ (w6.alloc (.cells (enCs [(⟨0, 1, shipM⟩, nilV), (⟨0, 1, ⟨z, sZ, 1, 0, []⟩⟩, nilV)]).toArray 26)).cell? ⟨b1, 1, none⟩ = some (.string ⟨#[]⟩) ∧ (w6.alloc (.cells (enCs [(⟨0, 1, shipM⟩, nilV), (⟨0, 1, ⟨z, sZ, 1, 0, []⟩⟩, nilV)]).toArray 26)).cell? ⟨b1, 2, none⟩ = some (.int .i64 5) ∧ (w6.alloc (.cells (enCs [(⟨0, 1, shipM⟩, nilV), (⟨0, 1, ⟨z, sZ, 1, 0, []⟩⟩, nilV)]).toArray 26)).cell? ⟨b1, 3, none⟩ = some (.int .i64 0) ∧ (w6.alloc (.cells (enCs [(⟨0, 1, shipM⟩, nilV), (⟨0, 1, ⟨z, sZ, 1, 0, []⟩⟩, nilV)]).toArray 26)).cell? ⟨b1, 4, none⟩ = some (.slice none 0 0) := ⟨h7.sw2.cell rfl, h7.sw2.cell rfl, h7.sw2.cell rfl, h7.sw2.cell rfl, h7.sw2.cell rfl, h7.sw2.cell rfl, h7.sw2.cell rfl, h7.sw2.cell rfl, h7.sw2.cell rfl, h7.sw2.cell rfl, h7.sw2.cell rfl, h7.sw2.cell rfl, h7.sw2.cell rfl, h7.sw2.cell rfl, h7.sw4.cell rfl, h7.sw4.cell rfl, h7.sw4.cell rfl, h7.sw4.cell rfl, h7.sw4.cell rfl⟩
              clear g5 HC2 h6 h7
              (try dsimp only); repeat' (first | go_values | go_skip | go_guarded | go_step | go_upon | go_back)
              refine hK.out _ _ (fun _ => ?hS18k2) ?rest18k2
              case hS18k2 => exact g6
              clear K hK
              try simp only [List.getElem_toArray, List.getElem_cons_succ, List.getElem_cons_zero, Act.put, List.setIfInBounds_toArray, List.set_cons_zero, List.set_cons_succ]
              refine wpAnyG_take' (i := 18) (v := ?v18_19k2) rfl (by kernel_rfl) (by kernel_rfl) (by kernel_rfl) (by kernel_rfl) (fun _ _ _ h => h) (Or.inl ⟨by rfl, ?hy18_19k2⟩) g6 ?rest18_19k2
              case hy18_19k2 => intro w hSw; (try dsimp only at hSw); go_simp; (try with_reducible rfl)
              case rest18_19k2 =>
              try simp only [List.getElem_toArray, List.getElem_cons_succ, List.getElem_cons_zero, Act.put, List.setIfInBounds_toArray, List.set_cons_zero, List.set_cons_succ]
              refine wpAnyG_take' (i := 19) (v := ?v19_20k2) rfl (by kernel_rfl) (by kernel_rfl) (by kernel_rfl) (by kernel_rfl) (fun _ _ _ h => h) (Or.inl ⟨by rfl, ?hy19_20k2⟩) g6 ?rest19_20k2
              case hy19_20k2 => intro w hSw; (try dsimp only at hSw); go_simp; (try with_reducible rfl)
              case rest19_20k2 =>
              try simp only [List.getElem_toArray, List.getElem_cons_succ, List.getElem_cons_zero, Act.put, List.setIfInBounds_toArray, List.set_cons_zero, List.set_cons_succ]
              refine wpAnyG_take' (i := 20) (v := ?v20_21k2) rfl (by kernel_rfl) (by kernel_rfl) (by kernel_rfl) (by kernel_rfl) (fun _ _ _ h => h) (Or.inl ⟨by rfl, ?hy20_21k2⟩) g6 ?rest20_21k2
              case hy20_21k2 => intro w hSw; (try dsimp only at hSw); go_simp; (try with_reducible rfl)
              case rest20_21k2 =>
              try simp only [List.getElem_toArray, List.getElem_cons_succ, List.getElem_cons_zero, Act.put, List.setIfInBounds_toArray, List.set_cons_zero, List.set_cons_succ]
              refine wpAnyG_take' (i := 21) (v := ?v21_22k2) rfl (by kernel_rfl) (by kernel_rfl) (by kernel_rfl) (by kernel_rfl) (fun _ _ _ h => h) (Or.inl ⟨by rfl, ?hy21_22k2⟩) g6 ?rest21_22k2
              case hy21_22k2 => intro w hSw; (try dsimp only at hSw); go_simp; (try with_reducible rfl)
              case rest21_22k2 =>
              try simp only [List.getElem_toArray, List.getElem_cons_succ, List.getElem_cons_zero, Act.put, List.setIfInBounds_toArray, List.set_cons_zero, List.set_cons_succ]
              refine wpAnyG_take' (i := 22) (v := .agg #[.int .i64 0, .int .i64 1, .int .i64 6, .string ⟨#[]⟩, .int .i64 5, .int .i64 0, .slice none 0 0]) rfl (by kernel_rfl) (by kernel_rfl) (by kernel_rfl) (by kernel_rfl) (fun _ _ _ h => h) (Or.inl ⟨by rfl, ?hy22_23k2⟩) g6 ?rest22_23k2
              case hy22_23k2 => intro w hSw; exact exec_build 26 #[(1, .const (.int .i64 1)), (2, .tmp 70)] rfl _ (by rw [Array.toList_map]; exact builtE1)
              case rest22_23k2 =>
              try simp only [List.getElem_toArray, List.getElem_cons_succ, List.getElem_cons_zero, Act.put, List.setIfInBounds_toArray, List.set_cons_zero, List.set_cons_succ]
              refine wpAnyG_take' (i := 23) (v := ?v23_24k2) rfl (by kernel_rfl) (by kernel_rfl) (by kernel_rfl) (by kernel_rfl) (fun _ _ _ h => h) (Or.inl ⟨by rfl, ?hy23_24k2⟩) g6 ?rest23_24k2
              case hy23_24k2 => intro w hSw; (try dsimp only at hSw); go_simp; (try with_reducible rfl)
              case rest23_24k2 =>
              try simp only [List.getElem_toArray, List.getElem_cons_succ, List.getElem_cons_zero, Act.put, List.setIfInBounds_toArray, List.set_cons_zero, List.set_cons_succ]
              refine wpAnyG_take' (i := 24) (v := ?v24_25k2) rfl (by kernel_rfl) (by kernel_rfl) (by kernel_rfl) (by kernel_rfl) (fun _ _ _ h => h) (Or.inl ⟨by rfl, ?hy24_25k2⟩) g6 ?rest24_25k2
              case hy24_25k2 => intro w hSw; (try dsimp only at hSw); go_simp; (try with_reducible rfl)
              case rest24_25k2 =>
              try simp only [List.getElem_toArray, List.getElem_cons_succ, List.getElem_cons_zero, Act.put, List.setIfInBounds_toArray, List.set_cons_zero, List.set_cons_succ]
              refine wpAnyG_take' (i := 25) (v := ?v25_26k2) rfl (by kernel_rfl) (by kernel_rfl) (by kernel_rfl) (by kernel_rfl) (fun _ _ _ h => h) (Or.inl ⟨by rfl, ?hy25_26k2⟩) g6 ?rest25_26k2
              case hy25_26k2 => intro w hSw; (try dsimp only at hSw); go_simp; (try with_reducible rfl)
              case rest25_26k2 =>
              try simp only [List.getElem_toArray, List.getElem_cons_succ, List.getElem_cons_zero, Act.put, List.setIfInBounds_toArray, List.set_cons_zero, List.set_cons_succ]
              refine wpAnyG_take' (i := 26) (v := ?v26_27k2) rfl (by kernel_rfl) (by kernel_rfl) (by kernel_rfl) (by kernel_rfl) (fun _ _ _ h => h) (Or.inl ⟨by rfl, ?hy26_27k2⟩) g6 ?rest26_27k2
              case hy26_27k2 => intro w hSw; (try dsimp only at hSw); go_simp; (try with_reducible rfl)
              case rest26_27k2 =>
              try simp only [List.getElem_toArray, List.getElem_cons_succ, List.getElem_cons_zero, Act.put, List.setIfInBounds_toArray, List.set_cons_zero, List.set_cons_succ]
              refine wpAnyG_take' (i := 28) (v := ?v28_28k2) rfl (by kernel_rfl) (by kernel_rfl) (by kernel_rfl) (by kernel_rfl) (fun _ _ _ h => h) (Or.inl ⟨by rfl, ?hy28_28k2⟩) g6 ?rest28_28k2
              case hy28_28k2 => intro w hSw; (try dsimp only at hSw); go_simp; (try with_reducible rfl)
              case rest28_28k2 =>
              try simp only [List.getElem_toArray, List.getElem_cons_succ, List.getElem_cons_zero, Act.put, List.setIfInBounds_toArray, List.set_cons_zero, List.set_cons_succ]
              refine wpAnyG_one (i := 27) (by kernel_rfl) rfl (fun K hK => ?_)
              refine step_wanted (by first | rfl | kernel_rfl) ?_
              refine opwp_buildE2 (c0_0 := (.int .i64 0)) (c0_1 := (.int .i64 1)) (c0_2 := (.int .i64 6)) (c0_3 := (.string ⟨#[]⟩)) (c0_4 := (.int .i64 5)) (c0_5 := (.int .i64 0)) (c0_6 := (.slice none 0 0)) (c1_0 := (.int .i64 0)) (c1_1 := (.int .i64 1)) (c1_2 := (.int .i64 z)) (c1_3 := (.string ⟨#[]⟩)) (c1_4 := (.int .i64 1)) (c1_5 := (.int .i64 0)) (c1_6 := (.slice none 0 0)) (l := (enCs [(⟨0, 1, shipM⟩, nilV), (⟨0, 1, ⟨z, sZ, 1, 0, []⟩⟩, nilV)]).toArray) _ _ rfl (by kernel_rfl) (by kernel_rfl) (by kernel_rfl) ?_
              refine hK.out _ _ (fun _ => ?hS29k2) ?rest29k2
              case hS29k2 => exact g7
              clear K hK
              try simp only [List.getElem_toArray, List.getElem_cons_succ, List.getElem_cons_zero, Act.put, List.setIfInBounds_toArray, List.set_cons_zero, List.set_cons_succ]
              refine wpAnyG_one (i := 29) (by kernel_rfl) rfl (fun K hK => ?_)
              go_simp
              refine Calls.mono HC3.out ?_
              rintro r9 w8 ⟨rfl, h8⟩
              have h8 := h8.drop
              have g8 : w8.cell? ⟨b4, 14, none⟩ = some (.int .i64 0) ∧ w8.cell? ⟨b4, 15, none⟩ = some (.int .i64 1) ∧ w8.cell? ⟨b4, 16, none⟩ = some (.int .i64 z) ∧ w8.cell? ⟨b4, 17, none⟩ = some (.string ⟨#[]⟩) ∧ w8.cell? ⟨b4, 18, none⟩ = some (.int .i64 1) ∧ w8.cell? ⟨b4, 19, none⟩ = some (.int .i64 0) ∧ w8.cell? ⟨b4, 20, none⟩ = some (.slice none 0 0) ∧ w8.cell? ⟨b4, 0, none⟩ = some (.int .i64 z) ∧ w8.cell? ⟨b4, 1, none⟩ = some (.int .i64 1) ∧ w8.cell? ⟨b4, 2, none⟩ = some (.int .i64 6) ∧ w8.cell? ⟨b4, 3, none⟩ = some (.string ⟨#[]⟩) ∧ w8.cell? ⟨b4, 4, none⟩ = some (.int .i64 5) ∧ w8.cell? ⟨b4, 5, none⟩ = some (.int .i64 0) ∧ w8.cell? ⟨b4, 6, none⟩ = some (.slice none 0 0) ∧ w8.cell? ⟨b1, 0, none⟩ = some (.int .i64 6) ∧ w8.cell? ⟨b1, 1, none⟩ = some (.string ⟨#[]⟩) ∧ w8.cell? ⟨b1, 2, none⟩ = some (.int .i64 5) ∧ w8.cell? ⟨b1, 3, none⟩ = some (.int .i64 0) ∧ w8.cell? ⟨b1, 4, none⟩ = some (.slice none 0 0) := ⟨h8.cell rfl, h8.cell rfl, h8.cell rfl, h8.cell rfl, h8.cell rfl, h8.cell rfl, h8.cell rfl, h8.cell rfl, h8.cell rfl, h8.cell rfl, h8.cell rfl, h8.cell rfl, h8.cell rfl, h8.cell rfl, h8.sw3.cell rfl, h8.sw3.cell rfl, h8.sw3.cell rfl, h8.sw3.cell rfl, h8.sw3.cell rfl⟩
              have H8 := Lib.hid h8
              clear g6 g7 HC3 h8
              (try dsimp only); repeat' (first | go_values | go_skip | go_guarded | go_step | go_upon | go_back)
              refine hK.out _ _ (fun _ => ?hS30k2) ?rest30k2
              case hS30k2 => exact g8
              clear K hK
              try simp only [List.getElem_toArray, List.getElem_cons_succ, List.getElem_cons_zero, Act.put, List.setIfInBounds_toArray, List.set_cons_zero, List.set_cons_succ]
              refine wpAnyG_take' (i := 30) (v := ?v30_31k2) rfl (by kernel_rfl) (by kernel_rfl) (by kernel_rfl) (by kernel_rfl) (fun _ _ _ h => h) (Or.inl ⟨by rfl, ?hy30_31k2⟩) g8 ?rest30_31k2
              case hy30_31k2 => intro w hSw; (try dsimp only at hSw); go_simp; (try with_reducible rfl)
              case rest30_31k2 =>
              try simp only [List.getElem_toArray, List.getElem_cons_succ, List.getElem_cons_zero, Act.put, List.setIfInBounds_toArray, List.set_cons_zero, List.set_cons_succ]
              refine wpAnyG_take' (i := 31) (v := ?v31_32k2) rfl (by kernel_rfl) (by kernel_rfl) (by kernel_rfl) (by kernel_rfl) (fun _ _ _ h => h) (Or.inl ⟨by rfl, ?hy31_32k2⟩) g8 ?rest31_32k2
              case hy31_32k2 => intro w hSw; (try dsimp only at hSw); go_simp; (try with_reducible rfl)
              case rest31_32k2 =>
              try simp only [List.getElem_toArray, List.getElem_cons_succ, List.getElem_cons_zero, Act.put, List.setIfInBounds_toArray, List.set_cons_zero, List.set_cons_succ]
              refine wpAnyG_done (by kernel_rfl) ?_ _
              try simp only [List.getElem_toArray, List.getElem_cons_succ, List.getElem_cons_zero, Act.put, List.setIfInBounds_toArray, List.set_cons_zero, List.set_cons_succ]
              clear g8
              (try dsimp only); repeat' (first | go_values | go_skip | go_guarded | go_step | go_upon | go_back)
              go_roundw
              case rel => exact ⟨3, by omega, rfl, H8.out⟩
              case measure => simp [intOf]
          · as_aux_lemma =>
              clear hk hk4
              have hwk : IntKind.i64.wrap 4 = 4 := by kernel_rfl
              have HS := Lib.hid hs
              have HC1 := Lib.hid (writes04_s ⟨0, 1, ⟨5, sZ, z, 0, []⟩⟩ ⟨z, 1, shipM⟩ nilV nilV hs.drew (lnK _) (lnK _) (HKA.out.below hs.drew.low))
              unfold enV shipM sZ nilV at HC1
              dsimp only at HC1
              have g0 : wr.cell? ⟨b4, 21, none⟩ = some (.int .i64 0) ∧ wr.cell? ⟨b4, 22, none⟩ = some (.int .i64 1) ∧ wr.cell? ⟨b4, 23, none⟩ = some (.int .i64 5) ∧ wr.cell? ⟨b4, 24, none⟩ = some (.string ⟨#[]⟩) ∧ wr.cell? ⟨b4, 25, none⟩ = some (.int .i64 z) ∧ wr.cell? ⟨b4, 26, none⟩ = some (.int .i64 0) ∧ wr.cell? ⟨b4, 27, none⟩ = some (.slice none 0 0) ∧ wr.cell? ⟨b4, 0, none⟩ = some (.int .i64 z) ∧ wr.cell? ⟨b4, 1, none⟩ = some (.int .i64 1) ∧ wr.cell? ⟨b4, 2, none⟩ = some (.int .i64 6) ∧ wr.cell? ⟨b4, 3, none⟩ = some (.string ⟨#[]⟩) ∧ wr.cell? ⟨b4, 4, none⟩ = some (.int .i64 5) ∧ wr.cell? ⟨b4, 5, none⟩ = some (.int .i64 0) ∧ wr.cell? ⟨b4, 6, none⟩ = some (.slice none 0 0) ∧ wr.cell? ⟨b1, 0, none⟩ = some (.int .i64 6) ∧ wr.cell? ⟨b1, 1, none⟩ = some (.string ⟨#[]⟩) ∧ wr.cell? ⟨b1, 2, none⟩ = some (.int .i64 5) ∧ wr.cell? ⟨b1, 3, none⟩ = some (.int .i64 0) ∧ wr.cell? ⟨b1, 4, none⟩ = some (.slice none 0 0) := ⟨hs.cell rfl, hs.cell rfl, hs.cell rfl, hs.cell rfl, hs.cell rfl, hs.cell rfl, hs.cell rfl, hs.cell rfl, hs.cell rfl, hs.cell rfl, hs.cell rfl, hs.cell rfl, hs.cell rfl, hs.cell rfl, hs.sw3.cell rfl, hs.sw3.cell rfl, hs.sw3.cell rfl, hs.sw3.cell rfl, hs.sw3.cell rfl⟩
              clear hs
              (try dsimp only); repeat' (first | go_values | go_skip | go_guarded | go_step | go_upon | go_back)
              refine wp_region_G (fun w' => w'.cell? ⟨b4, 21, none⟩ = some (.int .i64 0) ∧ w'.cell? ⟨b4, 22, none⟩ = some (.int .i64 1) ∧ w'.cell? ⟨b4, 23, none⟩ = some (.int .i64 5) ∧ w'.cell? ⟨b4, 24, none⟩ = some (.string ⟨#[]⟩) ∧ w'.cell? ⟨b4, 25, none⟩ = some (.int .i64 z) ∧ w'.cell? ⟨b4, 26, none⟩ = some (.int .i64 0) ∧ w'.cell? ⟨b4, 27, none⟩ = some (.slice none 0 0) ∧ w'.cell? ⟨b4, 0, none⟩ = some (.int .i64 z) ∧ w'.cell? ⟨b4, 1, none⟩ = some (.int .i64 1) ∧ w'.cell? ⟨b4, 2, none⟩ = some (.int .i64 6) ∧ w'.cell? ⟨b4, 3, none⟩ = some (.string ⟨#[]⟩) ∧ w'.cell? ⟨b4, 4, none⟩ = some (.int .i64 5) ∧ w'.cell? ⟨b4, 5, none⟩ = some (.int .i64 0) ∧ w'.cell? ⟨b4, 6, none⟩ = some (.slice none 0 0) ∧ w'.cell? ⟨b1, 0, none⟩ = some (.int .i64 6) ∧ w'.cell? ⟨b1, 1, none⟩ = some (.string ⟨#[]⟩) ∧ w'.cell? ⟨b1, 2, none⟩ = some (.int .i64 5) ∧ w'.cell? ⟨b1, 3, none⟩ = some (.int .i64 0) ∧ w'.cell? ⟨b1, 4, none⟩ = some (.slice none 0 0)) [] (by kernel_rfl) g0 (fun hS => ?_)
              try dsimp only at hS
              refine wpAnyG_take' (i := 0) (v := ?v0_1k3) rfl (by kernel_rfl) (by kernel_rfl) (by kernel_rfl) (by kernel_rfl) (fun _ _ _ h => h) (Or.inl ⟨by rfl, ?hy0_1k3⟩) g0 ?rest0_1k3
              case hy0_1k3 => intro w hSw; (try dsimp only at hSw); go_simp; (try with_reducible rfl)
              case rest0_1k3 =>
              try simp only [List.getElem_toArray, List.getElem_cons_succ, List.getElem_cons_zero, Act.put, List.setIfInBounds_toArray, List.set_cons_zero, List.set_cons_succ]
              refine wpAnyG_take' (i := 1) (v := ?v1_2k3) rfl (by kernel_rfl) (by kernel_rfl) (by kernel_rfl) (by kernel_rfl) (fun _ _ _ h => h) (Or.inl ⟨by rfl, ?hy1_2k3⟩) g0 ?rest1_2k3
              case hy1_2k3 => intro w hSw; (try dsimp only at hSw); go_simp; (try with_reducible rfl)
              case rest1_2k3 =>
              try simp only [List.getElem_toArray, List.getElem_cons_succ, List.getElem_cons_zero, Act.put, List.setIfInBounds_toArray, List.set_cons_zero, List.set_cons_succ]
              refine wpAnyG_take' (i := 2) (v := ?v2_3k3) rfl (by kernel_rfl) (by kernel_rfl) (by kernel_rfl) (by kernel_rfl) (fun _ _ _ h => h) (Or.inl ⟨by rfl, ?hy2_3k3⟩) g0 ?rest2_3k3
              case hy2_3k3 => intro w hSw; (try dsimp only at hSw); go_simp; (try with_reducible rfl)
              case rest2_3k3 =>
              try simp only [List.getElem_toArray, List.getElem_cons_succ, List.getElem_cons_zero, Act.put, List.setIfInBounds_toArray, List.set_cons_zero, List.set_cons_succ]
              refine wpAnyG_take' (i := 3) (v := ?v3_4k3) rfl (by kernel_rfl) (by kernel_rfl) (by kernel_rfl) (by kernel_rfl) (fun _ _ _ h => h) (Or.inl ⟨by rfl, ?hy3_4k3⟩) g0 ?rest3_4k3
              case hy3_4k3 => intro w hSw; (try dsimp only at hSw); go_simp; (try with_reducible rfl)
              case rest3_4k3 =>
              try simp only [List.getElem_toArray, List.getElem_cons_succ, List.getElem_cons_zero, Act.put, List.setIfInBounds_toArray, List.set_cons_zero, List.set_cons_succ]
              refine wpAnyG_take' (i := 4) (v := ?v4_5k3) rfl (by kernel_rfl) (by kernel_rfl) (by kernel_rfl) (by kernel_rfl) (fun _ _ _ h => h) (Or.inl ⟨by rfl, ?hy4_5k3⟩) g0 ?rest4_5k3
              case hy4_5k3 => intro w hSw; (try dsimp only at hSw); go_simp; (try with_reducible rfl)
              case rest4_5k3 =>
              try simp only [List.getElem_toArray, List.getElem_cons_succ, List.getElem_cons_zero, Act.put, List.setIfInBounds_toArray, List.set_cons_zero, List.set_cons_succ]
              refine wpAnyG_take' (i := 5) (v := ?v5_6k3) rfl (by kernel_rfl) (by kernel_rfl) (by kernel_rfl) (by kernel_rfl) (fun _ _ _ h => h) (Or.inl ⟨by rfl, ?hy5_6k3⟩) g0 ?rest5_6k3
              case hy5_6k3 => intro w hSw; (try dsimp only at hSw); go_simp; (try with_reducible rfl)
              case rest5_6k3 =>
              try simp only [List.getElem_toArray, List.getElem_cons_succ, List.getElem_cons_zero, Act.put, List.setIfInBounds_toArray, List.set_cons_zero, List.set_cons_succ]
              refine wpAnyG_take' (i := 6) (v := ?v6_7k3) rfl (by kernel_rfl) (by kernel_rfl) (by kernel_rfl) (by kernel_rfl) (fun _ _ _ h => h) (Or.inl ⟨by rfl, ?hy6_7k3⟩) g0 ?rest6_7k3
              case hy6_7k3 => intro w hSw; (try dsimp only at hSw); go_simp; (try with_reducible rfl)
              case rest6_7k3 =>
              try simp only [List.getElem_toArray, List.getElem_cons_succ, List.getElem_cons_zero, Act.put, List.setIfInBounds_toArray, List.set_cons_zero, List.set_cons_succ]
              refine wpAnyG_one (i := 7) (by kernel_rfl) rfl (fun K hK => ?_)
              go_simp
              refine Calls.mono HC1.out ?_
              rintro r9 w5 ⟨rfl, h5⟩
              have g5 : w5.cell? ⟨b4, 21, none⟩ = some (.int .i64 0) ∧ w5.cell? ⟨b4, 22, none⟩ = some (.int .i64 1) ∧ w5.cell? ⟨b4, 23, none⟩ = some (.int .i64 5) ∧ w5.cell? ⟨b4, 24, none⟩ = some (.string ⟨#[]⟩) ∧ w5.cell? ⟨b4, 25, none⟩ = some (.int .i64 z) ∧ w5.cell? ⟨b4, 26, none⟩ = some (.int .i64 0) ∧ w5.cell? ⟨b4, 27, none⟩ = some (.slice none 0 0) ∧ w5.cell? ⟨b4, 0, none⟩ = some (.int .i64 z) ∧ w5.cell? ⟨b4, 1, none⟩ = some (.int .i64 1) ∧ w5.cell? ⟨b4, 2, none⟩ = some (.int .i64 6) ∧ w5.cell? ⟨b4, 3, none⟩ = some (.string ⟨#[]⟩) ∧ w5.cell? ⟨b4, 4, none⟩ = some (.int .i64 5) ∧ w5.cell? ⟨b4, 5, none⟩ = some (.int .i64 0) ∧ w5.cell? ⟨b4, 6, none⟩ = some (.slice none 0 0) ∧ w5.cell? ⟨b1, 0, none⟩ = some (.int .i64 6) ∧ w5.cell? ⟨b1, 1, none⟩ = some (.string ⟨#[]⟩) ∧ w5.cell? ⟨b1, 2, none⟩ = some (.int .i64 5) ∧ w5.cell? ⟨b1, 3, none⟩ = some (.int .i64 0) ∧ w5.cell? ⟨b1, 4, none⟩ = some (.slice none 0 0) := ⟨h5.cell rfl, h5.cell rfl, h5.cell rfl, h5.cell rfl, h5.cell rfl, h5.cell rfl, h5.cell rfl, h5.cell rfl, h5.cell rfl, h5.cell rfl, h5.cell rfl, h5.cell rfl, h5.cell rfl, h5.cell rfl, h5.sw3.cell rfl, h5.sw3.cell rfl, h5.sw3.cell rfl, h5.sw3.cell rfl, h5.sw3.cell rfl⟩
              have HC2 := Lib.hid (rows04_s _ _ _ _ h5 (lM_ens h5) (ens_drop (lM_ens h5) 3 (by omega) : EnS _ (.slice (some ⟨b4, 21, none⟩) 1 1) _) (HKA.out.below h5.low))
              clear g0 HC1 HS hS h5
              (try dsimp only); repeat' (first | go_values | go_skip | go_guarded | go_step | go_upon | go_back)
              refine hK.out _ _ (fun _ => ?hS8k3) ?rest8k3
              case hS8k3 => exact g5
              clear K hK
              try simp only [List.getElem_toArray, List.getElem_cons_succ, List.getElem_cons_zero, Act.put, List.setIfInBounds_toArray, List.set_cons_zero, List.set_cons_succ]
              refine wpAnyG_take' (i := 8) (v := ?v8_9k3) rfl (by kernel_rfl) (by kernel_rfl) (by kernel_rfl) (by kernel_rfl) (fun _ _ _ h => h) (Or.inl ⟨by rfl, ?hy8_9k3⟩) g5 ?rest8_9k3
              case hy8_9k3 => intro w hSw; (try dsimp only at hSw); go_simp; (try with_reducible rfl)
              case rest8_9k3 =>
              try simp only [List.getElem_toArray, List.getElem_cons_succ, List.getElem_cons_zero, Act.put, List.setIfInBounds_toArray, List.set_cons_zero, List.set_cons_succ]
              refine wpAnyG_take' (i := 9) (v := ?v9_10k3) rfl (by kernel_rfl) (by kernel_rfl) (by kernel_rfl) (by kernel_rfl) (fun _ _ _ h => h) (Or.inl ⟨by rfl, ?hy9_10k3⟩) g5 ?rest9_10k3
              case hy9_10k3 => intro w hSw; (try dsimp only at hSw); go_simp; (try with_reducible rfl)
              case rest9_10k3 =>
              try simp only [List.getElem_toArray, List.getElem_cons_succ, List.getElem_cons_zero, Act.put, List.setIfInBounds_toArray, List.set_cons_zero, List.set_cons_succ]
              refine wpAnyG_take' (i := 10) (v := ?v10_11k3) rfl (by kernel_rfl) (by kernel_rfl) (by kernel_rfl) (by kernel_rfl) (fun _ _ _ h => h) (Or.inl ⟨by rfl, ?hy10_11k3⟩) g5 ?rest10_11k3
              case hy10_11k3 => intro w hSw; (try dsimp only at hSw); go_simp; (try with_reducible rfl)
              case rest10_11k3 =>
              try simp only [List.getElem_toArray, List.getElem_cons_succ, List.getElem_cons_zero, Act.put, List.setIfInBounds_toArray, List.set_cons_zero, List.set_cons_succ]
              refine wpAnyG_take' (i := 11) (v := ?v11_12k3) rfl (by kernel_rfl) (by kernel_rfl) (by kernel_rfl) (by kernel_rfl) (fun _ _ _ h => h) (Or.inl ⟨by rfl, ?hy11_12k3⟩) g5 ?rest11_12k3
              case hy11_12k3 => intro w hSw; (try dsimp only at hSw); go_simp; (try with_reducible rfl)
              case rest11_12k3 =>
              try simp only [List.getElem_toArray, List.getElem_cons_succ, List.getElem_cons_zero, Act.put, List.setIfInBounds_toArray, List.set_cons_zero, List.set_cons_succ]
              refine wpAnyG_take' (i := 12) (v := ?v12_13k3) rfl (by kernel_rfl) (by kernel_rfl) (by kernel_rfl) (by kernel_rfl) (fun _ _ _ h => h) (Or.inl ⟨by rfl, ?hy12_13k3⟩) g5 ?rest12_13k3
              case hy12_13k3 => intro w hSw; (try dsimp only at hSw); go_simp; (try with_reducible rfl)
              case rest12_13k3 =>
              try simp only [List.getElem_toArray, List.getElem_cons_succ, List.getElem_cons_zero, Act.put, List.setIfInBounds_toArray, List.set_cons_zero, List.set_cons_succ]
              refine wpAnyG_take' (i := 13) (v := ?v13_14k3) rfl (by kernel_rfl) (by kernel_rfl) (by kernel_rfl) (by kernel_rfl) (fun _ _ _ h => h) (Or.inl ⟨by rfl, ?hy13_14k3⟩) g5 ?rest13_14k3
              case hy13_14k3 => intro w hSw; (try dsimp only at hSw); go_simp; (try with_reducible rfl)
              case rest13_14k3 =>
              try simp only [List.getElem_toArray, List.getElem_cons_succ, List.getElem_cons_zero, Act.put, List.setIfInBounds_toArray, List.set_cons_zero, List.set_cons_succ]
              refine wpAnyG_take' (i := 14) (v := ?v14_15k3) rfl (by kernel_rfl) (by kernel_rfl) (by kernel_rfl) (by kernel_rfl) (fun _ _ _ h => h) (Or.inl ⟨by rfl, ?hy14_15k3⟩) g5 ?rest14_15k3
              case hy14_15k3 => intro w hSw; (try dsimp only at hSw); go_simp; (try with_reducible rfl)
              case rest14_15k3 =>
              try simp only [List.getElem_toArray, List.getElem_cons_succ, List.getElem_cons_zero, Act.put, List.setIfInBounds_toArray, List.set_cons_zero, List.set_cons_succ]
              refine wpAnyG_take' (i := 15) (v := ?v15_16k3) rfl (by kernel_rfl) (by kernel_rfl) (by kernel_rfl) (by kernel_rfl) (fun _ _ _ h => h) (Or.inl ⟨by rfl, ?hy15_16k3⟩) g5 ?rest15_16k3
              case hy15_16k3 => intro w hSw; (try dsimp only at hSw); go_simp; (try with_reducible rfl)
              case rest15_16k3 =>
              try simp only [List.getElem_toArray, List.getElem_cons_succ, List.getElem_cons_zero, Act.put, List.setIfInBounds_toArray, List.set_cons_zero, List.set_cons_succ]
              refine wpAnyG_take' (i := 16) (v := ?v16_17k3) rfl (by kernel_rfl) (by kernel_rfl) (by kernel_rfl) (by kernel_rfl) (fun _ _ _ h => h) (Or.inl ⟨by rfl, ?hy16_17k3⟩) g5 ?rest16_17k3
              case hy16_17k3 => intro w hSw; (try dsimp only at hSw); go_simp; (try with_reducible rfl)
              case rest16_17k3 =>
              try simp only [List.getElem_toArray, List.getElem_cons_succ, List.getElem_cons_zero, Act.put, List.setIfInBounds_toArray, List.set_cons_zero, List.set_cons_succ]
              refine wpAnyG_one (i := 17) (by kernel_rfl) rfl (fun K hK => ?_)
              go_simp
              refine Calls.mono HC2.out ?_
              rintro r9 w6 ⟨rfl, h6⟩
              have g6 : w6.cell? ⟨b4, 21, none⟩ = some (.int .i64 0) ∧ w6.cell? ⟨b4, 22, none⟩ = some (.int .i64 1) ∧ w6.cell? ⟨b4, 23, none⟩ = some (.int .i64 5) ∧ w6.cell? ⟨b4, 24, none⟩ = some (.string ⟨#[]⟩) ∧ w6.cell? ⟨b4, 25, none⟩ = some (.int .i64 z) ∧ w6.cell? ⟨b4, 26, none⟩ = some (.int .i64 0) ∧ w6.cell? ⟨b4, 27, none⟩ = some (.slice none 0 0) ∧ w6.cell? ⟨b4, 0, none⟩ = some (.int .i64 z) ∧ w6.cell? ⟨b4, 1, none⟩ = some (.int .i64 1) ∧ w6.cell? ⟨b4, 2, none⟩ = some (.int .i64 6) ∧ w6.cell? ⟨b4, 3, none⟩ = some (.string ⟨#[]⟩) ∧ w6.cell? ⟨b4, 4, none⟩ = some (.int .i64 5) ∧ w6.cell? ⟨b4, 5, none⟩ = some (.int .i64 0) ∧ w6.cell? ⟨b4, 6, none⟩ = some (.slice none 0 0) ∧ w6.cell? ⟨b1, 0, none⟩ = some (.int .i64 6) ∧ w6.cell? ⟨b1, 1, none⟩ = some (.string ⟨#[]⟩) ∧ w6.cell? ⟨b1, 2, none⟩ = some (.int .i64 5) ∧ w6.cell? ⟨b1, 3, none⟩ = some (.int .i64 0) ∧ w6.cell? ⟨b1, 4, none⟩ = some (.slice none 0 0) := ⟨h6.cell rfl, h6.cell rfl, h6.cell rfl, h6.cell rfl, h6.cell rfl, h6.cell rfl, h6.cell rfl, h6.cell rfl, h6.cell rfl, h6.cell rfl, h6.cell rfl, h6.cell rfl, h6.cell rfl, h6.cell rfl, h6.sw3.cell rfl, h6.sw3.cell rfl, h6.sw3.cell rfl, h6.sw3.cell rfl, h6.sw3.cell rfl⟩
              have h7 := h6.alloc (.cells (enCs [(⟨0, 1, shipM⟩, nilV), (⟨0, 1, ⟨5, sZ, z, 0, []⟩⟩, nilV)]).toArray 26)
              have HC3 := Lib.hid (rows04_s (.slice (some ⟨w6.heap.size, 0, none⟩) 2 2) (.slice (some ⟨b4, 0, none⟩) 4 4) _ _ h7 (h7.clEn (fun i hi => by have h2 : i < 2 := hi; rcases (show i = 0 ∨ i = 1 by omega) with rfl | rfl <;> exact lnK _) rfl (by omega)) (lM_ens h7.sw2) (HKA.out.below h7.low))
              have g7 : (w6.alloc (.cells (enCs [(⟨0, 1, shipM⟩, nilV), (⟨0, 1, ⟨5, sZ, z, 0, []⟩⟩, nilV)]).toArray 26)).cell? ⟨b4, 21, none⟩ = some (.int .i64 0) ∧ (w6.alloc (.cells (enCs [(⟨0, 1, shipM⟩, nilV), (⟨0, 1, ⟨5, sZ, z, 0, []⟩⟩, nilV)]).toArray 26)).cell? ⟨b4, 22, none⟩ = some (.int .i64 1) ∧ (w6.alloc (.cells (enCs [(⟨0, 1, shipM⟩, nilV), (⟨0, 1, ⟨5, sZ, z, 0, []⟩⟩, nilV)]).toArray 26)).cell? ⟨b4, 23, none⟩ = some (.int .i64 5) ∧ (w6.alloc (.cells (enCs [(⟨0, 1, shipM⟩, nilV), (⟨0, 1, ⟨5, sZ, z, 0, []⟩⟩, nilV)]).toArray 26)).cell? ⟨b4, 24, none⟩ = some (.string ⟨#[]⟩) ∧ (w6.alloc (.cells (enCs [(⟨0, 1, shipM⟩, nilV), (⟨0, 1, ⟨5, sZ, z, 0, []⟩⟩, nilV)]).toArray 26)).cell? ⟨b4, 25, none⟩ = some (.int .i64 z) ∧ (w6.alloc (.cells (enCs [(⟨0, 1, shipM⟩, nilV), (⟨0, 1, ⟨5, sZ, z, 0, []⟩⟩, nilV)]).toArray 26)).cell? ⟨b4, 26, none⟩ = some (.int .i64 0) ∧ (w6.alloc (.cells (enCs [(⟨0, 1, shipM⟩, nilV), (⟨0, 1, ⟨5, sZ, z, 0, []⟩⟩, nilV)]).toArray 26)).cell? ⟨b4, 27, none⟩ = some (.slice none 0 0) ∧ (w6.alloc (.cells (enCs [(⟨0, 1, shipM⟩, nilV), (⟨0, 1, ⟨5, sZ, z, 0, []⟩⟩, nilV)]).toArray 26)).cell? ⟨b4, 0, none⟩ = some (.int .i64 z) ∧ (w6.alloc (.cells (enCs [(⟨0, 1, shipM⟩, nilV), (⟨0, 1, ⟨5, sZ, z, 0, []⟩⟩, nilV)]).toArray 26)).cell? ⟨b4, 1, none⟩ = some (.int .i64 1) ∧ (w6.alloc (.cells (enCs [(⟨0, 1, shipM⟩, nilV), (⟨0, 1, ⟨5, sZ, z, 0, []⟩⟩, nilV)]).toArray 26)).cell? ⟨b4, 2, none⟩ = some (.int .i64 6) ∧ (w6.alloc (.cells (enCs [(⟨0, 1, shipM⟩, nilV), (⟨0, 1, ⟨5, sZ, z, 0, []⟩⟩, nilV)]).toArray 26)).cell? ⟨b4, 3, none⟩ = some (.string ⟨#[]⟩) ∧ (w6.alloc (.cells (enCs [(⟨0, 1, shipM⟩, nilV), (⟨0, 1, ⟨5, sZ, z, 0, []⟩⟩, nilV)]).toArray 26)).cell? ⟨b4, 4, none⟩ = some (.int .i64 5) ∧ (w6.alloc (.cells (enCs [(⟨0, 1, shipM⟩, nilV), (⟨0, 1, ⟨5, sZ, z, 0, []⟩⟩, nilV)]).toArray 26)).cell? ⟨b4, 5, none⟩ = some (.int .i64 0) ∧ (w6.alloc (.cells (enCs [(⟨0, 1, shipM⟩, nilV), (⟨0, 1, ⟨5, sZ, z, 0, []⟩⟩, nilV)]).toArray 26)).cell? ⟨b4, 6, none⟩ = some (.slice none 0 0) ∧ (w6.alloc (.cells (enCs [(⟨0, 1, shipM⟩, nilV), (⟨0, 1, ⟨5, sZ, z, 0, []⟩⟩, nilV)]).toArray 26)).cell? ⟨b1, 0, none⟩ = some (.int .i64 6) ∧ (w6.alloc (.cells (enCs [(⟨0, 1, shipM⟩, nilV), (⟨0, 1, ⟨5, sZ, z, 0, []⟩⟩, nilV)]).toArray 26)).cell? ⟨b1, 1, none⟩ = some (.string ⟨#[]⟩) ∧ (w6.alloc (.cells (enCs [(⟨0, 1, shipM⟩, nilV), (⟨0, 1, ⟨5, sZ, z, 0, []⟩⟩, nilV)]).toArray 26)).cell? ⟨b1, 2, none⟩ = some (.int .i64 5) ∧ (w6.alloc (.cells (enCs [(⟨0, 1, shipM⟩, nilV), (⟨0, 1, ⟨5, sZ, z, 0, []⟩⟩, nilV)]).toArray 26)).cell? ⟨b1, 3, none⟩ = some (.int .i64 0) ∧ (w6.alloc (.cells (enCs [(⟨0, 1, shipM⟩, nilV), (⟨0, 1, ⟨5, sZ, z, 0, []⟩⟩, nilV)]).toArray 26)).cell? ⟨b1, 4, none⟩ = some (.slice none 0 0) := ⟨h7.sw2.cell rfl, h7.sw2.cell rfl, h7.sw2.cell rfl, h7.sw2.cell rfl, h7.sw2.cell rfl, h7.sw2.cell rfl, h7.sw2.cell rfl, h7.sw2.cell rfl, h7.sw2.cell rfl, h7.sw2.cell rfl, h7.sw2.cell rfl, h7.sw2.cell rfl, h7.sw2.cell rfl, h7.sw2.cell rfl, h7.sw4.cell rfl, h7.sw4.cell rfl, h7.sw4.cell rfl, h7.sw4.cell rfl, h7.sw4.cell rfl⟩
              clear g5 HC2 h6 h7
              (try dsimp only); repeat' (first | go_values | go_skip | go_guarded | go_step | go_upon | go_back)
              refine hK.out _ _ (fun _ => ?hS18k3) ?rest18k3
              case hS18k3 => exact g6
              clear K hK
              try simp only [List.getElem_toArray, List.getElem_cons_succ, List.getElem_cons_zero, Act.put, List.setIfInBounds_toArray, List.set_cons_zero, List.set_cons_succ]
              refine wpAnyG_take' (i := 18) (v := ?v18_19k3) rfl (by kernel_rfl) (by kernel_rfl) (by kernel_rfl) (by kernel_rfl) (fun _ _ _ h => h) (Or.inl ⟨by rfl, ?hy18_19k3⟩) g6 ?rest18_19k3
              case hy18_19k3 => intro w hSw; (try dsimp only at hSw); go_simp; (try with_reducible rfl)
              case rest18_19k3 =>
              try simp only [List.getElem_toArray, List.getElem_cons_succ, List.getElem_cons_zero, Act.put, List.setIfInBounds_toArray, List.set_cons_zero, List.set_cons_succ]
              refine wpAnyG_take' (i := 19) (v := ?v19_20k3) rfl (by kernel_rfl) (by kernel_rfl) (by kernel_rfl) (by kernel_rfl) (fun _ _ _ h => h) (Or.inl ⟨by rfl, ?hy19_20k3⟩) g6 ?rest19_20k3
              case hy19_20k3 => intro w hSw; (try dsimp only at hSw); go_simp; (try with_reducible rfl)
              case rest19_20k3 =>
              try simp only [List.getElem_toArray, List.getElem_cons_succ, List.getElem_cons_zero, Act.put, List.setIfInBounds_toArray, List.set_cons_zero, List.set_cons_succ]
              refine wpAnyG_take' (i := 20) (v := ?v20_21k3) rfl (by kernel_rfl) (by kernel_rfl) (by kernel_rfl) (by kernel_rfl) (fun _ _ _ h => h) (Or.inl ⟨by rfl, ?hy20_21k3⟩) g6 ?rest20_21k3
              case hy20_21k3 => intro w hSw; (try dsimp only at hSw); go_simp; (try with_reducible rfl)
              case rest20_21k3 =>
              try simp only [List.getElem_toArray, List.getElem_cons_succ, List.getElem_cons_zero, Act.put, List.setIfInBounds_toArray, List.set_cons_zero, List.set_cons_succ]
              refine wpAnyG_take' (i := 21) (v := ?v21_22k3) rfl (by kernel_rfl) (by kernel_rfl) (by kernel_rfl) (by kernel_rfl) (fun _ _ _ h => h) (Or.inl ⟨by rfl, ?hy21_22k3⟩) g6 ?rest21_22k3
              case hy21_22k3 => intro w hSw; (try dsimp only at hSw); go_simp; (try with_reducible rfl)
              case rest21_22k3 =>
              try simp only [List.getElem_toArray, List.getElem_cons_succ, List.getElem_cons_zero, Act.put, List.setIfInBounds_toArray, List.set_cons_zero, List.set_cons_succ]
              refine wpAnyG_take' (i := 22) (v := .agg #[.int .i64 0, .int .i64 1, .int .i64 6, .string ⟨#[]⟩, .int .i64 5, .int .i64 0, .slice none 0 0]) rfl (by kernel_rfl) (by kernel_rfl) (by kernel_rfl) (by kernel_rfl) (fun _ _ _ h => h) (Or.inl ⟨by rfl, ?hy22_23k3⟩) g6 ?rest22_23k3
              case hy22_23k3 => intro w hSw; exact exec_build 26 #[(1, .const (.int .i64 1)), (2, .tmp 70)] rfl _ (by rw [Array.toList_map]; exact builtE1)
              case rest22_23k3 =>
              try simp only [List.getElem_toArray, List.getElem_cons_succ, List.getElem_cons_zero, Act.put, List.setIfInBounds_toArray, List.set_cons_zero, List.set_cons_succ]
              refine wpAnyG_take' (i := 23) (v := ?v23_24k3) rfl (by kernel_rfl) (by kernel_rfl) (by kernel_rfl) (by kernel_rfl) (fun _ _ _ h => h) (Or.inl ⟨by rfl, ?hy23_24k3⟩) g6 ?rest23_24k3
              case hy23_24k3 => intro w hSw; (try dsimp only at hSw); go_simp; (try with_reducible rfl)
              case rest23_24k3 =>
              try simp only [List.getElem_toArray, List.getElem_cons_succ, List.getElem_cons_zero, Act.put, List.setIfInBounds_toArray, List.set_cons_zero, List.set_cons_succ]
              refine wpAnyG_take' (i := 24) (v := ?v24_25k3) rfl (by kernel_rfl) (by kernel_rfl) (by kernel_rfl) (by kernel_rfl) (fun _ _ _ h => h) (Or.inl ⟨by rfl, ?hy24_25k3⟩) g6 ?rest24_25k3
              case hy24_25k3 => intro w hSw; (try dsimp only at hSw); go_simp; (try with_reducible rfl)
              case rest24_25k3 =>
              try simp only [List.getElem_toArray, List.getElem_cons_succ, List.getElem_cons_zero, Act.put, List.setIfInBounds_toArray, List.set_cons_zero, List.set_cons_succ]
              refine wpAnyG_take' (i := 25) (v := ?v25_26k3) rfl (by kernel_rfl) (by kernel_rfl) (by kernel_rfl) (by kernel_rfl) (fun _ _ _ h => h) (Or.inl ⟨by rfl, ?hy25_26k3⟩) g6 ?rest25_26k3
              case hy25_26k3 => intro w hSw; (try dsimp only at hSw); go_simp; (try with_reducible rfl)
              case rest25_26k3 =>
              try simp only [List.getElem_toArray, List.getElem_cons_succ, List.getElem_cons_zero, Act.put, List.setIfInBounds_toArray, List.set_cons_zero, List.set_cons_succ]
              refine wpAnyG_take' (i := 26) (v := ?v26_27k3) rfl (by kernel_rfl) (by kernel_rfl) (by kernel_rfl) (by kernel_rfl) (fun _ _ _ h => h) (Or.inl ⟨by rfl, ?hy26_27k3⟩) g6 ?rest26_27k3
              case hy26_27k3 => intro w hSw; (try dsimp only at hSw); go_simp; (try with_reducible rfl)
              case rest26_27k3 =>
              try simp only [List.getElem_toArray, List.getElem_cons_succ, List.getElem_cons_zero, Act.put, List.setIfInBounds_toArray, List.set_cons_zero, List.set_cons_succ]
              refine wpAnyG_take' (i := 28) (v := ?v28_28k3) rfl (by kernel_rfl) (by kernel_rfl) (by kernel_rfl) (by kernel_rfl) (fun _ _ _ h => h) (Or.inl ⟨by rfl, ?hy28_28k3⟩) g6 ?rest28_28k3
              case hy28_28k3 => intro w hSw; (try dsimp only at hSw); go_simp; (try with_reducible rfl)
              case rest28_28k3 =>
              try simp only [List.getElem_toArray, List.getElem_cons_succ, List.getElem_cons_zero, Act.put, List.setIfInBounds_toArray, List.set_cons_zero, List.set_cons_succ]
              refine wpAnyG_one (i := 27) (by kernel_rfl) rfl (fun K hK => ?_)
              refine step_wanted (by first | rfl | kernel_rfl) ?_
              refine opwp_buildE2 (c0_0 := (.int .i64 0)) (c0_1 := (.int .i64 1)) (c0_2 := (.int .i64 6)) (c0_3 := (.string ⟨#[]⟩)) (c0_4 := (.int .i64 5)) (c0_5 := (.int .i64 0)) (c0_6 := (.slice none 0 0)) (c1_0 := (.int .i64 0)) (c1_1 := (.int .i64 1)) (c1_2 := (.int .i64 5)) (c1_3 := (.string ⟨#[]⟩)) (c1_4 := (.int .i64 z)) (c1_5 := (.int .i64 0)) (c1_6 := (.slice none 0 0)) (l := (enCs [(⟨0, 1, shipM⟩, nilV), (⟨0, 1, ⟨5, sZ, z, 0, []⟩⟩, nilV)]).toArray) _ _ rfl (by kernel_rfl) (by kernel_rfl) (by kernel_rfl) ?_
              refine hK.out _ _ (fun _ => ?hS29k3) ?rest29k3
              case hS29k3 => exact g7
              clear K hK
              try simp only [List.getElem_toArray, List.getElem_cons_succ, List.getElem_cons_zero, Act.put, List.setIfInBounds_toArray, List.set_cons_zero, List.set_cons_succ]
              refine wpAnyG_one (i := 29) (by kernel_rfl) rfl (fun K hK => ?_)
              go_simp
              refine Calls.mono HC3.out ?_
              rintro r9 w8 ⟨rfl, h8⟩
              have h8 := h8.drop
              have g8 : w8.cell? ⟨b4, 21, none⟩ = some (.int .i64 0) ∧ w8.cell? ⟨b4, 22, none⟩ = some (.int .i64 1) ∧ w8.cell? ⟨b4, 23, none⟩ = some (.int .i64 5) ∧ w8.cell? ⟨b4, 24, none⟩ = some (.string ⟨#[]⟩) ∧ w8.cell? ⟨b4, 25, none⟩ = some (.int .i64 z) ∧ w8.cell? ⟨b4, 26, none⟩ = some (.int .i64 0) ∧ w8.cell? ⟨b4, 27, none⟩ = some (.slice none 0 0) ∧ w8.cell? ⟨b4, 0, none⟩ = some (.int .i64 z) ∧ w8.cell? ⟨b4, 1, none⟩ = some (.int .i64 1) ∧ w8.cell? ⟨b4, 2, none⟩ = some (.int .i64 6) ∧ w8.cell? ⟨b4, 3, none⟩ = some (.string ⟨#[]⟩) ∧ w8.cell? ⟨b4, 4, none⟩ = some (.int .i64 5) ∧ w8.cell? ⟨b4, 5, none⟩ = some (.int .i64 0) ∧ w8.cell? ⟨b4, 6, none⟩ = some (.slice none 0 0) ∧ w8.cell? ⟨b1, 0, none⟩ = some (.int .i64 6) ∧ w8.cell? ⟨b1, 1, none⟩ = some (.string ⟨#[]⟩) ∧ w8.cell? ⟨b1, 2, none⟩ = some (.int .i64 5) ∧ w8.cell? ⟨b1, 3, none⟩ = some (.int .i64 0) ∧ w8.cell? ⟨b1, 4, none⟩ = some (.slice none 0 0) := ⟨h8.cell rfl, h8.cell rfl, h8.cell rfl, h8.cell rfl, h8.cell rfl, h8.cell rfl, h8.cell rfl, h8.cell rfl, h8.cell rfl, h8.cell rfl, h8.cell rfl, h8.cell rfl, h8.cell rfl, h8.cell rfl, h8.sw3.cell rfl, h8.sw3.cell rfl, h8.sw3.cell rfl, h8.sw3.cell rfl, h8.sw3.cell rfl⟩
              have H8 := Lib.hid h8
              clear g6 g7 HC3 h8
              (try dsimp only); repeat' (first | go_values | go_skip | go_guarded | go_step | go_upon | go_back)
              refine hK.out _ _ (fun _ => ?hS30k3) ?rest30k3
              case hS30k3 => exact g8
              clear K hK
              try simp only [List.getElem_toArray, List.getElem_cons_succ, List.getElem_cons_zero, Act.put, List.setIfInBounds_toArray, List.set_cons_zero, List.set_cons_succ]
              refine wpAnyG_take' (i := 30) (v := ?v30_31k3) rfl (by kernel_rfl) (by kernel_rfl) (by kernel_rfl) (by kernel_rfl) (fun _ _ _ h => h) (Or.inl ⟨by rfl, ?hy30_31k3⟩) g8 ?rest30_31k3
              case hy30_31k3 => intro w hSw; (try dsimp only at hSw); go_simp; (try with_reducible rfl)
              case rest30_31k3 =>
              try simp only [List.getElem_toArray, List.getElem_cons_succ, List.getElem_cons_zero, Act.put, List.setIfInBounds_toArray, List.set_cons_zero, List.set_cons_succ]
              refine wpAnyG_take' (i := 31) (v := ?v31_32k3) rfl (by kernel_rfl) (by kernel_rfl) (by kernel_rfl) (by kernel_rfl) (fun _ _ _ h => h) (Or.inl ⟨by rfl, ?hy31_32k3⟩) g8 ?rest31_32k3
              case hy31_32k3 => intro w hSw; (try dsimp only at hSw); go_simp; (try with_reducible rfl)
              case rest31_32k3 =>
              try simp only [List.getElem_toArray, List.getElem_cons_succ, List.getElem_cons_zero, Act.put, List.setIfInBounds_toArray, List.set_cons_zero, List.set_cons_succ]
              refine wpAnyG_done (by kernel_rfl) ?_ _
              try simp only [List.getElem_toArray, List.getElem_cons_succ, List.getElem_cons_zero, Act.put, List.setIfInBounds_toArray, List.set_cons_zero, List.set_cons_succ]
              clear g8
              (try dsimp only); repeat' (first | go_values | go_skip | go_guarded | go_step | go_upon | go_back)
              go_roundw
              case rel => exact ⟨4, by omega, rfl, H8.out⟩
              case measure => simp [intOf]
        · have hd4 : decide ((k : Int) < 4) = false := decide_eq_false (by omega)
          have HR := Lib.hid hs.drop
          clear hs hk hk4
          (try dsimp only); repeat' (first | go_values | go_skip | go_guarded | go_step | go_upon | go_back)
          go_roundw
          case rel => exact ⟨i + 1, HI.out, by go_num, HR.out⟩
          case measure => have := HI.out; simp [intOf]; omega
    · have hd9 : decide ((i : Int) < 9) = false := decide_eq_false (by omega)
      obtain ⟨s0, s1, s2, s3, s4⟩ := cells5 hs.sw2
      have h5 := hs.alloc (.cells (enCs l2M).toArray 26)
      have hro := row_any (some ⟨wr.heap.size, 0, none⟩) 2 2 l2M h5 (h5.clEn (fun i hi => by have h2 : i < 2 := hi; rcases (show i = 0 ∨ i = 1 by omega) with rfl | rfl <;> exact lnK _) rfl (by omega)) (HKA.out.below h5.low) rfl (by omega)
      rw [oneOk_is, oneBs_is] at hro
      have HRO := Lib.hid hro
      unfold BysE eB at HRO
      simp only [if_true] at HRO
      clear hs h5 hro hi hi9
      go_wp2_with (refine wpList_buildE2 (l := (enCs l2M).toArray) rfl _ _ rfl rfl rfl rfl ?_)
      refine HRO.out.mono ?_
      rintro r0 w2 ⟨u, rfl, h6⟩
      obtain ⟨a6, c6, rfl⟩ := h6.sl.len
      have h6' : Sep w [By (.slice a6 11 c6) oneBs] w2 := h6.pick [0] rfl
      have hcap : 11 ≤ c6 := sl_cap h6'.sl rfl
      have HCAP := Lib.hid hcap
      have H6 := Lib.hid h6'
      rw [show (bv oneBs).length = 11 from rfl]
      clear h6 h6' hcap HRO s0 s1 s2 s3 s4
      (try dsimp only); repeat' (first | go_values | go_skip | go_guarded | go_step | go_upon | go_back)
      go_loopw [8] (fun i wz => ∃ q : Nat, q ≤ 12 ∧ i = .int .i64 q ∧ Sep w [By (.slice a6 11 c6) oneBs] wz) (fun i _ => 12 - (intOf i).toNat)
      case atStart => exact ⟨0, by omega, rfl, H6.out⟩
      case round =>
        obtain ⟨q, hq, rfl, hs⟩ := hrel
        clear H6
        have q0 : (0 : Int) ≤ (q : Int) := by omega
        by_cases hq11 : q ≤ 11
        · have hd : decide ((q : Int) ≤ 11) = true := decide_eq_true (by omega)
          have q1 : (q : Int) ≤ 11 := by omega
          have q2 : q ≤ c6 := by have := HCAP.out; omega
          have q3 : (q : Int) ≤ (c6 : Int) := by omega
          have hlen : (oneBs.take q).length = q := by rw [List.length_take]; show min q 11 = q; omega
          have hsl : ∀ wx : World, Sep w [By (.slice a6 11 c6) oneBs] wx → Sl wx (.slice a6 q c6) (bv (oneBs.take q)) := fun wx hx => sl_pre (l := oneBs) hx.sl hq11
          have HQ := Lib.hid (And.intro hq11 (And.intro hlen q2))
          have HSL := Lib.hid hsl
          have HC := Lib.hid (reads04_any a6 c6 (oneBs.take q) q hs (hsl _ hs) hlen (HKA.out.below hs.low) q2)
          clear hs hsl hlen hq hq11
          (try dsimp only); repeat' (first | go_values | go_skip | go_guarded | go_step | go_upon | go_back)
          refine HC.out.mono ?_
          rintro r0 w3 ⟨rfl, h7⟩
          have HCP := Lib.hid (copy_sep (.slice a6 q c6) (oneBs.take q) w3 h7 (HSL.out _ h7) (by rw [HQ.out.2.1]; have := HQ.out.1; omega))
          clear HC h7
          (try dsimp only); repeat' (first | go_values | go_skip | go_guarded | go_step | go_upon | go_back)
          refine HCP.out.mono ?_
          rintro r0 w4 ⟨v4, rfl, h8⟩
          have h9 := h8.alloc (.cells #[.int .u8 0] 5)
          obtain ⟨v5, w5, hr, h10, -⟩ := app8 (ty := 27) h9.sw2 (h9.litSl [0] rfl rfl (by decide)) (by rw [HQ.out.2.1]; have := HQ.out.1; simp; omega)
          obtain ⟨a4, c4, rfl⟩ := h8.sl.len
          obtain ⟨a5, c5, rfl⟩ := h10.sl.len
          have HR := Lib.hid hr
          have HC2 := Lib.hid (reads04_any a5 c5 (oneBs.take q ++ [0]) (bv (oneBs.take q ++ [0])).length h10 h10.sl (bv_length _).symm (HKA.out.below h10.low) (sl_cap h10.sl (bv_length _).symm))
          clear h8 h9 hr h10 HCP
          try dsimp only
          repeat (first | (refine opwp_append_run _ _ _ _ rfl _ _ rfl rfl HR.out ?_) | go_values | go_skip | go_guarded | go_step | go_upon | go_back)
          refine HC2.out.mono ?_
          rintro r0 w6 ⟨rfl, h11⟩
          have H11 := Lib.hid (h11.pick [2] rfl : Sep w [By (.slice a6 11 c6) oneBs] w6)
          clear h11 HC2 HR
          (try dsimp only); repeat' (first | go_values | go_skip | go_guarded | go_step | go_upon | go_back)
          go_roundw
          case rel => exact ⟨q + 1, by have := HQ.out.1; omega, by go_num, H11.out⟩
          case measure => have := HQ.out.1; simp [intOf]; omega
        · have hd : decide ((q : Int) ≤ 11) = false := decide_eq_false (by omega)
          have HS := Lib.hid (hs.pick [] rfl : Sep w [] _)
          clear hs hq hq11
          as_aux_lemma =>
            (try dsimp only); repeat' (first | go_values | go_skip | go_guarded | go_step | go_upon | go_back)
            go_loopw [9] (fun i wz => ∃ k : Nat, k ≤ 256 ∧ i = .int .i64 k ∧ Sep w [] wz) (fun i _ => 256 - (intOf i).toNat)
            case atStart => exact ⟨0, by omega, rfl, HS.out⟩
            case round =>
              obtain ⟨c, hc, rfl, hs⟩ := hrel
              clear HS
              have HS := Lib.hid hs
              clear hs
              by_cases hc256 : c < 256
              · have hd5 : decide ((c : Int) < 256) = true := decide_eq_true (by omega)
                obtain ⟨b, rfl⟩ : ∃ b : UInt8, c = b.toNat := ⟨UInt8.ofNat c, by simp; omega⟩
                have h0 := HS.out.alloc (.cells #[.int .u8 b.toNat, .int .u8 1, .int .u8 6, .int .u8 5] 5)
                have HC := Lib.hid (reads04_any (some ⟨wr.heap.size, 0, none⟩) 4 [b, 1, 6, 5] 4 (h0.drop) (h0.litSl [b, 1, 6, 5] rfl rfl (by decide)) rfl (HKA.out.below h0.low) (by omega))
                clear h0 HS
                go_wp2_with (refine wpList_build4 (l := #[.int .u8 b.toNat, .int .u8 1, .int .u8 6, .int .u8 5]) rfl _ _ _ _ rfl rfl rfl rfl rfl rfl ?_)
                refine HC.out.mono ?_
                rintro r0 v1 ⟨rfl, hb⟩
                have HS := Lib.hid hb
                clear HC hb
                have h1 := HS.out.alloc (.cells #[.int .u8 1, .int .u8 b.toNat, .int .u8 6, .int .u8 5] 5)
                have HC := Lib.hid (reads04_any (some ⟨v1.heap.size, 0, none⟩) 4 [1, b, 6, 5] 4 (h1.drop) (h1.litSl [1, b, 6, 5] rfl rfl (by decide)) rfl (HKA.out.below h1.low) (by omega))
                clear h1 HS
                try dsimp only
                repeat (first | (refine opwp_build4 (l := #[.int .u8 1, .int .u8 b.toNat, .int .u8 6, .int .u8 5]) _ _ _ _ rfl rfl rfl rfl rfl rfl ?_) | go_values | go_skip | go_guarded | go_step | go_upon | go_back)
                refine HC.out.mono ?_
                rintro r0 v2 ⟨rfl, hb⟩
                have HS := Lib.hid hb
                clear HC hb
                have h2 := HS.out.alloc (.cells #[.int .u8 1, .int .u8 4, .int .u8 b.toNat, .int .u8 1, .int .u8 6, .int .u8 5] 5)
                have HC := Lib.hid (reads04_any (some ⟨v2.heap.size, 0, none⟩) 6 [1, 4, b, 1, 6, 5] 6 (h2.drop) (h2.litSl [1, 4, b, 1, 6, 5] rfl rfl (by decide)) rfl (HKA.out.below h2.low) (by omega))
                clear h2 HS
                try dsimp only
                repeat (first | (refine opwp_build6 (l := #[.int .u8 1, .int .u8 4, .int .u8 b.toNat, .int .u8 1, .int .u8 6, .int .u8 5]) _ _ _ _ _ _ rfl rfl rfl rfl rfl rfl rfl rfl ?_) | go_values | go_skip | go_guarded | go_step | go_upon | go_back)
                refine HC.out.mono ?_
                rintro r0 v3 ⟨rfl, hb⟩
                have HS := Lib.hid hb
                clear HC hb
                have h3 := HS.out.alloc (.cells #[.int .u8 b.toNat, .int .u8 4, .int .u8 1, .int .u8 1, .int .u8 6, .int .u8 5] 5)
                have HC := Lib.hid (reads04_any (some ⟨v3.heap.size, 0, none⟩) 6 [b, 4, 1, 1, 6, 5] 6 (h3.drop) (h3.litSl [b, 4, 1, 1, 6, 5] rfl rfl (by decide)) rfl (HKA.out.below h3.low) (by omega))
                clear h3 HS
                try dsimp only
                repeat (first | (refine opwp_build6 (l := #[.int .u8 b.toNat, .int .u8 4, .int .u8 1, .int .u8 1, .int .u8 6, .int .u8 5]) _ _ _ _ _ _ rfl rfl rfl rfl rfl rfl rfl rfl ?_) | go_values | go_skip | go_guarded | go_step | go_upon | go_back)
                refine HC.out.mono ?_
                rintro r0 v4 ⟨rfl, hb⟩
                have HS := Lib.hid hb
                clear HC hb
                (try dsimp only); repeat' (first | go_values | go_skip | go_guarded | go_step | go_upon | go_back)
                go_roundw
                case rel => exact ⟨b.toNat + 1, by have := b.toNat_lt; omega, by go_num, HS.out⟩
                case measure => have := b.toNat_lt; simp [intOf]; omega
              · have hd5 : decide ((c : Int) < 256) = false := decide_eq_false (by omega)
                clear hc hc256
                have HW := Lib.hid (works4_any HS.out (HKA.out.below HS.out.low))
                (try dsimp only); repeat' (first | go_values | go_skip | go_guarded | go_step | go_upon | go_back)
                refine HW.out.mono ?_
                rintro r0 w2 ⟨rfl, h2⟩
                have HR := Lib.hid (rows04_s (.slice none 0 0) (.slice none 0 0) [] [] h2 (.inl ⟨none, 0, rfl, rfl⟩) (.inl ⟨none, 0, rfl, rfl⟩) (HKA.out.below h2.low))
                clear h2 HW HS
                (try dsimp only); repeat' (first | go_values | go_skip | go_guarded | go_step | go_upon | go_back)
                refine HR.out.mono ?_
                rintro r0 w3 ⟨rfl, h3⟩
                have h4 := h3.alloc (.cells #[.int .u8 255, .int .u8 255, .int .u8 255, .int .u8 255, .int .u8 255, .int .u8 255, .int .u8 255, .int .u8 255, .int .u8 255, .int .u8 1] 5)
                have HC := Lib.hid (reads04_any (some ⟨w3.heap.size, 0, none⟩) 10 [255, 255, 255, 255, 255, 255, 255, 255, 255, 1] 10 h4.drop (h4.litSl [255, 255, 255, 255, 255, 255, 255, 255, 255, 1] rfl rfl (by decide)) rfl (HKA.out.below h4.low) (by omega))
                clear h3 h4 HR
                try dsimp only
                repeat (first | (refine opwp_build10 _ _ _ _ _ _ _ _ _ _ rfl rfl rfl rfl rfl rfl rfl rfl rfl rfl rfl rfl ?_) | go_values | go_skip | go_guarded | go_step | go_upon | go_back)
                refine HC.out.mono ?_
                rintro r0 w4 ⟨rfl, h5⟩
                have HF := Lib.hid h5.low
                clear HC h5
                (try dsimp only); repeat' (first | go_values | go_skip | go_guarded | go_step | go_upon | go_back)
                go_ret
                exact ⟨rfl, HF.out⟩
end Go.Proofs.YtcicclghgbdgnaaDoor
