/- slices.Delete of one message. -/
import Derived.Test.YtcnbmeiielkigaaDoorBag2
namespace Go.Proofs.YtcnbmeiielkigaaDoor
open Go Go.RowKit
set_option linter.unusedVariables false
set_option linter.unusedSimpArgs false
/-- 'clear(s)', s a slice of n > 0 structs. -/
theorem run_clear_rows {P : Program} (w : World) (t e ty : TypeId) (z : Value) (ht : P.underlying t = some (.slice e)) (hv : ∀ w, (zeroValue e).run P w = .ok z w) (h1 : ∀ u ∈ (Builtin.zeroCells z.cells 1).toList, u.oneCell' = true) (b o c : Nat)
    (hc : ∀ j, j < z.cells.size → (w.cell? ⟨b, o + j, none⟩).isSome = true) (hf : ∀ j, j < z.cells.size → w.frozen? ⟨b, o + j, none⟩ = false) :
    (Builtin.clear_ #[t] ty #[.slice (some ⟨b, o, none⟩) 1 c]).run P w = .ok (.tuple #[]) (w.setCells b o (Builtin.zeroCells z.cells 1).toList) := by
  have hl : (Builtin.zeroCells z.cells 1).toList.length = z.cells.size := by rw [Array.length_toList, size_zeroCells]; omega
  have hst := run_storeCells_cells (P := P) b o (Builtin.zeroCells z.cells 1).toList 0 w (by rw [hl]; simpa using hc) (by rw [hl]; simpa using hf) h1
  simp only [Nat.add_zero] at hst
  simp [Builtin.clear_, run_underlying ht, hv, hst]
theorem wpList_clear_run {P : Program} {w : World} {ops : Array Oper} {rest : List Oper} {o : Oper} {a : Act} {Q : Exit → Act → World → Prop} (hgd : o.guard = none) (s : Operand) (t : TypeId)
    (ho : o.op = .call { callee := .builtin .clear, args := #[s], argTypes := #[t] }) {v v' : Value} {w' : World} (hs : a.eval s = v)
    (hr : (Builtin.clear_ #[t] o.type #[v]).run P w = .ok v' w') (h : wpList P ops Q rest (a.put o.dst v') w') : wpList P ops Q (o :: rest) a w := by
  refine wpList_plain hgd fun K hK => ?_
  unfold Oper.wp
  simp [execOp, ho, resolve, invoke, builtin, hs, hr, Result.andThen]
  exact hK _ _ h
theorem zeroMs : ∃ z : Value, (∀ w, (zeroValue 43).run Tryd.prog w = .ok z w) ∧ z.cells.size = 22 ∧ ∀ u ∈ (Builtin.zeroCells z.cells 1).toList, u.oneCell' = true := by
  obtain ⟨i, hi, he⟩ := Option.map_eq_some_iff.1 infoMs
  simp only [Prod.mk.injEq] at he
  obtain ⟨z, hz, hz2⟩ := Option.map_eq_some_iff.1 he.2.2
  have hq : (Tryd.prog.info? 43).bind (fun i => i.zero.map (fun z => (Builtin.zeroCells z.cells 1).all (·.oneCell'))) = some true := by kernel_rfl
  rw [hi] at hq
  simp only [Option.bind_some, hz, Option.map_some, Option.some.injEq] at hq
  refine ⟨z, fun w => by simp [zeroValue, typeInfo, hi, hz], hz2, fun u hu => ?_⟩
  rw [Array.all_eq_true] at hq
  obtain ⟨j, hj, rfl⟩ := List.getElem_of_mem hu
  simpa using hq j (by simpa using hj)
variable {w0 w : World} {g off n c i k p : Nat} {cur : Array Value} {L : List Thing}
/-- What the block holds when one element has been taken out. -/
def Taken (cur cur' : Array Value) (off n i : Nat) : Prop := cur'.size = cur.size ∧ ∀ j, j < (n - 1) * 22 → cur'[off + j]? = if j < i * 22 then cur[off + j]? else cur[off + j + 22]?
theorem taken_of (hp : p + 1 = n) (hip : i ≤ p) (hn : off + n * 22 ≤ cur.size) (news : List Value) (hl : news.length = (p - i) * 22) (hnews : ∀ j, j < (p - i) * 22 → news[j]? = cur[off + (i + 1) * 22 + j]?) (zs : List Value) (hz : zs.length = 22) :
    Taken cur (writeAt (writeAt cur (off + i * 22) news) (off + p * 22) zs) off n i := by
  refine ⟨by rw [writeAt_size, writeAt_size], fun j hj => ?_⟩
  have h1 : n - 1 = p := by omega
  rw [h1] at hj
  rw [writeAt_get, if_neg (by omega), writeAt_get]
  by_cases hji : j < i * 22
  · rw [if_pos hji, if_neg (by omega)]
  · rw [if_neg hji, if_pos (by rw [hl]; omega), hnews _ (by omega)]
    congr 1
    omega
set_option maxRecDepth 100000 in
set_option maxHeartbeats 16000000 in
theorem del_any (h : Sep w0 (Cl g cur 43 :: L) w) (hp : p + 1 = n) (hip : i ≤ p) (hk : i + 1 = k) (hnc : n ≤ c) (hcm : c ≤ maxLen) (hsz : off + c * 22 ≤ cur.size) (hone : ∀ j, j < n * 22 → ∀ u, cur[off + j]? = some u → u.oneCell' = true) :
    Calls Tryd.prog 28 #[.slice (some ⟨g, off, none⟩) n c, .int .i64 i, .int .i64 k] w fun e w' => e = .returned (.slice (some ⟨g, off, none⟩) p c) ∧ ∃ cur', Taken cur cur' off n i ∧ Sep w0 (Cl g cur' 43 :: L) w' := by
  replace h := h.drew
  obtain ⟨z, hzv, hzs, hz1⟩ := zeroMs
  obtain ⟨zs, hzz⟩ : ∃ q, q = (Builtin.zeroCells z.cells 1).toList := ⟨_, rfl⟩
  have hzl : zs.length = 22 := by rw [hzz, Array.length_toList, size_zeroCells, hzs]
  obtain ⟨ti, hti, hte⟩ := Option.map_eq_some_iff.1 infoMs
  simp only [Prod.mk.injEq] at hte
  have hts := hte.1
  have hn2 : n * 22 = p * 22 + 22 := by omega
  have hc2 : n * 22 ≤ c * 22 := Nat.mul_le_mul_right _ hnc
  obtain ⟨news, hnw⟩ : ∃ q, q = (cur.toList.drop (off + k * 22)).take ((p - i) * 22) := ⟨_, rfl⟩
  have hkp : k * 22 + (p - i) * 22 = n * 22 := by omega
  have hnl : news.length = (p - i) * 22 := by rw [hnw, List.length_take, List.length_drop, Array.length_toList]; omega
  have hng : ∀ j, j < (p - i) * 22 → news[j]? = cur[off + k * 22 + j]? := fun j hj => by
    rw [hnw, List.getElem?_take, if_pos hj, List.getElem?_drop, Array.getElem?_toList]
  have hno : ∀ u ∈ news, u.oneCell' = true := fun u hu => by
    obtain ⟨j, hj, rfl⟩ := List.getElem_of_mem hu
    have h9 := hng j (by omega)
    rw [List.getElem?_eq_getElem hj] at h9
    exact hone (k * 22 + j) (by omega) _ (by rw [← Nat.add_assoc]; exact h9.symm)
  have hnk : n - k = p - i := by omega
  have hrun : ∀ (aa : Addr) (cc : Nat), (p - i = 0 ∨ aa = ⟨g, off + k * 22, none⟩) → (Builtin.append_ #[58, 58] 58 #[.slice (some ⟨g, off, none⟩) i c, .slice (some aa) (n - k) cc]).run Tryd.prog w.drew = .ok (.slice (some ⟨g, off, none⟩) p c) (w.drew.setCells g (off + i * 22) news) := fun aa cc hq => by
    rw [hnk]
    have h9 := run_append_room_cells (P := Tryd.prog) w.drew 58 58 43 ti Tryd.underlying58 hti g off i c aa (p - i) cc news (by rw [hts]; exact hnl) (fun j u hj => by
      obtain ⟨hj1, hj2⟩ := List.getElem?_eq_some_iff.1 hj
      rcases hq with hq | rfl
      · rw [hnl, hq] at hj1; omega
      · rw [Addr.add_mid]
        exact h.cell (by rw [← hng j (by omega), hj])) hno (by omega) (fun j hj => by
      rw [hts, h.cell (x := cur[off + i * 22 + j]'(by omega)) (Array.getElem?_eq_getElem (by omega))]; rfl) (fun j hj => h.frozen _)
    rw [hts, show i + (p - i) = p by omega] at h9
    exact h9
  have h2 := Sep.setCells news cur (off + i * 22) w.drew h
  obtain ⟨w2, hw2⟩ : ∃ q, q = w.drew.setCells g (off + i * 22) news := ⟨_, rfl⟩
  rw [← hw2] at h2 hrun
  have hclr : (Builtin.clear_ #[58] 0 #[.slice (some ⟨g, off + p * 22, none⟩) 1 (c - p)]).run Tryd.prog w2 = .ok (.tuple #[]) (w2.setCells g (off + p * 22) zs) := by
    rw [hzz]
    exact run_clear_rows (P := Tryd.prog) w2 58 43 0 z Tryd.underlying58 hzv hz1 g (off + p * 22) (c - p) (fun j hj => by
      have hj' : off + p * 22 + j < (writeAt cur (off + i * 22) news).size := by rw [writeAt_size]; omega
      rw [h2.cell (Array.getElem?_eq_getElem hj')]; rfl) (fun j hj => h2.frozen _)
  have h3 := Sep.setCells zs _ (off + p * 22) w2 h2
  have htk := taken_of (cur := cur) (off := off) hp hip (by omega) news hnl (by rw [hk]; exact hng) zs hzl
  have HF := Lib.hid (And.intro htk h3)
  have HR := Lib.hid hrun
  have HCL := Lib.hid hclr
  have i0 : (0 : Int) ≤ (i : Int) := by omega
  have ik : (i : Int) ≤ (k : Int) := by omega
  have kn : (k : Int) ≤ (n : Int) := by omega
  have nc : (n : Int) ≤ (c : Int) := by omega
  have ic : (i : Int) ≤ (c : Int) := by omega
  have k0 : (0 : Int) ≤ (k : Int) := by omega
  have n0 : (0 : Int) ≤ (n : Int) := by omega
  have ike : ((i : Int) == (k : Int)) = false := beq_eq_false_iff_ne.2 (by omega)
  have p0 : (0 : Int) ≤ (p : Int) := by omega
  have pn : (p : Int) ≤ (n : Int) := by omega
  have cp : ¬ c = p := by omega
  have np : n - p = 1 := by omega
  have kc : (k : Int) ≤ (c : Int) := by omega
  have ci : ¬ c = i := by omega
  have HPI : Hid (n = k → p - i = 0) := Lib.hid (by omega)
  have HCK : Hid (c = k → p - i = 0) := Lib.hid (by omega)
  clear h h2 h3 htk hrun hclr hw2 hp hip hk hnc hcm hsz hone hzv hzs hz1 hzz hzl hti hte hts hn2 hc2 hnw hkp hnl hng hno hnk
  by_cases hck : c = k
  · subst hck
    as_aux_lemma =>
    go_enter Tryd.func28, Tryd.ntmps28
    (try dsimp only); repeat' (first | go_values | go_skip | go_guarded | go_step | go_upon | go_back)
    refine wp_region_G (fun w' => True) [6] (by kernel_rfl) trivial (fun hS => ?_)
    try dsimp only at hS
    refine wpAnyG_take' (i := 0) (v := ?v0_1dB) rfl (by kernel_rfl) (by kernel_rfl) (by kernel_rfl) (by kernel_rfl) (fun _ _ _ h => h) (Or.inl ⟨by rfl, ?hy0_1dB⟩) hS ?rest0_1dB
    case hy0_1dB => intro w hSw; (try dsimp only at hSw); go_simp; (try with_reducible rfl)
    case rest0_1dB =>
    try simp only [List.getElem_toArray, List.getElem_cons_succ, List.getElem_cons_zero, Act.put, List.setIfInBounds_toArray, List.set_cons_zero, List.set_cons_succ]
    refine wpAnyG_take' (i := 1) (v := ?v1_2dB) rfl (by kernel_rfl) (by kernel_rfl) (by kernel_rfl) (by kernel_rfl) (fun _ _ _ h => h) (Or.inl ⟨by rfl, ?hy1_2dB⟩) hS ?rest1_2dB
    case hy1_2dB => intro w hSw; (try dsimp only at hSw); go_simp; (try with_reducible rfl)
    case rest1_2dB =>
    try simp only [List.getElem_toArray, List.getElem_cons_succ, List.getElem_cons_zero, Act.put, List.setIfInBounds_toArray, List.set_cons_zero, List.set_cons_succ]
    refine wpAnyG_take' (i := 2) (v := ?v2_3dB) rfl (by kernel_rfl) (by kernel_rfl) (by kernel_rfl) (by kernel_rfl) (fun _ _ _ h => h) (Or.inl ⟨by rfl, ?hy2_3dB⟩) hS ?rest2_3dB
    case hy2_3dB => intro w hSw; (try dsimp only at hSw); go_simp; (try with_reducible rfl)
    case rest2_3dB =>
    try simp only [List.getElem_toArray, List.getElem_cons_succ, List.getElem_cons_zero, Act.put, List.setIfInBounds_toArray, List.set_cons_zero, List.set_cons_succ]
    refine wpAnyG_take' (i := 3) (v := ?v3_4dB) rfl (by kernel_rfl) (by kernel_rfl) (by kernel_rfl) (by kernel_rfl) (fun _ _ _ h => h) (Or.inl ⟨by rfl, ?hy3_4dB⟩) hS ?rest3_4dB
    case hy3_4dB => intro w hSw; (try dsimp only at hSw); go_simp; (try with_reducible rfl)
    case rest3_4dB =>
    try simp only [List.getElem_toArray, List.getElem_cons_succ, List.getElem_cons_zero, Act.put, List.setIfInBounds_toArray, List.set_cons_zero, List.set_cons_succ]
    refine wpAnyG_take' (i := 4) (v := ?v4_5dB) rfl (by kernel_rfl) (by kernel_rfl) (by kernel_rfl) (by kernel_rfl) (fun _ _ _ h => h) (Or.inl ⟨by rfl, ?hy4_5dB⟩) hS ?rest4_5dB
    case hy4_5dB => intro w hSw; (try dsimp only at hSw); go_simp; (try with_reducible rfl)
    case rest4_5dB =>
    try simp only [List.getElem_toArray, List.getElem_cons_succ, List.getElem_cons_zero, Act.put, List.setIfInBounds_toArray, List.set_cons_zero, List.set_cons_succ]
    refine wpAnyG_take' (i := 5) (v := ?v5_6dB) rfl (by kernel_rfl) (by kernel_rfl) (by kernel_rfl) (by kernel_rfl) (fun _ _ _ h => h) (Or.inl ⟨by rfl, ?hy5_6dB⟩) hS ?rest5_6dB
    case hy5_6dB => intro w hSw; (try dsimp only at hSw); go_simp; (try with_reducible rfl)
    case rest5_6dB =>
    try simp only [List.getElem_toArray, List.getElem_cons_succ, List.getElem_cons_zero, Act.put, List.setIfInBounds_toArray, List.set_cons_zero, List.set_cons_succ]
    refine wpAnyG_one (i := 6) (by kernel_rfl) rfl (fun K hK => ?_)
    have hr_ := HR.out ⟨g, off, none⟩ 0 (.inl (HCK.out rfl))
    refine step_append_run (by rfl) (.tmp 22) (.tmp 25) 58 58 (by rfl) _ _ (by rfl) (by rfl) hr_ ?_
    clear hr_
    refine hK.out _ _ (fun _ => ?hS7dB) ?rest7dB
    case hS7dB => exact trivial
    clear K hK
    try simp only [List.getElem_toArray, List.getElem_cons_succ, List.getElem_cons_zero, Act.put, List.setIfInBounds_toArray, List.set_cons_zero, List.set_cons_succ]
    refine wpAnyG_one (i := 7) (by kernel_rfl) rfl (fun K hK => ?_)
    go_simp
    refine hK.out _ _ (fun _ => ?hS8dB) ?rest8dB
    case hS8dB => exact trivial
    clear K hK
    try simp only [List.getElem_toArray, List.getElem_cons_succ, List.getElem_cons_zero, Act.put, List.setIfInBounds_toArray, List.set_cons_zero, List.set_cons_succ]
    refine wpAnyG_done (by kernel_rfl) ?_ _
    try simp only [List.getElem_toArray, List.getElem_cons_succ, List.getElem_cons_zero, Act.put, List.setIfInBounds_toArray, List.set_cons_zero, List.set_cons_succ]
    clear hS
    (try dsimp only); repeat' (first | go_values | go_skip | go_guarded | go_step | go_upon | go_back)
    rw [HCL.out]
    (try dsimp only); repeat' (first | go_values | go_skip | go_guarded | go_step | go_upon | go_back)
    go_ret
    exact ⟨rfl, _, HF.out.1, HF.out.2⟩
  · as_aux_lemma =>
    go_enter Tryd.func28, Tryd.ntmps28
    (try dsimp only); repeat' (first | go_values | go_skip | go_guarded | go_step | go_upon | go_back)
    refine wp_region_G (fun w' => True) [6] (by kernel_rfl) trivial (fun hS => ?_)
    try dsimp only at hS
    refine wpAnyG_take' (i := 0) (v := ?v0_1dA) rfl (by kernel_rfl) (by kernel_rfl) (by kernel_rfl) (by kernel_rfl) (fun _ _ _ h => h) (Or.inl ⟨by rfl, ?hy0_1dA⟩) hS ?rest0_1dA
    case hy0_1dA => intro w hSw; (try dsimp only at hSw); go_simp; (try with_reducible rfl)
    case rest0_1dA =>
    try simp only [List.getElem_toArray, List.getElem_cons_succ, List.getElem_cons_zero, Act.put, List.setIfInBounds_toArray, List.set_cons_zero, List.set_cons_succ]
    refine wpAnyG_take' (i := 1) (v := ?v1_2dA) rfl (by kernel_rfl) (by kernel_rfl) (by kernel_rfl) (by kernel_rfl) (fun _ _ _ h => h) (Or.inl ⟨by rfl, ?hy1_2dA⟩) hS ?rest1_2dA
    case hy1_2dA => intro w hSw; (try dsimp only at hSw); go_simp; (try with_reducible rfl)
    case rest1_2dA =>
    try simp only [List.getElem_toArray, List.getElem_cons_succ, List.getElem_cons_zero, Act.put, List.setIfInBounds_toArray, List.set_cons_zero, List.set_cons_succ]
    refine wpAnyG_take' (i := 2) (v := ?v2_3dA) rfl (by kernel_rfl) (by kernel_rfl) (by kernel_rfl) (by kernel_rfl) (fun _ _ _ h => h) (Or.inl ⟨by rfl, ?hy2_3dA⟩) hS ?rest2_3dA
    case hy2_3dA => intro w hSw; (try dsimp only at hSw); go_simp; (try with_reducible rfl)
    case rest2_3dA =>
    try simp only [List.getElem_toArray, List.getElem_cons_succ, List.getElem_cons_zero, Act.put, List.setIfInBounds_toArray, List.set_cons_zero, List.set_cons_succ]
    refine wpAnyG_take' (i := 3) (v := ?v3_4dA) rfl (by kernel_rfl) (by kernel_rfl) (by kernel_rfl) (by kernel_rfl) (fun _ _ _ h => h) (Or.inl ⟨by rfl, ?hy3_4dA⟩) hS ?rest3_4dA
    case hy3_4dA => intro w hSw; (try dsimp only at hSw); go_simp; (try with_reducible rfl)
    case rest3_4dA =>
    try simp only [List.getElem_toArray, List.getElem_cons_succ, List.getElem_cons_zero, Act.put, List.setIfInBounds_toArray, List.set_cons_zero, List.set_cons_succ]
    refine wpAnyG_take' (i := 4) (v := ?v4_5dA) rfl (by kernel_rfl) (by kernel_rfl) (by kernel_rfl) (by kernel_rfl) (fun _ _ _ h => h) (Or.inl ⟨by rfl, ?hy4_5dA⟩) hS ?rest4_5dA
    case hy4_5dA => intro w hSw; (try dsimp only at hSw); go_simp; (try with_reducible rfl)
    case rest4_5dA =>
    try simp only [List.getElem_toArray, List.getElem_cons_succ, List.getElem_cons_zero, Act.put, List.setIfInBounds_toArray, List.set_cons_zero, List.set_cons_succ]
    refine wpAnyG_take' (i := 5) (v := ?v5_6dA) rfl (by kernel_rfl) (by kernel_rfl) (by kernel_rfl) (by kernel_rfl) (fun _ _ _ h => h) (Or.inl ⟨by rfl, ?hy5_6dA⟩) hS ?rest5_6dA
    case hy5_6dA => intro w hSw; (try dsimp only at hSw); go_simp; (try with_reducible rfl)
    case rest5_6dA =>
    try simp only [List.getElem_toArray, List.getElem_cons_succ, List.getElem_cons_zero, Act.put, List.setIfInBounds_toArray, List.set_cons_zero, List.set_cons_succ]
    refine wpAnyG_one (i := 6) (by kernel_rfl) rfl (fun K hK => ?_)
    have hr_ := HR.out ⟨g, off + k * 22, none⟩ (c - k) (.inr rfl)
    refine step_append_run (by rfl) (.tmp 22) (.tmp 25) 58 58 (by rfl) _ _ (by rfl) (by rfl) hr_ ?_
    clear hr_
    refine hK.out _ _ (fun _ => ?hS7dA) ?rest7dA
    case hS7dA => exact trivial
    clear K hK
    try simp only [List.getElem_toArray, List.getElem_cons_succ, List.getElem_cons_zero, Act.put, List.setIfInBounds_toArray, List.set_cons_zero, List.set_cons_succ]
    refine wpAnyG_one (i := 7) (by kernel_rfl) rfl (fun K hK => ?_)
    go_simp
    refine hK.out _ _ (fun _ => ?hS8dA) ?rest8dA
    case hS8dA => exact trivial
    clear K hK
    try simp only [List.getElem_toArray, List.getElem_cons_succ, List.getElem_cons_zero, Act.put, List.setIfInBounds_toArray, List.set_cons_zero, List.set_cons_succ]
    refine wpAnyG_done (by kernel_rfl) ?_ _
    try simp only [List.getElem_toArray, List.getElem_cons_succ, List.getElem_cons_zero, Act.put, List.setIfInBounds_toArray, List.set_cons_zero, List.set_cons_succ]
    clear hS
    (try dsimp only); repeat' (first | go_values | go_skip | go_guarded | go_step | go_upon | go_back)
    rw [HCL.out]
    (try dsimp only); repeat' (first | go_values | go_skip | go_guarded | go_step | go_upon | go_back)
    go_ret
    exact ⟨rfl, _, HF.out.1, HF.out.2⟩
end Go.Proofs.YtcnbmeiielkigaaDoor
