/- Package sum: Open. -/
import Derived.Test.YtafkbodmiblbnaaDoorMZ33
import Derived.Test.YtafkbodmiblbnaaDoorMMg1
import Derived.Test.YtafkbodmiblbnaaDoorMZ27
namespace Go.Proofs.YtafkbodmiblbnaaDoor
open Go Go.RowKit
set_option linter.unusedVariables false
set_option linter.unusedSimpArgs false
theorem open_long {w : World} {v : Value} (l : List UInt8) (hv : Sl w v (bv l)) (hl : 65536 < l.length) :
    Calls Tryd.prog 19 #[v] w fun e w' => e = .returned (.tuple #[.slice none 0 0, .int .i64 5]) ∧ w = w' := by
  obtain ⟨a, c, rfl⟩ := slB hv
  obtain ⟨n, hn⟩ : ∃ n, n = l.length := ⟨_, rfl⟩
  rw [← hn] at hl ⊢
  have n0 : (0 : Int) ≤ (n : Int) := by omega
  have n1 : decide ((65536 : Int) < (n : Int)) = true := decide_eq_true (by omega)
  have n2 : decide (65536 < n) = true := decide_eq_true (by omega)
  have n3 : (65536 : Int) < (n : Int) := by omega
  clear hv hn hl
  go_enter Tryd.func19, Tryd.ntmps19
  (try dsimp only); repeat' (first | go_values | go_skip | go_guarded | go_step | go_upon | go_back)
  exact bodyPost_ret (results_tmp2 rfl _ _ _) rfl ⟨rfl, rfl⟩
theorem open_short {w : World} {v : Value} (l : List UInt8) (hv : Sl w v (bv l)) (hl : l.length < 4) :
    Calls Tryd.prog 19 #[v] w fun e w' => e = .returned (.tuple #[.slice none 0 0, .int .i64 3]) ∧ w = w' := by
  obtain ⟨a, c, rfl⟩ := slB hv
  obtain ⟨n, hn⟩ : ∃ n, n = l.length := ⟨_, rfl⟩
  rw [← hn] at hl ⊢
  have n0 : (0 : Int) ≤ (n : Int) := by omega
  have n1 : decide ((65536 : Int) < (n : Int)) = false := decide_eq_false (by omega)
  have n2 : decide (65536 < n) = false := decide_eq_false (by omega)
  have n3 : ¬ (65536 : Int) < (n : Int) := by omega
  have n4 : decide ((n : Int) < 4) = true := decide_eq_true (by omega)
  have n5 : decide (n < 4) = true := decide_eq_true (by omega)
  have n6 : (n : Int) < 4 := by omega
  clear hv hn hl
  go_enter Tryd.func19, Tryd.ntmps19
  (try dsimp only); repeat' (first | go_values | go_skip | go_guarded | go_step | go_upon | go_back)
  exact bodyPost_ret (results_tmp2 rfl _ _ _) rfl ⟨rfl, rfl⟩
set_option maxRecDepth 100000 in
set_option maxHeartbeats 8000000 in
theorem open_any {w0 w : World} {L : List Thing} {v : Value} (l : List UInt8) (m : Nat) (h : Sep w0 L w) (hv : Sl w v (bv l)) (hm : l.length = m + 4) (hl : l.length ≤ 65536) :
    Calls Tryd.prog 19 #[v] w fun e w' => if tailL (l.take m) = l.drop m then ∃ u, e = .returned (.tuple #[u, .int .i64 0]) ∧ Sep w0 (By u (l.take m) :: L) w' else e = .returned (.tuple #[.slice none 0 0, .int .i64 20]) ∧ Sep w0 L w' := by
  obtain ⟨a, c, rfl⟩ := slB hv
  obtain ⟨b, off, rfl, hnl, -⟩ := sl_at hv (by omega)
  obtain ⟨d, hd⟩ : ∃ d, c = m + 4 + d := by
    rcases hv with (⟨h1, h2⟩ | ⟨b', off', cap, h1, h2, h3, h4, h5⟩) | ⟨x, c', h1, h2⟩
    · simp only [Value.slice.injEq] at h1; omega
    · simp only [Value.slice.injEq] at h1; rw [bv_length] at h2; exact ⟨c - (m + 4), by omega⟩
    · simp only [Value.slice.injEq] at h1; omega
  subst hd
  have hp := sl_part hv rfl 0 m (Nat.zero_le _) (by omega)
  have hq := sl_part hv rfl m l.length (by omega) (Nat.le_refl _)
  rw [hm] at hq hl ⊢
  try rw [hm] at hv
  try rw [hm] at hp
  rw [if_neg (by omega), List.take_of_length_le (by omega), show m + 4 - m = 4 by omega, show m + 4 + d - m = 4 + d by omega] at hq
  rw [if_neg (by omega), List.drop_zero, Nat.sub_zero, Nat.sub_zero] at hp
  have hp : Sl w (.slice (some ⟨b, off, none⟩) m (m + 4 + d)) (bv (l.take m)) := hp
  have hq : Sl w (.slice (some ⟨b, off + m, none⟩) 4 (4 + d)) (bv (l.drop m)) := by
    have e : (Addr.add ⟨b, off, none⟩ m) = ⟨b, off + m, none⟩ := by
      unfold Addr.add
      split
      · rename_i h0; rw [h0]; rfl
      · rfl
    rw [Option.map_some, e] at hq
    exact hq
  have HT := Lib.hid (tail_any (l.take m) (Sep.start w.drew) (hp.below ((Below.refl _ w).drew)) (by rw [List.length_take]; omega))
  have HW : Hid (∀ wx, Below w.drew.heap.size w.drew wx → Sl wx (.slice (some ⟨b, off + m, none⟩) 4 (4 + d)) (bv (l.drop m))) := Lib.hid fun wx hb => (hq.below ((Below.refl _ w).drew)).below hb
  have HP : Hid (∀ wx, Below w.drew.heap.size w.drew wx → Sl wx (.slice (some ⟨b, off, none⟩) m (m + 4 + d)) (bv (l.take m))) := Lib.hid fun wx hb => (hp.below ((Below.refl _ w).drew)).below hb
  have HN := Lib.hid hm
  have HH := Lib.hid h.drew
  have m0 : (0 : Int) ≤ (m : Int) := by omega
  have d0 : (0 : Int) ≤ (d : Int) := by omega
  have n1 : ¬ (65536 : Int) < (m : Int) + 4 := by omega
  have n2 : ¬ (m : Int) + 4 < 4 := by omega
  have n3 : (m : Int) ≤ (m : Int) + 4 + (d : Int) := by omega
  have n4 : (m : Int) ≤ (m : Int) + 4 := by omega
  have n5 : (m : Int) + 4 ≤ (m : Int) + 4 + (d : Int) := by omega
  clear h hv hp hq hm hl hnl
  go_enter Tryd.func19, Tryd.ntmps19
  (try dsimp only); repeat' (first | go_values | go_skip | go_guarded | go_step | go_upon | go_back)
  refine wp_region_G (fun _ => True) [] (by kernel_rfl) trivial (fun hS => ?_)
  try dsimp only at hS
  refine wpAnyG_take' (i := 0) (v := ?v0_1op) rfl (by kernel_rfl) (by kernel_rfl) (by kernel_rfl) (by kernel_rfl) (fun _ _ _ h => h) (Or.inl ⟨by rfl, ?hy0_1op⟩) hS ?rest0_1op
  case hy0_1op => intro w hSw; (try dsimp only at hSw); go_simp; (try with_reducible rfl)
  case rest0_1op =>
  try simp only [List.getElem_toArray, List.getElem_cons_succ, List.getElem_cons_zero, Act.put, List.setIfInBounds_toArray, List.set_cons_zero, List.set_cons_succ]
  refine wpAnyG_take' (i := 2) (v := ?v2_2op) rfl (by kernel_rfl) (by kernel_rfl) (by kernel_rfl) (by kernel_rfl) (fun _ _ _ h => h) (Or.inl ⟨by rfl, ?hy2_2op⟩) hS ?rest2_2op
  case hy2_2op => intro w hSw; (try dsimp only at hSw); go_simp; (try with_reducible rfl)
  case rest2_2op =>
  try simp only [List.getElem_toArray, List.getElem_cons_succ, List.getElem_cons_zero, Act.put, List.setIfInBounds_toArray, List.set_cons_zero, List.set_cons_succ]
  refine wpAnyG_take' (i := 3) (v := ?v3_3op) rfl (by kernel_rfl) (by kernel_rfl) (by kernel_rfl) (by kernel_rfl) (fun _ _ _ h => h) (Or.inl ⟨by rfl, ?hy3_3op⟩) hS ?rest3_3op
  case hy3_3op => intro w hSw; (try dsimp only at hSw); go_simp; (try with_reducible rfl)
  case rest3_3op =>
  try simp only [List.getElem_toArray, List.getElem_cons_succ, List.getElem_cons_zero, Act.put, List.setIfInBounds_toArray, List.set_cons_zero, List.set_cons_succ]
  refine wpAnyG_take' (i := 4) (v := ?v4_4op) rfl (by kernel_rfl) (by kernel_rfl) (by kernel_rfl) (by kernel_rfl) (fun _ _ _ h => h) (Or.inl ⟨by rfl, ?hy4_4op⟩) hS ?rest4_4op
  case hy4_4op => intro w hSw; (try dsimp only at hSw); go_simp; (try with_reducible rfl)
  case rest4_4op =>
  try simp only [List.getElem_toArray, List.getElem_cons_succ, List.getElem_cons_zero, Act.put, List.setIfInBounds_toArray, List.set_cons_zero, List.set_cons_succ]
  refine wpAnyG_take' (i := 5) (v := ?v5_5op) rfl (by kernel_rfl) (by kernel_rfl) (by kernel_rfl) (by kernel_rfl) (fun _ _ _ h => h) (Or.inl ⟨by rfl, ?hy5_5op⟩) hS ?rest5_5op
  case hy5_5op => intro w hSw; (try dsimp only at hSw); go_simp; (try with_reducible rfl)
  case rest5_5op =>
  try simp only [List.getElem_toArray, List.getElem_cons_succ, List.getElem_cons_zero, Act.put, List.setIfInBounds_toArray, List.set_cons_zero, List.set_cons_succ]
  rw [if_neg (show ¬ m + 4 + d = m by omega), show m + 4 + d - m = 4 + d by omega]
  refine wpAnyG_one (i := 1) (by kernel_rfl) rfl (fun K hK => ?_)
  go_simp
  refine HT.out.mono ?_
  rintro r0 w1 ⟨u, rfl, h1⟩
  have HE := Lib.hid (eqB_any u _ (tailL (l.take m)) (l.drop m) h1 h1.sl (HW.out w1 h1.low) (by rw [tailL_len]; omega) (by rw [List.length_drop]; have := HN.out; omega))
  have HU := Lib.hid h1.low
  clear HT h1
  refine hK.out _ _ (fun _ => ?hS6op) ?rest6op
  case hS6op => exact trivial
  clear K hK
  try simp only [List.getElem_toArray, List.getElem_cons_succ, List.getElem_cons_zero, Act.put, List.setIfInBounds_toArray, List.set_cons_zero, List.set_cons_succ]
  refine wpAnyG_one (i := 6) (by kernel_rfl) rfl (fun K hK => ?_)
  go_simp
  refine HE.out.mono ?_
  rintro r0 w2 ⟨rfl, h2⟩
  have H2 := Lib.hid h2.low
  clear HE h2
  refine hK.out _ _ (fun _ => ?hS7op) ?rest7op
  case hS7op => exact trivial
  clear K hK
  try simp only [List.getElem_toArray, List.getElem_cons_succ, List.getElem_cons_zero, Act.put, List.setIfInBounds_toArray, List.set_cons_zero, List.set_cons_succ]
  refine wpAnyG_take' (i := 7) (v := ?v7_8op) rfl (by kernel_rfl) (by kernel_rfl) (by kernel_rfl) (by kernel_rfl) (fun _ _ _ h => h) (Or.inl ⟨by rfl, ?hy7_8op⟩) hS ?rest7_8op
  case hy7_8op => intro w hSw; (try dsimp only at hSw); go_simp; (try with_reducible rfl)
  case rest7_8op =>
  try simp only [List.getElem_toArray, List.getElem_cons_succ, List.getElem_cons_zero, Act.put, List.setIfInBounds_toArray, List.set_cons_zero, List.set_cons_succ]
  refine wpAnyG_done (by kernel_rfl) ?_ _
  try simp only [List.getElem_toArray, List.getElem_cons_succ, List.getElem_cons_zero, Act.put, List.setIfInBounds_toArray, List.set_cons_zero, List.set_cons_succ]
  have HD := Lib.hid (HH.out.below H2.out)
  by_cases hb : tailL (l.take m) = l.drop m
  · have d1 : decide (tailL (l.take m) = l.drop m) = true := decide_eq_true hb
    have HB := Lib.hid hb
    have HC := Lib.hid (clone_sep _ (l.take m) w2 HD.out (HP.out w2 H2.out) (by rw [List.length_take]; have := HN.out; omega))
    rw [d1]
    clear hb d1
    (try dsimp only); repeat' (first | go_values | go_skip | go_guarded | go_step | go_upon | go_back)
    refine HC.out.mono ?_
    rintro r0 w3 ⟨x, rfl, h3⟩
    have H3 := Lib.hid h3
    clear HC h3
    (try dsimp only); repeat' (first | go_values | go_skip | go_guarded | go_step | go_upon | go_back)
    exact bodyPost_ret (results_tmp2 rfl _ _ _) rfl (by rw [if_pos HB.out]; exact ⟨_, rfl, H3.out⟩)
  · have d1 : decide (tailL (l.take m) = l.drop m) = false := decide_eq_false hb
    have HB := Lib.hid hb
    rw [d1]
    clear hb d1
    (try dsimp only); repeat' (first | go_values | go_skip | go_guarded | go_step | go_upon | go_back)
    exact bodyPost_ret (results_tmp2 rfl _ _ _) rfl (by rw [if_neg HB.out]; exact ⟨rfl, HD.out⟩)
/-- What was sealed is opened. -/
theorem seal_take (l : List UInt8) : (sealL l).take l.length = l ∧ (sealL l).drop l.length = tailL l ∧ (sealL l).length = l.length + 4 := by
  unfold sealL
  exact ⟨by simp, by simp, by rw [List.length_append, tailL_len]⟩
theorem open_seal {w0 w : World} {L : List Thing} {v : Value} (l : List UInt8) (h : Sep w0 L w) (hv : Sl w v (bv (sealL l))) (hl : l.length ≤ 65532) :
    Calls Tryd.prog 19 #[v] w fun e w' => ∃ u, e = .returned (.tuple #[u, .int .i64 0]) ∧ Sep w0 (By u l :: L) w' := by
  obtain ⟨h1, h2, h3⟩ := seal_take l
  refine (open_any (sealL l) l.length h hv h3 (by rw [h3]; omega)).mono fun e w' hh => ?_
  rw [if_pos (by rw [h1, h2]), h1] at hh
  exact hh
/-- What opens was sealed. -/
theorem opened_seal (l : List UInt8) (m : Nat) (hm : l.length = m + 4) (h : tailL (l.take m) = l.drop m) : l = sealL (l.take m) := by
  unfold sealL
  rw [h, List.take_append_drop]
end Go.Proofs.YtafkbodmiblbnaaDoor
