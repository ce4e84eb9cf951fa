/- Acks: Sure. -/
import Derived.Test.YtidbniigfkocpaaAcks
import Derived.Test.YtidbniigfkocpaaIntsSep
namespace Go.Proofs.Ytidbniigfkocpaa
open Go.RowKit
set_option linter.unusedVariables false
set_option linter.unusedSimpArgs false
/-- The committed op. -/
def sureOf (n : Nat) (A : List Int) : Int := (sorted (A.take n)).getD (n / 2) 0
theorem enough_odd {n : Nat} (h : enough n ≠ 0) : enough n = (n / 2 + 1 : Nat) ∧ n % 2 = 1 ∧ 3 ≤ n ∧ n ≤ 15 := by
  unfold enough at h ⊢
  split at h
  · rename_i hc
    rw [if_pos hc]
    refine ⟨?_, ?_, ?_, ?_⟩ <;> omega
  · exact absurd rfl h
theorem Sep.ackSl {w0 w : World} {g n : Nat} {A : List Int} {L : List Thing} (h : Sep w0 (AckT g n A :: L) w) (hn : n ≤ A.length) (hA : A.length = 15) : Sl w (.slice (some ⟨g, 1, none⟩) n 15) (iv .i64 (A.take n)) := by
  have hl : (A.take n).length = n := by rw [List.length_take]; omega
  refine .inl (.inr ⟨g, 1, 15, by rw [iv_length, hl], by rw [iv_length, hl]; omega, by unfold maxLen; omega, h.blk_lt.2, fun j u hj => ?_⟩)
  unfold iv at hj
  rw [List.getElem?_map, List.getElem?_take] at hj
  split at hj
  · have hjA : j < A.length := by omega
    rw [List.getElem?_eq_getElem hjA, Option.map_some, Option.some.injEq] at hj
    rw [← hj]
    exact h.ackAt j hjA
  · cases hj
theorem Sep.isForm {w0 w : World} {g n c : Nat} {l : List Int} {L : List Thing} (h : Sep w0 (Is (.slice (some ⟨g, 0, none⟩) n c) l :: L) w) (j : Nat) (hj : j < l.length) : n = l.length ∧ n ≤ c ∧ w.cell? ⟨g, j, none⟩ = some (.int .i64 l[j]) := by
  rcases h.rw_.2 with ⟨h0, _⟩ | ⟨g', cap', cur, hv, hg, hb, h1, h2, h3, h4⟩
  · cases h0
  · simp only [Value.slice.injEq, Option.some.injEq, Addr.mk.injEq, and_true] at hv
    obtain ⟨rfl, hnl, rfl⟩ := hv
    rw [iv_length] at h1 h4 hnl
    refine ⟨hnl, by omega, ?_⟩
    unfold World.cell?
    rw [hb]
    have h5 : (cur.toList.take (l.length * 1))[j]? = some (.int .i64 l[j]) := by rw [h4]; exact iv_get _ l j hj
    rw [List.getElem?_take, if_pos (by omega)] at h5
    simpa using h5
set_option maxRecDepth 100000 in
set_option maxHeartbeats 2000000 in
theorem sure_any {w0 w : World} {g n : Nat} {A : List Int} {L : List Thing} (h : Sep w0 (AckT g n A :: L) w) (hn : enough n ≠ 0) (hA : A.length = 15) :
    Calls Try.prog 25 #[.pointer (some ⟨g, 0, none⟩)] w fun e w' => e = .returned (.int .i64 (sureOf n A)) ∧ Sep w0 (AckT g n A :: L) w' := by
  obtain ⟨he, ho, h3, h15⟩ := enough_odd hn
  have hl : (A.take n).length = n := by rw [List.length_take]; omega
  obtain ⟨v, hv, hs⟩ : ∃ v, (sorted (A.take n))[n / 2]? = some v ∧ sureOf n A = v := by
    have hlt : n / 2 < (sorted (A.take n)).length := by rw [sorted_len, hl]; omega
    exact ⟨(sorted (A.take n))[n / 2], List.getElem?_eq_getElem hlt, by unfold sureOf; rw [List.getD_eq_getElem?_getD, List.getElem?_eq_getElem hlt]; rfl⟩
  rw [hs]
  have HV := Lib.hid hv
  clear hs hv
  have c0 := h.ackN
  have HN := Lib.hid (anone_any h (by omega))
  have HC := Lib.hid (cloneI_sep ⟨g, 1, none⟩ n 15 (A.take n) h.drew (h.drew.ackSl (by omega) hA) hl (by omega))
  have hE : ∀ wx : World, Calls Try.prog 10 #[.int .i64 n] wx fun e w' => e = .returned (.int .i64 (n / 2 + 1 : Nat)) ∧ w' = wx := fun wx => by
    have h1 := enough_any n wx (by unfold I64; omega)
    rw [he] at h1
    exact h1.mono fun _ _ h => ⟨h.1, h.2.symm⟩
  have HE := Lib.hid hE
  have k0 : (0 : Int) ≤ (n : Int) := by omega
  have k1 : (n : Int) ≤ 15 := by omega
  clear he hE h hn
  go_enter Try.func25, Try.ntmps25
  go_wp2_with fail
  refine HN.out.mono ?_
  rintro r0 w1 ⟨rfl, rfl⟩
  go_wp2_with fail
  go_region_held3 (fun w' => w'.cell? ⟨g, 0, none⟩ = some (.int .i64 n)) (first | go_keep | (trace_state; fail)) ((go_at_call 36; refine Calls.mono HC.out ?_; rintro r1 w2 ⟨b, cap, rfl, h2⟩; have z0 := h2.sw2.ackN; have H2 := Lib.hid h2; clear h2))
  all_goals
    clear c0 HN HC
    go_wp2_with fail
    refine (sortI_sep H2.out hl (by omega)).mono ?_
    rintro r2 w3 ⟨rfl, h3⟩
    have y0 := h3.sw2.ackN
    obtain ⟨-, hcap, x0⟩ := h3.isForm (n / 2) (by rw [sorted_len, hl]; omega)
    rw [(List.getElem?_eq_some_iff.1 HV.out).2] at x0
    have H3 := Lib.hid h3
    clear h3 z0 H2
    obtain ⟨q, hq⟩ : ∃ q : Nat, q = n / 2 + 1 := ⟨_, rfl⟩
    obtain ⟨m, hm⟩ : ∃ m : Nat, m = n / 2 := ⟨_, rfl⟩
    have hd : (n : Int) - (q : Int) = (m : Int) := by omega
    rw [← hq] at HE
    rw [← hm] at x0
    have d0 : (0 : Int) ≤ (m : Int) := by omega
    have d1 : (m : Int) < (n : Int) := by omega
    have HL := Lib.hid hl
    have HD := Lib.hid hd
    clear hl ho hm hq hd hA
    go_wp2_with fail
    have hd := HD.out
    have hw : IntKind.i64.wrap ((n : Int) - (q : Int)) = (m : Int) := by rw [hd]; exact IntWalk.i64_in _ (by omega)
    clear hd
    go_quiet ((go_at_call 10; exact Calls.quiet_of_same (HE.out _)))
    go_wp2_with fail
    go_ret
    exact ⟨rfl, (H3.out.drop.drewN _)⟩
end Go.Proofs.Ytidbniigfkocpaa
