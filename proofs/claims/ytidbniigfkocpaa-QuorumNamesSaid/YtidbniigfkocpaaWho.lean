/- A tally: Who. -/
import Derived.Test.YtidbniigfkocpaaTally
import Derived.Test.YtidbniigfkocpaaIntsSep
namespace Go.Proofs.Ytidbniigfkocpaa
open Go.RowKit
set_option linter.unusedVariables false
set_option linter.unusedSimpArgs false
/-- Who is in a set, below n. -/
def whoOf (s n : Nat) : List Int := ((List.range n).filter fun i => bitAt s i == 1).map Int.ofNat
theorem whoOf_zero (s : Nat) : whoOf s 0 = [] := rfl
theorem whoOf_succ (s k : Nat) : whoOf s (k + 1) = whoOf s k ++ if bitAt s k = 1 then [(k : Int)] else [] := by
  unfold whoOf
  rw [List.range_succ, List.filter_append, List.map_append]
  congr 1
  by_cases h : bitAt s k = 1
  · simp [h]
  · simp [h]
theorem whoOf_len (s n : Nat) : (whoOf s n).length ≤ n := by
  unfold whoOf
  rw [List.length_map]
  have := List.length_filter_le (fun i => bitAt s i == 1) (List.range n)
  simpa using this
set_option maxRecDepth 100000 in
set_option maxHeartbeats 2000000 in
theorem who_any {w0 w : World} {g b n : Nat} {S : List (Bal × Nat)} {L : List Thing} (x : Bal) (h : Sep w0 (TalC g b n :: BalM b S :: L) w) (hn : n ≤ 15) (hS : Small S) :
    Calls Try.prog 16 #[.pointer (some ⟨g, 0, none⟩), balV x] w fun e w' => ∃ v, e = .returned v ∧ Sep w0 (Is v (whoOf ((mget S x).getD 0) n) :: TalC g b n :: BalM b S :: L) w' := by
  have hs0 := hS x
  obtain ⟨bx, hbx⟩ : ∃ k, k = w.heap.size := ⟨_, rfl⟩
  obtain ⟨wa, hwa⟩ : ∃ k, k = w.alloc (.cells #[.int .i64 x.1.1, .int .i64 x.1.2.1, .int .i64 x.1.2.2.1, .int .i64 x.1.2.2.2.1, .int .i64 x.1.2.2.2.2] 34) := ⟨_, rfl⟩
  have h1 := h.alloc (.cells #[.int .i64 x.1.1, .int .i64 x.1.2.1, .int .i64 x.1.2.2.1, .int .i64 x.1.2.2.2.1, .int .i64 x.1.2.2.2.2] 34)
  rw [← hbx, ← hwa] at h1
  have HN := Lib.hid (tnone_any h1.sw2)
  have q0 := h1.sw2.cell (o := 0) (x := .int .i64 n) rfl
  have h2 := h1.rnil 3
  have H2 := Lib.hid h2
  have HS := Lib.hid hs0
  clear h h1 h2 hs0 hS
  unfold balV
  go_enter Try.func16, Try.ntmps16
  go_wp2_with fail
  rw [← hwa, ← hbx]
  clear hwa hbx
  refine HN.out.mono ?_
  rintro r0 w1 ⟨rfl, rfl⟩
  go_wp2_with fail
  clear q0 HN
  go_loopw [5, 13] (fun v i wr => ∃ k : Nat, k ≤ n ∧ i = .int .i64 k ∧ Sep w0 (Is v (whoOf ((mget S x).getD 0) k) :: Cl bx #[.int .i64 x.1.1, .int .i64 x.1.2.1, .int .i64 x.1.2.2.1, .int .i64 x.1.2.2.2.1, .int .i64 x.1.2.2.2.2] 34 :: TalC g b n :: BalM b S :: L) wr) (fun _ i _ => n - (intOf i).toNat)
  case atStart => exact ⟨0, by omega, rfl, H2.out⟩
  case round =>
    obtain ⟨k, hk, rfl, hs⟩ := hrel
    clear H2
    by_cases hkn : k < n
    · have hd : decide (k < n) = true := decide_eq_true hkn
      have hlook := map_look (t := 61) balOk Try.underlying61 (zeroU _) hs.drew.sw4 x false
      have hv0 : ((mget S x).map setV).getD (setV 0) = .int .u64 ((mget S x).getD 0 : Nat) := by cases mget S x <;> rfl
      rw [hv0] at hlook
      unfold balV at hlook
      have hstep := whoOf_succ ((mget S x).getD 0) k
      have hsm := HS.out
      generalize (mget S x).getD 0 = s at *
      have z1 := hs.sw3.cell (o := 1) (x := .map (some b)) rfl
      have y0 := hs.sw2.cell (o := 0) (x := .int .i64 x.1.1) rfl
      have y1 := hs.sw2.cell (o := 1) (x := .int .i64 x.1.2.1) rfl
      have y2 := hs.sw2.cell (o := 2) (x := .int .i64 x.1.2.2.1) rfl
      have y3 := hs.sw2.cell (o := 3) (x := .int .i64 x.1.2.2.2.1) rfl
      have y4 := hs.sw2.cell (o := 4) (x := .int .i64 x.1.2.2.2.2) rfl
      have k0 : (0 : Int) ≤ (k : Int) := by omega
      have k4 : (k : Int) < 64 := by omega
      have hand : bits BinOp.and IntKind.u64 ((s : Int) / 2 ^ k) 1 = ((bitAt s k : Nat) : Int) := by
        have h1 := and64 (s / 2 ^ k) 1 (by have := Nat.div_le_self s (2 ^ k); omega) (by omega)
        rw [Nat.and_one_is_mod] at h1
        have : ((s : Int) / 2 ^ k) = ((s / 2 ^ k : Nat) : Int) := by push_cast; rfl
        rw [this]
        exact h1
      have HST := Lib.hid hstep
      have H3 := Lib.hid hs.drew
      clear hs hstep hv0 hkn hsm HS
      go_wp2_with fail
      go_region_held3 (fun w' => w'.cell? ⟨g, 1, none⟩ = some (.map (some b)) ∧ w'.cell? ⟨bx, 0, none⟩ = some (.int .i64 x.1.1) ∧ w'.cell? ⟨bx, 1, none⟩ = some (.int .i64 x.1.2.1) ∧ w'.cell? ⟨bx, 2, none⟩ = some (.int .i64 x.1.2.2.1) ∧ w'.cell? ⟨bx, 3, none⟩ = some (.int .i64 x.1.2.2.2.1) ∧ w'.cell? ⟨bx, 4, none⟩ = some (.int .i64 x.1.2.2.2.2)) (go_keep) (fail)
      clear hlook hand z1 y0 y1 y2 y3 y4
      have hlen := whoOf_len s k
      by_cases hb : bitAt s k = 1
      · have hB : (((bitAt s k : Nat) : Int) == 1) = true := by simp [hb]
        have hx := (H3.out.alloc (.cells #[.int .i64 k] 3)).asRow 1 rfl (by unfold maxLen; omega)
        have hst := HST.out
        rw [if_pos hb] at hst
        obtain ⟨v', w', hr, h4, _⟩ := appI (ty := 41) (ys := [(k : Int)]) hx.sw2 hx.sl (by simp; omega)
        rw [← hst] at h4
        have H4 := Lib.hid h4.sw2.drop
        have Hr := Lib.hid hr
        clear hx hr h4 hst hb HST H3 hlen
        go_wp2_with (at_builtin; refine wpList_append_run rfl _ _ _ _ rfl rfl rfl Hr.out ?_)
        go_roundw
        case rel => exact ⟨k + 1, of_decide_eq_true hd, by go_num, H4.out⟩
        case measure => have hkn := of_decide_eq_true hd; simp [intOf]; omega
      · have hB : (((bitAt s k : Nat) : Int) == 1) = false := by simp; omega
        have hst := HST.out
        rw [if_neg hb, List.append_nil] at hst
        have h4 := H3.out
        rw [← hst] at h4
        have H4 := Lib.hid h4
        clear h4 hst hb HST H3 hlen
        go_wp2_with fail
        go_roundw
        case rel => exact ⟨k + 1, of_decide_eq_true hd, by go_num, H4.out⟩
        case measure => have hkn := of_decide_eq_true hd; simp [intOf]; omega
    · have hd : decide (k < n) = false := decide_eq_false hkn
      obtain rfl : k = n := by omega
      have H3 := Lib.hid hs.sw2.drop
      obtain ⟨av, cv, hv⟩ := hs.sl.len
      subst hv
      clear hs hkn
      go_wp2_with fail
      go_ret
      exact ⟨_, rfl, H3.out⟩
end Go.Proofs.Ytidbniigfkocpaa
