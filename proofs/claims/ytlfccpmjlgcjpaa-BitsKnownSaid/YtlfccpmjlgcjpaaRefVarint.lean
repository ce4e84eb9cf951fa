/- Contracts of the document's answer for the reader: Varint and Int. -/
import Derived.Test.YtlfccpmjlgcjpaaRefRead
import Derived.Test.YtlfccpmjlgcjpaaRef01
namespace Go.Proofs.Ytlfccpmjlgcjpaa
open Go.RowKit
set_option linter.unusedVariables false
/-- The first byte dropped, as the slice says it. -/
theorem tail_sls {w : World} {b off c : Nat} {m : UInt8} {l : List UInt8} (h : SlS w (.slice (some ⟨b, off, none⟩) (m :: l).length c) (bv (m :: l))) (hc : ¬ c = 1) :
    SlS w (.slice (some ⟨b, off + 1, none⟩) ((m :: l).length - 1) (c - 1)) (bv l) := by
  have := sl_from h (show 1 ≤ (m :: l).length by simp) hc
  simpa using this
theorem tail_sls_cap {w : World} {b off c : Nat} {m : UInt8} {l : List UInt8} (h : SlS w (.slice (some ⟨b, off, none⟩) (m :: l).length c) (bv (m :: l))) (hc : c = 1) :
    SlS w (.slice (some ⟨b, off, none⟩) ((m :: l).length - 1) 0) (bv l) := by
  have := sl_from_cap h hc (show 1 ≤ (m :: l).length by simp)
  simpa using this
theorem rrvarint_err (g : Nat) (rest : List UInt8) (e : Int) (w : World) (h : Rr w g rest e) (he : ¬ e = 0) :
    Calls Try.prog 46 #[.pointer (some ⟨g, 0, none⟩)] w fun r w' => r = .returned (.int .u64 0) ∧ w = w' := by
  obtain ⟨v, c0, c1, f0, f1, _⟩ := h.cells
  have he' : (e == 0) = false := beq_eq_false_iff_ne.2 he
  clear h
  go_enter Try.func46, Try.ntmps46
  go_wp2_with fail
  go_loopw [4] (fun i wr => wr = w) (fun i _ => 0)
  case atStart => rfl
  case round =>
    obtain rfl := hrel
    go_wp2
    go_ret
    exact ⟨rfl, rfl⟩
theorem vsum (k x m : Nat) (hx : x < 2 ^ (7 * k)) (hk : k ≤ 9) (hm : m < 256) (h9 : k = 9 → m ≤ 1) :
    IntKind.u64.wrap ((x : Int) + IntKind.u64.wrap ((m : Int) % 128 * 2 ^ (7 * k))) = ((x + m % 128 * 2 ^ (7 * k) : Nat) : Int) := by
  have hb : x + m % 128 * 2 ^ (7 * k) < 2 ^ 64 := by
    by_cases h : k = 9
    · subst h
      have := h9 rfl
      have : m % 128 ≤ 1 := by omega
      have : m % 128 * 2 ^ (7 * 9) ≤ 1 * 2 ^ (7 * 9) := Nat.mul_le_mul_right _ this
      omega
    · have h2 : 2 ^ (7 * k) ≤ 2 ^ 56 := Nat.pow_le_pow_right (by omega) (by omega)
      have : m % 128 * 2 ^ (7 * k) ≤ 127 * 2 ^ 56 := Nat.mul_le_mul (by omega) h2
      omega
  have e1 : ((m : Int) % 128 * 2 ^ (7 * k)) = ((m % 128 * 2 ^ (7 * k) : Nat) : Int) := by simp
  have e2 : IntKind.u64.wrap ((m % 128 * 2 ^ (7 * k) : Nat) : Int) = ((m % 128 * 2 ^ (7 * k) : Nat) : Int) := IntWalk.u64_in _ (by omega)
  rw [e1, e2, IntWalk.u64_in _ (by omega)]
  omega
set_option maxHeartbeats 2000000 in
set_option maxRecDepth 4000 in
theorem rrvarint_ok (g : Nat) (rest : List UInt8) (w : World) (h : Rr w g rest 0) :
    Calls Try.prog 46 #[.pointer (some ⟨g, 0, none⟩)] w fun r w' => r = .returned (.int .u64 (rdV rest).1) ∧ Rr w' g (rdV rest).2.1 (rdV rest).2.2 ∧ Upd g w w' := by
  have H := Lib.hid h
  clear h
  go_enter Try.func46, Try.ntmps46
  go_wp2_with fail
  go_loopw [3, 4] (fun u i wr => ∃ (k x : Nat) (l : List UInt8), k ≤ 9 ∧ i = .int .i64 k ∧ u = .int .u64 x ∧ x < 2 ^ (7 * k) ∧ rdF (10 - k) k x l = rdV rest ∧ Rr wr g l 0 ∧ Upd g w wr) (fun _ i _ => 10 - (intOf i).toNat)
  case atStart => exact ⟨0, 0, rest, by omega, rfl, rfl, by decide, rfl, H.out, Upd.refl g w⟩
  case round =>
    obtain ⟨k, x, l, hk, rfl, rfl, hx, hr, hrr, hu⟩ := hrel
    obtain ⟨v, c0, c1, f0, f1, hs, hne⟩ := hrr.cells
    obtain ⟨a, c, rfl⟩ := hs.len
    rw [bv_length] at c0 hs hne
    have HR := Lib.hid hrr
    have Hs := Lib.hid hs
    have Hx := Lib.hid hx
    have Hr := Lib.hid hr
    have Hne := Lib.hid hne
    clear hrr hs hx hr hne H
    cases l with
    | nil =>
      have hv : rdV rest = (0, [], 3) := by rw [← Hr.out, show 10 - k = (9 - k) + 1 by omega]; rfl
      have Hv := Lib.hid hv
      clear hv
      rw [List.length_nil] at c0
      go_wp2_with (go_at_call 54; refine (rrfail_any g _ 3 _ HR.out).mono ?_; rintro e w1 ⟨⟨x, rfl⟩, hr1, hu1⟩)
      go_ret
      rw [Hv.out]
      exact ⟨rfl, hr1, hu.trans hu1⟩
    | cons m' l =>
      obtain ⟨b, off, rfl, hc⟩ : ∃ b off, a = some ⟨b, off, none⟩ ∧ wr.cell? ⟨b, off, none⟩ = some (.int .u8 (m'.toNat : Nat)) := by
        rcases Hs.out with ⟨_, h2⟩ | ⟨b, off, cap, h2, _, _, _, h3⟩
        · rw [bv_nil_iff] at h2; cases h2
        · simp only [Value.slice.injEq] at h2
          exact ⟨b, off, h2.1, h3 0 _ (bv_get (m' :: l) 0 (by simp))⟩
      have hbg : b < g := Hne.out b rfl
      have hstep := Hr.out
      rw [show 10 - k = (9 - k) + 1 by omega, rdF] at hstep
      have hm : m'.toNat < 256 := m'.toNat_lt
      have hl1 : 1 ≤ (m' :: l).length := by simp
      have hl0 : ¬ (m' :: l).length = 0 := by simp
      have hT : Hid ((¬ c = 1 → SlS wr (.slice (some ⟨b, off + 1, none⟩) ((m' :: l).length - 1) (c - 1)) (bv l)) ∧ (c = 1 → SlS wr (.slice (some ⟨b, off, none⟩) ((m' :: l).length - 1) 0) (bv l))) := Lib.hid ⟨fun h => tail_sls Hs.out h, fun h => tail_sls_cap Hs.out h⟩
      have hcl : (m' :: l).length ≤ c := by
        rcases Hs.out with ⟨_, h2⟩ | ⟨b, off, cap, h2, h3, _⟩
        · rw [bv_nil_iff] at h2; cases h2
        · simp only [Value.slice.injEq, bv_length] at h2 h3; omega
      generalize (m' :: l).length = n at *
      generalize m'.toNat = m at hc hstep hm
      have Hstep := Lib.hid hstep
      clear hstep Hr Hs
      by_cases hcap : c = 1
      · have hsl := hT.out.2 hcap
        have hne2 : ∀ b', (Value.slice (some ⟨b, off, none⟩) (n - 1) (0)).ownBlock = some b' → b' < g := by simpa [Value.ownBlock] using hbg
        have hR2 : Hid (Rr (wr.setCell ⟨g, 0, none⟩ (.slice (some ⟨b, off, none⟩) (n - 1) (0))) g l 0) := Lib.hid (HR.out.set0 hsl hne2)
        have hU2 : Hid (Upd g w (wr.setCell ⟨g, 0, none⟩ (.slice (some ⟨b, off, none⟩) (n - 1) (0)))) := Lib.hid (hu.setCell 0 _)
        clear hsl hne2 hu
        by_cases h1 : k = 9 ∧ 1 < m
        · obtain ⟨rfl, h1⟩ := h1
          have hv : rdV rest = (0, [], 9) := by rw [← Hstep.out, if_pos ⟨rfl, h1⟩]
          have Hv := Lib.hid hv
          clear hv Hstep Hx
          go_wp2_with (go_at_call 54; refine (rrfail_any g _ 9 _ hR2.out).mono ?_; rintro e w1 ⟨⟨x, rfl⟩, hr1, hu1⟩)
          go_ret
          rw [Hv.out]
          exact ⟨rfl, hr1, hU2.out.trans hu1⟩
        by_cases h2 : m = 0 ∧ 0 < k
        · obtain ⟨rfl, h2⟩ := h2
          have hv : rdV rest = (0, [], 4) := by rw [← Hstep.out, if_neg h1, if_pos ⟨rfl, h2⟩]
          have Hv := Lib.hid hv
          clear hv Hstep Hx h1
          have hk9 : ((k : Int) == 9) = true ∨ ((k : Int) == 9) = false := by cases ((k : Int) == 9) <;> simp
          rcases hk9 with hk9 | hk9
          all_goals
            go_wp2_with (go_at_call 54; refine (rrfail_any g _ 4 _ hR2.out).mono ?_; rintro e w1 ⟨⟨x, rfl⟩, hr1, hu1⟩)
            go_ret
            rw [Hv.out]
            exact ⟨rfl, hr1, hU2.out.trans hu1⟩
        have hstep2 := Hstep.out
        rw [if_neg h1, if_neg h2] at hstep2
        by_cases h3 : m < 128
        · rw [if_pos h3] at hstep2
          have Hv := Lib.hid hstep2
          have Hn := Lib.hid (vsum k x m Hx.out hk hm (by omega))
          clear hstep2 Hstep
          have hcases : (((k : Int) == 9) = true ∧ m ≤ 1 ∧ ((m : Int) == 0) = false) ∨ (((k : Int) == 9) = false ∧ ((m : Int) == 0) = true ∧ k ≤ 0) ∨ (((k : Int) == 9) = false ∧ ((m : Int) == 0) = false) := by
            by_cases h : k = 9
            · exact .inl ⟨by simp [h], by omega, beq_eq_false_iff_ne.2 (by omega)⟩
            · by_cases h' : m = 0
              · exact .inr (.inl ⟨beq_eq_false_iff_ne.2 (by omega), by simp [h'], by omega⟩)
              · exact .inr (.inr ⟨beq_eq_false_iff_ne.2 (by omega), beq_eq_false_iff_ne.2 (by omega)⟩)
          clear h1 h2
          rcases hcases with ⟨hk9, hm1, hm0⟩ | ⟨hk9, hm0, hk0⟩ | ⟨hk9, hm0⟩
          all_goals
            go_wp2
            all_goals
              go_ret
              rw [← Hv.out]
              exact ⟨congrArg (fun z => Ending.returned (.int .u64 z)) Hn.out, hR2.out, hU2.out⟩
        · rw [if_neg h3] at hstep2
          have Hv := Lib.hid hstep2
          have Hn := Lib.hid (vsum k x m Hx.out hk hm (by omega))
          have hk9 : ((k : Int) == 9) = false := beq_eq_false_iff_ne.2 (by omega)
          have hm0 : ((m : Int) == 0) = false := beq_eq_false_iff_ne.2 (by omega)
          have hk8 : k ≤ 8 := by omega
          have hxx : x + m % 128 * 2 ^ (7 * k) < 2 ^ (7 * (k + 1)) := by
            have hx := Hx.out
            have : 2 ^ (7 * (k + 1)) = 2 ^ (7 * k) * 128 := by rw [show 7 * (k + 1) = 7 * k + 7 by omega, Nat.pow_add]
            have h5 : m % 128 * 2 ^ (7 * k) ≤ 127 * 2 ^ (7 * k) := Nat.mul_le_mul_right _ (by omega)
            rw [this]; omega
          have Hxx := Lib.hid hxx
          clear hstep2 Hstep h1 h2 hxx
          go_wp2
          all_goals
            go_roundw
            case rel => exact ⟨k + 1, _, l, by omega, by go_num, congrArg (Value.int .u64) Hn.out, Hxx.out, by rw [← Hv.out, show 10 - (k + 1) = 9 - k by omega], hR2.out, hU2.out⟩
            case measure => simp [intOf]; omega
      · have hsl := hT.out.1 hcap
        have hne2 : ∀ b', (Value.slice (some ⟨b, off + 1, none⟩) (n - 1) (c - 1)).ownBlock = some b' → b' < g := by simpa [Value.ownBlock] using hbg
        have hR2 : Hid (Rr (wr.setCell ⟨g, 0, none⟩ (.slice (some ⟨b, off + 1, none⟩) (n - 1) (c - 1))) g l 0) := Lib.hid (HR.out.set0 hsl hne2)
        have hU2 : Hid (Upd g w (wr.setCell ⟨g, 0, none⟩ (.slice (some ⟨b, off + 1, none⟩) (n - 1) (c - 1)))) := Lib.hid (hu.setCell 0 _)
        clear hsl hne2 hu
        by_cases h1 : k = 9 ∧ 1 < m
        · obtain ⟨rfl, h1⟩ := h1
          have hv : rdV rest = (0, [], 9) := by rw [← Hstep.out, if_pos ⟨rfl, h1⟩]
          have Hv := Lib.hid hv
          clear hv Hstep Hx
          go_wp2_with (go_at_call 54; refine (rrfail_any g _ 9 _ hR2.out).mono ?_; rintro e w1 ⟨⟨x, rfl⟩, hr1, hu1⟩)
          go_ret
          rw [Hv.out]
          exact ⟨rfl, hr1, hU2.out.trans hu1⟩
        by_cases h2 : m = 0 ∧ 0 < k
        · obtain ⟨rfl, h2⟩ := h2
          have hv : rdV rest = (0, [], 4) := by rw [← Hstep.out, if_neg h1, if_pos ⟨rfl, h2⟩]
          have Hv := Lib.hid hv
          clear hv Hstep Hx h1
          have hk9 : ((k : Int) == 9) = true ∨ ((k : Int) == 9) = false := by cases ((k : Int) == 9) <;> simp
          rcases hk9 with hk9 | hk9
          all_goals
            go_wp2_with (go_at_call 54; refine (rrfail_any g _ 4 _ hR2.out).mono ?_; rintro e w1 ⟨⟨x, rfl⟩, hr1, hu1⟩)
            go_ret
            rw [Hv.out]
            exact ⟨rfl, hr1, hU2.out.trans hu1⟩
        have hstep2 := Hstep.out
        rw [if_neg h1, if_neg h2] at hstep2
        by_cases h3 : m < 128
        · rw [if_pos h3] at hstep2
          have Hv := Lib.hid hstep2
          have Hn := Lib.hid (vsum k x m Hx.out hk hm (by omega))
          clear hstep2 Hstep
          have hcases : (((k : Int) == 9) = true ∧ m ≤ 1 ∧ ((m : Int) == 0) = false) ∨ (((k : Int) == 9) = false ∧ ((m : Int) == 0) = true ∧ k ≤ 0) ∨ (((k : Int) == 9) = false ∧ ((m : Int) == 0) = false) := by
            by_cases h : k = 9
            · exact .inl ⟨by simp [h], by omega, beq_eq_false_iff_ne.2 (by omega)⟩
            · by_cases h' : m = 0
              · exact .inr (.inl ⟨beq_eq_false_iff_ne.2 (by omega), by simp [h'], by omega⟩)
              · exact .inr (.inr ⟨beq_eq_false_iff_ne.2 (by omega), beq_eq_false_iff_ne.2 (by omega)⟩)
          clear h1 h2
          rcases hcases with ⟨hk9, hm1, hm0⟩ | ⟨hk9, hm0, hk0⟩ | ⟨hk9, hm0⟩
          all_goals
            go_wp2
            all_goals
              go_ret
              rw [← Hv.out]
              exact ⟨congrArg (fun z => Ending.returned (.int .u64 z)) Hn.out, hR2.out, hU2.out⟩
        · rw [if_neg h3] at hstep2
          have Hv := Lib.hid hstep2
          have Hn := Lib.hid (vsum k x m Hx.out hk hm (by omega))
          have hk9 : ((k : Int) == 9) = false := beq_eq_false_iff_ne.2 (by omega)
          have hm0 : ((m : Int) == 0) = false := beq_eq_false_iff_ne.2 (by omega)
          have hk8 : k ≤ 8 := by omega
          have hxx : x + m % 128 * 2 ^ (7 * k) < 2 ^ (7 * (k + 1)) := by
            have hx := Hx.out
            have : 2 ^ (7 * (k + 1)) = 2 ^ (7 * k) * 128 := by rw [show 7 * (k + 1) = 7 * k + 7 by omega, Nat.pow_add]
            have h5 : m % 128 * 2 ^ (7 * k) ≤ 127 * 2 ^ (7 * k) := Nat.mul_le_mul_right _ (by omega)
            rw [this]; omega
          have Hxx := Lib.hid hxx
          clear hstep2 Hstep h1 h2 hxx
          go_wp2
          all_goals
            go_roundw
            case rel => exact ⟨k + 1, _, l, by omega, by go_num, congrArg (Value.int .u64) Hn.out, Hxx.out, by rw [← Hv.out, show 10 - (k + 1) = 9 - k by omega], hR2.out, hU2.out⟩
            case measure => simp [intOf]; omega
end Go.Proofs.Ytlfccpmjlgcjpaa
