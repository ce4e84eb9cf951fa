/- Texts of one bundle: Rrd, RrdV, RrdT, RrdN, RrdSep. -/
import Derived.Test.YtcicclghgbdgnaaDoorBkD
/- Contracts of the document's answer for the reader. -/
namespace Go.Proofs.YtcicclghgbdgnaaDoor
open Go.RowKit
set_option linter.unusedVariables false
variable {Q : Nat → Prop}
/-- Block g is a reader of the document's answer. -/
def RrQ (Q : Nat → Prop) (w : World) (g : Nat) (rest : List UInt8) (e : Int) : Prop :=
  ∃ v, w.heap[g]? = some (.cells #[v, .int .i64 e] 97 (0, 0)) ∧ SlS w v (bv rest) ∧ (∀ b, v.ownBlock = some b → b < g ∧ Q b)
theorem RrQ.lt {w : World} {g : Nat} {rest : List UInt8} {e : Int} (h : RrQ Q w g rest e) : g < w.heap.size := by
  obtain ⟨v, h, _⟩ := h; exact (Array.getElem?_eq_some_iff.1 h).1
theorem RrQ.keep {w w' : World} {g : Nat} {rest : List UInt8} {e : Int} (h : RrQ Q w g rest e) (hb : Below w.heap.size w w') : RrQ Q w' g rest e := by
  have hlt := h.lt
  obtain ⟨v, h1, h2, h3⟩ := h
  exact ⟨v, by rw [hb.block g hlt]; exact h1, h2.below hb, h3⟩
theorem RrQ.cells {w : World} {g : Nat} {rest : List UInt8} {e : Int} (h : RrQ Q w g rest e) :
    ∃ v, w.cell? ⟨g, 0, none⟩ = some v ∧ w.cell? ⟨g, 1, none⟩ = some (.int .i64 e) ∧ w.frozen? ⟨g, 0, none⟩ = false ∧ w.frozen? ⟨g, 1, none⟩ = false ∧ SlS w v (bv rest) ∧ (∀ b, v.ownBlock = some b → b < g ∧ Q b) := by
  obtain ⟨v, h1, h2, h3⟩ := h
  refine ⟨v, ?_, ?_, ?_, ?_, h2, h3⟩
  · unfold World.cell?; rw [h1]; rfl
  · unfold World.cell?; rw [h1]; rfl
  · unfold World.frozen?; rw [h1]; rfl
  · unfold World.frozen?; rw [h1]; rfl
theorem RrQ.set0 {w : World} {g : Nat} {rest : List UInt8} {e : Int} (h : RrQ Q w g rest e) {v : Value} {l : List UInt8} (hv : SlS w v (bv l)) (hn : ∀ b, v.ownBlock = some b → b < g ∧ Q b) :
    RrQ Q (w.setCell ⟨g, 0, none⟩ v) g l e := by
  obtain ⟨v0, h1, _⟩ := h
  exact ⟨v, by rw [heap_setCell_at h1]; rfl, hv.upd ((Upd.refl g w).setCell 0 v) (fun e => Nat.lt_irrefl _ (hn g e).1), hn⟩
theorem RrQ.set1 {w : World} {g : Nat} {rest : List UInt8} {e : Int} (h : RrQ Q w g rest e) (e' : Int) :
    RrQ Q (w.setCell ⟨g, 1, none⟩ (.int .i64 e')) g rest e' := by
  obtain ⟨v, h1, h2, h3⟩ := h
  exact ⟨v, by rw [heap_setCell_at h1]; rfl, h2.upd ((Upd.refl g w).setCell 1 _) (fun e => Nat.lt_irrefl _ (h3 g e).1), h3⟩
theorem rrfail_any (g : Nat) (rest : List UInt8) (e' : Int) (w : World) (h : RrQ Q w g rest 0) :
    Calls Tryd.prog 89 #[.pointer (some ⟨g, 0, none⟩), .int .i64 e'] w fun r w' => (∃ x, r = .returned x) ∧ RrQ Q w' g [] e' ∧ Upd g w w' := by
  obtain ⟨v, c0, c1, f0, f1, _⟩ := h.cells
  have H := Lib.hid h
  clear h
  go_enter Tryd.func89, Tryd.ntmps89
  go_wp2
  go_end0
  exact ⟨⟨_, rfl⟩, (H.out.set1 e').set0 (sls_nil _) (by simp [Value.ownBlock]), ((Upd.refl g w).setCell 1 _).setCell 0 _⟩
theorem rrleft_any (g : Nat) (rest : List UInt8) (e : Int) (w : World) (h : RrQ Q w g rest e) :
    Calls Tryd.prog 81 #[.pointer (some ⟨g, 0, none⟩)] w fun r w' => r = .returned (.int .i64 (rest.length : Nat)) ∧ w = w' := by
  obtain ⟨v, c0, c1, _, _, hs, _⟩ := h.cells
  obtain ⟨a, c, rfl⟩ := hs.len
  rw [bv_length] at c0
  clear h hs
  go_enter Tryd.func81, Tryd.ntmps81
  go_wp2
  go_ret
  exact ⟨rfl, rfl⟩
theorem rrerr_any (g : Nat) (rest : List UInt8) (e : Int) (w : World) (h : RrQ Q w g rest e) :
    Calls Tryd.prog 79 #[.pointer (some ⟨g, 0, none⟩)] w fun r w' => r = .returned (.int .i64 e) ∧ w = w' := by
  obtain ⟨v, c0, c1, _⟩ := h.cells
  clear h
  go_enter Tryd.func79, Tryd.ntmps79
  go_wp2
  go_ret
  exact ⟨rfl, rfl⟩
theorem rrend_any (g : Nat) (rest : List UInt8) (e : Int) (w : World) (h : RrQ Q w g rest e) :
    Calls Tryd.prog 83 #[.pointer (some ⟨g, 0, none⟩)] w fun r w' => r = .returned (.int .i64 (endErr rest e)) ∧ w = w' := by
  obtain ⟨v, c0, c1, _, _, hs, _⟩ := h.cells
  obtain ⟨a, c, rfl⟩ := hs.len
  rw [bv_length] at c0
  clear h hs
  unfold endErr
  by_cases h0 : e = 0
  · subst h0
    by_cases h1 : 0 < rest.length
    · rw [if_pos ⟨rfl, h1⟩]
      go_enter Tryd.func83, Tryd.ntmps83
      go_wp2
      go_ret
      exact ⟨rfl, rfl⟩
    · rw [if_neg (by omega)]
      go_enter Tryd.func83, Tryd.ntmps83
      go_wp2
      go_ret
      exact ⟨rfl, rfl⟩
  · rw [if_neg (by omega)]
    have h1 : (e == 0) = false := beq_eq_false_iff_ne.2 h0
    go_enter Tryd.func83, Tryd.ntmps83
    go_wp2
    go_ret
    exact ⟨rfl, rfl⟩
end Go.Proofs.YtcicclghgbdgnaaDoor

/- Contracts of the document's answer for the reader: Varint and Int. -/
namespace Go.Proofs.YtcicclghgbdgnaaDoor
open Go.RowKit
set_option linter.unusedVariables false
variable {Q : Nat → Prop}
/-- The first byte dropped, as the slice says it. -/
theorem tail_sls {w : World} {b off c : Nat} {m : UInt8} {l : List UInt8} (h : SlS w (.slice (some ⟨b, off, none⟩) (m :: l).length c) (bv (m :: l))) (hc : ¬ c = 1) :
    SlS w (.slice (some ⟨b, off + 1, none⟩) ((m :: l).length - 1) (c - 1)) (bv l) := by
  have := sl_from h (show 1 ≤ (m :: l).length by simp) hc
  simpa using this
theorem tail_sls_cap {w : World} {b off c : Nat} {m : UInt8} {l : List UInt8} (h : SlS w (.slice (some ⟨b, off, none⟩) (m :: l).length c) (bv (m :: l))) (hc : c = 1) :
    SlS w (.slice (some ⟨b, off, none⟩) ((m :: l).length - 1) 0) (bv l) := by
  have := sl_from_cap h hc (show 1 ≤ (m :: l).length by simp)
  simpa using this
theorem rrvarint_err (g : Nat) (rest : List UInt8) (e : Int) (w : World) (h : RrQ Q w g rest e) (he : ¬ e = 0) :
    Calls Tryd.prog 78 #[.pointer (some ⟨g, 0, none⟩)] w fun r w' => r = .returned (.int .u64 0) ∧ w = w' := by
  obtain ⟨v, c0, c1, f0, f1, _⟩ := h.cells
  have he' : (e == 0) = false := beq_eq_false_iff_ne.2 he
  clear h
  go_enter Tryd.func78, Tryd.ntmps78
  go_wp2_with fail
  go_loopw [4] (fun i wr => wr = w) (fun i _ => 0)
  case atStart => rfl
  case round =>
    obtain rfl := hrel
    go_wp2
    go_ret
    exact ⟨rfl, rfl⟩
theorem vsum (k x m : Nat) (hx : x < 2 ^ (7 * k)) (hk : k ≤ 9) (hm : m < 256) (h9 : k = 9 → m ≤ 1) :
    IntKind.u64.wrap ((x : Int) + IntKind.u64.wrap ((m : Int) % 128 * 2 ^ (7 * k))) = ((x + m % 128 * 2 ^ (7 * k) : Nat) : Int) := by
  have hb : x + m % 128 * 2 ^ (7 * k) < 2 ^ 64 := by
    by_cases h : k = 9
    · subst h
      have := h9 rfl
      have : m % 128 ≤ 1 := by omega
      have : m % 128 * 2 ^ (7 * 9) ≤ 1 * 2 ^ (7 * 9) := Nat.mul_le_mul_right _ this
      omega
    · have h2 : 2 ^ (7 * k) ≤ 2 ^ 56 := Nat.pow_le_pow_right (by omega) (by omega)
      have : m % 128 * 2 ^ (7 * k) ≤ 127 * 2 ^ 56 := Nat.mul_le_mul (by omega) h2
      omega
  have e1 : ((m : Int) % 128 * 2 ^ (7 * k)) = ((m % 128 * 2 ^ (7 * k) : Nat) : Int) := by simp
  have e2 : IntKind.u64.wrap ((m % 128 * 2 ^ (7 * k) : Nat) : Int) = ((m % 128 * 2 ^ (7 * k) : Nat) : Int) := IntWalk.u64_in _ (by omega)
  rw [e1, e2, IntWalk.u64_in _ (by omega)]
  omega
set_option maxHeartbeats 2000000 in
set_option maxRecDepth 4000 in
theorem rrvarint_ok (g : Nat) (rest : List UInt8) (w : World) (h : RrQ Q w g rest 0) :
    Calls Tryd.prog 78 #[.pointer (some ⟨g, 0, none⟩)] w fun r w' => r = .returned (.int .u64 (rdV rest).1) ∧ RrQ Q w' g (rdV rest).2.1 (rdV rest).2.2 ∧ Upd g w w' := by
  have H := Lib.hid h
  clear h
  go_enter Tryd.func78, Tryd.ntmps78
  go_wp2_with fail
  go_loopw [3, 4] (fun u i wr => ∃ (k x : Nat) (l : List UInt8), k ≤ 9 ∧ i = .int .i64 k ∧ u = .int .u64 x ∧ x < 2 ^ (7 * k) ∧ rdF (10 - k) k x l = rdV rest ∧ RrQ Q wr g l 0 ∧ Upd g w wr) (fun _ i _ => 10 - (intOf i).toNat)
  case atStart => exact ⟨0, 0, rest, by omega, rfl, rfl, by decide, rfl, H.out, Upd.refl g w⟩
  case round =>
    obtain ⟨k, x, l, hk, rfl, rfl, hx, hr, hrr, hu⟩ := hrel
    obtain ⟨v, c0, c1, f0, f1, hs, hne⟩ := hrr.cells
    obtain ⟨a, c, rfl⟩ := hs.len
    rw [bv_length] at c0 hs hne
    have HR := Lib.hid hrr
    have Hs := Lib.hid hs
    have Hx := Lib.hid hx
    have Hr := Lib.hid hr
    have Hne := Lib.hid hne
    clear hrr hs hx hr hne H
    cases l with
    | nil =>
      have hv : rdV rest = (0, [], 3) := by rw [← Hr.out, show 10 - k = (9 - k) + 1 by omega]; rfl
      have Hv := Lib.hid hv
      clear hv
      rw [List.length_nil] at c0
      go_wp2_with (go_at_call 89; refine (rrfail_any g _ 3 _ HR.out).mono ?_; rintro e w1 ⟨⟨x, rfl⟩, hr1, hu1⟩)
      go_ret
      rw [Hv.out]
      exact ⟨rfl, hr1, hu.trans hu1⟩
    | cons m' l =>
      obtain ⟨b, off, rfl, hc⟩ : ∃ b off, a = some ⟨b, off, none⟩ ∧ wr.cell? ⟨b, off, none⟩ = some (.int .u8 (m'.toNat : Nat)) := by
        rcases Hs.out with ⟨_, h2⟩ | ⟨b, off, cap, h2, _, _, _, h3⟩
        · rw [bv_nil_iff] at h2; cases h2
        · simp only [Value.slice.injEq] at h2
          exact ⟨b, off, h2.1, h3 0 _ (bv_get (m' :: l) 0 (by simp))⟩
      have hbg : b < g ∧ Q b := Hne.out b rfl
      have hstep := Hr.out
      rw [show 10 - k = (9 - k) + 1 by omega, rdF] at hstep
      have hm : m'.toNat < 256 := m'.toNat_lt
      have hl1 : 1 ≤ (m' :: l).length := by simp
      have hl0 : ¬ (m' :: l).length = 0 := by simp
      have hT : Hid ((¬ c = 1 → SlS wr (.slice (some ⟨b, off + 1, none⟩) ((m' :: l).length - 1) (c - 1)) (bv l)) ∧ (c = 1 → SlS wr (.slice (some ⟨b, off, none⟩) ((m' :: l).length - 1) 0) (bv l))) := Lib.hid ⟨fun h => tail_sls Hs.out h, fun h => tail_sls_cap Hs.out h⟩
      have hcl : (m' :: l).length ≤ c := by
        rcases Hs.out with ⟨_, h2⟩ | ⟨b, off, cap, h2, h3, _⟩
        · rw [bv_nil_iff] at h2; cases h2
        · simp only [Value.slice.injEq, bv_length] at h2 h3; omega
      generalize (m' :: l).length = n at *
      generalize m'.toNat = m at hc hstep hm
      have Hstep := Lib.hid hstep
      clear hstep Hr Hs
      by_cases hcap : c = 1
      · have hsl := hT.out.2 hcap
        have hne2 : ∀ b', (Value.slice (some ⟨b, off, none⟩) (n - 1) (0)).ownBlock = some b' → b' < g ∧ Q b' := by simpa [Value.ownBlock] using hbg
        have hR2 : Hid (RrQ Q (wr.setCell ⟨g, 0, none⟩ (.slice (some ⟨b, off, none⟩) (n - 1) (0))) g l 0) := Lib.hid (HR.out.set0 hsl hne2)
        have hU2 : Hid (Upd g w (wr.setCell ⟨g, 0, none⟩ (.slice (some ⟨b, off, none⟩) (n - 1) (0)))) := Lib.hid (hu.setCell 0 _)
        clear hsl hne2 hu
        by_cases h1 : k = 9 ∧ 1 < m
        · obtain ⟨rfl, h1⟩ := h1
          have hv : rdV rest = (0, [], 9) := by rw [← Hstep.out, if_pos ⟨rfl, h1⟩]
          have Hv := Lib.hid hv
          clear hv Hstep Hx
          go_wp2_with (go_at_call 89; refine (rrfail_any g _ 9 _ hR2.out).mono ?_; rintro e w1 ⟨⟨x, rfl⟩, hr1, hu1⟩)
          go_ret
          rw [Hv.out]
          exact ⟨rfl, hr1, hU2.out.trans hu1⟩
        by_cases h2 : m = 0 ∧ 0 < k
        · obtain ⟨rfl, h2⟩ := h2
          have hv : rdV rest = (0, [], 4) := by rw [← Hstep.out, if_neg h1, if_pos ⟨rfl, h2⟩]
          have Hv := Lib.hid hv
          clear hv Hstep Hx h1
          have hk9 : ((k : Int) == 9) = true ∨ ((k : Int) == 9) = false := by cases ((k : Int) == 9) <;> simp
          rcases hk9 with hk9 | hk9
          all_goals
            go_wp2_with (go_at_call 89; refine (rrfail_any g _ 4 _ hR2.out).mono ?_; rintro e w1 ⟨⟨x, rfl⟩, hr1, hu1⟩)
            go_ret
            rw [Hv.out]
            exact ⟨rfl, hr1, hU2.out.trans hu1⟩
        have hstep2 := Hstep.out
        rw [if_neg h1, if_neg h2] at hstep2
        by_cases h3 : m < 128
        · rw [if_pos h3] at hstep2
          have Hv := Lib.hid hstep2
          have Hn := Lib.hid (vsum k x m Hx.out hk hm (by omega))
          clear hstep2 Hstep
          have hcases : (((k : Int) == 9) = true ∧ m ≤ 1 ∧ ((m : Int) == 0) = false) ∨ (((k : Int) == 9) = false ∧ ((m : Int) == 0) = true ∧ k ≤ 0) ∨ (((k : Int) == 9) = false ∧ ((m : Int) == 0) = false) := by
            by_cases h : k = 9
            · exact .inl ⟨by simp [h], by omega, beq_eq_false_iff_ne.2 (by omega)⟩
            · by_cases h' : m = 0
              · exact .inr (.inl ⟨beq_eq_false_iff_ne.2 (by omega), by simp [h'], by omega⟩)
              · exact .inr (.inr ⟨beq_eq_false_iff_ne.2 (by omega), beq_eq_false_iff_ne.2 (by omega)⟩)
          clear h1 h2
          rcases hcases with ⟨hk9, hm1, hm0⟩ | ⟨hk9, hm0, hk0⟩ | ⟨hk9, hm0⟩
          all_goals
            go_wp2
            all_goals
              go_ret
              rw [← Hv.out]
              exact ⟨congrArg (fun z => Ending.returned (.int .u64 z)) Hn.out, hR2.out, hU2.out⟩
        · rw [if_neg h3] at hstep2
          have Hv := Lib.hid hstep2
          have Hn := Lib.hid (vsum k x m Hx.out hk hm (by omega))
          have hk9 : ((k : Int) == 9) = false := beq_eq_false_iff_ne.2 (by omega)
          have hm0 : ((m : Int) == 0) = false := beq_eq_false_iff_ne.2 (by omega)
          have hk8 : k ≤ 8 := by omega
          have hxx : x + m % 128 * 2 ^ (7 * k) < 2 ^ (7 * (k + 1)) := by
            have hx := Hx.out
            have : 2 ^ (7 * (k + 1)) = 2 ^ (7 * k) * 128 := by rw [show 7 * (k + 1) = 7 * k + 7 by omega, Nat.pow_add]
            have h5 : m % 128 * 2 ^ (7 * k) ≤ 127 * 2 ^ (7 * k) := Nat.mul_le_mul_right _ (by omega)
            rw [this]; omega
          have Hxx := Lib.hid hxx
          clear hstep2 Hstep h1 h2 hxx
          go_wp2
          all_goals
            go_roundw
            case rel => exact ⟨k + 1, _, l, by omega, by go_num, congrArg (Value.int .u64) Hn.out, Hxx.out, by rw [← Hv.out, show 10 - (k + 1) = 9 - k by omega], hR2.out, hU2.out⟩
            case measure => simp [intOf]; omega
      · have hsl := hT.out.1 hcap
        have hne2 : ∀ b', (Value.slice (some ⟨b, off + 1, none⟩) (n - 1) (c - 1)).ownBlock = some b' → b' < g ∧ Q b' := by simpa [Value.ownBlock] using hbg
        have hR2 : Hid (RrQ Q (wr.setCell ⟨g, 0, none⟩ (.slice (some ⟨b, off + 1, none⟩) (n - 1) (c - 1))) g l 0) := Lib.hid (HR.out.set0 hsl hne2)
        have hU2 : Hid (Upd g w (wr.setCell ⟨g, 0, none⟩ (.slice (some ⟨b, off + 1, none⟩) (n - 1) (c - 1)))) := Lib.hid (hu.setCell 0 _)
        clear hsl hne2 hu
        by_cases h1 : k = 9 ∧ 1 < m
        · obtain ⟨rfl, h1⟩ := h1
          have hv : rdV rest = (0, [], 9) := by rw [← Hstep.out, if_pos ⟨rfl, h1⟩]
          have Hv := Lib.hid hv
          clear hv Hstep Hx
          go_wp2_with (go_at_call 89; refine (rrfail_any g _ 9 _ hR2.out).mono ?_; rintro e w1 ⟨⟨x, rfl⟩, hr1, hu1⟩)
          go_ret
          rw [Hv.out]
          exact ⟨rfl, hr1, hU2.out.trans hu1⟩
        by_cases h2 : m = 0 ∧ 0 < k
        · obtain ⟨rfl, h2⟩ := h2
          have hv : rdV rest = (0, [], 4) := by rw [← Hstep.out, if_neg h1, if_pos ⟨rfl, h2⟩]
          have Hv := Lib.hid hv
          clear hv Hstep Hx h1
          have hk9 : ((k : Int) == 9) = true ∨ ((k : Int) == 9) = false := by cases ((k : Int) == 9) <;> simp
          rcases hk9 with hk9 | hk9
          all_goals
            go_wp2_with (go_at_call 89; refine (rrfail_any g _ 4 _ hR2.out).mono ?_; rintro e w1 ⟨⟨x, rfl⟩, hr1, hu1⟩)
            go_ret
            rw [Hv.out]
            exact ⟨rfl, hr1, hU2.out.trans hu1⟩
        have hstep2 := Hstep.out
        rw [if_neg h1, if_neg h2] at hstep2
        by_cases h3 : m < 128
        · rw [if_pos h3] at hstep2
          have Hv := Lib.hid hstep2
          have Hn := Lib.hid (vsum k x m Hx.out hk hm (by omega))
          clear hstep2 Hstep
          have hcases : (((k : Int) == 9) = true ∧ m ≤ 1 ∧ ((m : Int) == 0) = false) ∨ (((k : Int) == 9) = false ∧ ((m : Int) == 0) = true ∧ k ≤ 0) ∨ (((k : Int) == 9) = false ∧ ((m : Int) == 0) = false) := by
            by_cases h : k = 9
            · exact .inl ⟨by simp [h], by omega, beq_eq_false_iff_ne.2 (by omega)⟩
            · by_cases h' : m = 0
              · exact .inr (.inl ⟨beq_eq_false_iff_ne.2 (by omega), by simp [h'], by omega⟩)
              · exact .inr (.inr ⟨beq_eq_false_iff_ne.2 (by omega), beq_eq_false_iff_ne.2 (by omega)⟩)
          clear h1 h2
          rcases hcases with ⟨hk9, hm1, hm0⟩ | ⟨hk9, hm0, hk0⟩ | ⟨hk9, hm0⟩
          all_goals
            go_wp2
            all_goals
              go_ret
              rw [← Hv.out]
              exact ⟨congrArg (fun z => Ending.returned (.int .u64 z)) Hn.out, hR2.out, hU2.out⟩
        · rw [if_neg h3] at hstep2
          have Hv := Lib.hid hstep2
          have Hn := Lib.hid (vsum k x m Hx.out hk hm (by omega))
          have hk9 : ((k : Int) == 9) = false := beq_eq_false_iff_ne.2 (by omega)
          have hm0 : ((m : Int) == 0) = false := beq_eq_false_iff_ne.2 (by omega)
          have hk8 : k ≤ 8 := by omega
          have hxx : x + m % 128 * 2 ^ (7 * k) < 2 ^ (7 * (k + 1)) := by
            have hx := Hx.out
            have : 2 ^ (7 * (k + 1)) = 2 ^ (7 * k) * 128 := by rw [show 7 * (k + 1) = 7 * k + 7 by omega, Nat.pow_add]
            have h5 : m % 128 * 2 ^ (7 * k) ≤ 127 * 2 ^ (7 * k) := Nat.mul_le_mul_right _ (by omega)
            rw [this]; omega
          have Hxx := Lib.hid hxx
          clear hstep2 Hstep h1 h2 hxx
          go_wp2
          all_goals
            go_roundw
            case rel => exact ⟨k + 1, _, l, by omega, by go_num, congrArg (Value.int .u64) Hn.out, Hxx.out, by rw [← Hv.out, show 10 - (k + 1) = 9 - k by omega], hR2.out, hU2.out⟩
            case measure => simp [intOf]; omega
end Go.Proofs.YtcicclghgbdgnaaDoor

/- Contracts of the document's answer for the reader: Int and Text. -/
namespace Go.Proofs.YtcicclghgbdgnaaDoor
open Go.RowKit
set_option linter.unusedVariables false
variable {Q : Nat → Prop}
theorem rrvarint_any (g : Nat) (rest : List UInt8) (e : Int) (w : World) (h : RrQ Q w g rest e) :
    Calls Tryd.prog 78 #[.pointer (some ⟨g, 0, none⟩)] w fun r w' => r = .returned (.int .u64 (rdVe rest e).1) ∧ RrQ Q w' g (rdVe rest e).2.1 (rdVe rest e).2.2 ∧ Upd g w w' := by
  unfold rdVe
  by_cases he : e = 0
  · subst he; exact rrvarint_ok g rest w h
  · rw [if_neg he]
    refine (rrvarint_err g rest e w h he).mono ?_
    rintro r w' ⟨rfl, rfl⟩
    exact ⟨rfl, h, Upd.refl _ _⟩
theorem rrint_any (g : Nat) (rest : List UInt8) (e : Int) (w : World) (h : RrQ Q w g rest e) :
    Calls Tryd.prog 91 #[.pointer (some ⟨g, 0, none⟩)] w fun r w' => r = .returned (.int .i64 (zag (rdVe rest e).1)) ∧ RrQ Q w' g (rdVe rest e).2.1 (rdVe rest e).2.2 ∧ Upd g w w' := by
  have hu : U64 (rdVe rest e).1 := by unfold rdVe; split; exact rdV_u64 _; exact Nat.zero_lt_succ _
  have H := Lib.hid h
  clear h
  go_enter Tryd.func91, Tryd.ntmps91
  go_wp2_with fail
  refine (rrvarint_any g rest e _ H.out).mono ?_
  rintro r w1 ⟨rfl, hr1, hu1⟩
  go_wp2_with fail
  refine (rzag_any _ _ hu).mono ?_
  rintro r w2 ⟨rfl, rfl⟩
  go_wp2
  go_ret
  exact ⟨rfl, hr1, hu1⟩
theorem RrQ.len {w : World} {g : Nat} {rest : List UInt8} {e : Int} (h : RrQ Q w g rest e) :
    ∃ a c, w.cell? ⟨g, 0, none⟩ = some (.slice a rest.length c) ∧ w.cell? ⟨g, 1, none⟩ = some (.int .i64 e) ∧ w.frozen? ⟨g, 0, none⟩ = false ∧ w.frozen? ⟨g, 1, none⟩ = false ∧ SlS w (.slice a rest.length c) (bv rest) ∧ (∀ n c' b, (Value.slice a n c').ownBlock = some b → b < g ∧ Q b) := by
  obtain ⟨v, c0, c1, f0, f1, hs, hne⟩ := h.cells
  obtain ⟨a, c, rfl⟩ := hs.len
  rw [bv_length] at c0 hs
  refine ⟨a, c, c0, c1, f0, f1, hs, fun n c' => ?_⟩
  cases a with
  | none => simp [Value.ownBlock]
  | some a => simpa [Value.ownBlock] using hne
set_option maxRecDepth 100000 in
theorem rrtext_ok (g : Nat) (rest : List UInt8) (w : World) (h : RrQ Q w g rest 0) (hlen : rest.length ≤ 1099511627776) :
    Calls Tryd.prog 82 #[.pointer (some ⟨g, 0, none⟩)] w fun r w' => (∃ v', r = .returned v' ∧ Own w' w.heap.size 5 v' (bv (rdT rest).1)) ∧ RrQ Q w' g (rdT rest).2.1 (rdT rest).2.2 ∧ Upd g w w' := by
  have H := Lib.hid h
  have hlt := h.lt
  have hT : rdT rest = if (rdV rest).2.2 ≠ 0 then ([], (rdV rest).2.1, (rdV rest).2.2)
    else if (rdV rest).2.1.length < (rdV rest).1 then ([], [], 3)
    else ((rdV rest).2.1.take (rdV rest).1, (rdV rest).2.1.drop (rdV rest).1, 0) := rfl
  clear h
  go_enter Tryd.func82, Tryd.ntmps82
  go_wp2_with fail
  refine (rrvarint_ok g rest _ H.out).mono ?_
  rintro r w1 ⟨rfl, hr1, hu1⟩
  have hl2 : (rdV rest).2.1.length ≤ rest.length := rdV_len _
  have hu : U64 (rdV rest).1 := rdV_u64 _
  generalize rdV rest = q at *
  obtain ⟨u, l, e⟩ := q
  dsimp only at *
  have H1 := Lib.hid hr1
  clear hr1
  by_cases he : e = 0
  · subst he
    rw [if_neg (by simp)] at hT
    obtain ⟨a, c, c0, c1, f0, f1, hs, hne⟩ := H1.out.len
    have Hs := Lib.hid hs
    clear hs
    by_cases hul : l.length < u
    · rw [if_pos hul] at hT
      have HT := Lib.hid hT
      clear hT
      go_wp2_with fail
      refine (rrfail_any g l 3 _ H1.out).mono ?_
      rintro e w2 ⟨⟨x, rfl⟩, hr2, hu2⟩
      clear c0 c1 f0 f1
      obtain ⟨v2, c0, c1, _⟩ := hr2.cells
      have H2 := Lib.hid hr2
      clear hr2
      go_wp2
      go_ret
      rw [HT.out]
      exact ⟨⟨_, rfl, own_nil _ _⟩, H2.out, hu1.trans hu2⟩
    · rw [if_neg hul] at hT
      have HT := Lib.hid hT
      clear hT
      rcases sl_form Hs.out with ⟨rfl, rfl, rfl⟩ | ⟨b, off, rfl, hle⟩
      · obtain rfl : u = 0 := by simp at hul; omega
        clear hul
        go_wp2_with fail
        refine (copyBytes_any _ [] _ (sl_nil _) (by simp)).mono ?_
        rintro e w2 ⟨⟨v2, rfl, ho2⟩, hb2⟩
        have hg1 := H1.out.lt
        have c0' := (hb2.cell (p := ⟨g, 0, none⟩) hg1).trans c0
        have f0' := (hb2.frozen (p := ⟨g, 0, none⟩) hg1).trans f0
        have H2 := Lib.hid (H1.out.keep hb2)
        clear c0 f0 c1 f1
        have hsl := sls_nil w2
        go_wp2
        go_ret
        rw [HT.out]
        exact ⟨⟨v2, rfl, (ho2.base hu1.size).upd ((Upd.refl g w2).setCell 0 _) (ho2.ne hg1)⟩, H2.out.set0 hsl (hne 0 0), hu1.trans ((below_upd hb2 g).setCell 0 _)⟩
      · go_wp2_with fail
        refine (copyBytes_any _ (l.take u) _ (sl_take Hs.out (by omega)).sl (by simp; omega)).mono ?_
        rintro e w2 ⟨⟨v2, rfl, ho2⟩, hb2⟩
        have hg1 := H1.out.lt
        have c0' := (hb2.cell (p := ⟨g, 0, none⟩) hg1).trans c0
        have f0' := (hb2.frozen (p := ⟨g, 0, none⟩) hg1).trans f0
        have H2 := Lib.hid (H1.out.keep hb2)
        clear c0 f0 c1 f1
        by_cases hcap : c = u
        · have hsl := sl_from_cap (Hs.out.below hb2) hcap (show u ≤ l.length by omega)
          have Hsl := Lib.hid hsl
          have Hcap := Lib.hid hcap
          clear hsl
          go_wp2
          go_ret
          rw [HT.out]
          exact ⟨⟨v2, rfl, (ho2.base hu1.size).upd ((Upd.refl g w2).setCell 0 _) (ho2.ne hg1)⟩, H2.out.set0 Hsl.out (hne 0 0), hu1.trans ((below_upd hb2 g).setCell 0 _)⟩
        · have hsl := sl_from (Hs.out.below hb2) (show u ≤ l.length by omega) hcap
          go_wp2
          go_ret
          rw [HT.out]
          exact ⟨⟨v2, rfl, (ho2.base hu1.size).upd ((Upd.refl g w2).setCell 0 _) (ho2.ne hg1)⟩, H2.out.set0 hsl (hne 0 0), hu1.trans ((below_upd hb2 g).setCell 0 _)⟩
  · rw [if_pos he] at hT
    have HT := Lib.hid hT
    have he1 : (e == 0) = false := beq_eq_false_iff_ne.2 he
    have he' : (e != 0) = true := by rw [bne_iff_ne]; exact he
    obtain ⟨v1, c0, c1, _⟩ := H1.out.cells
    clear hT
    go_wp2
    go_ret
    rw [HT.out]
    exact ⟨⟨_, rfl, own_nil _ _⟩, H1.out, hu1⟩
theorem rrtext_err (g : Nat) (rest : List UInt8) (e : Int) (w : World) (h : RrQ Q w g rest e) (he : ¬ e = 0) :
    Calls Tryd.prog 82 #[.pointer (some ⟨g, 0, none⟩)] w fun r w' => r = .returned (.slice none 0 0) ∧ RrQ Q w' g rest e ∧ Upd g w w' := by
  have H := Lib.hid h
  have he1 : (e == 0) = false := beq_eq_false_iff_ne.2 he
  have he' : (e != 0) = true := by rw [bne_iff_ne]; exact he
  obtain ⟨v1, c0, c1, _⟩ := h.cells
  have He := Lib.hid he
  clear h he
  go_enter Tryd.func82, Tryd.ntmps82
  go_wp2_with (go_at_call 78; refine (rrvarint_err _ _ _ _ H.out He.out).mono ?_; rintro r w1 ⟨rfl, rfl⟩)
  go_ret
  exact ⟨rfl, H.out, Upd.refl _ _⟩
theorem rrtext_any (g : Nat) (rest : List UInt8) (e : Int) (w : World) (h : RrQ Q w g rest e) (hlen : rest.length ≤ 1099511627776) :
    Calls Tryd.prog 82 #[.pointer (some ⟨g, 0, none⟩)] w fun r w' => (∃ v', r = .returned v' ∧ Own w' w.heap.size 5 v' (bv (rdTe rest e).1)) ∧ RrQ Q w' g (rdTe rest e).2.1 (rdTe rest e).2.2 ∧ Upd g w w' := by
  unfold rdTe
  by_cases he : e = 0
  · subst he; exact rrtext_ok g rest w h hlen
  · rw [if_neg he]
    refine (rrtext_err g rest e w h he).mono ?_
    rintro r w' ⟨rfl, h1, h2⟩
    exact ⟨⟨_, rfl, own_nil _ _⟩, h1, h2⟩
end Go.Proofs.YtcicclghgbdgnaaDoor

/- Contracts of the document's answer for the reader: Num. -/
namespace Go.Proofs.YtcicclghgbdgnaaDoor
open Go.RowKit
set_option linter.unusedVariables false
variable {Q : Nat → Prop}
theorem rrnum_err (g : Nat) (s : Int) (rest : List UInt8) (e : Int) (w : World) (h : RrQ Q w g rest e) (he : ¬ e = 0) :
    Calls Tryd.prog 77 #[.pointer (some ⟨g, 0, none⟩), .int .i64 s] w fun r w' => r = .returned (.int .u64 0) ∧ RrQ Q w' g rest e ∧ Upd g w w' := by
  have H := Lib.hid h
  have he1 : (e == 0) = false := beq_eq_false_iff_ne.2 he
  obtain ⟨v1, c0, c1, _⟩ := h.cells
  clear h he
  go_enter Tryd.func77, Tryd.ntmps77
  go_wp2_with fail
  go_loopw [5, 6] (fun n i wr => n = .int .u64 0 ∧ i = .int .i64 0 ∧ wr = w) (fun _ _ _ => 0)
  case atStart => exact ⟨rfl, rfl, rfl⟩
  case round =>
    obtain ⟨rfl, rfl, rfl⟩ := hrel
    go_wp2
    all_goals
      go_ret
      exact ⟨rfl, H.out, Upd.refl _ _⟩
theorem rrnum_arg (g : Nat) (s : Int) (rest : List UInt8) (w : World) (h : RrQ Q w g rest 0) (hs : isSize s = false) :
    Calls Tryd.prog 77 #[.pointer (some ⟨g, 0, none⟩), .int .i64 s] w fun r w' => r = .returned (.int .u64 0) ∧ RrQ Q w' g [] 2 ∧ Upd g w w' := by
  have H := Lib.hid h
  obtain ⟨v1, c0, c1, _⟩ := h.cells
  clear h
  go_enter Tryd.func77, Tryd.ntmps77
  go_wp2_with fail
  refine (rsized_any _ _).mono ?_
  rw [hs]
  rintro e w1 ⟨rfl, rfl⟩
  clear hs
  go_wp2_with fail
  refine (rrfail_any g rest 2 _ H.out).mono ?_
  rintro r w1 ⟨⟨x, rfl⟩, hr1, hu1⟩
  clear c0 c1
  obtain ⟨v2, c0, c1, _⟩ := hr1.cells
  have H1 := Lib.hid hr1
  clear hr1
  go_wp2_with fail
  go_loopw [5, 6] (fun n i wr => n = .int .u64 0 ∧ i = .int .i64 0 ∧ wr = w1) (fun _ _ _ => 0)
  case atStart => exact ⟨rfl, rfl, rfl⟩
  case round =>
    obtain ⟨rfl, rfl, rfl⟩ := hrel
    go_wp2
    all_goals
      go_ret
      exact ⟨rfl, H1.out, hu1⟩
theorem nsum (x m : Nat) (hx : x < 256 ^ 7) (hm : m < 256) : IntKind.u64.wrap (IntKind.u64.wrap ((x : Int) * 256) + (m : Int)) = ((x * 256 + m : Nat) : Int) := by
  have e1 : IntKind.u64.wrap ((x : Int) * 256) = ((x * 256 : Nat) : Int) := by rw [IntKind.wrap_u64]; omega
  rw [e1, IntKind.wrap_u64]; omega
set_option maxHeartbeats 1000000 in
set_option maxRecDepth 4000 in
theorem rrnum_ok (g : Nat) (s : Int) (c : Nat) (rest : List UInt8) (w : World) (h : RrQ Q w g rest 0) (hs : isSize s = true) (hq : IntKind.i64.wrap (s.tdiv 8) = (c : Nat)) (hc8 : c ≤ 8) (hc1 : 1 ≤ c) :
    Calls Tryd.prog 77 #[.pointer (some ⟨g, 0, none⟩), .int .i64 s] w fun r w' => r = .returned (.int .u64 (rdN c rest).1) ∧ RrQ Q w' g (rdN c rest).2.1 (rdN c rest).2.2 ∧ Upd g w w' := by
  have H := Lib.hid h
  obtain ⟨a, cp, c0, c1, f0, f1, hsl, hne⟩ := h.len
  have Hs := Lib.hid hsl
  clear h hsl
  by_cases hlt : rest.length < c
  · have HT := Lib.hid (show rdN c rest = (0, [], 3) from if_pos hlt)
    go_enter Tryd.func77, Tryd.ntmps77
    go_wp2_with fail
    refine (rsized_any _ _).mono ?_
    rw [hs]
    rintro e w1 ⟨rfl, rfl⟩
    clear hs
    go_wp2_with fail
    refine (rrfail_any g rest 3 _ H.out).mono ?_
    rintro r w1 ⟨⟨x, rfl⟩, hr1, hu1⟩
    clear c0 c1 f0 f1
    obtain ⟨v2, c0, c1, _⟩ := hr1.cells
    have H1 := Lib.hid hr1
    clear hr1
    go_wp2_with fail
    go_loopw [5, 6] (fun n i wr => n = .int .u64 0 ∧ i = .int .i64 0 ∧ wr = w1) (fun _ _ _ => 0)
    case atStart => exact ⟨rfl, rfl, rfl⟩
    case round =>
      obtain ⟨rfl, rfl, rfl⟩ := hrel
      go_wp2
      go_ret
      rw [HT.out]
      exact ⟨rfl, H1.out, hu1⟩
  · have HT := Lib.hid (show rdN c rest = (beVal (rest.take c), rest.drop c, 0) from if_neg hlt)
    go_enter Tryd.func77, Tryd.ntmps77
    go_wp2_with fail
    refine (rsized_any _ _).mono ?_
    rw [hs]
    rintro e w1 ⟨rfl, rfl⟩
    clear hs
    go_wp2_with fail
    go_loopw [5, 6] (fun n i wr => ∃ j : Nat, j ≤ c ∧ i = .int .i64 j ∧ n = .int .u64 (beVal (rest.take j) : Nat) ∧ RrQ Q wr g (rest.drop j) 0 ∧ Upd g w wr) (fun _ i _ => c - (intOf i).toNat)
    case atStart => exact ⟨0, by omega, rfl, rfl, H.out, Upd.refl _ _⟩
    case round =>
      obtain ⟨j, hj, rfl, rfl, hrr, hu⟩ := hrel
      clear c0 c1 f0 f1 hne Hs
      obtain ⟨v, c0, c1, f0, f1, hs, hne⟩ := hrr.cells
      obtain ⟨a', cq, rfl⟩ := hs.len
      rw [bv_length] at c0 hs hne
      by_cases hjc : j < c
      · have hjl : j < rest.length := by omega
        have hdl : rest.drop j = rest[j] :: rest.drop (j + 1) := List.drop_eq_getElem_cons hjl
        have hm : rest[j].toNat < 256 := rest[j].toNat_lt
        have hx : beVal (rest.take j) < 256 ^ 7 := by
          have h1 := beVal_lt (rest.take j)
          have h2 : 256 ^ (rest.take j).length ≤ 256 ^ 7 := Nat.pow_le_pow_right (by omega) (by rw [List.length_take]; omega)
          omega
        have hstep := nsum _ _ hx hm
        rw [← beVal_snoc, ← List.take_succ_eq_append_getElem hjl] at hstep
        have Hstep := Lib.hid hstep
        rw [hdl] at hrr c0 hs hne
        have Hl : Hid (True ∧ rest.drop (j + 1) = rest.drop (j + 1)) := Lib.hid ⟨trivial, rfl⟩
        clear hstep hx hdl
        obtain ⟨l', hl'⟩ : ∃ l', l' = rest.drop (j + 1) := ⟨_, rfl⟩
        rw [← hl'] at hrr c0 hs hne
        obtain ⟨m', hm'⟩ : ∃ m', m' = rest[j] := ⟨_, rfl⟩
        rw [← hm'] at hrr c0 hs hne
        have Hl : Hid (True ∧ rest.drop (j + 1) = l') := Lib.hid ⟨trivial, hl'.symm⟩
        clear hl'
        have HR := Lib.hid hrr
        have Hs := Lib.hid hs
        have Hne := Lib.hid hne
        clear hrr hs hne
        obtain ⟨b, off, rfl, hcc⟩ : ∃ b off, a' = some ⟨b, off, none⟩ ∧ wr.cell? ⟨b, off, none⟩ = some (.int .u8 (m'.toNat : Nat)) := by
          rcases Hs.out with ⟨_, h2⟩ | ⟨b, off, cap, h2, _, _, _, h3⟩
          · rw [bv_nil_iff] at h2; cases h2
          · simp only [Value.slice.injEq] at h2
            exact ⟨b, off, h2.1, h3 0 _ (bv_get (m' :: l') 0 (by simp))⟩
        have hbg : b < g ∧ Q b := Hne.out b rfl
        have hl1 : 1 ≤ (m' :: l').length := by simp
        have hl0 : ¬ (m' :: l').length = 0 := by simp
        have hT : Hid ((¬ cq = 1 → SlS wr (.slice (some ⟨b, off + 1, none⟩) ((m' :: l').length - 1) (cq - 1)) (bv l')) ∧ (cq = 1 → SlS wr (.slice (some ⟨b, off, none⟩) ((m' :: l').length - 1) 0) (bv l'))) := Lib.hid ⟨fun h => tail_sls Hs.out h, fun h => tail_sls_cap Hs.out h⟩
        have hcl : (m' :: l').length ≤ cq := by
          rcases Hs.out with ⟨_, h2⟩ | ⟨b, off, cap, h2, h3, _⟩
          · rw [bv_nil_iff] at h2; cases h2
          · simp only [Value.slice.injEq, bv_length] at h2 h3; omega
        generalize (m' :: l').length = n at *
        rw [hm'] at hcc
        clear hm' Hs
        generalize rest[j].toNat = m at *
        generalize beVal (rest.take j) = x at *
        by_cases hcap : cq = 1
        · have hsl := hT.out.2 hcap
          have hne2 : ∀ b', (Value.slice (some ⟨b, off, none⟩) (n - 1) (0)).ownBlock = some b' → b' < g ∧ Q b' := by simpa [Value.ownBlock] using hbg
          have hR2 : Hid (RrQ Q (wr.setCell ⟨g, 0, none⟩ (.slice (some ⟨b, off, none⟩) (n - 1) (0))) g l' 0) := Lib.hid (HR.out.set0 hsl hne2)
          have hU2 : Hid (Upd g w (wr.setCell ⟨g, 0, none⟩ (.slice (some ⟨b, off, none⟩) (n - 1) (0)))) := Lib.hid (hu.setCell 0 _)
          clear hsl hne2 hu
          go_wp2
          go_roundw
          case rel => exact ⟨j + 1, by omega, by go_num, congrArg (Value.int .u64) Hstep.out, by rw [Hl.out.2]; exact hR2.out, hU2.out⟩
          case measure => simp [intOf]; omega
        · have hsl := hT.out.1 hcap
          have hne2 : ∀ b', (Value.slice (some ⟨b, off + 1, none⟩) (n - 1) (cq - 1)).ownBlock = some b' → b' < g ∧ Q b' := by simpa [Value.ownBlock] using hbg
          have hR2 : Hid (RrQ Q (wr.setCell ⟨g, 0, none⟩ (.slice (some ⟨b, off + 1, none⟩) (n - 1) (cq - 1))) g l' 0) := Lib.hid (HR.out.set0 hsl hne2)
          have hU2 : Hid (Upd g w (wr.setCell ⟨g, 0, none⟩ (.slice (some ⟨b, off + 1, none⟩) (n - 1) (cq - 1)))) := Lib.hid (hu.setCell 0 _)
          clear hsl hne2 hu
          go_wp2
          go_roundw
          case rel => exact ⟨j + 1, by omega, by go_num, congrArg (Value.int .u64) Hstep.out, by rw [Hl.out.2]; exact hR2.out, hU2.out⟩
          case measure => simp [intOf]; omega
      · obtain rfl : j = c := by omega
        have HR := Lib.hid hrr
        clear hrr hs hne
        go_wp2
        go_ret
        rw [HT.out]
        exact ⟨rfl, HR.out, hu⟩
end Go.Proofs.YtcicclghgbdgnaaDoor

/- The document's reader, for things that lie beside each other. -/
namespace Go.Proofs.YtcicclghgbdgnaaDoor
open Go.RowKit
set_option linter.unusedVariables false
/-- A reader at block g, with what is left and its first error; what is left lies in blocks of its own. -/
def RrT (g : Nat) (rest : List UInt8) (e : Int) : Thing := fun w F => F g ∧ RrQ F w g rest e
theorem loc_rr (g : Nat) (rest : List UInt8) (e : Int) : Loc (RrT g rest e) := by
  intro w w' F ⟨hg, v, h1, h2, h3⟩ hs hk
  exact ⟨hg, v, by rw [hk g hg]; exact h1, h2.keep hs fun b hb _ => hk b (h3 b hb).2, h3⟩
theorem Sep.rr {w0 w : World} {g : Nat} {rest : List UInt8} {e : Int} {L : List Thing} (h : Sep w0 (RrT g rest e :: L) w) :
    ∃ F : Nat → Prop, RrQ F w g rest e ∧ (∀ w' rest' e', RrQ F w' g rest' e' → Upd g w w' → Sep w0 (RrT g rest' e' :: L) w') ∧
      ∀ w' rest' e' v' xs T, RrQ F w' g rest' e' → Upd g w w' → Own w' w.heap.size T v' xs → Sep w0 (Rw T v' xs :: RrT g rest' e' :: L) w' := by
  obtain ⟨F, ⟨hg, hr⟩, hF⟩ := h.head
  have hall := h.all
  obtain ⟨F, ⟨hg, hr⟩, hF, hrest⟩ := hall
  refine ⟨F, hr, fun w' rest' e' hr' hu => ?_, fun w' rest' e' v' xs T hr' hu ho => ?_⟩
  · have hch : Chg F w w' := ⟨hu.os, hu.tape, hu.output, hu.size, fun k hk hn => hu.block k hk fun e => hn (e ▸ hg)⟩
    refine ⟨⟨hch.os.trans h.low.os, hch.tape.trans h.low.tape, hch.output.trans h.low.output, Nat.le_trans h.low.size hch.size, fun k hk => ?_⟩, ?_, F, ⟨hg, hr'⟩, fun k hk => ⟨(hF k hk).1, Nat.lt_of_lt_of_le (hF k hk).2.1 hch.size, id⟩, ?_⟩
    · rw [hch.block k (Nat.lt_of_lt_of_le hk h.low.size) (fun hk' => by have := (hF k hk').1; omega)]
      exact h.low.block k hk
    · intro X hX
      rcases List.mem_cons.1 hX with rfl | hX
      · exact loc_rr _ _ _
      · exact h.loc X (List.mem_cons_of_mem _ hX)
    · exact hrest.keep (fun X hX => h.loc X (List.mem_cons_of_mem _ hX)) hch.size (fun k _ h2 h3 => hch.block k h2 fun hk => h3 (.inr hk)) fun k hk => .inl hk
  · have hch : Chg F w w' := ⟨hu.os, hu.tape, hu.output, hu.size, fun k hk hn => hu.block k hk fun e => hn (e ▸ hg)⟩
    have hlt : ∀ k, v'.ownBlock = some k → w.heap.size ≤ k ∧ k < w'.heap.size := fun k hk => ho.lt k hk
    have h1 : Sep w0 (RrT g rest' e' :: L) w' := by
      refine ⟨⟨hch.os.trans h.low.os, hch.tape.trans h.low.tape, hch.output.trans h.low.output, Nat.le_trans h.low.size hch.size, fun k hk => ?_⟩, ?_, F, ⟨hg, hr'⟩, fun k hk => ⟨(hF k hk).1, Nat.lt_of_lt_of_le (hF k hk).2.1 hch.size, id⟩, ?_⟩
      · rw [hch.block k (Nat.lt_of_lt_of_le hk h.low.size) (fun hk' => by have := (hF k hk').1; omega)]
        exact h.low.block k hk
      · intro X hX
        rcases List.mem_cons.1 hX with rfl | hX
        · exact loc_rr _ _ _
        · exact h.loc X (List.mem_cons_of_mem _ hX)
      · exact hrest.keep (fun X hX => h.loc X (List.mem_cons_of_mem _ hX)) hch.size (fun k _ h2 h3 => hch.block k h2 fun hk => h3 (.inr hk)) fun k hk => .inl hk
    have hsz := h.low.size
    refine ⟨h1.low, ?_, fun k => v'.ownBlock = some k, ⟨⟨_, ho⟩, fun _ => Iff.rfl⟩, fun k hk => ⟨by have := hlt k hk; omega, (hlt k hk).2, id⟩, F, ⟨hg, hr'⟩, fun k hk => ⟨(hF k hk).1, Nat.lt_of_lt_of_le (hF k hk).2.1 hch.size, fun hn => ?_⟩, ?_⟩
    · intro X hX
      rcases List.mem_cons.1 hX with rfl | hX
      · exact loc_rw _ _ _
      · exact h1.loc X hX
    · rcases hn with hn | hn
      · exact hn
      · have a1 := hlt k hn; have a2 := (hF k hk).2.1; omega
    · refine hrest.keep (fun X hX => h.loc X (List.mem_cons_of_mem _ hX)) hch.size (fun k _ h2 h3 => hch.block k h2 fun hk => h3 (.inr hk)) fun k hk => ?_
      rcases hk with (h2 | h2) | h2
      · exact h2.elim
      · exact .inr (hlt k h2).1
      · exact .inl (.inr h2)
theorem rread_sep {w0 : World} {L : List Thing} (v : Value) (l : List UInt8) (w : World) (hs : Sep w0 L w) (h : Sl w v (bv l)) (hlen : l.length ≤ 2199023255552) :
    Calls Tryd.prog 76 #[v] w fun e w' => ∃ g, e = .returned (.pointer (some ⟨g, 0, none⟩)) ∧ Sep w0 (RrT g l 0 :: L) w' := by
  have H := Lib.hid h
  have HS := Lib.hid hs
  clear h hs
  go_enter Tryd.func76, Tryd.ntmps76
  go_wp2_with fail
  refine (copyBytes_any _ l _ H.out hlen).mono ?_
  rintro e w1 ⟨⟨v1, rfl, ho1⟩, hb1⟩
  have h1 : Sep w0 (By v1 l :: L) w1 := HS.out.row hb1 ho1
  obtain ⟨a1, c1, rfl⟩ := h1.sl.len
  have H1 := Lib.hid h1
  clear h1 ho1 hb1
  go_wp2_with fail
  go_ret
  have h2 := ((H1.out.alloc (.cells #[.slice a1 (bv l).length c1, .int .i64 0] 97))).join
  refine ⟨_, rfl, h2.imp (loc_rr _ _ _) fun F ⟨Fa, Fb, ha, hb, hab, hF⟩ => ?_⟩
  obtain ⟨⟨bs, ho⟩, hfb⟩ := hb
  refine ⟨(hF _).2 (.inl ((ha.2 _).2 rfl)), _, ha.1, ho.sls, fun b hb' => ⟨?_, (hF b).2 (.inr ((hfb b).2 hb'))⟩⟩
  have h3 := (H1.out.rw_.lt b hb').2
  exact h3
theorem rrvarint_sep {w0 w : World} {L : List Thing} {g : Nat} {rest : List UInt8} {e : Int} (h : Sep w0 (RrT g rest e :: L) w) :
    Calls Tryd.prog 78 #[.pointer (some ⟨g, 0, none⟩)] w fun r w' => r = .returned (.int .u64 (rdVe rest e).1) ∧ Sep w0 (RrT g (rdVe rest e).2.1 (rdVe rest e).2.2 :: L) w' := by
  obtain ⟨F, hr, hk, _⟩ := h.rr
  exact (rrvarint_any g rest e w hr).mono fun r w' ⟨h1, h2, h3⟩ => ⟨h1, hk _ _ _ h2 h3⟩
theorem rrtext_sep {w0 w : World} {L : List Thing} {g : Nat} {rest : List UInt8} {e : Int} (h : Sep w0 (RrT g rest e :: L) w) (hlen : rest.length ≤ 1099511627776) :
    Calls Tryd.prog 82 #[.pointer (some ⟨g, 0, none⟩)] w fun r w' => ∃ v', r = .returned v' ∧ Sep w0 (By v' (rdTe rest e).1 :: RrT g (rdTe rest e).2.1 (rdTe rest e).2.2 :: L) w' := by
  obtain ⟨F, hr, _, hk⟩ := h.rr
  exact (rrtext_any g rest e w hr hlen).mono fun r w' ⟨⟨v', h1, ho⟩, h2, h3⟩ => ⟨v', h1, hk _ _ _ _ _ _ h2 h3 ho⟩
theorem rrnum_sep {w0 w : World} {L : List Thing} {g : Nat} {rest : List UInt8} {e : Int} (h : Sep w0 (RrT g rest e :: L) w) :
    Calls Tryd.prog 77 #[.pointer (some ⟨g, 0, none⟩), .int .i64 8] w fun r w' => r = .returned (.int .u64 (rdNe rest e).1) ∧ Sep w0 (RrT g (rdNe rest e).2.1 (rdNe rest e).2.2 :: L) w' := by
  obtain ⟨F, hr, hk, _⟩ := h.rr
  unfold rdNe
  by_cases he : e = 0
  · subst he
    exact (rrnum_ok g 8 1 rest w hr rfl (by decide) (by omega) (by omega)).mono fun r w' ⟨h1, h2, h3⟩ => ⟨h1, hk _ _ _ h2 h3⟩
  · rw [if_neg he]
    exact (rrnum_err g 8 rest e w hr he).mono fun r w' ⟨h1, h2, h3⟩ => ⟨h1, hk _ _ _ h2 h3⟩
theorem rrerr_sep {w0 w : World} {L : List Thing} {g : Nat} {rest : List UInt8} {e : Int} (h : Sep w0 (RrT g rest e :: L) w) :
    Calls Tryd.prog 79 #[.pointer (some ⟨g, 0, none⟩)] w fun r w' => r = .returned (.int .i64 e) ∧ w = w' := by
  obtain ⟨F, hr, _⟩ := h.rr
  exact rrerr_any g rest e w hr
theorem rrend_sep {w0 w : World} {L : List Thing} {g : Nat} {rest : List UInt8} {e : Int} (h : Sep w0 (RrT g rest e :: L) w) :
    Calls Tryd.prog 83 #[.pointer (some ⟨g, 0, none⟩)] w fun r w' => r = .returned (.int .i64 (endErr rest e)) ∧ w = w' := by
  obtain ⟨F, hr, _⟩ := h.rr
  exact rrend_any g rest e w hr
theorem rrint_sep {w0 w : World} {L : List Thing} {g : Nat} {rest : List UInt8} {e : Int} (h : Sep w0 (RrT g rest e :: L) w) :
    Calls Tryd.prog 91 #[.pointer (some ⟨g, 0, none⟩)] w fun r w' => r = .returned (.int .i64 (zag (rdVe rest e).1)) ∧ Sep w0 (RrT g (rdVe rest e).2.1 (rdVe rest e).2.2 :: L) w' := by
  obtain ⟨F, hr, hk, _⟩ := h.rr
  exact (rrint_any g rest e w hr).mono fun r w' ⟨h1, h2, h3⟩ => ⟨h1, hk _ _ _ h2 h3⟩
end Go.Proofs.YtcicclghgbdgnaaDoor
