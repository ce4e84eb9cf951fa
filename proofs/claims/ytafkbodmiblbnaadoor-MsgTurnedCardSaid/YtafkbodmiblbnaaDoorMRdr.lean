/- Contracts of package bits: the reader. -/
import Derived.Test.YtafkbodmiblbnaaDoorMBits
namespace Go.Proofs.YtafkbodmiblbnaaDoor
open Go.RowKit
set_option linter.unusedVariables false
variable {Q : Nat → Prop}

/-- Block g is a reader: what is left, and its first error. -/
def RdQ (Q : Nat → Prop) (w : World) (g : Nat) (rest : List UInt8) (e : Int) : Prop :=
  ∃ v, w.heap[g]? = some (.cells #[v, .int .i64 e] 94 (0, 0)) ∧ SlS w v (bv rest) ∧ (∀ b, v.ownBlock = some b → b < g ∧ Q b)

theorem RdQ.lt {w : World} {g : Nat} {rest : List UInt8} {e : Int} (h : RdQ Q w g rest e) : g < w.heap.size := by
  obtain ⟨v, h, _⟩ := h; exact (Array.getElem?_eq_some_iff.1 h).1
theorem RdQ.keep {w w' : World} {g : Nat} {rest : List UInt8} {e : Int} (h : RdQ Q w g rest e) (hb : Below w.heap.size w w') : RdQ Q w' g rest e := by
  have hlt := h.lt
  obtain ⟨v, h1, h2, h3⟩ := h
  exact ⟨v, by rw [hb.block g hlt]; exact h1, h2.below hb, h3⟩
/-- What the walk reads of it. -/
theorem RdQ.cells {w : World} {g : Nat} {rest : List UInt8} {e : Int} (h : RdQ Q w g rest e) :
    ∃ v, w.cell? ⟨g, 0, none⟩ = some v ∧ w.cell? ⟨g, 1, none⟩ = some (.int .i64 e) ∧ w.frozen? ⟨g, 0, none⟩ = false ∧ w.frozen? ⟨g, 1, none⟩ = false ∧ SlS w v (bv rest) ∧ (∀ b, v.ownBlock = some b → b < g ∧ Q b) := by
  obtain ⟨v, h1, h2, h3⟩ := h
  refine ⟨v, ?_, ?_, ?_, ?_, h2, h3⟩
  · unfold World.cell?; rw [h1]; rfl
  · unfold World.cell?; rw [h1]; rfl
  · unfold World.frozen?; rw [h1]; rfl
  · unfold World.frozen?; rw [h1]; rfl
/-- Both fields stored. -/
theorem RdQ.set0 {w : World} {g : Nat} {rest : List UInt8} {e : Int} (h : RdQ Q w g rest e) {v : Value} {l : List UInt8} (hv : SlS w v (bv l)) (hn : ∀ b, v.ownBlock = some b → b < g ∧ Q b) :
    RdQ Q (w.setCell ⟨g, 0, none⟩ v) g l e := by
  obtain ⟨v0, h1, _⟩ := h
  exact ⟨v, by rw [heap_setCell_at h1]; rfl, hv.upd ((Upd.refl g w).setCell 0 v) (fun e => Nat.lt_irrefl _ (hn g e).1), hn⟩
theorem RdQ.set1 {w : World} {g : Nat} {rest : List UInt8} {e : Int} (h : RdQ Q w g rest e) (e' : Int) :
    RdQ Q (w.setCell ⟨g, 1, none⟩ (.int .i64 e')) g rest e' := by
  obtain ⟨v, h1, h2, h3⟩ := h
  exact ⟨v, by rw [heap_setCell_at h1]; rfl, h2.upd ((Upd.refl g w).setCell 1 _) (fun e => Nat.lt_irrefl _ (h3 g e).1), h3⟩
theorem sls_nil (w : World) : SlS w (.slice none 0 0) (bv []) := .inl ⟨rfl, rfl⟩
theorem sl_nil (w : World) : Sl w (.slice none 0 0) (bv []) := (sls_nil w).sl

theorem broken_any (g : Nat) (rest : List UInt8) (e : Int) (w : World) (h : RdQ Q w g rest e) :
    Calls Tryd.prog 75 #[.pointer (some ⟨g, 0, none⟩)] w fun r w' => r = .returned (.bool (e != 0)) ∧ w = w' := by
  obtain ⟨v, c0, c1, _⟩ := h.cells
  clear h
  go_enter Tryd.func75, Tryd.ntmps75
  go_wp2
  go_ret
  exact ⟨rfl, rfl⟩

theorem fail_any (g : Nat) (rest : List UInt8) (e e' : Int) (w : World) (h : RdQ Q w g rest e) :
    Calls Tryd.prog 77 #[.pointer (some ⟨g, 0, none⟩), .int .i64 e'] w fun r w' => (∃ x, r = .returned x) ∧ RdQ Q w' g [] e' ∧ Upd g w w' := by
  obtain ⟨v, c0, c1, f0, f1, _⟩ := h.cells
  have H := Lib.hid h
  clear h
  go_enter Tryd.func77, Tryd.ntmps77
  go_wp2
  go_end0
  exact ⟨⟨_, rfl⟩, (H.out.set0 (sls_nil w) (by simp [Value.ownBlock])).set1 e', ((Upd.refl g w).setCell 0 _).setCell 1 _⟩

theorem left_any (g : Nat) (rest : List UInt8) (e : Int) (w : World) (h : RdQ Q w g rest e) :
    Calls Tryd.prog 62 #[.pointer (some ⟨g, 0, none⟩)] w fun r w' => r = .returned (.int .i64 (rest.length : Nat)) ∧ w = w' := by
  obtain ⟨v, c0, c1, _, _, hs, _⟩ := h.cells
  obtain ⟨a, c, rfl⟩ := hs.len
  rw [bv_length] at c0
  clear h hs
  go_enter Tryd.func62, Tryd.ntmps62
  go_wp2
  go_ret
  exact ⟨rfl, rfl⟩

theorem err_any (g : Nat) (rest : List UInt8) (e : Int) (w : World) (h : RdQ Q w g rest e) :
    Calls Tryd.prog 56 #[.pointer (some ⟨g, 0, none⟩)] w fun r w' => r = .returned (.int .i64 e) ∧ w = w' := by
  obtain ⟨v, c0, c1, _⟩ := h.cells
  clear h
  go_enter Tryd.func56, Tryd.ntmps56
  go_wp2
  go_ret
  exact ⟨rfl, rfl⟩

def endErr (rest : List UInt8) (e : Int) : Int := if e = 0 ∧ 0 < rest.length then 4 else e
theorem end_any (g : Nat) (rest : List UInt8) (e : Int) (w : World) (h : RdQ Q w g rest e) :
    Calls Tryd.prog 35 #[.pointer (some ⟨g, 0, none⟩)] w fun r w' => r = .returned (.int .i64 (endErr rest e)) ∧ w = w' := by
  have H := Lib.hid h
  clear h
  unfold endErr
  by_cases h0 : e = 0
  · subst h0
    by_cases h1 : 0 < rest.length
    · rw [if_pos ⟨rfl, h1⟩]
      go_enter Tryd.func35, Tryd.ntmps35
      go_wp2_with (first | (go_at_call 56; refine (err_any _ _ _ _ H.out).mono ?_; rintro e w1 ⟨rfl, rfl⟩) | (go_at_call 62; refine (left_any _ _ _ _ H.out).mono ?_; rintro e w1 ⟨rfl, rfl⟩))
      go_ret
      exact ⟨rfl, rfl⟩
    · rw [if_neg (by omega)]
      go_enter Tryd.func35, Tryd.ntmps35
      go_wp2_with (first | (go_at_call 56; refine (err_any _ _ _ _ H.out).mono ?_; rintro e w1 ⟨rfl, rfl⟩) | (go_at_call 62; refine (left_any _ _ _ _ H.out).mono ?_; rintro e w1 ⟨rfl, rfl⟩))
      go_ret
      exact ⟨rfl, rfl⟩
  · rw [if_neg (by omega)]
    have h1 : (e == 0) = false := beq_eq_false_iff_ne.2 h0
    go_enter Tryd.func35, Tryd.ntmps35
    go_wp2_with (first | (go_at_call 56; refine (err_any _ _ _ _ H.out).mono ?_; rintro e w1 ⟨rfl, rfl⟩) | (go_at_call 62; refine (left_any _ _ _ _ H.out).mono ?_; rintro e w1 ⟨rfl, rfl⟩))
    go_ret
    exact ⟨rfl, rfl⟩

/-- What a reader's Varint makes of what is left: the number, what is left behind it, the error. -/
def rdF : Nat → Nat → Nat → List UInt8 → Nat × List UInt8 × Int
  | 0, _, _, _ => (0, [], 9)
  | _ + 1, _, _, [] => (0, [], 3)
  | f + 1, i, u, c :: l =>
    if i = 9 ∧ 1 < c.toNat then (0, [], 9)
    else if c.toNat = 0 ∧ 0 < i then (0, [], 4)
    else if c.toNat < 128 then (u + c.toNat % 128 * 2 ^ (7 * i), l, 0)
    else rdF f (i + 1) (u + c.toNat % 128 * 2 ^ (7 * i)) l
def rdV (l : List UInt8) : Nat × List UInt8 × Int := rdF 10 0 0 l

theorem rvarint_err (g : Nat) (rest : List UInt8) (e : Int) (w : World) (h : RdQ Q w g rest e) (he : ¬ e = 0) :
    Calls Tryd.prog 57 #[.pointer (some ⟨g, 0, none⟩)] w fun r w' => r = .returned (.int .u64 0) ∧ w = w' := by
  have H := Lib.hid h
  clear h
  have h1 : (e != 0) = true := by rw [bne_iff_ne]; exact he
  go_enter Tryd.func57, Tryd.ntmps57
  go_wp2_with (go_at_call 75; refine (broken_any _ _ _ _ H.out).mono ?_; rw [h1]; rintro e w1 ⟨rfl, rfl⟩)
  go_ret
  exact ⟨rfl, rfl⟩

theorem andNot128 (m : Nat) (hm : m < 256) : bits BinOp.andNot IntKind.u8 (m : Int) 128 = ((m % 128 : Nat) : Int) := by
  have h : ∀ a : Nat, a < 256 → bits BinOp.andNot IntKind.u8 ((a : Nat) : Int) 128 = ((a % 128 : Nat) : Int) := by decide +kernel
  exact h m hm
theorem vbits (k x m : Nat) (hx : x < 2 ^ (7 * k)) (hk : k ≤ 9) (hm : m < 256) (h9 : k = 9 → m ≤ 1) :
    bits BinOp.or IntKind.u64 (x : Int) (IntKind.u64.wrap (IntKind.u64.wrap (bits BinOp.andNot IntKind.u8 (m : Int) 128) * 2 ^ (7 * k))) = ((x + m % 128 * 2 ^ (7 * k) : Nat) : Int) := by
  have hb : m % 128 * 2 ^ (7 * k) < 2 ^ 64 := by
    by_cases h : k = 9
    · subst h
      have := h9 rfl
      have : m % 128 ≤ 1 := by omega
      calc m % 128 * 2 ^ (7 * 9) ≤ 1 * 2 ^ (7 * 9) := Nat.mul_le_mul_right _ this
        _ < 2 ^ 64 := by decide
    · have h2 : 2 ^ (7 * k) ≤ 2 ^ 56 := Nat.pow_le_pow_right (by omega) (by omega)
      calc m % 128 * 2 ^ (7 * k) ≤ 127 * 2 ^ 56 := Nat.mul_le_mul (by omega) h2
        _ < 2 ^ 64 := by decide
  have hx64 : x < 2 ^ 64 := by
    have h2 : 2 ^ (7 * k) ≤ 2 ^ 63 := Nat.pow_le_pow_right (by omega) (by omega)
    omega
  have e1 : IntKind.u64.wrap ((m % 128 : Nat) : Int) = ((m % 128 : Nat) : Int) := by rw [IntKind.wrap_u64]; omega
  have e2 : IntKind.u64.wrap (((m % 128 : Nat) : Int) * 2 ^ (7 * k)) = ((m % 128 * 2 ^ (7 * k) : Nat) : Int) := by
    have : (((m % 128 : Nat) : Int) * 2 ^ (7 * k)) = ((m % 128 * 2 ^ (7 * k) : Nat) : Int) := by simp
    rw [this, IntKind.wrap_u64]; omega
  rw [andNot128 m hm, e1, e2, bits_or_u64_nat _ _ (by omega) (by omega)]
  congr 1
  rw [Nat.or_comm, Nat.mul_comm, ← Nat.two_pow_add_eq_or_of_lt hx, Nat.add_comm]

theorem sl_from {w : World} {b off c : Nat} {rest : List UInt8} {k : Nat} (h : SlS w (.slice (some ⟨b, off, none⟩) rest.length c) (bv rest)) (hk : k ≤ rest.length) (hc : ¬ c = k) :
    SlS w (.slice (some ⟨b, off + k, none⟩) (rest.length - k) (c - k)) (bv (rest.drop k)) := by
  rcases h with ⟨h, _⟩ | ⟨b', off', cap, h, h1, h2, h3, h4⟩
  · simp at h
  · simp only [Value.slice.injEq, Option.some.injEq, Addr.mk.injEq, and_true] at h
    obtain ⟨⟨rfl, rfl⟩, _, rfl⟩ := h
    rw [bv_length] at h1
    refine .inr ⟨b, off + k, c - k, by simp [bv_length], by rw [bv_length, List.length_drop]; omega, by omega, h3, fun j u hj => ?_⟩
    rw [show off + k + j = off + (k + j) by omega]
    apply h4
    simpa [bv] using hj
theorem sl_from_cap {w : World} {b off c : Nat} {rest : List UInt8} {k : Nat} (h : SlS w (.slice (some ⟨b, off, none⟩) rest.length c) (bv rest)) (hc : c = k) (hk : k ≤ rest.length) :
    SlS w (.slice (some ⟨b, off, none⟩) (rest.length - k) 0) (bv (rest.drop k)) := by
  rcases h with ⟨h, _⟩ | ⟨b', off', cap, h, h1, h2, h3, h4⟩
  · simp at h
  · simp only [Value.slice.injEq, Option.some.injEq, Addr.mk.injEq, and_true] at h
    obtain ⟨⟨rfl, rfl⟩, _, rfl⟩ := h
    rw [bv_length] at h1
    have e : rest.drop k = [] := List.drop_eq_nil_of_le (by omega)
    rw [e]
    refine .inr ⟨b, off, 0, by simp [bv, show rest.length - k = 0 by omega], by simp [bv], by omega, h3, fun j u hj => by simp [bv] at hj⟩

set_option maxRecDepth 100000 in
set_option maxHeartbeats 1000000 in
theorem rvarint_ok (g : Nat) (rest : List UInt8) (w : World) (h : RdQ Q w g rest 0) :
    Calls Tryd.prog 57 #[.pointer (some ⟨g, 0, none⟩)] w fun r w' => r = .returned (.int .u64 (rdV rest).1) ∧ RdQ Q w' g (rdV rest).2.1 (rdV rest).2.2 ∧ Upd g w w' := by
  obtain ⟨v, c0, c1, f0, f1, hs, hne⟩ := h.cells
  obtain ⟨a, c, rfl⟩ := hs.len
  rw [bv_length] at c0 hs hne
  have H := Lib.hid h
  have Hs := Lib.hid hs
  clear h hs
  go_enter Tryd.func57, Tryd.ntmps57
  go_wp2_with (go_at_call 75; refine (broken_any _ _ _ _ H.out).mono ?_; rw [show ((0 : Int) != 0) = false from rfl]; rintro e w1 ⟨rfl, rfl⟩)
  go_loop [3, 8] (fun u i => ∃ (k x : Nat), k ≤ rest.length ∧ k ≤ 9 ∧ i = .int .i64 k ∧ u = .int .u64 x ∧ x < 2 ^ (7 * k) ∧ rdF (10 - k) k x (rest.drop k) = rdV rest) (fun _ i => 10 - (intOf i).toNat)
  case atStart => exact ⟨0, 0, by omega, by omega, rfl, rfl, by decide, rfl⟩
  case round =>
    obtain ⟨k, x, hkl, hk, rfl, rfl, hx, hr⟩ := hrel
    have Hx := Lib.hid hx
    have Hr := Lib.hid hr
    clear hx hr
    by_cases hlt : k = rest.length
    · have hv : rdV rest = (0, [], 3) := by
        rw [← Hr.out, hlt, List.drop_length, show 10 - rest.length = (9 - rest.length) + 1 by omega]; rfl
      have Hv := Lib.hid hv
      clear hv Hr Hx
      subst hlt
      go_wp2_with (go_at_call 77; refine (fail_any g rest 0 3 _ H.out).mono ?_; rintro e w1 ⟨⟨x, rfl⟩, hr1, hu1⟩)
      go_ret
      rw [Hv.out]
      exact ⟨rfl, hr1, hu1⟩
    have hlt2 : k < rest.length := by omega
    clear hkl
    · obtain ⟨b, off, rfl, hc⟩ : ∃ b off, a = some ⟨b, off, none⟩ ∧ w.cell? ⟨b, off + k, none⟩ = some (.int .u8 (rest[k].toNat : Nat)) := by
        rcases Hs.out with ⟨_, h2⟩ | ⟨b, off, cap, h2, _, _, _, h3⟩
        · rw [bv_nil_iff] at h2; subst h2; simp at hlt2
        · simp only [Value.slice.injEq] at h2
          exact ⟨b, off, h2.1, h3 k _ (bv_get rest k hlt2)⟩
      have hstep := Hr.out
      rw [List.drop_eq_getElem_cons hlt2, show 10 - k = (9 - k) + 1 by omega, rdF] at hstep
      have hm : rest[k].toNat < 256 := rest[k].toNat_lt
      generalize rest[k].toNat = m at hc hstep hm
      have Hstep := Lib.hid hstep
      clear hstep Hr hlt
      by_cases h1 : k = 9 ∧ 1 < m
      · obtain ⟨rfl, h1⟩ := h1
        have hv : rdV rest = (0, [], 9) := by rw [← Hstep.out, if_pos ⟨rfl, h1⟩]
        have Hv := Lib.hid hv
        clear hv Hstep Hx
        go_wp2_with (go_at_call 77; refine (fail_any g rest 0 9 _ H.out).mono ?_; rintro e w1 ⟨⟨x, rfl⟩, hr1, hu1⟩)
        go_ret
        rw [Hv.out]
        exact ⟨rfl, hr1, hu1⟩
      by_cases h2 : m = 0 ∧ 0 < k
      · obtain ⟨rfl, h2⟩ := h2
        have hv : rdV rest = (0, [], 4) := by rw [← Hstep.out, if_neg h1, if_pos ⟨rfl, h2⟩]
        have Hv := Lib.hid hv
        clear hv Hstep Hx h1
        have hk9 : ((k : Int) == 9) = true ∨ ((k : Int) == 9) = false := by cases ((k : Int) == 9) <;> simp
        rcases hk9 with hk9 | hk9
        all_goals
          go_wp2_with (go_at_call 77; refine (fail_any g rest 0 4 _ H.out).mono ?_; rintro e w1 ⟨⟨x, rfl⟩, hr1, hu1⟩)
          go_ret
          rw [Hv.out]
          exact ⟨rfl, hr1, hu1⟩
      have hstep2 := Hstep.out
      rw [if_neg h1, if_neg h2] at hstep2
      have hnum := vbits k x m Hx.out (by omega) hm (by omega)
      by_cases h3 : m < 128
      · rw [if_pos h3] at hstep2
        have Hv := Lib.hid hstep2
        have Hn := Lib.hid hnum
        clear hstep2 Hstep hnum
        have hcases : (((k : Int) == 9) = true ∧ m ≤ 1 ∧ ((m : Int) == 0) = false) ∨ (((k : Int) == 9) = false ∧ ((m : Int) == 0) = true ∧ k ≤ 0) ∨ (((k : Int) == 9) = false ∧ ((m : Int) == 0) = false) := by
          by_cases h : k = 9
          · exact .inl ⟨by simp [h], by omega, beq_eq_false_iff_ne.2 (by omega)⟩
          · by_cases h' : m = 0
            · exact .inr (.inl ⟨beq_eq_false_iff_ne.2 (by omega), by simp [h'], by omega⟩)
            · exact .inr (.inr ⟨beq_eq_false_iff_ne.2 (by omega), beq_eq_false_iff_ne.2 (by omega)⟩)
        clear h1 h2
        by_cases hcap : c = k + 1
        · have hsl := sl_from_cap Hs.out hcap (by omega)
          have hne2 : ∀ b', (Value.slice (some ⟨b, off, none⟩) (rest.length - (k + 1)) 0).ownBlock = some b' → b' < g ∧ Q b' := by simpa [Value.ownBlock] using hne
          rcases hcases with ⟨hk9, hm1, hm0⟩ | ⟨hk9, hm0, hk0⟩ | ⟨hk9, hm0⟩
          all_goals
            go_wp2
            go_ret
            refine ⟨?_, ?_, (Upd.refl g w).setCell 0 _⟩
            · rw [← Hv.out]; exact congrArg (fun z => Ending.returned (.int .u64 z)) Hn.out
            · rw [← Hv.out]; exact H.out.set0 hsl hne2
        · have hsl := sl_from Hs.out (show k + 1 ≤ rest.length by omega) hcap
          have hne2 : ∀ b', (Value.slice (some ⟨b, off + (k + 1), none⟩) (rest.length - (k + 1)) (c - (k + 1))).ownBlock = some b' → b' < g ∧ Q b' := by simpa [Value.ownBlock] using hne
          rcases hcases with ⟨hk9, hm1, hm0⟩ | ⟨hk9, hm0, hk0⟩ | ⟨hk9, hm0⟩
          all_goals
            go_wp2
            go_ret
            refine ⟨?_, ?_, (Upd.refl g w).setCell 0 _⟩
            · rw [← Hv.out]; exact congrArg (fun z => Ending.returned (.int .u64 z)) Hn.out
            · rw [← Hv.out]; exact H.out.set0 hsl hne2
      · rw [if_neg h3] at hstep2
        have Hv := Lib.hid hstep2
        have Hn := Lib.hid hnum
        have hk9 : ((k : Int) == 9) = false := beq_eq_false_iff_ne.2 (by omega)
        have hm0 : ((m : Int) == 0) = false := beq_eq_false_iff_ne.2 (by omega)
        have hk8 : k ≤ 8 := by omega
        have hxx : x + m % 128 * 2 ^ (7 * k) < 2 ^ (7 * (k + 1)) := by
          have hx := Hx.out
          have : 2 ^ (7 * (k + 1)) = 2 ^ (7 * k) * 128 := by rw [show 7 * (k + 1) = 7 * k + 7 by omega, Nat.pow_add]
          have h5 : m % 128 * 2 ^ (7 * k) ≤ 127 * 2 ^ (7 * k) := Nat.mul_le_mul_right _ (by omega)
          rw [this]; omega
        have Hxx := Lib.hid hxx
        clear hstep2 Hstep hnum h1 h2 hxx
        go_wp2
        go_round
        case rel => exact ⟨k + 1, _, by omega, by omega, by go_num, congrArg (Value.int .u64) Hn.out, Hxx.out, by rw [← Hv.out, show 10 - (k + 1) = 9 - k by omega]⟩
        case measure => simp [intOf]; omega

theorem rdF_spec (f i u : Nat) (l : List UInt8) (hf : f + i = 10) (hu : u < 2 ^ (7 * i)) : U64 (rdF f i u l).1 ∧ (rdF f i u l).2.1.length ≤ l.length := by
  induction f generalizing i u l with
  | zero => exact ⟨by simp [rdF, U64], by simp [rdF]⟩
  | succ f ih =>
    cases l with
    | nil => exact ⟨by simp [rdF, U64], by simp [rdF]⟩
    | cons c l =>
      rw [rdF]
      split
      · exact ⟨by simp [U64], by simp⟩
      rename_i h1
      split
      · exact ⟨by simp [U64], by simp⟩
      have hc := c.toNat_lt
      have hp : 2 ^ (7 * (i + 1)) = 2 ^ (7 * i) * 128 := by rw [show 7 * (i + 1) = 7 * i + 7 by omega, Nat.pow_add]
      have h5 : c.toNat % 128 * 2 ^ (7 * i) ≤ 127 * 2 ^ (7 * i) := Nat.mul_le_mul_right _ (by omega)
      split
      · rename_i h3
        refine ⟨?_, by simp⟩
        show u + c.toNat % 128 * 2 ^ (7 * i) < 18446744073709551616
        by_cases h9 : i = 9
        · subst h9
          have : c.toNat % 128 * 2 ^ (7 * 9) ≤ 1 * 2 ^ (7 * 9) := Nat.mul_le_mul_right _ (by omega)
          omega
        · have h2 : 2 ^ (7 * i) ≤ 2 ^ 56 := Nat.pow_le_pow_right (by omega) (by omega)
          omega
      · obtain ⟨a, b⟩ := ih (i + 1) (u + c.toNat % 128 * 2 ^ (7 * i)) l (by omega) (by rw [hp]; omega)
        exact ⟨a, by simp; omega⟩
theorem rdV_u64 (l : List UInt8) : U64 (rdV l).1 := (rdF_spec 10 0 0 l rfl (by decide)).1
theorem rdV_len (l : List UInt8) : (rdV l).2.1.length ≤ l.length := (rdF_spec 10 0 0 l rfl (by decide)).2

/-- The reader's Varint, whatever its error. -/
def rdVe (rest : List UInt8) (e : Int) : Nat × List UInt8 × Int := if e = 0 then rdV rest else (0, rest, e)
theorem rvarint_any (g : Nat) (rest : List UInt8) (e : Int) (w : World) (h : RdQ Q w g rest e) :
    Calls Tryd.prog 57 #[.pointer (some ⟨g, 0, none⟩)] w fun r w' => r = .returned (.int .u64 (rdVe rest e).1) ∧ RdQ Q w' g (rdVe rest e).2.1 (rdVe rest e).2.2 ∧ Upd g w w' := by
  unfold rdVe
  by_cases he : e = 0
  · subst he; exact rvarint_ok g rest w h
  · rw [if_neg he]
    refine (rvarint_err g rest e w h he).mono ?_
    rintro r w' ⟨rfl, rfl⟩
    exact ⟨rfl, h, Upd.refl _ _⟩

theorem rint_any (g : Nat) (rest : List UInt8) (e : Int) (w : World) (h : RdQ Q w g rest e) :
    Calls Tryd.prog 88 #[.pointer (some ⟨g, 0, none⟩)] w fun r w' => r = .returned (.int .i64 (zag (rdVe rest e).1)) ∧ RdQ Q w' g (rdVe rest e).2.1 (rdVe rest e).2.2 ∧ Upd g w w' := by
  have hu : U64 (rdVe rest e).1 := by unfold rdVe; split; exact rdV_u64 _; exact Nat.zero_lt_succ _
  have H := Lib.hid h
  clear h
  go_enter Tryd.func88, Tryd.ntmps88
  go_wp2_with fail
  refine (rvarint_any g rest e _ H.out).mono ?_
  rintro r w1 ⟨rfl, hr1, hu1⟩
  go_wp2_with fail
  refine (zag_any _ _ hu).mono ?_
  rintro r w2 ⟨rfl, rfl⟩
  go_wp2
  go_ret
  exact ⟨rfl, hr1, hu1⟩

end Go.Proofs.YtafkbodmiblbnaaDoor
