/- Texts of one bundle: Rdr, Rdr2, BitsSep, Vint2, Put, Ref01. -/
import Derived.Test.YtcicclghgbdgnaaDoorBkA
import Derived.Test.YtcicclghgbdgnaaDoorBkB
/- Contracts of package bits: the reader. -/
namespace Go.Proofs.YtcicclghgbdgnaaDoor
open Go.RowKit
set_option linter.unusedVariables false
variable {Q : Nat → Prop}

/-- Block g is a reader: what is left, and its first error. -/
def RdQ (Q : Nat → Prop) (w : World) (g : Nat) (rest : List UInt8) (e : Int) : Prop :=
  ∃ v, w.heap[g]? = some (.cells #[v, .int .i64 e] 85 (0, 0)) ∧ SlS w v (bv rest) ∧ (∀ b, v.ownBlock = some b → b < g ∧ Q b)

theorem RdQ.lt {w : World} {g : Nat} {rest : List UInt8} {e : Int} (h : RdQ Q w g rest e) : g < w.heap.size := by
  obtain ⟨v, h, _⟩ := h; exact (Array.getElem?_eq_some_iff.1 h).1
theorem RdQ.keep {w w' : World} {g : Nat} {rest : List UInt8} {e : Int} (h : RdQ Q w g rest e) (hb : Below w.heap.size w w') : RdQ Q w' g rest e := by
  have hlt := h.lt
  obtain ⟨v, h1, h2, h3⟩ := h
  exact ⟨v, by rw [hb.block g hlt]; exact h1, h2.below hb, h3⟩
/-- What the walk reads of it. -/
theorem RdQ.cells {w : World} {g : Nat} {rest : List UInt8} {e : Int} (h : RdQ Q w g rest e) :
    ∃ v, w.cell? ⟨g, 0, none⟩ = some v ∧ w.cell? ⟨g, 1, none⟩ = some (.int .i64 e) ∧ w.frozen? ⟨g, 0, none⟩ = false ∧ w.frozen? ⟨g, 1, none⟩ = false ∧ SlS w v (bv rest) ∧ (∀ b, v.ownBlock = some b → b < g ∧ Q b) := by
  obtain ⟨v, h1, h2, h3⟩ := h
  refine ⟨v, ?_, ?_, ?_, ?_, h2, h3⟩
  · unfold World.cell?; rw [h1]; rfl
  · unfold World.cell?; rw [h1]; rfl
  · unfold World.frozen?; rw [h1]; rfl
  · unfold World.frozen?; rw [h1]; rfl
/-- Both fields stored. -/
theorem RdQ.set0 {w : World} {g : Nat} {rest : List UInt8} {e : Int} (h : RdQ Q w g rest e) {v : Value} {l : List UInt8} (hv : SlS w v (bv l)) (hn : ∀ b, v.ownBlock = some b → b < g ∧ Q b) :
    RdQ Q (w.setCell ⟨g, 0, none⟩ v) g l e := by
  obtain ⟨v0, h1, _⟩ := h
  exact ⟨v, by rw [heap_setCell_at h1]; rfl, hv.upd ((Upd.refl g w).setCell 0 v) (fun e => Nat.lt_irrefl _ (hn g e).1), hn⟩
theorem RdQ.set1 {w : World} {g : Nat} {rest : List UInt8} {e : Int} (h : RdQ Q w g rest e) (e' : Int) :
    RdQ Q (w.setCell ⟨g, 1, none⟩ (.int .i64 e')) g rest e' := by
  obtain ⟨v, h1, h2, h3⟩ := h
  exact ⟨v, by rw [heap_setCell_at h1]; rfl, h2.upd ((Upd.refl g w).setCell 1 _) (fun e => Nat.lt_irrefl _ (h3 g e).1), h3⟩
theorem sls_nil (w : World) : SlS w (.slice none 0 0) (bv []) := .inl ⟨rfl, rfl⟩
theorem sl_nil (w : World) : Sl w (.slice none 0 0) (bv []) := (sls_nil w).sl

theorem broken_any (g : Nat) (rest : List UInt8) (e : Int) (w : World) (h : RdQ Q w g rest e) :
    Calls Tryd.prog 69 #[.pointer (some ⟨g, 0, none⟩)] w fun r w' => r = .returned (.bool (e != 0)) ∧ w = w' := by
  obtain ⟨v, c0, c1, _⟩ := h.cells
  clear h
  go_enter Tryd.func69, Tryd.ntmps69
  go_wp2
  go_ret
  exact ⟨rfl, rfl⟩

theorem fail_any (g : Nat) (rest : List UInt8) (e e' : Int) (w : World) (h : RdQ Q w g rest e) :
    Calls Tryd.prog 71 #[.pointer (some ⟨g, 0, none⟩), .int .i64 e'] w fun r w' => (∃ x, r = .returned x) ∧ RdQ Q w' g [] e' ∧ Upd g w w' := by
  obtain ⟨v, c0, c1, f0, f1, _⟩ := h.cells
  have H := Lib.hid h
  clear h
  go_enter Tryd.func71, Tryd.ntmps71
  go_wp2
  go_end0
  exact ⟨⟨_, rfl⟩, (H.out.set0 (sls_nil w) (by simp [Value.ownBlock])).set1 e', ((Upd.refl g w).setCell 0 _).setCell 1 _⟩

theorem left_any (g : Nat) (rest : List UInt8) (e : Int) (w : World) (h : RdQ Q w g rest e) :
    Calls Tryd.prog 47 #[.pointer (some ⟨g, 0, none⟩)] w fun r w' => r = .returned (.int .i64 (rest.length : Nat)) ∧ w = w' := by
  obtain ⟨v, c0, c1, _, _, hs, _⟩ := h.cells
  obtain ⟨a, c, rfl⟩ := hs.len
  rw [bv_length] at c0
  clear h hs
  go_enter Tryd.func47, Tryd.ntmps47
  go_wp2
  go_ret
  exact ⟨rfl, rfl⟩

theorem err_any (g : Nat) (rest : List UInt8) (e : Int) (w : World) (h : RdQ Q w g rest e) :
    Calls Tryd.prog 45 #[.pointer (some ⟨g, 0, none⟩)] w fun r w' => r = .returned (.int .i64 e) ∧ w = w' := by
  obtain ⟨v, c0, c1, _⟩ := h.cells
  clear h
  go_enter Tryd.func45, Tryd.ntmps45
  go_wp2
  go_ret
  exact ⟨rfl, rfl⟩

def endErr (rest : List UInt8) (e : Int) : Int := if e = 0 ∧ 0 < rest.length then 4 else e
theorem end_any (g : Nat) (rest : List UInt8) (e : Int) (w : World) (h : RdQ Q w g rest e) :
    Calls Tryd.prog 75 #[.pointer (some ⟨g, 0, none⟩)] w fun r w' => r = .returned (.int .i64 (endErr rest e)) ∧ w = w' := by
  have H := Lib.hid h
  clear h
  unfold endErr
  by_cases h0 : e = 0
  · subst h0
    by_cases h1 : 0 < rest.length
    · rw [if_pos ⟨rfl, h1⟩]
      go_enter Tryd.func75, Tryd.ntmps75
      go_wp2_with (first | (go_at_call 45; refine (err_any _ _ _ _ H.out).mono ?_; rintro e w1 ⟨rfl, rfl⟩) | (go_at_call 47; refine (left_any _ _ _ _ H.out).mono ?_; rintro e w1 ⟨rfl, rfl⟩))
      go_ret
      exact ⟨rfl, rfl⟩
    · rw [if_neg (by omega)]
      go_enter Tryd.func75, Tryd.ntmps75
      go_wp2_with (first | (go_at_call 45; refine (err_any _ _ _ _ H.out).mono ?_; rintro e w1 ⟨rfl, rfl⟩) | (go_at_call 47; refine (left_any _ _ _ _ H.out).mono ?_; rintro e w1 ⟨rfl, rfl⟩))
      go_ret
      exact ⟨rfl, rfl⟩
  · rw [if_neg (by omega)]
    have h1 : (e == 0) = false := beq_eq_false_iff_ne.2 h0
    go_enter Tryd.func75, Tryd.ntmps75
    go_wp2_with (first | (go_at_call 45; refine (err_any _ _ _ _ H.out).mono ?_; rintro e w1 ⟨rfl, rfl⟩) | (go_at_call 47; refine (left_any _ _ _ _ H.out).mono ?_; rintro e w1 ⟨rfl, rfl⟩))
    go_ret
    exact ⟨rfl, rfl⟩

/-- What a reader's Varint makes of what is left: the number, what is left behind it, the error. -/
def rdF : Nat → Nat → Nat → List UInt8 → Nat × List UInt8 × Int
  | 0, _, _, _ => (0, [], 9)
  | _ + 1, _, _, [] => (0, [], 3)
  | f + 1, i, u, c :: l =>
    if i = 9 ∧ 1 < c.toNat then (0, [], 9)
    else if c.toNat = 0 ∧ 0 < i then (0, [], 4)
    else if c.toNat < 128 then (u + c.toNat % 128 * 2 ^ (7 * i), l, 0)
    else rdF f (i + 1) (u + c.toNat % 128 * 2 ^ (7 * i)) l
def rdV (l : List UInt8) : Nat × List UInt8 × Int := rdF 10 0 0 l

theorem rvarint_err (g : Nat) (rest : List UInt8) (e : Int) (w : World) (h : RdQ Q w g rest e) (he : ¬ e = 0) :
    Calls Tryd.prog 44 #[.pointer (some ⟨g, 0, none⟩)] w fun r w' => r = .returned (.int .u64 0) ∧ w = w' := by
  have H := Lib.hid h
  clear h
  have h1 : (e != 0) = true := by rw [bne_iff_ne]; exact he
  go_enter Tryd.func44, Tryd.ntmps44
  go_wp2_with (go_at_call 69; refine (broken_any _ _ _ _ H.out).mono ?_; rw [h1]; rintro e w1 ⟨rfl, rfl⟩)
  go_ret
  exact ⟨rfl, rfl⟩

theorem andNot128 (m : Nat) (hm : m < 256) : bits BinOp.andNot IntKind.u8 (m : Int) 128 = ((m % 128 : Nat) : Int) := by
  have h : ∀ a : Nat, a < 256 → bits BinOp.andNot IntKind.u8 ((a : Nat) : Int) 128 = ((a % 128 : Nat) : Int) := by decide +kernel
  exact h m hm
theorem vbits (k x m : Nat) (hx : x < 2 ^ (7 * k)) (hk : k ≤ 9) (hm : m < 256) (h9 : k = 9 → m ≤ 1) :
    bits BinOp.or IntKind.u64 (x : Int) (IntKind.u64.wrap (IntKind.u64.wrap (bits BinOp.andNot IntKind.u8 (m : Int) 128) * 2 ^ (7 * k))) = ((x + m % 128 * 2 ^ (7 * k) : Nat) : Int) := by
  have hb : m % 128 * 2 ^ (7 * k) < 2 ^ 64 := by
    by_cases h : k = 9
    · subst h
      have := h9 rfl
      have : m % 128 ≤ 1 := by omega
      calc m % 128 * 2 ^ (7 * 9) ≤ 1 * 2 ^ (7 * 9) := Nat.mul_le_mul_right _ this
        _ < 2 ^ 64 := by decide
    · have h2 : 2 ^ (7 * k) ≤ 2 ^ 56 := Nat.pow_le_pow_right (by omega) (by omega)
      calc m % 128 * 2 ^ (7 * k) ≤ 127 * 2 ^ 56 := Nat.mul_le_mul (by omega) h2
        _ < 2 ^ 64 := by decide
  have hx64 : x < 2 ^ 64 := by
    have h2 : 2 ^ (7 * k) ≤ 2 ^ 63 := Nat.pow_le_pow_right (by omega) (by omega)
    omega
  have e1 : IntKind.u64.wrap ((m % 128 : Nat) : Int) = ((m % 128 : Nat) : Int) := by rw [IntKind.wrap_u64]; omega
  have e2 : IntKind.u64.wrap (((m % 128 : Nat) : Int) * 2 ^ (7 * k)) = ((m % 128 * 2 ^ (7 * k) : Nat) : Int) := by
    have : (((m % 128 : Nat) : Int) * 2 ^ (7 * k)) = ((m % 128 * 2 ^ (7 * k) : Nat) : Int) := by simp
    rw [this, IntKind.wrap_u64]; omega
  rw [andNot128 m hm, e1, e2, bits_or_u64_nat _ _ (by omega) (by omega)]
  congr 1
  rw [Nat.or_comm, Nat.mul_comm, ← Nat.two_pow_add_eq_or_of_lt hx, Nat.add_comm]

theorem sl_from {w : World} {b off c : Nat} {rest : List UInt8} {k : Nat} (h : SlS w (.slice (some ⟨b, off, none⟩) rest.length c) (bv rest)) (hk : k ≤ rest.length) (hc : ¬ c = k) :
    SlS w (.slice (some ⟨b, off + k, none⟩) (rest.length - k) (c - k)) (bv (rest.drop k)) := by
  rcases h with ⟨h, _⟩ | ⟨b', off', cap, h, h1, h2, h3, h4⟩
  · simp at h
  · simp only [Value.slice.injEq, Option.some.injEq, Addr.mk.injEq, and_true] at h
    obtain ⟨⟨rfl, rfl⟩, _, rfl⟩ := h
    rw [bv_length] at h1
    refine .inr ⟨b, off + k, c - k, by simp [bv_length], by rw [bv_length, List.length_drop]; omega, by omega, h3, fun j u hj => ?_⟩
    rw [show off + k + j = off + (k + j) by omega]
    apply h4
    simpa [bv] using hj
theorem sl_from_cap {w : World} {b off c : Nat} {rest : List UInt8} {k : Nat} (h : SlS w (.slice (some ⟨b, off, none⟩) rest.length c) (bv rest)) (hc : c = k) (hk : k ≤ rest.length) :
    SlS w (.slice (some ⟨b, off, none⟩) (rest.length - k) 0) (bv (rest.drop k)) := by
  rcases h with ⟨h, _⟩ | ⟨b', off', cap, h, h1, h2, h3, h4⟩
  · simp at h
  · simp only [Value.slice.injEq, Option.some.injEq, Addr.mk.injEq, and_true] at h
    obtain ⟨⟨rfl, rfl⟩, _, rfl⟩ := h
    rw [bv_length] at h1
    have e : rest.drop k = [] := List.drop_eq_nil_of_le (by omega)
    rw [e]
    refine .inr ⟨b, off, 0, by simp [bv, show rest.length - k = 0 by omega], by simp [bv], by omega, h3, fun j u hj => by simp [bv] at hj⟩

set_option maxRecDepth 100000 in
set_option maxHeartbeats 1000000 in
theorem rvarint_ok (g : Nat) (rest : List UInt8) (w : World) (h : RdQ Q w g rest 0) :
    Calls Tryd.prog 44 #[.pointer (some ⟨g, 0, none⟩)] w fun r w' => r = .returned (.int .u64 (rdV rest).1) ∧ RdQ Q w' g (rdV rest).2.1 (rdV rest).2.2 ∧ Upd g w w' := by
  obtain ⟨v, c0, c1, f0, f1, hs, hne⟩ := h.cells
  obtain ⟨a, c, rfl⟩ := hs.len
  rw [bv_length] at c0 hs hne
  have H := Lib.hid h
  have Hs := Lib.hid hs
  clear h hs
  go_enter Tryd.func44, Tryd.ntmps44
  go_wp2_with (go_at_call 69; refine (broken_any _ _ _ _ H.out).mono ?_; rw [show ((0 : Int) != 0) = false from rfl]; rintro e w1 ⟨rfl, rfl⟩)
  go_loop [3, 8] (fun u i => ∃ (k x : Nat), k ≤ rest.length ∧ k ≤ 9 ∧ i = .int .i64 k ∧ u = .int .u64 x ∧ x < 2 ^ (7 * k) ∧ rdF (10 - k) k x (rest.drop k) = rdV rest) (fun _ i => 10 - (intOf i).toNat)
  case atStart => exact ⟨0, 0, by omega, by omega, rfl, rfl, by decide, rfl⟩
  case round =>
    obtain ⟨k, x, hkl, hk, rfl, rfl, hx, hr⟩ := hrel
    have Hx := Lib.hid hx
    have Hr := Lib.hid hr
    clear hx hr
    by_cases hlt : k = rest.length
    · have hv : rdV rest = (0, [], 3) := by
        rw [← Hr.out, hlt, List.drop_length, show 10 - rest.length = (9 - rest.length) + 1 by omega]; rfl
      have Hv := Lib.hid hv
      clear hv Hr Hx
      subst hlt
      go_wp2_with (go_at_call 71; refine (fail_any g rest 0 3 _ H.out).mono ?_; rintro e w1 ⟨⟨x, rfl⟩, hr1, hu1⟩)
      go_ret
      rw [Hv.out]
      exact ⟨rfl, hr1, hu1⟩
    have hlt2 : k < rest.length := by omega
    clear hkl
    · obtain ⟨b, off, rfl, hc⟩ : ∃ b off, a = some ⟨b, off, none⟩ ∧ w.cell? ⟨b, off + k, none⟩ = some (.int .u8 (rest[k].toNat : Nat)) := by
        rcases Hs.out with ⟨_, h2⟩ | ⟨b, off, cap, h2, _, _, _, h3⟩
        · rw [bv_nil_iff] at h2; subst h2; simp at hlt2
        · simp only [Value.slice.injEq] at h2
          exact ⟨b, off, h2.1, h3 k _ (bv_get rest k hlt2)⟩
      have hstep := Hr.out
      rw [List.drop_eq_getElem_cons hlt2, show 10 - k = (9 - k) + 1 by omega, rdF] at hstep
      have hm : rest[k].toNat < 256 := rest[k].toNat_lt
      generalize rest[k].toNat = m at hc hstep hm
      have Hstep := Lib.hid hstep
      clear hstep Hr hlt
      by_cases h1 : k = 9 ∧ 1 < m
      · obtain ⟨rfl, h1⟩ := h1
        have hv : rdV rest = (0, [], 9) := by rw [← Hstep.out, if_pos ⟨rfl, h1⟩]
        have Hv := Lib.hid hv
        clear hv Hstep Hx
        go_wp2_with (go_at_call 71; refine (fail_any g rest 0 9 _ H.out).mono ?_; rintro e w1 ⟨⟨x, rfl⟩, hr1, hu1⟩)
        go_ret
        rw [Hv.out]
        exact ⟨rfl, hr1, hu1⟩
      by_cases h2 : m = 0 ∧ 0 < k
      · obtain ⟨rfl, h2⟩ := h2
        have hv : rdV rest = (0, [], 4) := by rw [← Hstep.out, if_neg h1, if_pos ⟨rfl, h2⟩]
        have Hv := Lib.hid hv
        clear hv Hstep Hx h1
        have hk9 : ((k : Int) == 9) = true ∨ ((k : Int) == 9) = false := by cases ((k : Int) == 9) <;> simp
        rcases hk9 with hk9 | hk9
        all_goals
          go_wp2_with (go_at_call 71; refine (fail_any g rest 0 4 _ H.out).mono ?_; rintro e w1 ⟨⟨x, rfl⟩, hr1, hu1⟩)
          go_ret
          rw [Hv.out]
          exact ⟨rfl, hr1, hu1⟩
      have hstep2 := Hstep.out
      rw [if_neg h1, if_neg h2] at hstep2
      have hnum := vbits k x m Hx.out (by omega) hm (by omega)
      by_cases h3 : m < 128
      · rw [if_pos h3] at hstep2
        have Hv := Lib.hid hstep2
        have Hn := Lib.hid hnum
        clear hstep2 Hstep hnum
        have hcases : (((k : Int) == 9) = true ∧ m ≤ 1 ∧ ((m : Int) == 0) = false) ∨ (((k : Int) == 9) = false ∧ ((m : Int) == 0) = true ∧ k ≤ 0) ∨ (((k : Int) == 9) = false ∧ ((m : Int) == 0) = false) := by
          by_cases h : k = 9
          · exact .inl ⟨by simp [h], by omega, beq_eq_false_iff_ne.2 (by omega)⟩
          · by_cases h' : m = 0
            · exact .inr (.inl ⟨beq_eq_false_iff_ne.2 (by omega), by simp [h'], by omega⟩)
            · exact .inr (.inr ⟨beq_eq_false_iff_ne.2 (by omega), beq_eq_false_iff_ne.2 (by omega)⟩)
        clear h1 h2
        by_cases hcap : c = k + 1
        · have hsl := sl_from_cap Hs.out hcap (by omega)
          have hne2 : ∀ b', (Value.slice (some ⟨b, off, none⟩) (rest.length - (k + 1)) 0).ownBlock = some b' → b' < g ∧ Q b' := by simpa [Value.ownBlock] using hne
          rcases hcases with ⟨hk9, hm1, hm0⟩ | ⟨hk9, hm0, hk0⟩ | ⟨hk9, hm0⟩
          all_goals
            go_wp2
            go_ret
            refine ⟨?_, ?_, (Upd.refl g w).setCell 0 _⟩
            · rw [← Hv.out]; exact congrArg (fun z => Ending.returned (.int .u64 z)) Hn.out
            · rw [← Hv.out]; exact H.out.set0 hsl hne2
        · have hsl := sl_from Hs.out (show k + 1 ≤ rest.length by omega) hcap
          have hne2 : ∀ b', (Value.slice (some ⟨b, off + (k + 1), none⟩) (rest.length - (k + 1)) (c - (k + 1))).ownBlock = some b' → b' < g ∧ Q b' := by simpa [Value.ownBlock] using hne
          rcases hcases with ⟨hk9, hm1, hm0⟩ | ⟨hk9, hm0, hk0⟩ | ⟨hk9, hm0⟩
          all_goals
            go_wp2
            go_ret
            refine ⟨?_, ?_, (Upd.refl g w).setCell 0 _⟩
            · rw [← Hv.out]; exact congrArg (fun z => Ending.returned (.int .u64 z)) Hn.out
            · rw [← Hv.out]; exact H.out.set0 hsl hne2
      · rw [if_neg h3] at hstep2
        have Hv := Lib.hid hstep2
        have Hn := Lib.hid hnum
        have hk9 : ((k : Int) == 9) = false := beq_eq_false_iff_ne.2 (by omega)
        have hm0 : ((m : Int) == 0) = false := beq_eq_false_iff_ne.2 (by omega)
        have hk8 : k ≤ 8 := by omega
        have hxx : x + m % 128 * 2 ^ (7 * k) < 2 ^ (7 * (k + 1)) := by
          have hx := Hx.out
          have : 2 ^ (7 * (k + 1)) = 2 ^ (7 * k) * 128 := by rw [show 7 * (k + 1) = 7 * k + 7 by omega, Nat.pow_add]
          have h5 : m % 128 * 2 ^ (7 * k) ≤ 127 * 2 ^ (7 * k) := Nat.mul_le_mul_right _ (by omega)
          rw [this]; omega
        have Hxx := Lib.hid hxx
        clear hstep2 Hstep hnum h1 h2 hxx
        go_wp2
        go_round
        case rel => exact ⟨k + 1, _, by omega, by omega, by go_num, congrArg (Value.int .u64) Hn.out, Hxx.out, by rw [← Hv.out, show 10 - (k + 1) = 9 - k by omega]⟩
        case measure => simp [intOf]; omega

theorem rdF_spec (f i u : Nat) (l : List UInt8) (hf : f + i = 10) (hu : u < 2 ^ (7 * i)) : U64 (rdF f i u l).1 ∧ (rdF f i u l).2.1.length ≤ l.length := by
  induction f generalizing i u l with
  | zero => exact ⟨by simp [rdF, U64], by simp [rdF]⟩
  | succ f ih =>
    cases l with
    | nil => exact ⟨by simp [rdF, U64], by simp [rdF]⟩
    | cons c l =>
      rw [rdF]
      split
      · exact ⟨by simp [U64], by simp⟩
      rename_i h1
      split
      · exact ⟨by simp [U64], by simp⟩
      have hc := c.toNat_lt
      have hp : 2 ^ (7 * (i + 1)) = 2 ^ (7 * i) * 128 := by rw [show 7 * (i + 1) = 7 * i + 7 by omega, Nat.pow_add]
      have h5 : c.toNat % 128 * 2 ^ (7 * i) ≤ 127 * 2 ^ (7 * i) := Nat.mul_le_mul_right _ (by omega)
      split
      · rename_i h3
        refine ⟨?_, by simp⟩
        show u + c.toNat % 128 * 2 ^ (7 * i) < 18446744073709551616
        by_cases h9 : i = 9
        · subst h9
          have : c.toNat % 128 * 2 ^ (7 * 9) ≤ 1 * 2 ^ (7 * 9) := Nat.mul_le_mul_right _ (by omega)
          omega
        · have h2 : 2 ^ (7 * i) ≤ 2 ^ 56 := Nat.pow_le_pow_right (by omega) (by omega)
          omega
      · obtain ⟨a, b⟩ := ih (i + 1) (u + c.toNat % 128 * 2 ^ (7 * i)) l (by omega) (by rw [hp]; omega)
        exact ⟨a, by simp; omega⟩
theorem rdV_u64 (l : List UInt8) : U64 (rdV l).1 := (rdF_spec 10 0 0 l rfl (by decide)).1
theorem rdV_len (l : List UInt8) : (rdV l).2.1.length ≤ l.length := (rdF_spec 10 0 0 l rfl (by decide)).2

/-- The reader's Varint, whatever its error. -/
def rdVe (rest : List UInt8) (e : Int) : Nat × List UInt8 × Int := if e = 0 then rdV rest else (0, rest, e)
theorem rvarint_any (g : Nat) (rest : List UInt8) (e : Int) (w : World) (h : RdQ Q w g rest e) :
    Calls Tryd.prog 44 #[.pointer (some ⟨g, 0, none⟩)] w fun r w' => r = .returned (.int .u64 (rdVe rest e).1) ∧ RdQ Q w' g (rdVe rest e).2.1 (rdVe rest e).2.2 ∧ Upd g w w' := by
  unfold rdVe
  by_cases he : e = 0
  · subst he; exact rvarint_ok g rest w h
  · rw [if_neg he]
    refine (rvarint_err g rest e w h he).mono ?_
    rintro r w' ⟨rfl, rfl⟩
    exact ⟨rfl, h, Upd.refl _ _⟩

theorem rint_any (g : Nat) (rest : List UInt8) (e : Int) (w : World) (h : RdQ Q w g rest e) :
    Calls Tryd.prog 73 #[.pointer (some ⟨g, 0, none⟩)] w fun r w' => r = .returned (.int .i64 (zag (rdVe rest e).1)) ∧ RdQ Q w' g (rdVe rest e).2.1 (rdVe rest e).2.2 ∧ Upd g w w' := by
  have hu : U64 (rdVe rest e).1 := by unfold rdVe; split; exact rdV_u64 _; exact Nat.zero_lt_succ _
  have H := Lib.hid h
  clear h
  go_enter Tryd.func73, Tryd.ntmps73
  go_wp2_with fail
  refine (rvarint_any g rest e _ H.out).mono ?_
  rintro r w1 ⟨rfl, hr1, hu1⟩
  go_wp2_with fail
  refine (zag_any _ _ hu).mono ?_
  rintro r w2 ⟨rfl, rfl⟩
  go_wp2
  go_ret
  exact ⟨rfl, hr1, hu1⟩

end Go.Proofs.YtcicclghgbdgnaaDoor

/- Contracts of package bits: the reader's Text and Num. -/
namespace Go.Proofs.YtcicclghgbdgnaaDoor
open Go.RowKit
set_option linter.unusedVariables false
variable {Q : Nat → Prop}

/-- What a reader's Text makes of what is left. -/
def rdT (l : List UInt8) : List UInt8 × List UInt8 × Int :=
  if (rdV l).2.2 ≠ 0 then ([], (rdV l).2.1, (rdV l).2.2)
  else if (rdV l).2.1.length < (rdV l).1 then ([], [], 3)
  else ((rdV l).2.1.take (rdV l).1, (rdV l).2.1.drop (rdV l).1, 0)

theorem RdQ.len {w : World} {g : Nat} {rest : List UInt8} {e : Int} (h : RdQ Q w g rest e) :
    ∃ a c, w.cell? ⟨g, 0, none⟩ = some (.slice a rest.length c) ∧ w.cell? ⟨g, 1, none⟩ = some (.int .i64 e) ∧ w.frozen? ⟨g, 0, none⟩ = false ∧ w.frozen? ⟨g, 1, none⟩ = false ∧ SlS w (.slice a rest.length c) (bv rest) ∧ (∀ n c' b, (Value.slice a n c').ownBlock = some b → b < g ∧ Q b) := by
  obtain ⟨v, c0, c1, f0, f1, hs, hne⟩ := h.cells
  obtain ⟨a, c, rfl⟩ := hs.len
  rw [bv_length] at c0 hs
  refine ⟨a, c, c0, c1, f0, f1, hs, fun n c' => ?_⟩
  cases a with
  | none => simp [Value.ownBlock]
  | some a => simpa [Value.ownBlock] using hne

theorem sl_form {w : World} {a : Option Addr} {l : List UInt8} {c : Nat} (h : SlS w (.slice a l.length c) (bv l)) :
    (a = none ∧ l = [] ∧ c = 0) ∨ ∃ b off, a = some ⟨b, off, none⟩ ∧ l.length ≤ c := by
  rcases h with ⟨h, h2⟩ | ⟨b, off, cap, h, h1, _⟩
  · simp only [Value.slice.injEq] at h
    exact .inl ⟨h.1, (bv_nil_iff l).1 h2, h.2.2⟩
  · simp only [Value.slice.injEq] at h
    obtain ⟨rfl, _, rfl⟩ := h
    exact .inr ⟨b, off, rfl, by rw [bv_length] at h1; exact h1⟩

theorem sl_take {w : World} {b off c : Nat} {l : List UInt8} {u : Nat} (h : SlS w (.slice (some ⟨b, off, none⟩) l.length c) (bv l)) (hu : u ≤ l.length) :
    SlS w (.slice (some ⟨b, off, none⟩) u c) (bv (l.take u)) := by
  rcases h with ⟨h, _⟩ | ⟨b', off', cap, h, h1, h2, h3, h4⟩
  · simp at h
  · simp only [Value.slice.injEq, Option.some.injEq, Addr.mk.injEq, and_true] at h
    obtain ⟨⟨rfl, rfl⟩, _, rfl⟩ := h
    rw [bv_length] at h1
    refine .inr ⟨b, off, c, by rw [bv_length, List.length_take, Nat.min_eq_left hu], by rw [bv_length, List.length_take]; omega, h2, h3, fun j u' hj => h4 j u' ?_⟩
    rw [bv, List.map_take, List.getElem?_take] at hj
    split at hj
    · exact hj
    · cases hj

theorem sl_pre {w : World} {a : Option Addr} {c : Nat} {l : List UInt8} {u : Nat} (h : Sl w (.slice a l.length c) (bv l)) (hu : u ≤ l.length) : Sl w (.slice a u c) (bv (l.take u)) := by
  rcases h with h | ⟨x, c', hv, hx⟩
  · rcases sl_form h with ⟨rfl, rfl, rfl⟩ | ⟨b, off, rfl, _⟩
    · obtain rfl : u = 0 := by simpa using hu
      exact sl_nil w
    · exact (sl_take h hu).sl
  · obtain rfl := (bv_nil_iff l).1 hx
    obtain rfl : u = 0 := by simpa using hu
    exact .inr ⟨x, c', hv, by simp [bv]⟩

set_option maxRecDepth 100000 in
theorem rtext_ok (g : Nat) (rest : List UInt8) (w : World) (h : RdQ Q w g rest 0) (hlen : rest.length ≤ 1099511627776) :
    Calls Tryd.prog 72 #[.pointer (some ⟨g, 0, none⟩)] w fun r w' => (∃ v', r = .returned v' ∧ Own w' w.heap.size 5 v' (bv (rdT rest).1)) ∧ RdQ Q w' g (rdT rest).2.1 (rdT rest).2.2 ∧ Upd g w w' := by
  have H := Lib.hid h
  have hlt := h.lt
  have hT : rdT rest = if (rdV rest).2.2 ≠ 0 then ([], (rdV rest).2.1, (rdV rest).2.2)
    else if (rdV rest).2.1.length < (rdV rest).1 then ([], [], 3)
    else ((rdV rest).2.1.take (rdV rest).1, (rdV rest).2.1.drop (rdV rest).1, 0) := rfl
  clear h
  go_enter Tryd.func72, Tryd.ntmps72
  go_wp2_with fail
  refine (rvarint_ok g rest _ H.out).mono ?_
  rintro r w1 ⟨rfl, hr1, hu1⟩
  have hl2 : (rdV rest).2.1.length ≤ rest.length := rdV_len _
  have hu : U64 (rdV rest).1 := rdV_u64 _
  generalize rdV rest = q at *
  obtain ⟨u, l, e⟩ := q
  dsimp only at *
  have H1 := Lib.hid hr1
  clear hr1
  by_cases he : e = 0
  · subst he
    rw [if_neg (by simp)] at hT
    obtain ⟨a, c, c0, c1, f0, f1, hs, hne⟩ := H1.out.len
    have Hs := Lib.hid hs
    clear hs
    by_cases hul : l.length < u
    · rw [if_pos hul] at hT
      have HT := Lib.hid hT
      clear hT
      go_wp2_with (first | (go_at_call 69; refine (broken_any _ _ _ _ H1.out).mono ?_; rw [show ((0 : Int) != 0) = false from rfl]; rintro e w2 ⟨rfl, rfl⟩) | (go_at_call 71; refine (fail_any g l 0 3 _ H1.out).mono ?_; rintro e w2 ⟨⟨x, rfl⟩, hr2, hu2⟩))
      go_ret
      rw [HT.out]
      exact ⟨⟨_, rfl, own_nil _ _⟩, hr2, hu1.trans hu2⟩
    · rw [if_neg hul] at hT
      have HT := Lib.hid hT
      clear hT
      rcases sl_form Hs.out with ⟨rfl, rfl, rfl⟩ | ⟨b, off, rfl, hle⟩
      · obtain rfl : u = 0 := by simp at hul; omega
        clear hul
        go_wp2_with (go_at_call 69; refine (broken_any _ _ _ _ H1.out).mono ?_; rw [show ((0 : Int) != 0) = false from rfl]; rintro e w2 ⟨rfl, rfl⟩)
        refine (clone_any _ [] _ (sl_nil _) (by simp)).mono ?_
        rintro e w2 ⟨⟨v2, rfl, ho2⟩, hb2⟩
        have hg1 := H1.out.lt
        have c0' := (hb2.cell (p := ⟨g, 0, none⟩) hg1).trans c0
        have f0' := (hb2.frozen (p := ⟨g, 0, none⟩) hg1).trans f0
        have H2 := Lib.hid (H1.out.keep hb2)
        clear c0 f0 c1 f1
        have hsl := sls_nil w2
        go_wp2
        go_ret
        rw [HT.out]
        exact ⟨⟨v2, rfl, (ho2.base hu1.size).upd ((Upd.refl g w2).setCell 0 _) (ho2.ne hg1)⟩, H2.out.set0 hsl (hne 0 0), hu1.trans ((below_upd hb2 g).setCell 0 _)⟩
      · go_wp2_with (go_at_call 69; refine (broken_any _ _ _ _ H1.out).mono ?_; rw [show ((0 : Int) != 0) = false from rfl]; rintro e w2 ⟨rfl, rfl⟩)
        refine (clone_any _ (l.take u) _ (sl_take Hs.out (by omega)).sl (by simp; omega)).mono ?_
        rintro e w2 ⟨⟨v2, rfl, ho2⟩, hb2⟩
        have hg1 := H1.out.lt
        have c0' := (hb2.cell (p := ⟨g, 0, none⟩) hg1).trans c0
        have f0' := (hb2.frozen (p := ⟨g, 0, none⟩) hg1).trans f0
        have H2 := Lib.hid (H1.out.keep hb2)
        clear c0 f0 c1 f1
        by_cases hcap : c = u
        · have hsl := sl_from_cap (Hs.out.below hb2) hcap (show u ≤ l.length by omega)
          have Hsl := Lib.hid hsl
          have Hcap := Lib.hid hcap
          clear hsl
          go_wp2
          go_ret
          rw [HT.out]
          exact ⟨⟨v2, rfl, (ho2.base hu1.size).upd ((Upd.refl g w2).setCell 0 _) (ho2.ne hg1)⟩, H2.out.set0 Hsl.out (hne 0 0), hu1.trans ((below_upd hb2 g).setCell 0 _)⟩
        · have hsl := sl_from (Hs.out.below hb2) (show u ≤ l.length by omega) hcap
          go_wp2
          go_ret
          rw [HT.out]
          exact ⟨⟨v2, rfl, (ho2.base hu1.size).upd ((Upd.refl g w2).setCell 0 _) (ho2.ne hg1)⟩, H2.out.set0 hsl (hne 0 0), hu1.trans ((below_upd hb2 g).setCell 0 _)⟩
  · rw [if_pos he] at hT
    have HT := Lib.hid hT
    have he' : (e != 0) = true := by rw [bne_iff_ne]; exact he
    clear hT
    go_wp2_with (go_at_call 69; refine (broken_any _ _ _ _ H1.out).mono ?_; rw [he']; rintro e w2 ⟨rfl, rfl⟩)
    go_ret
    rw [HT.out]
    exact ⟨⟨_, rfl, own_nil _ _⟩, H1.out, hu1⟩

/-- The reader's Text, whatever its error. -/
def rdTe (rest : List UInt8) (e : Int) : List UInt8 × List UInt8 × Int := if e = 0 then rdT rest else ([], rest, e)
theorem rtext_err (g : Nat) (rest : List UInt8) (e : Int) (w : World) (h : RdQ Q w g rest e) (he : ¬ e = 0) :
    Calls Tryd.prog 72 #[.pointer (some ⟨g, 0, none⟩)] w fun r w' => r = .returned (.slice none 0 0) ∧ RdQ Q w' g rest e ∧ Upd g w w' := by
  have H := Lib.hid h
  have h1 : (e != 0) = true := by rw [bne_iff_ne]; exact he
  clear h
  go_enter Tryd.func72, Tryd.ntmps72
  go_wp2_with (first | (go_at_call 44; refine (rvarint_err _ _ _ _ H.out he).mono ?_; rintro r w1 ⟨rfl, rfl⟩) | (go_at_call 69; refine (broken_any _ _ _ _ H.out).mono ?_; rw [h1]; rintro r w1 ⟨rfl, rfl⟩))
  go_ret
  exact ⟨rfl, H.out, Upd.refl _ _⟩
theorem rtext_any (g : Nat) (rest : List UInt8) (e : Int) (w : World) (h : RdQ Q w g rest e) (hlen : rest.length ≤ 1099511627776) :
    Calls Tryd.prog 72 #[.pointer (some ⟨g, 0, none⟩)] w fun r w' => (∃ v', r = .returned v' ∧ Own w' w.heap.size 5 v' (bv (rdTe rest e).1)) ∧ RdQ Q w' g (rdTe rest e).2.1 (rdTe rest e).2.2 ∧ Upd g w w' := by
  unfold rdTe
  by_cases he : e = 0
  · subst he; exact rtext_ok g rest w h hlen
  · rw [if_neg he]
    refine (rtext_err g rest e w h he).mono ?_
    rintro r w' ⟨rfl, h1, h2⟩
    exact ⟨⟨_, rfl, own_nil _ _⟩, h1, h2⟩

/-- What a reader's Num makes of what is left. -/
def beVal (l : List UInt8) : Nat := l.foldl (fun x c => x * 256 + c.toNat) 0
theorem beVal_snoc (l : List UInt8) (c : UInt8) : beVal (l ++ [c]) = beVal l * 256 + c.toNat := by simp [beVal]
theorem beVal_lt (l : List UInt8) : beVal l < 256 ^ l.length := by
  have h : ∀ (n : Nat) (l : List UInt8), l.length = n → beVal l < 256 ^ n := by
    intro n
    induction n with
    | zero => intro l h; rw [List.eq_nil_of_length_eq_zero h]; simp [beVal]
    | succ n ih =>
      intro l h
      have hne : l ≠ [] := by intro e; simp [e] at h
      rw [← List.dropLast_concat_getLast hne, beVal_snoc, Nat.pow_succ]
      have h1 := ih l.dropLast (by simp [h])
      have := (l.getLast hne).toNat_lt
      omega
  exact h _ l rfl
theorem num_step (x m : Nat) (hx : x < 256 ^ 7) (hm : m < 256) : bits BinOp.or IntKind.u64 (IntKind.u64.wrap ((x : Int) * 256)) (m : Int) = ((x * 256 + m : Nat) : Int) := by
  have e1 : IntKind.u64.wrap ((x : Int) * 256) = ((x * 256 : Nat) : Int) := by rw [IntKind.wrap_u64]; omega
  rw [e1, bits_or_u64_nat _ _ (by omega) (by omega)]
  have := Nat.two_pow_add_eq_or_of_lt (i := 8) (b := m) (by omega) x
  rw [show x * 256 = 2 ^ 8 * x by omega, ← this]
def rdN (c : Nat) (l : List UInt8) : Nat × List UInt8 × Int := if l.length < c then (0, [], 3) else (beVal (l.take c), l.drop c, 0)

theorem rnum_err (g : Nat) (s : Int) (rest : List UInt8) (e : Int) (w : World) (h : RdQ Q w g rest e) (he : ¬ e = 0) :
    Calls Tryd.prog 43 #[.pointer (some ⟨g, 0, none⟩), .int .i64 s] w fun r w' => r = .returned (.int .u64 0) ∧ RdQ Q w' g rest e ∧ Upd g w w' := by
  have H := Lib.hid h
  have h1 : (e != 0) = true := by rw [bne_iff_ne]; exact he
  clear h
  go_enter Tryd.func43, Tryd.ntmps43
  go_wp2_with (go_at_call 69; refine (broken_any _ _ _ _ H.out).mono ?_; rw [h1]; rintro r w1 ⟨rfl, rfl⟩)
  go_ret
  exact ⟨rfl, H.out, Upd.refl _ _⟩
theorem rnum_arg (g : Nat) (s : Int) (rest : List UInt8) (w : World) (h : RdQ Q w g rest 0) (hs : isSize s = false) :
    Calls Tryd.prog 43 #[.pointer (some ⟨g, 0, none⟩), .int .i64 s] w fun r w' => r = .returned (.int .u64 0) ∧ RdQ Q w' g [] 2 ∧ Upd g w w' := by
  have H := Lib.hid h
  clear h
  go_enter Tryd.func43, Tryd.ntmps43
  go_wp2_with (first | (go_at_call 69; refine (broken_any _ _ _ _ H.out).mono ?_; rw [show ((0 : Int) != 0) = false from rfl]; rintro r w1 ⟨rfl, rfl⟩) | (go_at_call 70; refine (isSize_any _ _).mono ?_; rw [hs]; rintro e w1 ⟨rfl, rfl⟩) | (go_at_call 71; refine (fail_any g rest 0 2 _ H.out).mono ?_; rintro r w1 ⟨⟨x, rfl⟩, hr1, hu1⟩))
  go_ret
  exact ⟨rfl, hr1, hu1⟩

set_option maxRecDepth 100000 in
theorem rnum1 (g : Nat) (rest : List UInt8) (w : World) (h : RdQ Q w g rest 0) :
    Calls Tryd.prog 43 #[.pointer (some ⟨g, 0, none⟩), .int .i64 8] w fun r w' => r = .returned (.int .u64 (rdN 1 rest).1) ∧ RdQ Q w' g (rdN 1 rest).2.1 (rdN 1 rest).2.2 ∧ Upd g w w' := by
  have H := Lib.hid h
  obtain ⟨a, c, c0, c1, f0, f1, hs, hne⟩ := h.len
  have Hs := Lib.hid hs
  clear h hs
  by_cases hlt : rest.length < 1
  · have HT := Lib.hid (show rdN 1 rest = (0, [], 3) from if_pos hlt)
    go_enter Tryd.func43, Tryd.ntmps43
    go_wp2_with (first | (go_at_call 69; refine (broken_any _ _ _ _ H.out).mono ?_; rw [show ((0 : Int) != 0) = false from rfl]; rintro r w1 ⟨rfl, rfl⟩) | (go_at_call 70; refine (isSize_any _ _).mono ?_; rw [show isSize 8 = true from rfl]; rintro e w1 ⟨rfl, rfl⟩) | (go_at_call 71; refine (fail_any g rest 0 3 _ H.out).mono ?_; rintro r w1 ⟨⟨x, rfl⟩, hr1, hu1⟩))
    go_ret
    rw [HT.out]
    exact ⟨rfl, hr1, hu1⟩
  · have HT := Lib.hid (show rdN 1 rest = (beVal (rest.take 1), rest.drop 1, 0) from if_neg hlt)
    rcases sl_form Hs.out with ⟨rfl, rfl, rfl⟩ | ⟨b, off, rfl, hle⟩
    · simp at hlt
    go_enter Tryd.func43, Tryd.ntmps43
    go_wp2_with (first | (go_at_call 69; refine (broken_any _ _ _ _ H.out).mono ?_; rw [show ((0 : Int) != 0) = false from rfl]; rintro r w1 ⟨rfl, rfl⟩) | (go_at_call 70; refine (isSize_any _ _).mono ?_; rw [show isSize 8 = true from rfl]; rintro e w1 ⟨rfl, rfl⟩))
    go_loop [6, 27] (fun n i => ∃ (j : Nat), j ≤ 1 ∧ i = .int .i64 j ∧ n = .int .u64 (beVal (rest.take j) : Nat)) (fun _ i => 1 - (intOf i).toNat)
    case atStart => exact ⟨0, by omega, rfl, rfl⟩
    case round =>
      obtain ⟨j, hj, rfl, rfl⟩ := hrel
      by_cases hjc : j < 1
      · have hjl : j < rest.length := by omega
        have hcell : w.cell? ⟨b, off + j, none⟩ = some (.int .u8 (rest[j].toNat : Nat)) := by
          rcases Hs.out with ⟨h2, _⟩ | ⟨b', off', cap, h2, _, _, _, h3⟩
          · simp at h2
          · simp only [Value.slice.injEq, Option.some.injEq, Addr.mk.injEq, and_true] at h2
            obtain ⟨⟨rfl, rfl⟩, _, _⟩ := h2
            exact h3 j _ (bv_get rest j hjl)
        have hm : rest[j].toNat < 256 := rest[j].toNat_lt
        have hx : beVal (rest.take j) < 256 ^ 7 := by
          have h1 := beVal_lt (rest.take j)
          have h2 : 256 ^ (rest.take j).length ≤ 256 ^ 7 := Nat.pow_le_pow_right (by omega) (by rw [List.length_take]; omega)
          omega
        have hstep := num_step _ _ hx hm
        rw [← beVal_snoc, ← List.take_succ_eq_append_getElem hjl] at hstep
        have Hstep := Lib.hid hstep
        clear hstep hx
        generalize rest[j].toNat = m at *
        generalize beVal (rest.take j) = x at *
        go_wp2
        go_round
        case rel => exact ⟨j + 1, by omega, by go_num, congrArg (Value.int .u64) Hstep.out⟩
        case measure => simp [intOf]; omega
      · obtain rfl : j = 1 := by omega
        by_cases hcap : c = 1
        · have hsl := sl_from_cap Hs.out hcap (show 1 ≤ rest.length by omega)
          have Hcap := Lib.hid hcap
          go_wp2
          go_ret
          rw [HT.out]
          exact ⟨rfl, H.out.set0 hsl (hne 0 0), (Upd.refl g w).setCell 0 _⟩
        · have hsl := sl_from Hs.out (show 1 ≤ rest.length by omega) hcap
          go_wp2
          go_ret
          rw [HT.out]
          exact ⟨rfl, H.out.set0 hsl (hne 0 0), (Upd.refl g w).setCell 0 _⟩

end Go.Proofs.YtcicclghgbdgnaaDoor

/- Package bits, for things that lie beside each other: what is written, the reader. -/
namespace Go.Proofs.YtcicclghgbdgnaaDoor
open Go.RowKit
set_option linter.unusedVariables false
theorem varint_sep {w0 : World} {L : List Thing} (v : Value) (l : List UInt8) (u : Nat) (w : World) (h : Sep w0 L w) (hv : Sl w v (bv l)) (hu : U64 u) (hlen : l.length ≤ 1099511627776) :
    Calls Tryd.prog 29 #[v, .int .u64 u] w fun e w' => ∃ v', e = .returned v' ∧ Sep w0 (By v' (l ++ vint u) :: L) w' :=
  (varint_any v l u w hv hu hlen).mono fun e w' ⟨⟨v', he, ho⟩, hb⟩ => ⟨v', he, h.row hb ho⟩
theorem text_sep {w0 : World} {L : List Thing} (v x : Value) (l m : List UInt8) (w : World) (h : Sep w0 L w) (hv : Sl w v (bv l)) (hx : Sl w x (bv m)) (hlen : l.length + m.length ≤ 1099511627776) :
    Calls Tryd.prog 52 #[v, x] w fun e w' => ∃ v', e = .returned v' ∧ Sep w0 (By v' (l ++ vint m.length ++ m) :: L) w' :=
  (text_any v x l m w hv hx hlen).mono fun e w' ⟨⟨v', he, ho⟩, hb⟩ => ⟨v', he, h.row hb ho⟩
/-- A reader at block g, with what is left and its first error; what is left lies in blocks of its own. -/
def RdrT (g : Nat) (rest : List UInt8) (e : Int) : Thing := fun w F => F g ∧ RdQ F w g rest e
theorem loc_rdr (g : Nat) (rest : List UInt8) (e : Int) : Loc (RdrT g rest e) := by
  intro w w' F ⟨hg, v, h1, h2, h3⟩ hs hk
  exact ⟨hg, v, by rw [hk g hg]; exact h1, h2.keep hs fun b hb _ => hk b (h3 b hb).2, h3⟩
theorem Sep.rdr {w0 w : World} {g : Nat} {rest : List UInt8} {e : Int} {L : List Thing} (h : Sep w0 (RdrT g rest e :: L) w) :
    ∃ F : Nat → Prop, RdQ F w g rest e ∧ (∀ w' rest' e', RdQ F w' g rest' e' → Upd g w w' → Sep w0 (RdrT g rest' e' :: L) w') ∧
      ∀ w' rest' e' v' xs T, RdQ F w' g rest' e' → Upd g w w' → Own w' w.heap.size T v' xs → Sep w0 (Rw T v' xs :: RdrT g rest' e' :: L) w' := by
  obtain ⟨F, ⟨hg, hr⟩, hF⟩ := h.head
  have hall := h.all
  obtain ⟨F, ⟨hg, hr⟩, hF, hrest⟩ := hall
  refine ⟨F, hr, fun w' rest' e' hr' hu => ?_, fun w' rest' e' v' xs T hr' hu ho => ?_⟩
  · have hch : Chg F w w' := ⟨hu.os, hu.tape, hu.output, hu.size, fun k hk hn => hu.block k hk fun e => hn (e ▸ hg)⟩
    refine ⟨⟨hch.os.trans h.low.os, hch.tape.trans h.low.tape, hch.output.trans h.low.output, Nat.le_trans h.low.size hch.size, fun k hk => ?_⟩, ?_, F, ⟨hg, hr'⟩, fun k hk => ⟨(hF k hk).1, Nat.lt_of_lt_of_le (hF k hk).2.1 hch.size, id⟩, ?_⟩
    · rw [hch.block k (Nat.lt_of_lt_of_le hk h.low.size) (fun hk' => by have := (hF k hk').1; omega)]
      exact h.low.block k hk
    · intro X hX
      rcases List.mem_cons.1 hX with rfl | hX
      · exact loc_rdr _ _ _
      · exact h.loc X (List.mem_cons_of_mem _ hX)
    · exact hrest.keep (fun X hX => h.loc X (List.mem_cons_of_mem _ hX)) hch.size (fun k _ h2 h3 => hch.block k h2 fun hk => h3 (.inr hk)) fun k hk => .inl hk
  · have hch : Chg F w w' := ⟨hu.os, hu.tape, hu.output, hu.size, fun k hk hn => hu.block k hk fun e => hn (e ▸ hg)⟩
    have hlt : ∀ k, v'.ownBlock = some k → w.heap.size ≤ k ∧ k < w'.heap.size := fun k hk => ho.lt k hk
    have h1 : Sep w0 (RdrT g rest' e' :: L) w' := by
      refine ⟨⟨hch.os.trans h.low.os, hch.tape.trans h.low.tape, hch.output.trans h.low.output, Nat.le_trans h.low.size hch.size, fun k hk => ?_⟩, ?_, F, ⟨hg, hr'⟩, fun k hk => ⟨(hF k hk).1, Nat.lt_of_lt_of_le (hF k hk).2.1 hch.size, id⟩, ?_⟩
      · rw [hch.block k (Nat.lt_of_lt_of_le hk h.low.size) (fun hk' => by have := (hF k hk').1; omega)]
        exact h.low.block k hk
      · intro X hX
        rcases List.mem_cons.1 hX with rfl | hX
        · exact loc_rdr _ _ _
        · exact h.loc X (List.mem_cons_of_mem _ hX)
      · exact hrest.keep (fun X hX => h.loc X (List.mem_cons_of_mem _ hX)) hch.size (fun k _ h2 h3 => hch.block k h2 fun hk => h3 (.inr hk)) fun k hk => .inl hk
    have hsz := h.low.size
    refine ⟨h1.low, ?_, fun k => v'.ownBlock = some k, ⟨⟨_, ho⟩, fun _ => Iff.rfl⟩, fun k hk => ⟨by have := hlt k hk; omega, (hlt k hk).2, id⟩, F, ⟨hg, hr'⟩, fun k hk => ⟨(hF k hk).1, Nat.lt_of_lt_of_le (hF k hk).2.1 hch.size, fun hn => ?_⟩, ?_⟩
    · intro X hX
      rcases List.mem_cons.1 hX with rfl | hX
      · exact loc_rw _ _ _
      · exact h1.loc X hX
    · rcases hn with hn | hn
      · exact hn
      · have a1 := hlt k hn; have a2 := (hF k hk).2.1; omega
    · refine hrest.keep (fun X hX => h.loc X (List.mem_cons_of_mem _ hX)) hch.size (fun k _ h2 h3 => hch.block k h2 fun hk => h3 (.inr hk)) fun k hk => ?_
      rcases hk with (h2 | h2) | h2
      · exact h2.elim
      · exact .inr (hlt k h2).1
      · exact .inl (.inr h2)
theorem read_sep {w0 : World} {L : List Thing} (v : Value) (l : List UInt8) (w : World) (hs : Sep w0 L w) (h : Sl w v (bv l)) (hlen : l.length ≤ 2199023255552) :
    Calls Tryd.prog 42 #[v] w fun e w' => ∃ g, e = .returned (.pointer (some ⟨g, 0, none⟩)) ∧ Sep w0 (RdrT g l 0 :: L) w' := by
  have H := Lib.hid h
  have HS := Lib.hid hs
  clear h hs
  go_enter Tryd.func42, Tryd.ntmps42
  go_wp2_with fail
  refine (clone_sep v l _ HS.out H.out hlen).mono ?_
  rintro e w1 ⟨v1, rfl, h1⟩
  obtain ⟨a1, c1, rfl⟩ := h1.sl.len
  have H1 := Lib.hid h1
  clear h1
  go_wp2_with fail
  go_ret
  have h2 := ((H1.out.alloc (.cells #[.slice a1 (bv l).length c1, .int .i64 0] 85))).join
  refine ⟨_, rfl, h2.imp (loc_rdr _ _ _) fun F ⟨Fa, Fb, ha, hb, hab, hF⟩ => ?_⟩
  obtain ⟨⟨bs, ho⟩, hfb⟩ := hb
  refine ⟨(hF _).2 (.inl ((ha.2 _).2 rfl)), _, ha.1, ho.sls, fun b hb' => ⟨?_, (hF b).2 (.inr ((hfb b).2 hb'))⟩⟩
  have h3 := (H1.out.rw_.lt b hb').2
  exact h3
theorem rvarint_sep {w0 w : World} {L : List Thing} {g : Nat} {rest : List UInt8} {e : Int} (h : Sep w0 (RdrT g rest e :: L) w) :
    Calls Tryd.prog 44 #[.pointer (some ⟨g, 0, none⟩)] w fun r w' => r = .returned (.int .u64 (rdVe rest e).1) ∧ Sep w0 (RdrT g (rdVe rest e).2.1 (rdVe rest e).2.2 :: L) w' := by
  obtain ⟨F, hr, hk, _⟩ := h.rdr
  exact (rvarint_any g rest e w hr).mono fun r w' ⟨h1, h2, h3⟩ => ⟨h1, hk _ _ _ h2 h3⟩
theorem rtext_sep {w0 w : World} {L : List Thing} {g : Nat} {rest : List UInt8} {e : Int} (h : Sep w0 (RdrT g rest e :: L) w) (hlen : rest.length ≤ 1099511627776) :
    Calls Tryd.prog 72 #[.pointer (some ⟨g, 0, none⟩)] w fun r w' => ∃ v', r = .returned v' ∧ Sep w0 (By v' (rdTe rest e).1 :: RdrT g (rdTe rest e).2.1 (rdTe rest e).2.2 :: L) w' := by
  obtain ⟨F, hr, _, hk⟩ := h.rdr
  exact (rtext_any g rest e w hr hlen).mono fun r w' ⟨⟨v', h1, ho⟩, h2, h3⟩ => ⟨v', h1, hk _ _ _ _ _ _ h2 h3 ho⟩
/-- The reader's Num of 8 bits, whatever its error. -/
def rdNe (rest : List UInt8) (e : Int) : Nat × List UInt8 × Int := if e = 0 then rdN 1 rest else (0, rest, e)
theorem rnum_sep {w0 w : World} {L : List Thing} {g : Nat} {rest : List UInt8} {e : Int} (h : Sep w0 (RdrT g rest e :: L) w) :
    Calls Tryd.prog 43 #[.pointer (some ⟨g, 0, none⟩), .int .i64 8] w fun r w' => r = .returned (.int .u64 (rdNe rest e).1) ∧ Sep w0 (RdrT g (rdNe rest e).2.1 (rdNe rest e).2.2 :: L) w' := by
  obtain ⟨F, hr, hk, _⟩ := h.rdr
  unfold rdNe
  by_cases he : e = 0
  · subst he
    exact (rnum1 g rest w hr).mono fun r w' ⟨h1, h2, h3⟩ => ⟨h1, hk _ _ _ h2 h3⟩
  · rw [if_neg he]
    exact (rnum_err g 8 rest e w hr he).mono fun r w' ⟨h1, h2, h3⟩ => ⟨h1, hk _ _ _ h2 h3⟩
theorem rerr_sep {w0 w : World} {L : List Thing} {g : Nat} {rest : List UInt8} {e : Int} (h : Sep w0 (RdrT g rest e :: L) w) :
    Calls Tryd.prog 45 #[.pointer (some ⟨g, 0, none⟩)] w fun r w' => r = .returned (.int .i64 e) ∧ w = w' := by
  obtain ⟨F, hr, _⟩ := h.rdr
  exact err_any g rest e w hr
theorem rend_sep {w0 w : World} {L : List Thing} {g : Nat} {rest : List UInt8} {e : Int} (h : Sep w0 (RdrT g rest e :: L) w) :
    Calls Tryd.prog 75 #[.pointer (some ⟨g, 0, none⟩)] w fun r w' => r = .returned (.int .i64 (endErr rest e)) ∧ w = w' := by
  obtain ⟨F, hr, _⟩ := h.rdr
  exact end_any g rest e w hr
end Go.Proofs.YtcicclghgbdgnaaDoor

/- Varints, written and read: plain mathematics. -/
namespace Go.Proofs.YtcicclghgbdgnaaDoor
open Go.RowKit
set_option linter.unusedVariables false

theorem pow7 (i : Nat) : 2 ^ (7 * (i + 1)) = 2 ^ (7 * i) * 128 := by rw [show 7 * (i + 1) = 7 * i + 7 by omega, Nat.pow_add]
theorem pow128 (i : Nat) : 2 ^ (7 * i) = 128 ^ i := by rw [Nat.pow_mul]
theorem ofNat_toNat8 (c : UInt8) : UInt8.ofNat c.toNat = c := by simp

/-- What is read was written. -/
theorem rdF_vint (f i u : Nat) (l l' : List UInt8) (r : Nat) (hf : f + i = 9) (h : rdF (f + 1) i u l = (r, l', 0)) :
    ∃ x, r = u + x * 2 ^ (7 * i) ∧ l = vintF f x ++ l' ∧ (0 < i → x ≠ 0) ∧ x < 2 * 128 ^ f := by
  induction f generalizing i u l with
  | zero =>
    obtain rfl : i = 9 := by omega
    cases l with
    | nil => simp [rdF] at h
    | cons c l =>
      rw [rdF] at h
      split at h
      · simp at h
      rename_i h1
      split at h
      · simp at h
      rename_i h2
      have hc : c.toNat = 1 := by omega
      rw [hc] at h
      simp only [Nat.reduceMod, Nat.reduceLT, if_true, Prod.mk.injEq] at h
      obtain ⟨rfl, rfl, _⟩ := h
      refine ⟨1, rfl, ?_, by simp, by decide⟩
      rw [vintF, ← hc, ofNat_toNat8]; rfl
  | succ f ih =>
    cases l with
    | nil => simp [rdF] at h
    | cons c l =>
      rw [rdF] at h
      split at h
      · simp at h
      rename_i h1
      split at h
      · simp at h
      rename_i h2
      have hc := c.toNat_lt
      have hp : 1 ≤ 128 ^ f := Nat.one_le_pow _ _ (by omega)
      have hps : 128 ^ (f + 1) = 128 ^ f * 128 := Nat.pow_succ ..
      split at h
      · rename_i h3
        simp only [Prod.mk.injEq, and_true] at h
        obtain ⟨rfl, rfl⟩ := h
        refine ⟨c.toNat, by rw [Nat.mod_eq_of_lt h3], ?_, fun hi => by omega, by omega⟩
        rw [vintF, if_pos h3, ofNat_toNat8]; rfl
      · rename_i h3
        obtain ⟨x, hr, hl, hx, hlt⟩ := ih (i + 1) _ l (by omega) h
        have hx0 := hx (by omega)
        refine ⟨c.toNat % 128 + 128 * x, ?_, ?_, by omega, by omega⟩
        · rw [hr, pow7, Nat.add_mul, Nat.add_assoc, ← Nat.mul_assoc]
          congr 2
          rw [Nat.mul_comm x, Nat.mul_right_comm, Nat.mul_comm 128 x, Nat.mul_assoc, Nat.mul_comm (128) _, Nat.mul_comm x]
          simp only [Nat.mul_comm, Nat.mul_left_comm]
        · rw [vintF, if_neg (by omega), show (c.toNat % 128 + 128 * x) % 128 + 128 = c.toNat by omega, show (c.toNat % 128 + 128 * x) / 128 = x by omega, ofNat_toNat8, hl]; rfl

theorem rdV_vint (l l' : List UInt8) (u : Nat) (h : rdV l = (u, l', 0)) : l = vint u ++ l' := by
  obtain ⟨x, hr, hl, _⟩ := rdF_vint 9 0 0 l l' u rfl h
  simp at hr
  subst hr
  exact hl

/-- What is written is read. -/
theorem rdF_back (f i u x : Nat) (l : List UInt8) (hf : f + i = 9) (hx : 0 < i → x ≠ 0) (hlt : x < 2 * 128 ^ f) :
    rdF (f + 1) i u (vintF f x ++ l) = (u + x * 2 ^ (7 * i), l, 0) := by
  induction f generalizing i u x with
  | zero =>
    obtain rfl : i = 9 := by omega
    have := hx (by omega)
    obtain rfl : x = 1 := by simp at hlt; omega
    rfl
  | succ f ih =>
    have hps : 128 ^ (f + 1) = 128 ^ f * 128 := Nat.pow_succ ..
    rw [vintF]
    split
    · rename_i h3
      have e : (UInt8.ofNat x).toNat = x := by rw [UInt8.toNat_ofNat']; omega
      rw [List.singleton_append, rdF, e, if_neg (by omega), if_neg (by omega), if_pos h3, Nat.mod_eq_of_lt h3]
    · rename_i h3
      have e : (UInt8.ofNat (x % 128 + 128)).toNat = x % 128 + 128 := by rw [UInt8.toNat_ofNat']; omega
      rw [List.cons_append, rdF, e, if_neg (by omega), if_neg (by omega), if_neg (by omega), ih (i + 1) _ (x / 128) (by omega) (by omega) (by omega), pow7]
      congr 1
      rw [show (x % 128 + 128) % 128 = x % 128 by omega, Nat.add_assoc]
      congr 1
      have : x = x % 128 + 128 * (x / 128) := by omega
      conv => rhs; rw [this, Nat.add_mul]
      congr 1
      simp only [Nat.mul_comm, Nat.mul_left_comm]
theorem rdV_back (u : Nat) (l : List UInt8) (hu : U64 u) : rdV (vint u ++ l) = (u, l, 0) := by
  have h := rdF_back 9 0 0 u l rfl (by omega) (by unfold U64 at hu; omega)
  rw [rdV, vint, h]; simp
/-- With an error there is nothing. -/
theorem rdF_err (f i u : Nat) (l : List UInt8) (h : (rdF f i u l).2.2 ≠ 0) : (rdF f i u l).1 = 0 ∧ (rdF f i u l).2.1 = [] := by
  induction f generalizing i u l with
  | zero => exact ⟨rfl, rfl⟩
  | succ f ih =>
    cases l with
    | nil => exact ⟨rfl, rfl⟩
    | cons c l =>
      rw [rdF] at h ⊢
      split
      · exact ⟨rfl, rfl⟩
      rename_i h1
      rw [if_neg h1] at h
      split
      · exact ⟨rfl, rfl⟩
      rename_i h2
      rw [if_neg h2] at h
      split
      · rename_i h3; rw [if_pos h3] at h; exact absurd rfl h
      · rename_i h3; rw [if_neg h3] at h; exact ih _ _ _ h
theorem rdV_err (l : List UInt8) (h : (rdV l).2.2 ≠ 0) : (rdV l).1 = 0 ∧ (rdV l).2.1 = [] := rdF_err 10 0 0 l h

theorem beVal_append (a : List UInt8) : ∀ b : List UInt8, beVal (a ++ b) = beVal a * 256 ^ b.length + beVal b := by
  have h : ∀ (n : Nat) (b : List UInt8), b.length = n → beVal (a ++ b) = beVal a * 256 ^ b.length + beVal b := by
    intro n
    induction n with
    | zero => intro b hb; rw [List.eq_nil_of_length_eq_zero hb]; simp [beVal]
    | succ n ih =>
      intro b hb
      have hne : b ≠ [] := by intro e; simp [e] at hb
      have h1 := ih b.dropLast (by simp [hb])
      rw [← List.dropLast_concat_getLast hne, ← List.append_assoc, beVal_snoc, h1, beVal_snoc, List.length_append, List.length_singleton, Nat.pow_succ]
      simp only [Nat.add_mul, Nat.mul_assoc, Nat.add_assoc]
  exact fun b => h _ b rfl
end Go.Proofs.YtcicclghgbdgnaaDoor

/- Contract of bits.Put. -/
namespace Go.Proofs.YtcicclghgbdgnaaDoor
open Go.RowKit
set_option linter.unusedVariables false

/-- The lowest c bytes of a number, the most significant first. -/
def beL : Nat → Nat → List UInt8
  | 0, _ => []
  | c + 1, n => UInt8.ofNat (n / 256 ^ c) :: beL c n
theorem beL_len (c n : Nat) : (beL c n).length = c := by induction c with | zero => rfl | succ c ih => simp [beL, ih]

def zeros (c : Nat) : Array Value := Array.replicate c (.int .u8 0)
theorem be_byte (n j : Nat) : (n : Int) / 2 ^ (8 * j) % 256 = (UInt8.ofNat (n / 256 ^ j)).toNat := by
  have h : (2 : Nat) ^ (8 * j) = 256 ^ j := by rw [Nat.pow_mul]
  rw [UInt8.toNat_ofNat', ← h]
  simp
theorem be_set (c j n : Nat) (hj : j < c) (cur : Array Value) (h : cur.toList = List.replicate (c - j) (.int .u8 0) ++ bv (beL j n)) :
    (cur.setIfInBounds (c - 1 - j) (.int .u8 ((n : Int) / 2 ^ (8 * j) % 256))).toList = List.replicate (c - (j + 1)) (.int .u8 0) ++ bv (beL (j + 1) n) := by
  rw [Array.toList_setIfInBounds, h, be_byte, show c - j = (c - (j + 1)) + 1 by omega, List.replicate_succ', List.append_assoc, List.set_append_right _ _ (by simp; omega)]
  simp [beL, bv, show c - 1 - j - (c - (j + 1)) = 0 by omega]
theorem be_cell {wr : World} {g c j n : Nat} {e : TypeId} (hj : j < c) {cur : Array Value} (hg : wr.heap[g]? = some (.cells cur e (0, 0))) (h : cur.toList = List.replicate (c - j) (.int .u8 0) ++ bv (beL j n)) :
    wr.cell? ⟨g, c - 1 - j, none⟩ = some (.int .u8 0) ∧ wr.frozen? ⟨g, c - 1 - j, none⟩ = false := by
  constructor
  · rw [cell_of_row wr _ _ cur _ _ hg, ← Array.getElem?_toList, h, List.getElem?_append_left (by simp; omega), List.getElem?_replicate, if_pos (by omega)]
  · unfold World.frozen?; rw [hg]; simp

theorem make1 (w : World) : (Instr.makeSlice 27 (.int .i64 1) (.int .i64 1)).run Tryd.prog w =
    .ok (.slice (some ⟨w.heap.size, 0, none⟩) 1 1) (w.alloc (.cells (zeros 1) 5)) := by kernel_rfl

theorem make2 (w : World) : (Instr.makeSlice 27 (.int .i64 2) (.int .i64 2)).run Tryd.prog w =
    .ok (.slice (some ⟨w.heap.size, 0, none⟩) 2 2) (w.alloc (.cells (zeros 2) 5)) := by kernel_rfl

theorem make4 (w : World) : (Instr.makeSlice 27 (.int .i64 4) (.int .i64 4)).run Tryd.prog w =
    .ok (.slice (some ⟨w.heap.size, 0, none⟩) 4 4) (w.alloc (.cells (zeros 4) 5)) := by kernel_rfl

theorem make8 (w : World) : (Instr.makeSlice 27 (.int .i64 8) (.int .i64 8)).run Tryd.prog w =
    .ok (.slice (some ⟨w.heap.size, 0, none⟩) 8 8) (w.alloc (.cells (zeros 8) 5)) := by kernel_rfl

end Go.Proofs.YtcicclghgbdgnaaDoor

/- Contracts of the document's answer for layer 1: the functions that write. -/
namespace Go.Proofs.YtcicclghgbdgnaaDoor
open Go.RowKit
set_option linter.unusedVariables false

theorem ret_int {k : IntKind} {a b : Int} (h : a = b) : Ending.returned (.int k a) = .returned (.int k b) := by rw [h]

theorem rzig_neg {n : Int} (h : I64 n) (h0 : n < 0) : IntKind.u64.wrap (IntKind.u64.wrap (2 * IntKind.u64.wrap (wrap64 (-wrap64 (n + 1)))) + 1) = (zig n : Nat) := by
  simp only [IntKind.wrap_u64]; unfold wrap64 zig; unfold I64 at h; rw [if_neg (by omega)]; omega
theorem rzig_pos {n : Int} (h : I64 n) (h0 : ¬ n < 0) : IntKind.u64.wrap (2 * IntKind.u64.wrap n) = (zig n : Nat) := by
  simp only [IntKind.wrap_u64]; unfold zig; unfold I64 at h; rw [if_pos (by omega)]; omega
theorem rzig_any (n : Int) (w : World) (h : I64 n) : Calls Tryd.prog 85 #[.int .i64 n] w fun e w' => e = .returned (.int .u64 (zig n : Nat)) ∧ w = w' := by
  by_cases h0 : n < 0
  · go_enter Tryd.func85, Tryd.ntmps85
    go_wp2
    go_ret
    exact ⟨ret_int (rzig_neg h h0), rfl⟩
  · have h1 := h0
    go_enter Tryd.func85, Tryd.ntmps85
    go_wp2
    go_ret
    exact ⟨ret_int (rzig_pos h (by omega)), rfl⟩
theorem rzag_even {u : Nat} (h : U64 u) (h0 : u % 2 = 0) : wrap64 (IntKind.u64.wrap ((u : Int) / 2)) = zag u := by
  simp only [IntKind.wrap_u64]; unfold wrap64 zag; unfold U64 at h; rw [if_pos h0]; omega
theorem rzag_odd {u : Nat} (h : U64 u) (h0 : ¬ u % 2 = 0) : wrap64 (wrap64 (-wrap64 (IntKind.u64.wrap ((u : Int) / 2))) - 1) = zag u := by
  simp only [IntKind.wrap_u64]; unfold wrap64 zag; unfold U64 at h; rw [if_neg h0]; omega
theorem rzag_any (u : Nat) (w : World) (h : U64 u) : Calls Tryd.prog 92 #[.int .u64 u] w fun e w' => e = .returned (.int .i64 (zag u)) ∧ w = w' := by
  by_cases h0 : u % 2 = 0
  · have hb : ((u : Int) % 2 == 1) = false := by rw [beq_eq_false_iff_ne]; omega
    have H0 := Lib.hid h0
    clear h0
    go_enter Tryd.func92, Tryd.ntmps92
    go_wp2
    go_ret
    exact ⟨ret_int (rzag_even h H0.out), rfl⟩
  · have hb : ((u : Int) % 2 == 1) = true := by rw [beq_iff_eq]; omega
    have H0 := Lib.hid h0
    clear h0
    go_enter Tryd.func92, Tryd.ntmps92
    go_wp2
    go_ret
    exact ⟨ret_int (rzag_odd h H0.out), rfl⟩
theorem rsized_any (s : Int) (w : World) : Calls Tryd.prog 88 #[.int .i64 s] w fun e w' => e = .returned (.bool (isSize s)) ∧ w = w' := by
  by_cases h1 : s = 8
  · subst h1
    go_enter Tryd.func88, Tryd.ntmps88
    go_wp2
    go_ret
    exact ⟨rfl, rfl⟩
  by_cases h2 : s = 16
  · subst h2
    go_enter Tryd.func88, Tryd.ntmps88
    go_wp2
    go_ret
    exact ⟨rfl, rfl⟩
  by_cases h3 : s = 32
  · subst h3
    go_enter Tryd.func88, Tryd.ntmps88
    go_wp2
    go_ret
    exact ⟨rfl, rfl⟩
  by_cases h4 : s = 64
  · subst h4
    go_enter Tryd.func88, Tryd.ntmps88
    go_wp2
    go_ret
    exact ⟨rfl, rfl⟩
  go_enter Tryd.func88, Tryd.ntmps88
  go_wp2
  go_ret
  exact ⟨rfl, rfl⟩

set_option maxRecDepth 100000 in
theorem rvarint_ref (v : Value) (l : List UInt8) (u : Nat) (w : World) (h : Sl w v (bv l)) (hu : U64 u) (hlen : l.length ≤ 1099511627776) :
    Calls Tryd.prog 31 #[v, .int .u64 u] w fun e w' => (∃ v', e = .returned v' ∧ Own w' w.heap.size 5 v' (bv (l ++ vint u))) ∧ Below w.heap.size w w' := by
  have Hu := Lib.hid hu
  have H := Lib.hid h
  clear h hu
  go_enter Tryd.func31, Tryd.ntmps31
  go_wp2_with fail
  refine (copyBytes_any _ l _ H.out (by omega)).mono ?_
  rintro r0 w1 ⟨⟨v1, rfl, ho1⟩, hb1⟩
  go_wp2_with fail
  go_loopw [1, 5] (fun c n wr => ∃ (k x : Nat) (pre : List UInt8), VintAt u k x pre ∧ c = .int .u64 x ∧ Own wr w.heap.size 5 n (bv (l ++ pre)) ∧ Below w.heap.size w wr) (fun c _ _ => (intOf c).toNat)
  case atStart => exact ⟨0, u, [], VintAt.zero Hu.out, rfl, by rw [List.append_nil]; exact ho1, hb1⟩
  case round =>
    clear ho1 hb1
    obtain ⟨k, x, pre, hv, rfl, ho, hb⟩ := hrel
    have hx : U64 x := hv.u64
    have hpre : pre.length ≤ 9 := by rw [hv.2.1]; exact hv.1
    by_cases hge : 128 ≤ x
    · have h1 := sl_lit1 wr ((x : Int) % 128 + 128) (UInt8.ofNat (x % 128 + 128)) (by rw [UInt8.toNat_ofNat']; omega) 5
      have hb1 : Below w.heap.size w (wr.alloc (.cells #[.int .u8 ((x : Int) % 128 + 128)] 5)) := hb.alloc hb.size _
      obtain ⟨v', w', hr, ho', hg, _⟩ := append8 (ty := 27) (Own.alloc ho _) h1 (by simp; omega) hb1.size
      have hb2 := hb1.grown hg hb1.size (fun g hg' => (ho.lt g hg').1)
      rw [List.append_assoc] at ho'
      have hv' := hv.next hge
      have hdw : IntKind.u64.wrap ((x : Int) / 128) = (x : Int) / 128 := by rw [IntKind.wrap_u64]; unfold U64 at hx; omega
      have Hr := Lib.hid hr
      have Ho := Lib.hid ho'
      clear hr hg h1 hb1 hb ho hv ho'
      go_wp2_with (at_builtin; refine wpList_append_run rfl _ _ _ _ rfl rfl rfl Hr.out ?_)
      go_roundw
      case rel => exact ⟨k + 1, x / 128, _, hv', by simp, Ho.out, hb2⟩
      case measure => simp [intOf]; omega
    · have h1 := sl_lit1 wr _ _ (small8 x (by omega)) 5
      have hb1 : Below w.heap.size w (wr.alloc (.cells #[.int .u8 (x : Int)] 5)) := hb.alloc hb.size _
      obtain ⟨v', w', hr, ho', hg, _⟩ := append8 (ty := 27) (Own.alloc ho _) h1 (by simp; omega) hb1.size
      have hb2 := hb1.grown hg hb1.size (fun g hg' => (ho.lt g hg').1)
      rw [List.append_assoc, hv.last (by omega)] at ho'
      have Hr := Lib.hid hr
      have Ho := Lib.hid ho'
      clear hr hg h1 hb1 hb ho hv ho'
      go_wp2_with (at_builtin; refine wpList_append_run rfl _ _ _ _ rfl rfl rfl Hr.out ?_)
      go_ret
      exact ⟨⟨v', rfl, Ho.out⟩, hb2⟩

theorem rint_ref (v : Value) (l : List UInt8) (n : Int) (w : World) (h : Sl w v (bv l)) (hn : I64 n) (hlen : l.length ≤ 1099511627776) :
    Calls Tryd.prog 57 #[v, .int .i64 n] w fun e w' => (∃ v', e = .returned v' ∧ Own w' w.heap.size 5 v' (bv (l ++ vint (zig n)))) ∧ Below w.heap.size w w' := by
  have H := Lib.hid h
  clear h
  go_enter Tryd.func57, Tryd.ntmps57
  go_wp2_with (first | (go_at_call 85; refine (rzig_any _ _ hn).mono ?_; rintro e w1 ⟨rfl, rfl⟩) | (go_at_call 31; refine (rvarint_ref _ l (zig n) _ H.out (zig_u64 hn) hlen).mono ?_; rintro e w1 ⟨⟨v1, rfl, ho1⟩, hb1⟩))
  go_ret
  exact ⟨⟨v1, rfl, ho1⟩, hb1⟩

theorem rtext_ref (v x : Value) (l m : List UInt8) (w : World) (h : Sl w v (bv l)) (hx : Sl w x (bv m)) (hlen : l.length + m.length ≤ 1099511627776) :
    Calls Tryd.prog 39 #[v, x] w fun e w' => (∃ v', e = .returned v' ∧ Own w' w.heap.size 5 v' (bv (l ++ vint m.length ++ m))) ∧ Below w.heap.size w w' := by
  obtain ⟨a0, c0, rfl⟩ := hx.len
  rw [bv_length] at hx
  have H := Lib.hid h
  have Hx := Lib.hid hx
  have hm : U64 m.length := by unfold U64; omega
  have hl2 : (l ++ vint m.length).length + m.length ≤ 2199023255552 := by have := vint_len m.length; simp; omega
  have hl1 : l.length ≤ 1099511627776 := by omega
  have hm1 : m.length ≤ 1099511627776 := by omega
  clear h hx hlen
  rw [bv_length]
  go_enter Tryd.func39, Tryd.ntmps39
  go_wp2_with fail
  refine (rvarint_ref _ l m.length _ H.out hm hl1).mono ?_
  rintro e w1 ⟨⟨v1, rfl, ho1⟩, hb1⟩
  obtain ⟨v', w', hr, ho', hg, _⟩ := append8 (ty := 27) ho1 (Hx.out.below hb1) hl2 hb1.size
  have hb2 := hb1.grown hg hb1.size (fun g hg' => (ho1.lt g hg').1)
  have Hr := Lib.hid hr
  have Ho := Lib.hid ho'
  clear hr hg ho1 hb1 ho'
  go_wp2_with (at_builtin; refine wpList_append_run rfl _ _ _ _ rfl rfl rfl Hr.out ?_)
  go_ret
  exact ⟨⟨v', rfl, Ho.out⟩, hb2⟩

/-- One step of a rotation. -/
theorem rotl_step (n i : Nat) (hn : U64 n) (hi : i < 64) : IntKind.u64.wrap (IntKind.u64.wrap (((rotl n i : Nat) : Int) * 2) + IntKind.u64.wrap (((rotl n i : Nat) : Int) / 9223372036854775808)) = ((rotl n (i + 1) : Nat) : Int) := by
  have hx : U64 (rotl n i) := rotl_u64 n i hn
  have e : rotl (rotl n i) 1 = rotl n (i + 1) := by
    have hu1 : U64 (rotl (rotl n i) 1) := rotl_u64 _ _ hx
    have hu2 : U64 (rotl n (i + 1)) := rotl_u64 _ _ hn
    by_cases h63 : i = 63
    · subst h63
      have h64 : rotl n 64 = n := by
        unfold rotl; simp
      rw [h64]
      apply eq_of_bits hu1 hn
      intro j hj
      have a1 := rotl_at (rotl n 63) 1 ((j + 63) % 64) hx (by omega) (by omega)
      rw [show ((j + 63) % 64 + 1) % 64 = j by omega] at a1
      rw [a1, rotl_at n 63 j hn (by omega) hj]
    · apply eq_of_bits hu1 hu2
      intro j hj
      have a1 := rotl_at (rotl n i) 1 ((j + 63) % 64) hx (by omega) (by omega)
      rw [show ((j + 63) % 64 + 1) % 64 = j by omega] at a1
      have a2 := rotl_at n i ((j + 63 - i) % 64) hn hi (by omega)
      rw [show ((j + 63 - i) % 64 + i) % 64 = (j + 63) % 64 by omega] at a2
      have a3 := rotl_at n (i + 1) ((j + 63 - i) % 64) hn (by omega) (by omega)
      rw [show ((j + 63 - i) % 64 + (i + 1)) % 64 = j by omega] at a3
      rw [a1, a2, a3]
  rw [← e]
  generalize rotl n i = x at *
  have h2 : rotl x 1 = x * 2 % 2 ^ 64 + x / 2 ^ 63 := by
    unfold rotl
    unfold U64 at hx
    have h3 : x * 2 % 2 ^ 64 = 2 ^ 1 * (x % 2 ^ 63) := by omega
    rw [show 64 - 1 = 63 from rfl, Nat.pow_one, h3, ← Nat.two_pow_add_eq_or_of_lt (i := 1) (b := x / 2 ^ 63) (by omega)]
  rw [h2]
  unfold U64 at hx
  simp only [IntKind.wrap_u64]
  omega
theorem revF_step (t n i : Nat) (ht : t < 2 ^ i) (hi : i < 64) (hn : U64 n) : IntKind.u64.wrap (IntKind.u64.wrap (2 * (t : Int)) + (n : Int) % 2) = ((t * 2 % 2 ^ 64 ||| n % 2 : Nat) : Int) := by
  have hp : 2 ^ i ≤ 2 ^ 63 := Nat.pow_le_pow_right (by omega) (by omega)
  have e : t * 2 % 2 ^ 64 ||| n % 2 = t * 2 + n % 2 := by
    rw [Nat.mod_eq_of_lt (by omega), Nat.mul_comm]
    exact (Nat.two_pow_add_eq_or_of_lt (i := 1) (b := n % 2) (by omega) t).symm
  rw [e]
  simp only [IntKind.wrap_u64]; omega
end Go.Proofs.YtcicclghgbdgnaaDoor
