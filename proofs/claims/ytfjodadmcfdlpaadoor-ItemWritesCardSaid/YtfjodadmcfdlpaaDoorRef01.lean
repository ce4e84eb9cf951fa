/- Contracts of the document's answer for layer 1: the functions that write. -/
import Derived.Test.YtfjodadmcfdlpaaDoorPut
import Derived.Test.YtfjodadmcfdlpaaDoorBring
import Derived.Test.YtfjodadmcfdlpaaDoorTurnMath
namespace Go.Proofs.YtfjodadmcfdlpaaDoor
open Go.RowKit
set_option linter.unusedVariables false

theorem ret_int {k : IntKind} {a b : Int} (h : a = b) : Ending.returned (.int k a) = .returned (.int k b) := by rw [h]

theorem rzig_neg {n : Int} (h : I64 n) (h0 : n < 0) : IntKind.u64.wrap (IntKind.u64.wrap (2 * IntKind.u64.wrap (wrap64 (-wrap64 (n + 1)))) + 1) = (zig n : Nat) := by
  simp only [IntKind.wrap_u64]; unfold wrap64 zig; unfold I64 at h; rw [if_neg (by omega)]; omega
theorem rzig_pos {n : Int} (h : I64 n) (h0 : ¬ n < 0) : IntKind.u64.wrap (2 * IntKind.u64.wrap n) = (zig n : Nat) := by
  simp only [IntKind.wrap_u64]; unfold zig; unfold I64 at h; rw [if_pos (by omega)]; omega
theorem rzig_any (n : Int) (w : World) (h : I64 n) : Calls Tryd.prog 69 #[.int .i64 n] w fun e w' => e = .returned (.int .u64 (zig n : Nat)) ∧ w = w' := by
  by_cases h0 : n < 0
  · go_enter Tryd.func69, Tryd.ntmps69
    go_wp2
    go_ret
    exact ⟨ret_int (rzig_neg h h0), rfl⟩
  · have h1 := h0
    go_enter Tryd.func69, Tryd.ntmps69
    go_wp2
    go_ret
    exact ⟨ret_int (rzig_pos h (by omega)), rfl⟩
theorem rzag_even {u : Nat} (h : U64 u) (h0 : u % 2 = 0) : wrap64 (IntKind.u64.wrap ((u : Int) / 2)) = zag u := by
  simp only [IntKind.wrap_u64]; unfold wrap64 zag; unfold U64 at h; rw [if_pos h0]; omega
theorem rzag_odd {u : Nat} (h : U64 u) (h0 : ¬ u % 2 = 0) : wrap64 (wrap64 (-wrap64 (IntKind.u64.wrap ((u : Int) / 2))) - 1) = zag u := by
  simp only [IntKind.wrap_u64]; unfold wrap64 zag; unfold U64 at h; rw [if_neg h0]; omega
theorem rzag_any (u : Nat) (w : World) (h : U64 u) : Calls Tryd.prog 80 #[.int .u64 u] w fun e w' => e = .returned (.int .i64 (zag u)) ∧ w = w' := by
  by_cases h0 : u % 2 = 0
  · have hb : ((u : Int) % 2 == 1) = false := by rw [beq_eq_false_iff_ne]; omega
    have H0 := Lib.hid h0
    clear h0
    go_enter Tryd.func80, Tryd.ntmps80
    go_wp2
    go_ret
    exact ⟨ret_int (rzag_even h H0.out), rfl⟩
  · have hb : ((u : Int) % 2 == 1) = true := by rw [beq_iff_eq]; omega
    have H0 := Lib.hid h0
    clear h0
    go_enter Tryd.func80, Tryd.ntmps80
    go_wp2
    go_ret
    exact ⟨ret_int (rzag_odd h H0.out), rfl⟩
theorem rsized_any (s : Int) (w : World) : Calls Tryd.prog 78 #[.int .i64 s] w fun e w' => e = .returned (.bool (isSize s)) ∧ w = w' := by
  by_cases h1 : s = 8
  · subst h1
    go_enter Tryd.func78, Tryd.ntmps78
    go_wp2
    go_ret
    exact ⟨rfl, rfl⟩
  by_cases h2 : s = 16
  · subst h2
    go_enter Tryd.func78, Tryd.ntmps78
    go_wp2
    go_ret
    exact ⟨rfl, rfl⟩
  by_cases h3 : s = 32
  · subst h3
    go_enter Tryd.func78, Tryd.ntmps78
    go_wp2
    go_ret
    exact ⟨rfl, rfl⟩
  by_cases h4 : s = 64
  · subst h4
    go_enter Tryd.func78, Tryd.ntmps78
    go_wp2
    go_ret
    exact ⟨rfl, rfl⟩
  go_enter Tryd.func78, Tryd.ntmps78
  go_wp2
  go_ret
  exact ⟨rfl, rfl⟩

set_option maxRecDepth 100000 in
theorem rvarint_ref (v : Value) (l : List UInt8) (u : Nat) (w : World) (h : Sl w v (bv l)) (hu : U64 u) (hlen : l.length ≤ 1099511627776) :
    Calls Tryd.prog 39 #[v, .int .u64 u] w fun e w' => (∃ v', e = .returned v' ∧ Own w' w.heap.size 5 v' (bv (l ++ vint u))) ∧ Below w.heap.size w w' := by
  have Hu := Lib.hid hu
  have H := Lib.hid h
  clear h hu
  go_enter Tryd.func39, Tryd.ntmps39
  go_wp2_with fail
  refine (copyBytes_any _ l _ H.out (by omega)).mono ?_
  rintro r0 w1 ⟨⟨v1, rfl, ho1⟩, hb1⟩
  go_wp2_with fail
  go_loopw [1, 5] (fun c n wr => ∃ (k x : Nat) (pre : List UInt8), VintAt u k x pre ∧ c = .int .u64 x ∧ Own wr w.heap.size 5 n (bv (l ++ pre)) ∧ Below w.heap.size w wr) (fun c _ _ => (intOf c).toNat)
  case atStart => exact ⟨0, u, [], VintAt.zero Hu.out, rfl, by rw [List.append_nil]; exact ho1, hb1⟩
  case round =>
    clear ho1 hb1
    obtain ⟨k, x, pre, hv, rfl, ho, hb⟩ := hrel
    have hx : U64 x := hv.u64
    have hpre : pre.length ≤ 9 := by rw [hv.2.1]; exact hv.1
    by_cases hge : 128 ≤ x
    · have h1 := sl_lit1 wr ((x : Int) % 128 + 128) (UInt8.ofNat (x % 128 + 128)) (by rw [UInt8.toNat_ofNat']; omega) 5
      have hb1 : Below w.heap.size w (wr.alloc (.cells #[.int .u8 ((x : Int) % 128 + 128)] 5)) := hb.alloc hb.size _
      obtain ⟨v', w', hr, ho', hg, _⟩ := append8 (ty := 28) (Own.alloc ho _) h1 (by simp; omega) hb1.size
      have hb2 := hb1.grown hg hb1.size (fun g hg' => (ho.lt g hg').1)
      rw [List.append_assoc] at ho'
      have hv' := hv.next hge
      have hdw : IntKind.u64.wrap ((x : Int) / 128) = (x : Int) / 128 := by rw [IntKind.wrap_u64]; unfold U64 at hx; omega
      have Hr := Lib.hid hr
      have Ho := Lib.hid ho'
      clear hr hg h1 hb1 hb ho hv ho'
      go_wp2_with (at_builtin; refine wpList_append_run rfl _ _ _ _ rfl rfl rfl Hr.out ?_)
      go_roundw
      case rel => exact ⟨k + 1, x / 128, _, hv', by simp, Ho.out, hb2⟩
      case measure => simp [intOf]; omega
    · have h1 := sl_lit1 wr _ _ (small8 x (by omega)) 5
      have hb1 : Below w.heap.size w (wr.alloc (.cells #[.int .u8 (x : Int)] 5)) := hb.alloc hb.size _
      obtain ⟨v', w', hr, ho', hg, _⟩ := append8 (ty := 28) (Own.alloc ho _) h1 (by simp; omega) hb1.size
      have hb2 := hb1.grown hg hb1.size (fun g hg' => (ho.lt g hg').1)
      rw [List.append_assoc, hv.last (by omega)] at ho'
      have Hr := Lib.hid hr
      have Ho := Lib.hid ho'
      clear hr hg h1 hb1 hb ho hv ho'
      go_wp2_with (at_builtin; refine wpList_append_run rfl _ _ _ _ rfl rfl rfl Hr.out ?_)
      go_ret
      exact ⟨⟨v', rfl, Ho.out⟩, hb2⟩

theorem rint_ref (v : Value) (l : List UInt8) (n : Int) (w : World) (h : Sl w v (bv l)) (hn : I64 n) (hlen : l.length ≤ 1099511627776) :
    Calls Tryd.prog 40 #[v, .int .i64 n] w fun e w' => (∃ v', e = .returned v' ∧ Own w' w.heap.size 5 v' (bv (l ++ vint (zig n)))) ∧ Below w.heap.size w w' := by
  have H := Lib.hid h
  clear h
  go_enter Tryd.func40, Tryd.ntmps40
  go_wp2_with (first | (go_at_call 69; refine (rzig_any _ _ hn).mono ?_; rintro e w1 ⟨rfl, rfl⟩) | (go_at_call 39; refine (rvarint_ref _ l (zig n) _ H.out (zig_u64 hn) hlen).mono ?_; rintro e w1 ⟨⟨v1, rfl, ho1⟩, hb1⟩))
  go_ret
  exact ⟨⟨v1, rfl, ho1⟩, hb1⟩

theorem rtext_ref (v x : Value) (l m : List UInt8) (w : World) (h : Sl w v (bv l)) (hx : Sl w x (bv m)) (hlen : l.length + m.length ≤ 1099511627776) :
    Calls Tryd.prog 37 #[v, x] w fun e w' => (∃ v', e = .returned v' ∧ Own w' w.heap.size 5 v' (bv (l ++ vint m.length ++ m))) ∧ Below w.heap.size w w' := by
  obtain ⟨a0, c0, rfl⟩ := hx.len
  rw [bv_length] at hx
  have H := Lib.hid h
  have Hx := Lib.hid hx
  have hm : U64 m.length := by unfold U64; omega
  have hl2 : (l ++ vint m.length).length + m.length ≤ 2199023255552 := by have := vint_len m.length; simp; omega
  have hl1 : l.length ≤ 1099511627776 := by omega
  have hm1 : m.length ≤ 1099511627776 := by omega
  clear h hx hlen
  rw [bv_length]
  go_enter Tryd.func37, Tryd.ntmps37
  go_wp2_with fail
  refine (rvarint_ref _ l m.length _ H.out hm hl1).mono ?_
  rintro e w1 ⟨⟨v1, rfl, ho1⟩, hb1⟩
  obtain ⟨v', w', hr, ho', hg, _⟩ := append8 (ty := 28) ho1 (Hx.out.below hb1) hl2 hb1.size
  have hb2 := hb1.grown hg hb1.size (fun g hg' => (ho1.lt g hg').1)
  have Hr := Lib.hid hr
  have Ho := Lib.hid ho'
  clear hr hg ho1 hb1 ho'
  go_wp2_with (at_builtin; refine wpList_append_run rfl _ _ _ _ rfl rfl rfl Hr.out ?_)
  go_ret
  exact ⟨⟨v', rfl, Ho.out⟩, hb2⟩

/-- One step of a rotation. -/
theorem rotl_step (n i : Nat) (hn : U64 n) (hi : i < 64) : IntKind.u64.wrap (IntKind.u64.wrap (((rotl n i : Nat) : Int) * 2) + IntKind.u64.wrap (((rotl n i : Nat) : Int) / 9223372036854775808)) = ((rotl n (i + 1) : Nat) : Int) := by
  have hx : U64 (rotl n i) := rotl_u64 n i hn
  have e : rotl (rotl n i) 1 = rotl n (i + 1) := by
    have hu1 : U64 (rotl (rotl n i) 1) := rotl_u64 _ _ hx
    have hu2 : U64 (rotl n (i + 1)) := rotl_u64 _ _ hn
    by_cases h63 : i = 63
    · subst h63
      have h64 : rotl n 64 = n := by
        unfold rotl; simp
      rw [h64]
      apply eq_of_bits hu1 hn
      intro j hj
      have a1 := rotl_at (rotl n 63) 1 ((j + 63) % 64) hx (by omega) (by omega)
      rw [show ((j + 63) % 64 + 1) % 64 = j by omega] at a1
      rw [a1, rotl_at n 63 j hn (by omega) hj]
    · apply eq_of_bits hu1 hu2
      intro j hj
      have a1 := rotl_at (rotl n i) 1 ((j + 63) % 64) hx (by omega) (by omega)
      rw [show ((j + 63) % 64 + 1) % 64 = j by omega] at a1
      have a2 := rotl_at n i ((j + 63 - i) % 64) hn hi (by omega)
      rw [show ((j + 63 - i) % 64 + i) % 64 = (j + 63) % 64 by omega] at a2
      have a3 := rotl_at n (i + 1) ((j + 63 - i) % 64) hn (by omega) (by omega)
      rw [show ((j + 63 - i) % 64 + (i + 1)) % 64 = j by omega] at a3
      rw [a1, a2, a3]
  rw [← e]
  generalize rotl n i = x at *
  have h2 : rotl x 1 = x * 2 % 2 ^ 64 + x / 2 ^ 63 := by
    unfold rotl
    unfold U64 at hx
    have h3 : x * 2 % 2 ^ 64 = 2 ^ 1 * (x % 2 ^ 63) := by omega
    rw [show 64 - 1 = 63 from rfl, Nat.pow_one, h3, ← Nat.two_pow_add_eq_or_of_lt (i := 1) (b := x / 2 ^ 63) (by omega)]
  rw [h2]
  unfold U64 at hx
  simp only [IntKind.wrap_u64]
  omega
theorem revF_step (t n i : Nat) (ht : t < 2 ^ i) (hi : i < 64) (hn : U64 n) : IntKind.u64.wrap (IntKind.u64.wrap (2 * (t : Int)) + (n : Int) % 2) = ((t * 2 % 2 ^ 64 ||| n % 2 : Nat) : Int) := by
  have hp : 2 ^ i ≤ 2 ^ 63 := Nat.pow_le_pow_right (by omega) (by omega)
  have e : t * 2 % 2 ^ 64 ||| n % 2 = t * 2 + n % 2 := by
    rw [Nat.mod_eq_of_lt (by omega), Nat.mul_comm]
    exact (Nat.two_pow_add_eq_or_of_lt (i := 1) (b := n % 2) (by omega) t).symm
  rw [e]
  simp only [IntKind.wrap_u64]; omega
end Go.Proofs.YtfjodadmcfdlpaaDoor
