/- Contracts of package bits: the functions that write. -/
import Derived.Test.YtafkbodmiblbnaaGreatDoorMZ04
import Derived.Test.YtafkbodmiblbnaaGreatDoorMZ01
namespace Go.Proofs.YtafkbodmiblbnaaGreatDoor
open Go.RowKit
set_option linter.unusedVariables false

/-- The varint of a number: groups of seven bits, the least first. -/
def vintF : Nat → Nat → List UInt8
  | 0, u => [UInt8.ofNat u]
  | f + 1, u => if u < 128 then [UInt8.ofNat u] else UInt8.ofNat (u % 128 + 128) :: vintF f (u / 128)
def vint (u : Nat) : List UInt8 := vintF 9 u
theorem vintF_len (f u : Nat) : (vintF f u).length ≤ f + 1 := by
  induction f generalizing u with
  | zero => simp [vintF]
  | succ f ih => rw [vintF]; split <;> simp; exact ih _
theorem vint_len (u : Nat) : (vint u).length ≤ 10 := vintF_len 9 u

theorem concat2_any (b off cap : Nat) (v1 v2 : Value) (l1 l2 : List UInt8) (w : World) (hc1 : w.cell? ⟨b, off, none⟩ = some v1) (hc2 : w.cell? ⟨b, off + 1, none⟩ = some v2) (h1 : Sl w v1 (bv l1)) (h2 : Sl w v2 (bv l2)) (hlen : l1.length + l2.length ≤ 2199023255552) :
    Calls Tryz.prog 79 #[.slice (some ⟨b, off, none⟩) 2 cap] w fun e w' => (∃ v', e = .returned v' ∧ Own w' w.heap.size 5 v' (bv (l1 ++ l2))) ∧ Below w.heap.size w w' := by
  have h := concat_any b off cap [v1, v2] [l1, l2] w (fun j u hj => by
    match j, hj with
    | 0, hj => simp at hj; subst hj; exact hc1
    | 1, hj => simp at hj; subst hj; exact hc2) ⟨rfl, fun k hk v hv => by
    match k, hk, hv with
    | 0, hk, hv => simp at hv; subst hv; exact h1
    | 1, hk, hv => simp at hv; subst hv; exact h2⟩ (by simp) (by simpa [sumLen] using hlen)
  simpa using h

theorem concat_lit2 (v1 v2 : Value) (l1 l2 : List UInt8) (w : World) (h1 : Sl w v1 (bv l1)) (h2 : Sl w v2 (bv l2)) (hlen : l1.length + l2.length ≤ 2199023255552) (T : TypeId) :
    Calls Tryz.prog 79 #[.slice (some ⟨w.heap.size, 0, none⟩) 2 2] (w.alloc (.cells #[v1, v2] T)) fun e w' => (∃ v', e = .returned v' ∧ Own w' w.heap.size 5 v' (bv (l1 ++ l2))) ∧ Below w.heap.size w w' := by
  have hb : Below w.heap.size w (w.alloc (.cells #[v1, v2] T)) := (Below.refl _ w).alloc (Nat.le_refl _) _
  have hh := heap_alloc_new w (.cells #[v1, v2] T)
  refine (concat2_any w.heap.size 0 2 v1 v2 l1 l2 _ (by unfold World.cell?; rw [hh]; rfl) (by unfold World.cell?; rw [hh]; rfl) (h1.below hb) (h2.below hb) hlen).mono ?_
  rintro e w' ⟨⟨v', rfl, ho⟩, hb'⟩
  exact ⟨⟨v', rfl, ho.base (by simp)⟩, hb.trans (hb'.mono (by simp))⟩

theorem make10 (w : World) : (Instr.makeSlice 29 (.int .i64 0) (.int .i64 10)).run Tryz.prog w =
    .ok (.slice (some ⟨w.heap.size, 0, none⟩) 0 10) (w.alloc (.cells (Array.replicate 10 (.int .u8 0)) 5)) := by kernel_rfl

/-- Where a varint stands: k groups are written, x is left. -/
def VintAt (u k x : Nat) (pre : List UInt8) : Prop := k ≤ 9 ∧ pre.length = k ∧ x < 2 * 128 ^ (9 - k) ∧ pre ++ vintF (9 - k) x = vint u
theorem VintAt.zero {u : Nat} (h : U64 u) : VintAt u 0 u [] := ⟨by omega, rfl, by unfold U64 at h; omega, rfl⟩
theorem VintAt.next {u k x : Nat} {pre : List UInt8} (h : VintAt u k x pre) (hx : 128 ≤ x) : VintAt u (k + 1) (x / 128) (pre ++ [UInt8.ofNat (x % 128 + 128)]) := by
  obtain ⟨h1, h2, h3, h4⟩ := h
  have hk : k < 9 := by
    rcases Nat.lt_or_ge k 9 with h | h
    · exact h
    · have : k = 9 := by omega
      subst this; simp at h3; omega
  have e : 9 - k = (9 - (k + 1)) + 1 := by omega
  refine ⟨by omega, by simp [h2], ?_, ?_⟩
  · rw [e, Nat.pow_succ] at h3
    generalize 128 ^ (9 - (k + 1)) = p at *
    omega
  · rw [← h4, e, vintF, if_neg (by omega)]; simp
theorem VintAt.last {u k x : Nat} {pre : List UInt8} (h : VintAt u k x pre) (hx : x < 128) : pre ++ [UInt8.ofNat x] = vint u := by
  obtain ⟨h1, h2, h3, h4⟩ := h
  rw [← h4]
  congr 1
  cases 9 - k with
  | zero => rfl
  | succ n => rw [vintF, if_pos hx]
theorem VintAt.u64 {u k x : Nat} {pre : List UInt8} (h : VintAt u k x pre) : U64 x := by
  unfold U64
  obtain ⟨h1, h2, h3, h4⟩ := h
  have : 128 ^ (9 - k) ≤ 128 ^ 9 := Nat.pow_le_pow_right (by omega) (by omega)
  omega

/-- A literal of one byte. -/
theorem sl_lit1 (w : World) (z : Int) (c : UInt8) (h : z = c.toNat) (e : TypeId) : Sl (w.alloc (.cells #[.int .u8 z] e)) (.slice (some ⟨w.heap.size, 0, none⟩) 1 1) (bv [c]) := by
  subst h
  have h : Own (w.alloc (.cells #[.int .u8 (c.toNat : Int)] e)) w.heap.size e (.slice (some ⟨w.heap.size, 0, none⟩) 1 1) (bv [c]) :=
    World.ownsRow_lit w #[.int .u8 (c.toNat : Int)] 1 (Nat.le_refl _) (by unfold maxLen; omega) rfl
  exact h.sl
theorem or128 (x : Nat) : bits BinOp.or IntKind.u8 ((x : Int) % 256) 128 = (UInt8.ofNat (x % 128 + 128)).toNat := by
  have h : ∀ a : Nat, a < 256 → bits BinOp.or IntKind.u8 ((a : Nat) : Int) 128 = (UInt8.ofNat (a % 128 + 128)).toNat := by decide +kernel
  have h2 := h (x % 256) (by omega)
  rw [show ((x % 256 : Nat) : Int) = (x : Int) % 256 by omega, show x % 256 % 128 = x % 128 by omega] at h2
  exact h2
theorem small8 (x : Nat) (h : x < 128) : (x : Int) = (UInt8.ofNat x).toNat := by
  rw [UInt8.toNat_ofNat_of_lt' (by show x < 256; omega)]

set_option maxRecDepth 100000 in
theorem varint_any (v : Value) (l : List UInt8) (u : Nat) (w : World) (h : Sl w v (bv l)) (hu : U64 u) (hlen : l.length ≤ 1099511627776) :
    Calls Tryz.prog 29 #[v, .int .u64 u] w fun e w' => (∃ v', e = .returned v' ∧ Own w' w.heap.size 5 v' (bv (l ++ vint u))) ∧ Below w.heap.size w w' := by
  obtain ⟨a0, c0, rfl⟩ := h.len
  generalize (bv l).length = n0 at h
  have H := Lib.hid h
  clear h
  go_enter Tryz.func29, Tryz.ntmps29
  have hmk := make10
  have h0 : Own (w.alloc (.cells (Array.replicate 10 (.int .u8 0)) 5)) w.heap.size 5 (.slice (some ⟨w.heap.size, 0, none⟩) 0 10) (bv []) :=
    World.ownsRow_made w _ 10 (Nat.le_refl _) (by unfold maxLen; omega) (by simp)
  have hb0 : Below w.heap.size w (w.alloc (.cells (Array.replicate 10 (.int .u8 0)) 5)) := (Below.refl _ w).alloc (Nat.le_refl _) _
  generalize hw1 : w.alloc (.cells (Array.replicate 10 (.int .u8 0)) 5) = w1 at *
  go_wp2_with fail
  clear hw1 hmk
  have Hu := Lib.hid hu
  go_loopw [1, 5] (fun c n wr => ∃ (k x : Nat) (pre : List UInt8), VintAt u k x pre ∧ c = .int .u64 x ∧ Own wr w.heap.size 5 n (bv pre) ∧ Below w.heap.size w wr) (fun c _ _ => (intOf c).toNat)
  case atStart => exact ⟨0, u, [], VintAt.zero Hu.out, rfl, h0, hb0⟩
  case round =>
    clear h0 hb0
    obtain ⟨k, x, pre, hv, rfl, ho, hb⟩ := hrel
    have hx : U64 x := hv.u64
    have hpre : pre.length ≤ 9 := by rw [hv.2.1]; exact hv.1
    by_cases hge : 128 ≤ x
    · have h1 := sl_lit1 wr _ _ (or128 x) 5
      have hb1 : Below w.heap.size w (wr.alloc (.cells #[.int .u8 (bits BinOp.or IntKind.u8 ((x : Int) % 256) 128)] 5)) := hb.alloc hb.size _
      obtain ⟨v', w', hr, ho', hg, _⟩ := append8 (ty := 29) (Own.alloc ho _) h1 (by simp; omega) hb1.size
      have hb2 := hb1.grown hg hb1.size (fun g hg' => (ho.lt g hg').1)
      have hv' := hv.next hge
      have Hr := Lib.hid hr
      have Ho := Lib.hid ho'
      clear hr hg h1 hb1 hb ho hv ho'
      go_wp2_with (at_builtin; refine wpList_append_run rfl _ _ _ _ rfl rfl rfl Hr.out ?_)
      go_roundw
      case rel => exact ⟨k + 1, x / 128, _, hv', by simp, Ho.out, hb2⟩
      case measure => simp [intOf]; omega
    · have h1 := sl_lit1 wr _ _ (small8 x (by omega)) 5
      have hb1 : Below w.heap.size w (wr.alloc (.cells #[.int .u8 (x : Int)] 5)) := hb.alloc hb.size _
      obtain ⟨v', w', hr, ho', hg, _⟩ := append8 (ty := 29) (Own.alloc ho _) h1 (by simp; omega) hb1.size
      have hb2 := hb1.grown hg hb1.size (fun g hg' => (ho.lt g hg').1)
      rw [hv.last (by omega)] at ho'
      obtain ⟨a1, c1, rfl⟩ := ho'.sl.len
      generalize (bv (vint u)).length = n1 at *
      have hl2 : l.length + (vint u).length ≤ 2199023255552 := by have := vint_len u; omega
      have Hr := Lib.hid hr
      have Ho := Lib.hid ho'
      clear hr hg h1 hb1 hb ho hv ho'
      go_wp2_with (first | (at_builtin; refine wpList_append_run rfl _ _ _ _ rfl rfl rfl Hr.out ?_) | (go_at_call 79; refine (concat_lit2 _ _ l (vint u) _ (H.out.below hb2) Ho.out.sl hl2 _).mono ?_; rintro e w2 ⟨⟨v2, rfl, ho2⟩, hb3⟩))
      go_ret
      exact ⟨⟨v2, rfl, ho2.base hb2.size⟩, hb2.trans (hb3.mono hb2.size)⟩

theorem zig_any (n : Int) (w : World) (h : I64 n) : Calls Tryz.prog 145 #[.int .i64 n] w fun e w' => e = .returned (.int .u64 (zig n : Nat)) ∧ w = w' := by
  rw [← zig_eq h]
  clear h
  go_enter Tryz.func145, Tryz.ntmps145
  go_wp2
  go_ret
  exact ⟨rfl, rfl⟩

/-- What Int writes. -/
theorem int_any (v : Value) (l : List UInt8) (n : Int) (w : World) (h : Sl w v (bv l)) (hn : I64 n) (hlen : l.length ≤ 1099511627776) :
    Calls Tryz.prog 113 #[v, .int .i64 n] w fun e w' => (∃ v', e = .returned v' ∧ Own w' w.heap.size 5 v' (bv (l ++ vint (zig n)))) ∧ Below w.heap.size w w' := by
  have H := Lib.hid h
  clear h
  go_enter Tryz.func113, Tryz.ntmps113
  go_wp2_with (first | (go_at_call 145; refine (zig_any _ _ hn).mono ?_; rintro e w1 ⟨rfl, rfl⟩) | (go_at_call 29; refine (varint_any _ l (zig n) _ H.out (zig_u64 hn) hlen).mono ?_; rintro e w1 ⟨⟨v1, rfl, ho1⟩, hb1⟩))
  go_ret
  exact ⟨⟨v1, rfl, ho1⟩, hb1⟩

/-- What Text writes. -/
theorem text_any (v x : Value) (l m : List UInt8) (w : World) (h : Sl w v (bv l)) (hx : Sl w x (bv m)) (hlen : l.length + m.length ≤ 1099511627776) :
    Calls Tryz.prog 31 #[v, x] w fun e w' => (∃ v', e = .returned v' ∧ Own w' w.heap.size 5 v' (bv (l ++ vint m.length ++ m))) ∧ Below w.heap.size w w' := by
  obtain ⟨a0, c0, rfl⟩ := hx.len
  rw [bv_length] at hx
  have H := Lib.hid h
  have Hx := Lib.hid hx
  have hm : U64 m.length := by unfold U64; omega
  have hl2 : (l ++ vint m.length).length + m.length ≤ 2199023255552 := by have := vint_len m.length; simp; omega
  have hl1 : l.length ≤ 1099511627776 := by omega
  have hm1 : m.length ≤ 1099511627776 := by omega
  clear h hx hlen
  rw [bv_length]
  go_enter Tryz.func31, Tryz.ntmps31
  go_wp2_with (go_at_call 29; refine (varint_any _ l m.length _ H.out hm hl1).mono ?_; rintro e w1 ⟨⟨v1, rfl, ho1⟩, hb1⟩; obtain ⟨a1, c1, rfl⟩ := ho1.sl.len)
  refine (concat_lit2 _ _ _ _ _ ho1.sl (Hx.out.below hb1) hl2 _).mono ?_
  rintro e w2 ⟨⟨v2, rfl, ho2⟩, hb2⟩
  go_wp2
  go_ret
  exact ⟨⟨v2, rfl, ho2.base hb1.size⟩, hb1.trans (hb2.mono hb1.size)⟩

def isSize (s : Int) : Bool := s == 8 || s == 16 || s == 32 || s == 64
theorem isSize_yes (s : Int) (w : World) (h : s = 8 ∨ s = 16 ∨ s = 32 ∨ s = 64) : Calls Tryz.prog 146 #[.int .i64 s] w fun e w' => e = .returned (.bool true) ∧ w = w' := by
  rcases h with rfl | rfl | rfl | rfl
  all_goals
    go_enter Tryz.func146, Tryz.ntmps146
    go_wp2
    go_ret
    exact ⟨rfl, rfl⟩
theorem isSize_no (s : Int) (w : World) (h1 : ¬ s = 8) (h2 : ¬ s = 16) (h3 : ¬ s = 32) (h4 : ¬ s = 64) : Calls Tryz.prog 146 #[.int .i64 s] w fun e w' => e = .returned (.bool (isSize s)) ∧ w = w' := by
  go_enter Tryz.func146, Tryz.ntmps146
  go_wp2
  go_ret
  exact ⟨rfl, rfl⟩
theorem isSize_any (s : Int) (w : World) : Calls Tryz.prog 146 #[.int .i64 s] w fun e w' => e = .returned (.bool (isSize s)) ∧ w = w' := by
  by_cases h1 : s = 8
  · rw [show isSize s = true by subst h1; rfl]; exact isSize_yes s w (by omega)
  by_cases h2 : s = 16
  · rw [show isSize s = true by subst h2; rfl]; exact isSize_yes s w (by omega)
  by_cases h3 : s = 32
  · rw [show isSize s = true by subst h3; rfl]; exact isSize_yes s w (by omega)
  by_cases h4 : s = 64
  · rw [show isSize s = true by subst h4; rfl]; exact isSize_yes s w (by omega)
  exact isSize_no s w h1 h2 h3 h4

end Go.Proofs.YtafkbodmiblbnaaGreatDoor
/- Contracts of package bits: the reader. -/
namespace Go.Proofs.YtafkbodmiblbnaaGreatDoor
open Go.RowKit
set_option linter.unusedVariables false
variable {Q : Nat → Prop}

/-- Block g is a reader: what is left, and its first error. -/
def RdQ (Q : Nat → Prop) (w : World) (g : Nat) (rest : List UInt8) (e : Int) : Prop :=
  ∃ v, w.heap[g]? = some (.cells #[v, .int .i64 e] 121 (0, 0)) ∧ SlS w v (bv rest) ∧ (∀ b, v.ownBlock = some b → b < g ∧ Q b)

theorem RdQ.lt {w : World} {g : Nat} {rest : List UInt8} {e : Int} (h : RdQ Q w g rest e) : g < w.heap.size := by
  obtain ⟨v, h, _⟩ := h; exact (Array.getElem?_eq_some_iff.1 h).1
theorem RdQ.keep {w w' : World} {g : Nat} {rest : List UInt8} {e : Int} (h : RdQ Q w g rest e) (hb : Below w.heap.size w w') : RdQ Q w' g rest e := by
  have hlt := h.lt
  obtain ⟨v, h1, h2, h3⟩ := h
  exact ⟨v, by rw [hb.block g hlt]; exact h1, h2.below hb, h3⟩
/-- What the walk reads of it. -/
theorem RdQ.cells {w : World} {g : Nat} {rest : List UInt8} {e : Int} (h : RdQ Q w g rest e) :
    ∃ v, w.cell? ⟨g, 0, none⟩ = some v ∧ w.cell? ⟨g, 1, none⟩ = some (.int .i64 e) ∧ w.frozen? ⟨g, 0, none⟩ = false ∧ w.frozen? ⟨g, 1, none⟩ = false ∧ SlS w v (bv rest) ∧ (∀ b, v.ownBlock = some b → b < g ∧ Q b) := by
  obtain ⟨v, h1, h2, h3⟩ := h
  refine ⟨v, ?_, ?_, ?_, ?_, h2, h3⟩
  · unfold World.cell?; rw [h1]; rfl
  · unfold World.cell?; rw [h1]; rfl
  · unfold World.frozen?; rw [h1]; rfl
  · unfold World.frozen?; rw [h1]; rfl
theorem sls_nil (w : World) : SlS w (.slice none 0 0) (bv []) := .inl ⟨rfl, rfl⟩
theorem sl_nil (w : World) : Sl w (.slice none 0 0) (bv []) := (sls_nil w).sl

end Go.Proofs.YtafkbodmiblbnaaGreatDoor
