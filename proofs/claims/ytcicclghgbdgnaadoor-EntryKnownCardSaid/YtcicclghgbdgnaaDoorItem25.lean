/- cutOp; the encodings, whether an op may be or not. -/
import Derived.Test.YtcicclghgbdgnaaDoorRefI6
import Derived.Test.YtcicclghgbdgnaaDoorBkJ
namespace Go.Proofs.YtcicclghgbdgnaaDoor
open Go.RowKit
set_option linter.unusedVariables false
set_option linter.unusedSimpArgs false
theorem lns_take {w : World} {a : Option Addr} {n c : Nat} {ls : List Ln} (h : LnS w (.slice a n c) ls) (m : Nat) (hm : m ≤ n) : LnS w (.slice a m c) (ls.take m) := by
  rcases h with ⟨a', c', he, h1, rfl⟩ | ⟨b, off, c', he, h1, h2, h3, h4⟩
  · simp only [Value.slice.injEq] at he
    obtain ⟨rfl, rfl, rfl⟩ := he
    obtain rfl : m = 0 := by omega
    exact .inl ⟨_, _, rfl, h1, rfl⟩
  · simp only [Value.slice.injEq] at he
    obtain ⟨rfl, rfl, rfl⟩ := he
    have hl : (ls.take m).length = m := by rw [List.length_take]; omega
    refine .inr ⟨b, off, c, by rw [hl], by rw [hl]; omega, h2, h3, fun i hi => ?_⟩
    have := h4 i (by omega)
    rw [List.getElem_take]
    exact this
theorem lns_cap {w : World} {a : Option Addr} {n c : Nat} {ls : List Ln} (h : LnS w (.slice a n c) ls) : n = ls.length ∧ n ≤ c := by
  rcases h with ⟨a', c', he, h1, rfl⟩ | ⟨b, off, c', he, h1, h2, h3, h4⟩
  · simp only [Value.slice.injEq] at he
    obtain ⟨rfl, rfl, rfl⟩ := he
    exact ⟨rfl, Nat.zero_le _⟩
  · simp only [Value.slice.injEq] at he
    obtain ⟨rfl, rfl, rfl⟩ := he
    exact ⟨rfl, h1⟩
/-- What cutOp answers. -/
def CutP (w0 : World) (L : List Thing) (k : Int) (s : KS) (o n : Int) (ls : List Ln) (e : Ending) (w' : World) : Prop :=
  ∃ a m c, e = .returned (.agg #[.int .i64 k, .string s.1, .int .i64 o, .int .i64 n, .slice a m c]) ∧ m ≤ 8 ∧ (∀ wx, Below w0.heap.size w0 wx → LnS wx (.slice a m c) (ls.take 8)) ∧ (ls.take 8).length = m ∧ Sep w0 L w'
def eB (b : Bool) : Int := if b then 0 else 2
def BysE (w0 : World) (L : List Thing) (b : Bool) (r : List UInt8) (e : Ending) (w' : World) : Prop := ∃ u, e = .returned (.tuple #[u, .int .i64 (eB b)]) ∧ Sep w0 (By u (if b then r else []) :: L) w'
theorem bytes_u {w0 w : World} {L : List Thing} (k : Int) (s : KS) (o n : Int) (v : Value) (ls : List Ln) (h : Sep w0 L w) (hv : LnS w v ls) (hk : KindsAt w) :
    Calls Tryd.prog 27 #[.agg #[.int .i64 k, .string s.1, .int .i64 o, .int .i64 n, v]] w (BysE w0 L (okB k s o n ls) (opBs k s o n ls)) := by
  cases hb : okB k s o n ls with
  | true => exact (bytes_ok k s o n v ls h hv hk hb).mono fun e w' ⟨u, h1, h2⟩ => ⟨u, h1, h2⟩
  | false => exact (bytes_bad k s o n v ls h hv hk hb).mono fun e w' ⟨h1, h2⟩ => ⟨_, h1, h2.rnil _⟩
theorem rbytes_u {w0 w : World} {L : List Thing} (k : Int) (s : KS) (o n : Int) (v : Value) (ls : List Ln) (h : Sep w0 L w) (hv : LnS w v ls) (hl : ls.length ≤ 1000) :
    Calls Tryd.prog 30 #[.agg #[.int .i64 k, .string s.1, .int .i64 o, .int .i64 n, v]] w (BysE w0 L (okB k s o n ls) (opBs k s o n ls)) := by
  cases hb : okB k s o n ls with
  | true => exact (rbytes_ok k s o n v ls h hv hb).mono fun e w' ⟨u, h1, h2⟩ => ⟨u, h1, h2⟩
  | false => exact (rbytes_bad k s o n v ls h hv hl hb).mono fun e w' ⟨h1, h2⟩ => ⟨_, h1, h2.rnil _⟩
end Go.Proofs.YtcicclghgbdgnaaDoor
