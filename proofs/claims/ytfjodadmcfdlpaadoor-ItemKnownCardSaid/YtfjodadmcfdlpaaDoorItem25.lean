/- cutOp; the encodings, whether an op may be or not. -/
import Derived.Test.YtfjodadmcfdlpaaDoorRefI6
import Derived.Test.YtfjodadmcfdlpaaDoorBkJ
namespace Go.Proofs.YtfjodadmcfdlpaaDoor
open Go.RowKit
set_option linter.unusedVariables false
set_option linter.unusedSimpArgs false
theorem lns_take {w : World} {a : Option Addr} {n c : Nat} {ls : List Ln} (h : LnS w (.slice a n c) ls) (m : Nat) (hm : m ≤ n) : LnS w (.slice a m c) (ls.take m) := by
  rcases h with ⟨a', c', he, h1, rfl⟩ | ⟨b, off, c', he, h1, h2, h3, h4⟩
  · simp only [Value.slice.injEq] at he
    obtain ⟨rfl, rfl, rfl⟩ := he
    obtain rfl : m = 0 := by omega
    exact .inl ⟨_, _, rfl, h1, rfl⟩
  · simp only [Value.slice.injEq] at he
    obtain ⟨rfl, rfl, rfl⟩ := he
    have hl : (ls.take m).length = m := by rw [List.length_take]; omega
    refine .inr ⟨b, off, c, by rw [hl], by rw [hl]; omega, h2, h3, fun i hi => ?_⟩
    have := h4 i (by omega)
    rw [List.getElem_take]
    exact this
theorem lns_cap {w : World} {a : Option Addr} {n c : Nat} {ls : List Ln} (h : LnS w (.slice a n c) ls) : n = ls.length ∧ n ≤ c := by
  rcases h with ⟨a', c', he, h1, rfl⟩ | ⟨b, off, c', he, h1, h2, h3, h4⟩
  · simp only [Value.slice.injEq] at he
    obtain ⟨rfl, rfl, rfl⟩ := he
    exact ⟨rfl, Nat.zero_le _⟩
  · simp only [Value.slice.injEq] at he
    obtain ⟨rfl, rfl, rfl⟩ := he
    exact ⟨rfl, h1⟩
/-- What cutOp answers. -/
def CutP (w0 : World) (L : List Thing) (k : Int) (s : KS) (o n : Int) (ls : List Ln) (e : Ending) (w' : World) : Prop :=
  ∃ a m c, e = .returned (.agg #[.int .i64 k, .string s.1, .int .i64 o, .int .i64 n, .slice a m c]) ∧ m ≤ 8 ∧ (∀ wx, Below w0.heap.size w0 wx → LnS wx (.slice a m c) (ls.take 8)) ∧ (ls.take 8).length = m ∧ Sep w0 L w'
set_option maxRecDepth 100000 in
set_option maxHeartbeats 4000000 in
theorem cutOp_any {w0 w : World} {L : List Thing} (k : Int) (s : KS) (o n : Int) (v : Value) (ls : List Ln) (h : Sep w0 L w) (hv : LnS w0 v ls) :
    Calls Tryd.prog 9 #[.agg #[.int .i64 k, .string s.1, .int .i64 o, .int .i64 n, v]] w (CutP w0 L k s o n ls) := by
  obtain ⟨a, c, rfl⟩ := hv.len
  obtain ⟨m, hm1, hm2, hm3, hm4⟩ := min_len ls.length 8
  have hcap := (lns_cap hv).2
  have hT : ls.take m = ls.take 8 := by
    rcases hm4 with rfl | rfl
    · rw [List.take_length, List.take_of_length_le (by omega)]
    · rfl
  have hLT : (ls.take 8).length = m := by rw [← hT, List.length_take]; omega
  have HT := Lib.hid (hT ▸ lns_take hv m hm1)
  have HLT := Lib.hid hLT
  have hm3' : (if (8 : Int) < (ls.length : Int) then (8 : Int) else (ls.length : Int)) = (m : Int) := hm3
  have hmc : m ≤ c := by omega
  have h4 := (h.alloc0 (.cells #[.int .i64 k, .string s.1, .int .i64 o, .int .i64 n, .slice a m c] 24)).alloc (.cells #[.int .i64 k, .string s.1, .int .i64 o, .int .i64 n, .slice a m c] 24)
  rw [show (w.alloc (.cells #[.int .i64 k, .string s.1, .int .i64 o, .int .i64 n, .slice a m c] 24)).heap.size = w.heap.size + 1 by simp] at h4
  obtain ⟨k0, k1, k2, k3, k4⟩ := cells5 h4
  have H4 := Lib.hid h4.drop
  clear h h4 hv hT hLT hm4
  go_enter Tryd.func9, Tryd.ntmps9
  go_simp
  repeat (first | go_values | go_skip | go_guarded | go_step | go_upon | go_back)
  exact bodyPost_ret (v := .agg #[.int .i64 k, .string s.1, .int .i64 o, .int .i64 n, .slice a m c]) (by simp [results, Tryd.results9, go_sem, k0, k1, k2, k3, k4]) rfl ⟨_, _, _, rfl, hm2, fun wx hb => HT.out.below hb, HLT.out, H4.out⟩
def eB (b : Bool) : Int := if b then 0 else 2
def BysE (w0 : World) (L : List Thing) (b : Bool) (r : List UInt8) (e : Ending) (w' : World) : Prop := ∃ u, e = .returned (.tuple #[u, .int .i64 (eB b)]) ∧ Sep w0 (By u (if b then r else []) :: L) w'
theorem bytes_u {w0 w : World} {L : List Thing} (k : Int) (s : KS) (o n : Int) (v : Value) (ls : List Ln) (h : Sep w0 L w) (hv : LnS w v ls) (hk : KindsAt w) :
    Calls Tryd.prog 10 #[.agg #[.int .i64 k, .string s.1, .int .i64 o, .int .i64 n, v]] w (BysE w0 L (okB k s o n ls) (opBs k s o n ls)) := by
  cases hb : okB k s o n ls with
  | true => exact (bytes_ok k s o n v ls h hv hk hb).mono fun e w' ⟨u, h1, h2⟩ => ⟨u, h1, h2⟩
  | false => exact (bytes_bad k s o n v ls h hv hk hb).mono fun e w' ⟨h1, h2⟩ => ⟨_, h1, h2.rnil _⟩
theorem rbytes_u {w0 w : World} {L : List Thing} (k : Int) (s : KS) (o n : Int) (v : Value) (ls : List Ln) (h : Sep w0 L w) (hv : LnS w v ls) (hl : ls.length ≤ 1000) :
    Calls Tryd.prog 11 #[.agg #[.int .i64 k, .string s.1, .int .i64 o, .int .i64 n, v]] w (BysE w0 L (okB k s o n ls) (opBs k s o n ls)) := by
  cases hb : okB k s o n ls with
  | true => exact (rbytes_ok k s o n v ls h hv hb).mono fun e w' ⟨u, h1, h2⟩ => ⟨u, h1, h2⟩
  | false => exact (rbytes_bad k s o n v ls h hv hl hb).mono fun e w' ⟨h1, h2⟩ => ⟨_, h1, h2.rnil _⟩
theorem bytesRes_u {w0 w : World} {L : List Thing} (c a b : Int) (h : Sep w0 L w) :
    Calls Tryd.prog 12 #[.agg #[.int .i64 c, .int .i64 a, .int .i64 b]] w (BysE w0 L (resB c a b) (resBs c a b)) := by
  cases hb : resB c a b with
  | true => exact (bytesRes_ok c a b h hb).mono fun e w' ⟨u, h1, h2⟩ => ⟨u, h1, h2⟩
  | false => exact (bytesRes_bad c a b h hb).mono fun e w' ⟨h1, h2⟩ => ⟨_, h1, h2.rnil _⟩
theorem rbytesRes_u {w0 w : World} {L : List Thing} (c a b : Int) (h : Sep w0 L w) :
    Calls Tryd.prog 13 #[.agg #[.int .i64 c, .int .i64 a, .int .i64 b]] w (BysE w0 L (resB c a b) (resBs c a b)) := by
  cases hb : resB c a b with
  | true => exact (rbytesRes_ok c a b h hb).mono fun e w' ⟨u, h1, h2⟩ => ⟨u, h1, h2⟩
  | false => exact (rbytesRes_bad c a b h hb).mono fun e w' ⟨h1, h2⟩ => ⟨_, h1, h2.rnil _⟩
end Go.Proofs.YtfjodadmcfdlpaaDoor
