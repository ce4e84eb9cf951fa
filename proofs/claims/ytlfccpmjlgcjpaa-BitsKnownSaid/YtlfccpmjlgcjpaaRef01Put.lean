/- Contract of the document's answer for Put. -/
import Derived.Test.YtlfccpmjlgcjpaaRef01
namespace Go.Proofs.Ytlfccpmjlgcjpaa
open Go.RowKit
set_option linter.unusedVariables false

theorem rput_arg (v : Value) (s : Int) (n : Nat) (w : World) (hs : isSize s = false) :
    Calls Try.prog 11 #[v, .int .i64 s, .int .u64 n] w fun e w' => e = .returned (.tuple #[.slice none 0 0, .int .i64 2]) ∧ w = w' := by
  go_enter Try.func11, Try.ntmps11
  go_wp2_with (go_at_call 40; refine (rsized_any _ _).mono ?_; rw [hs]; rintro e w1 ⟨rfl, rfl⟩)
  go_ret2
  exact ⟨rfl, rfl⟩

theorem rput_range1 (v : Value) (n : Nat) (w : World) (h : (((n : Int) / 256) != 0) = true) :
    Calls Try.prog 11 #[v, .int .i64 8, .int .u64 n] w fun e w' => e = .returned (.tuple #[.slice none 0 0, .int .i64 9]) ∧ w = w' := by
  have h2 : ¬ (n : Int) / 256 = 0 := by rw [bne_iff_ne] at h; exact h
  clear h
  go_enter Try.func11, Try.ntmps11
  go_wp2_with (go_at_call 40; refine (rsized_any _ _).mono ?_; rw [show isSize 8 = true from rfl]; rintro e w1 ⟨rfl, rfl⟩)
  go_ret2
  exact ⟨rfl, rfl⟩

set_option maxRecDepth 100000 in
theorem rput_ok1 (v : Value) (l : List UInt8) (n : Nat) (w : World) (h : ((n : Int) / 256) = 0) (hv : Sl w v (bv l)) (hlen : l.length ≤ 1099511627776) :
    Calls Try.prog 11 #[v, .int .i64 8, .int .u64 n] w fun e w' => (∃ v', e = .returned (.tuple #[v', .int .i64 0]) ∧ Own w' w.heap.size 5 v' (bv (l ++ beL 1 n))) ∧ Below w.heap.size w w' := by
  have H := Lib.hid hv
  clear hv
  go_enter Try.func11, Try.ntmps11
  go_wp2_with (first | (go_at_call 40; refine (rsized_any _ _).mono ?_; rw [show isSize 8 = true from rfl]; rintro e w1 ⟨rfl, rfl⟩) | (go_at_call 9; refine (copyBytes_any _ l _ H.out (by omega)).mono ?_; rintro r0 w1 ⟨⟨v1, rfl, ho1⟩, hb1⟩))
  clear h
  go_loopw [8, 9] (fun o i wr => ∃ (k : Nat) (pre : List UInt8), k ≤ 1 ∧ i = .int .i64 (8 * (k : Int) - 8) ∧ Own wr w.heap.size 5 o (bv (l ++ pre)) ∧ pre ++ beL k n = beL 1 n ∧ pre.length ≤ 8 ∧ Below w.heap.size w wr) (fun _ i _ => (intOf i + 8).toNat)
  case atStart => exact ⟨1, [], by omega, rfl, by rw [List.append_nil]; exact ho1, rfl, by simp, hb1⟩
  case round =>
    clear ho1 hb1
    obtain ⟨k, pre, hk, rfl, ho, hpre, hpl, hb⟩ := hrel
    by_cases hk0 : k = 0
    · subst hk0
      rw [show beL 0 n = [] from rfl, List.append_nil] at hpre
      subst hpre
      have Ho := Lib.hid ho
      clear ho
      go_wp2
      go_ret2
      exact ⟨⟨_, rfl, Ho.out⟩, hb⟩
    · obtain ⟨j, rfl⟩ : ∃ j, k = j + 1 := ⟨k - 1, by omega⟩
      have hbyte := be_byte n j
      have hi : (8 : Int) * ((j + 1 : Nat) : Int) - 8 = 8 * (j : Int) := by omega
      rw [hi]
      have h1 := sl_lit1 wr _ _ hbyte 5
      have hb1 : Below w.heap.size w (wr.alloc (.cells #[.int .u8 ((n : Int) / 2 ^ (8 * j) % 256)] 5)) := hb.alloc hb.size _
      have hpl2 : (pre ++ [UInt8.ofNat (n / 256 ^ j)]).length ≤ 8 := by
        have := congrArg List.length hpre
        simp [beL_len] at this
        simp; omega
      obtain ⟨v', w', hr, ho', hg, _⟩ := append8 (ty := 22) (Own.alloc ho _) h1 (by simp; omega) hb1.size
      have hb2 := hb1.grown hg hb1.size (fun g hg' => (ho.lt g hg').1)
      rw [List.append_assoc] at ho'
      have hpre2 : (pre ++ [UInt8.ofNat (n / 256 ^ j)]) ++ beL j n = beL 1 n := by rw [← hpre, beL]; simp
      have Hr := Lib.hid hr
      have Ho := Lib.hid ho'
      have Hp := Lib.hid hpre2
      clear hr hg h1 hb1 hb ho ho' hpre hpre2 hi hbyte
      go_wp2_with (at_builtin; refine wpList_append_run rfl _ _ _ _ rfl rfl rfl Hr.out ?_)
      go_roundw
      case rel => exact ⟨j, _, by omega, rfl, Ho.out, Hp.out, hpl2, hb2⟩
      case measure => simp [intOf]; omega

theorem rput_range2 (v : Value) (n : Nat) (w : World) (h : (((n : Int) / 65536) != 0) = true) :
    Calls Try.prog 11 #[v, .int .i64 16, .int .u64 n] w fun e w' => e = .returned (.tuple #[.slice none 0 0, .int .i64 9]) ∧ w = w' := by
  have h2 : ¬ (n : Int) / 65536 = 0 := by rw [bne_iff_ne] at h; exact h
  clear h
  go_enter Try.func11, Try.ntmps11
  go_wp2_with (go_at_call 40; refine (rsized_any _ _).mono ?_; rw [show isSize 16 = true from rfl]; rintro e w1 ⟨rfl, rfl⟩)
  go_ret2
  exact ⟨rfl, rfl⟩

set_option maxRecDepth 100000 in
theorem rput_ok2 (v : Value) (l : List UInt8) (n : Nat) (w : World) (h : ((n : Int) / 65536) = 0) (hv : Sl w v (bv l)) (hlen : l.length ≤ 1099511627776) :
    Calls Try.prog 11 #[v, .int .i64 16, .int .u64 n] w fun e w' => (∃ v', e = .returned (.tuple #[v', .int .i64 0]) ∧ Own w' w.heap.size 5 v' (bv (l ++ beL 2 n))) ∧ Below w.heap.size w w' := by
  have H := Lib.hid hv
  clear hv
  go_enter Try.func11, Try.ntmps11
  go_wp2_with (first | (go_at_call 40; refine (rsized_any _ _).mono ?_; rw [show isSize 16 = true from rfl]; rintro e w1 ⟨rfl, rfl⟩) | (go_at_call 9; refine (copyBytes_any _ l _ H.out (by omega)).mono ?_; rintro r0 w1 ⟨⟨v1, rfl, ho1⟩, hb1⟩))
  clear h
  go_loopw [8, 9] (fun o i wr => ∃ (k : Nat) (pre : List UInt8), k ≤ 2 ∧ i = .int .i64 (8 * (k : Int) - 8) ∧ Own wr w.heap.size 5 o (bv (l ++ pre)) ∧ pre ++ beL k n = beL 2 n ∧ pre.length ≤ 8 ∧ Below w.heap.size w wr) (fun _ i _ => (intOf i + 8).toNat)
  case atStart => exact ⟨2, [], by omega, rfl, by rw [List.append_nil]; exact ho1, rfl, by simp, hb1⟩
  case round =>
    clear ho1 hb1
    obtain ⟨k, pre, hk, rfl, ho, hpre, hpl, hb⟩ := hrel
    by_cases hk0 : k = 0
    · subst hk0
      rw [show beL 0 n = [] from rfl, List.append_nil] at hpre
      subst hpre
      have Ho := Lib.hid ho
      clear ho
      go_wp2
      go_ret2
      exact ⟨⟨_, rfl, Ho.out⟩, hb⟩
    · obtain ⟨j, rfl⟩ : ∃ j, k = j + 1 := ⟨k - 1, by omega⟩
      have hbyte := be_byte n j
      have hi : (8 : Int) * ((j + 1 : Nat) : Int) - 8 = 8 * (j : Int) := by omega
      rw [hi]
      have h1 := sl_lit1 wr _ _ hbyte 5
      have hb1 : Below w.heap.size w (wr.alloc (.cells #[.int .u8 ((n : Int) / 2 ^ (8 * j) % 256)] 5)) := hb.alloc hb.size _
      have hpl2 : (pre ++ [UInt8.ofNat (n / 256 ^ j)]).length ≤ 8 := by
        have := congrArg List.length hpre
        simp [beL_len] at this
        simp; omega
      obtain ⟨v', w', hr, ho', hg, _⟩ := append8 (ty := 22) (Own.alloc ho _) h1 (by simp; omega) hb1.size
      have hb2 := hb1.grown hg hb1.size (fun g hg' => (ho.lt g hg').1)
      rw [List.append_assoc] at ho'
      have hpre2 : (pre ++ [UInt8.ofNat (n / 256 ^ j)]) ++ beL j n = beL 2 n := by rw [← hpre, beL]; simp
      have Hr := Lib.hid hr
      have Ho := Lib.hid ho'
      have Hp := Lib.hid hpre2
      clear hr hg h1 hb1 hb ho ho' hpre hpre2 hi hbyte
      go_wp2_with (at_builtin; refine wpList_append_run rfl _ _ _ _ rfl rfl rfl Hr.out ?_)
      go_roundw
      case rel => exact ⟨j, _, by omega, rfl, Ho.out, Hp.out, hpl2, hb2⟩
      case measure => simp [intOf]; omega

theorem rput_range4 (v : Value) (n : Nat) (w : World) (h : (((n : Int) / 4294967296) != 0) = true) :
    Calls Try.prog 11 #[v, .int .i64 32, .int .u64 n] w fun e w' => e = .returned (.tuple #[.slice none 0 0, .int .i64 9]) ∧ w = w' := by
  have h2 : ¬ (n : Int) / 4294967296 = 0 := by rw [bne_iff_ne] at h; exact h
  clear h
  go_enter Try.func11, Try.ntmps11
  go_wp2_with (go_at_call 40; refine (rsized_any _ _).mono ?_; rw [show isSize 32 = true from rfl]; rintro e w1 ⟨rfl, rfl⟩)
  go_ret2
  exact ⟨rfl, rfl⟩

set_option maxRecDepth 100000 in
theorem rput_ok4 (v : Value) (l : List UInt8) (n : Nat) (w : World) (h : ((n : Int) / 4294967296) = 0) (hv : Sl w v (bv l)) (hlen : l.length ≤ 1099511627776) :
    Calls Try.prog 11 #[v, .int .i64 32, .int .u64 n] w fun e w' => (∃ v', e = .returned (.tuple #[v', .int .i64 0]) ∧ Own w' w.heap.size 5 v' (bv (l ++ beL 4 n))) ∧ Below w.heap.size w w' := by
  have H := Lib.hid hv
  clear hv
  go_enter Try.func11, Try.ntmps11
  go_wp2_with (first | (go_at_call 40; refine (rsized_any _ _).mono ?_; rw [show isSize 32 = true from rfl]; rintro e w1 ⟨rfl, rfl⟩) | (go_at_call 9; refine (copyBytes_any _ l _ H.out (by omega)).mono ?_; rintro r0 w1 ⟨⟨v1, rfl, ho1⟩, hb1⟩))
  clear h
  go_loopw [8, 9] (fun o i wr => ∃ (k : Nat) (pre : List UInt8), k ≤ 4 ∧ i = .int .i64 (8 * (k : Int) - 8) ∧ Own wr w.heap.size 5 o (bv (l ++ pre)) ∧ pre ++ beL k n = beL 4 n ∧ pre.length ≤ 8 ∧ Below w.heap.size w wr) (fun _ i _ => (intOf i + 8).toNat)
  case atStart => exact ⟨4, [], by omega, rfl, by rw [List.append_nil]; exact ho1, rfl, by simp, hb1⟩
  case round =>
    clear ho1 hb1
    obtain ⟨k, pre, hk, rfl, ho, hpre, hpl, hb⟩ := hrel
    by_cases hk0 : k = 0
    · subst hk0
      rw [show beL 0 n = [] from rfl, List.append_nil] at hpre
      subst hpre
      have Ho := Lib.hid ho
      clear ho
      go_wp2
      go_ret2
      exact ⟨⟨_, rfl, Ho.out⟩, hb⟩
    · obtain ⟨j, rfl⟩ : ∃ j, k = j + 1 := ⟨k - 1, by omega⟩
      have hbyte := be_byte n j
      have hi : (8 : Int) * ((j + 1 : Nat) : Int) - 8 = 8 * (j : Int) := by omega
      rw [hi]
      have h1 := sl_lit1 wr _ _ hbyte 5
      have hb1 : Below w.heap.size w (wr.alloc (.cells #[.int .u8 ((n : Int) / 2 ^ (8 * j) % 256)] 5)) := hb.alloc hb.size _
      have hpl2 : (pre ++ [UInt8.ofNat (n / 256 ^ j)]).length ≤ 8 := by
        have := congrArg List.length hpre
        simp [beL_len] at this
        simp; omega
      obtain ⟨v', w', hr, ho', hg, _⟩ := append8 (ty := 22) (Own.alloc ho _) h1 (by simp; omega) hb1.size
      have hb2 := hb1.grown hg hb1.size (fun g hg' => (ho.lt g hg').1)
      rw [List.append_assoc] at ho'
      have hpre2 : (pre ++ [UInt8.ofNat (n / 256 ^ j)]) ++ beL j n = beL 4 n := by rw [← hpre, beL]; simp
      have Hr := Lib.hid hr
      have Ho := Lib.hid ho'
      have Hp := Lib.hid hpre2
      clear hr hg h1 hb1 hb ho ho' hpre hpre2 hi hbyte
      go_wp2_with (at_builtin; refine wpList_append_run rfl _ _ _ _ rfl rfl rfl Hr.out ?_)
      go_roundw
      case rel => exact ⟨j, _, by omega, rfl, Ho.out, Hp.out, hpl2, hb2⟩
      case measure => simp [intOf]; omega

set_option maxRecDepth 100000 in
theorem rput_ok8 (v : Value) (l : List UInt8) (n : Nat) (w : World) (hv : Sl w v (bv l)) (hlen : l.length ≤ 1099511627776) :
    Calls Try.prog 11 #[v, .int .i64 64, .int .u64 n] w fun e w' => (∃ v', e = .returned (.tuple #[v', .int .i64 0]) ∧ Own w' w.heap.size 5 v' (bv (l ++ beL 8 n))) ∧ Below w.heap.size w w' := by
  have H := Lib.hid hv
  clear hv
  go_enter Try.func11, Try.ntmps11
  go_wp2_with (first | (go_at_call 40; refine (rsized_any _ _).mono ?_; rw [show isSize 64 = true from rfl]; rintro e w1 ⟨rfl, rfl⟩) | (go_at_call 9; refine (copyBytes_any _ l _ H.out (by omega)).mono ?_; rintro r0 w1 ⟨⟨v1, rfl, ho1⟩, hb1⟩))
  
  go_loopw [8, 9] (fun o i wr => ∃ (k : Nat) (pre : List UInt8), k ≤ 8 ∧ i = .int .i64 (8 * (k : Int) - 8) ∧ Own wr w.heap.size 5 o (bv (l ++ pre)) ∧ pre ++ beL k n = beL 8 n ∧ pre.length ≤ 8 ∧ Below w.heap.size w wr) (fun _ i _ => (intOf i + 8).toNat)
  case atStart => exact ⟨8, [], by omega, rfl, by rw [List.append_nil]; exact ho1, rfl, by simp, hb1⟩
  case round =>
    clear ho1 hb1
    obtain ⟨k, pre, hk, rfl, ho, hpre, hpl, hb⟩ := hrel
    by_cases hk0 : k = 0
    · subst hk0
      rw [show beL 0 n = [] from rfl, List.append_nil] at hpre
      subst hpre
      have Ho := Lib.hid ho
      clear ho
      go_wp2
      go_ret2
      exact ⟨⟨_, rfl, Ho.out⟩, hb⟩
    · obtain ⟨j, rfl⟩ : ∃ j, k = j + 1 := ⟨k - 1, by omega⟩
      have hbyte := be_byte n j
      have hi : (8 : Int) * ((j + 1 : Nat) : Int) - 8 = 8 * (j : Int) := by omega
      rw [hi]
      have h1 := sl_lit1 wr _ _ hbyte 5
      have hb1 : Below w.heap.size w (wr.alloc (.cells #[.int .u8 ((n : Int) / 2 ^ (8 * j) % 256)] 5)) := hb.alloc hb.size _
      have hpl2 : (pre ++ [UInt8.ofNat (n / 256 ^ j)]).length ≤ 8 := by
        have := congrArg List.length hpre
        simp [beL_len] at this
        simp; omega
      obtain ⟨v', w', hr, ho', hg, _⟩ := append8 (ty := 22) (Own.alloc ho _) h1 (by simp; omega) hb1.size
      have hb2 := hb1.grown hg hb1.size (fun g hg' => (ho.lt g hg').1)
      rw [List.append_assoc] at ho'
      have hpre2 : (pre ++ [UInt8.ofNat (n / 256 ^ j)]) ++ beL j n = beL 8 n := by rw [← hpre, beL]; simp
      have Hr := Lib.hid hr
      have Ho := Lib.hid ho'
      have Hp := Lib.hid hpre2
      clear hr hg h1 hb1 hb ho ho' hpre hpre2 hi hbyte
      go_wp2_with (at_builtin; refine wpList_append_run rfl _ _ _ _ rfl rfl rfl Hr.out ?_)
      go_roundw
      case rel => exact ⟨j, _, by omega, rfl, Ho.out, Hp.out, hpl2, hb2⟩
      case measure => simp [intOf]; omega
end Go.Proofs.Ytlfccpmjlgcjpaa
