/- The layer's closed example 'works' returns true. -/
import Derived.Test.YtlfccpmjlgcjpaaReader2
import Derived.Lib.SlBytesConst
namespace Go.Proofs.Ytlfccpmjlgcjpaa
open Go.RowKit
set_option linter.unusedVariables false

/-- A literal of bytes. -/
theorem sl_lit (w : World) (cs : Array Value) (l : List UInt8) (h : cs.toList = bv l) (hl : l.length ≤ 1000) (e : TypeId) : Sl (w.alloc (.cells cs e)) (.slice (some ⟨w.heap.size, 0, none⟩) l.length l.length) (bv l) := by
  have hs : cs.size = l.length := by rw [← Array.length_toList, h, bv_length]
  have ho := World.ownsRow_lit (base := w.heap.size) (e := e) (size := 1) w cs l.length (Nat.le_refl _) (by unfold maxLen; omega) (by omega)
  rw [h] at ho
  have ho' : Own (w.alloc (.cells cs e)) w.heap.size e (.slice (some ⟨w.heap.size, 0, none⟩) l.length l.length) (bv l) := by
    show World.ownsRow _ _ _ _ _ (bv l).length _
    rw [bv_length]; exact ho
  exact ho'.sl

/-- What a reader of bytes answers, and its error. -/
theorem varintLaw_any (v : Value) (l : List UInt8) (w : World) (h : Sl w v (bv l)) (hlen : l.length ≤ 1099511627776) :
    Calls Try.prog 41 #[v] w fun e w' => e = .returned (.tuple #[.int .u64 (rdV l).1, .int .i64 (endErr (rdV l).2.1 (rdV l).2.2)]) ∧ Below w.heap.size w w' := by
  have H := Lib.hid h
  clear h
  go_enter Try.func41, Try.ntmps41
  go_wp2_with fail
  refine (read_any _ l _ H.out (by omega)).mono ?_
  rintro e w1 ⟨⟨g, rfl, hg, hr⟩, hb1⟩
  have Hr := Lib.hid hr
  clear hr
  go_wp2_with fail
  refine (rvarint_ok g l _ Hr.out).mono ?_
  rintro e w2 ⟨rfl, hr2, hu2⟩
  have Hr2 := Lib.hid hr2
  clear hr2
  go_wp2_with fail
  refine (end_any g _ _ _ Hr2.out).mono ?_
  rintro e w3 ⟨rfl, rfl⟩
  go_wp2
  go_ret2
  exact ⟨rfl, hb1.trans (hu2.below hg hb1.size)⟩

theorem put_2 (w : World) : Calls Try.prog 10 #[.slice none 0 0, .int .i64 16, .int .u64 258] w fun e w' => (∃ a c, e = .returned (.tuple #[.slice a 2 c, .int .i64 0]) ∧ Sl w' (.slice a 2 c) (bv [1, 2])) ∧ Below w.heap.size w w' := by
  refine (put_ok 2 (by decide) (.slice none 0 0) [] 258 w (by decide) (sl_nil w) (by decide)).mono ?_
  rintro e w' ⟨⟨v', rfl, ho⟩, hb⟩
  obtain ⟨a, c, rfl⟩ := ho.sl.len
  exact ⟨⟨a, c, rfl, ho.sl⟩, hb⟩

theorem conv_const (w : World) (C : Array Value) (n c : Nat) : Sem.run Try.prog (convert 22 22 (.slice (some ⟨w.heap.size, 0, none⟩) n c)) (w.alloc (.cells C 5)) =
    .ok (.slice (some ⟨w.heap.size, 0, none⟩) n c) (w.alloc (.cells C 5 (C.size, C.size + 1))) :=
  Lib.run_convert_bytes_const (P := Try.prog) w 22 5 C n c Try.underlying22 Try.underlying5
theorem conv_const1 (w : World) (o : Obj) (C : Array Value) (n c : Nat) : Sem.run Try.prog (convert 22 22 (.slice (some ⟨w.heap.size + 1, 0, none⟩) n c)) ((w.alloc o).alloc (.cells C 5)) =
    .ok (.slice (some ⟨w.heap.size + 1, 0, none⟩) n c) ((w.alloc o).alloc (.cells C 5 (C.size, C.size + 1))) := by
  have h := conv_const (w.alloc o) C n c
  simpa using h

/-- A constant text turned into bytes: its block bears a mark behind its last byte. -/
theorem sl_const (w : World) (cs : Array Value) (l : List UInt8) (h : cs.toList = bv l) (hl : l.length ≤ 1000) (e : TypeId) (fr : Nat × Nat) : Sl (w.alloc (.cells cs e fr)) (.slice (some ⟨w.heap.size, 0, none⟩) l.length l.length) (bv l) := by
  have hs : cs.size = l.length := by rw [← Array.length_toList, h, bv_length]
  refine .inl (.inr ⟨w.heap.size, 0, l.length, by rw [bv_length], by rw [bv_length]; exact Nat.le_refl _, by unfold maxLen; omega, by simp, fun j u hj => ?_⟩)
  rw [cell_of_row _ _ _ cs _ _ (heap_alloc_new w _), ← Array.getElem?_toList, h, Nat.zero_add]
  exact hj

theorem sl_lit_1 (w : World) (o : Obj) (cs : Array Value) (l : List UInt8) (h : cs.toList = bv l) (hl : l.length ≤ 1000) (e : TypeId) : Sl ((w.alloc o).alloc (.cells cs e)) (.slice (some ⟨w.heap.size + 1, 0, none⟩) l.length l.length) (bv l) := by
  have := sl_lit (w.alloc o) cs l h hl e
  simpa using this
theorem sl_const1 (w : World) (o : Obj) (cs : Array Value) (l : List UInt8) (h : cs.toList = bv l) (hl : l.length ≤ 1000) (e : TypeId) (fr : Nat × Nat) : Sl ((w.alloc o).alloc (.cells cs e fr)) (.slice (some ⟨w.heap.size + 1, 0, none⟩) l.length l.length) (bv l) := by
  have := sl_const (w.alloc o) cs l h hl e fr
  simpa using this

set_option maxHeartbeats 1000000 in
theorem works_any (w : World) : Calls Try.prog 27 #[] w fun e w' => e = .returned (.bool true) ∧ Below w.heap.size w w' := by
  have kc := conv_const1
  go_enter Try.func27, Try.ntmps27
  go_wp2_with fail
  refine (put_2 _).mono ?_
  rintro e w1 ⟨⟨a1, c1, rfl, hs1⟩, hb1⟩
  have Hs1 := Lib.hid hs1
  clear hs1
  go_wp2_with fail
  refine (put_arg _ 24 1 _ rfl).mono ?_
  rintro e w2 ⟨rfl, rfl⟩
  go_wp2_with fail
  refine (put_range 1 (by decide) _ 256 _ (by decide)).mono ?_
  rintro e w3 ⟨rfl, rfl⟩
  go_wp2_with fail
  refine (eqBytes_any _ _ [1, 2] [1, 2] _ (Hs1.out.below ((Below.refl _ _).alloc (Nat.le_refl _) _)) (sl_lit w1 _ [1, 2] rfl (by decide) _)).mono ?_
  rintro e w4 ⟨rfl, rfl⟩
  rw [show (([1, 2] : List UInt8) == [1, 2]) = true from rfl]
  go_wp2_with fail
  refine (varint_any _ [] 300 _ (sl_nil _) (by unfold U64; omega) (by decide)).mono ?_
  rintro e w5 ⟨⟨v5, rfl, ho5⟩, hb5⟩
  have hb5 := below_step (below_alloc hb1 _) hb5
  obtain ⟨a5, c5, rfl⟩ := ho5.sl.len
  have Hs5 := Lib.hid ho5.sl
  rw [show [] ++ vint 300 = [172, 2] from by decide +kernel] at Hs5
  rw [show [] ++ vint 300 = [172, 2] from by decide +kernel]
  clear ho5 hb1 Hs1
  go_wp2_with fail
  refine (eqBytes_any _ _ [172, 2] [172, 2] _ (Hs5.out.below ((Below.refl _ _).alloc (Nat.le_refl _) _)) (sl_lit w5 _ [172, 2] rfl (by decide) _)).mono ?_
  rintro e w6 ⟨rfl, rfl⟩
  rw [show (([172, 2] : List UInt8) == [172, 2]) = true from rfl]
  go_wp2_with fail
  refine (int_any _ [] (-3) _ (sl_nil _) (by unfold I64; omega) (by decide)).mono ?_
  rintro e w7 ⟨⟨v7, rfl, ho7⟩, hb7⟩
  have hb7 := below_step (below_alloc hb5 _) hb7
  obtain ⟨a7, c7, rfl⟩ := ho7.sl.len
  have Hs7 := Lib.hid ho7.sl
  rw [show [] ++ vint (zig (-3)) = [5] from by decide +kernel] at Hs7
  rw [show [] ++ vint (zig (-3)) = [5] from by decide +kernel]
  clear ho7 hb5 Hs5
  go_wp2_with fail
  refine (eqBytes_any _ _ [5] [5] _ (Hs7.out.below ((Below.refl _ _).alloc (Nat.le_refl _) _)) (sl_lit w7 _ [5] rfl (by decide) _)).mono ?_
  rintro e w8 ⟨rfl, rfl⟩
  rw [show (([5] : List UInt8) == [5]) = true from rfl]
  go_wp2_with fail
  refine (text_any _ _ [] [97, 98] _ (sl_nil _) (sl_const1 w7 _ _ [97, 98] rfl (by decide) _ _) (by decide)).mono ?_
  rintro e w9 ⟨⟨v9, rfl, ho9⟩, hb9⟩
  have hb9 := below_step (below_alloc (below_alloc hb7 _) _) hb9
  obtain ⟨a9, c9, rfl⟩ := ho9.sl.len
  have Hs9 := Lib.hid ho9.sl
  rw [show [] ++ vint ([97, 98] : List UInt8).length ++ [97, 98] = [2, 97, 98] from by decide +kernel] at Hs9
  rw [show [] ++ vint ([97, 98] : List UInt8).length ++ [97, 98] = [2, 97, 98] from by decide +kernel]
  clear ho9 hb7 Hs7
  go_wp2_with fail
  refine (eqBytes_any _ _ [2, 97, 98] [2, 97, 98] _ (Hs9.out.below ((Below.refl _ _).alloc (Nat.le_refl _) _)) (sl_lit w9 _ [2, 97, 98] rfl (by decide) _)).mono ?_
  rintro e w10 ⟨rfl, rfl⟩
  rw [show (([2, 97, 98] : List UInt8) == [2, 97, 98]) = true from rfl]
  clear Hs9
  go_wp2_with fail
  refine (varintLaw_any _ [128, 0] _ (sl_lit_1 w9 _ _ [128, 0] rfl (by decide) _) (by decide)).mono ?_
  rintro e w11 ⟨rfl, hb11⟩
  have hb11 := below_step (below_alloc (below_alloc hb9 _) _) hb11
  rw [show ((rdV [128, 0]).1 : Int) = 0 from by decide +kernel, show endErr (rdV [128, 0]).2.1 (rdV [128, 0]).2.2 = 4 from by decide +kernel]
  go_wp2_with fail
  refine (varintLaw_any _ [128] _ (sl_lit w11 _ [128] rfl (by decide) _) (by decide)).mono ?_
  rintro e w12 ⟨rfl, hb12⟩
  have hb12 := below_step (below_alloc hb11 _) hb12
  rw [show ((rdV [128]).1 : Int) = 0 from by decide +kernel, show endErr (rdV [128]).2.1 (rdV [128]).2.2 = 3 from by decide +kernel]
  go_wp2_with fail
  refine (varintLaw_any _ [255, 255, 255, 255, 255, 255, 255, 255, 255, 255] _ (sl_lit w12 _ [255, 255, 255, 255, 255, 255, 255, 255, 255, 255] rfl (by decide) _) (by decide)).mono ?_
  rintro e w13 ⟨rfl, hb13⟩
  have hb13 := below_step (below_alloc hb12 _) hb13
  rw [show ((rdV [255, 255, 255, 255, 255, 255, 255, 255, 255, 255]).1 : Int) = 0 from by decide +kernel, show endErr (rdV [255, 255, 255, 255, 255, 255, 255, 255, 255, 255]).2.1 (rdV [255, 255, 255, 255, 255, 255, 255, 255, 255, 255]).2.2 = 9 from by decide +kernel]
  go_wp2_with fail
  refine (rotate_any 1 (-1) _ (by unfold U64; omega) (by unfold I64; omega)).mono ?_
  rintro e w14 ⟨rfl, rfl⟩
  rw [show rot 1 (-1) = 9223372036854775808 from by decide +kernel]
  go_wp2_with fail
  refine (rotate_any 9223372036854775808 1 _ (by unfold U64; omega) (by unfold I64; omega)).mono ?_
  rintro e w15 ⟨rfl, rfl⟩
  rw [show rot 9223372036854775808 1 = 1 from by decide +kernel]
  go_wp2_with fail
  refine (reverse_any 6 4 _ (by unfold U64; omega)).mono ?_
  rintro e w15 ⟨rfl, rfl⟩
  rw [show rev 6 4 = 6 from by decide +kernel]
  go_wp2_with fail
  refine (zig_any (-2) _ (by unfold I64; omega)).mono ?_
  rintro e w15 ⟨rfl, rfl⟩
  rw [show zig (-2) = 3 from by decide +kernel]
  go_wp2
  go_ret
  exact ⟨rfl, hb13⟩
end Go.Proofs.Ytlfccpmjlgcjpaa
