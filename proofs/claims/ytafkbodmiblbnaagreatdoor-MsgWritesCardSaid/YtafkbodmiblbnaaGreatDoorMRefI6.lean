/- The document's own item: Bytes, BytesRes. -/
import Derived.Test.YtafkbodmiblbnaaGreatDoorMRefI3
import Derived.Test.YtafkbodmiblbnaaGreatDoorMZ12
import Derived.Test.YtafkbodmiblbnaaGreatDoorMZ13
import Derived.Test.YtafkbodmiblbnaaGreatDoorMZ14
namespace Go.Proofs.YtafkbodmiblbnaaGreatDoor
open Go.RowKit
set_option linter.unusedVariables false
set_option linter.unusedSimpArgs false
theorem rtext_conv {w0 w : World} {L : List Thing} (v : Value) (l : List UInt8) (s : KS) (b c n : Nat) (hn : s.1.size = n) (h : Sep w0 (By v l :: L) w) (hx : Sl w (.slice (some ⟨b, 0, none⟩) n c) (bv s.1.data.toList)) (hl : l.length ≤ 1000000) (hs : n ≤ 1000000) :
    Calls Tryz.prog 42 #[v, .slice (some ⟨b, 0, none⟩) n c] w fun e w' => ∃ v', e = .returned v' ∧ Sep w0 (By v' (l ++ txtB s) :: L) w' := by
  subst hn
  have hsz : s.1.data.toList.length = s.1.size := rfl
  refine (rtext_ref v _ l s.1.data.toList w h.sl hx (by rw [hsz]; omega)).mono ?_
  rintro e w' ⟨⟨v', rfl, h1⟩, hb⟩
  rw [hsz] at h1
  exact ⟨v', rfl, by unfold txtB; rw [← List.append_assoc]; exact h.drop.row hb h1⟩
theorem rvint_conv {w0 w : World} {L : List Thing} (v : Value) (l : List UInt8) (n : Int) (h : Sep w0 (By v l :: L) w) (hn : 0 ≤ n) (hn2 : n ≤ 9007199254740991) (hl : l.length ≤ 1000000) :
    Calls Tryz.prog 44 #[v, .int .u64 n] w fun e w' => ∃ v', e = .returned v' ∧ Sep w0 (By v' (l ++ vint n.toNat) :: L) w' := by
  obtain ⟨u, rfl⟩ : ∃ u : Nat, n = u := ⟨n.toNat, by omega⟩
  exact (rvarint_ref v l u w h.sl (by unfold U64; omega) (by omega)).mono fun e w' ⟨⟨v', he, ho⟩, hb⟩ => ⟨v', he, h.drop.row hb ho⟩
theorem rint_conv {w0 w : World} {L : List Thing} (v : Value) (l : List UInt8) (n : Int) (h : Sep w0 (By v l :: L) w) (hn : I64 n) (hl : l.length ≤ 1000000) :
    Calls Tryz.prog 120 #[v, .int .i64 n] w fun e w' => ∃ v', e = .returned v' ∧ Sep w0 (By v' (l ++ vint (zig n)) :: L) w' :=
  (rint_ref v l n w h.sl hn (by omega)).mono fun e w' ⟨⟨v', he, ho⟩, hb⟩ => ⟨v', he, h.drop.row hb ho⟩
/-- What Bytes answers. -/
def BysP (w0 : World) (L : List Thing) (r : List UInt8) (e : Ending) (w' : World) : Prop := ∃ u, e = .returned (.tuple #[u, .int .i64 0]) ∧ Sep w0 (By u r :: L) w'
set_option maxRecDepth 100000 in
set_option maxHeartbeats 16000000 in
theorem rbytes_5 {w : World} (k : Int) (sku : KS) (ord n : Int) (v : Value) (ls : List Ln) (hv : LnS w v ls) (hk : KindIs k true true false false true false) (hb : okB k sku ord n ls = true) (hf : fieldsOf k = 5) :
    Calls Tryz.prog 85 #[.agg #[.int .i64 k, .string sku.1, .int .i64 ord, .int .i64 n, v]] w (BysP w [] (opBs k sku ord n ls)) := by
  obtain ⟨k1, k9⟩ := fields_ne (by rw [hf]; decide : fieldsOf k ≠ 0)
  have hOB : opBs k sku ord n ls = [UInt8.ofNat k.toNat] ++ txtB sku ++ vint n.toNat ∧ (sku.1.size ≤ 8) ∧ (True) ∧ (0 ≤ n ∧ n ≤ 2147483647) ∧ (ls = []) := by
    obtain ⟨_, hp⟩ := ok_parts hb
    rcases hp with ⟨e, h1, h2, h3, h4⟩ | ⟨e, h1, h2, h3, h4⟩ | ⟨e, h1, h2, h3, h4⟩ | ⟨e, h1, h2, h3, h4⟩ | ⟨e, h1, h2, h3, h4⟩ | ⟨e, h1, h2, h3, h4⟩
    any_goals (exfalso; omega)
    have a := name_of h1
    skip
    have d := qty_of h3
    rw [h4]
    unfold opBs cntBs
    rw [hf]
    exact ⟨by simp, a.2, trivial, by omega, rfl⟩
  obtain ⟨hr, hs1, hs2, hs3, hs4⟩ := hOB
  subst hs4
  obtain ⟨r, hrr⟩ : ∃ r, r = opBs k sku ord n ([] : List Ln) := ⟨_, rfl⟩
  rw [← hrr]
  have HRR := Lib.hid (hrr.trans hr)
  clear hrr hr
  have R1 := Lib.hid hs1
  have R2 := Lib.hid hs2
  have R3 := Lib.hid hs3
  have HLL := Lib.hid (show ([] : List Ln).length ≤ 4 from ok_len hb)
  clear hs1 hs2 hs3 
  obtain ⟨a, c, rfl⟩ := hv.len
  rw [List.length_nil] at hv ⊢
  have h1 := (Sep.start w).alloc (.cells (opCells k sku ord n (.slice a 0 c)) 24)
  have hc := rcheck_any k sku ord n _ ([] : List Ln) h1 (hv.below h1.low) (by have := HLL.out; omega)
  rw [hb] at hc
  obtain ⟨c0, c1, c2, c3, c4⟩ := op_cells h1
  have HC := Lib.hid hc
  have HS := Lib.hid (fun wx => hasSku_any k wx)
  have HO := Lib.hid (fun wx => hasOrder_any k wx)
  have HN := Lib.hid (fun wx => hasN_any k wx)
  rw [hk.sk] at HS
  rw [hk.od] at HO
  rw [hk.nu] at HN
  have had := hk.ad
  have hre := hk.re
  have HV := Lib.hid hv
  obtain ⟨b1, hb1⟩ : ∃ z, z = w.heap.size := ⟨_, rfl⟩
  rw [← hb1] at HC
  unfold opCells at HC c0 c1 c2 c3 c4
  clear h1 hv hk hb hc hf
  go_enter Tryz.func85, Tryz.ntmps85
  go_wp2_with fail
  rw [← hb1]
  clear hb1
  refine HC.out.mono ?_
  rintro r0 w1 ⟨rfl, h2⟩
  clear c0 c1 c2 c3 c4 HC
  obtain ⟨c0, c1, c2, c3, c4⟩ := cells5 h2
  have h3 := h2.alloc (.cells #[.int .u8 k] 5)
  have h4 : Sep w (By (.slice (some ⟨w1.heap.size, 0, none⟩) 1 1) [UInt8.ofNat k.toNat] :: [Cl b1 #[.int .i64 k, .string sku.1, .int .i64 ord, .int .i64 n, .slice a 0 c] 24]) (w1.alloc (.cells #[.int .u8 k] 5)) := by
    have := h3.asRow 1 rfl (by unfold maxLen; omega)
    rwa [byte1 (by omega) k9] at this
  obtain ⟨d0, d1, d2, d3, d4⟩ := cells5 h3.sw2
  have zl : Hid ((vint ord.toNat).length ≤ 10 ∧ (vint n.toNat).length ≤ 10 ∧ (vint ([] : List Ln).length).length ≤ 10 ∧ (vint (zig n)).length ≤ 10 ∧ (vint sku.1.size).length ≤ 10 ∧ sku.1.data.toList.length = sku.1.size) := Lib.hid ⟨vint_len _, vint_len _, vint_len _, vint_len _, vint_len _, rfl⟩
  clear h2 h3
  obtain ⟨b2, cb, wc, hcv, hbl, hsl⟩ := conv_str (w1.alloc (.cells #[.int .u8 k] 5)) sku.1 sku.2
  have h5 := h4.below hbl
  clear h4
  have HT := Lib.hid (rtext_conv _ _ sku b2 cb sku.1.size rfl h5 hsl (by simp) (by have := R1.out; omega))
  clear h5 hbl hsl
  go_wp2_with (first | ((with_reducible refine (HS.out _).mono ?_); rintro r9 w9 ⟨rfl, rfl⟩) | ((with_reducible refine (HO.out _).mono ?_); rintro r9 w9 ⟨rfl, rfl⟩) | ((with_reducible refine (HN.out _).mono ?_); rintro r9 w9 ⟨rfl, rfl⟩))
  refine HT.out.mono ?_
  rintro r0 w2 ⟨u2, rfl, hx⟩
  clear HT
  try clear d0 d1 d2 d3 d4
  try clear hcv
  clear c0 c1 c2 c3 c4
  obtain ⟨c0, c1, c2, c3, c4⟩ := cells5 hx.sw2
  have hy2 := hx
  clear hx
  have n0 : 0 ≤ n := R3.out.1
  have n1 : n ≤ 2147483647 := R3.out.2
  have HT := Lib.hid (rvint_conv _ _ n hy2 (by have := R3.out; omega) (by have := R3.out; omega) (by simp only [txtB, List.length_append, List.length_singleton]; have := zl.out; have := R1.out; omega))
  clear hy2
  go_wp2_with (first | ((with_reducible refine (HS.out _).mono ?_); rintro r9 w9 ⟨rfl, rfl⟩) | ((with_reducible refine (HO.out _).mono ?_); rintro r9 w9 ⟨rfl, rfl⟩) | ((with_reducible refine (HN.out _).mono ?_); rintro r9 w9 ⟨rfl, rfl⟩))
  refine HT.out.mono ?_
  rintro r0 w3 ⟨u3, rfl, hx⟩
  clear HT
  try clear d0 d1 d2 d3 d4
  try clear hcv
  clear c0 c1 c2 c3 c4
  obtain ⟨c0, c1, c2, c3, c4⟩ := cells5 hx.sw2
  have hy3 := hx
  clear hx
  have HE := Lib.hid (Sep.drop (Sep.sw2 hy3))
  clear hy3
  go_wp2_with (first | ((with_reducible refine (HS.out _).mono ?_); rintro r9 w9 ⟨rfl, rfl⟩) | ((with_reducible refine (HO.out _).mono ?_); rintro r9 w9 ⟨rfl, rfl⟩) | ((with_reducible refine (HN.out _).mono ?_); rintro r9 w9 ⟨rfl, rfl⟩))
  go_loopw [5, 6] (fun b' i wr => i = .int .i64 0 ∧ b' = u3 ∧ wr = w3) (fun _ _ _ => 0)
  case atStart => exact ⟨rfl, rfl, rfl⟩
  case round =>
    obtain ⟨rfl, rfl, rfl⟩ := hrel
    go_wp2_with fail
    go_ret2
    rw [HRR.out]
    exact ⟨_, rfl, HE.out⟩
set_option maxRecDepth 100000 in
set_option maxHeartbeats 16000000 in
theorem rbytes_9 {w : World} (k : Int) (sku : KS) (ord n : Int) (v : Value) (ls : List Ln) (hv : LnS w v ls) (hk : KindIs k true true false true true false) (hb : okB k sku ord n ls = true) (hf : fieldsOf k = 9) :
    Calls Tryz.prog 85 #[.agg #[.int .i64 k, .string sku.1, .int .i64 ord, .int .i64 n, v]] w (BysP w [] (opBs k sku ord n ls)) := by
  obtain ⟨k1, k9⟩ := fields_ne (by rw [hf]; decide : fieldsOf k ≠ 0)
  have hOB : opBs k sku ord n ls = [UInt8.ofNat k.toNat] ++ txtB sku ++ vint (zig n) ∧ (sku.1.size ≤ 8) ∧ (True) ∧ (-2147483647 ≤ n ∧ n ≤ 2147483647) ∧ (ls = []) := by
    obtain ⟨_, hp⟩ := ok_parts hb
    rcases hp with ⟨e, h1, h2, h3, h4⟩ | ⟨e, h1, h2, h3, h4⟩ | ⟨e, h1, h2, h3, h4⟩ | ⟨e, h1, h2, h3, h4⟩ | ⟨e, h1, h2, h3, h4⟩ | ⟨e, h1, h2, h3, h4⟩
    any_goals (exfalso; omega)
    have a := name_of h1
    skip
    have d := chg_of h3
    rw [h4]
    unfold opBs cntBs
    rw [hf]
    exact ⟨by simp, a.2, trivial, by omega, rfl⟩
  obtain ⟨hr, hs1, hs2, hs3, hs4⟩ := hOB
  subst hs4
  obtain ⟨r, hrr⟩ : ∃ r, r = opBs k sku ord n ([] : List Ln) := ⟨_, rfl⟩
  rw [← hrr]
  have HRR := Lib.hid (hrr.trans hr)
  clear hrr hr
  have R1 := Lib.hid hs1
  have R2 := Lib.hid hs2
  have R3 := Lib.hid hs3
  have HLL := Lib.hid (show ([] : List Ln).length ≤ 4 from ok_len hb)
  clear hs1 hs2 hs3 
  obtain ⟨a, c, rfl⟩ := hv.len
  rw [List.length_nil] at hv ⊢
  have h1 := (Sep.start w).alloc (.cells (opCells k sku ord n (.slice a 0 c)) 24)
  have hc := rcheck_any k sku ord n _ ([] : List Ln) h1 (hv.below h1.low) (by have := HLL.out; omega)
  rw [hb] at hc
  obtain ⟨c0, c1, c2, c3, c4⟩ := op_cells h1
  have HC := Lib.hid hc
  have HS := Lib.hid (fun wx => hasSku_any k wx)
  have HO := Lib.hid (fun wx => hasOrder_any k wx)
  have HN := Lib.hid (fun wx => hasN_any k wx)
  rw [hk.sk] at HS
  rw [hk.od] at HO
  rw [hk.nu] at HN
  have had := hk.ad
  have hre := hk.re
  have HV := Lib.hid hv
  obtain ⟨b1, hb1⟩ : ∃ z, z = w.heap.size := ⟨_, rfl⟩
  rw [← hb1] at HC
  unfold opCells at HC c0 c1 c2 c3 c4
  clear h1 hv hk hb hc hf
  go_enter Tryz.func85, Tryz.ntmps85
  go_wp2_with fail
  rw [← hb1]
  clear hb1
  refine HC.out.mono ?_
  rintro r0 w1 ⟨rfl, h2⟩
  clear c0 c1 c2 c3 c4 HC
  obtain ⟨c0, c1, c2, c3, c4⟩ := cells5 h2
  have h3 := h2.alloc (.cells #[.int .u8 k] 5)
  have h4 : Sep w (By (.slice (some ⟨w1.heap.size, 0, none⟩) 1 1) [UInt8.ofNat k.toNat] :: [Cl b1 #[.int .i64 k, .string sku.1, .int .i64 ord, .int .i64 n, .slice a 0 c] 24]) (w1.alloc (.cells #[.int .u8 k] 5)) := by
    have := h3.asRow 1 rfl (by unfold maxLen; omega)
    rwa [byte1 (by omega) k9] at this
  obtain ⟨d0, d1, d2, d3, d4⟩ := cells5 h3.sw2
  have zl : Hid ((vint ord.toNat).length ≤ 10 ∧ (vint n.toNat).length ≤ 10 ∧ (vint ([] : List Ln).length).length ≤ 10 ∧ (vint (zig n)).length ≤ 10 ∧ (vint sku.1.size).length ≤ 10 ∧ sku.1.data.toList.length = sku.1.size) := Lib.hid ⟨vint_len _, vint_len _, vint_len _, vint_len _, vint_len _, rfl⟩
  clear h2 h3
  obtain ⟨b2, cb, wc, hcv, hbl, hsl⟩ := conv_str (w1.alloc (.cells #[.int .u8 k] 5)) sku.1 sku.2
  have h5 := h4.below hbl
  clear h4
  have HT := Lib.hid (rtext_conv _ _ sku b2 cb sku.1.size rfl h5 hsl (by simp) (by have := R1.out; omega))
  clear h5 hbl hsl
  go_wp2_with (first | ((with_reducible refine (HS.out _).mono ?_); rintro r9 w9 ⟨rfl, rfl⟩) | ((with_reducible refine (HO.out _).mono ?_); rintro r9 w9 ⟨rfl, rfl⟩) | ((with_reducible refine (HN.out _).mono ?_); rintro r9 w9 ⟨rfl, rfl⟩))
  refine HT.out.mono ?_
  rintro r0 w2 ⟨u2, rfl, hx⟩
  clear HT
  try clear d0 d1 d2 d3 d4
  try clear hcv
  clear c0 c1 c2 c3 c4
  obtain ⟨c0, c1, c2, c3, c4⟩ := cells5 hx.sw2
  have hy2 := hx
  clear hx
  have HT := Lib.hid (rint_conv _ _ n hy2 (by have := R3.out; unfold I64; omega) (by simp only [txtB, List.length_append, List.length_singleton]; have := zl.out; have := R1.out; omega))
  clear hy2
  go_wp2_with (first | ((with_reducible refine (HS.out _).mono ?_); rintro r9 w9 ⟨rfl, rfl⟩) | ((with_reducible refine (HO.out _).mono ?_); rintro r9 w9 ⟨rfl, rfl⟩) | ((with_reducible refine (HN.out _).mono ?_); rintro r9 w9 ⟨rfl, rfl⟩))
  refine HT.out.mono ?_
  rintro r0 w3 ⟨u3, rfl, hx⟩
  clear HT
  try clear d0 d1 d2 d3 d4
  try clear hcv
  clear c0 c1 c2 c3 c4
  obtain ⟨c0, c1, c2, c3, c4⟩ := cells5 hx.sw2
  have hy3 := hx
  clear hx
  have HE := Lib.hid (Sep.drop (Sep.sw2 hy3))
  clear hy3
  go_wp2_with (first | ((with_reducible refine (HS.out _).mono ?_); rintro r9 w9 ⟨rfl, rfl⟩) | ((with_reducible refine (HO.out _).mono ?_); rintro r9 w9 ⟨rfl, rfl⟩) | ((with_reducible refine (HN.out _).mono ?_); rintro r9 w9 ⟨rfl, rfl⟩))
  go_loopw [5, 6] (fun b' i wr => i = .int .i64 0 ∧ b' = u3 ∧ wr = w3) (fun _ _ _ => 0)
  case atStart => exact ⟨rfl, rfl, rfl⟩
  case round =>
    obtain ⟨rfl, rfl, rfl⟩ := hrel
    go_wp2_with fail
    go_ret2
    rw [HRR.out]
    exact ⟨_, rfl, HE.out⟩
set_option maxRecDepth 100000 in
set_option maxHeartbeats 16000000 in
theorem rbytes_22 {w : World} (k : Int) (sku : KS) (ord n : Int) (v : Value) (ls : List Ln) (hv : LnS w v ls) (hk : KindIs k true false true false true true) (hb : okB k sku ord n ls = true) (hf : fieldsOf k = 22) :
    Calls Tryz.prog 85 #[.agg #[.int .i64 k, .string sku.1, .int .i64 ord, .int .i64 n, v]] w (BysP w [] (opBs k sku ord n ls)) := by
  obtain ⟨k1, k9⟩ := fields_ne (by rw [hf]; decide : fieldsOf k ≠ 0)
  have hOB : opBs k sku ord n ls = [UInt8.ofNat k.toNat] ++ vint ord.toNat ++ vint n.toNat ++ vint ls.length ++ ls.flatMap lineBs ∧ (True) ∧ (0 ≤ ord ∧ ord ≤ 2147483647) ∧ (0 ≤ n ∧ n ≤ 2147483647) ∧ (linesB ls = true) := by
    obtain ⟨_, hp⟩ := ok_parts hb
    rcases hp with ⟨e, h1, h2, h3, h4⟩ | ⟨e, h1, h2, h3, h4⟩ | ⟨e, h1, h2, h3, h4⟩ | ⟨e, h1, h2, h3, h4⟩ | ⟨e, h1, h2, h3, h4⟩ | ⟨e, h1, h2, h3, h4⟩
    any_goals (exfalso; omega)
    skip
    have b := qty_of h2
    have d := qty_of h3
    unfold opBs cntBs
    rw [hf]
    exact ⟨by simp, trivial, by omega, by omega, h4⟩
  obtain ⟨hr, hs1, hs2, hs3, hs4⟩ := hOB
  obtain ⟨r, hrr⟩ : ∃ r, r = opBs k sku ord n ls := ⟨_, rfl⟩
  rw [← hrr]
  have HRR := Lib.hid (hrr.trans hr)
  clear hrr hr
  have R1 := Lib.hid hs1
  have R2 := Lib.hid hs2
  have R3 := Lib.hid hs3
  have HL := Lib.hid (lines_spec hs4)
  have HLL := Lib.hid (show ls.length ≤ 4 from ok_len hb)
  clear hs1 hs2 hs3 hs4
  obtain ⟨a, c, rfl⟩ := hv.len
  have h1 := (Sep.start w).alloc (.cells (opCells k sku ord n (.slice a ls.length c)) 24)
  have hc := rcheck_any k sku ord n _ ls h1 (hv.below h1.low) (by have := HLL.out; omega)
  rw [hb] at hc
  obtain ⟨c0, c1, c2, c3, c4⟩ := op_cells h1
  have HC := Lib.hid hc
  have HS := Lib.hid (fun wx => hasSku_any k wx)
  have HO := Lib.hid (fun wx => hasOrder_any k wx)
  have HN := Lib.hid (fun wx => hasN_any k wx)
  rw [hk.sk] at HS
  rw [hk.od] at HO
  rw [hk.nu] at HN
  have had := hk.ad
  have hre := hk.re
  have HV := Lib.hid hv
  obtain ⟨b1, hb1⟩ : ∃ z, z = w.heap.size := ⟨_, rfl⟩
  rw [← hb1] at HC
  unfold opCells at HC c0 c1 c2 c3 c4
  clear h1 hv hk hb hc hf
  go_enter Tryz.func85, Tryz.ntmps85
  go_wp2_with fail
  rw [← hb1]
  clear hb1
  refine HC.out.mono ?_
  rintro r0 w1 ⟨rfl, h2⟩
  clear c0 c1 c2 c3 c4 HC
  obtain ⟨c0, c1, c2, c3, c4⟩ := cells5 h2
  have h3 := h2.alloc (.cells #[.int .u8 k] 5)
  have h4 : Sep w (By (.slice (some ⟨w1.heap.size, 0, none⟩) 1 1) [UInt8.ofNat k.toNat] :: [Cl b1 #[.int .i64 k, .string sku.1, .int .i64 ord, .int .i64 n, .slice a ls.length c] 24]) (w1.alloc (.cells #[.int .u8 k] 5)) := by
    have := h3.asRow 1 rfl (by unfold maxLen; omega)
    rwa [byte1 (by omega) k9] at this
  obtain ⟨d0, d1, d2, d3, d4⟩ := cells5 h3.sw2
  have zl : Hid ((vint ord.toNat).length ≤ 10 ∧ (vint n.toNat).length ≤ 10 ∧ (vint ls.length).length ≤ 10 ∧ (vint (zig n)).length ≤ 10 ∧ (vint sku.1.size).length ≤ 10 ∧ sku.1.data.toList.length = sku.1.size) := Lib.hid ⟨vint_len _, vint_len _, vint_len _, vint_len _, vint_len _, rfl⟩
  clear h2 h3
  have o0 : 0 ≤ ord := R2.out.1
  have o1 : ord ≤ 2147483647 := R2.out.2
  have HT := Lib.hid (rvint_conv _ _ ord h4 (by have := R2.out; omega) (by have := R2.out; omega) (by simp only [txtB, List.length_append, List.length_singleton]; have := zl.out; have := R1.out; omega))
  clear h4
  go_wp2_with (first | ((with_reducible refine (HS.out _).mono ?_); rintro r9 w9 ⟨rfl, rfl⟩) | ((with_reducible refine (HO.out _).mono ?_); rintro r9 w9 ⟨rfl, rfl⟩) | ((with_reducible refine (HN.out _).mono ?_); rintro r9 w9 ⟨rfl, rfl⟩))
  refine HT.out.mono ?_
  rintro r0 w2 ⟨u2, rfl, hx⟩
  clear HT
  try clear d0 d1 d2 d3 d4
  try clear hcv
  clear c0 c1 c2 c3 c4
  obtain ⟨c0, c1, c2, c3, c4⟩ := cells5 hx.sw2
  have hy2 := hx
  clear hx
  have n0 : 0 ≤ n := R3.out.1
  have n1 : n ≤ 2147483647 := R3.out.2
  have HT := Lib.hid (rvint_conv _ _ n hy2 (by have := R3.out; omega) (by have := R3.out; omega) (by simp only [txtB, List.length_append, List.length_singleton]; have := zl.out; have := R1.out; omega))
  clear hy2
  go_wp2_with (first | ((with_reducible refine (HS.out _).mono ?_); rintro r9 w9 ⟨rfl, rfl⟩) | ((with_reducible refine (HO.out _).mono ?_); rintro r9 w9 ⟨rfl, rfl⟩) | ((with_reducible refine (HN.out _).mono ?_); rintro r9 w9 ⟨rfl, rfl⟩))
  refine HT.out.mono ?_
  rintro r0 w3 ⟨u3, rfl, hx⟩
  clear HT
  try clear d0 d1 d2 d3 d4
  try clear hcv
  clear c0 c1 c2 c3 c4
  obtain ⟨c0, c1, c2, c3, c4⟩ := cells5 hx.sw2
  have hy3 := hx
  clear hx
  have l0 : 0 ≤ (ls.length : Int) := by omega
  have l1 : (ls.length : Int) ≤ 4 := by have := HLL.out; omega
  have HT := Lib.hid (rvint_conv _ _ (ls.length : Int) hy3 (by omega) (by have := HLL.out; omega) (by simp only [txtB, List.length_append, List.length_singleton]; have := zl.out; have := R1.out; omega))
  clear hy3
  go_wp2_with (first | ((with_reducible refine (HS.out _).mono ?_); rintro r9 w9 ⟨rfl, rfl⟩) | ((with_reducible refine (HO.out _).mono ?_); rintro r9 w9 ⟨rfl, rfl⟩) | ((with_reducible refine (HN.out _).mono ?_); rintro r9 w9 ⟨rfl, rfl⟩))
  refine HT.out.mono ?_
  rintro r0 w4 ⟨u4, rfl, hx⟩
  clear HT
  try clear d0 d1 d2 d3 d4
  try clear hcv
  clear c0 c1 c2 c3 c4
  obtain ⟨c0, c1, c2, c3, c4⟩ := cells5 hx.sw2
  have hy4 := hx
  clear hx
  rw [Int.toNat_natCast] at hy4
  have hpl : ([UInt8.ofNat k.toNat] ++ vint ord.toNat ++ vint n.toNat ++ vint ls.length).length ≤ 31 := by simp only [List.length_append, List.length_singleton]; have := zl.out; omega
  generalize [UInt8.ofNat k.toNat] ++ vint ord.toNat ++ vint n.toNat ++ vint ls.length = pre at *
  have HP := Lib.hid hpl
  have H8 := Lib.hid hy4
  clear hy4 hpl zl
  go_wp2_with (first | ((with_reducible refine (HS.out _).mono ?_); rintro r9 w9 ⟨rfl, rfl⟩) | ((with_reducible refine (HO.out _).mono ?_); rintro r9 w9 ⟨rfl, rfl⟩) | ((with_reducible refine (HN.out _).mono ?_); rintro r9 w9 ⟨rfl, rfl⟩))
  go_loopw [5, 6] (fun b' i wr => ∃ (j : Nat) (u' : Value), j ≤ ls.length ∧ i = .int .i64 j ∧ u' = b' ∧ Sep w (By u' (pre ++ (ls.take j).flatMap lineBs) :: [Cl b1 #[.int .i64 k, .string sku.1, .int .i64 ord, .int .i64 n, .slice a ls.length c] 24]) wr) (fun _ i _ => ls.length - (intOf i).toNat)
  case atStart => exact ⟨0, _, by omega, rfl, rfl, by simpa using H8.out⟩
  case round =>
    obtain ⟨j, u', hj, rfl, rfl, hs⟩ := hrel
    clear H8 c0 c1 c2 c3 c4
    obtain ⟨c0, c1, c2, c3, c4⟩ := cells5 hs.sw2
    have j0 : (0 : Int) ≤ (j : Int) := by omega
    have j9 : (j : Int) ≤ 4 := by have := HL.out.2.1; omega
    by_cases hjl : j < ls.length
    · have hd : decide (j < ls.length) = true := decide_eq_true hjl
      have jl : (j : Int) < (ls.length : Int) := by omega
      obtain ⟨-, -, -, bl, off, rfl, hbl, hcell⟩ := HV.out.at hjl
      have hlb : lineB ls[j] = true := (List.all_eq_true.1 HL.out.2.2) _ (List.getElem_mem hjl)
      have hlen : (pre ++ (ls.take j).flatMap lineBs).length ≤ 300 := by
        have h1 := flat_len (ls := ls.take j) (by
          rw [List.all_eq_true]
          exact fun l hl => (List.all_eq_true.1 HL.out.2.2) l (List.mem_of_mem_take hl))
        have h2 : (ls.take j).length ≤ j := List.length_take_le _ _
        have h3 := HP.out
        have h4 := HL.out.2.1
        rw [List.length_append]
        omega
      have hstep : pre ++ (ls.take (j + 1)).flatMap lineBs = pre ++ (ls.take j).flatMap lineBs ++ txtB ls[j].1 ++ vint ls[j].2.toNat := by
        rw [List.take_succ_eq_append_getElem hjl, List.flatMap_append]
        simp [lineBs]
      have hs8 : ls[j].1.1.size ≤ 8 := by simp [lineB, nameB] at hlb; exact hlb.1.1.2
      have hq0 : 0 ≤ ls[j].2 := by simp [lineB, qtyB] at hlb; omega
      have hq1 : ls[j].2 ≤ 9007199254740991 := by simp [lineB, qtyB] at hlb; omega
      have HST := Lib.hid hstep
      have HCE := Lib.hid hcell
      clear hcell hstep hlb
      generalize pre ++ (ls.take j).flatMap lineBs = now at *
      generalize ls[j] = ln at *
      clear hjl
      obtain ⟨e0, e1⟩ := HCE.out wr hs.low
      obtain ⟨b2, cb, w2', hcv', hbl2, hsl⟩ := conv_str wr.drew ln.1.1 ln.1.2
      have hcv := Lib.hid hcv'
      have h10 := hs.drew.below hbl2
      obtain ⟨q0, q1⟩ := HCE.out w2' h10.low
      have q4 := (cells5 h10.sw2).2.2.2.2
      have HT := Lib.hid (rtext_conv _ _ ln.1 b2 cb ln.1.1.size rfl h10 hsl (by omega) (by omega))
      have HNL : Hid (now.length ≤ 300 ∧ (vint ln.1.1.size).length ≤ 10 ∧ ln.1.1.size ≤ 8) := Lib.hid ⟨hlen, vint_len _, hs8⟩
      have hwr : IntKind.u64.wrap ln.2 = ln.2 := by rw [IntKind.wrap_u64]; omega
      clear hs h10 hsl hbl2 hlen hs8 hcv'
      go_wp2_with fail
      refine wp_region_G (fun w' => w'.cell? ⟨b1, 4, none⟩ = some (.slice (some ⟨bl, off, none⟩) ls.length c) ∧ w'.cell? ⟨bl, off + j * 2, none⟩ = some (.string ln.1.1) ∧ w'.cell? ⟨bl, off + j * 2 + 1, none⟩ = some (.int .i64 ln.2)) [] (by kernel_rfl) ⟨c4, e0, e1⟩ (fun hS => ?_)
      try dsimp only at hS
      refine wpAnyG_take' (i := 0) (v := ?v0_1) rfl (by kernel_rfl) (by kernel_rfl) (by kernel_rfl) (by kernel_rfl) (fun _ _ _ h => h) (Or.inl ⟨by rfl, ?hy0_1⟩) hS ?rest0_1
      case hy0_1 => intro w hSw; (try dsimp only at hSw); go_simp; (try with_reducible rfl)
      case rest0_1 =>
      try simp only [Act.put, List.setIfInBounds_toArray, List.set_cons_zero, List.set_cons_succ]
      refine wpAnyG_take' (i := 1) (v := ?v1_2) rfl (by kernel_rfl) (by kernel_rfl) (by kernel_rfl) (by kernel_rfl) (fun _ _ _ h => h) (Or.inl ⟨by rfl, ?hy1_2⟩) hS ?rest1_2
      case hy1_2 => intro w hSw; (try dsimp only at hSw); go_simp; (try with_reducible rfl)
      case rest1_2 =>
      try simp only [Act.put, List.setIfInBounds_toArray, List.set_cons_zero, List.set_cons_succ]
      refine wpAnyG_take' (i := 2) (v := ?v2_3) rfl (by kernel_rfl) (by kernel_rfl) (by kernel_rfl) (by kernel_rfl) (fun _ _ _ h => h) (Or.inl ⟨by rfl, ?hy2_3⟩) hS ?rest2_3
      case hy2_3 => intro w hSw; (try dsimp only at hSw); go_simp; (try with_reducible rfl)
      case rest2_3 =>
      try simp only [Act.put, List.setIfInBounds_toArray, List.set_cons_zero, List.set_cons_succ]
      refine wpAnyG_take' (i := 3) (v := ?v3_4) rfl (by kernel_rfl) (by kernel_rfl) (by kernel_rfl) (by kernel_rfl) (fun _ _ _ h => h) (Or.inl ⟨by rfl, ?hy3_4⟩) hS ?rest3_4
      case hy3_4 => intro w hSw; (try dsimp only at hSw); go_simp; (try with_reducible rfl)
      case rest3_4 =>
      try simp only [Act.put, List.setIfInBounds_toArray, List.set_cons_zero, List.set_cons_succ]
      refine wpAnyG_take' (i := 4) (v := ?v4_5) rfl (by kernel_rfl) (by kernel_rfl) (by kernel_rfl) (by kernel_rfl) (fun _ _ _ h => h) (Or.inl ⟨by rfl, ?hy4_5⟩) hS ?rest4_5
      case hy4_5 => intro w hSw; (try dsimp only at hSw); go_simp; (try with_reducible rfl)
      case rest4_5 =>
      try simp only [Act.put, List.setIfInBounds_toArray, List.set_cons_zero, List.set_cons_succ]
      refine wpAnyG_take' (i := 5) (v := ?v5_6) rfl (by kernel_rfl) (by kernel_rfl) (by kernel_rfl) (by kernel_rfl) (fun _ _ _ h => h) (Or.inl ⟨by rfl, ?hy5_6⟩) hS ?rest5_6
      case hy5_6 => intro w hSw; (try dsimp only at hSw); go_simp; (try with_reducible rfl)
      case rest5_6 =>
      try simp only [Act.put, List.setIfInBounds_toArray, List.set_cons_zero, List.set_cons_succ]
      refine wpAnyG_take' (i := 6) (v := ?v6_7) rfl (by kernel_rfl) (by kernel_rfl) (by kernel_rfl) (by kernel_rfl) (fun _ _ _ h => h) (Or.inl ⟨by rfl, ?hy6_7⟩) hS ?rest6_7
      case hy6_7 => intro w hSw; (try dsimp only at hSw); go_simp; (try with_reducible rfl)
      case rest6_7 =>
      try simp only [Act.put, List.setIfInBounds_toArray, List.set_cons_zero, List.set_cons_succ]
      refine wpAnyG_take' (i := 9) (v := ?v9_8) rfl (by kernel_rfl) (by kernel_rfl) (by kernel_rfl) (by kernel_rfl) (fun _ _ _ h => h) (Or.inl ⟨by rfl, ?hy9_8⟩) hS ?rest9_8
      case hy9_8 => intro w hSw; (try dsimp only at hSw); go_simp; (try with_reducible rfl)
      case rest9_8 =>
      try simp only [Act.put, List.setIfInBounds_toArray, List.set_cons_zero, List.set_cons_succ]
      refine wpAnyG_take' (i := 10) (v := ?v10_9) rfl (by kernel_rfl) (by kernel_rfl) (by kernel_rfl) (by kernel_rfl) (fun _ _ _ h => h) (Or.inl ⟨by rfl, ?hy10_9⟩) hS ?rest10_9
      case hy10_9 => intro w hSw; (try dsimp only at hSw); go_simp; (try with_reducible rfl)
      case rest10_9 =>
      try simp only [Act.put, List.setIfInBounds_toArray, List.set_cons_zero, List.set_cons_succ]
      refine wpAnyG_take' (i := 11) (v := ?v11_10) rfl (by kernel_rfl) (by kernel_rfl) (by kernel_rfl) (by kernel_rfl) (fun _ _ _ h => h) (Or.inl ⟨by rfl, ?hy11_10⟩) hS ?rest11_10
      case hy11_10 => intro w hSw; (try dsimp only at hSw); go_simp; (try with_reducible rfl)
      case rest11_10 =>
      try simp only [Act.put, List.setIfInBounds_toArray, List.set_cons_zero, List.set_cons_succ]
      refine wpAnyG_take' (i := 12) (v := ?v12_11) rfl (by kernel_rfl) (by kernel_rfl) (by kernel_rfl) (by kernel_rfl) (fun _ _ _ h => h) (Or.inl ⟨by rfl, ?hy12_11⟩) hS ?rest12_11
      case hy12_11 => intro w hSw; (try dsimp only at hSw); go_simp; (try with_reducible rfl)
      case rest12_11 =>
      try simp only [Act.put, List.setIfInBounds_toArray, List.set_cons_zero, List.set_cons_succ]
      refine wpAnyG_take' (i := 13) (v := ?v13_12) rfl (by kernel_rfl) (by kernel_rfl) (by kernel_rfl) (by kernel_rfl) (fun _ _ _ h => h) (Or.inl ⟨by rfl, ?hy13_12⟩) hS ?rest13_12
      case hy13_12 => intro w hSw; (try dsimp only at hSw); go_simp; (try with_reducible rfl)
      case rest13_12 =>
      try simp only [Act.put, List.setIfInBounds_toArray, List.set_cons_zero, List.set_cons_succ]
      refine wpAnyG_take' (i := 14) (v := ?v14_13) rfl (by kernel_rfl) (by kernel_rfl) (by kernel_rfl) (by kernel_rfl) (fun _ _ _ h => h) (Or.inl ⟨by rfl, ?hy14_13⟩) hS ?rest14_13
      case hy14_13 => intro w hSw; (try dsimp only at hSw); go_simp; (try with_reducible rfl)
      case rest14_13 =>
      try simp only [Act.put, List.setIfInBounds_toArray, List.set_cons_zero, List.set_cons_succ]
      refine wpAnyG_take' (i := 15) (v := ?v15_14) rfl (by kernel_rfl) (by kernel_rfl) (by kernel_rfl) (by kernel_rfl) (fun _ _ _ h => h) (Or.inl ⟨by rfl, ?hy15_14⟩) hS ?rest15_14
      case hy15_14 => intro w hSw; (try dsimp only at hSw); go_simp; (try with_reducible rfl)
      case rest15_14 =>
      try simp only [Act.put, List.setIfInBounds_toArray, List.set_cons_zero, List.set_cons_succ]
      refine wpAnyG_one (i := 7) (by kernel_rfl) rfl (fun K hK => ?_)
      have hcv2 := hcv.out
      go_simp
      clear hcv2
      refine hK.out _ _ (fun _ => ?hS15) ?rest15
      case hS15 => exact ⟨q4, q0, q1⟩
      clear K hK
      try simp only [Act.put, List.setIfInBounds_toArray, List.set_cons_zero, List.set_cons_succ]
      refine wpAnyG_one (i := 8) (by kernel_rfl) rfl (fun K hK => ?_)
      go_simp
      refine Calls.mono HT.out ?_
      rintro r9 w9 ⟨u9, rfl, h11⟩
      have HVI := Lib.hid (rvint_conv _ _ ln.2 h11 hq0 hq1 (by have := HNL.out; have h3 : ln.1.1.data.toList.length = ln.1.1.size := rfl; simp only [txtB, List.length_append, h3]; omega))
      have g4 := (cells5 h11.sw2).2.2.2.2
      obtain ⟨g0, g1⟩ := HCE.out w9 h11.low
      clear h11
      go_wp2_with fail
      refine hK.out _ _ (fun _ => ?hS16) ?rest16
      case hS16 => exact ⟨g4, g0, g1⟩
      clear K hK
      try simp only [Act.put, List.setIfInBounds_toArray, List.set_cons_zero, List.set_cons_succ]
      refine wpAnyG_one (i := 16) (by kernel_rfl) rfl (fun K hK => ?_)
      go_simp
      refine Calls.mono HVI.out ?_
      rintro r9 w10 ⟨u10, rfl, h12⟩
      have i4 := (cells5 h12.sw2).2.2.2.2
      obtain ⟨i0, i1⟩ := HCE.out w10 h12.low
      have H12 := Lib.hid h12
      clear h12
      go_wp2_with fail
      refine hK.out _ _ (fun _ => ?hS17) ?rest17
      case hS17 => exact ⟨i4, i0, i1⟩
      clear K hK
      try simp only [Act.put, List.setIfInBounds_toArray, List.set_cons_zero, List.set_cons_succ]
      refine wpAnyG_take' (i := 17) (v := ?v17_18) rfl (by kernel_rfl) (by kernel_rfl) (by kernel_rfl) (by kernel_rfl) (fun _ _ _ h => h) (Or.inl ⟨by rfl, ?hy17_18⟩) ⟨i4, i0, i1⟩ ?rest17_18
      case hy17_18 => intro w hSw; (try dsimp only at hSw); go_simp; (try with_reducible rfl)
      case rest17_18 =>
      try simp only [Act.put, List.setIfInBounds_toArray, List.set_cons_zero, List.set_cons_succ]
      refine wpAnyG_done (by kernel_rfl) ?_ _
      try simp only [nz0, nz1, nz2, Act.put, nz3, nz4, nz5]
      have h13 := H12.out
      rw [← HST.out] at h13
      have H13 := Lib.hid h13
      clear h13 H12 HVI HT HST hcv hwr hq0 hq1 hS
      go_wp2_with fail
      go_roundw
      case rel => exact ⟨j + 1, u10, of_decide_eq_true hd, by go_num, rfl, H13.out⟩
      case measure => have hkn := of_decide_eq_true hd; simp [intOf]; omega
    · have hd : decide (j < ls.length) = false := decide_eq_false hjl
      have hjn : ls.take j = ls := List.take_of_length_le (by omega)
      rw [hjn] at hs
      have HS := Lib.hid hs.sw2.drop
      clear hs hjn
      go_wp2_with fail
      go_ret2
      rw [HRR.out]
      exact ⟨u', rfl, HS.out⟩
set_option maxRecDepth 100000 in
set_option maxHeartbeats 16000000 in
theorem rbytes_2 {w : World} (k : Int) (sku : KS) (ord n : Int) (v : Value) (ls : List Ln) (hv : LnS w v ls) (hk : KindIs k true false true false false false) (hb : okB k sku ord n ls = true) (hf : fieldsOf k = 2) :
    Calls Tryz.prog 85 #[.agg #[.int .i64 k, .string sku.1, .int .i64 ord, .int .i64 n, v]] w (BysP w [] (opBs k sku ord n ls)) := by
  obtain ⟨k1, k9⟩ := fields_ne (by rw [hf]; decide : fieldsOf k ≠ 0)
  have hOB : opBs k sku ord n ls = [UInt8.ofNat k.toNat] ++ vint ord.toNat ∧ (True) ∧ (0 ≤ ord ∧ ord ≤ 2147483647) ∧ (True) ∧ (ls = []) := by
    obtain ⟨_, hp⟩ := ok_parts hb
    rcases hp with ⟨e, h1, h2, h3, h4⟩ | ⟨e, h1, h2, h3, h4⟩ | ⟨e, h1, h2, h3, h4⟩ | ⟨e, h1, h2, h3, h4⟩ | ⟨e, h1, h2, h3, h4⟩ | ⟨e, h1, h2, h3, h4⟩
    any_goals (exfalso; omega)
    skip
    have b := qty_of h2
    skip
    rw [h4]
    unfold opBs cntBs
    rw [hf]
    exact ⟨by simp, trivial, by omega, trivial, rfl⟩
  obtain ⟨hr, hs1, hs2, hs3, hs4⟩ := hOB
  subst hs4
  obtain ⟨r, hrr⟩ : ∃ r, r = opBs k sku ord n ([] : List Ln) := ⟨_, rfl⟩
  rw [← hrr]
  have HRR := Lib.hid (hrr.trans hr)
  clear hrr hr
  have R1 := Lib.hid hs1
  have R2 := Lib.hid hs2
  have R3 := Lib.hid hs3
  have HLL := Lib.hid (show ([] : List Ln).length ≤ 4 from ok_len hb)
  clear hs1 hs2 hs3 
  obtain ⟨a, c, rfl⟩ := hv.len
  rw [List.length_nil] at hv ⊢
  have h1 := (Sep.start w).alloc (.cells (opCells k sku ord n (.slice a 0 c)) 24)
  have hc := rcheck_any k sku ord n _ ([] : List Ln) h1 (hv.below h1.low) (by have := HLL.out; omega)
  rw [hb] at hc
  obtain ⟨c0, c1, c2, c3, c4⟩ := op_cells h1
  have HC := Lib.hid hc
  have HS := Lib.hid (fun wx => hasSku_any k wx)
  have HO := Lib.hid (fun wx => hasOrder_any k wx)
  have HN := Lib.hid (fun wx => hasN_any k wx)
  rw [hk.sk] at HS
  rw [hk.od] at HO
  rw [hk.nu] at HN
  have had := hk.ad
  have hre := hk.re
  have HV := Lib.hid hv
  obtain ⟨b1, hb1⟩ : ∃ z, z = w.heap.size := ⟨_, rfl⟩
  rw [← hb1] at HC
  unfold opCells at HC c0 c1 c2 c3 c4
  clear h1 hv hk hb hc hf
  go_enter Tryz.func85, Tryz.ntmps85
  go_wp2_with fail
  rw [← hb1]
  clear hb1
  refine HC.out.mono ?_
  rintro r0 w1 ⟨rfl, h2⟩
  clear c0 c1 c2 c3 c4 HC
  obtain ⟨c0, c1, c2, c3, c4⟩ := cells5 h2
  have h3 := h2.alloc (.cells #[.int .u8 k] 5)
  have h4 : Sep w (By (.slice (some ⟨w1.heap.size, 0, none⟩) 1 1) [UInt8.ofNat k.toNat] :: [Cl b1 #[.int .i64 k, .string sku.1, .int .i64 ord, .int .i64 n, .slice a 0 c] 24]) (w1.alloc (.cells #[.int .u8 k] 5)) := by
    have := h3.asRow 1 rfl (by unfold maxLen; omega)
    rwa [byte1 (by omega) k9] at this
  obtain ⟨d0, d1, d2, d3, d4⟩ := cells5 h3.sw2
  have zl : Hid ((vint ord.toNat).length ≤ 10 ∧ (vint n.toNat).length ≤ 10 ∧ (vint ([] : List Ln).length).length ≤ 10 ∧ (vint (zig n)).length ≤ 10 ∧ (vint sku.1.size).length ≤ 10 ∧ sku.1.data.toList.length = sku.1.size) := Lib.hid ⟨vint_len _, vint_len _, vint_len _, vint_len _, vint_len _, rfl⟩
  clear h2 h3
  have o0 : 0 ≤ ord := R2.out.1
  have o1 : ord ≤ 2147483647 := R2.out.2
  have HT := Lib.hid (rvint_conv _ _ ord h4 (by have := R2.out; omega) (by have := R2.out; omega) (by simp only [txtB, List.length_append, List.length_singleton]; have := zl.out; have := R1.out; omega))
  clear h4
  go_wp2_with (first | ((with_reducible refine (HS.out _).mono ?_); rintro r9 w9 ⟨rfl, rfl⟩) | ((with_reducible refine (HO.out _).mono ?_); rintro r9 w9 ⟨rfl, rfl⟩) | ((with_reducible refine (HN.out _).mono ?_); rintro r9 w9 ⟨rfl, rfl⟩))
  refine HT.out.mono ?_
  rintro r0 w2 ⟨u2, rfl, hx⟩
  clear HT
  try clear d0 d1 d2 d3 d4
  try clear hcv
  clear c0 c1 c2 c3 c4
  obtain ⟨c0, c1, c2, c3, c4⟩ := cells5 hx.sw2
  have hy2 := hx
  clear hx
  have HE := Lib.hid (Sep.drop (Sep.sw2 hy2))
  clear hy2
  go_wp2_with (first | ((with_reducible refine (HS.out _).mono ?_); rintro r9 w9 ⟨rfl, rfl⟩) | ((with_reducible refine (HO.out _).mono ?_); rintro r9 w9 ⟨rfl, rfl⟩) | ((with_reducible refine (HN.out _).mono ?_); rintro r9 w9 ⟨rfl, rfl⟩))
  go_loopw [5, 6] (fun b' i wr => i = .int .i64 0 ∧ b' = u2 ∧ wr = w2) (fun _ _ _ => 0)
  case atStart => exact ⟨rfl, rfl, rfl⟩
  case round =>
    obtain ⟨rfl, rfl, rfl⟩ := hrel
    go_wp2_with fail
    go_ret2
    rw [HRR.out]
    exact ⟨_, rfl, HE.out⟩
set_option maxRecDepth 100000 in
set_option maxHeartbeats 16000000 in
theorem rbytes_4 {w : World} (k : Int) (sku : KS) (ord n : Int) (v : Value) (ls : List Ln) (hv : LnS w v ls) (hk : KindIs k true false false false true false) (hb : okB k sku ord n ls = true) (hf : fieldsOf k = 4) :
    Calls Tryz.prog 85 #[.agg #[.int .i64 k, .string sku.1, .int .i64 ord, .int .i64 n, v]] w (BysP w [] (opBs k sku ord n ls)) := by
  obtain ⟨k1, k9⟩ := fields_ne (by rw [hf]; decide : fieldsOf k ≠ 0)
  have hOB : opBs k sku ord n ls = [UInt8.ofNat k.toNat] ++ vint n.toNat ∧ (True) ∧ (True) ∧ (0 ≤ n ∧ n ≤ 2147483647) ∧ (ls = []) := by
    obtain ⟨_, hp⟩ := ok_parts hb
    rcases hp with ⟨e, h1, h2, h3, h4⟩ | ⟨e, h1, h2, h3, h4⟩ | ⟨e, h1, h2, h3, h4⟩ | ⟨e, h1, h2, h3, h4⟩ | ⟨e, h1, h2, h3, h4⟩ | ⟨e, h1, h2, h3, h4⟩
    any_goals (exfalso; omega)
    skip
    skip
    have d := qty_of h3
    rw [h4]
    unfold opBs cntBs
    rw [hf]
    exact ⟨by simp, trivial, trivial, by omega, rfl⟩
  obtain ⟨hr, hs1, hs2, hs3, hs4⟩ := hOB
  subst hs4
  obtain ⟨r, hrr⟩ : ∃ r, r = opBs k sku ord n ([] : List Ln) := ⟨_, rfl⟩
  rw [← hrr]
  have HRR := Lib.hid (hrr.trans hr)
  clear hrr hr
  have R1 := Lib.hid hs1
  have R2 := Lib.hid hs2
  have R3 := Lib.hid hs3
  have HLL := Lib.hid (show ([] : List Ln).length ≤ 4 from ok_len hb)
  clear hs1 hs2 hs3 
  obtain ⟨a, c, rfl⟩ := hv.len
  rw [List.length_nil] at hv ⊢
  have h1 := (Sep.start w).alloc (.cells (opCells k sku ord n (.slice a 0 c)) 24)
  have hc := rcheck_any k sku ord n _ ([] : List Ln) h1 (hv.below h1.low) (by have := HLL.out; omega)
  rw [hb] at hc
  obtain ⟨c0, c1, c2, c3, c4⟩ := op_cells h1
  have HC := Lib.hid hc
  have HS := Lib.hid (fun wx => hasSku_any k wx)
  have HO := Lib.hid (fun wx => hasOrder_any k wx)
  have HN := Lib.hid (fun wx => hasN_any k wx)
  rw [hk.sk] at HS
  rw [hk.od] at HO
  rw [hk.nu] at HN
  have had := hk.ad
  have hre := hk.re
  have HV := Lib.hid hv
  obtain ⟨b1, hb1⟩ : ∃ z, z = w.heap.size := ⟨_, rfl⟩
  rw [← hb1] at HC
  unfold opCells at HC c0 c1 c2 c3 c4
  clear h1 hv hk hb hc hf
  go_enter Tryz.func85, Tryz.ntmps85
  go_wp2_with fail
  rw [← hb1]
  clear hb1
  refine HC.out.mono ?_
  rintro r0 w1 ⟨rfl, h2⟩
  clear c0 c1 c2 c3 c4 HC
  obtain ⟨c0, c1, c2, c3, c4⟩ := cells5 h2
  have h3 := h2.alloc (.cells #[.int .u8 k] 5)
  have h4 : Sep w (By (.slice (some ⟨w1.heap.size, 0, none⟩) 1 1) [UInt8.ofNat k.toNat] :: [Cl b1 #[.int .i64 k, .string sku.1, .int .i64 ord, .int .i64 n, .slice a 0 c] 24]) (w1.alloc (.cells #[.int .u8 k] 5)) := by
    have := h3.asRow 1 rfl (by unfold maxLen; omega)
    rwa [byte1 (by omega) k9] at this
  obtain ⟨d0, d1, d2, d3, d4⟩ := cells5 h3.sw2
  have zl : Hid ((vint ord.toNat).length ≤ 10 ∧ (vint n.toNat).length ≤ 10 ∧ (vint ([] : List Ln).length).length ≤ 10 ∧ (vint (zig n)).length ≤ 10 ∧ (vint sku.1.size).length ≤ 10 ∧ sku.1.data.toList.length = sku.1.size) := Lib.hid ⟨vint_len _, vint_len _, vint_len _, vint_len _, vint_len _, rfl⟩
  clear h2 h3
  have n0 : 0 ≤ n := R3.out.1
  have n1 : n ≤ 2147483647 := R3.out.2
  have HT := Lib.hid (rvint_conv _ _ n h4 (by have := R3.out; omega) (by have := R3.out; omega) (by simp only [txtB, List.length_append, List.length_singleton]; have := zl.out; have := R1.out; omega))
  clear h4
  go_wp2_with (first | ((with_reducible refine (HS.out _).mono ?_); rintro r9 w9 ⟨rfl, rfl⟩) | ((with_reducible refine (HO.out _).mono ?_); rintro r9 w9 ⟨rfl, rfl⟩) | ((with_reducible refine (HN.out _).mono ?_); rintro r9 w9 ⟨rfl, rfl⟩))
  refine HT.out.mono ?_
  rintro r0 w2 ⟨u2, rfl, hx⟩
  clear HT
  try clear d0 d1 d2 d3 d4
  try clear hcv
  clear c0 c1 c2 c3 c4
  obtain ⟨c0, c1, c2, c3, c4⟩ := cells5 hx.sw2
  have hy2 := hx
  clear hx
  have HE := Lib.hid (Sep.drop (Sep.sw2 hy2))
  clear hy2
  go_wp2_with (first | ((with_reducible refine (HS.out _).mono ?_); rintro r9 w9 ⟨rfl, rfl⟩) | ((with_reducible refine (HO.out _).mono ?_); rintro r9 w9 ⟨rfl, rfl⟩) | ((with_reducible refine (HN.out _).mono ?_); rintro r9 w9 ⟨rfl, rfl⟩))
  go_loopw [5, 6] (fun b' i wr => i = .int .i64 0 ∧ b' = u2 ∧ wr = w2) (fun _ _ _ => 0)
  case atStart => exact ⟨rfl, rfl, rfl⟩
  case round =>
    obtain ⟨rfl, rfl, rfl⟩ := hrel
    go_wp2_with fail
    go_ret2
    rw [HRR.out]
    exact ⟨_, rfl, HE.out⟩
set_option maxRecDepth 100000 in
set_option maxHeartbeats 16000000 in
theorem rbytes_1 {w : World} (k : Int) (sku : KS) (ord n : Int) (v : Value) (ls : List Ln) (hv : LnS w v ls) (hk : KindIs k true true false false false false) (hb : okB k sku ord n ls = true) (hf : fieldsOf k = 1) :
    Calls Tryz.prog 85 #[.agg #[.int .i64 k, .string sku.1, .int .i64 ord, .int .i64 n, v]] w (BysP w [] (opBs k sku ord n ls)) := by
  obtain ⟨k1, k9⟩ := fields_ne (by rw [hf]; decide : fieldsOf k ≠ 0)
  have hOB : opBs k sku ord n ls = [UInt8.ofNat k.toNat] ++ txtB sku ∧ (sku.1.size ≤ 8) ∧ (True) ∧ (True) ∧ (ls = []) := by
    obtain ⟨_, hp⟩ := ok_parts hb
    rcases hp with ⟨e, h1, h2, h3, h4⟩ | ⟨e, h1, h2, h3, h4⟩ | ⟨e, h1, h2, h3, h4⟩ | ⟨e, h1, h2, h3, h4⟩ | ⟨e, h1, h2, h3, h4⟩ | ⟨e, h1, h2, h3, h4⟩
    any_goals (exfalso; omega)
    have a := name_of h1
    skip
    skip
    rw [h4]
    unfold opBs cntBs
    rw [hf]
    exact ⟨by simp, a.2, trivial, trivial, rfl⟩
  obtain ⟨hr, hs1, hs2, hs3, hs4⟩ := hOB
  subst hs4
  obtain ⟨r, hrr⟩ : ∃ r, r = opBs k sku ord n ([] : List Ln) := ⟨_, rfl⟩
  rw [← hrr]
  have HRR := Lib.hid (hrr.trans hr)
  clear hrr hr
  have R1 := Lib.hid hs1
  have R2 := Lib.hid hs2
  have R3 := Lib.hid hs3
  have HLL := Lib.hid (show ([] : List Ln).length ≤ 4 from ok_len hb)
  clear hs1 hs2 hs3 
  obtain ⟨a, c, rfl⟩ := hv.len
  rw [List.length_nil] at hv ⊢
  have h1 := (Sep.start w).alloc (.cells (opCells k sku ord n (.slice a 0 c)) 24)
  have hc := rcheck_any k sku ord n _ ([] : List Ln) h1 (hv.below h1.low) (by have := HLL.out; omega)
  rw [hb] at hc
  obtain ⟨c0, c1, c2, c3, c4⟩ := op_cells h1
  have HC := Lib.hid hc
  have HS := Lib.hid (fun wx => hasSku_any k wx)
  have HO := Lib.hid (fun wx => hasOrder_any k wx)
  have HN := Lib.hid (fun wx => hasN_any k wx)
  rw [hk.sk] at HS
  rw [hk.od] at HO
  rw [hk.nu] at HN
  have had := hk.ad
  have hre := hk.re
  have HV := Lib.hid hv
  obtain ⟨b1, hb1⟩ : ∃ z, z = w.heap.size := ⟨_, rfl⟩
  rw [← hb1] at HC
  unfold opCells at HC c0 c1 c2 c3 c4
  clear h1 hv hk hb hc hf
  go_enter Tryz.func85, Tryz.ntmps85
  go_wp2_with fail
  rw [← hb1]
  clear hb1
  refine HC.out.mono ?_
  rintro r0 w1 ⟨rfl, h2⟩
  clear c0 c1 c2 c3 c4 HC
  obtain ⟨c0, c1, c2, c3, c4⟩ := cells5 h2
  have h3 := h2.alloc (.cells #[.int .u8 k] 5)
  have h4 : Sep w (By (.slice (some ⟨w1.heap.size, 0, none⟩) 1 1) [UInt8.ofNat k.toNat] :: [Cl b1 #[.int .i64 k, .string sku.1, .int .i64 ord, .int .i64 n, .slice a 0 c] 24]) (w1.alloc (.cells #[.int .u8 k] 5)) := by
    have := h3.asRow 1 rfl (by unfold maxLen; omega)
    rwa [byte1 (by omega) k9] at this
  obtain ⟨d0, d1, d2, d3, d4⟩ := cells5 h3.sw2
  have zl : Hid ((vint ord.toNat).length ≤ 10 ∧ (vint n.toNat).length ≤ 10 ∧ (vint ([] : List Ln).length).length ≤ 10 ∧ (vint (zig n)).length ≤ 10 ∧ (vint sku.1.size).length ≤ 10 ∧ sku.1.data.toList.length = sku.1.size) := Lib.hid ⟨vint_len _, vint_len _, vint_len _, vint_len _, vint_len _, rfl⟩
  clear h2 h3
  obtain ⟨b2, cb, wc, hcv, hbl, hsl⟩ := conv_str (w1.alloc (.cells #[.int .u8 k] 5)) sku.1 sku.2
  have h5 := h4.below hbl
  clear h4
  have HT := Lib.hid (rtext_conv _ _ sku b2 cb sku.1.size rfl h5 hsl (by simp) (by have := R1.out; omega))
  clear h5 hbl hsl
  go_wp2_with (first | ((with_reducible refine (HS.out _).mono ?_); rintro r9 w9 ⟨rfl, rfl⟩) | ((with_reducible refine (HO.out _).mono ?_); rintro r9 w9 ⟨rfl, rfl⟩) | ((with_reducible refine (HN.out _).mono ?_); rintro r9 w9 ⟨rfl, rfl⟩))
  refine HT.out.mono ?_
  rintro r0 w2 ⟨u2, rfl, hx⟩
  clear HT
  try clear d0 d1 d2 d3 d4
  try clear hcv
  clear c0 c1 c2 c3 c4
  obtain ⟨c0, c1, c2, c3, c4⟩ := cells5 hx.sw2
  have hy2 := hx
  clear hx
  have HE := Lib.hid (Sep.drop (Sep.sw2 hy2))
  clear hy2
  go_wp2_with (first | ((with_reducible refine (HS.out _).mono ?_); rintro r9 w9 ⟨rfl, rfl⟩) | ((with_reducible refine (HO.out _).mono ?_); rintro r9 w9 ⟨rfl, rfl⟩) | ((with_reducible refine (HN.out _).mono ?_); rintro r9 w9 ⟨rfl, rfl⟩))
  go_loopw [5, 6] (fun b' i wr => i = .int .i64 0 ∧ b' = u2 ∧ wr = w2) (fun _ _ _ => 0)
  case atStart => exact ⟨rfl, rfl, rfl⟩
  case round =>
    obtain ⟨rfl, rfl, rfl⟩ := hrel
    go_wp2_with fail
    go_ret2
    rw [HRR.out]
    exact ⟨_, rfl, HE.out⟩
/-- Bytes of what may be. -/
theorem rbytes_ok {w0 w : World} {L : List Thing} (k : Int) (sku : KS) (ord n : Int) (v : Value) (ls : List Ln) (h : Sep w0 L w) (hv : LnS w v ls) (hb : okB k sku ord n ls = true) :
    Calls Tryz.prog 85 #[.agg #[.int .i64 k, .string sku.1, .int .i64 ord, .int .i64 n, v]] w (BysP w0 L (opBs k sku ord n ls)) := by
  have hc : Calls Tryz.prog 85 #[.agg #[.int .i64 k, .string sku.1, .int .i64 ord, .int .i64 n, v]] w (BysP w [] (opBs k sku ord n ls)) := by
    rcases kind_is k with ⟨hf, hk⟩ | ⟨hf, hk⟩ | ⟨hf, hk⟩ | ⟨hf, hk⟩ | ⟨hf, hk⟩ | ⟨hf, hk⟩ | ⟨hf, hk⟩
    · exact rbytes_5 k sku ord n v ls hv hk hb hf
    · exact rbytes_9 k sku ord n v ls hv hk hb hf
    · exact rbytes_22 k sku ord n v ls hv hk hb hf
    · exact rbytes_2 k sku ord n v ls hv hk hb hf
    · exact rbytes_4 k sku ord n v ls hv hk hb hf
    · exact rbytes_1 k sku ord n v ls hv hk hb hf
    · rw [okB, hf] at hb; simp at hb
  refine hc.mono ?_
  rintro e w' ⟨u, rfl, h1⟩
  exact ⟨u, rfl, h.row h1.low (Sep.rw_ h1)⟩
set_option maxRecDepth 100000 in
set_option maxHeartbeats 8000000 in
theorem rbytesRes_ok {w0 w : World} {L : List Thing} (c a b : Int) (h : Sep w0 L w) (hb : resB c a b = true) :
    Calls Tryz.prog 46 #[.agg #[.int .i64 c, .int .i64 a, .int .i64 b]] w (BysP w0 L (resBs c a b)) := by
  obtain ⟨s0, s1, s2, s3, s4, s5⟩ := of_decide_eq_true hb
  have h1 := h.alloc (.cells #[.int .i64 c, .int .i64 a, .int .i64 b] 28)
  have HC := Lib.hid (rres_any c a b h1)
  rw [hb] at HC
  obtain ⟨r, hr⟩ : ∃ r, r = resBs c a b := ⟨_, rfl⟩
  rw [← hr]
  have HRR : Hid ([UInt8.ofNat c.toNat] ++ vint a.toNat ++ vint b.toNat = r) := Lib.hid hr.symm
  obtain ⟨b1, hb1⟩ : ∃ z, z = w.heap.size := ⟨_, rfl⟩
  rw [← hb1] at HC
  have HV := Lib.hid (vint_len a.toNat)
  clear h h1 hb hr
  go_enter Tryz.func46, Tryz.ntmps46
  go_wp2_with fail
  rw [← hb1]
  clear hb1
  refine HC.out.mono ?_
  rintro r0 w1 ⟨rfl, h2⟩
  obtain ⟨c0, c1, c2⟩ := cells3 h2
  have h3 := h2.drew.alloc (.cells #[.int .u8 c] 5)
  obtain ⟨d0, d1, d2⟩ := cells3 h3.sw2
  have h4 : Sep w0 (By (.slice (some ⟨w1.heap.size, 0, none⟩) 1 1) [UInt8.ofNat c.toNat] :: Cl b1 #[.int .i64 c, .int .i64 a, .int .i64 b] 28 :: L) (w1.drew.alloc (.cells #[.int .u8 c] 5)) := by
    have := h3.asRow 1 rfl (by unfold maxLen; omega)
    rwa [byte1 (by omega) (by omega)] at this
  have HT := Lib.hid (rvint_conv _ _ a h4 s2 (by omega) (by simp))
  have hw1 : IntKind.u64.wrap a = a := by rw [IntKind.wrap_u64]; omega
  have hw2 : IntKind.u64.wrap b = b := by rw [IntKind.wrap_u64]; omega
  have hw3 : IntKind.u8.wrap c = c := by unfold IntKind.wrap; simp [IntKind.bits, IntKind.signed]; omega
  clear h2 h3 h4 HC
  go_wp2_with fail
  refine wp_region_G (fun w' => w'.cell? ⟨b1, 0, none⟩ = some (.int .i64 c) ∧ w'.cell? ⟨b1, 1, none⟩ = some (.int .i64 a) ∧ w'.cell? ⟨b1, 2, none⟩ = some (.int .i64 b)) [] (by kernel_rfl) ⟨c0, c1, c2⟩ (fun hS => ?_)
  try dsimp only at hS
  refine wpAnyG_take' (i := 0) (v := ?v0_1) rfl (by kernel_rfl) (by kernel_rfl) (by kernel_rfl) (by kernel_rfl) (fun _ _ _ h => h) (Or.inl ⟨by rfl, ?hy0_1⟩) hS ?rest0_1
  case hy0_1 => intro w hSw; (try dsimp only at hSw); go_simp; (try with_reducible rfl)
  case rest0_1 =>
  try simp only [Act.put, List.setIfInBounds_toArray, List.set_cons_zero, List.set_cons_succ]
  refine wpAnyG_take' (i := 1) (v := ?v1_2) rfl (by kernel_rfl) (by kernel_rfl) (by kernel_rfl) (by kernel_rfl) (fun _ _ _ h => h) (Or.inl ⟨by rfl, ?hy1_2⟩) hS ?rest1_2
  case hy1_2 => intro w hSw; (try dsimp only at hSw); go_simp; (try with_reducible rfl)
  case rest1_2 =>
  try simp only [Act.put, List.setIfInBounds_toArray, List.set_cons_zero, List.set_cons_succ]
  refine wpAnyG_take' (i := 2) (v := ?v2_3) rfl (by kernel_rfl) (by kernel_rfl) (by kernel_rfl) (by kernel_rfl) (fun _ _ _ h => h) (Or.inl ⟨by rfl, ?hy2_3⟩) hS ?rest2_3
  case hy2_3 => intro w hSw; (try dsimp only at hSw); go_simp; (try with_reducible rfl)
  case rest2_3 =>
  try simp only [Act.put, List.setIfInBounds_toArray, List.set_cons_zero, List.set_cons_succ]
  refine wpAnyG_take' (i := 4) (v := ?v4_4) rfl (by kernel_rfl) (by kernel_rfl) (by kernel_rfl) (by kernel_rfl) (fun _ _ _ h => h) (Or.inl ⟨by rfl, ?hy4_4⟩) hS ?rest4_4
  case hy4_4 => intro w hSw; (try dsimp only at hSw); go_simp; (try with_reducible rfl)
  case rest4_4 =>
  try simp only [Act.put, List.setIfInBounds_toArray, List.set_cons_zero, List.set_cons_succ]
  refine wpAnyG_take' (i := 5) (v := ?v5_5) rfl (by kernel_rfl) (by kernel_rfl) (by kernel_rfl) (by kernel_rfl) (fun _ _ _ h => h) (Or.inl ⟨by rfl, ?hy5_5⟩) hS ?rest5_5
  case hy5_5 => intro w hSw; (try dsimp only at hSw); go_simp; (try with_reducible rfl)
  case rest5_5 =>
  try simp only [Act.put, List.setIfInBounds_toArray, List.set_cons_zero, List.set_cons_succ]
  refine wpAnyG_take' (i := 6) (v := ?v6_6) rfl (by kernel_rfl) (by kernel_rfl) (by kernel_rfl) (by kernel_rfl) (fun _ _ _ h => h) (Or.inl ⟨by rfl, ?hy6_6⟩) hS ?rest6_6
  case hy6_6 => intro w hSw; (try dsimp only at hSw); go_simp; (try with_reducible rfl)
  case rest6_6 =>
  try simp only [Act.put, List.setIfInBounds_toArray, List.set_cons_zero, List.set_cons_succ]
  refine wpAnyG_take' (i := 8) (v := ?v8_7) rfl (by kernel_rfl) (by kernel_rfl) (by kernel_rfl) (by kernel_rfl) (fun _ _ _ h => h) (Or.inl ⟨by rfl, ?hy8_7⟩) hS ?rest8_7
  case hy8_7 => intro w hSw; (try dsimp only at hSw); go_simp; (try with_reducible rfl)
  case rest8_7 =>
  try simp only [Act.put, List.setIfInBounds_toArray, List.set_cons_zero, List.set_cons_succ]
  refine wpAnyG_take' (i := 9) (v := ?v9_8) rfl (by kernel_rfl) (by kernel_rfl) (by kernel_rfl) (by kernel_rfl) (fun _ _ _ h => h) (Or.inl ⟨by rfl, ?hy9_8⟩) hS ?rest9_8
  case hy9_8 => intro w hSw; (try dsimp only at hSw); go_simp; (try with_reducible rfl)
  case rest9_8 =>
  try simp only [Act.put, List.setIfInBounds_toArray, List.set_cons_zero, List.set_cons_succ]
  refine wpAnyG_take' (i := 10) (v := ?v10_9) rfl (by kernel_rfl) (by kernel_rfl) (by kernel_rfl) (by kernel_rfl) (fun _ _ _ h => h) (Or.inl ⟨by rfl, ?hy10_9⟩) hS ?rest10_9
  case hy10_9 => intro w hSw; (try dsimp only at hSw); go_simp; (try with_reducible rfl)
  case rest10_9 =>
  try simp only [Act.put, List.setIfInBounds_toArray, List.set_cons_zero, List.set_cons_succ]
  refine wpAnyG_one (i := 3) (by kernel_rfl) rfl (fun K hK => ?_)
  go_simp
  refine hK.out _ _ (fun _ => ?hS10) ?rest10
  case hS10 => exact ⟨d0, d1, d2⟩
  clear K hK
  try simp only [Act.put, List.setIfInBounds_toArray, List.set_cons_zero, List.set_cons_succ]
  refine wpAnyG_one (i := 7) (by kernel_rfl) rfl (fun K hK => ?_)
  go_simp
  refine Calls.mono HT.out ?_
  rintro r9 w9 ⟨u9, rfl, h11⟩
  obtain ⟨e0, e1, e2⟩ := cells3 h11.sw2
  have HU := Lib.hid (rvint_conv _ _ b h11 s3 (by omega) (by simp only [List.length_append, List.length_singleton]; have := HV.out; omega))
  clear h11
  go_wp2_with fail
  refine hK.out _ _ (fun _ => ?hS11) ?rest11
  case hS11 => exact ⟨e0, e1, e2⟩
  clear K hK
  try simp only [Act.put, List.setIfInBounds_toArray, List.set_cons_zero, List.set_cons_succ]
  refine wpAnyG_one (i := 11) (by kernel_rfl) rfl (fun K hK => ?_)
  go_simp
  refine Calls.mono HU.out ?_
  rintro r9 w10 ⟨u10, rfl, h12⟩
  obtain ⟨f0, f1, f2⟩ := cells3 h12.sw2
  go_wp2_with fail
  refine hK.out _ _ (fun _ => ?hS12) ?rest12
  case hS12 => exact ⟨f0, f1, f2⟩
  clear K hK
  try simp only [Act.put, List.setIfInBounds_toArray, List.set_cons_zero, List.set_cons_succ]
  refine wpAnyG_take' (i := 12) (v := ?v12_13) rfl (by kernel_rfl) (by kernel_rfl) (by kernel_rfl) (by kernel_rfl) (fun _ _ _ h => h) (Or.inl ⟨by rfl, ?hy12_13⟩) ⟨f0, f1, f2⟩ ?rest12_13
  case hy12_13 => intro w hSw; (try dsimp only at hSw); go_simp; (try with_reducible rfl)
  case rest12_13 =>
  try simp only [Act.put, List.setIfInBounds_toArray, List.set_cons_zero, List.set_cons_succ]
  refine wpAnyG_take' (i := 13) (v := ?v13_14) rfl (by kernel_rfl) (by kernel_rfl) (by kernel_rfl) (by kernel_rfl) (fun _ _ _ h => h) (Or.inl ⟨by rfl, ?hy13_14⟩) ⟨f0, f1, f2⟩ ?rest13_14
  case hy13_14 => intro w hSw; (try dsimp only at hSw); go_simp; (try with_reducible rfl)
  case rest13_14 =>
  try simp only [Act.put, List.setIfInBounds_toArray, List.set_cons_zero, List.set_cons_succ]
  refine wpAnyG_done (by kernel_rfl) ?_ _
  try simp only [nz0, nz1, nz2, Act.put, nz3, nz4, nz5]
  have H9 := Lib.hid h12.sw2.drop
  clear hS h12 hw1 hw2 hw3
  go_wp2_with fail
  go_ret2
  have hh := H9.out
  rw [HRR.out] at hh
  refine ⟨u10, ?_, hh⟩
  first | rfl | (trace_state; simp; done)
end Go.Proofs.YtafkbodmiblbnaaGreatDoor
