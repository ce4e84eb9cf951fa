/- Package item: Bytes. -/
import Derived.Deep.RegionLaw
import Derived.Test.YtafkbodmiblbnaaGreatDoorMZ03
import Derived.Test.YtafkbodmiblbnaaGreatDoorMZ04
import Derived.Test.YtafkbodmiblbnaaGreatDoorMZ06
namespace Go.Proofs.YtafkbodmiblbnaaGreatDoor
open Go.RowKit
set_option linter.unusedVariables false
set_option linter.unusedSimpArgs false
def txtB (s : KS) : List UInt8 := vint s.1.size ++ s.1.data.toList
def lineBs (l : Ln) : List UInt8 := txtB l.1 ++ vint l.2.toNat
def cntBs (h n : Int) : List UInt8 := if h = 5 ∨ h = 22 ∨ h = 4 then vint n.toNat else if h = 9 then vint (zig n) else []
def opBs (k : Int) (sku : KS) (ord n : Int) (ls : List Ln) : List UInt8 :=
  [UInt8.ofNat k.toNat] ++ (if fieldsOf k = 5 ∨ fieldsOf k = 9 ∨ fieldsOf k = 1 then txtB sku else []) ++ (if fieldsOf k = 22 ∨ fieldsOf k = 2 then vint ord.toNat else []) ++ cntBs (fieldsOf k) n ++ (if fieldsOf k = 22 then vint ls.length else []) ++ ls.flatMap lineBs
theorem fields_ne {k : Int} (h : fieldsOf k ≠ 0) : 1 ≤ k ∧ k ≤ 9 := by
  unfold fieldsOf at h
  split at h
  · rename_i hk
    refine ⟨?_, hk.2⟩
    rcases Int.lt_or_le k 1 with h1 | h1
    · obtain rfl : k = 0 := by omega
      exact absurd rfl h
    · exact h1
  · exact absurd rfl h
theorem byte1 {k : Int} (h0 : 0 ≤ k) (h9 : k ≤ 9) : #[Value.int .u8 k].toList = bv [UInt8.ofNat k.toNat] := by
  obtain ⟨j, rfl⟩ : ∃ j : Nat, k = j := ⟨k.toNat, by omega⟩
  simp [bv, UInt8.toNat_ofNat']
  omega
theorem text_conv {w0 w : World} {L : List Thing} (v : Value) (l : List UInt8) (s : KS) (b c n : Nat) (hn : s.1.size = n) (h : Sep w0 (By v l :: L) w) (hx : Sl w (.slice (some ⟨b, 0, none⟩) n c) (bv s.1.data.toList)) (hl : l.length ≤ 1099511627) (hs : n ≤ 1099511627) :
    Calls Tryz.prog 31 #[v, .slice (some ⟨b, 0, none⟩) n c] w fun e w' => ∃ v', e = .returned v' ∧ Sep w0 (By v' (l ++ txtB s) :: L) w' := by
  subst hn
  have hsz : s.1.data.toList.length = s.1.size := rfl
  refine (text_sep v _ l s.1.data.toList w h.drop h.sl hx (by rw [hsz]; omega)).mono ?_
  rintro e w' ⟨v', rfl, h1⟩
  rw [hsz] at h1
  exact ⟨v', rfl, by unfold txtB; rw [← List.append_assoc]; exact h1⟩
theorem vint_conv {w0 w : World} {L : List Thing} (v : Value) (l : List UInt8) (n : Int) (h : Sep w0 (By v l :: L) w) (hn : 0 ≤ n) (hn2 : n ≤ 9007199254740991) (hl : l.length ≤ 1099511627) :
    Calls Tryz.prog 29 #[v, .int .u64 n] w fun e w' => ∃ v', e = .returned v' ∧ Sep w0 (By v' (l ++ vint n.toNat) :: L) w' := by
  obtain ⟨u, rfl⟩ : ∃ u : Nat, n = u := ⟨n.toNat, by omega⟩
  exact varint_sep v l u w h.drop h.sl (by unfold U64; omega) (by omega)
theorem int_conv {w0 w : World} {L : List Thing} (v : Value) (l : List UInt8) (n : Int) (h : Sep w0 (By v l :: L) w) (hn : I64 n) (hl : l.length ≤ 1099511627) :
    Calls Tryz.prog 113 #[v, .int .i64 n] w fun e w' => ∃ v', e = .returned v' ∧ Sep w0 (By v' (l ++ vint (zig n)) :: L) w' :=
  (int_any v l n w h.sl hn (by omega)).mono fun e w' ⟨⟨v', he, ho⟩, hb⟩ => ⟨v', he, h.drop.row hb ho⟩
set_option maxRecDepth 100000 in
set_option maxHeartbeats 1000000 in
theorem bytes_1 {w : World} (k : Int) (sku : KS) (ord n : Int) (v : Value) (ls : List Ln) (hv : LnS w v ls) (hk : KindsAt w) (hb : okB k sku ord n ls = true) (hf : fieldsOf k = 1) :
    Calls Tryz.prog 80 #[.agg #[.int .i64 k, .string sku.1, .int .i64 ord, .int .i64 n, v]] w fun e w' => ∃ u, e = .returned (.tuple #[u, .int .i64 0]) ∧ Sep w [By u (opBs k sku ord n ls)] w' := by
  obtain ⟨k1, k9⟩ := fields_ne (by rw [hf]; decide : fieldsOf k ≠ 0)
  have hOB : opBs k sku ord n ls = [UInt8.ofNat k.toNat] ++ txtB sku ∧ sku.1.size ≤ 8 ∧ ls = [] := by
    unfold okB at hb
    rw [hf] at hb
    simp [skuB, ordB, cntB, linB, nameB, qtyB, chgB] at hb
    obtain ⟨⟨⟨⟨⟨h1, h2⟩, h3⟩, h4⟩, h5⟩, h6⟩ := hb
    unfold opBs cntBs
    rw [hf]
    rw [h6]
    exact ⟨by simp, h2, rfl⟩
  obtain ⟨hr, hsz, rfl⟩ := hOB
  rw [hr]
  have HR := Lib.hid hsz
  clear hsz
  obtain ⟨a, c, rfl⟩ := hv.len
  rw [List.length_nil] at hv ⊢
  have h1 := (Sep.start w).alloc (.cells (opCells k sku ord n (.slice a 0 c)) 24)
  have hc := check_any k sku ord n _ [] h1 (hv.below h1.low) (hk.below h1.low)
  rw [hb] at hc
  obtain ⟨c0, c1, c2, c3, c4⟩ := op_cells h1
  have HC : Hid (Calls Tryz.prog 91 #[.agg #[.int .i64 k, .string sku.1, .int .i64 ord, .int .i64 n, .slice a 0 c]] (w.alloc (.cells #[.int .i64 k, .string sku.1, .int .i64 ord, .int .i64 n, .slice a 0 c] 24)) fun e w' => e = .returned (.int .i64 0) ∧ Sep w [Cl w.heap.size (opCells k sku ord n (.slice a 0 c)) 24] w') := Lib.hid hc
  have HK : Hid (∀ wx, Below w.heap.size w wx → Calls Tryz.prog 112 #[.int .i64 k] wx fun e w' => e = .returned (.int .i64 1) ∧ wx = w') := Lib.hid fun wx hb => by
    have := fields_any k wx (hk.below hb)
    rwa [hf] at this
  have HV := Lib.hid hv
  unfold opCells at c0 c1 c2 c3 c4
  clear h1 hv hk hb hc hf hr
  go_enter Tryz.func80, Tryz.ntmps80
  go_wp2_with fail
  generalize w.alloc (.cells #[.int .i64 k, .string sku.1, .int .i64 ord, .int .i64 n, .slice a 0 c] 24) = wa at *


  refine HC.out.mono ?_
  rintro r0 w1 ⟨rfl, h2⟩
  clear c0 c1 c2 c3 c4
  obtain ⟨c0, c1, c2, c3, c4⟩ := op_cells h2
  have H2 := Lib.hid h2
  clear h2 HC
  go_wp2_with fail
  refine (HK.out _ H2.out.low).mono ?_
  rintro r0 w2 ⟨rfl, rfl⟩
  have h3 := H2.out.alloc (.cells #[.int .u8 k] 5)
  have h4 : Sep w (By (.slice (some ⟨w1.heap.size, 0, none⟩) 1 1) [UInt8.ofNat k.toNat] :: [Cl w.heap.size (opCells k sku ord n (.slice a 0 c)) 24]) (w1.alloc (.cells #[.int .u8 k] 5)) := by
    have := h3.asRow 1 rfl (by unfold maxLen; omega)
    rwa [byte1 (by omega) k9] at this
  obtain ⟨d0, d1, d2, d3, d4⟩ := op_cells h3.sw2
  obtain ⟨b2, cb, w2, hcv, hbl, hsl⟩ := conv_str (w1.alloc (.cells #[.int .u8 k] 5)) sku.1 sku.2
  have h5 := h4.below hbl
  have HT := Lib.hid (text_conv _ _ sku b2 cb sku.1.size rfl h5 hsl (by simp) (by have := HR.out; omega))
  clear h3 h4 h5 hbl hsl H2
  go_wp2_with fail
  refine HT.out.mono ?_
  rintro r0 w3 ⟨u, rfl, h6⟩
  clear c0 c1 c2 c3 c4 d0 d1 d2 d3 d4 hcv HT
  obtain ⟨c0, c1, c2, c3, c4⟩ := op_cells h6.sw2
  have HE := Lib.hid (Sep.drop (Sep.sw2 h6))
  clear h6
  go_wp2_with fail
  go_loopw [6, 64] (fun b' i wr => i = .int .i64 0 ∧ b' = u ∧ wr = w3) (fun _ _ _ => 0)
  case atStart => exact ⟨rfl, rfl, rfl⟩
  case round =>
    obtain ⟨rfl, rfl, rfl⟩ := hrel
    go_wp2_with fail
    go_ret2
    exact ⟨_, rfl, HE.out⟩
set_option maxRecDepth 100000 in
set_option maxHeartbeats 1000000 in
theorem bytes_2 {w : World} (k : Int) (sku : KS) (ord n : Int) (v : Value) (ls : List Ln) (hv : LnS w v ls) (hk : KindsAt w) (hb : okB k sku ord n ls = true) (hf : fieldsOf k = 2) :
    Calls Tryz.prog 80 #[.agg #[.int .i64 k, .string sku.1, .int .i64 ord, .int .i64 n, v]] w fun e w' => ∃ u, e = .returned (.tuple #[u, .int .i64 0]) ∧ Sep w [By u (opBs k sku ord n ls)] w' := by
  obtain ⟨k1, k9⟩ := fields_ne (by rw [hf]; decide : fieldsOf k ≠ 0)
  have hOB : opBs k sku ord n ls = [UInt8.ofNat k.toNat] ++ vint ord.toNat ∧ (1 ≤ ord ∧ ord ≤ 2147483647) ∧ ls = [] := by
    unfold okB at hb
    rw [hf] at hb
    simp [skuB, ordB, cntB, linB, nameB, qtyB, chgB] at hb
    obtain ⟨⟨⟨h1, h2, h3⟩, h5⟩, h6⟩ := hb
    unfold opBs cntBs
    rw [hf]
    rw [h6]
    exact ⟨by simp, ⟨h2, h3⟩, rfl⟩
  obtain ⟨hr, hsz, rfl⟩ := hOB
  rw [hr]
  have HR := Lib.hid hsz
  clear hsz
  obtain ⟨a, c, rfl⟩ := hv.len
  rw [List.length_nil] at hv ⊢
  have h1 := (Sep.start w).alloc (.cells (opCells k sku ord n (.slice a 0 c)) 24)
  have hc := check_any k sku ord n _ [] h1 (hv.below h1.low) (hk.below h1.low)
  rw [hb] at hc
  obtain ⟨c0, c1, c2, c3, c4⟩ := op_cells h1
  have HC : Hid (Calls Tryz.prog 91 #[.agg #[.int .i64 k, .string sku.1, .int .i64 ord, .int .i64 n, .slice a 0 c]] (w.alloc (.cells #[.int .i64 k, .string sku.1, .int .i64 ord, .int .i64 n, .slice a 0 c] 24)) fun e w' => e = .returned (.int .i64 0) ∧ Sep w [Cl w.heap.size (opCells k sku ord n (.slice a 0 c)) 24] w') := Lib.hid hc
  have HK : Hid (∀ wx, Below w.heap.size w wx → Calls Tryz.prog 112 #[.int .i64 k] wx fun e w' => e = .returned (.int .i64 2) ∧ wx = w') := Lib.hid fun wx hb => by
    have := fields_any k wx (hk.below hb)
    rwa [hf] at this
  have HV := Lib.hid hv
  unfold opCells at c0 c1 c2 c3 c4
  clear h1 hv hk hb hc hf hr
  go_enter Tryz.func80, Tryz.ntmps80
  go_wp2_with fail
  generalize w.alloc (.cells #[.int .i64 k, .string sku.1, .int .i64 ord, .int .i64 n, .slice a 0 c] 24) = wa at *


  refine HC.out.mono ?_
  rintro r0 w1 ⟨rfl, h2⟩
  clear c0 c1 c2 c3 c4
  obtain ⟨c0, c1, c2, c3, c4⟩ := op_cells h2
  have H2 := Lib.hid h2
  clear h2 HC
  go_wp2_with fail
  refine (HK.out _ H2.out.low).mono ?_
  rintro r0 w2 ⟨rfl, rfl⟩
  have h3 := H2.out.alloc (.cells #[.int .u8 k] 5)
  have h4 : Sep w (By (.slice (some ⟨w1.heap.size, 0, none⟩) 1 1) [UInt8.ofNat k.toNat] :: [Cl w.heap.size (opCells k sku ord n (.slice a 0 c)) 24]) (w1.alloc (.cells #[.int .u8 k] 5)) := by
    have := h3.asRow 1 rfl (by unfold maxLen; omega)
    rwa [byte1 (by omega) k9] at this
  obtain ⟨d0, d1, d2, d3, d4⟩ := op_cells h3.sw2
  have z0 : 0 ≤ ord := by have := HR.out; omega
  have z1 : ord ≤ 2147483647 := HR.out.2
  have HT := Lib.hid (vint_conv _ _ ord h4 (by have := HR.out; omega) (by have := HR.out; omega) (by simp))
  clear h3 h4 H2
  go_wp2_with fail
  refine HT.out.mono ?_
  rintro r0 w3 ⟨u, rfl, h6⟩
  clear HT
  clear c0 c1 c2 c3 c4 d0 d1 d2 d3 d4
  obtain ⟨c0, c1, c2, c3, c4⟩ := op_cells h6.sw2
  have HE := Lib.hid (Sep.drop (Sep.sw2 h6))
  clear h6
  go_wp2_with fail
  go_loopw [6, 64] (fun b' i wr => i = .int .i64 0 ∧ b' = u ∧ wr = w3) (fun _ _ _ => 0)
  case atStart => exact ⟨rfl, rfl, rfl⟩
  case round =>
    obtain ⟨rfl, rfl, rfl⟩ := hrel
    go_wp2_with fail
    go_ret2
    exact ⟨_, rfl, HE.out⟩
set_option maxRecDepth 100000 in
set_option maxHeartbeats 1000000 in
theorem bytes_4 {w : World} (k : Int) (sku : KS) (ord n : Int) (v : Value) (ls : List Ln) (hv : LnS w v ls) (hk : KindsAt w) (hb : okB k sku ord n ls = true) (hf : fieldsOf k = 4) :
    Calls Tryz.prog 80 #[.agg #[.int .i64 k, .string sku.1, .int .i64 ord, .int .i64 n, v]] w fun e w' => ∃ u, e = .returned (.tuple #[u, .int .i64 0]) ∧ Sep w [By u (opBs k sku ord n ls)] w' := by
  obtain ⟨k1, k9⟩ := fields_ne (by rw [hf]; decide : fieldsOf k ≠ 0)
  have hOB : opBs k sku ord n ls = [UInt8.ofNat k.toNat] ++ vint n.toNat ∧ (1 ≤ n ∧ n ≤ 2147483647) ∧ ls = [] := by
    unfold okB at hb
    rw [hf] at hb
    simp [skuB, ordB, cntB, linB, nameB, qtyB, chgB] at hb
    obtain ⟨⟨⟨h1, h2⟩, h3, h4⟩, h6⟩ := hb
    unfold opBs cntBs
    rw [hf]
    rw [h6]
    exact ⟨by simp, ⟨h3, h4⟩, rfl⟩
  obtain ⟨hr, hsz, rfl⟩ := hOB
  rw [hr]
  have HR := Lib.hid hsz
  clear hsz
  obtain ⟨a, c, rfl⟩ := hv.len
  rw [List.length_nil] at hv ⊢
  have h1 := (Sep.start w).alloc (.cells (opCells k sku ord n (.slice a 0 c)) 24)
  have hc := check_any k sku ord n _ [] h1 (hv.below h1.low) (hk.below h1.low)
  rw [hb] at hc
  obtain ⟨c0, c1, c2, c3, c4⟩ := op_cells h1
  have HC : Hid (Calls Tryz.prog 91 #[.agg #[.int .i64 k, .string sku.1, .int .i64 ord, .int .i64 n, .slice a 0 c]] (w.alloc (.cells #[.int .i64 k, .string sku.1, .int .i64 ord, .int .i64 n, .slice a 0 c] 24)) fun e w' => e = .returned (.int .i64 0) ∧ Sep w [Cl w.heap.size (opCells k sku ord n (.slice a 0 c)) 24] w') := Lib.hid hc
  have HK : Hid (∀ wx, Below w.heap.size w wx → Calls Tryz.prog 112 #[.int .i64 k] wx fun e w' => e = .returned (.int .i64 4) ∧ wx = w') := Lib.hid fun wx hb => by
    have := fields_any k wx (hk.below hb)
    rwa [hf] at this
  have HV := Lib.hid hv
  unfold opCells at c0 c1 c2 c3 c4
  clear h1 hv hk hb hc hf hr
  go_enter Tryz.func80, Tryz.ntmps80
  go_wp2_with fail
  generalize w.alloc (.cells #[.int .i64 k, .string sku.1, .int .i64 ord, .int .i64 n, .slice a 0 c] 24) = wa at *


  refine HC.out.mono ?_
  rintro r0 w1 ⟨rfl, h2⟩
  clear c0 c1 c2 c3 c4
  obtain ⟨c0, c1, c2, c3, c4⟩ := op_cells h2
  have H2 := Lib.hid h2
  clear h2 HC
  go_wp2_with fail
  refine (HK.out _ H2.out.low).mono ?_
  rintro r0 w2 ⟨rfl, rfl⟩
  have h3 := H2.out.alloc (.cells #[.int .u8 k] 5)
  have h4 : Sep w (By (.slice (some ⟨w1.heap.size, 0, none⟩) 1 1) [UInt8.ofNat k.toNat] :: [Cl w.heap.size (opCells k sku ord n (.slice a 0 c)) 24]) (w1.alloc (.cells #[.int .u8 k] 5)) := by
    have := h3.asRow 1 rfl (by unfold maxLen; omega)
    rwa [byte1 (by omega) k9] at this
  obtain ⟨d0, d1, d2, d3, d4⟩ := op_cells h3.sw2
  have zl : Hid ((0 : Nat) ≤ 0) := Lib.hid (Nat.le_refl 0)
  have z0 : 0 ≤ n := by have := HR.out; omega
  have z1 : n ≤ 9007199254740991 := by have := HR.out; omega
  have HT := Lib.hid (vint_conv _ _ n h4 z0 z1 (by first | (simp [txtB]; done) | (simp [txtB]; have := zl.out; omega)))
  clear h3 h4 H2
  go_wp2_with fail
  refine HT.out.mono ?_
  rintro r0 w3 ⟨u, rfl, h6⟩
  clear HT
  clear c0 c1 c2 c3 c4 d0 d1 d2 d3 d4
  obtain ⟨c0, c1, c2, c3, c4⟩ := op_cells h6.sw2
  have HE := Lib.hid (Sep.drop (Sep.sw2 h6))
  clear h6
  go_wp2_with fail
  go_loopw [6, 64] (fun b' i wr => i = .int .i64 0 ∧ b' = u ∧ wr = w3) (fun _ _ _ => 0)
  case atStart => exact ⟨rfl, rfl, rfl⟩
  case round =>
    obtain ⟨rfl, rfl, rfl⟩ := hrel
    go_wp2_with fail
    go_ret2
    exact ⟨_, rfl, HE.out⟩
set_option maxRecDepth 100000 in
set_option maxHeartbeats 1000000 in
theorem bytes_5 {w : World} (k : Int) (sku : KS) (ord n : Int) (v : Value) (ls : List Ln) (hv : LnS w v ls) (hk : KindsAt w) (hb : okB k sku ord n ls = true) (hf : fieldsOf k = 5) :
    Calls Tryz.prog 80 #[.agg #[.int .i64 k, .string sku.1, .int .i64 ord, .int .i64 n, v]] w fun e w' => ∃ u, e = .returned (.tuple #[u, .int .i64 0]) ∧ Sep w [By u (opBs k sku ord n ls)] w' := by
  obtain ⟨k1, k9⟩ := fields_ne (by rw [hf]; decide : fieldsOf k ≠ 0)
  have hOB : opBs k sku ord n ls = [UInt8.ofNat k.toNat] ++ txtB sku ++ vint n.toNat ∧ (sku.1.size ≤ 8 ∧ 1 ≤ n ∧ n ≤ 2147483647) ∧ ls = [] := by
    unfold okB at hb
    rw [hf] at hb
    simp [skuB, ordB, cntB, linB, nameB, qtyB, chgB] at hb
    obtain ⟨⟨⟨⟨⟨h1, h2⟩, h3⟩, h4⟩, h5, h7⟩, h6⟩ := hb
    unfold opBs cntBs
    rw [hf]
    rw [h6]
    exact ⟨by simp, ⟨h2, h5, h7⟩, rfl⟩
  obtain ⟨hr, hsz, rfl⟩ := hOB
  rw [hr]
  have HR := Lib.hid hsz
  clear hsz
  obtain ⟨a, c, rfl⟩ := hv.len
  rw [List.length_nil] at hv ⊢
  have h1 := (Sep.start w).alloc (.cells (opCells k sku ord n (.slice a 0 c)) 24)
  have hc := check_any k sku ord n _ [] h1 (hv.below h1.low) (hk.below h1.low)
  rw [hb] at hc
  obtain ⟨c0, c1, c2, c3, c4⟩ := op_cells h1
  have HC : Hid (Calls Tryz.prog 91 #[.agg #[.int .i64 k, .string sku.1, .int .i64 ord, .int .i64 n, .slice a 0 c]] (w.alloc (.cells #[.int .i64 k, .string sku.1, .int .i64 ord, .int .i64 n, .slice a 0 c] 24)) fun e w' => e = .returned (.int .i64 0) ∧ Sep w [Cl w.heap.size (opCells k sku ord n (.slice a 0 c)) 24] w') := Lib.hid hc
  have HK : Hid (∀ wx, Below w.heap.size w wx → Calls Tryz.prog 112 #[.int .i64 k] wx fun e w' => e = .returned (.int .i64 5) ∧ wx = w') := Lib.hid fun wx hb => by
    have := fields_any k wx (hk.below hb)
    rwa [hf] at this
  have HV := Lib.hid hv
  unfold opCells at c0 c1 c2 c3 c4
  clear h1 hv hk hb hc hf hr
  go_enter Tryz.func80, Tryz.ntmps80
  go_wp2_with fail
  generalize w.alloc (.cells #[.int .i64 k, .string sku.1, .int .i64 ord, .int .i64 n, .slice a 0 c] 24) = wa at *


  refine HC.out.mono ?_
  rintro r0 w1 ⟨rfl, h2⟩
  clear c0 c1 c2 c3 c4
  obtain ⟨c0, c1, c2, c3, c4⟩ := op_cells h2
  have H2 := Lib.hid h2
  clear h2 HC
  go_wp2_with fail
  refine (HK.out _ H2.out.low).mono ?_
  rintro r0 w2 ⟨rfl, rfl⟩
  have h3 := H2.out.alloc (.cells #[.int .u8 k] 5)
  have h4 : Sep w (By (.slice (some ⟨w1.heap.size, 0, none⟩) 1 1) [UInt8.ofNat k.toNat] :: [Cl w.heap.size (opCells k sku ord n (.slice a 0 c)) 24]) (w1.alloc (.cells #[.int .u8 k] 5)) := by
    have := h3.asRow 1 rfl (by unfold maxLen; omega)
    rwa [byte1 (by omega) k9] at this
  obtain ⟨d0, d1, d2, d3, d4⟩ := op_cells h3.sw2
  obtain ⟨b2, cb, w2, hcv, hbl, hsl⟩ := conv_str (w1.alloc (.cells #[.int .u8 k] 5)) sku.1 sku.2
  have h5 := h4.below hbl
  have HT := Lib.hid (text_conv _ _ sku b2 cb sku.1.size rfl h5 hsl (by simp) (by have := HR.out.1; omega))
  clear h3 h4 h5 hbl hsl H2
  go_wp2_with fail
  refine HT.out.mono ?_
  rintro r0 w3 ⟨u, rfl, h6⟩
  clear c0 c1 c2 c3 c4 d0 d1 d2 d3 d4 hcv HT
  obtain ⟨c0, c1, c2, c3, c4⟩ := op_cells h6.sw2
  have zl : Hid (sku.1.size ≤ 8 ∧ (vint sku.1.size).length ≤ 10) := Lib.hid ⟨HR.out.1, vint_len _⟩
  have z0 : 0 ≤ n := by have := HR.out.2; omega
  have z1 : n ≤ 9007199254740991 := by have := HR.out.2; omega
  have HT := Lib.hid (vint_conv _ _ n h6 z0 z1 (by first | (simp [txtB]; done) | (simp [txtB]; have := zl.out; omega)))
  clear h6
  go_wp2_with fail
  refine HT.out.mono ?_
  rintro r0 w4 ⟨u2, rfl, h7⟩
  clear HT
  clear c0 c1 c2 c3 c4 
  obtain ⟨c0, c1, c2, c3, c4⟩ := op_cells h7.sw2
  have HE := Lib.hid (Sep.drop (Sep.sw2 h7))
  clear h7
  go_wp2_with fail
  go_loopw [6, 64] (fun b' i wr => i = .int .i64 0 ∧ b' = u2 ∧ wr = w4) (fun _ _ _ => 0)
  case atStart => exact ⟨rfl, rfl, rfl⟩
  case round =>
    obtain ⟨rfl, rfl, rfl⟩ := hrel
    go_wp2_with fail
    go_ret2
    exact ⟨_, rfl, HE.out⟩
set_option maxRecDepth 100000 in
set_option maxHeartbeats 1000000 in
theorem bytes_9 {w : World} (k : Int) (sku : KS) (ord n : Int) (v : Value) (ls : List Ln) (hv : LnS w v ls) (hk : KindsAt w) (hb : okB k sku ord n ls = true) (hf : fieldsOf k = 9) :
    Calls Tryz.prog 80 #[.agg #[.int .i64 k, .string sku.1, .int .i64 ord, .int .i64 n, v]] w fun e w' => ∃ u, e = .returned (.tuple #[u, .int .i64 0]) ∧ Sep w [By u (opBs k sku ord n ls)] w' := by
  obtain ⟨k1, k9⟩ := fields_ne (by rw [hf]; decide : fieldsOf k ≠ 0)
  have hOB : opBs k sku ord n ls = [UInt8.ofNat k.toNat] ++ txtB sku ++ vint (zig n) ∧ (sku.1.size ≤ 8 ∧ -2147483647 ≤ n ∧ n ≤ 2147483647) ∧ ls = [] := by
    unfold okB at hb
    rw [hf] at hb
    simp [skuB, ordB, cntB, linB, nameB, qtyB, chgB] at hb
    obtain ⟨⟨⟨⟨⟨h1, h2⟩, h3⟩, h4⟩, ⟨h5, h7⟩, h8⟩, h6⟩ := hb
    unfold opBs cntBs
    rw [hf]
    rw [h6]
    exact ⟨by simp, ⟨h2, h7, h8⟩, rfl⟩
  obtain ⟨hr, hsz, rfl⟩ := hOB
  rw [hr]
  have HR := Lib.hid hsz
  clear hsz
  obtain ⟨a, c, rfl⟩ := hv.len
  rw [List.length_nil] at hv ⊢
  have h1 := (Sep.start w).alloc (.cells (opCells k sku ord n (.slice a 0 c)) 24)
  have hc := check_any k sku ord n _ [] h1 (hv.below h1.low) (hk.below h1.low)
  rw [hb] at hc
  obtain ⟨c0, c1, c2, c3, c4⟩ := op_cells h1
  have HC : Hid (Calls Tryz.prog 91 #[.agg #[.int .i64 k, .string sku.1, .int .i64 ord, .int .i64 n, .slice a 0 c]] (w.alloc (.cells #[.int .i64 k, .string sku.1, .int .i64 ord, .int .i64 n, .slice a 0 c] 24)) fun e w' => e = .returned (.int .i64 0) ∧ Sep w [Cl w.heap.size (opCells k sku ord n (.slice a 0 c)) 24] w') := Lib.hid hc
  have HK : Hid (∀ wx, Below w.heap.size w wx → Calls Tryz.prog 112 #[.int .i64 k] wx fun e w' => e = .returned (.int .i64 9) ∧ wx = w') := Lib.hid fun wx hb => by
    have := fields_any k wx (hk.below hb)
    rwa [hf] at this
  have HV := Lib.hid hv
  unfold opCells at c0 c1 c2 c3 c4
  clear h1 hv hk hb hc hf hr
  go_enter Tryz.func80, Tryz.ntmps80
  go_wp2_with fail
  generalize w.alloc (.cells #[.int .i64 k, .string sku.1, .int .i64 ord, .int .i64 n, .slice a 0 c] 24) = wa at *


  refine HC.out.mono ?_
  rintro r0 w1 ⟨rfl, h2⟩
  clear c0 c1 c2 c3 c4
  obtain ⟨c0, c1, c2, c3, c4⟩ := op_cells h2
  have H2 := Lib.hid h2
  clear h2 HC
  go_wp2_with fail
  refine (HK.out _ H2.out.low).mono ?_
  rintro r0 w2 ⟨rfl, rfl⟩
  have h3 := H2.out.alloc (.cells #[.int .u8 k] 5)
  have h4 : Sep w (By (.slice (some ⟨w1.heap.size, 0, none⟩) 1 1) [UInt8.ofNat k.toNat] :: [Cl w.heap.size (opCells k sku ord n (.slice a 0 c)) 24]) (w1.alloc (.cells #[.int .u8 k] 5)) := by
    have := h3.asRow 1 rfl (by unfold maxLen; omega)
    rwa [byte1 (by omega) k9] at this
  obtain ⟨d0, d1, d2, d3, d4⟩ := op_cells h3.sw2
  obtain ⟨b2, cb, w2, hcv, hbl, hsl⟩ := conv_str (w1.alloc (.cells #[.int .u8 k] 5)) sku.1 sku.2
  have h5 := h4.below hbl
  have HT := Lib.hid (text_conv _ _ sku b2 cb sku.1.size rfl h5 hsl (by simp) (by have := HR.out.1; omega))
  clear h3 h4 h5 hbl hsl H2
  go_wp2_with fail
  refine HT.out.mono ?_
  rintro r0 w3 ⟨u, rfl, h6⟩
  clear c0 c1 c2 c3 c4 d0 d1 d2 d3 d4 hcv HT
  obtain ⟨c0, c1, c2, c3, c4⟩ := op_cells h6.sw2
  have zl : Hid (sku.1.size ≤ 8 ∧ (vint sku.1.size).length ≤ 10) := Lib.hid ⟨HR.out.1, vint_len _⟩
  have zi : I64 n := by have := HR.out.2; unfold I64; omega
  have HT := Lib.hid (int_conv _ _ n h6 zi (by first | (simp [txtB]; done) | (simp [txtB]; have := zl.out; omega)))
  clear h6
  go_wp2_with fail
  refine HT.out.mono ?_
  rintro r0 w4 ⟨u2, rfl, h7⟩
  clear HT
  clear c0 c1 c2 c3 c4 
  obtain ⟨c0, c1, c2, c3, c4⟩ := op_cells h7.sw2
  have HE := Lib.hid (Sep.drop (Sep.sw2 h7))
  clear h7
  go_wp2_with fail
  go_loopw [6, 64] (fun b' i wr => i = .int .i64 0 ∧ b' = u2 ∧ wr = w4) (fun _ _ _ => 0)
  case atStart => exact ⟨rfl, rfl, rfl⟩
  case round =>
    obtain ⟨rfl, rfl, rfl⟩ := hrel
    go_wp2_with fail
    go_ret2
    exact ⟨_, rfl, HE.out⟩
theorem lnc {w0 w : World} {bq : Nat} {s : ByteArray} {q : Int} {L : List Thing} (h : Sep w0 (Cl bq #[.string s, .int .i64 q] 48 :: L) w) : w.cell? ⟨bq, 0, none⟩ = some (.string s) ∧ w.cell? ⟨bq, 1, none⟩ = some (.int .i64 q) := ⟨h.cell rfl, h.cell rfl⟩
theorem lineBs_len {l : Ln} (h : lineB l = true) : (lineBs l).length ≤ 28 := by
  simp [lineB, nameB] at h
  have h1 := vint_len l.1.1.size
  have h2 := vint_len l.2.toNat
  have h3 : l.1.1.data.toList.length = l.1.1.size := rfl
  simp only [lineBs, txtB, List.length_append, h3]
  omega
theorem flat_len : ∀ {ls : List Ln}, ls.all lineB = true → (ls.flatMap lineBs).length ≤ ls.length * 28
  | [], _ => by simp
  | l :: ls, h => by
    simp only [List.all_cons, Bool.and_eq_true] at h
    have h1 := lineBs_len h.1
    have h2 := flat_len h.2
    simp only [List.flatMap_cons, List.length_append, List.length_cons]
    omega
theorem lines_spec {ls : List Ln} (h : linesB ls = true) : 1 ≤ ls.length ∧ ls.length ≤ 4 ∧ ls.all lineB = true := by
  simp [linesB] at h
  refine ⟨h.1.1.1, h.1.1.2, ?_⟩
  rw [List.all_eq_true]
  intro l hl
  exact h.1.2 _ _ _ hl
set_option maxRecDepth 100000 in
set_option maxHeartbeats 16000000 in
theorem bytes_22 {w : World} (k : Int) (sku : KS) (ord n : Int) (v : Value) (ls : List Ln) (hv : LnS w v ls) (hk : KindsAt w) (hb : okB k sku ord n ls = true) (hf : fieldsOf k = 22) :
    Calls Tryz.prog 80 #[.agg #[.int .i64 k, .string sku.1, .int .i64 ord, .int .i64 n, v]] w fun e w' => ∃ u, e = .returned (.tuple #[u, .int .i64 0]) ∧ Sep w [By u (opBs k sku ord n ls)] w' := by
  obtain ⟨k1, k9⟩ := fields_ne (by rw [hf]; decide : fieldsOf k ≠ 0)
  have hOB : opBs k sku ord n ls = [UInt8.ofNat k.toNat] ++ vint ord.toNat ++ vint n.toNat ++ vint ls.length ++ ls.flatMap lineBs ∧ ((1 ≤ ord ∧ ord ≤ 2147483647) ∧ (1 ≤ n ∧ n ≤ 2147483647)) ∧ linesB ls = true := by
    unfold okB at hb
    rw [hf] at hb
    simp [skuB, ordB, cntB, linB, nameB, qtyB, chgB] at hb
    obtain ⟨⟨⟨h1, h2, h3⟩, h4, h5⟩, h6⟩ := hb
    unfold opBs cntBs
    rw [hf]
    exact ⟨by simp, ⟨⟨h2, h3⟩, h4, h5⟩, h6⟩
  obtain ⟨hr, hsz, hls⟩ := hOB
  obtain ⟨r, hrr⟩ : ∃ r, r = opBs k sku ord n ls := ⟨_, rfl⟩
  rw [← hrr]
  have HRR := Lib.hid (hrr.trans hr)
  clear hrr
  have HR := Lib.hid hsz
  have HL := Lib.hid (lines_spec hls)
  clear hsz hls
  obtain ⟨a, c, rfl⟩ := hv.len
  have h1 := (Sep.start w).alloc (.cells (opCells k sku ord n (.slice a ls.length c)) 24)
  have hc := check_any k sku ord n _ ls h1 (hv.below h1.low) (hk.below h1.low)
  rw [hb] at hc
  obtain ⟨c0, c1, c2, c3, c4⟩ := op_cells h1
  have HC : Hid (Calls Tryz.prog 91 #[.agg #[.int .i64 k, .string sku.1, .int .i64 ord, .int .i64 n, .slice a ls.length c]] (w.alloc (.cells #[.int .i64 k, .string sku.1, .int .i64 ord, .int .i64 n, .slice a ls.length c] 24)) fun e w' => e = .returned (.int .i64 0) ∧ Sep w [Cl w.heap.size (opCells k sku ord n (.slice a ls.length c)) 24] w') := Lib.hid hc
  have HK : Hid (∀ wx, Below w.heap.size w wx → Calls Tryz.prog 112 #[.int .i64 k] wx fun e w' => e = .returned (.int .i64 22) ∧ wx = w') := Lib.hid fun wx hb => by
    have := fields_any k wx (hk.below hb)
    rwa [hf] at this
  have HV := Lib.hid hv
  unfold opCells at c0 c1 c2 c3 c4
  clear h1 hv hk hb hc hf hr
  go_enter Tryz.func80, Tryz.ntmps80
  go_wp2_with fail
  generalize w.alloc (.cells #[.int .i64 k, .string sku.1, .int .i64 ord, .int .i64 n, .slice a ls.length c] 24) = wa at *


  refine HC.out.mono ?_
  rintro r0 w1 ⟨rfl, h2⟩
  clear c0 c1 c2 c3 c4
  obtain ⟨c0, c1, c2, c3, c4⟩ := op_cells h2
  have H2 := Lib.hid h2
  clear h2 HC
  go_wp2_with fail
  refine (HK.out _ H2.out.low).mono ?_
  rintro r0 w2 ⟨rfl, rfl⟩
  have h3 := H2.out.alloc (.cells #[.int .u8 k] 5)
  have h4 : Sep w (By (.slice (some ⟨w1.heap.size, 0, none⟩) 1 1) [UInt8.ofNat k.toNat] :: [Cl w.heap.size (opCells k sku ord n (.slice a ls.length c)) 24]) (w1.alloc (.cells #[.int .u8 k] 5)) := by
    have := h3.asRow 1 rfl (by unfold maxLen; omega)
    rwa [byte1 (by omega) k9] at this
  obtain ⟨d0, d1, d2, d3, d4⟩ := op_cells h3.sw2
  have zl : Hid ((vint ord.toNat).length ≤ 10 ∧ (vint n.toNat).length ≤ 10 ∧ (vint ls.length).length ≤ 10) := Lib.hid ⟨vint_len _, vint_len _, vint_len _⟩
  have z0 : 0 ≤ ord := by have := HR.out.1; omega
  have z1 : ord ≤ 9007199254740991 := by have := HR.out.1; omega
  have HT := Lib.hid (vint_conv _ _ ord h4 z0 z1 (by first | (simp [txtB]; done) | (simp [txtB]; have := zl.out; omega)))
  clear h3 h4 H2
  go_wp2_with fail
  refine HT.out.mono ?_
  rintro r0 w3 ⟨u, rfl, h6⟩
  clear HT
  clear c0 c1 c2 c3 c4 d0 d1 d2 d3 d4 z0 z1
  obtain ⟨c0, c1, c2, c3, c4⟩ := op_cells h6.sw2
  have z0 : 0 ≤ n := by have := HR.out.2; omega
  have z1 : n ≤ 9007199254740991 := by have := HR.out.2; omega
  have HT := Lib.hid (vint_conv _ _ n h6 z0 z1 (by first | (simp [txtB]; done) | (simp [txtB]; have := zl.out; omega)))
  clear h6
  go_wp2_with fail
  refine HT.out.mono ?_
  rintro r0 w4 ⟨u2, rfl, h7⟩
  clear HT
  clear c0 c1 c2 c3 c4 z0 z1
  obtain ⟨c0, c1, c2, c3, c4⟩ := op_cells h7.sw2
  have z0 : 0 ≤ (ls.length : Int) := by omega
  have z1 : (ls.length : Int) ≤ 9007199254740991 := by have := HL.out.2.1; omega
  have HT := Lib.hid (vint_conv _ _ (ls.length : Int) h7 z0 z1 (by first | (simp [txtB]; done) | (simp [txtB]; have := zl.out; omega)))
  clear h7
  go_wp2_with fail
  refine HT.out.mono ?_
  rintro r0 w5 ⟨u3, rfl, h8⟩
  clear HT
  clear c0 c1 c2 c3 c4 z0 z1
  obtain ⟨c0, c1, c2, c3, c4⟩ := op_cells h8.sw2
  rw [Int.toNat_natCast] at h8
  have hpl : ([UInt8.ofNat k.toNat] ++ vint ord.toNat ++ vint n.toNat ++ vint ls.length).length ≤ 31 := by simp; have := zl.out; omega
  generalize [UInt8.ofNat k.toNat] ++ vint ord.toNat ++ vint n.toNat ++ vint ls.length = pre at *
  have HP := Lib.hid hpl
  have H8 := Lib.hid h8
  clear h8 hpl zl
  go_wp2_with fail
  go_loopw [6, 64] (fun b' i wr => ∃ (j : Nat) (u' : Value), j ≤ ls.length ∧ i = .int .i64 j ∧ u' = b' ∧ Sep w (By u' (pre ++ (ls.take j).flatMap lineBs) :: [Cl w.heap.size (opCells k sku ord n (.slice a ls.length c)) 24]) wr) (fun _ i _ => ls.length - (intOf i).toNat)
  case atStart => exact ⟨0, _, by omega, rfl, rfl, by simpa using H8.out⟩
  case round =>
    obtain ⟨j, u', hj, rfl, rfl, hs⟩ := hrel
    clear H8
    have j0 : (0 : Int) ≤ (j : Int) := by omega
    have j9 : (j : Int) ≤ 4 := by have := HL.out.2.1; omega
    by_cases hjl : j < ls.length
    · have hd : decide (j < ls.length) = true := decide_eq_true hjl
      have jl : (j : Int) < (ls.length : Int) := by omega
      obtain ⟨-, -, -, bl, off, rfl, hbl, hcell⟩ := HV.out.at hjl
      obtain ⟨e0, e1⟩ := hcell wr hs.low
      have hlb : lineB ls[j] = true := (List.all_eq_true.1 HL.out.2.2) _ (List.getElem_mem hjl)
      have hlen : (pre ++ (ls.take j).flatMap lineBs).length ≤ 300 := by
        have h1 := flat_len (ls := ls.take j) (by
          rw [List.all_eq_true]
          exact fun l hl => (List.all_eq_true.1 HL.out.2.2) l (List.mem_of_mem_take hl))
        have h2 : (ls.take j).length ≤ j := List.length_take_le _ _
        have h3 := HP.out
        have h4 := HL.out.2.1
        rw [List.length_append]
        omega
      have hstep : pre ++ (ls.take (j + 1)).flatMap lineBs = pre ++ (ls.take j).flatMap lineBs ++ txtB ls[j].1 ++ vint ls[j].2.toNat := by
        rw [List.take_succ_eq_append_getElem hjl, List.flatMap_append]
        simp [lineBs]
      have hs8 : ls[j].1.1.size ≤ 8 := by simp [lineB, nameB] at hlb; exact hlb.1.1.2
      have hq0 : 0 ≤ ls[j].2 := by simp [lineB, qtyB] at hlb; omega
      have hq1 : ls[j].2 ≤ 9007199254740991 := by simp [lineB, qtyB] at hlb; omega
      have HST := Lib.hid hstep
      clear hcell hstep hlb
      generalize pre ++ (ls.take j).flatMap lineBs = now at *
      generalize ls[j] = ln at *
      clear hjl
      have h9 := hs.alloc (.cells #[.string ln.1.1, .int .i64 ln.2] 48)
      obtain ⟨bq, hbq⟩ : ∃ z, z = wr.heap.size := ⟨_, rfl⟩
      obtain ⟨wq, hwq⟩ : ∃ z, z = wr.alloc (.cells #[.string ln.1.1, .int .i64 ln.2] 48) := ⟨_, rfl⟩
      rw [← hbq, ← hwq] at h9
      obtain ⟨q0, q1⟩ := lnc h9
      have H9 := Lib.hid h9
      obtain ⟨b2, cb, w2, hcv, hbl2, hsl⟩ := conv_str wq.drew ln.1.1 ln.1.2
      have h10 := h9.drew.below hbl2
      obtain ⟨q2, q3⟩ := lnc h10
      have H10 := Lib.hid h10
      have HT := Lib.hid (text_conv _ _ ln.1 b2 cb ln.1.1.size rfl h10.sw2 hsl (by omega) (by omega))
      have HNL : Hid (now.length ≤ 300 ∧ (vint ln.1.1.size).length ≤ 10 ∧ ln.1.1.size ≤ 8) := Lib.hid ⟨hlen, vint_len _, hs8⟩
      clear hs h9 h10 hsl hbl2 hlen hs8
      have hwr : IntKind.u64.wrap ln.2 = ln.2 := by rw [IntKind.wrap_u64]; omega
      go_wp2_with fail
      rw [← hwq, ← hbq]
      clear hwq hbq e0 e1 c0 c1 c2 c3 c4
      go_region_law (first
        | (go_simp; go_at_call 31; refine Calls.mono HT.out ?_; rintro r9 w9 ⟨u9, rfl, h11⟩; have HVI := Lib.hid (vint_conv _ _ ln.2 h11 hq0 hq1 (by have := HNL.out; have h3 : ln.1.1.data.toList.length = ln.1.1.size := rfl; simp only [txtB, List.length_append, h3]; omega)); obtain ⟨q4, q5⟩ := lnc (Sep.sw2 h11); clear h11)
        | (go_simp; go_at_call 29; ((with_reducible refine Calls.mono HVI.out ?_); rintro r9 w10 ⟨u10, rfl, h12⟩; have H12 := Lib.hid h12; clear h12)))
      all_goals
        have h13 := H12.out
        rw [← HST.out] at h13
        have H13 := Lib.hid (Sep.drop (Sep.sw2 h13))
        clear h13 H12 HVI HT H10 H9 HST hcv q0 q1 q2 q3 q4 q5 hwr hq0 hq1
        go_wp2_with fail
        go_roundw
        case rel => exact ⟨j + 1, u10, of_decide_eq_true hd, by go_num, rfl, H13.out⟩
        case measure => have hkn := of_decide_eq_true hd; simp [intOf]; omega
    · have hd : decide (j < ls.length) = false := decide_eq_false hjl
      have hjn : ls.take j = ls := List.take_of_length_le (by omega)
      rw [hjn] at hs
      have HS := Lib.hid hs.sw2.drop
      clear hs hjn
      go_wp2_with fail
      go_ret2
      rw [HRR.out]
      exact ⟨u', rfl, HS.out⟩
/-- Bytes of what may be. -/
theorem bytes_ok {w0 w : World} {L : List Thing} (k : Int) (sku : KS) (ord n : Int) (v : Value) (ls : List Ln) (h : Sep w0 L w) (hv : LnS w v ls) (hk : KindsAt w) (hb : okB k sku ord n ls = true) :
    Calls Tryz.prog 80 #[.agg #[.int .i64 k, .string sku.1, .int .i64 ord, .int .i64 n, v]] w fun e w' => ∃ u, e = .returned (.tuple #[u, .int .i64 0]) ∧ Sep w0 (By u (opBs k sku ord n ls) :: L) w' := by
  have hc : Calls Tryz.prog 80 #[.agg #[.int .i64 k, .string sku.1, .int .i64 ord, .int .i64 n, v]] w fun e w' => ∃ u, e = .returned (.tuple #[u, .int .i64 0]) ∧ Sep w [By u (opBs k sku ord n ls)] w' := by
    rcases fields_cls k with h0 | h1 | h1 | h1 | h1 | h1 | h1
    · rw [okB, h0] at hb; simp at hb
    · exact bytes_5 k sku ord n v ls hv hk hb h1
    · exact bytes_9 k sku ord n v ls hv hk hb h1
    · exact bytes_22 k sku ord n v ls hv hk hb h1
    · exact bytes_2 k sku ord n v ls hv hk hb h1
    · exact bytes_4 k sku ord n v ls hv hk hb h1
    · exact bytes_1 k sku ord n v ls hv hk hb h1
  refine hc.mono ?_
  rintro e w' ⟨u, rfl, h1⟩
  exact ⟨u, rfl, h.row h1.low ((Sep.rw_ h1))⟩
end Go.Proofs.YtafkbodmiblbnaaGreatDoor
