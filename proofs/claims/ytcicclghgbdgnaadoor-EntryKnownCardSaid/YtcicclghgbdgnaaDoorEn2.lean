/- Package entry, and the document's own: Bytes. -/
import Derived.Test.YtcicclghgbdgnaaDoorEn1
import Derived.Test.YtcicclghgbdgnaaDoorRefI6
import Derived.Test.YtcicclghgbdgnaaDoorBkJ
namespace Go.Proofs.YtcicclghgbdgnaaDoor
open Go.RowKit
set_option linter.unusedVariables false
set_option linter.unusedSimpArgs false
def entBs (x : EnM) : List UInt8 := [UInt8.ofNat x.c.toNat] ++ vint x.m.toNat ++ opBs x.p.k x.p.s x.p.o x.p.n x.p.ls
theorem EnM.parts {x : EnM} (h : x.ok = true) : (0 ≤ x.c ∧ x.c < 8 ∧ 1 ≤ x.m ∧ x.m ≤ 2147483647) ∧ x.p.ok = true := by
  unfold EnM.ok at h
  obtain ⟨h1, h2⟩ := Bool.and_eq_true_iff.1 h
  rcases hd_cases x with ⟨e, _⟩ | ⟨_, h3⟩
  · rw [e] at h1; cases h1
  · exact ⟨h3, h2⟩
theorem byte_row {w0 w : World} {c : Int} {g : Nat} {L : List Thing} (h : Sep w0 (Cl g #[.int .u8 c] 5 :: L) w) (h0 : 0 ≤ c) (h9 : c ≤ 9) : Sep w0 (By (.slice (some ⟨g, 0, none⟩) 1 1) [UInt8.ofNat c.toNat] :: L) w := by
  have := h.asRow 1 rfl (by unfold maxLen; omega)
  rwa [byte1 h0 h9] at this
theorem entBs_len {x : EnM} (h : x.ok = true) : (entBs x).length ≤ 300 := by
  have h1 := opBs_len (x.parts h).2
  have h2 := vint_len x.m.toNat
  unfold entBs
  rw [List.length_append, List.length_append]
  simp only [List.length_cons, List.length_nil]
  omega
set_option maxRecDepth 100000 in
set_option maxHeartbeats 4000000 in
theorem ebytes_bad {w0 w : World} {L : List Thing} (x : EnM) (v : Value) (h : Sep w0 L w) (hv : LnS w v x.p.ls) (hk : KindsAt w) (hb : x.ok = false) :
    Calls Tryd.prog 8 #[enV x v] w fun e w' => e = .returned (.tuple #[.slice none 0 0, .int .i64 2]) ∧ Sep w0 L w' := by
  have h1 := h.alloc (.cells (enC x v) 26)
  have hlow : Below w.heap.size w (w.alloc (.cells (enC x v) 26)) := (Below.refl _ w).alloc (Nat.le_refl _) _
  have hc := echeck_any x v h1 (hv.below hlow) (hk.below hlow)
  rw [hb] at hc
  have HC := Lib.hid hc
  obtain ⟨c0, c1, c2, c3, c4, c5, c6⟩ := cells7 h1
  unfold enV at *
  unfold enC eB at *
  clear h h1 hv hk hb hlow hc
  go_enter Tryd.func8, Tryd.ntmps8
  go_wp2_with fail
  refine HC.out.mono ?_
  rintro r0 w1 ⟨rfl, h2⟩
  have H2 := Lib.hid h2.drop
  clear h2 c0 c1 c2 c3 c4 c5 c6
  go_wp2_with fail
  go_ret2
  exact ⟨rfl, H2.out⟩
set_option maxRecDepth 100000 in
set_option maxHeartbeats 4000000 in
theorem rebytes_bad {w0 w : World} {L : List Thing} (x : EnM) (v : Value) (h : Sep w0 L w) (hv : LnS w v x.p.ls) (hl : x.p.ls.length ≤ 9223372036854775807) (hb : x.ok = false) :
    Calls Tryd.prog 9 #[enV x v] w fun e w' => e = .returned (.tuple #[.slice none 0 0, .int .i64 2]) ∧ Sep w0 L w' := by
  have h1 := h.alloc (.cells (enC x v) 26)
  have hlow : Below w.heap.size w (w.alloc (.cells (enC x v) 26)) := (Below.refl _ w).alloc (Nat.le_refl _) _
  have hc := recheck_any x v h1 (hv.below hlow) hl
  rw [hb] at hc
  have HC := Lib.hid hc
  obtain ⟨c0, c1, c2, c3, c4, c5, c6⟩ := cells7 h1
  unfold enV at *
  unfold enC eB at *
  clear h h1 hv hl hb hlow hc
  go_enter Tryd.func9, Tryd.ntmps9
  go_wp2_with fail
  refine HC.out.mono ?_
  rintro r0 w1 ⟨rfl, h2⟩
  have H2 := Lib.hid h2.drop
  clear h2 c0 c1 c2 c3 c4 c5 c6
  go_wp2_with fail
  go_ret2
  exact ⟨rfl, H2.out⟩
set_option maxRecDepth 100000 in
set_option maxHeartbeats 8000000 in
theorem ebytes_ok {w : World} (x : EnM) (v : Value) (hv : LnS w v x.p.ls) (hk : KindsAt w) (hb : x.ok = true) :
    Calls Tryd.prog 8 #[enV x v] w fun e w' => ∃ u, e = .returned (.tuple #[u, .int .i64 0]) ∧ Sep w [By u (entBs x)] w' := by
  obtain ⟨⟨x0, x1, x2, x3⟩, hp⟩ := x.parts hb
  have h1 := (Sep.start w).alloc (.cells (enC x v) 26)
  have hc := echeck_any x v h1 (hv.below h1.low) (hk.below h1.low)
  rw [hb] at hc
  have HC := Lib.hid hc
  obtain ⟨c0, c1, c2, c3, c4, c5, c6⟩ := cells7 h1
  have HV := Lib.hid hv
  have HK := Lib.hid hk
  have HP := Lib.hid hp
  unfold enV at *
  unfold enC eB at *
  clear h1 hv hk hb hc hp
  go_enter Tryd.func8, Tryd.ntmps8
  go_wp2_with fail
  refine HC.out.mono ?_
  rintro r0 w1 ⟨rfl, h2⟩
  clear c0 c1 c2 c3 c4 c5 c6 HC
  obtain ⟨c0, c1, c2, c3, c4, c5, c6⟩ := cells7 h2
  have HB := Lib.hid (bytes_ok x.p.k x.p.s x.p.o x.p.n v x.p.ls h2 (HV.out.below h2.low) (HK.out.below h2.low) HP.out)
  clear h2
  go_wp2_with fail
  refine HB.out.mono ?_
  rintro r0 w2 ⟨u, rfl, h3⟩
  obtain ⟨a1, k1, rfl⟩ := h3.sl.len
  clear c0 c1 c2 c3 c4 c5 c6 HB
  obtain ⟨c0, c1, c2, c3, c4, c5, c6⟩ := cells7 h3.sw2
  have h4 := h3.alloc (.cells #[.int .u8 x.c] 5)
  have h5 := byte_row h4 x0 (by omega)
  obtain ⟨d0, d1, d2, d3, d4, d5, d6⟩ := cells7 h4.sw3
  have HT := Lib.hid (vint_conv _ _ x.m h5 (by omega) (by omega) (by simp))
  clear h3 h4 h5
  go_wp2_with fail
  refine HT.out.mono ?_
  rintro r0 w3 ⟨u2, rfl, h6⟩
  obtain ⟨a2, k2, rfl⟩ := h6.sl.len
  have hbl := opBs_len HP.out
  have hvl := vint_len x.m.toNat
  have HQ := Lib.hid (concat_lit2 _ _ _ _ w3 h6.sl h6.sw2.sl (by simp only [List.length_append, List.length_cons, List.length_nil]; omega) 27)
  have H6 := Lib.hid h6
  clear h6 HT hbl hvl c0 c1 c2 c3 c4 c5 c6 d0 d1 d2 d3 d4 d5 d6
  go_wp2_with fail
  refine HQ.out.mono ?_
  rintro r0 w4 ⟨⟨u3, rfl, ho⟩, hb⟩
  have H7 : Hid (Sep w [By u3 (entBs x)] w4) := Lib.hid ((H6.out.row hb ho).pick [0] rfl)
  clear HQ H6 ho hb
  go_wp2_with fail
  go_ret2
  exact ⟨_, rfl, H7.out⟩
set_option maxRecDepth 100000 in
set_option maxHeartbeats 8000000 in
theorem rebytes_ok {w : World} (x : EnM) (v : Value) (hv : LnS w v x.p.ls) (hb : x.ok = true) :
    Calls Tryd.prog 9 #[enV x v] w fun e w' => ∃ u, e = .returned (.tuple #[u, .int .i64 0]) ∧ Sep w [By u (entBs x)] w' := by
  obtain ⟨⟨x0, x1, x2, x3⟩, hp⟩ := x.parts hb
  have h1 := (Sep.start w).alloc (.cells (enC x v) 26)
  have hc := recheck_any x v h1 (hv.below h1.low) (by have := ok_len hp; omega)
  rw [hb] at hc
  have HC := Lib.hid hc
  obtain ⟨c0, c1, c2, c3, c4, c5, c6⟩ := cells7 h1
  have HV := Lib.hid hv
  have HP := Lib.hid hp
  unfold enV at *
  unfold enC eB at *
  clear h1 hv hb hc hp
  go_enter Tryd.func9, Tryd.ntmps9
  go_wp2_with fail
  refine HC.out.mono ?_
  rintro r0 w1 ⟨rfl, h2⟩
  clear c0 c1 c2 c3 c4 c5 c6 HC
  obtain ⟨c0, c1, c2, c3, c4, c5, c6⟩ := cells7 h2
  have HB := Lib.hid (rbytes_ok x.p.k x.p.s x.p.o x.p.n v x.p.ls h2 (HV.out.below h2.low) HP.out)
  clear h2
  go_wp2_with fail
  refine HB.out.mono ?_
  rintro r0 w2 ⟨u, rfl, h3⟩
  obtain ⟨a1, k1, rfl⟩ := h3.sl.len
  clear c0 c1 c2 c3 c4 c5 c6 HB
  obtain ⟨c0, c1, c2, c3, c4, c5, c6⟩ := cells7 h3.sw2
  have h4 := h3.alloc (.cells #[.int .u8 x.c] 5)
  have h5 := byte_row h4 x0 (by omega)
  obtain ⟨d0, d1, d2, d3, d4, d5, d6⟩ := cells7 h4.sw3
  have HT := Lib.hid (rvint_conv _ _ x.m h5 (by omega) (by omega) (by simp))
  clear h3 h4 h5
  go_wp2_with fail
  refine HT.out.mono ?_
  rintro r0 w3 ⟨u2, rfl, h6⟩
  have hbl := opBs_len HP.out
  have hvl := vint_len x.m.toNat
  obtain ⟨u3, w4, hr, h7, -⟩ := app8 (ty := 27) h6 h6.sw2.sl (by simp only [List.length_append, List.length_cons, List.length_nil]; omega)
  obtain ⟨a2, k2, rfl⟩ := h6.sl.len
  obtain ⟨a3, k3, rfl⟩ := h7.sl.len
  have HR := Lib.hid hr
  have H7 : Hid (Sep w [By _ (entBs x)] w4) := Lib.hid (h7.pick [0] rfl)
  clear h6 h7 hr HT hbl hvl c0 c1 c2 c3 c4 c5 c6 d0 d1 d2 d3 d4 d5 d6
  go_wp2_with (at_builtin; refine wpList_append_run rfl _ _ _ _ rfl rfl rfl HR.out ?_)
  go_ret2
  exact ⟨_, rfl, H7.out⟩
theorem ebytes_u {w0 w : World} {L : List Thing} (x : EnM) (v : Value) (h : Sep w0 L w) (hv : LnS w v x.p.ls) (hk : KindsAt w) :
    Calls Tryd.prog 8 #[enV x v] w (BysE w0 L x.ok (entBs x)) := by
  cases hb : x.ok with
  | true => exact (ebytes_ok x v hv hk hb).mono fun e w' ⟨u, h1, h2⟩ => ⟨u, h1, h.row h2.low (Sep.rw_ h2)⟩
  | false => exact (ebytes_bad x v h hv hk hb).mono fun e w' ⟨h1, h2⟩ => ⟨_, h1, h2.rnil _⟩
theorem rebytes_u {w0 w : World} {L : List Thing} (x : EnM) (v : Value) (h : Sep w0 L w) (hv : LnS w v x.p.ls) (hl : x.p.ls.length ≤ 9223372036854775807) :
    Calls Tryd.prog 9 #[enV x v] w (BysE w0 L x.ok (entBs x)) := by
  cases hb : x.ok with
  | true => exact (rebytes_ok x v hv hb).mono fun e w' ⟨u, h1, h2⟩ => ⟨u, h1, h.row h2.low (Sep.rw_ h2)⟩
  | false => exact (rebytes_bad x v h hv hl hb).mono fun e w' ⟨h1, h2⟩ => ⟨_, h1, h2.rnil _⟩
end Go.Proofs.YtcicclghgbdgnaaDoor
