/- Package msg, of all messages: slices.Equal of bytes, Top, SameImage, CheckImage. -/
import Derived.Test.YtcnbmeiielkigaaGreatDoorMZ19
import Derived.Test.YtcnbmeiielkigaaGreatDoorMZ03
import Derived.Test.YtcnbmeiielkigaaGreatDoorMZ06
namespace Go.Proofs.YtcnbmeiielkigaaGreatDoor
open Go Go.RowKit
set_option linter.unusedVariables false
set_option linter.unusedSimpArgs false
theorem bv_cell {w : World} {a : Option Addr} {n c : Nat} {l : List UInt8} (h : Sl w (.slice a n c) (bv l)) {i : Nat} (hi : i < l.length) : ∃ b off, a = some ⟨b, off, none⟩ ∧ n = l.length ∧ w.cell? ⟨b, off + i, none⟩ = some (.int .u8 (l[i]).toNat) := by
 rcases h with (⟨h1, h2⟩ | ⟨b, off, cap, h1, h2, h3, h4, h5⟩) | ⟨x, c', h1, h2⟩
 ·rw [bv_nil_iff] at h2; subst h2; simp at hi
 ·simp only [Value.slice.injEq] at h1
  exact ⟨b, off, h1.1, by rw [h1.2.1, bv_length], h5 i _ (bv_get l i hi)⟩
 ·rw [bv_nil_iff] at h2; subst h2; simp at hi
theorem bv_form {w : World} {v : Value} {l : List UInt8} (h : Sl w v (bv l)) : ∃ a c, v = .slice a l.length c := by
 obtain ⟨a, c, e⟩ := h.len
 rw [bv_length] at e
 exact ⟨a, c, e⟩
set_option maxRecDepth 100000 in
set_option maxHeartbeats 4000000 in
theorem eqB_any {w0 w : World} {L : List Thing} (v u : Value) (l m : List UInt8) (h : Sep w0 L w) (hv : Sl w v (bv l)) (hu : Sl w u (bv m)) (hl : l.length ≤ 1000000000) (hm : m.length ≤ 1000000000) :
  Calls Tryz.prog 59 #[v, u] w fun e w' => e = .returned (.bool (decide (l = m))) ∧ Sep w0 L w' := by
 obtain ⟨a, c, rfl⟩ := bv_form hv
 obtain ⟨a', c', rfl⟩ := bv_form hu
 obtain ⟨R, hR⟩ : ∃ R, R = decide (l = m) := ⟨_, rfl⟩
 rw [← hR]
 have HR := Lib.hid hR
 clear hR
 have HV := Lib.hid hv
 have HU := Lib.hid hu
 have H := Lib.hid (And.intro h h.low)
 have HS := Lib.hid (show ∀ wx, Below w.heap.size w wx → Sl wx (.slice a l.length c) (bv l) ∧ Sl wx (.slice a' m.length c') (bv m) from fun wx hb => ⟨hv.below hb, hu.below hb⟩)
 have H0 := Lib.hid (show Sep w [] w from Sep.start w)
 have HB := Lib.hid (fun (wx : World) (hb : Below w.heap.size w wx) => h.below hb)
 clear hv hu h
 obtain ⟨n, hn⟩ : ∃ n, n = l.length := ⟨_, rfl⟩
 obtain ⟨k, hk⟩ : ∃ k, k = m.length := ⟨_, rfl⟩
 rw [← hn, ← hk] at HS
 rw [← hn] at hl ⊢
 rw [← hk] at hm ⊢
 have HN := Lib.hid (And.intro hn hk)
 by_cases hnk : n = k
 ·subst hnk
  have hne : (n == n) = true := beq_self_eq_true n
  have HLM := Lib.hid (show l.length = m.length by rw [← HN.out.1, ← HN.out.2])
  clear hn hk H HV HU hne
  have n0 : (0 : Int) ≤ (n : Int) := by omega
  have n9 : (n : Int) ≤ 1000000000 := by omega
  go_enter Tryz.func59, Tryz.ntmps59
  (try dsimp only); repeat' (first | go_values | go_skip | go_guarded | go_step | go_upon | go_back)
  go_loopw [13] (fun iv wr => ∃ i : Nat, i ≤ n ∧ iv = .int .i64 i ∧ l.take i = m.take i ∧ Sep w [] wr) (fun iv _ => n - (intOf iv).toNat)
  case atStart => exact ⟨0, by omega, rfl, rfl, H0.out⟩
  case round =>
   obtain ⟨i, hi, rfl, ht, hs⟩ := hrel
   clear H0
   have i0 : (0 : Int) ≤ (i : Int) := by omega
   by_cases hin : i < n
   ·have e0 : decide (i < n) = true := decide_eq_true hin
    have e0' : decide ((i : Int) < (n : Int)) = true := decide_eq_true (by omega)
    have i9 : (i : Int) < (n : Int) := by omega
    have hil : i < l.length := by have := HN.out.1; omega
    have him : i < m.length := by have := HN.out.2; omega
    obtain ⟨b, off, rfl, -, g0⟩ := bv_cell (HS.out wr hs.low).1 hil
    obtain ⟨b', off', rfl, -, g1⟩ := bv_cell (HS.out wr hs.low).2 him
    by_cases hxy : l[i] = m[i]
    ·rw [← hxy] at g1
     have HT := Lib.hid (show l.take (i + 1) = m.take (i + 1) by rw [List.take_succ_eq_append_getElem hil, List.take_succ_eq_append_getElem him, ht, hxy])
     have HIN := Lib.hid hin
     have HS2 := Lib.hid hs
     generalize (l[i]).toNat = x at *
     clear hs ht hxy hil him hin hi
     (try dsimp only); repeat' (first | go_values | go_skip | go_guarded | go_step | go_upon | go_back)
     go_quiet (fail)
     (try dsimp only); repeat' (first | go_values | go_skip | go_guarded | go_step | go_upon | go_back)
     go_roundw
     case rel => exact ⟨i + 1, by have := HIN.out; omega, by go_num, HT.out, HS2.out.drewN _⟩
     case measure => have := HIN.out; simp [intOf]; omega
    ·have hxn : ((l[i]).toNat : Int) ≠ ((m[i]).toNat : Int) := fun e => hxy (UInt8.toNat_inj.1 (Int.ofNat.inj e))
     have hlm : decide (l = m) = false := decide_eq_false (fun e => hxy (by subst e; rfl))
     have HLN := Lib.hid hlm
     have HS2 := Lib.hid hs
     generalize (l[i]).toNat = x at *
     generalize (m[i]).toNat = y at *
     have d1 : ((x : Int) == (y : Int)) = false := beq_eq_false_iff_ne.2 hxn
     have d2 : (x == y) = false := beq_eq_false_iff_ne.2 (fun e => hxn (by rw [e]))
     have d3 : decide (x = y) = false := decide_eq_false (fun e => hxn (by rw [e]))
     have d4 : decide ((x : Int) = (y : Int)) = false := decide_eq_false hxn
     clear hs ht hxy hil him hin hi hxn hlm
     (try dsimp only); repeat' (first | go_values | go_skip | go_guarded | go_step | go_upon | go_back)
     go_quiet (fail)
     (try dsimp only); repeat' (first | go_values | go_skip | go_guarded | go_step | go_upon | go_back)
     go_ret
     exact ⟨by rw [HR.out, HLN.out]; rfl, HB.out _ (HS2.out.drewN _).low⟩
   ·have e0 : decide (i < n) = false := decide_eq_false hin
    have e0' : decide ((i : Int) < (n : Int)) = false := decide_eq_false (by omega)
    have hlm : decide (l = m) = true := decide_eq_true (by
     rw [List.take_of_length_le (by have := HN.out.1; omega), List.take_of_length_le (by have := HN.out.2; omega)] at ht
     exact ht)
    have HLN := Lib.hid hlm
    have HS2 := Lib.hid hs
    clear hs ht hin hi hlm
    (try dsimp only); repeat' (first | go_values | go_skip | go_guarded | go_step | go_upon | go_back)
    go_ret
    exact ⟨by rw [HR.out, HLN.out]; rfl, HB.out _ HS2.out.low⟩
 ·have d1 : (n == k) = false := beq_eq_false_iff_ne.2 hnk
  have d2 : ((n : Int) == (k : Int)) = false := beq_eq_false_iff_ne.2 (fun e => hnk (Int.ofNat.inj e))
  have d3 : decide (n = k) = false := decide_eq_false hnk
  have hlm : decide (l = m) = false := decide_eq_false (fun e => hnk (by rw [HN.out.1, HN.out.2, e]))
  have HLN := Lib.hid hlm
  have HF := Lib.hid H.out.1
  clear hn hk H HV HU hnk hlm HS H0 HB HN
  go_enter Tryz.func59, Tryz.ntmps59
  (try dsimp only); repeat' (first | go_values | go_skip | go_guarded | go_step | go_upon | go_back)
  go_ret
  exact ⟨by rw [HR.out, HLN.out]; rfl, HF.out⟩
def imgC (ib : Int) (cv ev : Value) (ic : Int) : Array Value := #[.int .i64 ib, cv, ev, .int .i64 ic]
theorem cells4i {w0 w : World} {b : Nat} {v0 v1 v2 v3 : Value} {t : TypeId} {L : List Thing} (h : Sep w0 (Cl b #[v0, v1, v2, v3] t :: L) w) :
  w.cell? ⟨b, 0, none⟩ = some v0 ∧ w.cell? ⟨b, 1, none⟩ = some v1 ∧ w.cell? ⟨b, 2, none⟩ = some v2 ∧ w.cell? ⟨b, 3, none⟩ = some v3 :=
 ⟨h.cell rfl, h.cell rfl, h.cell rfl, h.cell rfl⟩
set_option maxHeartbeats 4000000 in
theorem mtop_any {w0 w : World} {L : List Thing} (ib ic : Int) (cv : Value) (a : Option Addr) (n c : Nat) (h : Sep w0 L w) (hw : IntKind.i64.wrap (ib + (n : Int)) = ib + n) :
  Calls Tryz.prog 95 #[.agg #[.int .i64 ib, cv, .slice a n c, .int .i64 ic]] w fun e w' => e = .returned (.int .i64 (ib + n)) ∧ Sep w0 L w' := by
 have h3 := h.alloc (.cells #[.int .i64 ib, cv, .slice a n c, .int .i64 ic] 38)
 obtain ⟨c0, c1, c2, c3⟩ := cells4i h3
 have H := Lib.hid h3.drop
 clear h h3
 go_enter Tryz.func95, Tryz.ntmps95
 (try dsimp only); repeat' (first | go_values | go_skip | go_guarded | go_step | go_upon | go_back)
 go_ret
 exact ⟨rfl, H.out⟩
theorem some_r (p : Prop) : ∃ r : Bool, (r = true ↔ p) := by
 by_cases h : p
 ·exact ⟨true, by simp [h]⟩
 ·exact ⟨false, by simp [h]⟩
/-- Whether two images are the same, but for their entries. -/
def imgSame (ib ic : Int) (l : List UInt8) (jb jc : Int) (m : List UInt8) : Bool := decide (ib = jb) && decide (ic = jc) && decide (l = m)
set_option maxRecDepth 100000 in
set_option maxHeartbeats 8000000 in
theorem msameimg_w {w : World} (ib ic jb jc : Int) (cv ev cu eu : Value) (l m : List UInt8) (xs ys : List (EnM × Value)) (hcv : Sl w cv (bv l)) (hcu : Sl w cu (bv m)) (hev : EnS w ev xs) (heu : EnS w eu ys)
  (hl : l.length ≤ 1000000000) (hm : m.length ≤ 1000000000) (hx : xs.length ≤ 1000000) (hy : ys.length ≤ 1000000) :
  Calls Tryz.prog 43 #[.agg (imgC ib cv ev ic), .agg (imgC jb cu eu jc)] w fun e w' => ∃ r, e = .returned (.bool (imgSame ib ic l jb jc m && r)) ∧ (r = true ↔ SameP xs ys) ∧ Sep w [] w' := by
 obtain ⟨ca, cc, rfl⟩ := bv_form hcv
 obtain ⟨da, dc, rfl⟩ := bv_form hcu
 obtain ⟨ea, ec, rfl⟩ := hev.len
 obtain ⟨fa, fc, rfl⟩ := heu.len
 have h1 := ((Sep.start w).alloc (.cells (imgC ib (.slice ca l.length cc) (.slice ea xs.length ec) ic) 38)).alloc (.cells (imgC jb (.slice da m.length dc) (.slice fa ys.length fc) jc) 38)
 rw [show (w.alloc (.cells (imgC ib (.slice ca l.length cc) (.slice ea xs.length ec) ic) 38)).heap.size = w.heap.size + 1 by simp] at h1
 have HE := Lib.hid (eqB_any (.slice ca l.length cc) (.slice da m.length dc) l m h1 (hcv.below h1.low) (hcu.below h1.low) hl hm)
 have HR := Lib.hid (fun (wx : World) (hb : Below w.heap.size w wx) => samerow_w (w := wx) ea fa ec fc xs ys (hev.below hb) (heu.below hb) hx hy)
 obtain ⟨b1, hb1⟩ : ∃ q, q = w.heap.size := ⟨_, rfl⟩
 obtain ⟨b2, hb2⟩ : ∃ q, q = w.heap.size + 1 := ⟨_, rfl⟩
 obtain ⟨wa, hwa⟩ : ∃ q, q = (w.alloc (.cells (imgC ib (.slice ca l.length cc) (.slice ea xs.length ec) ic) 38)).alloc (.cells (imgC jb (.slice da m.length dc) (.slice fa ys.length fc) jc) 38) := ⟨_, rfl⟩
 rw [← hwa, ← hb2, ← hb1] at HE
 rw [← hwa, ← hb2, ← hb1] at h1
 unfold imgC at *
 obtain ⟨p0, p1, p2, p3⟩ := cells4i h1.sw2
 obtain ⟨q0, q1, q2, q3⟩ := cells4i h1
 have H1 := Lib.hid h1.drop.drop
 obtain ⟨R, hR⟩ := some_r (SameP xs ys)
 have HRR := Lib.hid hR
 generalize l.length = nl at *
 generalize m.length = nm at *
 generalize xs.length = nx at *
 generalize ys.length = ny at *
 clear h1 hcv hcu hev heu hl hm hx hy hR
 unfold imgSame
 by_cases hib : ib = jb
 ·subst hib
  by_cases hic : ic = jc
  ·subst hic
   go_enter Tryz.func43, Tryz.ntmps43
   (try dsimp only); repeat' (first | go_values | go_skip | go_guarded | go_step | go_upon | go_back)
   (try rw [← hwa])
   (try rw [← hb2, ← hb1])
   clear hwa hb1 hb2
   refine HE.out.mono ?_
   rintro r0 w1 ⟨rfl, h2⟩
   clear p0 p1 p2 p3 q0 q1 q2 q3 HE
   cases hlm : decide (l = m) with
   | true =>
    obtain ⟨p0, p1, p2, p3⟩ := cells4i h2.sw2
    obtain ⟨q0, q1, q2, q3⟩ := cells4i h2
    have HR2 := Lib.hid (HR.out w1 h2.low)
    have H2 := Lib.hid h2
    clear h2 HR
    (try dsimp only); repeat' (first | go_values | go_skip | go_guarded | go_step | go_upon | go_back)
    refine HR2.out.mono ?_
    rintro r1 w2 ⟨r, rfl, hr, h3⟩
    have H3 := Lib.hid (And.intro hr (H2.out.below h3.low).drop.drop)
    clear HR2 h3 hr
    (try dsimp only); repeat' (first | go_values | go_skip | go_guarded | go_step | go_upon | go_back)
    go_ret
    exact ⟨r, by show Ending.returned (Value.bool r) = _; simp [hlm], H3.out.1, H3.out.2⟩
   | false =>
    have H2 := Lib.hid h2.drop.drop
    clear h2
    (try dsimp only); repeat' (first | go_values | go_skip | go_guarded | go_step | go_upon | go_back)
    go_ret
    exact ⟨R, by show Ending.returned (Value.bool false) = _; simp [hlm], HRR.out, H2.out⟩
  ·have d1 : (ic == jc) = false := beq_eq_false_iff_ne.2 hic
   have d2 : decide (ic = jc) = false := decide_eq_false hic
   rw [d2]
   go_enter Tryz.func43, Tryz.ntmps43
   (try dsimp only); repeat' (first | go_values | go_skip | go_guarded | go_step | go_upon | go_back)
   (try rw [← hwa])
   go_ret
   exact ⟨R, by show Ending.returned (Value.bool false) = _; simp, HRR.out, H1.out⟩
 ·have d1 : (ib == jb) = false := beq_eq_false_iff_ne.2 hib
  have d2 : decide (ib = jb) = false := decide_eq_false hib
  rw [d2]
  go_enter Tryz.func43, Tryz.ntmps43
  (try dsimp only); repeat' (first | go_values | go_skip | go_guarded | go_step | go_upon | go_back)
  (try rw [← hwa])
  go_ret
  exact ⟨R, by show Ending.returned (Value.bool false) = _; simp, HRR.out, H1.out⟩
/-- Whether an image may be. -/
def ckI (ib : Int) (ck : List UInt8) (xs : List (EnM × Value)) (ic : Int) : Bool := numB ib && decide (ck.length ≤ 16384) && decide (xs.length ≤ 32) && xs.all (fun x => x.1.ok) && decide (ib ≤ ic ∧ ic ≤ ib + xs.length)
set_option maxRecDepth 100000 in
set_option maxHeartbeats 8000000 in
theorem mckimg_w {w : World} (ib ic : Int) (cv ev : Value) (l : List UInt8) (xs : List (EnM × Value)) (hcv : Sl w cv (bv l)) (hev : EnS w ev xs) (hk : KindsAt w) (hl : l.length ≤ 1000000000) (hx : xs.length ≤ 1000000) :
  Calls Tryz.prog 84 #[.agg (imgC ib cv ev ic)] w fun e w' => e = .returned (.int .i64 (if ckI ib l xs ic then 0 else 2)) ∧ Sep w [] w' := by
 obtain ⟨ca, cc, rfl⟩ := bv_form hcv
 obtain ⟨ea, ec, rfl⟩ := hev.len
 unfold ckI
 obtain ⟨nl, hnl⟩ : ∃ q, l.length = q := ⟨_, rfl⟩
 obtain ⟨n, hn⟩ : ∃ q, xs.length = q := ⟨_, rfl⟩
 rw [hnl] at hcv hl ⊢
 rw [hn] at hev hx ⊢
 have h1 := (Sep.start w).alloc (.cells (imgC ib (.slice ca nl cc) (.slice ea n ec) ic) 38)
 obtain ⟨b1, hb1⟩ : ∃ q, q = w.heap.size := ⟨_, rfl⟩
 obtain ⟨wa, hwa⟩ : ∃ q, q = w.alloc (.cells (imgC ib (.slice ca nl cc) (.slice ea n ec) ic) 38) := ⟨_, rfl⟩
 have HN := Lib.hid (isnum_any ib wa)
 rw [← hwa, ← hb1] at h1
 unfold imgC at *
 obtain ⟨p0, p1, p2, p3⟩ := cells4i h1
 have HEN := Lib.hid (fun (wx : World) (hb : Below w.heap.size w wx) => And.intro (hev.below hb) (hk.below hb))
 have H1 := Lib.hid h1
 have HNX := Lib.hid hn.symm
 have n0 : (0 : Int) ≤ (n : Int) := by omega
 have n9 : (n : Int) ≤ 1000000 := by omega
 clear h1 hcv hev hk hl hx hn hnl
 obtain ⟨R, hR⟩ : ∃ R : Int, R = if (numB ib && decide (nl ≤ 16384) && decide (n ≤ 32) && xs.all (fun x => x.1.ok) && decide (ib ≤ ic ∧ ic ≤ ib + n)) = true then 0 else 2 := ⟨_, rfl⟩
 rw [← hR]
 have HR := Lib.hid hR
 clear hR
 cases hnb : numB ib with
 | false =>
  rw [hnb] at HN HR
  go_enter Tryz.func84, Tryz.ntmps84
  (try dsimp only); repeat' (first | go_values | go_skip | go_guarded | go_step | go_upon | go_back)
  (try rw [← hwa])
  (try rw [← hb1])
  clear hwa hb1
  refine HN.out.mono ?_
  rintro r0 w1 ⟨rfl, rfl⟩
  (try dsimp only); repeat' (first | go_values | go_skip | go_guarded | go_step | go_upon | go_back)
  go_ret
  exact ⟨by rw [HR.out]; simp, H1.out.drop⟩
 | true =>
  rw [hnb] at HN HR
  have hib : 0 ≤ ib ∧ ib ≤ 9007199254740991 := of_decide_eq_true hnb
  clear hnb
  by_cases hnl : nl ≤ 16384
  ·by_cases hnx : n ≤ 32
   ·have d0 : decide (16384 < nl) = false := decide_eq_false (by omega)
    have d0' : decide ((16384 : Int) < (nl : Int)) = false := decide_eq_false (by omega)
    have d1 : decide (32 < n) = false := decide_eq_false (by omega)
    have d1' : decide ((32 : Int) < (n : Int)) = false := decide_eq_false (by omega)
    rw [show decide (nl ≤ 16384) = true from decide_eq_true hnl, show decide (n ≤ 32) = true from decide_eq_true hnx] at HR
    simp only [Bool.true_and, Bool.and_true] at HR
    have HIB := Lib.hid hib
    clear hnl hnx hib
    go_enter Tryz.func84, Tryz.ntmps84
    (try dsimp only); repeat' (first | go_values | go_skip | go_guarded | go_step | go_upon | go_back)
    (try rw [← hwa])
    (try rw [← hb1])
    clear hwa hb1
    refine HN.out.mono ?_
    rintro r0 w1 ⟨rfl, rfl⟩
    (try dsimp only); repeat' (first | go_values | go_skip | go_guarded | go_step | go_upon | go_back)
    clear HN p0 p1 p2 p3 d0 d0' d1 d1'
    go_loopw [24] (fun iv wr => ∃ i : Nat, i ≤ n ∧ iv = .int .i64 i ∧ (∀ j (h : j < xs.length), j < i → xs[j].1.ok = true) ∧ Sep w [Cl b1 #[.int .i64 ib, .slice ca nl cc, .slice ea n ec, .int .i64 ic] 38] wr) (fun iv _ => n - (intOf iv).toNat)
    case atStart => exact ⟨0, by omega, rfl, fun j _ h => by omega, H1.out⟩
    case round =>
     obtain ⟨i, hi, rfl, hok, hs⟩ := hrel
     clear H1
     have i0 : (0 : Int) ≤ (i : Int) := by omega
     by_cases hin : i < n
     ·have e0 : decide (i < n) = true := decide_eq_true hin
      have e0' : decide ((i : Int) < (n : Int)) = true := decide_eq_true (by omega)
      have i9 : (i : Int) < (n : Int) := by omega
      have hix : i < xs.length := by have := HNX.out; omega
      obtain ⟨bx, off, rfl, -, -, -, ⟨e0_, e1, e2, e3, e4, e5, e6⟩, hln⟩ := (HEN.out _ hs.low).1.at hix
      have hok' : xs[i].1.ok = true → ∀ j (h : j < xs.length), j < i + 1 → xs[j].1.ok = true := fun h0 j hj h2 => by
       rcases Nat.lt_or_ge j i with h3 | h3
       ·exact hok j hj h3
       ·obtain rfl : j = i := by omega
        exact h0
      have hno : xs[i].1.ok = false → xs.all (fun x => x.1.ok) = false := fun h0 => by
       rw [List.all_eq_false]
       exact ⟨xs[i], List.getElem_mem hix, by rw [h0]; simp⟩
      obtain ⟨⟨x, v⟩, hxv⟩ : ∃ z, z = xs[i] := ⟨_, rfl⟩
      rw [← hxv] at e0_ e1 e2 e3 e4 e5 e6 hln hok' hno
      dsimp only at e0_ e1 e2 e3 e4 e5 e6 hln hok' hno
      obtain ⟨av, kv, rfl⟩ := hln.len
      have h4 := hs.alloc (.cells (enC x (.slice av x.p.ls.length kv)) 32)
      have hlow : Below wr.heap.size wr (wr.alloc (.cells (enC x (.slice av x.p.ls.length kv)) 32)) := (Below.refl _ wr).alloc (Nat.le_refl _) _
      have HC := Lib.hid (echeck_any x (.slice av x.p.ls.length kv) h4 (hln.below hlow) (HEN.out _ h4.low).2)
      unfold enV enC at HC
      unfold enC at h4
      obtain ⟨d0, d1, d2, d3, d4, d5, d6⟩ := cells7 h4
      have HIN := Lib.hid (And.intro hin (And.intro hok' hno))
      obtain ⟨ok, hokx⟩ : ∃ z, z = x.ok := ⟨_, rfl⟩
      rw [← hokx] at HC HIN
      clear hs h4 hlow hln hxv hix hin hi hok hok' hno hokx
      (try dsimp only); repeat' (first | go_values | go_skip | go_guarded | go_step | go_upon | go_back)
      refine HC.out.mono ?_
      rintro r0 w5 ⟨rfl, h5⟩
      have H5 := Lib.hid h5.drop
      clear HC h5 e0_ e1 e2 e3 e4 e5 e6 d0 d1 d2 d3 d4 d5 d6
      cases ok with
      | true =>
       rw [show eB true = 0 from rfl]
       (try dsimp only); repeat' (first | go_values | go_skip | go_guarded | go_step | go_upon | go_back)
       go_roundw
       case rel => exact ⟨i + 1, by have := HIN.out.1; omega, by go_num, HIN.out.2.1 rfl, H5.out⟩
       case measure => have := HIN.out.1; simp [intOf]; omega
      | false =>
       rw [show eB false = 2 from rfl]
       (try dsimp only); repeat' (first | go_values | go_skip | go_guarded | go_step | go_upon | go_back)
       go_ret
       exact ⟨by rw [HR.out, HIN.out.2.2 rfl]; simp, H5.out.drop⟩
     ·have e0 : decide (i < n) = false := decide_eq_false hin
      have e0' : decide ((i : Int) < (n : Int)) = false := decide_eq_false (by omega)
      have hall : xs.all (fun x => x.1.ok) = true := by
       rw [List.all_eq_true]
       intro x hx
       obtain ⟨j, hj, rfl⟩ := List.getElem_of_mem hx
       exact hok j hj (by have := HNX.out; omega)
      rw [hall] at HR
      simp only [Bool.true_and] at HR
      obtain ⟨p0, p1, p2, p3⟩ := cells4i hs
      have HT := Lib.hid (mtop_any ib ic (.slice ca nl cc) ea n ec hs.drew (IntWalk.i64_in _ (by have := HIB.out; omega)))
      have HS := Lib.hid hs
      clear hs hok hall hin hi
      by_cases hlt : ic < ib
      ·have d0 : decide (ic < ib) = true := decide_eq_true hlt
       have hf : decide (ib ≤ ic ∧ ic ≤ ib + (n : Int)) = false := decide_eq_false (fun h => by omega)
       have HFF := Lib.hid hf
       clear hlt hf
       (try dsimp only); repeat' (first | go_values | go_skip | go_guarded | go_step | go_upon | go_back)
       go_quiet (fail)
       (try dsimp only); repeat' (first | go_values | go_skip | go_guarded | go_step | go_upon | go_back)
       go_ret
       exact ⟨by rw [HR.out, HFF.out]; simp, (HS.out.drewN _).drop⟩
      ·have d0 : decide (ic < ib) = false := decide_eq_false hlt
       obtain ⟨tp, htp⟩ : ∃ tp, tp = ib + (n : Int) := ⟨_, rfl⟩
       rw [← htp] at HT HR
       obtain ⟨bb, hbb⟩ : ∃ bb, bb = decide (tp < ic) := ⟨_, rfl⟩
       have d1 : decide (tp < ic) = bb := hbb.symm
       have HBB := Lib.hid (show decide (ib ≤ ic ∧ ic ≤ tp) = !bb by rw [hbb]; by_cases h : tp < ic <;> simp [h] <;> omega)
       clear hbb hlt htp
       cases bb with
       | true =>
        (try dsimp only); repeat' (first | go_values | go_skip | go_guarded | go_step | go_upon | go_back)
        refine wp_region_G (fun w' => w'.cell? ⟨b1, 0, none⟩ = some (.int .i64 ib) ∧ w'.cell? ⟨b1, 1, none⟩ = some (.slice ca nl cc) ∧ w'.cell? ⟨b1, 2, none⟩ = some (.slice ea n ec) ∧ w'.cell? ⟨b1, 3, none⟩ = some (.int .i64 ic)) [10, 11] (by kernel_rfl) ⟨p0, p1, p2, p3⟩ (fun hS => ?_)
        try dsimp only at hS
        refine wpAnyG_tk (i := 0) (v := ?v0_1cb1) rfl (Or.inl ⟨by rfl, ?a_⟩) hS ?b_
        case a_ => intro w hSw; (try dsimp only at hSw); go_simp; (try with_reducible rfl)
        case b_ =>
        try simp only [nz0, nz1, nz2, Act.put, nz3, nz4, nz5]
        refine wpAnyG_tk (i := 1) (v := ?v1_2cb1) rfl (Or.inl ⟨by rfl, ?a_⟩) hS ?b_
        case a_ => intro w hSw; (try dsimp only at hSw); go_simp; (try with_reducible rfl)
        case b_ =>
        try simp only [nz0, nz1, nz2, Act.put, nz3, nz4, nz5]
        refine wpAnyG_tk (i := 2) (v := ?v2_3cb1) rfl (Or.inl ⟨by rfl, ?a_⟩) hS ?b_
        case a_ => intro w hSw; (try dsimp only at hSw); go_simp; (try with_reducible rfl)
        case b_ =>
        try simp only [nz0, nz1, nz2, Act.put, nz3, nz4, nz5]
        refine wpAnyG_tk (i := 3) (v := ?v3_4cb1) rfl (Or.inl ⟨by rfl, ?a_⟩) hS ?b_
        case a_ => intro w hSw; (try dsimp only at hSw); go_simp; (try with_reducible rfl)
        case b_ =>
        try simp only [nz0, nz1, nz2, Act.put, nz3, nz4, nz5]
        refine wpAnyG_tk (i := 4) (v := ?v4_5cb1) rfl (Or.inl ⟨by rfl, ?a_⟩) hS ?b_
        case a_ => intro w hSw; (try dsimp only at hSw); go_simp; (try with_reducible rfl)
        case b_ =>
        try simp only [nz0, nz1, nz2, Act.put, nz3, nz4, nz5]
        refine wpAnyG_tk (i := 5) (v := ?v5_6cb1) rfl (Or.inl ⟨by rfl, ?a_⟩) hS ?b_
        case a_ => intro w hSw; (try dsimp only at hSw); go_simp; (try with_reducible rfl)
        case b_ =>
        try simp only [nz0, nz1, nz2, Act.put, nz3, nz4, nz5]
        refine wpAnyG_tk (i := 6) (v := ?v6_7cb1) rfl (Or.inl ⟨by rfl, ?a_⟩) hS ?b_
        case a_ => intro w hSw; (try dsimp only at hSw); go_simp; (try with_reducible rfl)
        case b_ =>
        try simp only [nz0, nz1, nz2, Act.put, nz3, nz4, nz5]
        refine wpAnyG_tk (i := 7) (v := ?v7_8cb1) rfl (Or.inl ⟨by rfl, ?a_⟩) hS ?b_
        case a_ => intro w hSw; (try dsimp only at hSw); go_simp; (try with_reducible rfl)
        case b_ =>
        try simp only [nz0, nz1, nz2, Act.put, nz3, nz4, nz5]
        refine wpAnyG_tk (i := 8) (v := ?v8_9cb1) rfl (Or.inl ⟨by rfl, ?a_⟩) hS ?b_
        case a_ => intro w hSw; (try dsimp only at hSw); go_simp; (try with_reducible rfl)
        case b_ =>
        try simp only [nz0, nz1, nz2, Act.put, nz3, nz4, nz5]
        refine wpAnyG_one (i := 9) (by kernel_rfl) rfl (fun K hK => ?_)
        go_simp
        refine Calls.mono HT.out ?_
        rintro r8 w8 ⟨rfl, h6⟩
        clear HT p0 p1 p2 p3 hS
        obtain ⟨s0, s1, s2, s3⟩ := cells4i h6
        have H6 := Lib.hid h6
        clear h6
        (try dsimp only); repeat' (first | go_values | go_skip | go_guarded | go_step | go_upon | go_back)
        refine hK.out _ _ (fun _ => ?hS10cb1) ?rest10cb1
        case hS10cb1 => exact ⟨s0, s1, s2, s3⟩
        clear K hK
        try simp only [nz0, nz1, nz2, Act.put, nz3, nz4, nz5]
        refine wpAnyG_one (i := 10) (by kernel_rfl) rfl (fun K hK => ?_)
        go_simp
        refine hK.out _ _ (fun hno => by cases hno) ?_
        clear K hK
        try simp only [nz0, nz1, nz2, Act.put, nz3, nz4, nz5]
        refine wpAnyG_one (i := 11) (by kernel_rfl) rfl (fun K hK => ?_)
        go_simp
        refine hK.out _ _ (fun hno => by cases hno) ?_
        clear K hK
        try simp only [nz0, nz1, nz2, Act.put, nz3, nz4, nz5]
        refine wpAnyG_done (by kernel_rfl) ?_ _
        try simp only [nz0, nz1, nz2, Act.put, nz3, nz4, nz5]
        (try dsimp only); repeat' (first | go_values | go_skip | go_guarded | go_step | go_upon | go_back)
        go_ret
        exact ⟨by rw [HR.out, HBB.out]; rfl, H6.out.drop⟩
       | false =>
        (try dsimp only); repeat' (first | go_values | go_skip | go_guarded | go_step | go_upon | go_back)
        refine wp_region_G (fun w' => w'.cell? ⟨b1, 0, none⟩ = some (.int .i64 ib) ∧ w'.cell? ⟨b1, 1, none⟩ = some (.slice ca nl cc) ∧ w'.cell? ⟨b1, 2, none⟩ = some (.slice ea n ec) ∧ w'.cell? ⟨b1, 3, none⟩ = some (.int .i64 ic)) [10, 11] (by kernel_rfl) ⟨p0, p1, p2, p3⟩ (fun hS => ?_)
        try dsimp only at hS
        refine wpAnyG_tk (i := 0) (v := ?v0_1cb2) rfl (Or.inl ⟨by rfl, ?a_⟩) hS ?b_
        case a_ => intro w hSw; (try dsimp only at hSw); go_simp; (try with_reducible rfl)
        case b_ =>
        try simp only [nz0, nz1, nz2, Act.put, nz3, nz4, nz5]
        refine wpAnyG_tk (i := 1) (v := ?v1_2cb2) rfl (Or.inl ⟨by rfl, ?a_⟩) hS ?b_
        case a_ => intro w hSw; (try dsimp only at hSw); go_simp; (try with_reducible rfl)
        case b_ =>
        try simp only [nz0, nz1, nz2, Act.put, nz3, nz4, nz5]
        refine wpAnyG_tk (i := 2) (v := ?v2_3cb2) rfl (Or.inl ⟨by rfl, ?a_⟩) hS ?b_
        case a_ => intro w hSw; (try dsimp only at hSw); go_simp; (try with_reducible rfl)
        case b_ =>
        try simp only [nz0, nz1, nz2, Act.put, nz3, nz4, nz5]
        refine wpAnyG_tk (i := 3) (v := ?v3_4cb2) rfl (Or.inl ⟨by rfl, ?a_⟩) hS ?b_
        case a_ => intro w hSw; (try dsimp only at hSw); go_simp; (try with_reducible rfl)
        case b_ =>
        try simp only [nz0, nz1, nz2, Act.put, nz3, nz4, nz5]
        refine wpAnyG_tk (i := 4) (v := ?v4_5cb2) rfl (Or.inl ⟨by rfl, ?a_⟩) hS ?b_
        case a_ => intro w hSw; (try dsimp only at hSw); go_simp; (try with_reducible rfl)
        case b_ =>
        try simp only [nz0, nz1, nz2, Act.put, nz3, nz4, nz5]
        refine wpAnyG_tk (i := 5) (v := ?v5_6cb2) rfl (Or.inl ⟨by rfl, ?a_⟩) hS ?b_
        case a_ => intro w hSw; (try dsimp only at hSw); go_simp; (try with_reducible rfl)
        case b_ =>
        try simp only [nz0, nz1, nz2, Act.put, nz3, nz4, nz5]
        refine wpAnyG_tk (i := 6) (v := ?v6_7cb2) rfl (Or.inl ⟨by rfl, ?a_⟩) hS ?b_
        case a_ => intro w hSw; (try dsimp only at hSw); go_simp; (try with_reducible rfl)
        case b_ =>
        try simp only [nz0, nz1, nz2, Act.put, nz3, nz4, nz5]
        refine wpAnyG_tk (i := 7) (v := ?v7_8cb2) rfl (Or.inl ⟨by rfl, ?a_⟩) hS ?b_
        case a_ => intro w hSw; (try dsimp only at hSw); go_simp; (try with_reducible rfl)
        case b_ =>
        try simp only [nz0, nz1, nz2, Act.put, nz3, nz4, nz5]
        refine wpAnyG_tk (i := 8) (v := ?v8_9cb2) rfl (Or.inl ⟨by rfl, ?a_⟩) hS ?b_
        case a_ => intro w hSw; (try dsimp only at hSw); go_simp; (try with_reducible rfl)
        case b_ =>
        try simp only [nz0, nz1, nz2, Act.put, nz3, nz4, nz5]
        refine wpAnyG_one (i := 9) (by kernel_rfl) rfl (fun K hK => ?_)
        go_simp
        refine Calls.mono HT.out ?_
        rintro r8 w8 ⟨rfl, h6⟩
        clear HT p0 p1 p2 p3 hS
        obtain ⟨s0, s1, s2, s3⟩ := cells4i h6
        have H6 := Lib.hid h6
        clear h6
        (try dsimp only); repeat' (first | go_values | go_skip | go_guarded | go_step | go_upon | go_back)
        refine hK.out _ _ (fun _ => ?hS10cb2) ?rest10cb2
        case hS10cb2 => exact ⟨s0, s1, s2, s3⟩
        clear K hK
        try simp only [nz0, nz1, nz2, Act.put, nz3, nz4, nz5]
        refine wpAnyG_one (i := 10) (by kernel_rfl) rfl (fun K hK => ?_)
        go_simp
        refine hK.out _ _ (fun hno => by cases hno) ?_
        clear K hK
        try simp only [nz0, nz1, nz2, Act.put, nz3, nz4, nz5]
        refine wpAnyG_one (i := 11) (by kernel_rfl) rfl (fun K hK => ?_)
        go_simp
        refine hK.out _ _ (fun hno => by cases hno) ?_
        clear K hK
        try simp only [nz0, nz1, nz2, Act.put, nz3, nz4, nz5]
        refine wpAnyG_done (by kernel_rfl) ?_ _
        try simp only [nz0, nz1, nz2, Act.put, nz3, nz4, nz5]
        (try dsimp only); repeat' (first | go_values | go_skip | go_guarded | go_step | go_upon | go_back)
        go_ret
        exact ⟨by rw [HR.out, HBB.out]; rfl, H6.out.drop⟩
   ·have d0 : decide (16384 < nl) = false := decide_eq_false (by omega)
    have d0' : decide ((16384 : Int) < (nl : Int)) = false := decide_eq_false (by omega)
    have d1 : decide (32 < n) = true := decide_eq_true (by omega)
    have d1' : decide ((32 : Int) < (n : Int)) = true := decide_eq_true (by omega)
    rw [show decide (n ≤ 32) = false from decide_eq_false hnx] at HR
    go_enter Tryz.func84, Tryz.ntmps84
    (try dsimp only); repeat' (first | go_values | go_skip | go_guarded | go_step | go_upon | go_back)
    (try rw [← hwa])
    (try rw [← hb1])
    clear hwa hb1
    refine HN.out.mono ?_
    rintro r0 w1 ⟨rfl, rfl⟩
    (try dsimp only); repeat' (first | go_values | go_skip | go_guarded | go_step | go_upon | go_back)
    go_ret
    exact ⟨by rw [HR.out]; simp, H1.out.drop⟩
  ·have d0 : decide (16384 < nl) = true := decide_eq_true (by omega)
   have d0' : decide ((16384 : Int) < (nl : Int)) = true := decide_eq_true (by omega)
   rw [show decide (nl ≤ 16384) = false from decide_eq_false hnl] at HR
   go_enter Tryz.func84, Tryz.ntmps84
   (try dsimp only); repeat' (first | go_values | go_skip | go_guarded | go_step | go_upon | go_back)
   (try rw [← hwa])
   (try rw [← hb1])
   clear hwa hb1
   refine HN.out.mono ?_
   rintro r0 w1 ⟨rfl, rfl⟩
   (try dsimp only); repeat' (first | go_values | go_skip | go_guarded | go_step | go_upon | go_back)
   go_ret
   exact ⟨by rw [HR.out]; simp, H1.out.drop⟩
end Go.Proofs.YtcnbmeiielkigaaGreatDoor
