/- Package msg, of all messages: what is asked of fields; Check. -/
import Derived.Test.YtcnbmeiielkigaaGreatDoorMMg1
import Derived.Test.YtcnbmeiielkigaaGreatDoorMPx2
import Derived.Test.YtcnbmeiielkigaaGreatDoorMZ05
import Derived.Test.YtcnbmeiielkigaaGreatDoorMZ10
namespace Go.Proofs.YtcnbmeiielkigaaGreatDoor
open Go Go.RowKit
set_option linter.unusedVariables false
set_option linter.unusedSimpArgs false
/-- Whether a kind has a field. -/
def bit (has i : Int) : Bool := !(bits BinOp.and IntKind.i64 has i == 0)
theorem bit_cases (has i : Int) : (bit has i = true ∧ (bits BinOp.and IntKind.i64 has i == 0) = false) ∨ (bit has i = false ∧ (bits BinOp.and IntKind.i64 has i == 0) = true) := by
 unfold bit
 cases (bits BinOp.and IntKind.i64 has i == 0) with
 | true => exact .inr ⟨rfl, rfl⟩
 | false => exact .inl ⟨rfl, rfl⟩
theorem bit_fact (has i : Int) : (bits BinOp.and IntKind.i64 has i != 0) = bit has i := rfl
def enZ0 : EnM := ⟨0, 0, ⟨0, zS, 0, 0, []⟩⟩
def opSameZ (p : OpM) : Bool := sameB p.k p.s p.o p.n p.ls 0 zS 0 0 []
def fEB (has : Int) (x : EnM) : Bool := if bit has 16 then x.ok else if bit has 32 then hdB x.c x.m && opSameZ x.p else enSame x enZ0
theorem lnNilM (w : World) : LnS w (.slice none 0 0) [] := nil0.ln w
set_option maxRecDepth 100000 in
set_option maxHeartbeats 8000000 in
theorem gfitsE_w {w : World} (has : Int) (x : EnM) (v : Value) (hv : LnS w v x.p.ls) (hk : KindsAt w) :
  Calls Tryz.prog 54 #[.int .i64 has, enV x v] w fun e w' => e = .returned (.bool (fEB has x)) ∧ Sep w [] w' := by
 obtain ⟨av, kv, rfl⟩ := hv.len
 have hl := lns_maxl hv
 have h1 := (Sep.start w).alloc (.cells (enC x (.slice av x.p.ls.length kv)) 32)
 have HC := Lib.hid (echeck_any x (.slice av x.p.ls.length kv) h1 (hv.below h1.low) (hk.below h1.low))
 have HS := Lib.hid (same_any x.p.k x.p.s x.p.o x.p.n (.slice av x.p.ls.length kv) x.p.ls 0 zS 0 0 (.slice none 0 0) [] h1 (hv.below h1.low) (lnNilM _) hl)
 have HE := Lib.hid (esame_any x enZ0 (.slice av x.p.ls.length kv) (.slice none 0 0) h1 (hv.below h1.low) (lnNilM _) hl)
 obtain ⟨b1, hb1⟩ : ∃ q, q = w.heap.size := ⟨_, rfl⟩
 obtain ⟨wa, hwa⟩ : ∃ q, q = w.alloc (.cells (enC x (.slice av x.p.ls.length kv)) 32) := ⟨_, rfl⟩
 rw [← hwa, ← hb1] at HC HS HE h1
 unfold enV enC at *
 obtain ⟨c0, c1, c2, c3, c4, c5, c6⟩ := cells7 h1
 have H1 := Lib.hid h1.drop
 have hsz : opSameZ x.p = sameB x.p.k x.p.s x.p.o x.p.n x.p.ls 0 zS 0 0 [] := rfl
 rw [← hsz] at HS
 unfold fEB
 dsimp only [enZ0] at HE
 obtain ⟨es, hes⟩ : ∃ es, es = enSame x enZ0 := ⟨_, rfl⟩
 have hes' : enSame x { c := 0, m := 0, p := { k := 0, s := zS, o := 0, n := 0, ls := [] } } = es := hes.symm
 rw [hes'] at HE
 rw [← hes]
 obtain ⟨ok, hok⟩ : ∃ ok, ok = x.ok := ⟨_, rfl⟩
 rw [← hok] at HC ⊢
 generalize opSameZ x.p = oz at *
 have hcs := hdB_cases x.c x.m
 generalize x.p.ls.length = nl at *
 clear h1 hv hk hl hsz hes hes' hok
 generalize x.c = xc at *
 generalize x.m = xm at *
 generalize x.p.k = xk at *
 generalize x.p.s = xs at *
 generalize x.p.o = xo at *
 generalize x.p.n = xn at *
 rcases bit_cases has 16 with ⟨k1, k2⟩ | ⟨k1, k2⟩
 ·rw [if_pos k1]
  clear k1
  go_enter Tryz.func54, Tryz.ntmps54
  (try dsimp only); repeat' (first | go_values | go_skip | go_guarded | go_step | go_upon | go_back)
  (try rw [← hwa])
  (try rw [← hb1])
  clear hwa hb1
  refine HC.out.mono ?_
  rintro r0 w1 ⟨rfl, h2⟩
  have H2 := Lib.hid h2.drop
  clear h2
  cases ok
  ·rw [show eB false = 2 from rfl]
   (try dsimp only); repeat' (first | go_values | go_skip | go_guarded | go_step | go_upon | go_back)
   go_ret
   exact ⟨rfl, H2.out⟩
  ·rw [show eB true = 0 from rfl]
   (try dsimp only); repeat' (first | go_values | go_skip | go_guarded | go_step | go_upon | go_back)
   go_ret
   exact ⟨rfl, H2.out⟩
 ·rw [if_neg (by rw [k1]; simp)]
  clear k1
  rcases bit_cases has 32 with ⟨j1, j2⟩ | ⟨j1, j2⟩
  ·rw [if_pos j1]
   clear j1
   rcases hcs with ⟨e, hx⟩ | ⟨e, x0, x1, x2, x3⟩
   ·rw [e, Bool.false_and]
    clear e
    rcases hx with x0 | ⟨x0, x1⟩ | ⟨x0, x1, x2⟩ | ⟨x0, x1, x2, x3⟩
    ·have d0 : decide (0 ≤ xc) = false := decide_eq_false (by omega)
     go_enter Tryz.func54, Tryz.ntmps54
     (try dsimp only); repeat' (first | go_values | go_skip | go_guarded | go_step | go_upon | go_back)
     (try rw [← hwa])
     go_ret
     exact ⟨rfl, H1.out⟩
    ·have d0 : decide (0 ≤ xc) = true := decide_eq_true (by omega)
     have d1 : decide (xc < 8) = false := decide_eq_false (by omega)
     go_enter Tryz.func54, Tryz.ntmps54
     (try dsimp only); repeat' (first | go_values | go_skip | go_guarded | go_step | go_upon | go_back)
     (try rw [← hwa])
     go_ret
     exact ⟨rfl, H1.out⟩
    ·have d0 : decide (0 ≤ xc) = true := decide_eq_true (by omega)
     have d1 : decide (xc < 8) = true := decide_eq_true (by omega)
     have d2 : decide (1 ≤ xm) = false := decide_eq_false (by omega)
     go_enter Tryz.func54, Tryz.ntmps54
     (try dsimp only); repeat' (first | go_values | go_skip | go_guarded | go_step | go_upon | go_back)
     (try rw [← hwa])
     go_ret
     exact ⟨rfl, H1.out⟩
    ·have d0 : decide (0 ≤ xc) = true := decide_eq_true (by omega)
     have d1 : decide (xc < 8) = true := decide_eq_true (by omega)
     have d2 : decide (1 ≤ xm) = true := decide_eq_true (by omega)
     have d3 : decide (xm ≤ 2147483647) = false := decide_eq_false (by omega)
     go_enter Tryz.func54, Tryz.ntmps54
     (try dsimp only); repeat' (first | go_values | go_skip | go_guarded | go_step | go_upon | go_back)
     (try rw [← hwa])
     go_ret
     exact ⟨rfl, H1.out⟩
   ·rw [e, Bool.true_and]
    clear e
    have d0 : decide (0 ≤ xc) = true := decide_eq_true (by omega)
    have d1 : decide (xc < 8) = true := decide_eq_true (by omega)
    have d2 : decide (1 ≤ xm) = true := decide_eq_true (by omega)
    have d3 : decide (xm ≤ 2147483647) = true := decide_eq_true (by omega)
    go_enter Tryz.func54, Tryz.ntmps54
    (try dsimp only); repeat' (first | go_values | go_skip | go_guarded | go_step | go_upon | go_back)
    (try rw [← hwa])
    (try rw [← hb1])
    clear hwa hb1
    refine HS.out.mono ?_
    rintro r0 w1 ⟨rfl, h2⟩
    have H2 := Lib.hid h2.drop
    clear h2
    (try dsimp only); repeat' (first | go_values | go_skip | go_guarded | go_step | go_upon | go_back)
    go_ret
    exact ⟨rfl, H2.out⟩
  ·rw [if_neg (by rw [j1]; simp)]
   clear j1
   go_enter Tryz.func54, Tryz.ntmps54
   (try dsimp only); repeat' (first | go_values | go_skip | go_guarded | go_step | go_upon | go_back)
   (try rw [← hwa])
   (try rw [← hb1])
   clear hwa hb1
   refine HE.out.mono ?_
   rintro r0 w1 ⟨rfl, h2⟩
   have H2 := Lib.hid h2.drop
   clear h2
   (try dsimp only); repeat' (first | go_values | go_skip | go_guarded | go_step | go_upon | go_back)
   go_ret
   exact ⟨rfl, H2.out⟩
def fRB (has rc ra rb : Int) (s : Bool) : Bool := if bit has 64 then resB rc ra rb else decide (rc = 0 ∧ ra = 0 ∧ rb = 0) && !s
set_option maxRecDepth 100000 in
set_option maxHeartbeats 8000000 in
theorem gfitsR_w {w : World} (has rc ra rb : Int) (s : Bool) :
  Calls Tryz.prog 55 #[.int .i64 has, .agg #[.int .i64 rc, .int .i64 ra, .int .i64 rb], .bool s] w fun e w' => e = .returned (.bool (fRB has rc ra rb s)) ∧ Sep w [] w' := by
 have h1 := (Sep.start w).alloc (.cells #[.int .i64 rc, .int .i64 ra, .int .i64 rb] 34)
 obtain ⟨b1, hb1⟩ : ∃ q, q = w.heap.size := ⟨_, rfl⟩
 obtain ⟨wa, hwa⟩ : ∃ q, q = w.alloc (.cells #[.int .i64 rc, .int .i64 ra, .int .i64 rb] 34) := ⟨_, rfl⟩
 rw [← hwa, ← hb1] at h1
 have HR := Lib.hid (res_any rc ra rb wa)
 have c0 := h1.cell (o := 0) (x := .int .i64 rc) rfl
 have c1 := h1.cell (o := 1) (x := .int .i64 ra) rfl
 have c2 := h1.cell (o := 2) (x := .int .i64 rb) rfl
 have H1 := Lib.hid h1.drop
 clear h1
 unfold fRB
 rcases bit_cases has 64 with ⟨k1, k2⟩ | ⟨k1, k2⟩
 ·rw [if_pos k1]
  clear k1
  generalize resB rc ra rb = ok at *
  go_enter Tryz.func55, Tryz.ntmps55
  (try dsimp only); repeat' (first | go_values | go_skip | go_guarded | go_step | go_upon | go_back)
  (try rw [← hwa])
  (try rw [← hb1])
  clear hwa hb1
  refine HR.out.mono ?_
  rintro r0 w1 ⟨rfl, rfl⟩
  have H2 := Lib.hid (H1.out.alloc0 (.cells #[.int .i64 rc, .int .i64 ra, .int .i64 rb] 34))
  cases ok
  ·rw [show okE false = 2 from rfl]
   (try dsimp only); repeat' (first | go_values | go_skip | go_guarded | go_step | go_upon | go_back)
   go_ret
   exact ⟨rfl, H2.out⟩
  ·rw [show okE true = 0 from rfl]
   (try dsimp only); repeat' (first | go_values | go_skip | go_guarded | go_step | go_upon | go_back)
   go_ret
   exact ⟨rfl, H2.out⟩
 ·rw [if_neg (by rw [k1]; simp)]
  clear k1 HR
  by_cases h0 : rc = 0
  ·by_cases h2 : ra = 0
   ·by_cases h3 : rb = 0
    ·subst h0 h2 h3
     cases s
     ·go_enter Tryz.func55, Tryz.ntmps55
      (try dsimp only); repeat' (first | go_values | go_skip | go_guarded | go_step | go_upon | go_back)
      (try rw [← hwa])
      go_ret
      exact ⟨rfl, H1.out⟩
     ·go_enter Tryz.func55, Tryz.ntmps55
      (try dsimp only); repeat' (first | go_values | go_skip | go_guarded | go_step | go_upon | go_back)
      (try rw [← hwa])
      go_ret
      exact ⟨rfl, H1.out⟩
    ·have d1 : (rb == 0) = false := beq_eq_false_iff_ne.2 h3
     have hf : decide (rc = 0 ∧ ra = 0 ∧ rb = 0) = false := decide_eq_false (fun h => h3 h.2.2)
     rw [hf, Bool.false_and]
     subst h0 h2
     clear hf h3
     go_enter Tryz.func55, Tryz.ntmps55
     (try dsimp only); repeat' (first | go_values | go_skip | go_guarded | go_step | go_upon | go_back)
     (try rw [← hwa])
     go_ret
     exact ⟨rfl, H1.out⟩
   ·have d1 : (ra == 0) = false := beq_eq_false_iff_ne.2 h2
    have hf : decide (rc = 0 ∧ ra = 0 ∧ rb = 0) = false := decide_eq_false (fun h => h2 h.2.1)
    rw [hf, Bool.false_and]
    subst h0
    clear hf h2
    go_enter Tryz.func55, Tryz.ntmps55
    (try dsimp only); repeat' (first | go_values | go_skip | go_guarded | go_step | go_upon | go_back)
    (try rw [← hwa])
    go_ret
    exact ⟨rfl, H1.out⟩
  ·have d1 : (rc == 0) = false := beq_eq_false_iff_ne.2 h0
   have hf : decide (rc = 0 ∧ ra = 0 ∧ rb = 0) = false := decide_eq_false (fun h => h0 h.1)
   rw [hf, Bool.false_and]
   clear hf h0
   go_enter Tryz.func55, Tryz.ntmps55
   (try dsimp only); repeat' (first | go_values | go_skip | go_guarded | go_step | go_upon | go_back)
   (try rw [← hwa])
   go_ret
   exact ⟨rfl, H1.out⟩
def fIB (has ib : Int) (l : List UInt8) (xs : List (EnM × Value)) (ic : Int) : Bool := if bit has 128 then ckI ib l xs ic else imgSame ib ic l 0 0 [] && decide (xs.length = 0)
theorem sameP_nil (xs : List (EnM × Value)) (r : Bool) (h : r = true ↔ SameP xs []) : r = decide (xs.length = 0) := by
 by_cases e : xs.length = 0
 ·rw [decide_eq_true e]
  exact h.2 ⟨e, fun j hj => by omega⟩
 ·rw [decide_eq_false e]
  cases r
  ·rfl
  ·exact absurd (h.1 rfl).1 e
set_option maxRecDepth 100000 in
set_option maxHeartbeats 8000000 in
theorem gfitsI_w {w : World} (has ib ic : Int) (cv ev : Value) (l : List UInt8) (xs : List (EnM × Value)) (hcv : Sl w cv (bv l)) (hev : EnS w ev xs) (hk : KindsAt w) (hl : l.length ≤ 1000000000) (hx : xs.length ≤ 1000000) :
  Calls Tryz.prog 56 #[.int .i64 has, .agg (imgC ib cv ev ic)] w fun e w' => e = .returned (.bool (fIB has ib l xs ic)) ∧ Sep w [] w' := by
 have h1 := (Sep.start w).alloc (.cells (imgC ib cv ev ic) 38)
 obtain ⟨wa, hwa⟩ : ∃ q, q = w.alloc (.cells (imgC ib cv ev ic) 38) := ⟨_, rfl⟩
 obtain ⟨b1, hb1⟩ : ∃ q, q = w.heap.size := ⟨_, rfl⟩
 rw [← hwa, ← hb1] at h1
 have HC := Lib.hid (mckimg_w (w := wa) ib ic cv ev l xs (hcv.below h1.low) (hev.below h1.low) (hk.below h1.low) hl hx)
 have HS := Lib.hid (msameimg_w (w := wa) ib ic 0 0 cv ev (.slice none 0 0) (.slice none 0 0) l [] xs [] (hcv.below h1.low) (.inl (.inl ⟨rfl, rfl⟩)) (hev.below h1.low) (.inl ⟨none, 0, rfl, rfl⟩) hl (by simp) hx (by simp))
 obtain ⟨ca, cc, rfl⟩ := bv_form hcv
 obtain ⟨ea, ec, rfl⟩ := hev.len
 unfold imgC at *
 obtain ⟨c0, c1, c2, c3⟩ := cells4i h1
 have H1 := Lib.hid h1.drop
 unfold fIB
 obtain ⟨iS, hiS⟩ : ∃ q, q = imgSame ib ic l 0 0 [] := ⟨_, rfl⟩
 rw [← hiS] at HS ⊢
 obtain ⟨iC, hiC⟩ : ∃ q, q = ckI ib l xs ic := ⟨_, rfl⟩
 rw [← hiC] at HC ⊢
 have HN := Lib.hid (sameP_nil xs)
 generalize decide (xs.length = 0) = z at *
 generalize l.length = nl at *
 generalize xs.length = nx at *
 clear h1 hcv hev hk hl hx hiS hiC
 rcases bit_cases has 128 with ⟨k1, k2⟩ | ⟨k1, k2⟩
 ·rw [if_pos k1]
  clear k1
  go_enter Tryz.func56, Tryz.ntmps56
  (try dsimp only); repeat' (first | go_values | go_skip | go_guarded | go_step | go_upon | go_back)
  (try rw [← hwa])
  (try rw [← hb1])
  clear hwa hb1
  refine HC.out.mono ?_
  rintro r0 w1 ⟨rfl, h2⟩
  have H2 := Lib.hid (H1.out.below h2.low)
  clear h2
  cases iC
  ·rw [if_neg (by simp)]
   (try dsimp only); repeat' (first | go_values | go_skip | go_guarded | go_step | go_upon | go_back)
   go_ret
   exact ⟨rfl, H2.out⟩
  ·rw [if_pos rfl]
   (try dsimp only); repeat' (first | go_values | go_skip | go_guarded | go_step | go_upon | go_back)
   go_ret
   exact ⟨rfl, H2.out⟩
 ·rw [if_neg (by rw [k1]; simp)]
  clear k1
  go_enter Tryz.func56, Tryz.ntmps56
  (try dsimp only); repeat' (first | go_values | go_skip | go_guarded | go_step | go_upon | go_back)
  (try rw [← hwa])
  (try rw [← hb1])
  clear hwa hb1
  refine HS.out.mono ?_
  rintro r0 w1 ⟨r, rfl, hr, h2⟩
  have H2 := Lib.hid (H1.out.below h2.low)
  obtain rfl : r = z := HN.out r hr
  clear h2 hr
  (try dsimp only); repeat' (first | go_values | go_skip | go_guarded | go_step | go_upon | go_back)
  go_ret
  exact ⟨rfl, H2.out⟩
/-- A message. -/
structure MgM where
 k : Int
 f : Int
 t : Int
 v : Int
 o : Int
 cm : Int
 la : Int
 en : EnM
 lv : Value
 rc : Int
 ra : Int
 rb : Int
 s : Bool
 ib : Int
 ck : List UInt8
 cv : Value
 ps : List (EnM × Value)
 ev : Value
 ic : Int
def mgC (g : MgM) : Array Value := #[.int .i64 g.k, .int .i64 g.f, .int .i64 g.t, .int .i64 g.v, .int .i64 g.o, .int .i64 g.cm, .int .i64 g.la, .int .i64 g.en.c, .int .i64 g.en.m, .int .i64 g.en.p.k, .string g.en.p.s.1, .int .i64 g.en.p.o, .int .i64 g.en.p.n, g.lv, .int .i64 g.rc, .int .i64 g.ra, .int .i64 g.rb, .bool g.s, .int .i64 g.ib, g.cv, g.ev, .int .i64 g.ic]
/-- What it has lies there. -/
def GmS (w : World) (g : MgM) : Prop := LnS w g.lv g.en.p.ls ∧ Sl w g.cv (bv g.ck) ∧ EnS w g.ev g.ps
theorem GmS.below {w w' : World} {g : MgM} (h : GmS w g) (hb : Below w.heap.size w w') : GmS w' g := ⟨h.1.below hb, h.2.1.below hb, h.2.2.below hb⟩
def chkB (g : MgM) : Bool := !(mfieldsOf g.k == 0) && (partB g.f && (partB g.t && (holdsB (bit (mfieldsOf g.k) 1) g.v && (holdsB (bit (mfieldsOf g.k) 2) g.o && (holdsB (bit (mfieldsOf g.k) 4) g.cm && (holdsB (bit (mfieldsOf g.k) 8) g.la && (fEB (mfieldsOf g.k) g.en && (fRB (mfieldsOf g.k) g.rc g.ra g.rb g.s && fIB (mfieldsOf g.k) g.ib g.ck g.ps g.ic))))))))
set_option maxRecDepth 100000 in
set_option maxHeartbeats 16000000 in
theorem gcheck_w {w : World} (g : MgM) (hg : GmS w g) (hk : KindsAt w) (hM : MKindsAt w) (hl : g.ck.length ≤ 1000000000) (hx : g.ps.length ≤ 1000000) :
  Calls Tryz.prog 39 #[.agg (mgC g)] w fun e w' => e = .returned (.int .i64 (if chkB g then 0 else 2)) ∧ Sep w [] w' := by
 obtain ⟨hg1, hg2, hg3⟩ := hg
 have h1 := (Sep.start w).alloc (.cells (mgC g) 40)
 obtain ⟨wa, hwa⟩ : ∃ q, q = w.alloc (.cells (mgC g) 40) := ⟨_, rfl⟩
 obtain ⟨bm, hbm⟩ : ∃ q, q = w.heap.size := ⟨_, rfl⟩
 rw [← hwa, ← hbm] at h1
 have HF := Lib.hid (mfields_any g.k wa (hM.below h1.low))
 have HP := Lib.hid (fun n => part_any n wa)
 have HH := Lib.hid (fun t n => holds_any t n wa)
 obtain ⟨has, hhas⟩ : ∃ q, q = mfieldsOf g.k := ⟨_, rfl⟩
 have HE := Lib.hid (gfitsE_w (w := wa) has g.en g.lv (hg1.below h1.low) (hk.below h1.low))
 have HR := Lib.hid (fun wx => gfitsR_w (w := wx) has g.rc g.ra g.rb g.s)
 have HI := Lib.hid (fun (wx : World) (hb : Below w.heap.size w wx) => gfitsI_w (w := wx) has g.ib g.ic g.cv g.ev g.ck g.ps (hg2.below hb) (hg3.below hb) (hk.below hb) hl hx)
 obtain ⟨la, lc, hlv⟩ := hg1.len
 obtain ⟨ca, cc, hcv⟩ := bv_form hg2
 obtain ⟨ea, ec, hev⟩ := hg3.len
 obtain ⟨gk, gf, gt, gv, go, gcm, gla, ⟨enc, enm, ⟨pk, psx, po, pn, pls⟩⟩, glv, rc, ra, rb, s, ib, ck, cv, ps, ev, ic⟩ := g
 dsimp only at *
 subst hlv hcv hev
 unfold chkB
 dsimp only
 rw [← hhas] at HF ⊢
 unfold enV at HE
 unfold imgC at HI
 unfold mgC at *
 dsimp only at *
 have B1 := bit_fact has 1
 have B2 := bit_fact has 2
 have B4 := bit_fact has 4
 have B8 := bit_fact has 8
 have d0 := h1.cell (o := 0) rfl
 have d1 := h1.cell (o := 1) rfl
 have d2 := h1.cell (o := 2) rfl
 have d3 := h1.cell (o := 3) rfl
 have d4 := h1.cell (o := 4) rfl
 have d5 := h1.cell (o := 5) rfl
 have d6 := h1.cell (o := 6) rfl
 have d7 := h1.cell (o := 7) rfl
 have d8 := h1.cell (o := 8) rfl
 have d9 := h1.cell (o := 9) rfl
 have d10 := h1.cell (o := 10) rfl
 have d11 := h1.cell (o := 11) rfl
 have d12 := h1.cell (o := 12) rfl
 have d13 := h1.cell (o := 13) rfl
 have d14 := h1.cell (o := 14) rfl
 have d15 := h1.cell (o := 15) rfl
 have d16 := h1.cell (o := 16) rfl
 have d17 := h1.cell (o := 17) rfl
 have d18 := h1.cell (o := 18) rfl
 have d19 := h1.cell (o := 19) rfl
 have d20 := h1.cell (o := 20) rfl
 have d21 := h1.cell (o := 21) rfl
 have H1 := Lib.hid h1
 obtain ⟨fE, hfE⟩ : ∃ q, q = fEB has ⟨enc, enm, ⟨pk, psx, po, pn, pls⟩⟩ := ⟨_, rfl⟩
 rw [← hfE] at HE ⊢
 obtain ⟨fR, hfR⟩ : ∃ q, q = fRB has rc ra rb s := ⟨_, rfl⟩
 rw [← hfR] at HR ⊢
 obtain ⟨fI, hfI⟩ : ∃ q, q = fIB has ib ck ps ic := ⟨_, rfl⟩
 rw [← hfI] at HI ⊢
 generalize bit has 1 = b1 at *
 generalize bit has 2 = b2 at *
 generalize bit has 4 = b4 at *
 generalize bit has 8 = b8 at *
 generalize ck.length = nck at *
 generalize ps.length = nps at *
 generalize pls.length = nls at *
 clear h1 hg1 hg2 hg3 hk hM hl hx hhas hfE hfR hfI
 go_enter Tryz.func39, Tryz.ntmps39
 (try dsimp only); repeat' (first | go_values | go_skip | go_guarded | go_step | go_upon | go_back)
 (try rw [← hwa])
 (try rw [← hbm])
 clear hwa hbm
 (try dsimp only); repeat' (first | go_values | go_skip | go_guarded | go_step | go_upon | go_back)
 refine HF.out.mono ?_
 rintro r0 w1 ⟨rfl, rfl⟩
 clear HF
 cases hz : (has == 0) with
 | true =>
  as_aux_lemma =>
   obtain rfl : has = 0 := by simpa using hz
   (try dsimp only); repeat' (first | go_values | go_skip | go_guarded | go_step | go_upon | go_back)
   go_ret
   exact ⟨by show Ending.returned (Value.int IntKind.i64 2) = _; simp, H1.out.drop⟩
 | false =>
  (try dsimp only); repeat' (first | go_values | go_skip | go_guarded | go_step | go_upon | go_back)
  refine (HP.out gf).mono ?_
  rintro rx0 wzx0 ⟨rfl, rfl⟩
  cases x0 : partB gf with
  | false =>
   as_aux_lemma =>
    (try dsimp only); repeat' (first | go_values | go_skip | go_guarded | go_step | go_upon | go_back)
    go_ret
    exact ⟨by show Ending.returned (Value.int IntKind.i64 2) = _; simp [hz, x0], H1.out.drop⟩
  | true =>
   (try dsimp only); repeat' (first | go_values | go_skip | go_guarded | go_step | go_upon | go_back)
   refine (HP.out gt).mono ?_
   rintro rx1 wzx1 ⟨rfl, rfl⟩
   cases x1 : partB gt with
   | false =>
    as_aux_lemma =>
     (try dsimp only); repeat' (first | go_values | go_skip | go_guarded | go_step | go_upon | go_back)
     go_ret
     exact ⟨by show Ending.returned (Value.int IntKind.i64 2) = _; simp [hz, x0, x1], H1.out.drop⟩
   | true =>
    (try dsimp only); repeat' (first | go_values | go_skip | go_guarded | go_step | go_upon | go_back)
    refine (HH.out b1 gv).mono ?_
    rintro rx2 wzx2 ⟨rfl, rfl⟩
    cases x2 : holdsB b1 gv with
    | false =>
     as_aux_lemma =>
      (try dsimp only); repeat' (first | go_values | go_skip | go_guarded | go_step | go_upon | go_back)
      go_ret
      exact ⟨by show Ending.returned (Value.int IntKind.i64 2) = _; simp [hz, x0, x1, x2], H1.out.drop⟩
    | true =>
     (try dsimp only); repeat' (first | go_values | go_skip | go_guarded | go_step | go_upon | go_back)
     refine (HH.out b2 go).mono ?_
     rintro rx3 wzx3 ⟨rfl, rfl⟩
     cases x3 : holdsB b2 go with
     | false =>
      as_aux_lemma =>
       (try dsimp only); repeat' (first | go_values | go_skip | go_guarded | go_step | go_upon | go_back)
       go_ret
       exact ⟨by show Ending.returned (Value.int IntKind.i64 2) = _; simp [hz, x0, x1, x2, x3], H1.out.drop⟩
     | true =>
      (try dsimp only); repeat' (first | go_values | go_skip | go_guarded | go_step | go_upon | go_back)
      refine (HH.out b4 gcm).mono ?_
      rintro rx4 wzx4 ⟨rfl, rfl⟩
      cases x4 : holdsB b4 gcm with
      | false =>
       as_aux_lemma =>
        (try dsimp only); repeat' (first | go_values | go_skip | go_guarded | go_step | go_upon | go_back)
        go_ret
        exact ⟨by show Ending.returned (Value.int IntKind.i64 2) = _; simp [hz, x0, x1, x2, x3, x4], H1.out.drop⟩
      | true =>
       (try dsimp only); repeat' (first | go_values | go_skip | go_guarded | go_step | go_upon | go_back)
       refine (HH.out b8 gla).mono ?_
       rintro rx5 wzx5 ⟨rfl, rfl⟩
       cases x5 : holdsB b8 gla with
       | false =>
        as_aux_lemma =>
         (try dsimp only); repeat' (first | go_values | go_skip | go_guarded | go_step | go_upon | go_back)
         go_ret
         exact ⟨by show Ending.returned (Value.int IntKind.i64 2) = _; simp [hz, x0, x1, x2, x3, x4, x5], H1.out.drop⟩
       | true =>
        (try dsimp only); repeat' (first | go_values | go_skip | go_guarded | go_step | go_upon | go_back)
        clear HP HH B1 B2 B4 B8
        refine HE.out.mono ?_
        rintro rE wE ⟨rfl, hE⟩
        have HsE := Lib.hid (H1.out.below hE.low)
        clear hE HE H1 d0 d1 d2 d3 d4 d5 d6 d7 d8 d9 d10 d11 d12 d13 d14 d15 d16 d17 d18 d19 d20 d21
        cases fE with
        | false =>
         as_aux_lemma =>
          (try dsimp only); repeat' (first | go_values | go_skip | go_guarded | go_step | go_upon | go_back)
          go_ret
          exact ⟨by show Ending.returned (Value.int IntKind.i64 2) = _; simp, HsE.out.drop⟩
        | true =>
         have e14 := HsE.out.cell (o := 14) rfl
         have e15 := HsE.out.cell (o := 15) rfl
         have e16 := HsE.out.cell (o := 16) rfl
         have e17 := HsE.out.cell (o := 17) rfl
         (try dsimp only); repeat' (first | go_values | go_skip | go_guarded | go_step | go_upon | go_back)
         refine (HR.out _).mono ?_
         rintro rR wR ⟨rfl, hR⟩
         have HsR := Lib.hid (HsE.out.below hR.low)
         clear hR HR HsE e14 e15 e16 e17
         cases fR with
         | false =>
          as_aux_lemma =>
           (try dsimp only); repeat' (first | go_values | go_skip | go_guarded | go_step | go_upon | go_back)
           go_ret
           exact ⟨by show Ending.returned (Value.int IntKind.i64 2) = _; simp, HsR.out.drop⟩
         | true =>
          have e18 := HsR.out.cell (o := 18) rfl
          have e19 := HsR.out.cell (o := 19) rfl
          have e20 := HsR.out.cell (o := 20) rfl
          have e21 := HsR.out.cell (o := 21) rfl
          (try dsimp only); repeat' (first | go_values | go_skip | go_guarded | go_step | go_upon | go_back)
          refine (HI.out _ HsR.out.low).mono ?_
          rintro rI wI ⟨rfl, hI⟩
          have HsI := Lib.hid (HsR.out.below hI.low)
          clear hI HI HsR e18 e19 e20 e21
          cases fI with
          | false =>
           as_aux_lemma =>
            (try dsimp only); repeat' (first | go_values | go_skip | go_guarded | go_step | go_upon | go_back)
            go_ret
            exact ⟨by show Ending.returned (Value.int IntKind.i64 2) = _; simp, HsI.out.drop⟩
          | true =>
           (try dsimp only); repeat' (first | go_values | go_skip | go_guarded | go_step | go_upon | go_back)
           go_ret
           exact ⟨by show Ending.returned (Value.int IntKind.i64 0) = _; simp [hz, x0, x1, x2, x3, x4, x5], HsI.out.drop⟩
end Go.Proofs.YtcnbmeiielkigaaGreatDoor
/- Package msg, of all messages: CopyImage, Copy. -/
namespace Go.Proofs.YtcnbmeiielkigaaGreatDoor
open Go Go.RowKit
set_option linter.unusedVariables false
set_option linter.unusedSimpArgs false
theorem Sep.onto2 {w0 w w' : World} {A B : Thing} {L : List Thing} (h : Sep w0 L w) (h' : Sep w [A, B] w') : Sep w0 (A :: B :: L) w' :=
 (h.onto1 h'.join).both (h'.loc _ (List.mem_cons_self ..)) (h'.loc _ (List.mem_cons_of_mem _ (List.mem_cons_self ..)))
set_option maxRecDepth 100000 in
set_option maxHeartbeats 8000000 in
theorem gcimg_w {w : World} (ib ic : Int) (cv ev : Value) (l : List UInt8) (ps : List (EnM × Value)) (hcv : Sl w cv (bv l)) (hev : EnS w ev ps) (hl : l.length ≤ 2199023255552) (hx : ps.length ≤ 1000000) (hls : ∀ x ∈ ps, x.1.p.ls.length ≤ 1000) :
  Calls Tryz.prog 50 #[.agg (imgC ib cv ev ic)] w fun e w' => ∃ cu eu qs, e = .returned (.agg (imgC ib cu eu ic)) ∧ qs.map (·.1) = ps.map (·.1) ∧ Sep w [By cu l, EnT eu qs] w' := by
 obtain ⟨ca, cc, rfl⟩ := bv_form hcv
 obtain ⟨ea, ec, rfl⟩ := hev.len
 obtain ⟨nl, hnl⟩ : ∃ q, l.length = q := ⟨_, rfl⟩
 obtain ⟨n, hn⟩ : ∃ q, ps.length = q := ⟨_, rfl⟩
 rw [hnl] at hcv hl ⊢
 rw [hn] at hev hx ⊢
 have h1 := ((Sep.start w).alloc (.cells (imgC ib (.slice ca nl cc) (.slice ea n ec) ic) 38)).alloc (.cells #[.int .i64 0, .slice none 0 0, .slice none 0 0, .int .i64 0] 38)
 rw [show (w.alloc (.cells (imgC ib (.slice ca nl cc) (.slice ea n ec) ic) 38)).heap.size = w.heap.size + 1 by simp] at h1
 have HC := Lib.hid (clone_sep (.slice ca nl cc) l _ h1 (hcv.below h1.low) (by omega))
 have HE := Lib.hid (fun (wx : World) (M : List Thing) (hx' : Sep w M wx) => lcopy_any ea ec n ps hx' (hev.below hx'.low) hn (by omega) hls)
 obtain ⟨b1, hb1⟩ : ∃ z, z = w.heap.size := ⟨_, rfl⟩
 obtain ⟨b2, hb2⟩ : ∃ z, z = w.heap.size + 1 := ⟨_, rfl⟩
 rw [← hb2, ← hb1] at HC
 unfold imgC at *
 have c1 := h1.sw2.cell (o := 1) rfl
 clear h1 hcv hev hl hx hls
 go_enter Tryz.func50, Tryz.ntmps50
 (try dsimp only); repeat' (first | go_values | go_skip | go_guarded | go_step | go_upon | go_back)
 rw [← hb2, ← hb1]
 refine HC.out.mono ?_
 rintro r0 w1 ⟨cu, rfl, h2⟩
 clear c1 HC hb1 hb2
 obtain ⟨au, ac, rfl⟩ := bv_form h2.sl
 rw [hnl] at h2 ⊢
 have h2' : Sep w [Cl b1 #[.int .i64 ib, .slice ca nl cc, .slice ea n ec, .int .i64 ic] 38, Cl b2 #[.int .i64 0, .slice none 0 0, .slice none 0 0, .int .i64 0] 38, By (.slice au nl ac) l] w1 := Sep.pick h2 [2, 1, 0] rfl
 have d1 := h2'.cell (o := 1) rfl
 have f1 := h2'.frozen 1
 have d2 := h2'.cell (o := 2) rfl
 have h3 : Sep w (Cl b1 #[.int .i64 ib, .slice au nl ac, .slice ea n ec, .int .i64 ic] 38 :: _) _ := h2'.setCell 1 (.slice au nl ac)
 obtain ⟨w2, hw2⟩ : ∃ z, z = w1.setCell ⟨b1, 1, none⟩ (.slice au nl ac) := ⟨_, rfl⟩
 rw [← hw2] at h3
 have HE2 := Lib.hid (HE.out _ _ h3)
 clear h2 h2' h3 HE
 (try dsimp only); repeat' (first | go_values | go_skip | go_guarded | go_step | go_upon | go_back)
 rw [← hw2]
 clear hw2 d1 f1
 refine HE2.out.mono ?_
 rintro r0 w3 ⟨eu, qs, rfl, hqs, h4⟩
 clear d2 HE2
 obtain ⟨eau, eac, rfl, -⟩ := h4.enForm
 have hql : qs.length = n := by have := congrArg List.length hqs; simp at this; omega
 rw [hql] at h4 ⊢
 have h4' : Sep w [Cl b1 #[.int .i64 ib, .slice au nl ac, .slice ea n ec, .int .i64 ic] 38, Cl b2 #[.int .i64 0, .slice none 0 0, .slice none 0 0, .int .i64 0] 38, By (.slice au nl ac) l, EnT (.slice eau n eac) qs] w3 := Sep.pick h4 [1, 2, 3, 0] rfl
 have d1 := h4'.cell (o := 2) rfl
 have f1 := h4'.frozen 2
 have h5 : Sep w (Cl b1 #[.int .i64 ib, .slice au nl ac, .slice eau n eac, .int .i64 ic] 38 :: _) _ := h4'.setCell 2 (.slice eau n eac)
 obtain ⟨w4, hw4⟩ : ∃ z, z = w3.setCell ⟨b1, 2, none⟩ (.slice eau n eac) := ⟨_, rfl⟩
 rw [← hw4] at h5
 have HL := Lib.hid (h5.loadW 38 Tryz.underlying38 rfl (by kernel_rfl))
 have HT2 := Lib.hid (h5.sw2.thereAt 0 4 (by simp))
 have h6 := h5.sw2.storeW #[.int .i64 ib, .slice au nl ac, .slice eau n eac, .int .i64 ic] rfl
 have HV := Lib.hid (h6.loadV 38 Tryz.underlying38 rfl (by kernel_rfl))
 have H6 := Lib.hid h6.drop.drop
 have HU := Lib.hid hqs
 clear h4 h4' h5 h6 hqs hql
 (try dsimp only); repeat' (first | (with_reducible show wpList _ _ _ (Oper.mk _ (Op.load 38 _) _ _ _ _ :: _) _ _; refine stopP ?_) | go_values | go_skip | go_guarded | go_step | go_upon | go_back)
 rw [← hw4]
 clear hw4 d1 f1
 unfold StopP
 have hq_ := HL.out
 refine wpList_load_run rfl 38 _ rfl _ _ rfl hq_ ?_
 clear hq_
 (try dsimp only); repeat' (first | (with_reducible show wpList _ _ _ (Oper.mk _ (Op.store 38 _ _) _ _ _ _ :: _) _ _; refine stopP ?_) | go_values | go_skip | go_guarded | go_step | go_upon | go_back)
 unfold StopP
 refine wpList_store_mid rfl 38 (.tmp 2) (.tmp 11) rfl b2 0 #[.int .i64 ib, .slice au nl ac, .slice eau n eac, .int .i64 ic] rfl rfl HT2.out (by kernel_rfl) (by first | kernel_rfl | assumption) ?_
 (try dsimp only); repeat' (first | go_values | go_skip | go_guarded | go_step | go_upon | go_back)
 exact bodyPost_ret (results_cell rfl rfl HV.out) rfl ⟨_, _, qs, rfl, HU.out, H6.out⟩
theorem mgC_one (g : MgM) (h1 : g.lv.oneCell' = true) (h2 : g.cv.oneCell' = true) (h3 : g.ev.oneCell' = true) : (mgC g).all (·.oneCell') = true := by
 have : ∀ v ∈ (mgC g).toList, v.oneCell' = true := by
  intro v hv
  simp only [mgC, List.mem_cons, List.not_mem_nil, or_false] at hv
  rcases hv with rfl | rfl | rfl | rfl | rfl | rfl | rfl | rfl | rfl | rfl | rfl | rfl | rfl | rfl | rfl | rfl | rfl | rfl | rfl | rfl | rfl | rfl <;> first | rfl | exact h1 | exact h2 | exact h3
 rw [Array.all_eq_true_iff_forall_mem]
 intro v hv
 exact this v (by simpa using hv)
set_option maxRecDepth 100000 in
set_option maxHeartbeats 16000000 in
theorem gcopy_w {w : World} (g : MgM) (hg : GmS w g) (hl : g.ck.length ≤ 1000000000) (hx : g.ps.length ≤ 1000000) (hls : ∀ x ∈ g.ps, x.1.p.ls.length ≤ 1000) (hln : g.en.p.ls.length ≤ 1000) :
  Calls Tryz.prog 36 #[.agg (mgC g)] w fun e w' => ∃ lu cu eu qs, e = .returned (.agg (mgC { g with lv := lu, cv := cu, ev := eu, ps := qs })) ∧ qs.map (·.1) = g.ps.map (·.1) ∧ Sep w [LnR lu g.en.p.ls, By cu g.ck, EnT eu qs] w' := by
 obtain ⟨hg1, hg2, hg3⟩ := hg
 have h1 := ((Sep.start w).alloc (.cells (mgC g) 40)).alloc (.cells #[.int .i64 0, .int .i64 0, .int .i64 0, .int .i64 0, .int .i64 0, .int .i64 0, .int .i64 0, .int .i64 0, .int .i64 0, .int .i64 0, .string ⟨#[]⟩, .int .i64 0, .int .i64 0, .slice none 0 0, .int .i64 0, .int .i64 0, .int .i64 0, .bool false, .int .i64 0, .slice none 0 0, .slice none 0 0, .int .i64 0] 40)
 rw [show (w.alloc (.cells (mgC g) 40)).heap.size = w.heap.size + 1 by simp] at h1
 obtain ⟨wa, hwa⟩ : ∃ z, z = (w.alloc (.cells (mgC g) 40)).alloc (.cells #[.int .i64 0, .int .i64 0, .int .i64 0, .int .i64 0, .int .i64 0, .int .i64 0, .int .i64 0, .int .i64 0, .int .i64 0, .int .i64 0, .string ⟨#[]⟩, .int .i64 0, .int .i64 0, .slice none 0 0, .int .i64 0, .int .i64 0, .int .i64 0, .bool false, .int .i64 0, .slice none 0 0, .slice none 0 0, .int .i64 0] 40) := ⟨_, rfl⟩
 obtain ⟨b1, hb1⟩ : ∃ z, z = w.heap.size := ⟨_, rfl⟩
 obtain ⟨b2, hb2⟩ : ∃ z, z = w.heap.size + 1 := ⟨_, rfl⟩
 rw [← hwa, ← hb2, ← hb1] at h1
 have HC := Lib.hid (ecopy_any g.en g.lv h1 (hg1.below h1.low) hln)
 have HE := Lib.hid (fun (wx : World) (hb : Below w.heap.size w wx) => gcimg_w (w := wx) g.ib g.ic g.cv g.ev g.ck g.ps (hg2.below hb) (hg3.below hb) (by omega) hx hls)
 obtain ⟨la, lc, hlv⟩ := hg1.len
 obtain ⟨ca, cc, hcv⟩ := bv_form hg2
 obtain ⟨ea, ec, hev⟩ := hg3.len
 obtain ⟨gk, gf, gt, gv, go, gcm, gla, ⟨enc, enm, ⟨pk, psx, po, pn, pls⟩⟩, glv, rc, ra, rb, s, ib, ck, cv, ps, ev, ic⟩ := g
 dsimp only at *
 subst hlv hcv hev
 unfold enV at HC
 unfold imgC at HE
 dsimp only at HC HE
 obtain ⟨d7, d8, d9, d10, d11, d12, d13⟩ := (show _ ∧ _ ∧ _ ∧ _ ∧ _ ∧ _ ∧ _ from ⟨h1.sw2.cell (o := 7) rfl, h1.sw2.cell (o := 8) rfl, h1.sw2.cell (o := 9) rfl, h1.sw2.cell (o := 10) rfl, h1.sw2.cell (o := 11) rfl, h1.sw2.cell (o := 12) rfl, h1.sw2.cell (o := 13) rfl⟩)
 clear h1 hg1 hg2 hg3 hl hx hls hln
 obtain ⟨nck, hnck⟩ : ∃ q, ck.length = q := ⟨_, rfl⟩
 obtain ⟨nps, hnps⟩ : ∃ q, ps.length = q := ⟨_, rfl⟩
 obtain ⟨nls, hnls⟩ : ∃ q, pls.length = q := ⟨_, rfl⟩
 simp only [hnck, hnps, hnls] at HC HE d13 hwa ⊢
 go_enter Tryz.func36, Tryz.ntmps36
 unfold mgC at *
 dsimp only at *
 (try dsimp only); repeat' (first | go_values | go_skip | go_guarded | go_step | go_upon | go_back)
 rw [← hwa]
 (try rw [← hb2])
 (try rw [← hb1])
 clear hwa hb1 hb2
 refine HC.out.mono ?_
 rintro r0 w1 ⟨u, rfl, h2⟩
 clear HC d7 d8 d9 d10 d11 d12 d13
 obtain ⟨au, ac, rfl, -⟩ := h2.rnForm
 rw [hnls] at h2 ⊢
 have h2' : Sep w [Cl b1 #[.int .i64 gk, .int .i64 gf, .int .i64 gt, .int .i64 gv, .int .i64 go, .int .i64 gcm, .int .i64 gla, .int .i64 enc, .int .i64 enm, .int .i64 pk, .string psx.1, .int .i64 po, .int .i64 pn, .slice la nls lc, .int .i64 rc, .int .i64 ra, .int .i64 rb, .bool s, .int .i64 ib, .slice ca nck cc, .slice ea nps ec, .int .i64 ic] 40, Cl b2 #[.int .i64 0, .int .i64 0, .int .i64 0, .int .i64 0, .int .i64 0, .int .i64 0, .int .i64 0, .int .i64 0, .int .i64 0, .int .i64 0, .string ⟨#[]⟩, .int .i64 0, .int .i64 0, .slice none 0 0, .int .i64 0, .int .i64 0, .int .i64 0, .bool false, .int .i64 0, .slice none 0 0, .slice none 0 0, .int .i64 0] 40, LnR (.slice au nls ac) pls] w1 := by
  exact Sep.pick h2 [2, 1, 0] rfl
 have HTH := Lib.hid (h2'.thereAt 7 7 (by simp))
 have h3 := Sep.setCells [.int .i64 enc, .int .i64 enm, .int .i64 pk, .string psx.1, .int .i64 po, .int .i64 pn, .slice au nls ac] _ 7 _ h2'
 rw [show writeAt #[.int .i64 gk, .int .i64 gf, .int .i64 gt, .int .i64 gv, .int .i64 go, .int .i64 gcm, .int .i64 gla, .int .i64 enc, .int .i64 enm, .int .i64 pk, .string psx.1, .int .i64 po, .int .i64 pn, .slice la nls lc, .int .i64 rc, .int .i64 ra, .int .i64 rb, .bool s, .int .i64 ib, .slice ca nck cc, .slice ea nps ec, .int .i64 ic] 7 [.int .i64 enc, .int .i64 enm, .int .i64 pk, .string psx.1, .int .i64 po, .int .i64 pn, .slice au nls ac] = #[.int .i64 gk, .int .i64 gf, .int .i64 gt, .int .i64 gv, .int .i64 go, .int .i64 gcm, .int .i64 gla, .int .i64 enc, .int .i64 enm, .int .i64 pk, .string psx.1, .int .i64 po, .int .i64 pn, .slice au nls ac, .int .i64 rc, .int .i64 ra, .int .i64 rb, .bool s, .int .i64 ib, .slice ca nck cc, .slice ea nps ec, .int .i64 ic] by simp [writeAt]] at h3
 obtain ⟨w2, hw2⟩ : ∃ z, z = w1.setCells b1 7 [.int .i64 enc, .int .i64 enm, .int .i64 pk, .string psx.1, .int .i64 po, .int .i64 pn, .slice au nls ac] := ⟨_, rfl⟩
 rw [← hw2] at h3
 have HE2 := Lib.hid (HE.out w2 h3.low)
 have i18 := h3.cell (o := 18) (x := .int .i64 ib) rfl
 have i19 := h3.cell (o := 19) (x := .slice ca nck cc) rfl
 have i20 := h3.cell (o := 20) (x := .slice ea nps ec) rfl
 have i21 := h3.cell (o := 21) (x := .int .i64 ic) rfl
 have H3 := Lib.hid h3
 clear h2 h2' h3 HE
 (try dsimp only); repeat' (first | (with_reducible show wpList _ _ _ (Oper.mk _ (Op.store 32 _ _) _ _ _ _ :: _) _ _; refine stopP ?_) | go_values | go_skip | go_guarded | go_step | go_upon | go_back)
 unfold StopP
 refine wpList_store_mid rfl 32 (.tmp 6) (.tmp 5) rfl b1 7 #[.int .i64 enc, .int .i64 enm, .int .i64 pk, .string psx.1, .int .i64 po, .int .i64 pn, .slice au nls ac] rfl rfl HTH.out (by kernel_rfl) (by first | kernel_rfl | assumption) ?_
 show wpList _ _ _ _ _ (w1.setCells b1 7 [.int .i64 enc, .int .i64 enm, .int .i64 pk, .string psx.1, .int .i64 po, .int .i64 pn, .slice au nls ac])
 rw [← hw2]
 clear hw2 HTH
 (try dsimp only); repeat' (first | go_values | go_skip | go_guarded | go_step | go_upon | go_back)
 refine HE2.out.mono ?_
 rintro r0 w3 ⟨cu, eu, qs, rfl, hqs, h4⟩
 have h5 := H3.out.onto2 h4
 clear HE2 i18 i19 i20 i21 H3 h4
 obtain ⟨cau, cac, rfl⟩ := bv_form h5.sl
 obtain ⟨eau, eac, rfl, -⟩ := h5.sw2.enForm
 have hql : qs.length = nps := by have := congrArg List.length hqs; simp at this; omega
 rw [hnck, hql] at h5 ⊢
 have h5' : Sep w [Cl b1 #[.int .i64 gk, .int .i64 gf, .int .i64 gt, .int .i64 gv, .int .i64 go, .int .i64 gcm, .int .i64 gla, .int .i64 enc, .int .i64 enm, .int .i64 pk, .string psx.1, .int .i64 po, .int .i64 pn, .slice au nls ac, .int .i64 rc, .int .i64 ra, .int .i64 rb, .bool s, .int .i64 ib, .slice ca nck cc, .slice ea nps ec, .int .i64 ic] 40, Cl b2 #[.int .i64 0, .int .i64 0, .int .i64 0, .int .i64 0, .int .i64 0, .int .i64 0, .int .i64 0, .int .i64 0, .int .i64 0, .int .i64 0, .string ⟨#[]⟩, .int .i64 0, .int .i64 0, .slice none 0 0, .int .i64 0, .int .i64 0, .int .i64 0, .bool false, .int .i64 0, .slice none 0 0, .slice none 0 0, .int .i64 0] 40, LnR (.slice au nls ac) pls, By (.slice cau nck cac) ck, EnT (.slice eau nps eac) qs] w3 := Sep.pick h5 [2, 3, 4, 0, 1] rfl
 have HTH := Lib.hid (h5'.thereAt 18 4 (by simp))
 have h6 := Sep.setCells [.int .i64 ib, .slice cau nck cac, .slice eau nps eac, .int .i64 ic] _ 18 _ h5'
 rw [show writeAt #[.int .i64 gk, .int .i64 gf, .int .i64 gt, .int .i64 gv, .int .i64 go, .int .i64 gcm, .int .i64 gla, .int .i64 enc, .int .i64 enm, .int .i64 pk, .string psx.1, .int .i64 po, .int .i64 pn, .slice au nls ac, .int .i64 rc, .int .i64 ra, .int .i64 rb, .bool s, .int .i64 ib, .slice ca nck cc, .slice ea nps ec, .int .i64 ic] 18 [.int .i64 ib, .slice cau nck cac, .slice eau nps eac, .int .i64 ic] = #[.int .i64 gk, .int .i64 gf, .int .i64 gt, .int .i64 gv, .int .i64 go, .int .i64 gcm, .int .i64 gla, .int .i64 enc, .int .i64 enm, .int .i64 pk, .string psx.1, .int .i64 po, .int .i64 pn, .slice au nls ac, .int .i64 rc, .int .i64 ra, .int .i64 rb, .bool s, .int .i64 ib, .slice cau nck cac, .slice eau nps eac, .int .i64 ic] by simp [writeAt]] at h6
 obtain ⟨w4, hw4⟩ : ∃ z, z = w3.setCells b1 18 [.int .i64 ib, .slice cau nck cac, .slice eau nps eac, .int .i64 ic] := ⟨_, rfl⟩
 rw [← hw4] at h6
 have HL := Lib.hid (h6.loadW 40 Tryz.underlying40 rfl (by kernel_rfl))
 have HT2 := Lib.hid (h6.sw2.thereAt 0 22 (by simp))
 have h7 := h6.sw2.storeW #[.int .i64 gk, .int .i64 gf, .int .i64 gt, .int .i64 gv, .int .i64 go, .int .i64 gcm, .int .i64 gla, .int .i64 enc, .int .i64 enm, .int .i64 pk, .string psx.1, .int .i64 po, .int .i64 pn, .slice au nls ac, .int .i64 rc, .int .i64 ra, .int .i64 rb, .bool s, .int .i64 ib, .slice cau nck cac, .slice eau nps eac, .int .i64 ic] rfl
 have HV := Lib.hid (h7.loadV 40 Tryz.underlying40 rfl (by kernel_rfl))
 have H7 := Lib.hid h7.drop.drop
 have HU := Lib.hid hqs
 clear h5 h5' h6 h7 hqs hql
 (try dsimp only); repeat' (first | (with_reducible show wpList _ _ _ (Oper.mk _ (Op.store 38 _ _) _ _ _ _ :: _) _ _; refine stopP ?_) | go_values | go_skip | go_guarded | go_step | go_upon | go_back)
 unfold StopP
 refine wpList_store_mid rfl 38 (.tmp 10) (.tmp 9) rfl b1 18 #[.int .i64 ib, .slice cau nck cac, .slice eau nps eac, .int .i64 ic] rfl rfl HTH.out (by kernel_rfl) (by first | kernel_rfl | assumption) ?_
 show wpList _ _ _ _ _ (w3.setCells b1 18 [.int .i64 ib, .slice cau nck cac, .slice eau nps eac, .int .i64 ic])
 rw [← hw4]
 clear hw4 HTH
 (try dsimp only); repeat' (first | (with_reducible show wpList _ _ _ (Oper.mk _ (Op.load 40 _) _ _ _ _ :: _) _ _; refine stopP ?_) | go_values | go_skip | go_guarded | go_step | go_upon | go_back)
 unfold StopP
 have hq_ := HL.out
 refine wpList_load_run rfl 40 _ rfl _ _ rfl hq_ ?_
 clear hq_
 (try dsimp only); repeat' (first | (with_reducible show wpList _ _ _ (Oper.mk _ (Op.store 40 _ _) _ _ _ _ :: _) _ _; refine stopP ?_) | go_values | go_skip | go_guarded | go_step | go_upon | go_back)
 unfold StopP
 refine wpList_store_mid rfl 40 (.tmp 2) (.tmp 11) rfl b2 0 #[.int .i64 gk, .int .i64 gf, .int .i64 gt, .int .i64 gv, .int .i64 go, .int .i64 gcm, .int .i64 gla, .int .i64 enc, .int .i64 enm, .int .i64 pk, .string psx.1, .int .i64 po, .int .i64 pn, .slice au nls ac, .int .i64 rc, .int .i64 ra, .int .i64 rb, .bool s, .int .i64 ib, .slice cau nck cac, .slice eau nps eac, .int .i64 ic] rfl rfl HT2.out (by kernel_rfl) (by first | kernel_rfl | assumption) ?_
 (try dsimp only); repeat' (first | go_values | go_skip | go_guarded | go_step | go_upon | go_back)
 exact bodyPost_ret (results_cell rfl rfl HV.out) rfl ⟨_, _, _, qs, rfl, HU.out, H7.out⟩
end Go.Proofs.YtcnbmeiielkigaaGreatDoor
