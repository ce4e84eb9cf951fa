/- The document's CheckImage, entries, Check. -/
import Derived.Test.YtcnbmeiielkigaaGreatDoorMZ26
import Derived.Test.YtcnbmeiielkigaaGreatDoorMZ24
namespace Go.Proofs.YtcnbmeiielkigaaGreatDoor
open Go Go.RowKit
set_option linter.unusedVariables false
set_option linter.unusedSimpArgs false
set_option maxRecDepth 100000 in
set_option maxHeartbeats 16000000 in
theorem rckimg_w {w : World} (ib ic : Int) (cv ev : Value) (l : List UInt8) (xs : List (EnM × Value)) (hcv : Sl w cv (bv l)) (hev : EnS w ev xs) (hl : l.length ≤ 1000000000) (hx : xs.length ≤ 1000000) (hic : ic ≤ 9223372036854775807) :
  Calls Tryz.prog 77 #[.agg (imgC ib cv ev ic)] w fun e w' => e = .returned (.int .i64 (if ckI ib l xs ic then 0 else 2)) ∧ Sep w [] w' := by
 obtain ⟨ca, cc, rfl⟩ := bv_form hcv
 obtain ⟨ea, ec, rfl⟩ := hev.len
 unfold ckI
 obtain ⟨nl, hnl⟩ : ∃ q, l.length = q := ⟨_, rfl⟩
 obtain ⟨n, hn⟩ : ∃ q, xs.length = q := ⟨_, rfl⟩
 rw [hnl] at hcv hl ⊢
 rw [hn] at hev hx ⊢
 have h1 := (Sep.start w).alloc (.cells (imgC ib (.slice ca nl cc) (.slice ea n ec) ic) 38)
 obtain ⟨b1, hb1⟩ : ∃ q, q = w.heap.size := ⟨_, rfl⟩
 obtain ⟨wa, hwa⟩ : ∃ q, q = w.alloc (.cells (imgC ib (.slice ca nl cc) (.slice ea n ec) ic) 38) := ⟨_, rfl⟩
 have HN := Lib.hid (rnum_any' ib wa)
 rw [← hwa, ← hb1] at h1
 unfold imgC at *
 obtain ⟨p0, p1, p2, p3⟩ := cells4i h1
 have HEN := Lib.hid (fun (wx : World) (hb : Below w.heap.size w wx) => And.intro (hev.below hb) True.intro)
 have H1 := Lib.hid h1
 have HNX := Lib.hid hn.symm
 have n0 : (0 : Int) ≤ (n : Int) := by omega
 have n9 : (n : Int) ≤ 1000000 := by omega
 have l0 : (0 : Int) ≤ (nl : Int) := by omega
 clear h1 hcv hev hl hx hn hnl
 obtain ⟨R, hR⟩ : ∃ R : Int, R = if (numB ib && decide (nl ≤ 16384) && decide (n ≤ 32) && xs.all (fun x => x.1.ok) && decide (ib ≤ ic ∧ ic ≤ ib + n)) = true then 0 else 2 := ⟨_, rfl⟩
 rw [← hR]
 cases hnb : numB ib with
 | false =>
  rw [hnb] at HN hR
  simp only [Bool.false_and] at hR
  rw [if_neg (by simp)] at hR
  have HR := Lib.hid hR
  clear hR
  go_enter Tryz.func77, Tryz.ntmps77
  (try dsimp only); repeat' (first | go_values | go_skip | go_guarded | go_step | go_upon | go_back)
  (try rw [← hwa])
  (try rw [← hb1])
  clear hwa hb1
  refine HN.out.mono ?_
  rintro r0 w1 ⟨rfl, rfl⟩
  (try dsimp only); repeat' (first | go_values | go_skip | go_guarded | go_step | go_upon | go_back)
  go_loopw [3, 4] (fun ov iv wr => ov = .bool false ∧ iv = .int .i64 0 ∧ wr = wa) (fun _ _ _ => 0)
  case atStart => exact ⟨rfl, rfl, rfl⟩
  case round =>
   obtain ⟨rfl, rfl, rfl⟩ := hrel
   by_cases hn0 : 0 < n
   ·have e0 : decide (0 < n) = true := decide_eq_true hn0
    have e1 : decide ((0 : Int) < (n : Int)) = true := decide_eq_true (by omega)
    have e2 : (0 : Int) < (n : Int) := by omega
    (try dsimp only); repeat' (first | go_values | go_skip | go_guarded | go_step | go_upon | go_back)
    go_ret
    exact ⟨by first | (rw [HR.out]; rfl) | rw [HR.out], H1.out.drop⟩
   ·have e0 : decide (0 < n) = false := decide_eq_false hn0
    have e1 : decide ((0 : Int) < (n : Int)) = false := decide_eq_false (by omega)
    have e2 : ¬ (0 : Int) < (n : Int) := by omega
    (try dsimp only); repeat' (first | go_values | go_skip | go_guarded | go_step | go_upon | go_back)
    go_ret
    exact ⟨by first | (rw [HR.out]; rfl) | rw [HR.out], H1.out.drop⟩
 | true =>
  rw [hnb] at HN hR
  by_cases hnl : nl ≤ 16384
  ·have d0 : decide (nl ≤ 16384) = true := decide_eq_true hnl
   have d0' : decide ((nl : Int) ≤ 16384) = true := decide_eq_true (by omega)
   have g0 : (nl : Int) ≤ 16384 := by omega
   by_cases hnx : n ≤ 32
   ·have d1 : decide (n ≤ 32) = true := decide_eq_true hnx
    have d1' : decide ((n : Int) ≤ 32) = true := decide_eq_true (by omega)
    have g1 : (n : Int) ≤ 32 := by omega
    by_cases hc1 : ib ≤ ic
    ·have d2 : decide (ib ≤ ic) = true := decide_eq_true hc1
     have ws : IntKind.i64.wrap (ic - ib) = ic - ib := IntWalk.i64_in _ (by have := of_decide_eq_true hnb; omega)
     by_cases hc2 : ic - ib ≤ (n : Int)
     ·have d3 : decide (ic - ib ≤ (n : Int)) = true := decide_eq_true hc2
      have hR2 : R = if xs.all (fun x => x.1.ok) = true then 0 else 2 := by rw [hR, decide_eq_true hnl, decide_eq_true hnx, decide_eq_true (show ib ≤ ic ∧ ic ≤ ib + (n : Int) from ⟨hc1, by omega⟩)]; generalize xs.all (fun x => x.1.ok) = q; cases q <;> rfl
      have HR := Lib.hid hR2
      clear hR hR2 hc1 hc2 hnl hnx
      go_enter Tryz.func77, Tryz.ntmps77
      (try dsimp only); repeat' (first | go_values | go_skip | go_guarded | go_step | go_upon | go_back)
      (try rw [← hwa])
      (try rw [← hb1])
      clear hwa hb1
      refine HN.out.mono ?_
      rintro r0 w1 ⟨rfl, rfl⟩
      (try dsimp only); repeat' (first | go_values | go_skip | go_guarded | go_step | go_upon | go_back)
      clear HN p0 p1 p2 p3 d0 d0' d1 d1' d2 d3 g0 g1
      go_loopw [3, 4] (fun ov iv wr => ∃ (i : Nat) (b : Bool), i ≤ n ∧ ov = .bool b ∧ iv = .int .i64 i ∧ (b = true → ∀ j (h : j < xs.length), j < i → xs[j].1.ok = true) ∧ (b = false → xs.all (fun x => x.1.ok) = false) ∧ Sep w [Cl b1 #[.int .i64 ib, .slice ca nl cc, .slice ea n ec, .int .i64 ic] 38] wr) (fun _ iv _ => n - (intOf iv).toNat)
      case atStart => exact ⟨0, true, by omega, rfl, rfl, fun _ j _ h => by omega, fun h => (by cases h), H1.out⟩
      case round =>
       obtain ⟨i, b, hi, rfl, rfl, hok, hno, hs⟩ := hrel
       clear H1
       have p2 := hs.cell (o := 2) (x := .slice ea n ec) rfl
       have i0 : (0 : Int) ≤ (i : Int) := by omega
       cases b with
       | false =>
        have HF : Hid (R = 2) := Lib.hid (by rw [HR.out, hno rfl]; rfl)
        have HH := Lib.hid hs.drop
        clear hs hok hno
        by_cases hin : i < n
        ·have e0 : decide (i < n) = true := decide_eq_true hin
         have e0' : decide ((i : Int) < (n : Int)) = true := decide_eq_true (by omega)
         have i9 : (i : Int) < (n : Int) := by omega
         clear hin hi
         (try dsimp only); repeat' (first | go_values | go_skip | go_guarded | go_step | go_upon | go_back)
         go_ret
         exact ⟨by first | (rw [HF.out]; rfl) | rw [HF.out], HH.out⟩
        ·have e0 : decide (i < n) = false := decide_eq_false hin
         have e0' : decide ((i : Int) < (n : Int)) = false := decide_eq_false (by omega)
         have i9 : ¬ (i : Int) < (n : Int) := by omega
         clear hin hi
         (try dsimp only); repeat' (first | go_values | go_skip | go_guarded | go_step | go_upon | go_back)
         go_ret
         exact ⟨by first | (rw [HF.out]; rfl) | rw [HF.out], HH.out⟩
       | true =>
        have hok := hok rfl
        clear hno
        by_cases hin : i < n
        ·have e0 : decide (i < n) = true := decide_eq_true hin
         have e0' : decide ((i : Int) < (n : Int)) = true := decide_eq_true (by omega)
         have i9 : (i : Int) < (n : Int) := by omega
         have hix : i < xs.length := by have := HNX.out; omega
         obtain ⟨bx, off, rfl, -, -, -, ⟨e0_, e1, e2, e3, e4, e5, e6⟩, hln⟩ := (HEN.out _ hs.low).1.at hix
         have hok' : xs[i].1.ok = true → ∀ j (h : j < xs.length), j < i + 1 → xs[j].1.ok = true := fun h0 j hj h2 => by
          rcases Nat.lt_or_ge j i with h3 | h3
          ·exact hok j hj h3
          ·obtain rfl : j = i := by omega
           exact h0
         have hno : xs[i].1.ok = false → xs.all (fun x => x.1.ok) = false := fun h0 => by
          rw [List.all_eq_false]
          exact ⟨xs[i], List.getElem_mem hix, by rw [h0]; simp⟩
         obtain ⟨⟨x, v⟩, hxv⟩ : ∃ z, z = xs[i] := ⟨_, rfl⟩
         rw [← hxv] at e0_ e1 e2 e3 e4 e5 e6 hln hok' hno
         dsimp only at e0_ e1 e2 e3 e4 e5 e6 hln hok' hno
         obtain ⟨av, kv, rfl⟩ := hln.len
         have HC := Lib.hid (recheck_any x (.slice av x.p.ls.length kv) hs hln (lns_maxl hln))
         unfold enV at HC
         have HIN := Lib.hid (And.intro hin (And.intro hok' hno))
         obtain ⟨ok, hokx⟩ : ∃ z, z = x.ok := ⟨_, rfl⟩
         rw [← hokx] at HC HIN
         clear hs hln hxv hix hin hi hok hok' hno hokx
         (try dsimp only); repeat' (first | go_values | go_skip | go_guarded | go_step | go_upon | go_back)
         refine HC.out.mono ?_
         rintro r0 w5 ⟨rfl, h5⟩
         have H5 := Lib.hid h5
         clear HC h5 e0_ e1 e2 e3 e4 e5 e6 p2
         cases ok with
         | true =>
          rw [show eB true = 0 from rfl]
          (try dsimp only); repeat' (first | go_values | go_skip | go_guarded | go_step | go_upon | go_back)
          go_roundw
          case rel => exact ⟨i + 1, true, by have := HIN.out.1; omega, rfl, by go_num, fun _ => HIN.out.2.1 rfl, fun h => (by cases h), H5.out⟩
          case measure => have := HIN.out.1; simp [intOf]; omega
         | false =>
          rw [show eB false = 2 from rfl]
          (try dsimp only); repeat' (first | go_values | go_skip | go_guarded | go_step | go_upon | go_back)
          go_roundw
          case rel => exact ⟨i + 1, false, by have := HIN.out.1; omega, rfl, by go_num, fun h => (by cases h), fun _ => HIN.out.2.2 rfl, H5.out⟩
          case measure => have := HIN.out.1; simp [intOf]; omega
        ·have e0 : decide (i < n) = false := decide_eq_false hin
         have e0' : decide ((i : Int) < (n : Int)) = false := decide_eq_false (by omega)
         have i9 : ¬ (i : Int) < (n : Int) := by omega
         have HF : Hid (R = 0) := Lib.hid (by
          rw [HR.out, if_pos]
          rw [List.all_eq_true]
          intro x hx
          obtain ⟨j, hj, rfl⟩ := List.getElem_of_mem hx
          exact hok j hj (by have := HNX.out; omega))
         have HH := Lib.hid hs.drop
         clear hs hok hin hi
         (try dsimp only); repeat' (first | go_values | go_skip | go_guarded | go_step | go_upon | go_back)
         go_ret
         exact ⟨by first | (rw [HF.out]; rfl) | rw [HF.out], HH.out⟩
     ·have d3 : decide (ic - ib ≤ (n : Int)) = false := decide_eq_false hc2
      have hR2 : R = 2 := by rw [hR, if_neg (by simp [show ¬ ic ≤ ib + (n : Int) by omega])]
      have HR := Lib.hid hR2
      clear hR hR2
      go_enter Tryz.func77, Tryz.ntmps77
      (try dsimp only); repeat' (first | go_values | go_skip | go_guarded | go_step | go_upon | go_back)
      (try rw [← hwa])
      (try rw [← hb1])
      clear hwa hb1
      refine HN.out.mono ?_
      rintro r0 w1 ⟨rfl, rfl⟩
      (try dsimp only); repeat' (first | go_values | go_skip | go_guarded | go_step | go_upon | go_back)
      go_loopw [3, 4] (fun ov iv wr => ov = .bool false ∧ iv = .int .i64 0 ∧ wr = wa) (fun _ _ _ => 0)
      case atStart => exact ⟨rfl, rfl, rfl⟩
      case round =>
       obtain ⟨rfl, rfl, rfl⟩ := hrel
       by_cases hn0 : 0 < n
       ·have e0 : decide (0 < n) = true := decide_eq_true hn0
        have e1 : decide ((0 : Int) < (n : Int)) = true := decide_eq_true (by omega)
        have e2 : (0 : Int) < (n : Int) := by omega
        (try dsimp only); repeat' (first | go_values | go_skip | go_guarded | go_step | go_upon | go_back)
        go_ret
        exact ⟨by first | (rw [HR.out]; rfl) | rw [HR.out], H1.out.drop⟩
       ·have e0 : decide (0 < n) = false := decide_eq_false hn0
        have e1 : decide ((0 : Int) < (n : Int)) = false := decide_eq_false (by omega)
        have e2 : ¬ (0 : Int) < (n : Int) := by omega
        (try dsimp only); repeat' (first | go_values | go_skip | go_guarded | go_step | go_upon | go_back)
        go_ret
        exact ⟨by first | (rw [HR.out]; rfl) | rw [HR.out], H1.out.drop⟩
    ·have d2 : decide (ib ≤ ic) = false := decide_eq_false hc1
     have hR2 : R = 2 := by rw [hR, if_neg (by simp [hc1])]
     have HR := Lib.hid hR2
     clear hR hR2
     go_enter Tryz.func77, Tryz.ntmps77
     (try dsimp only); repeat' (first | go_values | go_skip | go_guarded | go_step | go_upon | go_back)
     (try rw [← hwa])
     (try rw [← hb1])
     clear hwa hb1
     refine HN.out.mono ?_
     rintro r0 w1 ⟨rfl, rfl⟩
     (try dsimp only); repeat' (first | go_values | go_skip | go_guarded | go_step | go_upon | go_back)
     go_loopw [3, 4] (fun ov iv wr => ov = .bool false ∧ iv = .int .i64 0 ∧ wr = wa) (fun _ _ _ => 0)
     case atStart => exact ⟨rfl, rfl, rfl⟩
     case round =>
      obtain ⟨rfl, rfl, rfl⟩ := hrel
      by_cases hn0 : 0 < n
      ·have e0 : decide (0 < n) = true := decide_eq_true hn0
       have e1 : decide ((0 : Int) < (n : Int)) = true := decide_eq_true (by omega)
       have e2 : (0 : Int) < (n : Int) := by omega
       (try dsimp only); repeat' (first | go_values | go_skip | go_guarded | go_step | go_upon | go_back)
       go_ret
       exact ⟨by first | (rw [HR.out]; rfl) | rw [HR.out], H1.out.drop⟩
      ·have e0 : decide (0 < n) = false := decide_eq_false hn0
       have e1 : decide ((0 : Int) < (n : Int)) = false := decide_eq_false (by omega)
       have e2 : ¬ (0 : Int) < (n : Int) := by omega
       (try dsimp only); repeat' (first | go_values | go_skip | go_guarded | go_step | go_upon | go_back)
       go_ret
       exact ⟨by first | (rw [HR.out]; rfl) | rw [HR.out], H1.out.drop⟩
   ·have d1 : decide (n ≤ 32) = false := decide_eq_false hnx
    have d1' : decide ((n : Int) ≤ 32) = false := decide_eq_false (by omega)
    have g1 : ¬ (n : Int) ≤ 32 := by omega
    have hR2 : R = 2 := by rw [hR, if_neg (by simp [hnx])]
    have HR := Lib.hid hR2
    clear hR hR2
    go_enter Tryz.func77, Tryz.ntmps77
    (try dsimp only); repeat' (first | go_values | go_skip | go_guarded | go_step | go_upon | go_back)
    (try rw [← hwa])
    (try rw [← hb1])
    clear hwa hb1
    refine HN.out.mono ?_
    rintro r0 w1 ⟨rfl, rfl⟩
    (try dsimp only); repeat' (first | go_values | go_skip | go_guarded | go_step | go_upon | go_back)
    go_loopw [3, 4] (fun ov iv wr => ov = .bool false ∧ iv = .int .i64 0 ∧ wr = wa) (fun _ _ _ => 0)
    case atStart => exact ⟨rfl, rfl, rfl⟩
    case round =>
     obtain ⟨rfl, rfl, rfl⟩ := hrel
     by_cases hn0 : 0 < n
     ·have e0 : decide (0 < n) = true := decide_eq_true hn0
      have e1 : decide ((0 : Int) < (n : Int)) = true := decide_eq_true (by omega)
      have e2 : (0 : Int) < (n : Int) := by omega
      (try dsimp only); repeat' (first | go_values | go_skip | go_guarded | go_step | go_upon | go_back)
      go_ret
      exact ⟨by first | (rw [HR.out]; rfl) | rw [HR.out], H1.out.drop⟩
     ·exfalso; omega
  ·have d0 : decide (nl ≤ 16384) = false := decide_eq_false hnl
   have d0' : decide ((nl : Int) ≤ 16384) = false := decide_eq_false (by omega)
   have g0 : ¬ (nl : Int) ≤ 16384 := by omega
   have hR2 : R = 2 := by rw [hR, if_neg (by simp [hnl])]
   have HR := Lib.hid hR2
   clear hR hR2
   go_enter Tryz.func77, Tryz.ntmps77
   (try dsimp only); repeat' (first | go_values | go_skip | go_guarded | go_step | go_upon | go_back)
   (try rw [← hwa])
   (try rw [← hb1])
   clear hwa hb1
   refine HN.out.mono ?_
   rintro r0 w1 ⟨rfl, rfl⟩
   (try dsimp only); repeat' (first | go_values | go_skip | go_guarded | go_step | go_upon | go_back)
   go_loopw [3, 4] (fun ov iv wr => ov = .bool false ∧ iv = .int .i64 0 ∧ wr = wa) (fun _ _ _ => 0)
   case atStart => exact ⟨rfl, rfl, rfl⟩
   case round =>
    obtain ⟨rfl, rfl, rfl⟩ := hrel
    by_cases hn0 : 0 < n
    ·have e0 : decide (0 < n) = true := decide_eq_true hn0
     have e1 : decide ((0 : Int) < (n : Int)) = true := decide_eq_true (by omega)
     have e2 : (0 : Int) < (n : Int) := by omega
     (try dsimp only); repeat' (first | go_values | go_skip | go_guarded | go_step | go_upon | go_back)
     go_ret
     exact ⟨by first | (rw [HR.out]; rfl) | rw [HR.out], H1.out.drop⟩
    ·have e0 : decide (0 < n) = false := decide_eq_false hn0
     have e1 : decide ((0 : Int) < (n : Int)) = false := decide_eq_false (by omega)
     have e2 : ¬ (0 : Int) < (n : Int) := by omega
     (try dsimp only); repeat' (first | go_values | go_skip | go_guarded | go_step | go_upon | go_back)
     go_ret
     exact ⟨by first | (rw [HR.out]; rfl) | rw [HR.out], H1.out.drop⟩
set_option maxRecDepth 100000 in
set_option maxHeartbeats 16000000 in
theorem rentries_w {w : World} (g : MgM) (hg : LnS w g.lv g.en.p.ls) :
  Calls Tryz.prog 73 #[.agg (mgC g)] w fun e w' => e = .returned (.bool (fEB (mfieldsOf g.k) g.en)) ∧ Sep w [] w' := by
 have h1 := (Sep.start w).alloc (.cells (mgC g) 40)
 obtain ⟨b1, hb1⟩ : ∃ q, q = w.heap.size := ⟨_, rfl⟩
 obtain ⟨wa, hwa⟩ : ∃ q, q = w.alloc (.cells (mgC g) 40) := ⟨_, rfl⟩
 rw [← hwa, ← hb1] at h1
 obtain ⟨x, hx⟩ : ∃ x, x = g.en := ⟨_, rfl⟩
 obtain ⟨lv, hlv⟩ : ∃ x, x = g.lv := ⟨_, rfl⟩
 have hm0 : (mgC g)[0]? = some (.int .i64 g.k) := rfl
 have hm7 : (mgC g)[7]? = some (.int .i64 x.c) ∧ (mgC g)[8]? = some (.int .i64 x.m) ∧ (mgC g)[9]? = some (.int .i64 x.p.k) ∧ (mgC g)[10]? = some (.string x.p.s.1) ∧ (mgC g)[11]? = some (.int .i64 x.p.o) ∧ (mgC g)[12]? = some (.int .i64 x.p.n) ∧ (mgC g)[13]? = some lv := by rw [hx, hlv]; exact ⟨rfl, rfl, rfl, rfl, rfl, rfl, rfl⟩
 rw [← hx, ← hlv] at hg
 rw [← hx]
 obtain ⟨k, hk⟩ : ∃ k, k = g.k := ⟨_, rfl⟩
 rw [← hk] at hm0 ⊢
 obtain ⟨mc, hmc⟩ : ∃ z, z = mgC g := ⟨_, rfl⟩
 rw [← hmc] at h1 hwa hm0 hm7 ⊢
 have HM := Lib.hid (And.intro hm0 hm7)
 have HG : Hid (∀ wx, Sep w [Cl b1 mc 40] wx → LnS wx lv x.p.ls) := Lib.hid fun wx hx => hg.below hx.low
 have hll := lns_maxl hg
 obtain ⟨la, lc, rfl⟩ := hg.len
 obtain ⟨ln, hln⟩ : ∃ z, z = x.p.ls.length := ⟨_, rfl⟩
 rw [← hln] at HG HM
 have hcs := hdB_cases x.c x.m
 obtain ⟨F, hF⟩ : ∃ F, F = fEB (mfieldsOf k) x := ⟨_, rfl⟩
 rw [← hF]
 unfold fEB at hF
 have HN := Lib.hid (rhen_any k h1)
 have c0 := HM.out.1
 generalize bit (mfieldsOf k) 16 = b16 at *
 have HI : Hid (∀ wx, Sep w [Cl b1 mc 40] wx → Calls Tryz.prog 91 #[.int .i64 k] wx fun e w' => e = .returned (.bool (bit (mfieldsOf k) 32)) ∧ Sep w [Cl b1 mc 40] w') := Lib.hid fun wx hx => rhid_any k hx
 generalize bit (mfieldsOf k) 32 = b32 at *
 have HC1 : Hid (∀ wx, Sep w [Cl b1 mc 40] wx → Calls Tryz.prog 90 #[.agg #[.int .i64 x.c, .int .i64 x.m, .int .i64 x.p.k, .string x.p.s.1, .int .i64 x.p.o, .int .i64 x.p.n, .slice la ln lc]] wx fun e w' => e = .returned (.int .i64 (eB x.ok)) ∧ Sep w [Cl b1 mc 40] w') := Lib.hid fun wx hx => recheck_any x (.slice la ln lc) hx (HG.out wx hx) hll
 have HC2 : Hid (∀ wx, Sep w [Cl b1 mc 40] wx → Calls Tryz.prog 61 #[.agg #[.int .i64 x.p.k, .string x.p.s.1, .int .i64 x.p.o, .int .i64 x.p.n, .slice la ln lc], .agg #[.int .i64 0, .string ⟨#[]⟩, .int .i64 0, .int .i64 0, .slice none 0 0]] wx fun e w' => e = .returned (.bool (opSameZ x.p)) ∧ Sep w [Cl b1 mc 40] w') := Lib.hid fun wx hx => rsame_any x.p.k x.p.s x.p.o x.p.n (.slice la ln lc) x.p.ls 0 zS 0 0 (.slice none 0 0) [] hx (HG.out wx hx) (lnNilM _) hll
 have HC3 : Hid (∀ wx, Sep w [Cl b1 mc 40] wx → Calls Tryz.prog 44 #[.agg #[.int .i64 x.c, .int .i64 x.m, .int .i64 x.p.k, .string x.p.s.1, .int .i64 x.p.o, .int .i64 x.p.n, .slice la ln lc], .agg #[.int .i64 0, .int .i64 0, .int .i64 0, .string ⟨#[]⟩, .int .i64 0, .int .i64 0, .slice none 0 0]] wx fun e w' => e = .returned (.bool (enSame x enZ0)) ∧ Sep w [Cl b1 mc 40] w') := Lib.hid fun wx hx => resame_any x enZ0 (.slice la ln lc) (.slice none 0 0) hx (HG.out wx hx) (lnNilM _) hll
 generalize opSameZ x.p = oz at *
 generalize enSame x enZ0 = ez at *
 generalize x.ok = xk at *
 generalize x.c = xc at *
 generalize x.m = xm at *
 generalize x.p.k = pk at *
 generalize x.p.s = px at *
 generalize x.p.o = po at *
 generalize x.p.n = pn at *
 have H1 := Lib.hid h1
 have HF := Lib.hid hF
 clear h1 hg hx hlv hk hmc hm0 hm7 hll hln hF
 go_enter Tryz.func73, Tryz.ntmps73
 (try dsimp only); repeat' (first | go_values | go_skip | go_guarded | go_step | go_upon | go_back)
 (try rw [← hwa])
 (try rw [← hb1])
 clear hwa hb1
 refine HN.out.mono ?_
 rintro r0 w1 ⟨rfl, h2⟩
 have c7 := h2.cell HM.out.2.1
 have c8 := h2.cell HM.out.2.2.1
 have c9 := h2.cell HM.out.2.2.2.1
 have c10 := h2.cell HM.out.2.2.2.2.1
 have c11 := h2.cell HM.out.2.2.2.2.2.1
 have c12 := h2.cell HM.out.2.2.2.2.2.2.1
 have c13 := h2.cell HM.out.2.2.2.2.2.2.2
 have c00 := h2.cell HM.out.1
 have H2 := Lib.hid h2
 clear HN h2 c0
 cases b16 with
 | true =>
  have HF2 : Hid (F = xk) := Lib.hid (by rw [HF.out]; rfl)
  (try dsimp only); repeat' (first | go_values | go_skip | go_guarded | go_step | go_upon | go_back)
  refine (HC1.out _ H2.out).mono ?_
  rintro r0 w3 ⟨rfl, h3⟩
  have H3 := Lib.hid h3.drop
  clear HC1 h3 H2 c7 c8 c9 c10 c11 c12 c13 c00
  cases xk with
  | true =>
   rw [show eB true = 0 from rfl]
   (try dsimp only); repeat' (first | go_values | go_skip | go_guarded | go_step | go_upon | go_back)
   go_ret
   exact ⟨by first | (rw [HF2.out]; rfl) | rw [HF2.out], H3.out⟩
  | false =>
   rw [show eB false = 2 from rfl]
   (try dsimp only); repeat' (first | go_values | go_skip | go_guarded | go_step | go_upon | go_back)
   go_ret
   exact ⟨by first | (rw [HF2.out]; rfl) | rw [HF2.out], H3.out⟩
 | false =>
  (try dsimp only); repeat' (first | go_values | go_skip | go_guarded | go_step | go_upon | go_back)
  refine (HI.out _ H2.out).mono ?_
  rintro r0 w3 ⟨rfl, h3⟩
  clear c7 c8 c9 c10 c11 c12 c13 c00
  have c7 := h3.cell HM.out.2.1
  have c8 := h3.cell HM.out.2.2.1
  have c9 := h3.cell HM.out.2.2.2.1
  have c10 := h3.cell HM.out.2.2.2.2.1
  have c11 := h3.cell HM.out.2.2.2.2.2.1
  have c12 := h3.cell HM.out.2.2.2.2.2.2.1
  have c13 := h3.cell HM.out.2.2.2.2.2.2.2
  have H3 := Lib.hid h3
  clear HI h3 H2
  cases b32 with
  | true =>
   have HF2 : Hid (F = (hdB xc xm && oz)) := Lib.hid (by rw [HF.out]; rfl)
   rcases hcs with ⟨e, hx⟩ | ⟨e, x0, x1, x2, x3⟩
   ·have HF3 : Hid (F = false) := Lib.hid (by rw [HF2.out, e]; rfl)
    clear e
    rcases hx with x0 | ⟨x0, x1⟩ | ⟨x0, x1, x2⟩ | ⟨x0, x1, x2, x3⟩
    ·have d0 : decide (0 ≤ xc) = false := decide_eq_false (by omega)
     (try dsimp only); repeat' (first | go_values | go_skip | go_guarded | go_step | go_upon | go_back)
     go_ret
     exact ⟨by first | (rw [HF3.out]; rfl) | rw [HF3.out], H3.out.drop⟩
    ·have d0 : decide (0 ≤ xc) = true := decide_eq_true (by omega)
     have d1 : decide (xc < 8) = false := decide_eq_false (by omega)
     (try dsimp only); repeat' (first | go_values | go_skip | go_guarded | go_step | go_upon | go_back)
     go_ret
     exact ⟨by first | (rw [HF3.out]; rfl) | rw [HF3.out], H3.out.drop⟩
    ·have d0 : decide (0 ≤ xc) = true := decide_eq_true (by omega)
     have d1 : decide (xc < 8) = true := decide_eq_true (by omega)
     have d2 : decide (1 ≤ xm) = false := decide_eq_false (by omega)
     (try dsimp only); repeat' (first | go_values | go_skip | go_guarded | go_step | go_upon | go_back)
     go_ret
     exact ⟨by first | (rw [HF3.out]; rfl) | rw [HF3.out], H3.out.drop⟩
    ·have d0 : decide (0 ≤ xc) = true := decide_eq_true (by omega)
     have d1 : decide (xc < 8) = true := decide_eq_true (by omega)
     have d2 : decide (1 ≤ xm) = true := decide_eq_true (by omega)
     have d3 : decide (xm ≤ 2147483647) = false := decide_eq_false (by omega)
     (try dsimp only); repeat' (first | go_values | go_skip | go_guarded | go_step | go_upon | go_back)
     go_ret
     exact ⟨by first | (rw [HF3.out]; rfl) | rw [HF3.out], H3.out.drop⟩
   ·have HF3 : Hid (F = oz) := Lib.hid (by rw [HF2.out, e]; rfl)
    have d0 : decide (0 ≤ xc) = true := decide_eq_true (by omega)
    have d1 : decide (xc < 8) = true := decide_eq_true (by omega)
    have d2 : decide (1 ≤ xm) = true := decide_eq_true (by omega)
    have d3 : decide (xm ≤ 2147483647) = true := decide_eq_true (by omega)
    clear e
    (try dsimp only); repeat' (first | go_values | go_skip | go_guarded | go_step | go_upon | go_back)
    refine (HC2.out _ H3.out).mono ?_
    rintro r0 w4 ⟨rfl, h4⟩
    have H4 := Lib.hid h4.drop
    clear HC2 h4 H3
    (try dsimp only); repeat' (first | go_values | go_skip | go_guarded | go_step | go_upon | go_back)
    go_ret
    exact ⟨by first | (rw [HF3.out]; rfl) | rw [HF3.out], H4.out⟩
  | false =>
   have HF2 : Hid (F = ez) := Lib.hid (by rw [HF.out]; rfl)
   (try dsimp only); repeat' (first | go_values | go_skip | go_guarded | go_step | go_upon | go_back)
   refine (HC3.out _ H3.out).mono ?_
   rintro r0 w4 ⟨rfl, h4⟩
   have H4 := Lib.hid h4.drop
   clear HC3 h4 H3
   (try dsimp only); repeat' (first | go_values | go_skip | go_guarded | go_step | go_upon | go_back)
   go_ret
   exact ⟨by first | (rw [HF2.out]; rfl) | rw [HF2.out], H4.out⟩
end Go.Proofs.YtcnbmeiielkigaaGreatDoor
