/- ProxyEnough. -/
import Derived.Test.YtdemconpdjgimaaDoorPx12
import Derived.Test.YtdemconpdjgimaaDoorOpenRows
namespace Go.Proofs.YtdemconpdjgimaaDoor
open Go.RowKit
set_option linter.unusedVariables false
set_option linter.unusedSimpArgs false
theorem quad_of {w : World} {cs : List Value} (h : RdC Tryd.prog w 31 cs) : ∃ a b c d : Int, cs = [.int .i64 a, .int .i64 b, .int .i64 c, .int .i64 d] := by
  obtain ⟨hl, ha⟩ := h.array Tryd.underlying31
  rw [show Tryd.prog.cellsOf 31 = 4 by kernel_rfl] at hl
  rw [show Tryd.prog.cellsOf 3 = 1 by kernel_rfl] at ha
  match cs, hl with
  | [u0, u1, u2, u3], _ =>
    obtain ⟨a, h0, _⟩ := (ha 0 (by omega)).int Tryd.underlying3
    obtain ⟨b, h1, _⟩ := (ha 1 (by omega)).int Tryd.underlying3
    obtain ⟨c, h2, _⟩ := (ha 2 (by omega)).int Tryd.underlying3
    obtain ⟨d, h3, _⟩ := (ha 3 (by omega)).int Tryd.underlying3
    simp at h0 h1 h2 h3
    subst h0 h1 h2 h3
    exact ⟨a, b, c, d, rfl⟩
theorem quads_of {w : World} {v : Value} (h : RdC Tryd.prog w 22 [v]) : ∃ (a : Option Addr) (len cap : Nat), v = .slice a len cap ∧ len ≤ cap ∧ cap ≤ maxLen ∧ ∀ i, i < len → ∃ b off, a = some ⟨b, off, none⟩ ∧ b < w.heap.size ∧
    ∃ x y z u : Int, ∀ j q, [.int .i64 x, .int .i64 y, .int .i64 z, .int .i64 u][j]? = some q → w.cell? ⟨b, off + i * 4 + j, none⟩ = some q := by
  obtain ⟨a, len, cap, rfl, h1, h2, h3⟩ := h.rows Tryd.underlying22 (show Tryd.prog.cellsOf 31 = 4 by kernel_rfl) (by decide)
  refine ⟨a, len, cap, rfl, h1, h2, fun i hi => ?_⟩
  obtain ⟨b, off, hab, hb, cs, hl, hc, hr⟩ := h3 i hi
  obtain ⟨x, y, z, u, rfl⟩ := quad_of hr
  exact ⟨b, off, hab, hb, x, y, z, u, fun j q hj => by
    obtain ⟨h9, rfl⟩ := List.getElem?_eq_some_iff.1 hj
    exact hc j h9⟩
/-- Who has said what. -/
def saidC (B : Nat → Bool) : Array Value := ((List.range 135).map fun i => Value.bool (B i)).toArray
theorem said_size (B : Nat → Bool) : (saidC B).size = 135 := by simp [saidC]
theorem said_get (B : Nat → Bool) (i : Nat) (hi : i < 135) : (saidC B)[i]? = some (.bool (B i)) := by
  unfold saidC
  rw [List.getElem?_toArray, List.getElem?_map, List.getElem?_range hi]
  rfl
theorem said_set (B : Nat → Bool) (i : Nat) (hi : i < 135) : (saidC B).setIfInBounds i (.bool true) = saidC fun j => if j = i then true else B j := by
  apply Array.ext_getElem?
  intro j
  rw [Array.getElem?_setIfInBounds]
  by_cases hj : j < 135
  · by_cases hij : i = j
    · subst hij
      rw [if_pos rfl, if_pos (by rw [said_size]; exact hi), said_get _ _ hi, if_pos rfl]
    · rw [if_neg hij, said_get _ _ hj, said_get _ _ hj, if_neg (fun e => hij e.symm)]
  · rw [if_neg (by omega), Array.getElem?_eq_none (by rw [said_size]; omega), Array.getElem?_eq_none (by rw [said_size]; omega)]
theorem iqs {n : Int} (h0 : 0 ≤ n) (h1 : n ≤ 9007199254740991) : IQ n := by unfold IQ; omega
/-- The ballot for a view and an answer. -/
def bal7 (v a : Nat) (hv : v < 3) (ha : a < 3) : Bal := rBal (v : Int) 7 (a : Int) (iqs (by omega) (by omega)) (iqs (by omega) (by omega)) (iqs (by omega) (by omega))
theorem bal7_inj {v a v' a' : Nat} {hv : v < 3} {ha : a < 3} {hv' : v' < 3} {ha' : a' < 3} (h : bal7 v a hv ha = bal7 v' a' hv' ha') : v = v' ∧ a = a' := by
  have h1 : ((v : Int), (7 : Int), (0 : Int), (a : Int), (0 : Int)) = ((v' : Int), (7 : Int), (0 : Int), (a' : Int), (0 : Int)) := congrArg Subtype.val h
  simp only [Prod.mk.injEq, true_and, and_true] at h1
  omega
/-- The tally counts just what was said. -/
structure Sd (n : Nat) (B : Nat → Bool) (S : List (Bal × Nat)) : Prop where
  small : Small S
  bits : ∀ (v a : Nat) (hv : v < 3) (ha : a < 3) (j : Nat), j < 15 → bitAt ((mget S (bal7 v a hv ha)).getD 0) j = if B (j * 9 + v * 3 + a) then 1 else 0
  low : ∀ (v a j : Nat), n ≤ j → B (j * 9 + v * 3 + a) = true → ¬ (v < 3 ∧ a < 3)
theorem Sd.zero (n : Nat) : Sd n (fun _ => false) [] := ⟨small_nil, fun v a hv ha j hj => by show 0 / 2 ^ j % 2 = 0; rw [Nat.zero_div], fun v a j _ h => by cases h⟩
theorem Sd.add {n : Nat} {B : Nat → Bool} {S : List (Bal × Nat)} (h : Sd n B S) (v a : Nat) (hv : v < 3) (ha : a < 3) (w : Nat) (hw : w < n) (hn : n ≤ 15) : Sd n (fun j => if j = w * 9 + v * 3 + a then true else B j) (addS S (bal7 v a hv ha) w) := by
  refine ⟨small_add h.small _ w (by omega), fun v' a' hv' ha' j hj => ?_, fun v' a' j hj hb hva => ?_⟩
  · rw [addS_get]
    by_cases he : v' = v ∧ a' = a
    · obtain ⟨rfl, rfl⟩ := he
      rw [if_pos rfl]
      show bitAt ((mget S _).getD 0 ||| 2 ^ w) j = _
      rw [bit_or, h.bits v' a' hv' ha' j hj]
      by_cases hjw : w = j
      · subst hjw; simp
      · rw [if_neg hjw]
        have : ¬ (j * 9 + v' * 3 + a' = w * 9 + v' * 3 + a') := by omega
        simp only [if_neg this]
    · rw [if_neg (fun e => he (bal7_inj e)), h.bits v' a' hv' ha' j hj]
      have : ¬ (j * 9 + v' * 3 + a' = w * 9 + v * 3 + a) := by omega
      simp only [if_neg this]
  · by_cases hx : j * 9 + v' * 3 + a' = w * 9 + v * 3 + a
    · omega
    · simp only [if_neg hx] at hb
      exact h.low v' a' j hj hb hva
/-- How many of the first k have said it. -/
def cntSd (B : Nat → Bool) (v a : Nat) : Nat → Nat
  | 0 => 0
  | k + 1 => cntSd B v a k + if B (k * 9 + v * 3 + a) then 1 else 0
theorem cntSd_le (B : Nat → Bool) (v a k : Nat) : cntSd B v a k ≤ k := by
  induction k with
  | zero => exact Nat.le_refl _
  | succ k ih => unfold cntSd; split <;> omega
theorem cntSd_hi {n : Nat} {B : Nat → Bool} {S : List (Bal × Nat)} (h : Sd n B S) (v a : Nat) (hv : v < 3) (ha : a < 3) : ∀ k, cntSd B v a (n + k) = cntSd B v a n
  | 0 => rfl
  | k + 1 => by
    show cntSd B v a (n + k) + (if B ((n + k) * 9 + v * 3 + a) then 1 else 0) = _
    rw [cntSd_hi h v a hv ha k]
    cases hb : B ((n + k) * 9 + v * 3 + a) with
    | false => simp
    | true => exact absurd ⟨hv, ha⟩ (h.low v a (n + k) (by omega) hb)
theorem cntSd_pop {n : Nat} {B : Nat → Bool} {S : List (Bal × Nat)} (h : Sd n B S) (hn : n ≤ 15) (v a : Nat) (hv : v < 3) (ha : a < 3) : cntSd B v a n = popc ((mget S (bal7 v a hv ha)).getD 0) := by
  have h1 := cntSd_hi h v a hv ha (15 - n)
  rw [show n + (15 - n) = 15 by omega] at h1
  rw [← h1, popc_bits]
  simp only [cntSd]
  rw [h.bits v a hv ha 0 (by omega), h.bits v a hv ha 1 (by omega), h.bits v a hv ha 2 (by omega), h.bits v a hv ha 3 (by omega), h.bits v a hv ha 4 (by omega), h.bits v a hv ha 5 (by omega), h.bits v a hv ha 6 (by omega), h.bits v a hv ha 7 (by omega), h.bits v a hv ha 8 (by omega), h.bits v a hv ha 9 (by omega), h.bits v a hv ha 10 (by omega), h.bits v a hv ha 11 (by omega), h.bits v a hv ha 12 (by omega), h.bits v a hv ha 13 (by omega), h.bits v a hv ha 14 (by omega)]
  simp
set_option maxRecDepth 100000 in
set_option maxHeartbeats 0 in
theorem enough21_any (f : Int) (v : Value) (w : World) (hv : RdC Tryd.prog w 22 [v]) (hKM : KindsAt w ∧ MKindsAt w) : Calls Tryd.prog 3 #[.int .i64 f, v] w fun e w' => e = .returned (.bool true) ∧ Below w.heap.size w w' := by
  obtain ⟨ra, len, cap, rfl, hlc, hcm, hrow⟩ := quads_of hv
  obtain ⟨n, hn⟩ : ∃ n : Nat, (n : Int) = 3 + 2 * (f % 7) := ⟨(3 + 2 * (f % 7)).toNat, by omega⟩
  obtain ⟨h, hnh⟩ : ∃ h : Nat, n = 2 * h + 1 := ⟨(n - 1) / 2, by omega⟩
  have h1 : 1 ≤ h := by omega
  have h7 : h ≤ 7 := by omega
  have hq : (n : Int).tdiv 2 = (h : Int) := by rw [Int.tdiv_eq_ediv_of_nonneg (by omega)]; omega
  have hqi : (n : Int) / 2 = (h : Int) := by omega
  have hqn : n / 2 = h := by omega
  have hen : enough (n : Int) = (h : Int) + 1 := by rw [hn, enough_odd _ (by omega) (by omega)]; omega
  have HWK := Lib.hid (works21_any (Sep.start w) hKM.1 hKM.2)
  have HMD : Hid (∀ wx, Sep w [] wx → Calls Tryd.prog 8 #[.int .i64 f, .int .i64 5] wx fun e w' => ∃ g gc gt b la lc, e = .returned (.tuple #[.pointer (some ⟨g, 0, none⟩), .int .i64 n]) ∧ (la = none → lc = 0) ∧ Sep w (WaitL g gc gt b n 1 0 false 1 la lc 6 0 [] []) w') := Lib.hid fun wx hx => made_any f 5 hx hKM.1 n hn
  have n0 : (0 : Int) ≤ (n : Int) := by omega
  have n3 : (3 : Int) ≤ (n : Int) := by omega
  have n15 : (n : Int) ≤ 15 := by omega
  have l0 : (0 : Int) ≤ (len : Int) := by omega
  have HN := Lib.hid (And.intro hnh (And.intro h1 (And.intro h7 hen)))
  have HK := Lib.hid hKM
  have HD := Lib.hid hrow
  have HLC := Lib.hid (And.intro hlc hcm)
  clear hn hnh h1 h7 hen hKM hv hrow hlc hcm
  go_enter Tryd.func3, Tryd.ntmps3
  (try dsimp only); repeat' (first | go_values | go_skip | go_guarded | go_step | go_upon | go_back)
  refine HWK.out.mono ?_
  rintro r0 w1 ⟨rfl, hw1⟩
  have HM := Lib.hid (HMD.out _ hw1)
  clear HWK hw1 HMD
  (try dsimp only); repeat' (first | go_values | go_skip | go_guarded | go_step | go_upon | go_back)
  refine HM.out.mono ?_
  rintro r0 w1 ⟨g, gc, gt, b, la, lc, rfl, hla, hmd⟩
  have H1 := Lib.hid hmd
  clear HM hla hmd
  (try dsimp only); repeat' (first | go_values | go_skip | go_guarded | go_step | go_upon | go_back)
  have hz0 : Tryd.zeroCells29 = saidC fun _ => false := by kernel_rfl
  have h2 := H1.out.alloc (.cells Tryd.zeroCells29 29)
  obtain ⟨bs, hbs⟩ : ∃ z, z = w1.heap.size := ⟨_, rfl⟩
  obtain ⟨w2, hw2⟩ : ∃ z, z = w1.alloc (.cells Tryd.zeroCells29 29) := ⟨_, rfl⟩
  rw [← hbs, ← hw2, hz0] at h2
  have H2 := Lib.hid h2
  rw [← hw2, ← hbs]
  clear H1 h2 hz0 hw2 hbs
  go_loopw [8, 9] (fun dn z wr => ∃ (k : Nat) (B : Nat → Bool), k ≤ len ∧ k ≤ 100 ∧ z = .int .i64 k ∧ ((dn = .bool false ∧ ∃ (S : List (Bal × Nat)) (gt b : Nat) (la : Option Addr) (lc vw : Nat), Sd n B S ∧ Sep w (Cl bs (saidC B) 29 :: WaitL g gc gt b n 1 (vw : Int) false 1 la lc 6 0 S []) wr) ∨ (dn = .bool true ∧ ∃ vw : Nat, Sep w [Cl bs (saidC B) 29, PrxC g gc 2 (n : Int) 1 (vw : Int) false false 0 0 (.slice none 0 0) (.pointer none)] wr))) (fun _ z _ => 101 - (intOf z).toNat)
  case atStart => exact ⟨0, _, Nat.zero_le _, by omega, rfl, .inl ⟨rfl, [], gt, b, la, lc, 0, Sd.zero n, H2.out⟩⟩
  case round =>
    clear H2 gt b la lc
    obtain ⟨k, B, hkl, hk100, rfl, hst⟩ := hrel
    have k0 : (0 : Int) ≤ (k : Int) := by omega
    by_cases hgo : k < len ∧ k < 100
    · have d0 : decide (k < len) = true := decide_eq_true hgo.1
      have d0i : decide ((k : Int) < (len : Int)) = true := decide_eq_true (by omega)
      have d1 : decide ((k : Int) < 100) = true := decide_eq_true (by omega)
      have d1n : decide (k < 100) = true := decide_eq_true hgo.2
      have k1 : (k : Int) < (len : Int) := by omega
      have k99 : (k : Int) < 100 := by omega
      obtain ⟨b0, off, rfl, hbl, x0, x1, x2, x3, hat⟩ := HD.out k hgo.1
      have q : ∀ j z, [.int .i64 x0, .int .i64 x1, .int .i64 x2, .int .i64 x3][j]? = some z → ∀ wx, Below w.heap.size w wx → wx.cell? ⟨b0, off + k * 4 + j, none⟩ = some z := fun j z hj wx hb => (hb.cell (p := ⟨b0, off + k * 4 + j, none⟩) hbl).trans (hat j z hj)
      have hlowr : Below w.heap.size w wr := by
        rcases hst with ⟨-, S, gt, b, la, lc, vw, -, hs⟩ | ⟨-, vw, hs⟩
        · exact hs.low
        · exact hs.low
      have e0 := q 0 _ rfl _ hlowr
      have e1 := q 1 _ rfl _ hlowr
      have e2 := q 2 _ rfl _ hlowr
      simp only [Nat.add_zero] at e0
      have HQ3 : Hid (∀ wx, Below w.heap.size w wx → wx.cell? ⟨b0, off + k * 4 + 3, none⟩ = some (.int .i64 x3)) := Lib.hid fun wx hb => q 3 _ rfl wx hb
      obtain ⟨wh, hwh, hwh2⟩ : ∃ z : Nat, x0 % (n : Int) = (z : Int) ∧ z < n := ⟨(x0 % (n : Int)).toNat, by have := Int.emod_nonneg x0 (show (n : Int) ≠ 0 by omega); omega, by have := Int.emod_lt_of_pos x0 (show 0 < (n : Int) by omega); have := Int.emod_nonneg x0 (show (n : Int) ≠ 0 by omega); omega⟩
      obtain ⟨vi, hvi, hvi2⟩ : ∃ z : Nat, x1 % 3 = (z : Int) ∧ z < 3 := ⟨(x1 % 3).toNat, by omega, by omega⟩
      obtain ⟨av, hav, hav2⟩ : ∃ z : Nat, x2 % 3 = (z : Int) ∧ z < 3 := ⟨(x2 % 3).toNat, by omega, by omega⟩
      obtain ⟨t12, ht12⟩ : ∃ z, z = x3 % 12 := ⟨_, rfl⟩
      have B0 := Lib.hid (fun wx => (bring_any x0 n wx (by unfold Sm; omega)).mono fun e w' hh => And.intro hh.1 hh.2.symm)
      have B1 := Lib.hid (fun wx => (bring_any x1 3 wx (by unfold Sm; omega)).mono fun e w' hh => And.intro hh.1 hh.2.symm)
      have B2 := Lib.hid (fun wx => (bring_any x2 3 wx (by unfold Sm; omega)).mono fun e w' hh => And.intro hh.1 hh.2.symm)
      have B3 := Lib.hid (fun wx => bring_any x3 12 wx (by unfold Sm; omega))
      rw [hwh] at B0
      rw [hvi] at B1
      rw [hav] at B2
      rw [← ht12] at B3
      have wh0 : (0 : Int) ≤ (wh : Int) := by omega
      have whn : (wh : Int) < (n : Int) := by omega
      have vi0 : (0 : Int) ≤ (vi : Int) := by omega
      have vi3 : (vi : Int) < 3 := by omega
      have av0 : (0 : Int) ≤ (av : Int) := by omega
      have av3 : (av : Int) < 3 := by omega
      have HB := Lib.hid (And.intro hwh2 (And.intro hvi2 (And.intro hav2 hgo)))
      have HST := Lib.hid hst
      clear hst hwh hvi hav hwh2 hvi2 hav2 hat q hbl hgo hkl hk100 ht12
      (try dsimp only); repeat' (first | go_values | go_skip | go_guarded | go_step | go_upon | go_back)
      go_quiet (first | (go_at_call_of 9 (Value.int .i64 x0); exact Calls.quiet_of_same (B0.out _)) | (go_at_call_of 9 (Value.int .i64 x1); exact Calls.quiet_of_same (B1.out _)) | (go_at_call_of 9 (Value.int .i64 x2); exact Calls.quiet_of_same (B2.out _)))
      clear e0 e1 e2 B0 B1 B2
      (try dsimp only); repeat' (first | go_values | go_skip | go_guarded | go_step | go_upon | go_back)
      rcases HST.out with ⟨rfl, S, gt, b, la, lc, vw, hSd, hs⟩ | ⟨rfl, vw, hs⟩
      · have HSD := Lib.hid hSd
        clear hSd
        obtain ⟨vz, hvz⟩ : ∃ z : Nat, maxI (vw : Int) (vi : Int) = (z : Int) := ⟨(maxI (vw : Int) (vi : Int)).toNat, by unfold maxI; split <;> omega⟩
        have HRP := Lib.hid (reply_any (wh : Int) (vi : Int) 7 (av : Int) (hs.drewN nq))
        clear hs HST
        refine HRP.out.mono ?_
        rintro r0 w3 ⟨rfl, h3⟩
        have h4 : Sep w (Cl w3.heap.size #[.int .i64 0, .int .i64 0, .int .i64 0, .int .i64 0, .int .i64 0, .int .i64 0, .int .i64 0, .int .i64 0, .int .i64 0, .int .i64 0, .string ⟨#[]⟩, .int .i64 0, .int .i64 0, .slice none 0 0, .int .i64 0, .int .i64 0, .int .i64 0, .bool false, .int .i64 0, .slice none 0 0, .slice none 0 0, .int .i64 0] 44 :: Cl bs (saidC B) 29 :: WaitL g gc gt b n 1 (vw : Int) false 1 la lc 6 0 S []) (w3.alloc (.cells #[.int .i64 0, .int .i64 0, .int .i64 0, .int .i64 0, .int .i64 0, .int .i64 0, .int .i64 0, .int .i64 0, .int .i64 0, .int .i64 0, .string ⟨#[]⟩, .int .i64 0, .int .i64 0, .slice none 0 0, .int .i64 0, .int .i64 0, .int .i64 0, .bool false, .int .i64 0, .slice none 0 0, .slice none 0 0, .int .i64 0] 44)) := h3.alloc _
        have HTH := Lib.hid (h4.thereW 22 rfl)
        have h5 := h4.storeW (msC (rpM (wh : Int) (vi : Int) 7 (av : Int)) (.slice none 0 0) (.slice none 0 0) (.slice none 0 0)) rfl
        have e3 := HQ3.out _ h5.low
        obtain ⟨bm, hbm⟩ : ∃ z, z = w3.heap.size := ⟨_, rfl⟩
        obtain ⟨w5, hw5⟩ : ∃ z, z = (w3.alloc (.cells #[.int .i64 0, .int .i64 0, .int .i64 0, .int .i64 0, .int .i64 0, .int .i64 0, .int .i64 0, .int .i64 0, .int .i64 0, .int .i64 0, .string ⟨#[]⟩, .int .i64 0, .int .i64 0, .slice none 0 0, .int .i64 0, .int .i64 0, .int .i64 0, .bool false, .int .i64 0, .slice none 0 0, .slice none 0 0, .int .i64 0] 44)).setCells w3.heap.size 0 (msC (rpM (wh : Int) (vi : Int) 7 (av : Int)) (.slice none 0 0) (.slice none 0 0) (.slice none 0 0)).toList := ⟨_, rfl⟩
        rw [← hw5, ← hbm] at h5
        have h5 : Sep w (Cl bm (msC (rM (wh : Int) (vi : Int) 7 (av : Int) 1 false) (.slice none 0 0) (.slice none 0 0) (.slice none 0 0)) 44 :: Cl bs (saidC B) 29 :: WaitL g gc gt b n 1 (vw : Int) false 1 la lc 6 0 S []) w5 := h5
        have c17 := h5.cell (o := 17) (x := .bool false) rfl
        have f17 := h5.frozen 17
        have H5 := Lib.hid h5
        clear HRP h3 h4 h5
        (try dsimp only); repeat' (first | (with_reducible show wpList _ _ _ (Oper.mk _ (Op.store 44 _ _) _ _ _ _ :: _) _ _; refine stopP ?_) | go_values | go_skip | go_guarded | go_step | go_upon | go_back)
        unfold StopP
        refine wpList_store_mid rfl 44 (.tmp 13) (.tmp 62) rfl _ 0 (msC (rpM (wh : Int) (vi : Int) 7 (av : Int)) (.slice none 0 0) (.slice none 0 0) (.slice none 0 0)) rfl rfl HTH.out (by kernel_rfl) (by kernel_rfl) ?_
        clear HTH
        (try dsimp only); repeat' (first | go_values | go_skip | go_guarded | go_step | go_upon | go_back)
        rw [← hw5, ← hbm]
        clear hw5 hbm e3
        refine (B3.out _).mono ?_
        rintro r0 w6 ⟨rfl, rfl⟩
        cases ht : (t12 == 0) with
        | true =>
          as_aux_lemma =>
          have h6 : Sep w (Cl bm (msC (rM (wh : Int) (vi : Int) 7 (av : Int) 1 true) (.slice none 0 0) (.slice none 0 0) (.slice none 0 0)) 44 :: Cl bs (saidC B) 29 :: WaitL g gc gt b n 1 (vw : Int) false 1 la lc 6 0 S []) (w5.setCell ⟨bm, 17, none⟩ (.bool true)) := H5.out.setCell 17 (.bool true)
          have HL := Lib.hid h6.loadMs
          have h7 : Sep w (PrxC g gc 2 (n : Int) 1 (vw : Int) true false 6 1 (.slice la 0 lc) (.pointer (some ⟨gt, 0, none⟩)) :: [CkT gc 6 0, TalC gt b (n : Int), BalM b S, Cl bm (msC (rM (wh : Int) (vi : Int) 7 (av : Int) 1 true) (.slice none 0 0) (.slice none 0 0) (.slice none 0 0)) 44, Cl bs (saidC B) 29]) _ := h6.pick [2, 3, 4, 5, 0, 1] rfl
          have hT := tk_sure HK.out.2 h7 ((⟨wh0, whn, n15, vi0, by omega, by decide, by decide, av0, by omega, by decide, by decide⟩ : ROk (n : Int) (wh : Int) (vi : Int) 7 (av : Int) 1))
          rw [hvz] at hT
          have HT := Lib.hid hT
          clear h6 h7 H5 hT
          (try dsimp only); repeat' (first | (with_reducible show wpList _ _ _ (Oper.mk _ (Op.load 44 _) _ _ _ _ :: _) _ _; refine stopP ?_) | go_values | go_skip | go_guarded | go_step | go_upon | go_back)
          unfold StopP
          have hq_ := HL.out
          refine wpList_load_run rfl 44 _ rfl _ _ rfl hq_ ?_
          clear HL hq_
          (try dsimp only); repeat' (first | go_values | go_skip | go_guarded | go_step | go_upon | go_back)
          refine HT.out.mono ?_
          rintro r0 w8 ⟨rfl, h8⟩
          have h9 := h8.alloc (.cells #[.int .i64 0, .int .i64 (av : Int), .int .i64 0] 38)
          obtain ⟨br, hbr⟩ : ∃ z, z = w8.heap.size := ⟨_, rfl⟩
          obtain ⟨w9, hw9⟩ : ∃ z, z = w8.alloc (.cells #[.int .i64 0, .int .i64 (av : Int), .int .i64 0] 38) := ⟨_, rfl⟩
          rw [← hw9, ← hbr] at h9
          have h10 : Sep w (Cl bs (saidC B) 29 :: Cl bm (msC (rM (wh : Int) (vi : Int) 7 (av : Int) 1 true) (.slice none 0 0) (.slice none 0 0) (.slice none 0 0)) 44 :: Cl br #[.int .i64 0, .int .i64 (av : Int), .int .i64 0] 38 :: PrxC g gc 2 (n : Int) 1 (vz : Int) false false 0 0 (.slice none 0 0) (.pointer none) :: [CkT gc 6 0, TalC gt b (n : Int), BalM b S]) w9 := h9.pick [6, 5, 0, 1, 2, 3, 4] rfl
          have m17 := h10.sw2.cell (o := 17) (x := .bool true) rfl
          have HT9 := Lib.hid h10
          clear HT h8 h9 h10 c17 f17
          rw [hw9] at m17
          (try dsimp only); repeat' (first | go_values | go_skip | go_guarded | go_step | go_upon | go_back)
          rw [← hw9, ← hbr]
          clear hw9 hbr m17
          go_loopw [18, 19] (fun mz z wr2 => ∃ j : Nat, j ≤ n ∧ mz = .int .i64 ((cntSd (B) vi av j : Nat) : Int) ∧ z = .int .i64 j ∧ Sep w (Cl bs (saidC B) 29 :: Cl bm (msC (rM (wh : Int) (vi : Int) 7 (av : Int) 1 true) (.slice none 0 0) (.slice none 0 0) (.slice none 0 0)) 44 :: Cl br #[.int .i64 0, .int .i64 (av : Int), .int .i64 0] 38 :: PrxC g gc 2 (n : Int) 1 (vz : Int) false false 0 0 (.slice none 0 0) (.pointer none) :: [CkT gc 6 0, TalC gt b (n : Int), BalM b S]) wr2) (fun _ z _ => n - (intOf z).toNat)
          case atStart => exact ⟨0, Nat.zero_le _, rfl, rfl, HT9.out⟩
          case round =>
            obtain ⟨j, hj, rfl, rfl, hs2⟩ := hrel
            clear HT9
            have j0 : (0 : Int) ≤ (j : Int) := by omega
            by_cases hjn : j < n
            · have dj : decide (j < n) = true := decide_eq_true hjn
              have dji : decide ((j : Int) < (n : Int)) = true := decide_eq_true (by omega)
              have j15 : (j : Int) < 15 := by omega
              have hidx : j * 9 + vi * 3 + av < 135 := by have := HB.out; omega
              obtain ⟨bb, hbb⟩ : ∃ z : Bool, z = (B) (j * 9 + vi * 3 + av) := ⟨_, rfl⟩
              have cc : wr.cell? ⟨bs, j * 9 + vi * 3 + av, none⟩ = some (.bool bb) := by rw [hbb]; exact hs2.cell (said_get (B) (j * 9 + vi * 3 + av) hidx)
              have hcl := cntSd_le (B) vi av j
              have hcs : cntSd (B) vi av (j + 1) = cntSd (B) vi av j + if bb then 1 else 0 := by rw [hbb]; rfl
              clear hbb
              generalize cntSd (B) vi av j = c at *
              have HC := Lib.hid (And.intro hcs hjn)
              have HS2 := Lib.hid hs2
              have c0 : (0 : Int) ≤ (c : Int) := by omega
              have c15 : (c : Int) ≤ 15 := by omega
              clear hs2 hj hjn hidx hcl hcs
              cases bb with
              | true =>
                (try dsimp only); repeat' (first | go_values | go_skip | go_guarded | go_step | go_upon | go_back)
                go_roundw
                case rel => exact ⟨j + 1, by have := HC.out.2; omega, by rw [HC.out.1, if_pos rfl]; go_num, by go_num, HS2.out⟩
                case measure => have := HC.out.2; simp [intOf]; omega
              | false =>
                (try dsimp only); repeat' (first | go_values | go_skip | go_guarded | go_step | go_upon | go_back)
                go_roundw
                case rel => exact ⟨j + 1, by have := HC.out.2; omega, by rw [HC.out.1]; simp, by go_num, HS2.out⟩
                case measure => have := HC.out.2; simp [intOf]; omega
            · have dj : decide (j < n) = false := decide_eq_false hjn
              have dji : decide ((j : Int) < (n : Int)) = false := decide_eq_false (by omega)
              obtain rfl : j = n := by omega
              have m17 := hs2.sw2.cell (o := 17) (x := .bool true) rfl
              have m14 := hs2.sw2.cell (o := 14) (x := .int .i64 0) rfl
              have m15 := hs2.sw2.cell (o := 15) (x := .int .i64 (av : Int)) rfl
              have m16 := hs2.sw2.cell (o := 16) (x := .int .i64 0) rfl
              have q0 := hs2.sw3.cell (o := 0) (x := .int .i64 0) rfl
              have q1 := hs2.sw3.cell (o := 1) (x := .int .i64 (av : Int)) rfl
              have q2 := hs2.sw3.cell (o := 2) (x := .int .i64 0) rfl
              have ew : IntKind.i64.wrap ((h : Int) + 1) = (h : Int) + 1 := IntWalk.i64_in _ (by have := HN.out.2.2.1; omega)
              skip
              have HWT := Lib.hid (pxwaits_any hs2.sw4)
              have HS2 := Lib.hid hs2
              clear hs2 hj hjn
              (try dsimp only); repeat' (first | go_values | go_skip | go_guarded | go_step | go_upon | go_back)
              refine HWT.out.mono ?_
              rintro r0 w11 ⟨rfl, rfl⟩
              clear HWT
              (try dsimp only); repeat' (first | go_values | go_skip | go_guarded | go_step | go_upon | go_back)
              go_roundw
              case rel => exact ⟨k + 1, B, by have := HB.out.2.2.2.1; omega, by have := HB.out.2.2.2.2; omega, by go_num, .inr ⟨rfl, vz, HS2.out.pick [0, 3] rfl⟩⟩
              case measure => have := HB.out.2.2.2.2; simp [intOf]; omega
        | false =>
          have h6 : Sep w (Cl bm (msC (rM (wh : Int) (vi : Int) 7 (av : Int) 1 false) (.slice none 0 0) (.slice none 0 0) (.slice none 0 0)) 44 :: Cl bs (saidC B) 29 :: WaitL g gc gt b n 1 (vw : Int) false 1 la lc 6 0 S []) (w5.setCell ⟨bm, 17, none⟩ (.bool false)) := H5.out.setCell 17 (.bool false)
          have HL := Lib.hid h6.loadMs
          have h7 : Sep w (PrxC g gc 2 (n : Int) 1 (vw : Int) true false 6 1 (.slice la 0 lc) (.pointer (some ⟨gt, 0, none⟩)) :: TalC gt b (n : Int) :: BalM b S :: [CkT gc 6 0, Cl bm (msC (rM (wh : Int) (vi : Int) 7 (av : Int) 1 false) (.slice none 0 0) (.slice none 0 0) (.slice none 0 0)) 44, Cl bs (saidC B) 29]) _ := h6.pick [2, 4, 5, 3, 0, 1] rfl
          have hcm : cntSd (fun j => if j = wh * 9 + vi * 3 + av then true else B j) vi av n = popc ((mget S (bal7 vi av HB.out.2.1 HB.out.2.2.1)).getD 0 ||| 2 ^ wh) := by
            have h1 := cntSd_pop (HSD.out.add vi av HB.out.2.1 HB.out.2.2.1 wh HB.out.1 (by omega)) (by omega) vi av HB.out.2.1 HB.out.2.2.1
            rw [h1, addS_get, if_pos rfl]
            rfl
          have HCM := Lib.hid hcm
          clear hcm
          by_cases hpv : h + 1 ≤ popc ((mget S (bal7 vi av HB.out.2.1 HB.out.2.2.1)).getD 0 ||| 2 ^ wh)
          · as_aux_lemma =>
            have HPV := Lib.hid hpv
            have hT := tk_won (who := wh) HK.out.2 h7 ((⟨wh0, whn, n15, vi0, by omega, by decide, by decide, av0, by omega, by decide, by decide⟩ : ROk (n : Int) (wh : Int) (vi : Int) 7 (av : Int) 1)) HSD.out.small (iqs (by omega) (by omega)) (iqs (by omega) (by omega)) (iqs (by omega) (by omega)) (by have := HN.out.2.2.2; have h9 := HPV.out; unfold bal7 at h9; omega)
            rw [hvz] at hT
            have HT := Lib.hid hT
            clear h6 h7 H5 hT hpv
            (try dsimp only); repeat' (first | (with_reducible show wpList _ _ _ (Oper.mk _ (Op.load 44 _) _ _ _ _ :: _) _ _; refine stopP ?_) | go_values | go_skip | go_guarded | go_step | go_upon | go_back)
            unfold StopP
            have hq_ := HL.out
            refine wpList_load_run rfl 44 _ rfl _ _ rfl hq_ ?_
            clear HL hq_
            (try dsimp only); repeat' (first | go_values | go_skip | go_guarded | go_step | go_upon | go_back)
            refine HT.out.mono ?_
            rintro r0 w8 ⟨rfl, h8⟩
            have h9 := h8.alloc (.cells #[.int .i64 0, .int .i64 (av : Int), .int .i64 0] 38)
            obtain ⟨br, hbr⟩ : ∃ z, z = w8.heap.size := ⟨_, rfl⟩
            obtain ⟨w9, hw9⟩ : ∃ z, z = w8.alloc (.cells #[.int .i64 0, .int .i64 (av : Int), .int .i64 0] 38) := ⟨_, rfl⟩
            rw [← hw9, ← hbr] at h9
            have h10 : Sep w (Cl bs (saidC B) 29 :: Cl bm (msC (rM (wh : Int) (vi : Int) 7 (av : Int) 1 false) (.slice none 0 0) (.slice none 0 0) (.slice none 0 0)) 44 :: Cl br #[.int .i64 0, .int .i64 (av : Int), .int .i64 0] 38 :: PrxC g gc 2 (n : Int) 1 (vz : Int) false false 0 0 (.slice none 0 0) (.pointer none) :: [CkT gc 6 0]) w9 := h9.pick [4, 3, 0, 1, 2] rfl
            have hidx : wh * 9 + vi * 3 + av < 135 := by have := HB.out; omega
            have m17 := h10.sw2.cell (o := 17) (x := .bool false) rfl
            have cS := h10.cell (said_get B (wh * 9 + vi * 3 + av) hidx)
            have fS := h10.frozen (wh * 9 + vi * 3 + av)
            have h11 := h10.setCell (wh * 9 + vi * 3 + av) (.bool true)
            rw [said_set B _ hidx] at h11
            obtain ⟨w10, hw10⟩ : ∃ z, z = w9.setCell ⟨bs, wh * 9 + vi * 3 + av, none⟩ (.bool true) := ⟨_, rfl⟩
            rw [← hw10] at h11
            have HT9 := Lib.hid h11
            clear HT h8 h9 h10 h11 c17 f17 hidx
            generalize B (wh * 9 + vi * 3 + av) = bold at cS
            rw [hw9] at m17 cS fS
            (try dsimp only); repeat' (first | go_values | go_skip | go_guarded | go_step | go_upon | go_back)
            rw [← hw9, ← hbr, ← hw10]
            clear hw9 hbr hw10 m17 cS fS
            go_loopw [18, 19] (fun mz z wr2 => ∃ j : Nat, j ≤ n ∧ mz = .int .i64 ((cntSd ((fun j => if j = wh * 9 + vi * 3 + av then true else B j)) vi av j : Nat) : Int) ∧ z = .int .i64 j ∧ Sep w (Cl bs (saidC (fun j => if j = wh * 9 + vi * 3 + av then true else B j)) 29 :: Cl bm (msC (rM (wh : Int) (vi : Int) 7 (av : Int) 1 false) (.slice none 0 0) (.slice none 0 0) (.slice none 0 0)) 44 :: Cl br #[.int .i64 0, .int .i64 (av : Int), .int .i64 0] 38 :: PrxC g gc 2 (n : Int) 1 (vz : Int) false false 0 0 (.slice none 0 0) (.pointer none) :: [CkT gc 6 0]) wr2) (fun _ z _ => n - (intOf z).toNat)
            case atStart => exact ⟨0, Nat.zero_le _, rfl, rfl, HT9.out⟩
            case round =>
              obtain ⟨j, hj, rfl, rfl, hs2⟩ := hrel
              clear HT9
              have j0 : (0 : Int) ≤ (j : Int) := by omega
              by_cases hjn : j < n
              · have dj : decide (j < n) = true := decide_eq_true hjn
                have dji : decide ((j : Int) < (n : Int)) = true := decide_eq_true (by omega)
                have j15 : (j : Int) < 15 := by omega
                have hidx : j * 9 + vi * 3 + av < 135 := by have := HB.out; omega
                obtain ⟨bb, hbb⟩ : ∃ z : Bool, z = ((fun j => if j = wh * 9 + vi * 3 + av then true else B j)) (j * 9 + vi * 3 + av) := ⟨_, rfl⟩
                have cc : wr.cell? ⟨bs, j * 9 + vi * 3 + av, none⟩ = some (.bool bb) := by rw [hbb]; exact hs2.cell (said_get ((fun j => if j = wh * 9 + vi * 3 + av then true else B j)) (j * 9 + vi * 3 + av) hidx)
                have hcl := cntSd_le ((fun j => if j = wh * 9 + vi * 3 + av then true else B j)) vi av j
                have hcs : cntSd ((fun j => if j = wh * 9 + vi * 3 + av then true else B j)) vi av (j + 1) = cntSd ((fun j => if j = wh * 9 + vi * 3 + av then true else B j)) vi av j + if bb then 1 else 0 := by rw [hbb]; rfl
                clear hbb
                generalize cntSd ((fun j => if j = wh * 9 + vi * 3 + av then true else B j)) vi av j = c at *
                have HC := Lib.hid (And.intro hcs hjn)
                have HS2 := Lib.hid hs2
                have c0 : (0 : Int) ≤ (c : Int) := by omega
                have c15 : (c : Int) ≤ 15 := by omega
                clear hs2 hj hjn hidx hcl hcs
                cases bb with
                | true =>
                  (try dsimp only); repeat' (first | go_values | go_skip | go_guarded | go_step | go_upon | go_back)
                  go_roundw
                  case rel => exact ⟨j + 1, by have := HC.out.2; omega, by rw [HC.out.1, if_pos rfl]; go_num, by go_num, HS2.out⟩
                  case measure => have := HC.out.2; simp [intOf]; omega
                | false =>
                  (try dsimp only); repeat' (first | go_values | go_skip | go_guarded | go_step | go_upon | go_back)
                  go_roundw
                  case rel => exact ⟨j + 1, by have := HC.out.2; omega, by rw [HC.out.1]; simp, by go_num, HS2.out⟩
                  case measure => have := HC.out.2; simp [intOf]; omega
              · have dj : decide (j < n) = false := decide_eq_false hjn
                have dji : decide ((j : Int) < (n : Int)) = false := decide_eq_false (by omega)
                obtain rfl : j = n := by omega
                have m17 := hs2.sw2.cell (o := 17) (x := .bool false) rfl
                have m14 := hs2.sw2.cell (o := 14) (x := .int .i64 0) rfl
                have m15 := hs2.sw2.cell (o := 15) (x := .int .i64 (av : Int)) rfl
                have m16 := hs2.sw2.cell (o := 16) (x := .int .i64 0) rfl
                have q0 := hs2.sw3.cell (o := 0) (x := .int .i64 0) rfl
                have q1 := hs2.sw3.cell (o := 1) (x := .int .i64 (av : Int)) rfl
                have q2 := hs2.sw3.cell (o := 2) (x := .int .i64 0) rfl
                have ew : IntKind.i64.wrap ((h : Int) + 1) = (h : Int) + 1 := IntWalk.i64_in _ (by have := HN.out.2.2.1; omega)
                obtain ⟨cm, hcm⟩ : ∃ z : Nat, z = cntSd ((fun j => if j = wh * 9 + vi * 3 + av then true else B j)) vi av j := ⟨_, rfl⟩
                rw [← hcm]
                have gI : decide ((h : Int) + 1 ≤ (cm : Int)) = true := by rw [hcm, HCM.out]; exact decide_eq_true (by have := HPV.out; omega)
                have gN : decide (h + 1 ≤ cm) = true := by rw [hcm, HCM.out]; exact decide_eq_true (by have := HPV.out; omega)
                have gL : decide (h < cm) = true := by rw [hcm, HCM.out]; exact decide_eq_true (by have := HPV.out; omega)
                have gLi : decide ((h : Int) < (cm : Int)) = true := by rw [hcm, HCM.out]; exact decide_eq_true (by have := HPV.out; omega)
                clear hcm
                have HWT := Lib.hid (pxwaits_any hs2.sw4)
                have HS2 := Lib.hid hs2
                clear hs2 hj hjn
                (try dsimp only); repeat' (first | go_values | go_skip | go_guarded | go_step | go_upon | go_back)
                refine HWT.out.mono ?_
                rintro r0 w11 ⟨rfl, rfl⟩
                clear HWT
                (try dsimp only); repeat' (first | go_values | go_skip | go_guarded | go_step | go_upon | go_back)
                go_roundw
                case rel => exact ⟨k + 1, (fun j => if j = wh * 9 + vi * 3 + av then true else B j), by have := HB.out.2.2.2.1; omega, by have := HB.out.2.2.2.2; omega, by go_num, .inr ⟨rfl, vz, HS2.out.pick [0, 3] rfl⟩⟩
                case measure => have := HB.out.2.2.2.2; simp [intOf]; omega
          · as_aux_lemma =>
            have HPV := Lib.hid hpv
            have hT := tk_few (who := wh) HK.out.2 h7 ((⟨wh0, whn, n15, vi0, by omega, by decide, by decide, av0, by omega, by decide, by decide⟩ : ROk (n : Int) (wh : Int) (vi : Int) 7 (av : Int) 1)) HSD.out.small (iqs (by omega) (by omega)) (iqs (by omega) (by omega)) (iqs (by omega) (by omega)) (by have := HN.out.2.2.2; have h9 := HPV.out; unfold bal7 at h9; omega)
            rw [hvz] at hT
            have HT := Lib.hid hT
            unfold zTup at HT
            clear h6 h7 H5 hT hpv
            (try dsimp only); repeat' (first | (with_reducible show wpList _ _ _ (Oper.mk _ (Op.load 44 _) _ _ _ _ :: _) _ _; refine stopP ?_) | go_values | go_skip | go_guarded | go_step | go_upon | go_back)
            unfold StopP
            have hq_ := HL.out
            refine wpList_load_run rfl 44 _ rfl _ _ rfl hq_ ?_
            clear HL hq_
            (try dsimp only); repeat' (first | go_values | go_skip | go_guarded | go_step | go_upon | go_back)
            refine HT.out.mono ?_
            rintro r0 w8 ⟨rfl, h8⟩
            have h9 := h8.alloc (.cells #[.int .i64 0, .int .i64 0, .int .i64 0] 38)
            obtain ⟨br, hbr⟩ : ∃ z, z = w8.heap.size := ⟨_, rfl⟩
            obtain ⟨w9, hw9⟩ : ∃ z, z = w8.alloc (.cells #[.int .i64 0, .int .i64 0, .int .i64 0] 38) := ⟨_, rfl⟩
            rw [← hw9, ← hbr] at h9
            have h10 : Sep w (Cl bs (saidC B) 29 :: Cl bm (msC (rM (wh : Int) (vi : Int) 7 (av : Int) 1 false) (.slice none 0 0) (.slice none 0 0) (.slice none 0 0)) 44 :: Cl br #[.int .i64 0, .int .i64 0, .int .i64 0] 38 :: PrxC g gc 2 (n : Int) 1 (vz : Int) true false 6 1 (.slice la 0 lc) (.pointer (some ⟨gt, 0, none⟩)) :: [TalC gt b (n : Int), BalM b (addS S (bal7 vi av HB.out.2.1 HB.out.2.2.1) wh), CkT gc 6 0]) w9 := h9.pick [6, 5, 0, 1, 2, 3, 4] rfl
            have hidx : wh * 9 + vi * 3 + av < 135 := by have := HB.out; omega
            have m17 := h10.sw2.cell (o := 17) (x := .bool false) rfl
            have cS := h10.cell (said_get B (wh * 9 + vi * 3 + av) hidx)
            have fS := h10.frozen (wh * 9 + vi * 3 + av)
            have h11 := h10.setCell (wh * 9 + vi * 3 + av) (.bool true)
            rw [said_set B _ hidx] at h11
            obtain ⟨w10, hw10⟩ : ∃ z, z = w9.setCell ⟨bs, wh * 9 + vi * 3 + av, none⟩ (.bool true) := ⟨_, rfl⟩
            rw [← hw10] at h11
            have HT9 := Lib.hid h11
            clear HT h8 h9 h10 h11 c17 f17 hidx
            generalize B (wh * 9 + vi * 3 + av) = bold at cS
            rw [hw9] at m17 cS fS
            (try dsimp only); repeat' (first | go_values | go_skip | go_guarded | go_step | go_upon | go_back)
            rw [← hw9, ← hbr, ← hw10]
            clear hw9 hbr hw10 m17 cS fS
            go_loopw [18, 19] (fun mz z wr2 => ∃ j : Nat, j ≤ n ∧ mz = .int .i64 ((cntSd ((fun j => if j = wh * 9 + vi * 3 + av then true else B j)) vi av j : Nat) : Int) ∧ z = .int .i64 j ∧ Sep w (Cl bs (saidC (fun j => if j = wh * 9 + vi * 3 + av then true else B j)) 29 :: Cl bm (msC (rM (wh : Int) (vi : Int) 7 (av : Int) 1 false) (.slice none 0 0) (.slice none 0 0) (.slice none 0 0)) 44 :: Cl br #[.int .i64 0, .int .i64 0, .int .i64 0] 38 :: PrxC g gc 2 (n : Int) 1 (vz : Int) true false 6 1 (.slice la 0 lc) (.pointer (some ⟨gt, 0, none⟩)) :: [TalC gt b (n : Int), BalM b (addS S (bal7 vi av HB.out.2.1 HB.out.2.2.1) wh), CkT gc 6 0]) wr2) (fun _ z _ => n - (intOf z).toNat)
            case atStart => exact ⟨0, Nat.zero_le _, rfl, rfl, HT9.out⟩
            case round =>
              obtain ⟨j, hj, rfl, rfl, hs2⟩ := hrel
              clear HT9
              have j0 : (0 : Int) ≤ (j : Int) := by omega
              by_cases hjn : j < n
              · have dj : decide (j < n) = true := decide_eq_true hjn
                have dji : decide ((j : Int) < (n : Int)) = true := decide_eq_true (by omega)
                have j15 : (j : Int) < 15 := by omega
                have hidx : j * 9 + vi * 3 + av < 135 := by have := HB.out; omega
                obtain ⟨bb, hbb⟩ : ∃ z : Bool, z = ((fun j => if j = wh * 9 + vi * 3 + av then true else B j)) (j * 9 + vi * 3 + av) := ⟨_, rfl⟩
                have cc : wr.cell? ⟨bs, j * 9 + vi * 3 + av, none⟩ = some (.bool bb) := by rw [hbb]; exact hs2.cell (said_get ((fun j => if j = wh * 9 + vi * 3 + av then true else B j)) (j * 9 + vi * 3 + av) hidx)
                have hcl := cntSd_le ((fun j => if j = wh * 9 + vi * 3 + av then true else B j)) vi av j
                have hcs : cntSd ((fun j => if j = wh * 9 + vi * 3 + av then true else B j)) vi av (j + 1) = cntSd ((fun j => if j = wh * 9 + vi * 3 + av then true else B j)) vi av j + if bb then 1 else 0 := by rw [hbb]; rfl
                clear hbb
                generalize cntSd ((fun j => if j = wh * 9 + vi * 3 + av then true else B j)) vi av j = c at *
                have HC := Lib.hid (And.intro hcs hjn)
                have HS2 := Lib.hid hs2
                have c0 : (0 : Int) ≤ (c : Int) := by omega
                have c15 : (c : Int) ≤ 15 := by omega
                clear hs2 hj hjn hidx hcl hcs
                cases bb with
                | true =>
                  (try dsimp only); repeat' (first | go_values | go_skip | go_guarded | go_step | go_upon | go_back)
                  go_roundw
                  case rel => exact ⟨j + 1, by have := HC.out.2; omega, by rw [HC.out.1, if_pos rfl]; go_num, by go_num, HS2.out⟩
                  case measure => have := HC.out.2; simp [intOf]; omega
                | false =>
                  (try dsimp only); repeat' (first | go_values | go_skip | go_guarded | go_step | go_upon | go_back)
                  go_roundw
                  case rel => exact ⟨j + 1, by have := HC.out.2; omega, by rw [HC.out.1]; simp, by go_num, HS2.out⟩
                  case measure => have := HC.out.2; simp [intOf]; omega
              · have dj : decide (j < n) = false := decide_eq_false hjn
                have dji : decide ((j : Int) < (n : Int)) = false := decide_eq_false (by omega)
                obtain rfl : j = n := by omega
                have m17 := hs2.sw2.cell (o := 17) (x := .bool false) rfl
                have m14 := hs2.sw2.cell (o := 14) (x := .int .i64 0) rfl
                have m15 := hs2.sw2.cell (o := 15) (x := .int .i64 (av : Int)) rfl
                have m16 := hs2.sw2.cell (o := 16) (x := .int .i64 0) rfl
                have q0 := hs2.sw3.cell (o := 0) (x := .int .i64 0) rfl
                have q1 := hs2.sw3.cell (o := 1) (x := .int .i64 0) rfl
                have q2 := hs2.sw3.cell (o := 2) (x := .int .i64 0) rfl
                have ew : IntKind.i64.wrap ((h : Int) + 1) = (h : Int) + 1 := IntWalk.i64_in _ (by have := HN.out.2.2.1; omega)
                obtain ⟨cm, hcm⟩ : ∃ z : Nat, z = cntSd ((fun j => if j = wh * 9 + vi * 3 + av then true else B j)) vi av j := ⟨_, rfl⟩
                rw [← hcm]
                have gI : decide ((h : Int) + 1 ≤ (cm : Int)) = false := by rw [hcm, HCM.out]; exact decide_eq_false (by have := HPV.out; omega)
                have gN : decide (h + 1 ≤ cm) = false := by rw [hcm, HCM.out]; exact decide_eq_false (by have := HPV.out; omega)
                have gL : decide (h < cm) = false := by rw [hcm, HCM.out]; exact decide_eq_false (by have := HPV.out; omega)
                have gLi : decide ((h : Int) < (cm : Int)) = false := by rw [hcm, HCM.out]; exact decide_eq_false (by have := HPV.out; omega)
                clear hcm
                have HWT := Lib.hid (pxwaits_any hs2.sw4)
                have HS2 := Lib.hid hs2
                clear hs2 hj hjn
                (try dsimp only); repeat' (first | go_values | go_skip | go_guarded | go_step | go_upon | go_back)
                refine HWT.out.mono ?_
                rintro r0 w11 ⟨rfl, rfl⟩
                clear HWT
                (try dsimp only); repeat' (first | go_values | go_skip | go_guarded | go_step | go_upon | go_back)
                go_roundw
                case rel => exact ⟨k + 1, (fun j => if j = wh * 9 + vi * 3 + av then true else B j), by have := HB.out.2.2.2.1; omega, by have := HB.out.2.2.2.2; omega, by go_num, .inl ⟨rfl, addS S (bal7 vi av HB.out.2.1 HB.out.2.2.1) wh, gt, b, la, lc, vz, HSD.out.add vi av HB.out.2.1 HB.out.2.2.1 wh HB.out.1 (by omega), HS2.out.pick [0, 3, 6, 4, 5] rfl⟩⟩
                case measure => have := HB.out.2.2.2.2; simp [intOf]; omega
      · skip
        have HRP := Lib.hid (reply_any (wh : Int) (vi : Int) 7 (av : Int) (hs.drewN nq))
        clear hs HST
        refine HRP.out.mono ?_
        rintro r0 w3 ⟨rfl, h3⟩
        have h4 : Sep w (Cl w3.heap.size #[.int .i64 0, .int .i64 0, .int .i64 0, .int .i64 0, .int .i64 0, .int .i64 0, .int .i64 0, .int .i64 0, .int .i64 0, .int .i64 0, .string ⟨#[]⟩, .int .i64 0, .int .i64 0, .slice none 0 0, .int .i64 0, .int .i64 0, .int .i64 0, .bool false, .int .i64 0, .slice none 0 0, .slice none 0 0, .int .i64 0] 44 :: Cl bs (saidC B) 29 :: [PrxC g gc 2 (n : Int) 1 (vw : Int) false false 0 0 (.slice none 0 0) (.pointer none)]) (w3.alloc (.cells #[.int .i64 0, .int .i64 0, .int .i64 0, .int .i64 0, .int .i64 0, .int .i64 0, .int .i64 0, .int .i64 0, .int .i64 0, .int .i64 0, .string ⟨#[]⟩, .int .i64 0, .int .i64 0, .slice none 0 0, .int .i64 0, .int .i64 0, .int .i64 0, .bool false, .int .i64 0, .slice none 0 0, .slice none 0 0, .int .i64 0] 44)) := h3.alloc _
        have HTH := Lib.hid (h4.thereW 22 rfl)
        have h5 := h4.storeW (msC (rpM (wh : Int) (vi : Int) 7 (av : Int)) (.slice none 0 0) (.slice none 0 0) (.slice none 0 0)) rfl
        have e3 := HQ3.out _ h5.low
        obtain ⟨bm, hbm⟩ : ∃ z, z = w3.heap.size := ⟨_, rfl⟩
        obtain ⟨w5, hw5⟩ : ∃ z, z = (w3.alloc (.cells #[.int .i64 0, .int .i64 0, .int .i64 0, .int .i64 0, .int .i64 0, .int .i64 0, .int .i64 0, .int .i64 0, .int .i64 0, .int .i64 0, .string ⟨#[]⟩, .int .i64 0, .int .i64 0, .slice none 0 0, .int .i64 0, .int .i64 0, .int .i64 0, .bool false, .int .i64 0, .slice none 0 0, .slice none 0 0, .int .i64 0] 44)).setCells w3.heap.size 0 (msC (rpM (wh : Int) (vi : Int) 7 (av : Int)) (.slice none 0 0) (.slice none 0 0) (.slice none 0 0)).toList := ⟨_, rfl⟩
        rw [← hw5, ← hbm] at h5
        have h5 : Sep w (Cl bm (msC (rM (wh : Int) (vi : Int) 7 (av : Int) 1 false) (.slice none 0 0) (.slice none 0 0) (.slice none 0 0)) 44 :: Cl bs (saidC B) 29 :: [PrxC g gc 2 (n : Int) 1 (vw : Int) false false 0 0 (.slice none 0 0) (.pointer none)]) w5 := h5
        have c17 := h5.cell (o := 17) (x := .bool false) rfl
        have f17 := h5.frozen 17
        have H5 := Lib.hid h5
        clear HRP h3 h4 h5
        (try dsimp only); repeat' (first | (with_reducible show wpList _ _ _ (Oper.mk _ (Op.store 44 _ _) _ _ _ _ :: _) _ _; refine stopP ?_) | go_values | go_skip | go_guarded | go_step | go_upon | go_back)
        unfold StopP
        refine wpList_store_mid rfl 44 (.tmp 13) (.tmp 62) rfl _ 0 (msC (rpM (wh : Int) (vi : Int) 7 (av : Int)) (.slice none 0 0) (.slice none 0 0) (.slice none 0 0)) rfl rfl HTH.out (by kernel_rfl) (by kernel_rfl) ?_
        clear HTH
        (try dsimp only); repeat' (first | go_values | go_skip | go_guarded | go_step | go_upon | go_back)
        rw [← hw5, ← hbm]
        clear hw5 hbm e3
        refine (B3.out _).mono ?_
        rintro r0 w6 ⟨rfl, rfl⟩
        cases ht : (t12 == 0) with
        | true =>
          have h6 : Sep w (Cl bm (msC (rM (wh : Int) (vi : Int) 7 (av : Int) 1 true) (.slice none 0 0) (.slice none 0 0) (.slice none 0 0)) 44 :: Cl bs (saidC B) 29 :: [PrxC g gc 2 (n : Int) 1 (vw : Int) false false 0 0 (.slice none 0 0) (.pointer none)]) (w5.setCell ⟨bm, 17, none⟩ (.bool true)) := H5.out.setCell 17 (.bool true)
          have HL := Lib.hid h6.loadMs
          have h7 : Sep w [PrxC g gc 2 (n : Int) 1 (vw : Int) false false 0 0 (.slice none 0 0) (.pointer none), Cl bm (msC (rM (wh : Int) (vi : Int) 7 (av : Int) 1 true) (.slice none 0 0) (.slice none 0 0) (.slice none 0 0)) 44, Cl bs (saidC B) 29] _ := h6.pick [2, 0, 1] rfl
          have HT := Lib.hid (tk_off (em := 1) (s := true) HK.out.2 h7 ((⟨wh0, whn, n15, vi0, by omega, by decide, by decide, av0, by omega, by decide, by decide⟩ : ROk (n : Int) (wh : Int) (vi : Int) 7 (av : Int) 1)) rfl)
          unfold zTup at HT
          clear h6 h7 H5
          (try dsimp only); repeat' (first | (with_reducible show wpList _ _ _ (Oper.mk _ (Op.load 44 _) _ _ _ _ :: _) _ _; refine stopP ?_) | go_values | go_skip | go_guarded | go_step | go_upon | go_back)
          unfold StopP
          have hq_ := HL.out
          refine wpList_load_run rfl 44 _ rfl _ _ rfl hq_ ?_
          clear HL hq_
          (try dsimp only); repeat' (first | go_values | go_skip | go_guarded | go_step | go_upon | go_back)
          refine HT.out.mono ?_
          rintro r0 w8 ⟨rfl, h8⟩
          have h9 := h8.alloc0 (.cells #[.int .i64 0, .int .i64 0, .int .i64 0] 38)
          have H9 := Lib.hid h9
          clear HT h8 h9 c17 f17
          (try dsimp only); repeat' (first | go_values | go_skip | go_guarded | go_step | go_upon | go_back)
          refine (pxwaits_any H9.out).mono ?_
          rintro r0 w9 ⟨rfl, rfl⟩
          (try dsimp only); repeat' (first | go_values | go_skip | go_guarded | go_step | go_upon | go_back)
          go_roundw
          case rel => exact ⟨k + 1, B, by have := HB.out.2.2.2.1; omega, by have := HB.out.2.2.2.2; omega, by go_num, .inr ⟨rfl, vw, H9.out.pick [2, 0] rfl⟩⟩
          case measure => have := HB.out.2.2.2.2; simp [intOf]; omega
        | false =>
          have h6 : Sep w (Cl bm (msC (rM (wh : Int) (vi : Int) 7 (av : Int) 1 false) (.slice none 0 0) (.slice none 0 0) (.slice none 0 0)) 44 :: Cl bs (saidC B) 29 :: [PrxC g gc 2 (n : Int) 1 (vw : Int) false false 0 0 (.slice none 0 0) (.pointer none)]) (w5.setCell ⟨bm, 17, none⟩ (.bool false)) := H5.out.setCell 17 (.bool false)
          have HL := Lib.hid h6.loadMs
          have h7 : Sep w [PrxC g gc 2 (n : Int) 1 (vw : Int) false false 0 0 (.slice none 0 0) (.pointer none), Cl bm (msC (rM (wh : Int) (vi : Int) 7 (av : Int) 1 false) (.slice none 0 0) (.slice none 0 0) (.slice none 0 0)) 44, Cl bs (saidC B) 29] _ := h6.pick [2, 0, 1] rfl
          have HT := Lib.hid (tk_off (em := 1) (s := false) HK.out.2 h7 ((⟨wh0, whn, n15, vi0, by omega, by decide, by decide, av0, by omega, by decide, by decide⟩ : ROk (n : Int) (wh : Int) (vi : Int) 7 (av : Int) 1)) rfl)
          unfold zTup at HT
          clear h6 h7 H5
          (try dsimp only); repeat' (first | (with_reducible show wpList _ _ _ (Oper.mk _ (Op.load 44 _) _ _ _ _ :: _) _ _; refine stopP ?_) | go_values | go_skip | go_guarded | go_step | go_upon | go_back)
          unfold StopP
          have hq_ := HL.out
          refine wpList_load_run rfl 44 _ rfl _ _ rfl hq_ ?_
          clear HL hq_
          (try dsimp only); repeat' (first | go_values | go_skip | go_guarded | go_step | go_upon | go_back)
          refine HT.out.mono ?_
          rintro r0 w8 ⟨rfl, h8⟩
          have h9 := h8.alloc0 (.cells #[.int .i64 0, .int .i64 0, .int .i64 0] 38)
          have H9 := Lib.hid h9
          clear HT h8 h9 c17 f17
          (try dsimp only); repeat' (first | go_values | go_skip | go_guarded | go_step | go_upon | go_back)
          refine (pxwaits_any H9.out).mono ?_
          rintro r0 w9 ⟨rfl, rfl⟩
          (try dsimp only); repeat' (first | go_values | go_skip | go_guarded | go_step | go_upon | go_back)
          go_roundw
          case rel => exact ⟨k + 1, B, by have := HB.out.2.2.2.1; omega, by have := HB.out.2.2.2.2; omega, by go_num, .inr ⟨rfl, vw, H9.out.pick [2, 0] rfl⟩⟩
          case measure => have := HB.out.2.2.2.2; simp [intOf]; omega
    · have HW := Lib.hid (And.intro hst hgo)
      clear hst
      have hsx : ∃ L, Sep w (Cl bs (saidC B) 29 :: L) wr := by
        rcases HW.out.1 with ⟨-, S, gt, b, la, lc, vw, -, hs⟩ | ⟨-, vw, hs⟩
        · exact ⟨_, hs⟩
        · exact ⟨_, hs⟩
      obtain ⟨L, hsL⟩ := hsx
      have HLow := Lib.hid hsL.low
      clear hsL HW hkl hk100
      by_cases hkl : k < len
      · have d0 : decide (k < len) = true := decide_eq_true hkl
        have d0i : decide ((k : Int) < (len : Int)) = true := decide_eq_true (by omega)
        have d1 : decide ((k : Int) < 100) = false := decide_eq_false (by omega)
        have d1n : decide (k < 100) = false := decide_eq_false (by omega)
        clear hgo hkl
        (try dsimp only); repeat' (first | go_values | go_skip | go_guarded | go_step | go_upon | go_back)
        go_ret
        exact ⟨rfl, HLow.out⟩
      · have d0 : decide (k < len) = false := decide_eq_false hkl
        have d0i : decide ((k : Int) < (len : Int)) = false := decide_eq_false (by omega)
        clear hgo hkl
        (try dsimp only); repeat' (first | go_values | go_skip | go_guarded | go_step | go_upon | go_back)
        go_ret
        exact ⟨rfl, HLow.out⟩
end Go.Proofs.YtdemconpdjgimaaDoor
