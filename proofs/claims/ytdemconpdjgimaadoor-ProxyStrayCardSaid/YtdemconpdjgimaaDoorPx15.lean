/- ProxyStray. -/
import Derived.Test.YtdemconpdjgimaaDoorPx12
import Derived.Test.YtdemconpdjgimaaDoorOpenRows
namespace Go.Proofs.YtdemconpdjgimaaDoor
open Go.RowKit
set_option linter.unusedVariables false
set_option linter.unusedSimpArgs false
theorem pair_of {w : World} {cs : List Value} (h : RdC Tryd.prog w 50 cs) : ∃ a b : Int, cs = [.int .i64 a, .int .i64 b] := by
  obtain ⟨hl, ha⟩ := h.array Tryd.underlying50
  rw [show Tryd.prog.cellsOf 50 = 2 by kernel_rfl] at hl
  rw [show Tryd.prog.cellsOf 3 = 1 by kernel_rfl] at ha
  match cs, hl with
  | [u0, u1], _ =>
    obtain ⟨a, h0, _⟩ := (ha 0 (by omega)).int Tryd.underlying3
    obtain ⟨b, h1, _⟩ := (ha 1 (by omega)).int Tryd.underlying3
    simp at h0 h1
    subst h0 h1
    exact ⟨a, b, rfl⟩
theorem pairs_of {w : World} {v : Value} (h : RdC Tryd.prog w 49 [v]) : ∃ (a : Option Addr) (len cap : Nat), v = .slice a len cap ∧ len ≤ cap ∧ cap ≤ maxLen ∧ ∀ i, i < len → ∃ b off, a = some ⟨b, off, none⟩ ∧ b < w.heap.size ∧
    ∃ x y : Int, ∀ j q, [.int .i64 x, .int .i64 y][j]? = some q → w.cell? ⟨b, off + i * 2 + j, none⟩ = some q := by
  obtain ⟨a, len, cap, rfl, h1, h2, h3⟩ := h.rows Tryd.underlying49 (show Tryd.prog.cellsOf 50 = 2 by kernel_rfl) (by decide)
  refine ⟨a, len, cap, rfl, h1, h2, fun i hi => ?_⟩
  obtain ⟨b, off, hab, hb, cs, hl, hc, hr⟩ := h3 i hi
  obtain ⟨x, y, rfl⟩ := pair_of hr
  exact ⟨b, off, hab, hb, x, y, fun j q hj => by
    obtain ⟨h9, rfl⟩ := List.getElem?_eq_some_iff.1 hj
    exact hc j h9⟩
theorem iq7 : IQ 7 := by unfold IQ; omega
theorem iq2 : IQ 2 := by unfold IQ; omega
def x2B : Bal := rBal 1 7 2 iq1 iq7 iq2
/-- Just the first k. -/
structure Fs (S : List (Bal × Nat)) (k : Nat) : Prop where
  small : Small S
  bit : ∀ j, j < 15 → bitAt ((mget S x2B).getD 0) j = if j < k then 1 else 0
  pop : popc ((mget S x2B).getD 0) = k
theorem Fs.zero : Fs [] 0 := ⟨small_nil, fun j _ => by show 0 / 2 ^ j % 2 = 0; rw [Nat.zero_div], (by show popc 0 = 0; decide)⟩
theorem Fs.pop2 {S : List (Bal × Nat)} {k : Nat} (h : Fs S k) (w : Nat) (hw : w < 15) (hk : w ≤ k) : popc ((mget S x2B).getD 0 ||| 2 ^ w) = max k (w + 1) := by
  have h1 := popc_or ((mget S x2B).getD 0) w hw
  rw [h.bit w hw, h.pop] at h1
  split at h1 <;> omega
theorem Fs.add {S : List (Bal × Nat)} {k : Nat} (h : Fs S k) (w : Nat) (hw : w < 15) (hk : w ≤ k) : Fs (addS S x2B w) (max k (w + 1)) := by
  have e : (mget (addS S x2B w) x2B).getD 0 = (mget S x2B).getD 0 ||| 2 ^ w := by rw [addS_get, if_pos rfl]; rfl
  refine ⟨small_add h.small _ w hw, fun j hj => ?_, by rw [e]; exact h.pop2 w hw hk⟩
  rw [e, bit_or, h.bit j hj]
  by_cases hwj : w = j
  · subst hwj
    rw [if_pos rfl, if_pos (by omega)]
  · rw [if_neg hwj]
    by_cases hjk : j < k
    · rw [if_pos hjk, if_pos (by omega)]
    · rw [if_neg hjk, if_neg (by omega)]
theorem maxI_01 {v : Int} (h0 : 0 ≤ v) (h1 : v ≤ 1) : maxI v 1 = 1 := by unfold maxI; split <;> omega
theorem rok7 {n k : Nat} (hk : k < n) (hn : n ≤ 15) : ROk (n : Int) (k : Int) 1 7 2 1 := ⟨by omega, by omega, by omega, by decide, by decide, by decide, by decide, by decide, by decide, by decide, by decide⟩
theorem few7 {n h : Nat} {S : List (Bal × Nat)} {k w : Nat} (hF : Fs S k) (hw : w < 15) (hk : w ≤ k) (hen : enough (n : Int) = (h : Int) + 1) (hlt : max k (w + 1) ≤ h) : ¬ enough (n : Int) ≤ (popc ((mget S (rBal 1 7 2 iq1 iq7 iq2)).getD 0 ||| 2 ^ w) : Nat) := by
  have h1 := hF.pop2 w hw hk
  unfold x2B at h1
  rw [h1, hen]
  omega
theorem won7 {n h : Nat} {S : List (Bal × Nat)} {k w : Nat} (hF : Fs S k) (hw : w < 15) (hk : w ≤ k) (hen : enough (n : Int) = (h : Int) + 1) (hlt : h + 1 ≤ max k (w + 1)) : enough (n : Int) ≤ (popc ((mget S (rBal 1 7 2 iq1 iq7 iq2)).getD 0 ||| 2 ^ w) : Nat) := by
  have h1 := hF.pop2 w hw hk
  unfold x2B at h1
  rw [h1, hen]
  omega
set_option maxRecDepth 100000 in
set_option maxHeartbeats 0 in
theorem stray_any (f : Int) (v : Value) (ahead : Int) (w : World) (hv : RdC Tryd.prog w 49 [v]) (hKM : KindsAt w ∧ MKindsAt w) : Calls Tryd.prog 4 #[.int .i64 f, v, .int .i64 ahead] w fun e w' => e = .returned (.bool true) ∧ Below w.heap.size w w' := by
  obtain ⟨ra, len, cap, rfl, hlc, hcm, hrow⟩ := pairs_of hv
  obtain ⟨n, hn⟩ : ∃ n : Nat, (n : Int) = 3 + 2 * (f % 7) := ⟨(3 + 2 * (f % 7)).toNat, by omega⟩
  obtain ⟨h, hnh⟩ : ∃ h : Nat, n = 2 * h + 1 := ⟨(n - 1) / 2, by omega⟩
  have h1 : 1 ≤ h := by omega
  have h7 : h ≤ 7 := by omega
  have hq : (n : Int).tdiv 2 = (h : Int) := by rw [Int.tdiv_eq_ediv_of_nonneg (by omega)]; omega
  have hqi : (n : Int) / 2 = (h : Int) := by omega
  have hqn : n / 2 = h := by omega
  have ew : IntKind.i64.wrap ((h : Int) + 1) = (h : Int) + 1 := IntWalk.i64_in _ (by omega)
  have hen : enough (n : Int) = (h : Int) + 1 := by rw [hn, enough_odd _ (by omega) (by omega)]; omega
  have HM1 := Lib.hid (made_any (w0 := w) (L := []) f 5 (Sep.start w) hKM.1 n hn)
  have HM2 : Hid (∀ wx M, Sep w M wx → Calls Tryd.prog 8 #[.int .i64 f, .int .i64 5] wx fun e w' => ∃ g gc gt b la lc, e = .returned (.tuple #[.pointer (some ⟨g, 0, none⟩), .int .i64 n]) ∧ (la = none → lc = 0) ∧ Sep w (WaitL g gc gt b n 1 0 false 1 la lc 6 0 [] M) w') := Lib.hid fun wx M hx => made_any f 5 hx hKM.1 n hn
  obtain ⟨A, hA, hA2⟩ : ∃ z : Nat, ahead % ((h : Int) + 1) = (z : Int) ∧ z ≤ h := ⟨(ahead % ((h : Int) + 1)).toNat, by have := Int.emod_nonneg ahead (show (h : Int) + 1 ≠ 0 by omega); omega, by have := Int.emod_lt_of_pos ahead (show 0 < (h : Int) + 1 by omega); have := Int.emod_nonneg ahead (show (h : Int) + 1 ≠ 0 by omega); omega⟩
  have HBA := Lib.hid (fun wx => bring_any ahead ((h : Int) + 1) wx (by unfold Sm; omega))
  rw [hA] at HBA
  have n0 : (0 : Int) ≤ (n : Int) := by omega
  have n3 : (3 : Int) ≤ (n : Int) := by omega
  have n15 : (n : Int) ≤ 15 := by omega
  have l0 : (0 : Int) ≤ (len : Int) := by omega
  have HN := Lib.hid (And.intro hnh (And.intro h1 (And.intro h7 (And.intro hen hA2))))
  have HK := Lib.hid hKM
  have HD := Lib.hid hrow
  clear hn hnh h1 h7 hen hKM hv hrow hlc hcm hA hA2
  go_enter Tryd.func4, Tryd.ntmps4
  (try dsimp only); repeat' (first | go_values | go_skip | go_guarded | go_step | go_upon | go_back)
  refine HM1.out.mono ?_
  rintro r0 w1 ⟨g, gc, gt, b, la, lc, rfl, -, hmd⟩
  have HM := Lib.hid (HM2.out _ _ hmd)
  clear HM1 HM2 hmd
  (try dsimp only); repeat' (first | go_values | go_skip | go_guarded | go_step | go_upon | go_back)
  refine HM.out.mono ?_
  rintro r0 w2 ⟨k, kc, kt, kb, ka, kl, rfl, -, hmd⟩
  have h2 : Sep w [PrxC g gc 2 (n : Int) 1 0 true false 6 1 (.slice la 0 lc) (.pointer (some ⟨gt, 0, none⟩)), CkT gc 6 0, TalC gt b (n : Int), BalM b [], PrxC k kc 2 (n : Int) 1 0 true false 6 1 (.slice ka 0 kl) (.pointer (some ⟨kt, 0, none⟩)), CkT kc 6 0, TalC kt kb (n : Int), BalM kb []] w2 := hmd.pick [4, 5, 6, 7, 0, 1, 2, 3] rfl
  have H2 := Lib.hid h2
  clear HM hmd h2
  (try dsimp only); repeat' (first | go_values | go_skip | go_guarded | go_step | go_upon | go_back)
  go_loopw [11] (fun z wr => ∃ (i : Nat) (vw : Int) (S1 S2 : List (Bal × Nat)), i ≤ A ∧ z = .int .i64 i ∧ 0 ≤ vw ∧ vw ≤ 1 ∧ Fs S1 i ∧ Fs S2 i ∧ Sep w [PrxC g gc 2 (n : Int) 1 vw true false 6 1 (.slice la 0 lc) (.pointer (some ⟨gt, 0, none⟩)), CkT gc 6 0, TalC gt b (n : Int), BalM b S1, PrxC k kc 2 (n : Int) 1 vw true false 6 1 (.slice ka 0 kl) (.pointer (some ⟨kt, 0, none⟩)), CkT kc 6 0, TalC kt kb (n : Int), BalM kb S2] wr) (fun z _ => 8 - (intOf z).toNat)
  case atStart => exact ⟨0, 0, [], [], Nat.zero_le _, rfl, by decide, by decide, Fs.zero, Fs.zero, H2.out⟩
  case round =>
    obtain ⟨i, vw, S1, S2, hiA, rfl, v0, v1, hF1, hF2, hs⟩ := hrel
    clear H2
    have i0 : (0 : Int) ≤ (i : Int) := by omega
    have HS := Lib.hid hs
    (try dsimp only); repeat' (first | go_values | go_skip | go_guarded | go_step | go_upon | go_back)
    refine (HBA.out _).mono ?_
    rintro r0 w3 ⟨rfl, rfl⟩
    by_cases hi : i < A
    · have di : decide (i < A) = true := decide_eq_true hi
      have dii : decide ((i : Int) < (A : Int)) = true := decide_eq_true (by omega)
      have i7 : (i : Int) < 7 := by have := HN.out; omega
      have HF := Lib.hid (And.intro hF1 (And.intro hF2 (And.intro hi hiA)))
      clear hs hi hiA hF1 hF2
      as_aux_lemma =>
      (try dsimp only); repeat' (first | go_values | go_skip | go_guarded | go_step | go_upon | go_back)
      refine (reply_any (i : Int) 1 7 2 HS.out).mono ?_
      rintro r0 w4 ⟨rfl, h4⟩
      have h4q : Sep w (PrxC g gc 2 (n : Int) 1 vw true false 6 1 (.slice la 0 lc) (.pointer (some ⟨gt, 0, none⟩)) :: TalC gt b (n : Int) :: BalM b S1 :: [CkT gc 6 0, PrxC k kc 2 (n : Int) 1 vw true false 6 1 (.slice ka 0 kl) (.pointer (some ⟨kt, 0, none⟩)), CkT kc 6 0, TalC kt kb (n : Int), BalM kb S2]) w4 := h4.pick [0, 2, 3, 1, 4, 5, 6, 7] rfl
      have hT := tk_few (who := i) HK.out.2 h4q (rok7 (by have := HN.out; have := HF.out; omega) (by omega)) HF.out.1.small iq1 iq7 iq2 (few7 HF.out.1 (by omega) (Nat.le_refl _) HN.out.2.2.2.1 (by have := HN.out; have := HF.out; omega))
      rw [maxI_01 v0 v1] at hT
      have HT := Lib.hid hT
      unfold zTup at HT
      clear HS h4 h4q hT
      (try dsimp only); repeat' (first | go_values | go_skip | go_guarded | go_step | go_upon | go_back)
      refine HT.out.mono ?_
      rintro r0 w5 ⟨rfl, h5⟩
      have H5 := Lib.hid h5
      clear HT h5
      (try dsimp only); repeat' (first | go_values | go_skip | go_guarded | go_step | go_upon | go_back)
      refine (reply_any (i : Int) 1 7 2 H5.out).mono ?_
      rintro r0 w6 ⟨rfl, h6⟩
      have h6q : Sep w (PrxC k kc 2 (n : Int) 1 vw true false 6 1 (.slice ka 0 kl) (.pointer (some ⟨kt, 0, none⟩)) :: TalC kt kb (n : Int) :: BalM kb S2 :: [CkT kc 6 0, PrxC g gc 2 (n : Int) 1 1 true false 6 1 (.slice la 0 lc) (.pointer (some ⟨gt, 0, none⟩)), TalC gt b (n : Int), BalM b (addS S1 x2B i), CkT gc 6 0]) w6 := h6.pick [4, 6, 7, 5, 0, 1, 2, 3] rfl
      have hT := tk_few (who := i) HK.out.2 h6q (rok7 (by have := HN.out; have := HF.out; omega) (by omega)) HF.out.2.1.small iq1 iq7 iq2 (few7 HF.out.2.1 (by omega) (Nat.le_refl _) HN.out.2.2.2.1 (by have := HN.out; have := HF.out; omega))
      rw [maxI_01 v0 v1] at hT
      have HT := Lib.hid hT
      unfold zTup at HT
      clear H5 h6 h6q hT
      (try dsimp only); repeat' (first | go_values | go_skip | go_guarded | go_step | go_upon | go_back)
      refine HT.out.mono ?_
      rintro r0 w7 ⟨rfl, h7⟩
      have h7 : Sep w [PrxC g gc 2 (n : Int) 1 1 true false 6 1 (.slice la 0 lc) (.pointer (some ⟨gt, 0, none⟩)), CkT gc 6 0, TalC gt b (n : Int), BalM b (addS S1 x2B i), PrxC k kc 2 (n : Int) 1 1 true false 6 1 (.slice ka 0 kl) (.pointer (some ⟨kt, 0, none⟩)), CkT kc 6 0, TalC kt kb (n : Int), BalM kb (addS S2 x2B i)] w7 := h7.pick [4, 7, 5, 6, 0, 3, 1, 2] rfl
      have H7 := Lib.hid h7
      clear HT h7
      (try dsimp only); repeat' (first | go_values | go_skip | go_guarded | go_step | go_upon | go_back)
      go_roundw
      case rel => exact ⟨i + 1, 1, addS S1 x2B i, addS S2 x2B i, by have := HF.out; omega, by go_num, by decide, by decide, by have h9 := HF.out.1.add i (by omega) (Nat.le_refl _); rw [show max i (i + 1) = i + 1 by omega] at h9; exact h9, by have h9 := HF.out.2.1.add i (by omega) (Nat.le_refl _); rw [show max i (i + 1) = i + 1 by omega] at h9; exact h9, H7.out⟩
      case measure => have := HF.out; simp [intOf]; omega
    · have di : decide (i < A) = false := decide_eq_false hi
      have dii : decide ((i : Int) < (A : Int)) = false := decide_eq_false (by omega)
      have hAi : A = i := by omega
      subst hAi
      have HF := Lib.hid (And.intro hF1 hF2)
      clear hs hi hiA hF1 hF2
      (try dsimp only); repeat' (first | go_values | go_skip | go_guarded | go_step | go_upon | go_back)
      go_loopw [12] (fun z wr => ∃ j : Nat, j ≤ len ∧ j ≤ 60 ∧ z = .int .i64 j ∧ Sep w [PrxC g gc 2 (n : Int) 1 vw true false 6 1 (.slice la 0 lc) (.pointer (some ⟨gt, 0, none⟩)), CkT gc 6 0, TalC gt b (n : Int), BalM b S1, PrxC k kc 2 (n : Int) 1 vw true false 6 1 (.slice ka 0 kl) (.pointer (some ⟨kt, 0, none⟩)), CkT kc 6 0, TalC kt kb (n : Int), BalM kb S2] wr) (fun z _ => 61 - (intOf z).toNat)
      case atStart => exact ⟨0, Nat.zero_le _, by omega, rfl, HS.out⟩
      case round =>
        obtain ⟨j, hjl, hj60, rfl, hs⟩ := hrel
        clear HS
        have j0 : (0 : Int) ≤ (j : Int) := by omega
        by_cases hgo : j < len ∧ j < 60
        · have d0 : decide (j < len) = true := decide_eq_true hgo.1
          have d0i : decide ((j : Int) < (len : Int)) = true := decide_eq_true (by omega)
          have d1 : decide ((j : Int) < 60) = true := decide_eq_true (by omega)
          have d1n : decide (j < 60) = true := decide_eq_true hgo.2
          have j1 : (j : Int) < (len : Int) := by omega
          have j59 : (j : Int) < 60 := by omega
          obtain ⟨b0, off, rfl, hbl, x0, x1, hat⟩ := HD.out j hgo.1
          have q : ∀ u z, [.int .i64 x0, .int .i64 x1][u]? = some z → ∀ wx, Below w.heap.size w wx → wx.cell? ⟨b0, off + j * 2 + u, none⟩ = some z := fun u z hu wx hb => (hb.cell (p := ⟨b0, off + j * 2 + u, none⟩) hbl).trans (hat u z hu)
          have HQ0 : Hid (∀ wx, Below w.heap.size w wx → wx.cell? ⟨b0, off + j * 2, none⟩ = some (.int .i64 x0)) := Lib.hid fun wx hb => q 0 _ rfl wx hb
          have HQ1 : Hid (∀ wx, Below w.heap.size w wx → wx.cell? ⟨b0, off + j * 2 + 1, none⟩ = some (.int .i64 x1)) := Lib.hid fun wx hb => q 1 _ rfl wx hb
          obtain ⟨wh, hwh, hwh2⟩ : ∃ z : Nat, x1 % (n : Int) = (z : Int) ∧ z < n := ⟨(x1 % (n : Int)).toNat, by have := Int.emod_nonneg x1 (show (n : Int) ≠ 0 by omega); omega, by have := Int.emod_lt_of_pos x1 (show 0 < (n : Int) by omega); have := Int.emod_nonneg x1 (show (n : Int) ≠ 0 by omega); omega⟩
          obtain ⟨r8, hr8⟩ : ∃ z, z = x0 % 8 := ⟨_, rfl⟩
          obtain ⟨y8, hy8⟩ : ∃ z, z = x1 % 8 := ⟨_, rfl⟩
          have B1 := Lib.hid (fun wx => bring_any x1 n wx (by unfold Sm; omega))
          have B8 := Lib.hid (fun wx => bring_any x0 8 wx (by unfold Sm; omega))
          have B8y := Lib.hid (fun wx => bring_any x1 8 wx (by unfold Sm; omega))
          rw [hwh] at B1
          rw [← hr8] at B8
          rw [← hy8] at B8y
          have r80 : 0 ≤ r8 := by omega
          have r88 : r8 < 8 := by omega
          have y80 : 0 ≤ y8 := by omega
          have y88 : y8 < 8 := by omega
          have wh0 : (0 : Int) ≤ (wh : Int) := by omega
          have whn : (wh : Int) < (n : Int) := by omega
          have HJ := Lib.hid hgo
          have e1 := HQ1.out _ hs.low
          have HS := Lib.hid hs
          clear hs hwh hwh2 hat q hbl hgo hjl hj60 hr8 hy8
          (try dsimp only); repeat' (first | go_values | go_skip | go_guarded | go_step | go_upon | go_back)
          refine (B1.out _).mono ?_
          rintro r0 w3 ⟨rfl, rfl⟩
          clear e1 B1
          (try dsimp only); repeat' (first | go_values | go_skip | go_guarded | go_step | go_upon | go_back)
          have HRP := Lib.hid (reply_any (wh : Int) 9 7 2 HS.out)
          refine HRP.out.mono ?_
          rintro r0 w3 ⟨rfl, h3⟩
          have h4 : Sep w (Cl w3.heap.size #[.int .i64 0, .int .i64 0, .int .i64 0, .int .i64 0, .int .i64 0, .int .i64 0, .int .i64 0, .int .i64 0, .int .i64 0, .int .i64 0, .string ⟨#[]⟩, .int .i64 0, .int .i64 0, .slice none 0 0, .int .i64 0, .int .i64 0, .int .i64 0, .bool false, .int .i64 0, .slice none 0 0, .slice none 0 0, .int .i64 0] 44 :: [PrxC g gc 2 (n : Int) 1 vw true false 6 1 (.slice la 0 lc) (.pointer (some ⟨gt, 0, none⟩)), CkT gc 6 0, TalC gt b (n : Int), BalM b S1, PrxC k kc 2 (n : Int) 1 vw true false 6 1 (.slice ka 0 kl) (.pointer (some ⟨kt, 0, none⟩)), CkT kc 6 0, TalC kt kb (n : Int), BalM kb S2]) (w3.alloc (.cells #[.int .i64 0, .int .i64 0, .int .i64 0, .int .i64 0, .int .i64 0, .int .i64 0, .int .i64 0, .int .i64 0, .int .i64 0, .int .i64 0, .string ⟨#[]⟩, .int .i64 0, .int .i64 0, .slice none 0 0, .int .i64 0, .int .i64 0, .int .i64 0, .bool false, .int .i64 0, .slice none 0 0, .slice none 0 0, .int .i64 0] 44)) := h3.alloc _
          have HTH := Lib.hid (h4.thereW 22 rfl)
          have h5 := h4.storeW (msC (rpM (wh : Int) 9 7 2) (.slice none 0 0) (.slice none 0 0) (.slice none 0 0)) rfl
          have c17 := h5.cell (o := 17) (x := .bool false) rfl
          have f17 := h5.frozen 17
          have h6 := h5.setCell 17 (.bool true)
          have e0 := HQ0.out _ h6.low
          obtain ⟨bm, hbm⟩ : ∃ z, z = w3.heap.size := ⟨_, rfl⟩
          obtain ⟨w6, hw6⟩ : ∃ z, z = ((w3.alloc (.cells #[.int .i64 0, .int .i64 0, .int .i64 0, .int .i64 0, .int .i64 0, .int .i64 0, .int .i64 0, .int .i64 0, .int .i64 0, .int .i64 0, .string ⟨#[]⟩, .int .i64 0, .int .i64 0, .slice none 0 0, .int .i64 0, .int .i64 0, .int .i64 0, .bool false, .int .i64 0, .slice none 0 0, .slice none 0 0, .int .i64 0] 44)).setCells w3.heap.size 0 (msC (rpM (wh : Int) 9 7 2) (.slice none 0 0) (.slice none 0 0) (.slice none 0 0)).toList).setCell ⟨w3.heap.size, 17, none⟩ (.bool true) := ⟨_, rfl⟩
          rw [← hw6, ← hbm] at h6
          have h6 : Sep w (Cl bm (msC (rM (wh : Int) 9 7 2 1 true) (.slice none 0 0) (.slice none 0 0) (.slice none 0 0)) 44 :: [PrxC g gc 2 (n : Int) 1 vw true false 6 1 (.slice la 0 lc) (.pointer (some ⟨gt, 0, none⟩)), CkT gc 6 0, TalC gt b (n : Int), BalM b S1, PrxC k kc 2 (n : Int) 1 vw true false 6 1 (.slice ka 0 kl) (.pointer (some ⟨kt, 0, none⟩)), CkT kc 6 0, TalC kt kb (n : Int), BalM kb S2]) w6 := h6
          have H6 := Lib.hid h6
          clear HRP HS h3 h4 h5 h6
          (try dsimp only); repeat' (first | (with_reducible show wpList _ _ _ (Oper.mk _ (Op.store 44 _ _) _ _ _ _ :: _) _ _; refine stopP ?_) | go_values | go_skip | go_guarded | go_step | go_upon | go_back)
          unfold StopP
          refine wpList_store_mid rfl 44 (.tmp 13) (.tmp 77) rfl _ 0 (msC (rpM (wh : Int) 9 7 2) (.slice none 0 0) (.slice none 0 0) (.slice none 0 0)) rfl rfl HTH.out (by kernel_rfl) (by kernel_rfl) ?_
          clear HTH
          (try dsimp only); repeat' (first | go_values | go_skip | go_guarded | go_step | go_upon | go_back)
          rw [← hw6, ← hbm]
          clear hw6 hbm e0 c17 f17
          refine (B8.out _).mono ?_
          rintro r0 w7 ⟨rfl, rfl⟩
          clear B8
          obtain rfl | rfl | rfl | rfl | rfl | rfl | rfl | rfl : r8 = 0 ∨ r8 = 1 ∨ r8 = 2 ∨ r8 = 3 ∨ r8 = 4 ∨ r8 = 5 ∨ r8 = 6 ∨ r8 = 7 := by omega
          · skip
            have c := H6.out.cell (o := 2) (x := .int .i64 17) rfl
            have f := H6.out.frozen 2
            have h7 : Sep w (Cl bm (msC ⟨2, (wh : Int), 16, 9, 7, 0, 0, 2, 1, 0, 2, 0, true⟩ (.slice none 0 0) (.slice none 0 0) (.slice none 0 0)) 44 :: [PrxC g gc 2 (n : Int) 1 vw true false 6 1 (.slice la 0 lc) (.pointer (some ⟨gt, 0, none⟩)), CkT gc 6 0, TalC gt b (n : Int), BalM b S1, PrxC k kc 2 (n : Int) 1 vw true false 6 1 (.slice ka 0 kl) (.pointer (some ⟨kt, 0, none⟩)), CkT kc 6 0, TalC kt kb (n : Int), BalM kb S2]) (w6.setCell ⟨bm, 2, none⟩ (.int .i64 16)) := H6.out.setCell 2 (.int .i64 16)
            have HL := Lib.hid h7.loadMs
            have hcf : cntM true (n : Int) 1 ⟨2, (wh : Int), 16, 9, 7, 0, 0, 2, 1, 0, 2, 0, true⟩ = false := by
              unfold cntM
              unfold cntsB
              simp
            have hc := cnt_2 (g := g) (gc := gc) (n := (n : Int)) (num := 1) (view := vw) (wt := true) (st := false) (k := 6) (o := 1) (lv := .slice la 0 lc) (tp := .pointer (some ⟨gt, 0, none⟩)) HK.out.2 ⟨2, (wh : Int), 16, 9, 7, 0, 0, 2, 1, 0, 2, 0, true⟩ rfl
            rw [hcf] at hc
            have h7q : Sep w (PrxC g gc 2 (n : Int) 1 vw true false 6 1 (.slice la 0 lc) (.pointer (some ⟨gt, 0, none⟩)) :: [Cl bm (msC ⟨2, (wh : Int), 16, 9, 7, 0, 0, 2, 1, 0, 2, 0, true⟩ (.slice none 0 0) (.slice none 0 0) (.slice none 0 0)) 44, CkT gc 6 0, TalC gt b (n : Int), BalM b S1, PrxC k kc 2 (n : Int) 1 vw true false 6 1 (.slice ka 0 kl) (.pointer (some ⟨kt, 0, none⟩)), CkT kc 6 0, TalC kt kb (n : Int), BalM kb S2]) _ := h7.pick [1, 0, 2, 3, 4, 5, 6, 7, 8] rfl
            have HT := Lib.hid (tk_no _ h7q hc)
            unfold zTup at HT
            clear h7 h7q hcf hc H6
            (try dsimp only); repeat' (first | (with_reducible show wpList _ _ _ (Oper.mk _ (Op.load 44 _) _ _ _ _ :: _) _ _; refine stopP ?_) | go_values | go_skip | go_guarded | go_step | go_upon | go_back)
            unfold StopP
            have hq_ := HL.out
            refine wpList_load_run rfl 44 _ rfl _ _ rfl hq_ ?_
            clear HL hq_
            (try dsimp only); repeat' (first | go_values | go_skip | go_guarded | go_step | go_upon | go_back)
            refine HT.out.mono ?_
            rintro r0 w8 ⟨rfl, h8⟩
            have h9 := h8.alloc0 (.cells #[.int .i64 0, .int .i64 0, .int .i64 0] 38)
            have h9 : Sep w [PrxC g gc 2 (n : Int) 1 vw true false 6 1 (.slice la 0 lc) (.pointer (some ⟨gt, 0, none⟩)), CkT gc 6 0, TalC gt b (n : Int), BalM b S1, PrxC k kc 2 (n : Int) 1 vw true false 6 1 (.slice ka 0 kl) (.pointer (some ⟨kt, 0, none⟩)), CkT kc 6 0, TalC kt kb (n : Int), BalM kb S2] _ := h9.pick [0, 2, 3, 4, 5, 6, 7, 8] rfl
            have H9 := Lib.hid h9
            clear HT h8 h9
            (try dsimp only); repeat' (first | go_values | go_skip | go_guarded | go_step | go_upon | go_back)
            refine (pxwaits_any H9.out).mono ?_
            rintro r0 w9 ⟨rfl, rfl⟩
            (try dsimp only); repeat' (first | go_values | go_skip | go_guarded | go_step | go_upon | go_back)
            refine (pxview_any H9.out).mono ?_
            rintro r0 w9 ⟨rfl, rfl⟩
            (try dsimp only); repeat' (first | go_values | go_skip | go_guarded | go_step | go_upon | go_back)
            refine (pxview_any (H9.out.pick [4, 0, 1, 2, 3, 5, 6, 7] rfl)).mono ?_
            rintro r0 w9 ⟨rfl, rfl⟩
            (try dsimp only); repeat' (first | go_values | go_skip | go_guarded | go_step | go_upon | go_back)
            refine (pxnum_any H9.out).mono ?_
            rintro r0 w9 ⟨rfl, rfl⟩
            (try dsimp only); repeat' (first | go_values | go_skip | go_guarded | go_step | go_upon | go_back)
            go_roundw
            case rel => exact ⟨j + 1, by have := HJ.out; omega, by have := HJ.out; omega, by go_num, H9.out⟩
            case measure => have := HJ.out; simp [intOf]; omega
          · skip
            have c := H6.out.cell (o := 7) (x := .int .i64 2) rfl
            have f := H6.out.frozen 7
            have h7 : Sep w (Cl bm (msC ⟨2, (wh : Int), 17, 9, 7, 0, 0, 3, 1, 0, 2, 0, true⟩ (.slice none 0 0) (.slice none 0 0) (.slice none 0 0)) 44 :: [PrxC g gc 2 (n : Int) 1 vw true false 6 1 (.slice la 0 lc) (.pointer (some ⟨gt, 0, none⟩)), CkT gc 6 0, TalC gt b (n : Int), BalM b S1, PrxC k kc 2 (n : Int) 1 vw true false 6 1 (.slice ka 0 kl) (.pointer (some ⟨kt, 0, none⟩)), CkT kc 6 0, TalC kt kb (n : Int), BalM kb S2]) (w6.setCell ⟨bm, 7, none⟩ (.int .i64 3)) := H6.out.setCell 7 (.int .i64 3)
            have HL := Lib.hid h7.loadMs
            have hcf : cntM true (n : Int) 1 ⟨2, (wh : Int), 17, 9, 7, 0, 0, 3, 1, 0, 2, 0, true⟩ = false := by
              unfold cntM
              unfold cntsB
              simp
            have hc := cnt_2 (g := g) (gc := gc) (n := (n : Int)) (num := 1) (view := vw) (wt := true) (st := false) (k := 6) (o := 1) (lv := .slice la 0 lc) (tp := .pointer (some ⟨gt, 0, none⟩)) HK.out.2 ⟨2, (wh : Int), 17, 9, 7, 0, 0, 3, 1, 0, 2, 0, true⟩ rfl
            rw [hcf] at hc
            have h7q : Sep w (PrxC g gc 2 (n : Int) 1 vw true false 6 1 (.slice la 0 lc) (.pointer (some ⟨gt, 0, none⟩)) :: [Cl bm (msC ⟨2, (wh : Int), 17, 9, 7, 0, 0, 3, 1, 0, 2, 0, true⟩ (.slice none 0 0) (.slice none 0 0) (.slice none 0 0)) 44, CkT gc 6 0, TalC gt b (n : Int), BalM b S1, PrxC k kc 2 (n : Int) 1 vw true false 6 1 (.slice ka 0 kl) (.pointer (some ⟨kt, 0, none⟩)), CkT kc 6 0, TalC kt kb (n : Int), BalM kb S2]) _ := h7.pick [1, 0, 2, 3, 4, 5, 6, 7, 8] rfl
            have HT := Lib.hid (tk_no _ h7q hc)
            unfold zTup at HT
            clear h7 h7q hcf hc H6
            (try dsimp only); repeat' (first | (with_reducible show wpList _ _ _ (Oper.mk _ (Op.load 44 _) _ _ _ _ :: _) _ _; refine stopP ?_) | go_values | go_skip | go_guarded | go_step | go_upon | go_back)
            unfold StopP
            have hq_ := HL.out
            refine wpList_load_run rfl 44 _ rfl _ _ rfl hq_ ?_
            clear HL hq_
            (try dsimp only); repeat' (first | go_values | go_skip | go_guarded | go_step | go_upon | go_back)
            refine HT.out.mono ?_
            rintro r0 w8 ⟨rfl, h8⟩
            have h9 := h8.alloc0 (.cells #[.int .i64 0, .int .i64 0, .int .i64 0] 38)
            have h9 : Sep w [PrxC g gc 2 (n : Int) 1 vw true false 6 1 (.slice la 0 lc) (.pointer (some ⟨gt, 0, none⟩)), CkT gc 6 0, TalC gt b (n : Int), BalM b S1, PrxC k kc 2 (n : Int) 1 vw true false 6 1 (.slice ka 0 kl) (.pointer (some ⟨kt, 0, none⟩)), CkT kc 6 0, TalC kt kb (n : Int), BalM kb S2] _ := h9.pick [0, 2, 3, 4, 5, 6, 7, 8] rfl
            have H9 := Lib.hid h9
            clear HT h8 h9
            (try dsimp only); repeat' (first | go_values | go_skip | go_guarded | go_step | go_upon | go_back)
            refine (pxwaits_any H9.out).mono ?_
            rintro r0 w9 ⟨rfl, rfl⟩
            (try dsimp only); repeat' (first | go_values | go_skip | go_guarded | go_step | go_upon | go_back)
            refine (pxview_any H9.out).mono ?_
            rintro r0 w9 ⟨rfl, rfl⟩
            (try dsimp only); repeat' (first | go_values | go_skip | go_guarded | go_step | go_upon | go_back)
            refine (pxview_any (H9.out.pick [4, 0, 1, 2, 3, 5, 6, 7] rfl)).mono ?_
            rintro r0 w9 ⟨rfl, rfl⟩
            (try dsimp only); repeat' (first | go_values | go_skip | go_guarded | go_step | go_upon | go_back)
            refine (pxnum_any H9.out).mono ?_
            rintro r0 w9 ⟨rfl, rfl⟩
            (try dsimp only); repeat' (first | go_values | go_skip | go_guarded | go_step | go_upon | go_back)
            go_roundw
            case rel => exact ⟨j + 1, by have := HJ.out; omega, by have := HJ.out; omega, by go_num, H9.out⟩
            case measure => have := HJ.out; simp [intOf]; omega
          · skip
            have c := H6.out.cell (o := 8) (x := .int .i64 1) rfl
            have f := H6.out.frozen 8
            have h7 : Sep w (Cl bm (msC ⟨2, (wh : Int), 17, 9, 7, 0, 0, 2, 2, 0, 2, 0, true⟩ (.slice none 0 0) (.slice none 0 0) (.slice none 0 0)) 44 :: [PrxC g gc 2 (n : Int) 1 vw true false 6 1 (.slice la 0 lc) (.pointer (some ⟨gt, 0, none⟩)), CkT gc 6 0, TalC gt b (n : Int), BalM b S1, PrxC k kc 2 (n : Int) 1 vw true false 6 1 (.slice ka 0 kl) (.pointer (some ⟨kt, 0, none⟩)), CkT kc 6 0, TalC kt kb (n : Int), BalM kb S2]) (w6.setCell ⟨bm, 8, none⟩ (.int .i64 2)) := H6.out.setCell 8 (.int .i64 2)
            have HL := Lib.hid h7.loadMs
            have hcf : cntM true (n : Int) 1 ⟨2, (wh : Int), 17, 9, 7, 0, 0, 2, 2, 0, 2, 0, true⟩ = false := by
              unfold cntM
              unfold cntsB
              simp
            have hc := cnt_2 (g := g) (gc := gc) (n := (n : Int)) (num := 1) (view := vw) (wt := true) (st := false) (k := 6) (o := 1) (lv := .slice la 0 lc) (tp := .pointer (some ⟨gt, 0, none⟩)) HK.out.2 ⟨2, (wh : Int), 17, 9, 7, 0, 0, 2, 2, 0, 2, 0, true⟩ rfl
            rw [hcf] at hc
            have h7q : Sep w (PrxC g gc 2 (n : Int) 1 vw true false 6 1 (.slice la 0 lc) (.pointer (some ⟨gt, 0, none⟩)) :: [Cl bm (msC ⟨2, (wh : Int), 17, 9, 7, 0, 0, 2, 2, 0, 2, 0, true⟩ (.slice none 0 0) (.slice none 0 0) (.slice none 0 0)) 44, CkT gc 6 0, TalC gt b (n : Int), BalM b S1, PrxC k kc 2 (n : Int) 1 vw true false 6 1 (.slice ka 0 kl) (.pointer (some ⟨kt, 0, none⟩)), CkT kc 6 0, TalC kt kb (n : Int), BalM kb S2]) _ := h7.pick [1, 0, 2, 3, 4, 5, 6, 7, 8] rfl
            have HT := Lib.hid (tk_no _ h7q hc)
            unfold zTup at HT
            clear h7 h7q hcf hc H6
            (try dsimp only); repeat' (first | (with_reducible show wpList _ _ _ (Oper.mk _ (Op.load 44 _) _ _ _ _ :: _) _ _; refine stopP ?_) | go_values | go_skip | go_guarded | go_step | go_upon | go_back)
            unfold StopP
            have hq_ := HL.out
            refine wpList_load_run rfl 44 _ rfl _ _ rfl hq_ ?_
            clear HL hq_
            (try dsimp only); repeat' (first | go_values | go_skip | go_guarded | go_step | go_upon | go_back)
            refine HT.out.mono ?_
            rintro r0 w8 ⟨rfl, h8⟩
            have h9 := h8.alloc0 (.cells #[.int .i64 0, .int .i64 0, .int .i64 0] 38)
            have h9 : Sep w [PrxC g gc 2 (n : Int) 1 vw true false 6 1 (.slice la 0 lc) (.pointer (some ⟨gt, 0, none⟩)), CkT gc 6 0, TalC gt b (n : Int), BalM b S1, PrxC k kc 2 (n : Int) 1 vw true false 6 1 (.slice ka 0 kl) (.pointer (some ⟨kt, 0, none⟩)), CkT kc 6 0, TalC kt kb (n : Int), BalM kb S2] _ := h9.pick [0, 2, 3, 4, 5, 6, 7, 8] rfl
            have H9 := Lib.hid h9
            clear HT h8 h9
            (try dsimp only); repeat' (first | go_values | go_skip | go_guarded | go_step | go_upon | go_back)
            refine (pxwaits_any H9.out).mono ?_
            rintro r0 w9 ⟨rfl, rfl⟩
            (try dsimp only); repeat' (first | go_values | go_skip | go_guarded | go_step | go_upon | go_back)
            refine (pxview_any H9.out).mono ?_
            rintro r0 w9 ⟨rfl, rfl⟩
            (try dsimp only); repeat' (first | go_values | go_skip | go_guarded | go_step | go_upon | go_back)
            refine (pxview_any (H9.out.pick [4, 0, 1, 2, 3, 5, 6, 7] rfl)).mono ?_
            rintro r0 w9 ⟨rfl, rfl⟩
            (try dsimp only); repeat' (first | go_values | go_skip | go_guarded | go_step | go_upon | go_back)
            refine (pxnum_any H9.out).mono ?_
            rintro r0 w9 ⟨rfl, rfl⟩
            (try dsimp only); repeat' (first | go_values | go_skip | go_guarded | go_step | go_upon | go_back)
            go_roundw
            case rel => exact ⟨j + 1, by have := HJ.out; omega, by have := HJ.out; omega, by go_num, H9.out⟩
            case measure => have := HJ.out; simp [intOf]; omega
          · skip
            have c := H6.out.cell (o := 1) (x := .int .i64 (wh : Int)) rfl
            have f := H6.out.frozen 1
            have h7 : Sep w (Cl bm (msC ⟨2, (15 + y8), 17, 9, 7, 0, 0, 2, 1, 0, 2, 0, true⟩ (.slice none 0 0) (.slice none 0 0) (.slice none 0 0)) 44 :: [PrxC g gc 2 (n : Int) 1 vw true false 6 1 (.slice la 0 lc) (.pointer (some ⟨gt, 0, none⟩)), CkT gc 6 0, TalC gt b (n : Int), BalM b S1, PrxC k kc 2 (n : Int) 1 vw true false 6 1 (.slice ka 0 kl) (.pointer (some ⟨kt, 0, none⟩)), CkT kc 6 0, TalC kt kb (n : Int), BalM kb S2]) (w6.setCell ⟨bm, 1, none⟩ (.int .i64 (15 + y8))) := H6.out.setCell 1 (.int .i64 (15 + y8))
            have e1 := HQ1.out _ H6.out.low
            have e15 : IntKind.i64.wrap (15 + y8) = 15 + y8 := IntWalk.i64_in _ (by omega)
            have HL := Lib.hid h7.loadMs
            have hcf : cntM true (n : Int) 1 ⟨2, (15 + y8), 17, 9, 7, 0, 0, 2, 1, 0, 2, 0, true⟩ = false := by
              unfold cntM
              unfold cntsB
              have : decide (15 + y8 < (n : Int)) = false := decide_eq_false (by omega)
              simp [this]
            have hc := cnt_2 (g := g) (gc := gc) (n := (n : Int)) (num := 1) (view := vw) (wt := true) (st := false) (k := 6) (o := 1) (lv := .slice la 0 lc) (tp := .pointer (some ⟨gt, 0, none⟩)) HK.out.2 ⟨2, (15 + y8), 17, 9, 7, 0, 0, 2, 1, 0, 2, 0, true⟩ rfl
            rw [hcf] at hc
            have h7q : Sep w (PrxC g gc 2 (n : Int) 1 vw true false 6 1 (.slice la 0 lc) (.pointer (some ⟨gt, 0, none⟩)) :: [Cl bm (msC ⟨2, (15 + y8), 17, 9, 7, 0, 0, 2, 1, 0, 2, 0, true⟩ (.slice none 0 0) (.slice none 0 0) (.slice none 0 0)) 44, CkT gc 6 0, TalC gt b (n : Int), BalM b S1, PrxC k kc 2 (n : Int) 1 vw true false 6 1 (.slice ka 0 kl) (.pointer (some ⟨kt, 0, none⟩)), CkT kc 6 0, TalC kt kb (n : Int), BalM kb S2]) _ := h7.pick [1, 0, 2, 3, 4, 5, 6, 7, 8] rfl
            have HT := Lib.hid (tk_no _ h7q hc)
            unfold zTup at HT
            clear h7 h7q hcf hc H6
            (try dsimp only); repeat' (first | go_values | go_skip | go_guarded | go_step | go_upon | go_back)
            refine (B8y.out _).mono ?_
            rintro r0 w7 ⟨rfl, rfl⟩
            (try dsimp only); repeat' (first | (with_reducible show wpList _ _ _ (Oper.mk _ (Op.load 44 _) _ _ _ _ :: _) _ _; refine stopP ?_) | go_values | go_skip | go_guarded | go_step | go_upon | go_back)
            unfold StopP
            have hq_ := HL.out
            refine wpList_load_run rfl 44 _ rfl _ _ rfl hq_ ?_
            clear HL hq_
            (try dsimp only); repeat' (first | go_values | go_skip | go_guarded | go_step | go_upon | go_back)
            refine HT.out.mono ?_
            rintro r0 w8 ⟨rfl, h8⟩
            have h9 := h8.alloc0 (.cells #[.int .i64 0, .int .i64 0, .int .i64 0] 38)
            have h9 : Sep w [PrxC g gc 2 (n : Int) 1 vw true false 6 1 (.slice la 0 lc) (.pointer (some ⟨gt, 0, none⟩)), CkT gc 6 0, TalC gt b (n : Int), BalM b S1, PrxC k kc 2 (n : Int) 1 vw true false 6 1 (.slice ka 0 kl) (.pointer (some ⟨kt, 0, none⟩)), CkT kc 6 0, TalC kt kb (n : Int), BalM kb S2] _ := h9.pick [0, 2, 3, 4, 5, 6, 7, 8] rfl
            have H9 := Lib.hid h9
            clear HT h8 h9
            (try dsimp only); repeat' (first | go_values | go_skip | go_guarded | go_step | go_upon | go_back)
            refine (pxwaits_any H9.out).mono ?_
            rintro r0 w9 ⟨rfl, rfl⟩
            (try dsimp only); repeat' (first | go_values | go_skip | go_guarded | go_step | go_upon | go_back)
            refine (pxview_any H9.out).mono ?_
            rintro r0 w9 ⟨rfl, rfl⟩
            (try dsimp only); repeat' (first | go_values | go_skip | go_guarded | go_step | go_upon | go_back)
            refine (pxview_any (H9.out.pick [4, 0, 1, 2, 3, 5, 6, 7] rfl)).mono ?_
            rintro r0 w9 ⟨rfl, rfl⟩
            (try dsimp only); repeat' (first | go_values | go_skip | go_guarded | go_step | go_upon | go_back)
            refine (pxnum_any H9.out).mono ?_
            rintro r0 w9 ⟨rfl, rfl⟩
            (try dsimp only); repeat' (first | go_values | go_skip | go_guarded | go_step | go_upon | go_back)
            go_roundw
            case rel => exact ⟨j + 1, by have := HJ.out; omega, by have := HJ.out; omega, by go_num, H9.out⟩
            case measure => have := HJ.out; simp [intOf]; omega
          · skip
            have HTH := Lib.hid (H6.out.thereW 22 rfl)
            have h7 : Sep w (Cl bm (msC ⟨4, 0, 17, 9, 3, 0, 0, 0, 0, 0, 0, 0, false⟩ (.slice none 0 0) (.slice none 0 0) (.slice none 0 0)) 44 :: [PrxC g gc 2 (n : Int) 1 vw true false 6 1 (.slice la 0 lc) (.pointer (some ⟨gt, 0, none⟩)), CkT gc 6 0, TalC gt b (n : Int), BalM b S1, PrxC k kc 2 (n : Int) 1 vw true false 6 1 (.slice ka 0 kl) (.pointer (some ⟨kt, 0, none⟩)), CkT kc 6 0, TalC kt kb (n : Int), BalM kb S2]) (w6.setCells bm 0 (msC ⟨4, 0, 17, 9, 3, 0, 0, 0, 0, 0, 0, 0, false⟩ (.slice none 0 0) (.slice none 0 0) (.slice none 0 0)).toList) := H6.out.storeW (msC ⟨4, 0, 17, 9, 3, 0, 0, 0, 0, 0, 0, 0, false⟩ (.slice none 0 0) (.slice none 0 0) (.slice none 0 0)) rfl
            have HL := Lib.hid h7.loadMs
            have hcf : cntM true (n : Int) 1 ⟨4, 0, 17, 9, 3, 0, 0, 0, 0, 0, 0, 0, false⟩ = false := by
              unfold cntM
              unfold cntsB
              simp
            have hc := cnt_4 (g := g) (gc := gc) (n := (n : Int)) (num := 1) (view := vw) (wt := true) (st := false) (k := 6) (o := 1) (lv := .slice la 0 lc) (tp := .pointer (some ⟨gt, 0, none⟩)) HK.out.2 ⟨4, 0, 17, 9, 3, 0, 0, 0, 0, 0, 0, 0, false⟩ rfl ⟨rfl, rfl⟩ ⟨rfl, rfl, rfl, rfl⟩
            rw [hcf] at hc
            have h7q : Sep w (PrxC g gc 2 (n : Int) 1 vw true false 6 1 (.slice la 0 lc) (.pointer (some ⟨gt, 0, none⟩)) :: [Cl bm (msC ⟨4, 0, 17, 9, 3, 0, 0, 0, 0, 0, 0, 0, false⟩ (.slice none 0 0) (.slice none 0 0) (.slice none 0 0)) 44, CkT gc 6 0, TalC gt b (n : Int), BalM b S1, PrxC k kc 2 (n : Int) 1 vw true false 6 1 (.slice ka 0 kl) (.pointer (some ⟨kt, 0, none⟩)), CkT kc 6 0, TalC kt kb (n : Int), BalM kb S2]) _ := h7.pick [1, 0, 2, 3, 4, 5, 6, 7, 8] rfl
            have HT := Lib.hid (tk_no _ h7q hc)
            unfold zTup at HT
            clear h7 h7q hcf hc H6
            (try dsimp only); repeat' (first | (with_reducible show wpList _ _ _ (Oper.mk _ (Op.store 44 _ _) _ _ _ _ :: _) _ _; refine stopP ?_) | go_values | go_skip | go_guarded | go_step | go_upon | go_back)
            unfold StopP
            refine wpList_store_mid rfl 44 (.tmp 13) (.tmp 109) rfl _ 0 (msC ⟨4, 0, 17, 9, 3, 0, 0, 0, 0, 0, 0, 0, false⟩ (.slice none 0 0) (.slice none 0 0) (.slice none 0 0)) rfl rfl HTH.out (by kernel_rfl) (by kernel_rfl) ?_
            clear HTH
            (try dsimp only); repeat' (first | (with_reducible show wpList _ _ _ (Oper.mk _ (Op.load 44 _) _ _ _ _ :: _) _ _; refine stopP ?_) | go_values | go_skip | go_guarded | go_step | go_upon | go_back)
            unfold StopP
            have hq_ := HL.out
            refine wpList_load_run rfl 44 _ rfl _ _ rfl hq_ ?_
            clear HL hq_
            (try dsimp only); repeat' (first | go_values | go_skip | go_guarded | go_step | go_upon | go_back)
            refine HT.out.mono ?_
            rintro r0 w8 ⟨rfl, h8⟩
            have h9 := h8.alloc0 (.cells #[.int .i64 0, .int .i64 0, .int .i64 0] 38)
            have h9 : Sep w [PrxC g gc 2 (n : Int) 1 vw true false 6 1 (.slice la 0 lc) (.pointer (some ⟨gt, 0, none⟩)), CkT gc 6 0, TalC gt b (n : Int), BalM b S1, PrxC k kc 2 (n : Int) 1 vw true false 6 1 (.slice ka 0 kl) (.pointer (some ⟨kt, 0, none⟩)), CkT kc 6 0, TalC kt kb (n : Int), BalM kb S2] _ := h9.pick [0, 2, 3, 4, 5, 6, 7, 8] rfl
            have H9 := Lib.hid h9
            clear HT h8 h9
            (try dsimp only); repeat' (first | go_values | go_skip | go_guarded | go_step | go_upon | go_back)
            refine (pxwaits_any H9.out).mono ?_
            rintro r0 w9 ⟨rfl, rfl⟩
            (try dsimp only); repeat' (first | go_values | go_skip | go_guarded | go_step | go_upon | go_back)
            refine (pxview_any H9.out).mono ?_
            rintro r0 w9 ⟨rfl, rfl⟩
            (try dsimp only); repeat' (first | go_values | go_skip | go_guarded | go_step | go_upon | go_back)
            refine (pxview_any (H9.out.pick [4, 0, 1, 2, 3, 5, 6, 7] rfl)).mono ?_
            rintro r0 w9 ⟨rfl, rfl⟩
            (try dsimp only); repeat' (first | go_values | go_skip | go_guarded | go_step | go_upon | go_back)
            refine (pxnum_any H9.out).mono ?_
            rintro r0 w9 ⟨rfl, rfl⟩
            (try dsimp only); repeat' (first | go_values | go_skip | go_guarded | go_step | go_upon | go_back)
            go_roundw
            case rel => exact ⟨j + 1, by have := HJ.out; omega, by have := HJ.out; omega, by go_num, H9.out⟩
            case measure => have := HJ.out; simp [intOf]; omega
          · skip
            have c := H6.out.cell (o := 14) (x := .int .i64 0) rfl
            have f := H6.out.frozen 14
            have h7 : Sep w (Cl bm (msC ⟨2, (wh : Int), 17, 9, 7, 0, 0, 2, 1, 7, 2, 0, true⟩ (.slice none 0 0) (.slice none 0 0) (.slice none 0 0)) 44 :: [PrxC g gc 2 (n : Int) 1 vw true false 6 1 (.slice la 0 lc) (.pointer (some ⟨gt, 0, none⟩)), CkT gc 6 0, TalC gt b (n : Int), BalM b S1, PrxC k kc 2 (n : Int) 1 vw true false 6 1 (.slice ka 0 kl) (.pointer (some ⟨kt, 0, none⟩)), CkT kc 6 0, TalC kt kb (n : Int), BalM kb S2]) (w6.setCell ⟨bm, 14, none⟩ (.int .i64 7)) := H6.out.setCell 14 (.int .i64 7)
            have HL := Lib.hid h7.loadMs
            have hcf : cntM true (n : Int) 1 ⟨2, (wh : Int), 17, 9, 7, 0, 0, 2, 1, 7, 2, 0, true⟩ = false := by
              unfold cntM
              unfold cntsB chkM chk2
              simp [resB, holdsB, numB]
            have hc := cnt_2 (g := g) (gc := gc) (n := (n : Int)) (num := 1) (view := vw) (wt := true) (st := false) (k := 6) (o := 1) (lv := .slice la 0 lc) (tp := .pointer (some ⟨gt, 0, none⟩)) HK.out.2 ⟨2, (wh : Int), 17, 9, 7, 0, 0, 2, 1, 7, 2, 0, true⟩ rfl
            rw [hcf] at hc
            have h7q : Sep w (PrxC g gc 2 (n : Int) 1 vw true false 6 1 (.slice la 0 lc) (.pointer (some ⟨gt, 0, none⟩)) :: [Cl bm (msC ⟨2, (wh : Int), 17, 9, 7, 0, 0, 2, 1, 7, 2, 0, true⟩ (.slice none 0 0) (.slice none 0 0) (.slice none 0 0)) 44, CkT gc 6 0, TalC gt b (n : Int), BalM b S1, PrxC k kc 2 (n : Int) 1 vw true false 6 1 (.slice ka 0 kl) (.pointer (some ⟨kt, 0, none⟩)), CkT kc 6 0, TalC kt kb (n : Int), BalM kb S2]) _ := h7.pick [1, 0, 2, 3, 4, 5, 6, 7, 8] rfl
            have HT := Lib.hid (tk_no _ h7q hc)
            unfold zTup at HT
            clear h7 h7q hcf hc H6
            (try dsimp only); repeat' (first | (with_reducible show wpList _ _ _ (Oper.mk _ (Op.load 44 _) _ _ _ _ :: _) _ _; refine stopP ?_) | go_values | go_skip | go_guarded | go_step | go_upon | go_back)
            unfold StopP
            have hq_ := HL.out
            refine wpList_load_run rfl 44 _ rfl _ _ rfl hq_ ?_
            clear HL hq_
            (try dsimp only); repeat' (first | go_values | go_skip | go_guarded | go_step | go_upon | go_back)
            refine HT.out.mono ?_
            rintro r0 w8 ⟨rfl, h8⟩
            have h9 := h8.alloc0 (.cells #[.int .i64 0, .int .i64 0, .int .i64 0] 38)
            have h9 : Sep w [PrxC g gc 2 (n : Int) 1 vw true false 6 1 (.slice la 0 lc) (.pointer (some ⟨gt, 0, none⟩)), CkT gc 6 0, TalC gt b (n : Int), BalM b S1, PrxC k kc 2 (n : Int) 1 vw true false 6 1 (.slice ka 0 kl) (.pointer (some ⟨kt, 0, none⟩)), CkT kc 6 0, TalC kt kb (n : Int), BalM kb S2] _ := h9.pick [0, 2, 3, 4, 5, 6, 7, 8] rfl
            have H9 := Lib.hid h9
            clear HT h8 h9
            (try dsimp only); repeat' (first | go_values | go_skip | go_guarded | go_step | go_upon | go_back)
            refine (pxwaits_any H9.out).mono ?_
            rintro r0 w9 ⟨rfl, rfl⟩
            (try dsimp only); repeat' (first | go_values | go_skip | go_guarded | go_step | go_upon | go_back)
            refine (pxview_any H9.out).mono ?_
            rintro r0 w9 ⟨rfl, rfl⟩
            (try dsimp only); repeat' (first | go_values | go_skip | go_guarded | go_step | go_upon | go_back)
            refine (pxview_any (H9.out.pick [4, 0, 1, 2, 3, 5, 6, 7] rfl)).mono ?_
            rintro r0 w9 ⟨rfl, rfl⟩
            (try dsimp only); repeat' (first | go_values | go_skip | go_guarded | go_step | go_upon | go_back)
            refine (pxnum_any H9.out).mono ?_
            rintro r0 w9 ⟨rfl, rfl⟩
            (try dsimp only); repeat' (first | go_values | go_skip | go_guarded | go_step | go_upon | go_back)
            go_roundw
            case rel => exact ⟨j + 1, by have := HJ.out; omega, by have := HJ.out; omega, by go_num, H9.out⟩
            case measure => have := HJ.out; simp [intOf]; omega
          · skip
            have c := H6.out.cell (o := 5) (x := .int .i64 0) rfl
            have f := H6.out.frozen 5
            have h7 : Sep w (Cl bm (msC ⟨2, (wh : Int), 17, 9, 7, 1, 0, 2, 1, 0, 2, 0, true⟩ (.slice none 0 0) (.slice none 0 0) (.slice none 0 0)) 44 :: [PrxC g gc 2 (n : Int) 1 vw true false 6 1 (.slice la 0 lc) (.pointer (some ⟨gt, 0, none⟩)), CkT gc 6 0, TalC gt b (n : Int), BalM b S1, PrxC k kc 2 (n : Int) 1 vw true false 6 1 (.slice ka 0 kl) (.pointer (some ⟨kt, 0, none⟩)), CkT kc 6 0, TalC kt kb (n : Int), BalM kb S2]) (w6.setCell ⟨bm, 5, none⟩ (.int .i64 1)) := H6.out.setCell 5 (.int .i64 1)
            have HL := Lib.hid h7.loadMs
            have hcf : cntM true (n : Int) 1 ⟨2, (wh : Int), 17, 9, 7, 1, 0, 2, 1, 0, 2, 0, true⟩ = false := by
              unfold cntM
              unfold cntsB chkM chk2
              simp [resB, holdsB, numB]
            have hc := cnt_2 (g := g) (gc := gc) (n := (n : Int)) (num := 1) (view := vw) (wt := true) (st := false) (k := 6) (o := 1) (lv := .slice la 0 lc) (tp := .pointer (some ⟨gt, 0, none⟩)) HK.out.2 ⟨2, (wh : Int), 17, 9, 7, 1, 0, 2, 1, 0, 2, 0, true⟩ rfl
            rw [hcf] at hc
            have h7q : Sep w (PrxC g gc 2 (n : Int) 1 vw true false 6 1 (.slice la 0 lc) (.pointer (some ⟨gt, 0, none⟩)) :: [Cl bm (msC ⟨2, (wh : Int), 17, 9, 7, 1, 0, 2, 1, 0, 2, 0, true⟩ (.slice none 0 0) (.slice none 0 0) (.slice none 0 0)) 44, CkT gc 6 0, TalC gt b (n : Int), BalM b S1, PrxC k kc 2 (n : Int) 1 vw true false 6 1 (.slice ka 0 kl) (.pointer (some ⟨kt, 0, none⟩)), CkT kc 6 0, TalC kt kb (n : Int), BalM kb S2]) _ := h7.pick [1, 0, 2, 3, 4, 5, 6, 7, 8] rfl
            have HT := Lib.hid (tk_no _ h7q hc)
            unfold zTup at HT
            clear h7 h7q hcf hc H6
            (try dsimp only); repeat' (first | (with_reducible show wpList _ _ _ (Oper.mk _ (Op.load 44 _) _ _ _ _ :: _) _ _; refine stopP ?_) | go_values | go_skip | go_guarded | go_step | go_upon | go_back)
            unfold StopP
            have hq_ := HL.out
            refine wpList_load_run rfl 44 _ rfl _ _ rfl hq_ ?_
            clear HL hq_
            (try dsimp only); repeat' (first | go_values | go_skip | go_guarded | go_step | go_upon | go_back)
            refine HT.out.mono ?_
            rintro r0 w8 ⟨rfl, h8⟩
            have h9 := h8.alloc0 (.cells #[.int .i64 0, .int .i64 0, .int .i64 0] 38)
            have h9 : Sep w [PrxC g gc 2 (n : Int) 1 vw true false 6 1 (.slice la 0 lc) (.pointer (some ⟨gt, 0, none⟩)), CkT gc 6 0, TalC gt b (n : Int), BalM b S1, PrxC k kc 2 (n : Int) 1 vw true false 6 1 (.slice ka 0 kl) (.pointer (some ⟨kt, 0, none⟩)), CkT kc 6 0, TalC kt kb (n : Int), BalM kb S2] _ := h9.pick [0, 2, 3, 4, 5, 6, 7, 8] rfl
            have H9 := Lib.hid h9
            clear HT h8 h9
            (try dsimp only); repeat' (first | go_values | go_skip | go_guarded | go_step | go_upon | go_back)
            refine (pxwaits_any H9.out).mono ?_
            rintro r0 w9 ⟨rfl, rfl⟩
            (try dsimp only); repeat' (first | go_values | go_skip | go_guarded | go_step | go_upon | go_back)
            refine (pxview_any H9.out).mono ?_
            rintro r0 w9 ⟨rfl, rfl⟩
            (try dsimp only); repeat' (first | go_values | go_skip | go_guarded | go_step | go_upon | go_back)
            refine (pxview_any (H9.out.pick [4, 0, 1, 2, 3, 5, 6, 7] rfl)).mono ?_
            rintro r0 w9 ⟨rfl, rfl⟩
            (try dsimp only); repeat' (first | go_values | go_skip | go_guarded | go_step | go_upon | go_back)
            refine (pxnum_any H9.out).mono ?_
            rintro r0 w9 ⟨rfl, rfl⟩
            (try dsimp only); repeat' (first | go_values | go_skip | go_guarded | go_step | go_upon | go_back)
            go_roundw
            case rel => exact ⟨j + 1, by have := HJ.out; omega, by have := HJ.out; omega, by go_num, H9.out⟩
            case measure => have := HJ.out; simp [intOf]; omega
          · skip
            have c := H6.out.cell (o := 3) (x := .int .i64 9) rfl
            have f := H6.out.frozen 3
            have h7 : Sep w (Cl bm (msC ⟨2, (wh : Int), 17, (-1), 7, 0, 0, 2, 1, 0, 2, 0, true⟩ (.slice none 0 0) (.slice none 0 0) (.slice none 0 0)) 44 :: [PrxC g gc 2 (n : Int) 1 vw true false 6 1 (.slice la 0 lc) (.pointer (some ⟨gt, 0, none⟩)), CkT gc 6 0, TalC gt b (n : Int), BalM b S1, PrxC k kc 2 (n : Int) 1 vw true false 6 1 (.slice ka 0 kl) (.pointer (some ⟨kt, 0, none⟩)), CkT kc 6 0, TalC kt kb (n : Int), BalM kb S2]) (w6.setCell ⟨bm, 3, none⟩ (.int .i64 (-1))) := H6.out.setCell 3 (.int .i64 (-1))
            have HL := Lib.hid h7.loadMs
            have hcf : cntM true (n : Int) 1 ⟨2, (wh : Int), 17, (-1), 7, 0, 0, 2, 1, 0, 2, 0, true⟩ = false := by
              unfold cntM
              unfold cntsB chkM chk2
              simp [resB, holdsB, numB]
            have hc := cnt_2 (g := g) (gc := gc) (n := (n : Int)) (num := 1) (view := vw) (wt := true) (st := false) (k := 6) (o := 1) (lv := .slice la 0 lc) (tp := .pointer (some ⟨gt, 0, none⟩)) HK.out.2 ⟨2, (wh : Int), 17, (-1), 7, 0, 0, 2, 1, 0, 2, 0, true⟩ rfl
            rw [hcf] at hc
            have h7q : Sep w (PrxC g gc 2 (n : Int) 1 vw true false 6 1 (.slice la 0 lc) (.pointer (some ⟨gt, 0, none⟩)) :: [Cl bm (msC ⟨2, (wh : Int), 17, (-1), 7, 0, 0, 2, 1, 0, 2, 0, true⟩ (.slice none 0 0) (.slice none 0 0) (.slice none 0 0)) 44, CkT gc 6 0, TalC gt b (n : Int), BalM b S1, PrxC k kc 2 (n : Int) 1 vw true false 6 1 (.slice ka 0 kl) (.pointer (some ⟨kt, 0, none⟩)), CkT kc 6 0, TalC kt kb (n : Int), BalM kb S2]) _ := h7.pick [1, 0, 2, 3, 4, 5, 6, 7, 8] rfl
            have HT := Lib.hid (tk_no _ h7q hc)
            unfold zTup at HT
            clear h7 h7q hcf hc H6
            (try dsimp only); repeat' (first | (with_reducible show wpList _ _ _ (Oper.mk _ (Op.load 44 _) _ _ _ _ :: _) _ _; refine stopP ?_) | go_values | go_skip | go_guarded | go_step | go_upon | go_back)
            unfold StopP
            have hq_ := HL.out
            refine wpList_load_run rfl 44 _ rfl _ _ rfl hq_ ?_
            clear HL hq_
            (try dsimp only); repeat' (first | go_values | go_skip | go_guarded | go_step | go_upon | go_back)
            refine HT.out.mono ?_
            rintro r0 w8 ⟨rfl, h8⟩
            have h9 := h8.alloc0 (.cells #[.int .i64 0, .int .i64 0, .int .i64 0] 38)
            have h9 : Sep w [PrxC g gc 2 (n : Int) 1 vw true false 6 1 (.slice la 0 lc) (.pointer (some ⟨gt, 0, none⟩)), CkT gc 6 0, TalC gt b (n : Int), BalM b S1, PrxC k kc 2 (n : Int) 1 vw true false 6 1 (.slice ka 0 kl) (.pointer (some ⟨kt, 0, none⟩)), CkT kc 6 0, TalC kt kb (n : Int), BalM kb S2] _ := h9.pick [0, 2, 3, 4, 5, 6, 7, 8] rfl
            have H9 := Lib.hid h9
            clear HT h8 h9
            (try dsimp only); repeat' (first | go_values | go_skip | go_guarded | go_step | go_upon | go_back)
            refine (pxwaits_any H9.out).mono ?_
            rintro r0 w9 ⟨rfl, rfl⟩
            (try dsimp only); repeat' (first | go_values | go_skip | go_guarded | go_step | go_upon | go_back)
            refine (pxview_any H9.out).mono ?_
            rintro r0 w9 ⟨rfl, rfl⟩
            (try dsimp only); repeat' (first | go_values | go_skip | go_guarded | go_step | go_upon | go_back)
            refine (pxview_any (H9.out.pick [4, 0, 1, 2, 3, 5, 6, 7] rfl)).mono ?_
            rintro r0 w9 ⟨rfl, rfl⟩
            (try dsimp only); repeat' (first | go_values | go_skip | go_guarded | go_step | go_upon | go_back)
            refine (pxnum_any H9.out).mono ?_
            rintro r0 w9 ⟨rfl, rfl⟩
            (try dsimp only); repeat' (first | go_values | go_skip | go_guarded | go_step | go_upon | go_back)
            go_roundw
            case rel => exact ⟨j + 1, by have := HJ.out; omega, by have := HJ.out; omega, by go_num, H9.out⟩
            case measure => have := HJ.out; simp [intOf]; omega
        · have HW := Lib.hid hs
          have hcase : (decide (j < len) = false) ∨ (decide (j < len) = true ∧ decide (j < 60) = false) := by
            by_cases h9 : j < len
            · exact .inr ⟨decide_eq_true h9, decide_eq_false (by omega)⟩
            · exact .inl (decide_eq_false h9)
          have hci : decide ((j : Int) < (len : Int)) = decide (j < len) := by simp
          have hci2 : decide ((j : Int) < 60) = decide (j < 60) := by simp; omega
          clear hs hgo hjl hj60
          rcases hcase with d0 | ⟨d0, d1⟩
          all_goals
            skip
            (try rw [d0] at hci)
            (try rw [d1] at hci2)
            (try dsimp only); repeat' (first | go_values | go_skip | go_guarded | go_step | go_upon | go_back)
            go_loopw [18] (fun z wr => ∃ i : Nat, i ≤ h + 1 ∧ z = .int .i64 i ∧ ((i ≤ h ∧ ∃ (vw : Int) (S1 S2 : List (Bal × Nat)), 0 ≤ vw ∧ vw ≤ 1 ∧ Fs S1 (max A i) ∧ Fs S2 (max A i) ∧ Sep w [PrxC g gc 2 (n : Int) 1 vw true false 6 1 (.slice la 0 lc) (.pointer (some ⟨gt, 0, none⟩)), CkT gc 6 0, TalC gt b (n : Int), BalM b S1, PrxC k kc 2 (n : Int) 1 vw true false 6 1 (.slice ka 0 kl) (.pointer (some ⟨kt, 0, none⟩)), CkT kc 6 0, TalC kt kb (n : Int), BalM kb S2] wr) ∨ (i = h + 1 ∧ Sep w [PrxC g gc 2 (n : Int) 1 1 false false 0 0 (.slice none 0 0) (.pointer none), PrxC k kc 2 (n : Int) 1 1 false false 0 0 (.slice none 0 0) (.pointer none)] wr))) (fun z _ => 9 - (intOf z).toNat)
            case atStart => exact ⟨0, by omega, rfl, .inl ⟨by omega, vw, S1, S2, v0, v1, by rw [Nat.max_zero]; exact HF.out.1, by rw [Nat.max_zero]; exact HF.out.2, HW.out⟩⟩
            case round =>
              obtain ⟨i, hi, rfl, hst⟩ := hrel
              clear HW HF v0 v1
              have i0 : (0 : Int) ≤ (i : Int) := by omega
              have i8 : (i : Int) ≤ 8 := by have := HN.out; omega
              have hin : i < n := by have := HN.out; omega
              have di : decide (i < n) = true := decide_eq_true hin
              have dii : decide ((i : Int) < (n : Int)) = true := decide_eq_true (by omega)
              rcases hst with ⟨hih, vw, S1, S2, v0, v1, hF1, hF2, hs⟩ | ⟨hih, hs⟩
              · have HS := Lib.hid hs
                have HI := Lib.hid (And.intro hih hin)
                have HF := Lib.hid (And.intro hF1 hF2)
                clear hs hi hih hin hF1 hF2
                (try dsimp only); repeat' (first | go_values | go_skip | go_guarded | go_step | go_upon | go_back)
                refine (pxwaits_any (HS.out.pick [4, 0, 1, 2, 3, 5, 6, 7] rfl)).mono ?_
                rintro r0 w3 ⟨rfl, rfl⟩
                (try dsimp only); repeat' (first | go_values | go_skip | go_guarded | go_step | go_upon | go_back)
                refine (reply_any (i : Int) 1 7 2 HS.out).mono ?_
                rintro r0 w4 ⟨rfl, h4⟩
                have h4q : Sep w (PrxC g gc 2 (n : Int) 1 vw true false 6 1 (.slice la 0 lc) (.pointer (some ⟨gt, 0, none⟩)) :: TalC gt b (n : Int) :: BalM b S1 :: [CkT gc 6 0, PrxC k kc 2 (n : Int) 1 vw true false 6 1 (.slice ka 0 kl) (.pointer (some ⟨kt, 0, none⟩)), CkT kc 6 0, TalC kt kb (n : Int), BalM kb S2]) w4 := h4.pick [0, 2, 3, 1, 4, 5, 6, 7] rfl
                by_cases hlt : i < h
                · have hT := tk_few (who := i) HK.out.2 h4q (rok7 HI.out.2 (by omega)) HF.out.1.small iq1 iq7 iq2 (few7 HF.out.1 (by omega) (by omega) HN.out.2.2.2.1 (by have := HN.out; omega))
                  rw [maxI_01 v0 v1] at hT
                  have HT := Lib.hid hT
                  unfold zTup at HT
                  have HLT := Lib.hid hlt
                  clear HS h4 h4q hT hlt
                  (try dsimp only); repeat' (first | go_values | go_skip | go_guarded | go_step | go_upon | go_back)
                  refine HT.out.mono ?_
                  rintro r0 w5 ⟨rfl, h5⟩
                  have h5 := h5.alloc0 (.cells #[.int .i64 0, .int .i64 0, .int .i64 0] 38)
                  have H5 := Lib.hid h5
                  clear HT h5
                  (try dsimp only); repeat' (first | go_values | go_skip | go_guarded | go_step | go_upon | go_back)
                  refine (reply_any (i : Int) 1 7 2 H5.out).mono ?_
                  rintro r0 w6 ⟨rfl, h6⟩
                  have h6q : Sep w (PrxC k kc 2 (n : Int) 1 vw true false 6 1 (.slice ka 0 kl) (.pointer (some ⟨kt, 0, none⟩)) :: TalC kt kb (n : Int) :: BalM kb S2 :: [CkT kc 6 0, PrxC g gc 2 (n : Int) 1 1 true false 6 1 (.slice la 0 lc) (.pointer (some ⟨gt, 0, none⟩)), TalC gt b (n : Int), BalM b (addS S1 x2B i), CkT gc 6 0]) w6 := h6.pick [4, 6, 7, 5, 0, 1, 2, 3] rfl
                  have hT := tk_few (who := i) HK.out.2 h6q (rok7 HI.out.2 (by omega)) HF.out.2.small iq1 iq7 iq2 (few7 HF.out.2 (by omega) (by omega) HN.out.2.2.2.1 (by have := HN.out; have := HLT.out; omega))
                  rw [maxI_01 v0 v1] at hT
                  have HT := Lib.hid hT
                  unfold zTup at HT
                  clear H5 h6 h6q hT
                  (try dsimp only); repeat' (first | go_values | go_skip | go_guarded | go_step | go_upon | go_back)
                  refine HT.out.mono ?_
                  rintro r0 w7 ⟨rfl, h7⟩
                  have h7 := h7.alloc0 (.cells #[.int .i64 0, .int .i64 0, .int .i64 0] 38)
                  have h7 : Sep w [PrxC g gc 2 (n : Int) 1 1 true false 6 1 (.slice la 0 lc) (.pointer (some ⟨gt, 0, none⟩)), CkT gc 6 0, TalC gt b (n : Int), BalM b (addS S1 x2B i), PrxC k kc 2 (n : Int) 1 1 true false 6 1 (.slice ka 0 kl) (.pointer (some ⟨kt, 0, none⟩)), CkT kc 6 0, TalC kt kb (n : Int), BalM kb (addS S2 x2B i)] _ := h7.pick [4, 7, 5, 6, 0, 3, 1, 2] rfl
                  have H7 := Lib.hid h7
                  clear HT h7
                  (try dsimp only); repeat' (first | go_values | go_skip | go_guarded | go_step | go_upon | go_back)
                  go_roundw
                  case rel => exact ⟨i + 1, by have := HLT.out; omega, by go_num, .inl ⟨by have := HLT.out; omega, 1, addS S1 x2B i, addS S2 x2B i, by decide, by decide, by have h9 := HF.out.1.add i (by omega) (by omega); rw [show max (max A i) (i + 1) = max A (i + 1) by omega] at h9; exact h9, by have h9 := HF.out.2.add i (by omega) (by omega); rw [show max (max A i) (i + 1) = max A (i + 1) by omega] at h9; exact h9, H7.out⟩⟩
                  case measure => have := HLT.out; have := HN.out; simp [intOf]; omega
                · have hT := tk_won (who := i) HK.out.2 h4q (rok7 HI.out.2 (by omega)) HF.out.1.small iq1 iq7 iq2 (won7 HF.out.1 (by omega) (by omega) HN.out.2.2.2.1 (by have := HN.out; omega))
                  rw [maxI_01 v0 v1] at hT
                  have HT := Lib.hid hT
                  have HLT := Lib.hid hlt
                  clear HS h4 h4q hT hlt
                  (try dsimp only); repeat' (first | go_values | go_skip | go_guarded | go_step | go_upon | go_back)
                  refine HT.out.mono ?_
                  rintro r0 w5 ⟨rfl, h5⟩
                  have h5 := h5.alloc0 (.cells #[.int .i64 0, .int .i64 2, .int .i64 0] 38)
                  have H5 := Lib.hid h5
                  clear HT h5
                  (try dsimp only); repeat' (first | go_values | go_skip | go_guarded | go_step | go_upon | go_back)
                  refine (reply_any (i : Int) 1 7 2 H5.out).mono ?_
                  rintro r0 w6 ⟨rfl, h6⟩
                  have h6q : Sep w (PrxC k kc 2 (n : Int) 1 vw true false 6 1 (.slice ka 0 kl) (.pointer (some ⟨kt, 0, none⟩)) :: TalC kt kb (n : Int) :: BalM kb S2 :: [CkT kc 6 0, PrxC g gc 2 (n : Int) 1 1 false false 0 0 (.slice none 0 0) (.pointer none), CkT gc 6 0]) w6 := h6.pick [2, 4, 5, 3, 0, 1] rfl
                  have hT := tk_won (who := i) HK.out.2 h6q (rok7 HI.out.2 (by omega)) HF.out.2.small iq1 iq7 iq2 (won7 HF.out.2 (by omega) (by omega) HN.out.2.2.2.1 (by have := HN.out; have := HLT.out; omega))
                  rw [maxI_01 v0 v1] at hT
                  have HT := Lib.hid hT
                  clear H5 h6 h6q hT
                  (try dsimp only); repeat' (first | go_values | go_skip | go_guarded | go_step | go_upon | go_back)
                  refine HT.out.mono ?_
                  rintro r0 w7 ⟨rfl, h7⟩
                  have h7 := h7.alloc0 (.cells #[.int .i64 0, .int .i64 2, .int .i64 0] 38)
                  have h7 : Sep w [PrxC g gc 2 (n : Int) 1 1 false false 0 0 (.slice none 0 0) (.pointer none), PrxC k kc 2 (n : Int) 1 1 false false 0 0 (.slice none 0 0) (.pointer none)] _ := h7.pick [2, 0] rfl
                  have H7 := Lib.hid h7
                  clear HT h7
                  (try dsimp only); repeat' (first | go_values | go_skip | go_guarded | go_step | go_upon | go_back)
                  go_roundw
                  case rel => exact ⟨i + 1, by have := HI.out; omega, by go_num, .inr ⟨by have := HLT.out; have := HI.out; omega, H7.out⟩⟩
                  case measure => have := HI.out; have := HN.out; simp [intOf]; omega
              · have HS := Lib.hid hs
                clear hs hi hih hin
                (try dsimp only); repeat' (first | go_values | go_skip | go_guarded | go_step | go_upon | go_back)
                refine (pxwaits_any (HS.out.pick [1, 0] rfl)).mono ?_
                rintro r0 w3 ⟨rfl, rfl⟩
                (try dsimp only); repeat' (first | go_values | go_skip | go_guarded | go_step | go_upon | go_back)
                refine (pxwaits_any HS.out).mono ?_
                rintro r0 w3 ⟨rfl, rfl⟩
                (try dsimp only); repeat' (first | go_values | go_skip | go_guarded | go_step | go_upon | go_back)
                refine (pxwaits_any (HS.out.pick [1, 0] rfl)).mono ?_
                rintro r0 w3 ⟨rfl, rfl⟩
                (try dsimp only); repeat' (first | go_values | go_skip | go_guarded | go_step | go_upon | go_back)
                refine (works21_any HS.out HK.out.1 HK.out.2).mono ?_
                rintro r0 w4 ⟨rfl, h4⟩
                have H4 := Lib.hid h4.low
                clear HS h4
                (try dsimp only); repeat' (first | go_values | go_skip | go_guarded | go_step | go_upon | go_back)
                go_ret
                exact ⟨rfl, H4.out⟩
end Go.Proofs.YtdemconpdjgimaaDoor
