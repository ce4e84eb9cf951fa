/- ProxyNums. -/
import Derived.Test.YtdemconpdjgimaaDoorPx11
namespace Go.Proofs.YtdemconpdjgimaaDoor
open Go.RowKit
set_option linter.unusedVariables false
set_option linter.unusedSimpArgs false
/-- A set of the first k replicas. -/
structure Fst (S : List (Bal × Nat)) (x : Bal) (k : Nat) : Prop where
  small : Small S
  pop : popc ((mget S x).getD 0) = k
  none_ : ∀ j, k ≤ j → j < 15 → bitAt ((mget S x).getD 0) j = 0
theorem Fst.zero (x : Bal) : Fst [] x 0 := ⟨small_nil, (by show popc 0 = 0; decide), fun j _ _ => by show 0 / 2 ^ j % 2 = 0; rw [Nat.zero_div]⟩
theorem Fst.add {S : List (Bal × Nat)} {x : Bal} {k : Nat} (h : Fst S x k) (hk : k < 15) : Fst (addS S x k) x (k + 1) ∧ popc ((mget S x).getD 0 ||| 2 ^ k) = k + 1 := by
  have h1 := popc_or ((mget S x).getD 0) k hk
  rw [h.none_ k (Nat.le_refl _) hk, h.pop] at h1
  have e : (mget (addS S x k) x).getD 0 = (mget S x).getD 0 ||| 2 ^ k := by rw [addS_get, if_pos rfl]; rfl
  refine ⟨⟨small_add h.small x k hk, by rw [e]; omega, fun j hj hj2 => ?_⟩, by omega⟩
  rw [e, bit_or, if_neg (by omega)]
  exact h.none_ j (by omega) hj2
theorem rok0 {n : Nat} {k : Nat} {i r em : Int} (hk : k < n) (hn : n ≤ 15) (i0 : 0 ≤ i) (i1 : i ≤ 41) (r0 : 0 ≤ r) (r1 : r < 9) (e0 : 1 ≤ em) (e1 : em ≤ 41) : ROk (n : Int) (k : Int) 0 i r em := ⟨by omega, by omega, by omega, by decide, by decide, i0, by omega, r0, by omega, e0, by omega⟩
set_option maxRecDepth 100000 in
set_option maxHeartbeats 0 in
theorem nums_any (f many : Int) (w : World) (hKM : KindsAt w ∧ MKindsAt w) : Calls Tryd.prog 6 #[.int .i64 f, .int .i64 many] w fun e w' => e = .returned (.bool true) ∧ Below w.heap.size w w' := by
  obtain ⟨n, hn⟩ : ∃ n : Nat, (n : Int) = 3 + 2 * (f % 7) := ⟨(3 + 2 * (f % 7)).toNat, by omega⟩
  obtain ⟨h, hnh⟩ : ∃ h : Nat, n = 2 * h + 1 := ⟨(n - 1) / 2, by omega⟩
  have h1 : 1 ≤ h := by omega
  have h7 : h ≤ 7 := by omega
  have hq : (n : Int).tdiv 2 = (h : Int) := by rw [Int.tdiv_eq_ediv_of_nonneg (by omega)]; omega
  have hqi : (n : Int) / 2 = (h : Int) := by omega
  have hqn : n / 2 = h := by omega
  have hen : enough (n : Int) = (h : Int) + 1 := by rw [hn, enough_odd _ (by omega) (by omega)]; omega
  have HMD := Lib.hid (made_any (w0 := w) (L := []) f 5 (Sep.start w) hKM.1 n hn)
  have HBR := Lib.hid (fun wx => bring_any many 40 wx (by unfold Sm; omega))
  obtain ⟨M, hM⟩ : ∃ M, M = many % 40 := ⟨_, rfl⟩
  rw [← hM] at HBR
  have M0 : 0 ≤ M := by omega
  have M40 : M < 40 := by omega
  have n0 : (0 : Int) ≤ (n : Int) := by omega
  have n15 : (n : Int) ≤ 15 := by omega
  have HN := Lib.hid (And.intro hnh (And.intro h1 (And.intro h7 hen)))
  have HK := Lib.hid hKM
  clear hM hn hnh h1 h7 hen hKM
  go_enter Tryd.func6, Tryd.ntmps6
  (try dsimp only); repeat' (first | go_values | go_skip | go_guarded | go_step | go_upon | go_back)
  refine HMD.out.mono ?_
  rintro r0 w1 ⟨g, gc, gt, b, la, lc, rfl, hla, hmd⟩
  have hmd2 : Sep w (WaitL g gc gt b n 1 0 false 1 la lc 6 0 [] []) w1 := hmd
  have H1 := Lib.hid (And.intro hla hmd2)
  clear HMD hla hmd hmd2
  (try dsimp only); repeat' (first | go_values | go_skip | go_guarded | go_step | go_upon | go_back)
  go_loopw [7] (fun z wr => ∃ (i : Nat) (q : Int) (gt b : Nat) (la : Option Addr) (lc : Nat), 1 ≤ i ∧ (i : Int) ≤ M + 1 ∧ z = .int .i64 i ∧ (la = none → lc = 0) ∧ Sep w (WaitL g gc gt b n (i : Int) 0 false q la lc 6 0 [] []) wr) (fun z _ => 42 - (intOf z).toNat)
  case atStart => exact ⟨1, 1, gt, b, la, lc, Nat.le_refl _, by omega, rfl, H1.out.1, H1.out.2⟩
  case round =>
    clear H1 gt b la lc
    obtain ⟨i, q, gt, b, la, lc, hi1, hiM, rfl, hla, hs⟩ := hrel
    have i1 : (1 : Int) ≤ (i : Int) := by omega
    have i41 : (i : Int) ≤ 40 := by omega
    have HS := Lib.hid hs
    (try dsimp only); repeat' (first | go_values | go_skip | go_guarded | go_step | go_upon | go_back)
    refine (HBR.out _).mono ?_
    rintro r0 w2 ⟨rfl, rfl⟩
    by_cases hgo : (i : Int) ≤ M
    · have dgo : decide ((i : Int) ≤ M) = true := decide_eq_true hgo
      obtain ⟨r9, hr9⟩ : ∃ r9, r9 = (i : Int) % 9 := ⟨_, rfl⟩
      have ht9 : (i : Int).tmod 9 = r9 := by rw [hr9]; exact Int.tmod_eq_emod_of_nonneg (by omega)
      have r90 : 0 ≤ r9 := by omega
      have r99 : r9 < 9 := by omega
      have HR9 := Lib.hid hr9
      clear hs hr9
      have HRP := Lib.hid (reply_any 0 0 (i : Int) r9 HS.out)
      (try dsimp only); repeat' (first | go_values | go_skip | go_guarded | go_step | go_upon | go_back)
      refine HRP.out.mono ?_
      rintro r0 w3 ⟨rfl, h3⟩
      have h4 : Sep w (Cl w3.heap.size #[.int .i64 0, .int .i64 0, .int .i64 0, .int .i64 0, .int .i64 0, .int .i64 0, .int .i64 0, .int .i64 0, .int .i64 0, .int .i64 0, .string ⟨#[]⟩, .int .i64 0, .int .i64 0, .slice none 0 0, .int .i64 0, .int .i64 0, .int .i64 0, .bool false, .int .i64 0, .slice none 0 0, .slice none 0 0, .int .i64 0] 44 :: WaitL g gc gt b n (i : Int) 0 false q la lc 6 0 [] []) (w3.alloc (.cells #[.int .i64 0, .int .i64 0, .int .i64 0, .int .i64 0, .int .i64 0, .int .i64 0, .int .i64 0, .int .i64 0, .int .i64 0, .int .i64 0, .string ⟨#[]⟩, .int .i64 0, .int .i64 0, .slice none 0 0, .int .i64 0, .int .i64 0, .int .i64 0, .bool false, .int .i64 0, .slice none 0 0, .slice none 0 0, .int .i64 0] 44)) := h3.alloc _
      have HTH := Lib.hid (h4.thereW 22 rfl)
      have h5 := h4.storeW (msC (rpM 0 0 (i : Int) r9) (.slice none 0 0) (.slice none 0 0) (.slice none 0 0)) rfl
      obtain ⟨bm, hbm⟩ : ∃ z, z = w3.heap.size := ⟨_, rfl⟩
      obtain ⟨w5, hw5⟩ : ∃ z, z = (w3.alloc (.cells #[.int .i64 0, .int .i64 0, .int .i64 0, .int .i64 0, .int .i64 0, .int .i64 0, .int .i64 0, .int .i64 0, .int .i64 0, .int .i64 0, .string ⟨#[]⟩, .int .i64 0, .int .i64 0, .slice none 0 0, .int .i64 0, .int .i64 0, .int .i64 0, .bool false, .int .i64 0, .slice none 0 0, .slice none 0 0, .int .i64 0] 44)).setCells w3.heap.size 0 (msC (rpM 0 0 (i : Int) r9) (.slice none 0 0) (.slice none 0 0) (.slice none 0 0)).toList := ⟨_, rfl⟩
      rw [← hw5, ← hbm] at h5
      have h5 : Sep w (Cl bm (msC (rM 0 0 (i : Int) r9 1 false) (.slice none 0 0) (.slice none 0 0) (.slice none 0 0)) 44 :: WaitL g gc gt b n (i : Int) 0 false q la lc 6 0 [] []) w5 := h5
      have H5 := Lib.hid h5
      clear HRP HS h3 h4 h5
      (try dsimp only); repeat' (first | (with_reducible show wpList _ _ _ (Oper.mk _ (Op.store 44 _ _) _ _ _ _ :: _) _ _; refine stopP ?_) | go_values | go_skip | go_guarded | go_step | go_upon | go_back)
      unfold StopP
      refine wpList_store_mid rfl 44 (.tmp 8) (.tmp 35) rfl _ 0 (msC (rpM 0 0 (i : Int) r9) (.slice none 0 0) (.slice none 0 0) (.slice none 0 0)) rfl rfl HTH.out (by kernel_rfl) (by kernel_rfl) ?_
      clear HTH
      (try dsimp only); repeat' (first | go_values | go_skip | go_guarded | go_step | go_upon | go_back)
      rw [← hw5, ← hbm]
      clear hw5 hbm
      go_loopw [9] (fun z wr => ∃ (k : Nat) (fr em : Int), k ≤ n ∧ z = .int .i64 k ∧ Sep w (Cl bm (msC (rM fr 0 (i : Int) r9 em false) (.slice none 0 0) (.slice none 0 0) (.slice none 0 0)) 44 :: WaitL g gc gt b n (i : Int) 0 false q la lc 6 0 [] []) wr) (fun z _ => n - (intOf z).toNat)
      case atStart => exact ⟨0, 0, 1, Nat.zero_le _, rfl, H5.out⟩
      case round =>
        obtain ⟨k, fr, em, hkn, rfl, hs⟩ := hrel
        clear H5
        have k0 : (0 : Int) ≤ (k : Int) := by omega
        by_cases hc : k < n ∧ 1 < i
        · as_aux_lemma =>
          have d1 : decide (k < n) = true := decide_eq_true hc.1
          have d2 : decide ((k : Int) < (n : Int)) = true := decide_eq_true (by omega)
          have d3 : decide (1 < (i : Int)) = true := decide_eq_true (by omega)
          have d3n : decide (1 < i) = true := decide_eq_true hc.2
          have k15 : (k : Int) < 15 := by omega
          have e1 : IntKind.i64.wrap ((i : Int) - 1) = (i : Int) - 1 := IntWalk.i64_in _ (by omega)
          have c1 := hs.cell (o := 1) (x := .int .i64 fr) rfl
          have f1 := hs.frozen 1
          have h6 := hs.setCell 1 (.int .i64 (k : Int))
          have c8 := h6.cell (o := 8) (x := .int .i64 em) rfl
          have f8 := h6.frozen 8
          have h7 := h6.setCell 8 (.int .i64 ((i : Int) - 1))
          have h7 : Sep w (Cl bm (msC (rM (k : Int) 0 (i : Int) r9 ((i : Int) - 1) false) (.slice none 0 0) (.slice none 0 0) (.slice none 0 0)) 44 :: WaitL g gc gt b n (i : Int) 0 false q la lc 6 0 [] []) _ := h7
          have hl := h7.loadMs
          have HL := Lib.hid hl
          have HT := Lib.hid (tk_off (s := false) HK.out.2 (h7.pick [1, 2, 3, 4, 0] rfl) (rok0 (i := (i : Int)) (r := r9) (em := (i : Int) - 1) hc.1 (by omega) (by omega) (by omega) r90 r99 (by omega) (by omega)) (by simp; omega))
          unfold zTup at HT
          have HC := Lib.hid hc
          clear hs h6 h7 hl hc hkn
          (try dsimp only); repeat' (first | (with_reducible show wpList _ _ _ (Oper.mk _ (Op.load 44 _) _ _ _ _ :: _) _ _; refine stopP ?_) | go_values | go_skip | go_guarded | go_step | go_upon | go_back)
          unfold StopP
          have hq_ := HL.out
          refine wpList_load_run rfl 44 _ rfl _ _ rfl hq_ ?_
          clear HL hq_
          (try dsimp only); repeat' (first | go_values | go_skip | go_guarded | go_step | go_upon | go_back)
          refine HT.out.mono ?_
          rintro r0 w8 ⟨rfl, h8⟩
          have h9 : Sep w (Cl bm (msC (rM (k : Int) 0 (i : Int) r9 ((i : Int) - 1) false) (.slice none 0 0) (.slice none 0 0) (.slice none 0 0)) 44 :: WaitL g gc gt b n (i : Int) 0 false q la lc 6 0 [] []) w8 := h8.pick [4, 0, 1, 2, 3] rfl
          have H9 := Lib.hid (h9.alloc0 (.cells #[.int .i64 0, .int .i64 0, .int .i64 0] 38))
          clear HT h8 h9 c1 f1 c8 f8
          (try dsimp only); repeat' (first | go_values | go_skip | go_guarded | go_step | go_upon | go_back)
          go_roundw
          case rel => exact ⟨k + 1, _, _, by have := HC.out.1; omega, by go_num, H9.out⟩
          case measure => have := HC.out.1; simp [intOf]; omega
        · have HTL : Hid (∀ (X : Prop), X → X) := Lib.hid fun X h => h
          have c8 := hs.cell (o := 8) (x := .int .i64 em) rfl
          have f8 := hs.frozen 8
          have h7 : Sep w (Cl bm (msC (rM fr 0 (i : Int) r9 (i : Int) false) (.slice none 0 0) (.slice none 0 0) (.slice none 0 0)) 44 :: WaitL g gc gt b n (i : Int) 0 false q la lc 6 0 [] []) (wr.setCell ⟨bm, 8, none⟩ (.int .i64 (i : Int))) := hs.setCell 8 (.int .i64 (i : Int))
          obtain ⟨w7, hw7⟩ : ∃ z, z = wr.setCell ⟨bm, 8, none⟩ (.int .i64 (i : Int)) := ⟨_, rfl⟩
          rw [← hw7] at h7
          have H7 := Lib.hid h7
          obtain ⟨d, hd⟩ : ∃ d : Bool, decide (k < n) = d := ⟨_, rfl⟩
          have hd2 : decide ((k : Int) < (n : Int)) = d := by rw [← hd]; simp
          obtain ⟨d', hd'⟩ : ∃ d : Bool, decide (1 < i) = d := ⟨_, rfl⟩
          have hd2' : decide (1 < (i : Int)) = d' := by rw [← hd']; simp; omega
          have hdd : (d && d') = false := by rw [← hd, ← hd']; simp; omega
          clear hs h7 hc hkn
          have hcase : (d = false) ∨ (d = true ∧ d' = false) := by cases d <;> cases d' <;> simp_all
          clear hdd
          rcases hcase with rfl | ⟨rfl, rfl⟩
          all_goals
            as_aux_lemma =>
            (try dsimp only); repeat' (first | go_values | go_skip | go_guarded | go_step | go_upon | go_back)
            rw [← hw7]
            clear hw7 c8 f8
            refine (ship_any 2 H7.out).mono ?_
            rintro r0 w8 ⟨rfl, h8⟩
            have HA := Lib.hid (ask2_no (l := 0) (p := 0) (h8.pick [1, 2, 3, 4, 0] rfl) 2)
            clear H7 h8
            (try dsimp only); repeat' (first | go_values | go_skip | go_guarded | go_step | go_upon | go_back)
            refine HA.out.mono ?_
            rintro r0 w9 ⟨rfl, h9⟩
            have h10 : Sep w (Cl bm (msC (rM fr 0 (i : Int) r9 (i : Int) false) (.slice none 0 0) (.slice none 0 0) (.slice none 0 0)) 44 :: WaitL g gc gt b n (i : Int) 0 false q la lc 6 0 [] []) w9 := h9.pick [4, 0, 1, 2, 3] rfl
            have H10 := Lib.hid h10
            clear HA h9 h10
            (try dsimp only); repeat' (first | go_values | go_skip | go_guarded | go_step | go_upon | go_back)
            have hi0 : IQ (i : Int) := by unfold IQ; omega
            have hr0 : IQ r9 := by unfold IQ; omega
            go_loopw [14] (fun z wr => ∃ (k : Nat) (fr : Int), k ≤ h + 1 ∧ z = .int .i64 k ∧ ((k ≤ h ∧ ∃ S, Fst S (rBal 0 (i : Int) r9 iq0 hi0 hr0) k ∧ Sep w (Cl bm (msC (rM fr 0 (i : Int) r9 (i : Int) false) (.slice none 0 0) (.slice none 0 0) (.slice none 0 0)) 44 :: WaitL g gc gt b n (i : Int) 0 false q la lc 6 0 S []) wr) ∨ (k = h + 1 ∧ Sep w [PrxC g gc 2 (n : Int) (i : Int) 0 false false 0 0 (.slice none 0 0) (.pointer none), CkT gc 6 0] wr))) (fun z _ => 9 - (intOf z).toNat)
            case atStart => exact ⟨0, fr, by omega, rfl, .inl ⟨Nat.zero_le _, [], Fst.zero _, H10.out⟩⟩
            case round =>
              obtain ⟨k3, fr3, hk3, rfl, hst⟩ := hrel
              clear H10
              have k30 : (0 : Int) ≤ (k3 : Int) := by omega
              have k38 : (k3 : Int) ≤ 8 := by have := HN.out.2.2.1; omega
              by_cases hkh : k3 ≤ h
              · obtain ⟨-, S, hF, hs⟩ : k3 ≤ h ∧ ∃ S, Fst S (rBal 0 (i : Int) r9 iq0 hi0 hr0) k3 ∧ Sep w (Cl bm (msC (rM fr3 0 (i : Int) r9 (i : Int) false) (.slice none 0 0) (.slice none 0 0) (.slice none 0 0)) 44 :: WaitL g gc gt b n (i : Int) 0 false q la lc 6 0 S []) wr := by
                  rcases hst with h9 | h9
                  · exact h9
                  · exact absurd h9.1 (by omega)
                have dk : decide ((k3 : Int) ≤ (h : Int)) = true := decide_eq_true (by omega)
                have dkn : decide (k3 ≤ h) = true := decide_eq_true hkh
                have k3n : k3 < n := by have := HN.out.1; omega
                have c1 := hs.cell (o := 1) (x := .int .i64 fr3) rfl
                have f1 := hs.frozen 1
                have h6 := hs.setCell 1 (.int .i64 (k3 : Int))
                have h6 : Sep w (Cl bm (msC (rM (k3 : Int) 0 (i : Int) r9 (i : Int) false) (.slice none 0 0) (.slice none 0 0) (.slice none 0 0)) 44 :: WaitL g gc gt b n (i : Int) 0 false q la lc 6 0 S []) _ := h6
                have HL := Lib.hid h6.loadMs
                have hadd := hF.add (show k3 < 15 by omega)
                have hpick : Sep w (PrxC g gc 2 (n : Int) (i : Int) 0 true false 6 q (.slice la 0 lc) (.pointer (some ⟨gt, 0, none⟩)) :: TalC gt b (n : Int) :: BalM b S :: [CkT gc 6 0, Cl bm (msC (rM (k3 : Int) 0 (i : Int) r9 (i : Int) false) (.slice none 0 0) (.slice none 0 0) (.slice none 0 0)) 44]) _ := h6.pick [1, 3, 4, 2, 0] rfl
                have hrok := rok0 (i := (i : Int)) (r := r9) (em := (i : Int)) k3n (by omega) (by omega) (by omega) r90 r99 (by omega) (by omega)
                by_cases hkl : k3 = h
                · have dkh : ((k3 : Int) == (h : Int)) = true := by rw [beq_iff_eq]; omega
                  have dkhn : (k3 == h) = true := by rw [beq_iff_eq]; exact hkl
                  have HT := Lib.hid (tk_won (who := k3) HK.out.2 hpick hrok hF.small iq0 hi0 hr0 (by rw [hadd.2]; have := HN.out.2.2.2; omega))
                  have HE := Lib.hid hkl
                  clear hst hs h6 hF hadd hpick hrok hkl hkh hk3
                  skip
                  (try dsimp only); repeat' (first | (with_reducible show wpList _ _ _ (Oper.mk _ (Op.load 44 _) _ _ _ _ :: _) _ _; refine stopP ?_) | go_values | go_skip | go_guarded | go_step | go_upon | go_back)
                  unfold StopP
                  have hq_ := HL.out
                  refine wpList_load_run rfl 44 _ rfl _ _ rfl hq_ ?_
                  clear HL hq_
                  (try dsimp only); repeat' (first | go_values | go_skip | go_guarded | go_step | go_upon | go_back)
                  refine HT.out.mono ?_
                  rintro r0 w8 ⟨rfl, h8⟩
                  have h8 : Sep w [PrxC g gc 2 (n : Int) (i : Int) 0 false false 0 0 (.slice none 0 0) (.pointer none), CkT gc 6 0, Cl bm (msC (rM (k3 : Int) 0 (i : Int) r9 (i : Int) false) (.slice none 0 0) (.slice none 0 0) (.slice none 0 0)) 44] w8 := h8
                  have h9 := h8.alloc (.cells #[.int .i64 0, .int .i64 r9, .int .i64 0] 38)
                  have x1 := h9.cell (o := 1) (x := .int .i64 r9) rfl
                  have h9 : Sep w [PrxC g gc 2 (n : Int) (i : Int) 0 false false 0 0 (.slice none 0 0) (.pointer none), CkT gc 6 0] _ := h9.pick [1, 2] rfl
                  have H9 := Lib.hid h9
                  clear HT h8 h9 c1 f1
                  (try dsimp only); repeat' (first | go_values | go_skip | go_guarded | go_step | go_upon | go_back)
                  go_roundw
                  case rel => exact ⟨k3 + 1, 0, by have := HE.out; omega, by go_num, .inr ⟨by have := HE.out; omega, H9.out⟩⟩
                  case measure => have := HE.out; simp [intOf]; omega
                · have dkh : ((k3 : Int) == (h : Int)) = false := by rw [beq_eq_false_iff_ne]; omega
                  have dkhn : (k3 == h) = false := by rw [beq_eq_false_iff_ne]; exact hkl
                  have HT := Lib.hid (tk_few (who := k3) HK.out.2 hpick hrok hF.small iq0 hi0 hr0 (by rw [hadd.2]; have := HN.out.2.2.2; omega))
                  unfold zTup at HT
                  have HE := Lib.hid (And.intro hadd.1 (show k3 < h by omega))
                  clear hst hs h6 hF hadd hpick hrok hkl hkh hk3
                  skip
                  (try dsimp only); repeat' (first | (with_reducible show wpList _ _ _ (Oper.mk _ (Op.load 44 _) _ _ _ _ :: _) _ _; refine stopP ?_) | go_values | go_skip | go_guarded | go_step | go_upon | go_back)
                  unfold StopP
                  have hq_ := HL.out
                  refine wpList_load_run rfl 44 _ rfl _ _ rfl hq_ ?_
                  clear HL hq_
                  (try dsimp only); repeat' (first | go_values | go_skip | go_guarded | go_step | go_upon | go_back)
                  refine HT.out.mono ?_
                  rintro r0 w8 ⟨rfl, h8⟩
                  have h9 : Sep w (Cl bm (msC (rM (k3 : Int) 0 (i : Int) r9 (i : Int) false) (.slice none 0 0) (.slice none 0 0) (.slice none 0 0)) 44 :: WaitL g gc gt b n (i : Int) 0 false q la lc 6 0 (addS S (rBal 0 (i : Int) r9 iq0 hi0 hr0) k3) []) w8 := h8.pick [4, 0, 3, 1, 2] rfl
                  have H9 := Lib.hid (h9.alloc0 (.cells #[.int .i64 0, .int .i64 0, .int .i64 0] 38))
                  clear HT h8 h9 c1 f1
                  (try dsimp only); repeat' (first | go_values | go_skip | go_guarded | go_step | go_upon | go_back)
                  go_roundw
                  case rel => exact ⟨k3 + 1, _, by have := HE.out.2; omega, by go_num, .inl ⟨by have := HE.out.2; omega, _, HE.out.1, H9.out⟩⟩
                  case measure => have := HE.out.2; simp [intOf]; omega
              · obtain ⟨-, hs⟩ : k3 = h + 1 ∧ Sep w [PrxC g gc 2 (n : Int) (i : Int) 0 false false 0 0 (.slice none 0 0) (.pointer none), CkT gc 6 0] wr := by
                  rcases hst with h9 | h9
                  · exact absurd h9.1 (by omega)
                  · exact h9
                have dk : decide ((k3 : Int) ≤ (h : Int)) = false := decide_eq_false (by omega)
                have dkn : decide (k3 ≤ h) = false := decide_eq_false hkh
                have HS3 := Lib.hid hs
                clear hst hs hkh hk3
                skip
                (try dsimp only); repeat' (first | go_values | go_skip | go_guarded | go_step | go_upon | go_back)
                refine (pxwaits_any HS3.out).mono ?_
                rintro r0 w8 ⟨rfl, rfl⟩
                (try dsimp only); repeat' (first | go_values | go_skip | go_guarded | go_step | go_upon | go_back)
                refine (pxnum_any HS3.out).mono ?_
                rintro r0 w8 ⟨rfl, rfl⟩
                (try dsimp only); repeat' (first | go_values | go_skip | go_guarded | go_step | go_upon | go_back)
                refine (ship_any (i : Int) HS3.out).mono ?_
                rintro r0 w9 ⟨rfl, h9⟩
                have ew : IntKind.i64.wrap ((i : Int) + 1) = (i : Int) + 1 := IntWalk.i64_in _ (by omega)
                have HA := Lib.hid (ask2_ok (n := n) h9 (i : Int) (by omega) (by omega) HK.out.1 (by omega) (by omega) (by omega) (by have := HN.out.2.2.2; omega) (by decide))
                clear HS3 h9
                (try dsimp only); repeat' (first | go_values | go_skip | go_guarded | go_step | go_upon | go_back)
                refine HA.out.mono ?_
                rintro r0 w10 ⟨rfl, la', lc', gt', b', hla', h10⟩
                have H10 := Lib.hid (And.intro hla' h10)
                clear HA h10 hla'
                (try dsimp only); repeat' (first | go_values | go_skip | go_guarded | go_step | go_upon | go_back)
                go_roundw
                case rel => exact ⟨i + 1, (i : Int), gt', b', la', lc', by omega, by omega, by go_num, H10.out.1, H10.out.2⟩
                case measure => simp [intOf]; omega
    · have dgo : decide ((i : Int) ≤ M) = false := decide_eq_false hgo
      have HW := Lib.hid (works21_any HS.out HK.out.1 HK.out.2)
      clear hs HS hgo
      (try dsimp only); repeat' (first | go_values | go_skip | go_guarded | go_step | go_upon | go_back)
      refine HW.out.mono ?_
      rintro r0 w3 ⟨rfl, h3⟩
      have H3 := Lib.hid h3.low
      clear HW h3
      (try dsimp only); repeat' (first | go_values | go_skip | go_guarded | go_step | go_upon | go_back)
      go_ret
      exact ⟨rfl, H3.out⟩
end Go.Proofs.YtdemconpdjgimaaDoor
