/- The walk of QuorumTallies. -/
import Derived.Test.YtidbniigfkocpaaQTal
import Derived.Test.YtidbniigfkocpaaRowSet
import Derived.Test.YtidbniigfkocpaaSep2
import Derived.Test.YtidbniigfkocpaaQAcks
namespace Go.Proofs.Ytidbniigfkocpaa
open Go.RowKit
set_option linter.unusedVariables false
set_option linter.unusedSimpArgs false
theorem tal_cells {w0 w : World} {bq b1 b2 m n : Nat} {v : Value} {x y : Bal} {who op : Int} {L : List Thing} (h : Sep w0 (Cl bq (doCells x who op) 36 :: Cl b1 (cellsB y) 34 :: Cl b2 (cellsB y) 34 :: RTalC m n v :: L) w) :
    w.cell? ⟨bq, 0, none⟩ = some (.int .i64 x.1.1) ∧ w.cell? ⟨bq, 1, none⟩ = some (.int .i64 x.1.2.1) ∧ w.cell? ⟨bq, 2, none⟩ = some (.int .i64 x.1.2.2.1) ∧ w.cell? ⟨bq, 3, none⟩ = some (.int .i64 x.1.2.2.2.1) ∧ w.cell? ⟨bq, 4, none⟩ = some (.int .i64 x.1.2.2.2.2) ∧ w.cell? ⟨b1, 0, none⟩ = some (.int .i64 y.1.1) ∧ w.cell? ⟨b1, 1, none⟩ = some (.int .i64 y.1.2.1) ∧ w.cell? ⟨b1, 2, none⟩ = some (.int .i64 y.1.2.2.1) ∧ w.cell? ⟨b1, 3, none⟩ = some (.int .i64 y.1.2.2.2.1) ∧ w.cell? ⟨b1, 4, none⟩ = some (.int .i64 y.1.2.2.2.2) ∧ w.cell? ⟨b2, 0, none⟩ = some (.int .i64 y.1.1) ∧ w.cell? ⟨b2, 1, none⟩ = some (.int .i64 y.1.2.1) ∧ w.cell? ⟨b2, 2, none⟩ = some (.int .i64 y.1.2.2.1) ∧ w.cell? ⟨b2, 3, none⟩ = some (.int .i64 y.1.2.2.2.1) ∧ w.cell? ⟨b2, 4, none⟩ = some (.int .i64 y.1.2.2.2.2) ∧ w.cell? ⟨m, 1, none⟩ = some v :=
  ⟨h.cell rfl, h.cell rfl, h.cell rfl, h.cell rfl, h.cell rfl, h.sw2.cell rfl, h.sw2.cell rfl, h.sw2.cell rfl, h.sw2.cell rfl, h.sw2.cell rfl, h.sw3.cell rfl, h.sw3.cell rfl, h.sw3.cell rfl, h.sw3.cell rfl, h.sw3.cell rfl, h.sw4.cell rfl⟩
theorem bq_cells {w0 w : World} {bq : Nat} {x : Bal} {who op : Int} {L : List Thing} (h : Sep w0 (Cl bq (doCells x who op) 36 :: L) w) :
    w.cell? ⟨bq, 0, none⟩ = some (.int .i64 x.1.1) ∧ w.cell? ⟨bq, 1, none⟩ = some (.int .i64 x.1.2.1) ∧ w.cell? ⟨bq, 2, none⟩ = some (.int .i64 x.1.2.2.1) ∧ w.cell? ⟨bq, 3, none⟩ = some (.int .i64 x.1.2.2.2.1) ∧ w.cell? ⟨bq, 4, none⟩ = some (.int .i64 x.1.2.2.2.2) := ⟨h.cell rfl, h.cell rfl, h.cell rfl, h.cell rfl, h.cell rfl⟩
theorem eqInts_same {w0 w : World} {L : List Thing} (va vb : Value) (l : List Int) (hs : Sep w0 L w) (ha : Sl w va (iv .i64 l)) (hb : Sl w vb (iv .i64 l)) (hl : l.length ≤ 1000000) :
    Calls Try.prog 17 #[va, vb] w fun e w' => e = .returned (.bool true) ∧ Sep w0 L w' := by
  have h := eqInts_sep va vb l l hs ha hb hl
  rwa [show (l == l) = true by simp] at h
set_option maxRecDepth 100000 in
set_option maxHeartbeats 8000000 in
theorem qtallies_any (n0 : Int) (a : Option Addr) (len cap : Nat) (w : World) (hn0 : I64 n0) (h : Dos w a len) (hlc : len ≤ cap) (hcm : cap ≤ maxLen) :
    Calls Try.prog 3 #[.int .i64 n0, .slice a len cap] w fun e w' => e = .returned (.bool true) ∧ Below w.heap.size w w' := by
  have HD := Lib.hid h
  have hlen : (len : Int) ≤ 9223372036854775807 := by unfold maxLen at hcm; omega
  clear h hlc hcm
  have hE0 : ∀ wx : World, Calls Try.prog 10 #[.int .i64 n0] wx fun e w' => e = .returned (.int .i64 (enough n0)) ∧ wx = w' := fun wx => enough_any n0 wx hn0
  have hE1 : ∀ wx : World, Calls Try.prog 11 #[.int .i64 n0] wx fun e w' => e = .returned (.int .i64 (enough n0)) ∧ wx = w' := fun wx => renough_any n0 wx hn0
  by_cases hen : enough n0 = 0
  · have HB1 := Lib.hid (newTally_bad n0 w hn0 hen)
    have HB2 := Lib.hid (rnewTally_bad n0 w hn0 hen)
    generalize enough n0 = E at *
    have hee : (E != E) = false := by simp
    have HE0 := Lib.hid hE0
    have HE1 := Lib.hid hE1
    clear hE0 hE1 hen
    go_enter Try.func3, Try.ntmps3
    go_wp2_with fail
    refine HB1.out.mono ?_
    rintro r0 w1 ⟨rfl, rfl⟩
    go_wp2_with fail
    refine HB2.out.mono ?_
    rintro r0 w1 ⟨rfl, rfl⟩
    go_wp2_with fail
    refine (HE0.out _).mono ?_
    rintro r0 w1 ⟨rfl, rfl⟩
    go_wp2_with fail
    refine (HE1.out _).mono ?_
    rintro r0 w1 ⟨rfl, rfl⟩
    by_cases hl0 : 0 < len
    · have l0 : decide (0 < len) = true := decide_eq_true hl0
      go_wp2_with fail
      go_loopw [9] (fun i wz => i = .int .i64 0 ∧ wz = w) (fun i _ => 0)
      case atStart => exact ⟨rfl, rfl⟩
      case round =>
        obtain ⟨rfl, rfl⟩ := hrel
        go_wp2_with fail
        refine (qworks_any _).mono ?_
        rintro r3 w4 ⟨rfl, h4⟩
        have H4 := Lib.hid h4
        clear h4
        go_wp2_with fail
        go_ret
        exact ⟨rfl, H4.out⟩
    · have l0 : decide (0 < len) = false := decide_eq_false hl0
      go_wp2_with fail
      go_loopw [9] (fun i wz => i = .int .i64 0 ∧ wz = w) (fun i _ => 0)
      case atStart => exact ⟨rfl, rfl⟩
      case round =>
        obtain ⟨rfl, rfl⟩ := hrel
        go_wp2_with fail
        refine (qworks_any _).mono ?_
        rintro r3 w4 ⟨rfl, h4⟩
        have H4 := Lib.hid h4
        clear h4
        go_wp2_with fail
        go_ret
        exact ⟨rfl, H4.out⟩
  · obtain ⟨n, rfl, hn3, hn15⟩ : ∃ n : Nat, n0 = n ∧ 3 ≤ n ∧ n ≤ 15 := by
      unfold enough at hen
      split at hen
      · exact ⟨n0.toNat, by omega, by omega, by omega⟩
      · exact absurd rfl hen
    have HX := Lib.hid hen
    obtain ⟨E, hE⟩ : ∃ E, E = enough n := ⟨_, rfl⟩
    rw [← hE] at hE0 hE1
    have hee : (E != E) = false := by simp
    have HE0 := Lib.hid hE0
    have HE1 := Lib.hid hE1
    clear hE0 hE1 hen hE
    go_enter Try.func3, Try.ntmps3
    go_wp2_with fail
    refine (newTally_ok n _ (Sep.start w) (by unfold I64; omega) HX.out).mono ?_
    rintro r0 w1 ⟨g, b, rfl, h1⟩
    have H1 := Lib.hid h1
    clear h1
    go_wp2_with fail
    refine (rnewTally_ok n _ H1.out (by unfold I64; omega) HX.out).mono ?_
    rintro r0 w2 ⟨m, rfl, h2⟩
    have H2 := Lib.hid h2
    clear h2 H1
    go_wp2_with fail
    refine (HE0.out _).mono ?_
    rintro r0 w1 ⟨rfl, rfl⟩
    go_wp2_with fail
    refine (HE1.out _).mono ?_
    rintro r0 w1 ⟨rfl, rfl⟩
    clear HE0 HE1 hee
    go_wp2_with fail
    go_loopw [9] (fun i wr => ∃ (k : Nat) (S : List (Bal × Nat)) (R : List Value) (v : Value), k ≤ len ∧ k ≤ 80 ∧ i = .int .i64 k ∧ (S.length ≤ k ∧ (∀ p ∈ S, Fit n p.2) ∧ Small S) ∧ Sep w [TalC g b n, BalM b S, RTalC m n v, RRows v S R, WhosT (setsS n S) R] wr) (fun i _ => 80 - (intOf i).toNat)
    case atStart =>
      refine ⟨0, [], [], .slice none 0 0, by omega, by omega, rfl, ⟨Nat.le_refl _, (fun p hp => by cases hp), small_nil⟩, ?_⟩
      exact ((H2.out.rnNil 6 69).whosNil).pick [3, 4, 2, 1, 0] rfl
    case round =>
      obtain ⟨k, S, R, v, hk, hk80, rfl, hSS, hs⟩ := hrel
      clear H2
      have HS := Lib.hid hs
      have HA := Lib.hid (show (S.length ≤ k ∧ (∀ p ∈ S, Fit n p.2) ∧ Small S) ∧ (S.map (·.1)).Nodup from ⟨hSS, hs.sw2.mapKeys⟩)
      clear hs hSS
      have k0 : (0 : Int) ≤ (k : Int) := by omega
      by_cases hkl : k < len ∧ k < 80
      · obtain ⟨hk1, hk2⟩ := hkl
        have hd1 : decide (k < len) = true := decide_eq_true hk1
        have hd2 : decide ((k : Int) < 80) = true := decide_eq_true (by omega)
        obtain ⟨bb, off, rfl, x, who, op, hw1, hw2, hcell⟩ := HD.out.at hk1
        obtain ⟨c0, c1, c2, c3, c4, c5, c6⟩ := hcell wr HS.out.low
        have kl : (k : Int) < (len : Int) := by omega
        have h3 := HS.out.alloc (.cells (doCells x who op) 36)
        obtain ⟨bq, hbq⟩ : ∃ z, z = wr.heap.size := ⟨_, rfl⟩
        obtain ⟨wq, hwq⟩ : ∃ z, z = wr.alloc (.cells (doCells x who op) 36) := ⟨_, rfl⟩
        rw [← hbq, ← hwq] at h3
        have d0 := h3.cell (o := 0) (x := .int .i64 x.1.1) rfl
        have d1 := h3.cell (o := 1) (x := .int .i64 x.1.2.1) rfl
        have d2 := h3.cell (o := 2) (x := .int .i64 x.1.2.2.1) rfl
        have d3 := h3.cell (o := 3) (x := .int .i64 x.1.2.2.2.1) rfl
        have d4 := h3.cell (o := 4) (x := .int .i64 x.1.2.2.2.2) rfl
        have d5 := h3.cell (o := 5) (x := .int .i64 who) rfl
        have hS80 : S.length ≤ 80 := by have := HA.out.1.1; omega
        have HAdd := Lib.hid (add_all x who (h3.pick [1, 2, 0, 3, 4, 5] rfl) hn15 HA.out.1.2.2)
        have hlenT := addT_len n S x who
        have HT := Lib.hid (show ((addT n S x who).length ≤ k + 1 ∧ (∀ p ∈ addT n S x who, Fit n p.2) ∧ Small (addT n S x who)) from ⟨by have := HA.out.1.1; omega, addT_fit HA.out.2 HA.out.1.2.1 x who, addT_small HA.out.1.2.2 hn15 x who⟩)
        have HRA : Hid (∀ wx M, Sep w (RTalC m n v :: RRows v S R :: WhosT (setsS n S) R :: M) wx → Calls Try.prog 13 #[.pointer (some ⟨m, 0, none⟩), balV x, .int .i64 who] wx fun e w' => ∃ v' R', e = .returned (.tuple #[.int .i64 (addM n S x who), .int .i64 (addE n who)]) ∧ Sep w (RTalC m n v' :: RRows v' (addT n S x who) R' :: WhosT (setsS n (addT n S x who)) R' :: M) w') :=
          Lib.hid fun wx M hx => radd_all x who hx hn15 HA.out.2 (by omega) HA.out.1.2.1
        clear hcell hw1 hw2 hk1 hk2 h3 HS hlenT
        generalize addT n S x who = S' at *
        generalize addM n S x who = mm at *
        generalize addE n who = ee at *
        have g0 : (mm != mm) = false := by simp
        have g1 : (ee != ee) = false := by simp
        unfold balV at HAdd HRA
        go_wp2_with fail
        rw [show wr.alloc (.cells #[.int .i64 x.1.1, .int .i64 x.1.2.1, .int .i64 x.1.2.2.1, .int .i64 x.1.2.2.2.1, .int .i64 x.1.2.2.2.2, .int .i64 who, .int .i64 op] 36) = wq from hwq.symm, ← hbq]
        clear hwq hbq c0 c1 c2 c3 c4 c5 c6
        refine HAdd.out.mono ?_
        rintro r1 w3 ⟨rfl, h4⟩
        clear d0 d1 d2 d3 d4 d5 HAdd
        have d0 := h4.sw3.cell (o := 0) (x := .int .i64 x.1.1) rfl
        have d1 := h4.sw3.cell (o := 1) (x := .int .i64 x.1.2.1) rfl
        have d2 := h4.sw3.cell (o := 2) (x := .int .i64 x.1.2.2.1) rfl
        have d3 := h4.sw3.cell (o := 3) (x := .int .i64 x.1.2.2.2.1) rfl
        have d4 := h4.sw3.cell (o := 4) (x := .int .i64 x.1.2.2.2.2) rfl
        have d5 := h4.sw3.cell (o := 5) (x := .int .i64 who) rfl
        have H4 := Lib.hid h4
        clear h4
        go_wp2_with fail
        refine (HRA.out _ _ (H4.out.pick [3, 4, 5, 0, 1, 2] rfl)).mono ?_
        rintro r2 w4 ⟨v', R', rfl, h5⟩
        have H5 := Lib.hid h5
        clear h5 H4 HRA d0 d1 d2 d3 d4 d5
        go_wp2_with fail
        refine (won_any (H5.out.pick [3, 4, 0, 1, 2, 5] rfl) hn15 HT.out.2.2).mono ?_
        rintro r3 w5 ⟨o, rfl, ho, h6⟩
        have H6 := Lib.hid h6
        have HO := Lib.hid ho
        clear h6 H5 ho
        unfold balV
        obtain ⟨y, hy⟩ : ∃ y, y = o.getD balZ := ⟨_, rfl⟩
        obtain ⟨s, hss⟩ : ∃ s, s = o.isSome := ⟨_, rfl⟩
        rw [← hy, ← hss]
        have h7 := H6.out.alloc (.cells (cellsB y) 34)
        obtain ⟨b1, hb1⟩ : ∃ z, z = w5.heap.size := ⟨_, rfl⟩
        obtain ⟨wb, hwb⟩ : ∃ z, z = w5.alloc (.cells (cellsB y) 34) := ⟨_, rfl⟩
        rw [← hb1, ← hwb] at h7
        unfold cellsB at hwb
        have H7 := Lib.hid h7
        have HY := Lib.hid (And.intro hy hss)
        clear h7 H6 hy hss
        go_wp2_with fail
        rw [show w5.alloc (.cells #[.int .i64 y.1.1, .int .i64 y.1.2.1, .int .i64 y.1.2.2.1, .int .i64 y.1.2.2.2.1, .int .i64 y.1.2.2.2.2] 34) = wb from hwb.symm, ← hb1]
        clear hwb hb1
        have hnd' := H7.out.sw3.mapKeys
        have hlen' : S'.length ≤ 1000 := by have := HT.out.1; omega
        refine (rwon_any (H7.out.pick [3, 4, 5, 0, 1, 2, 6] rfl) hn15 hnd' hlen' HT.out.2.1).mono ?_
        rintro r4 w6 ⟨o', rfl, ho', h8⟩
        obtain rfl := wonOk_one HO.out ho'
        unfold balV
        rw [← HY.out.1, ← HY.out.2]
        have h9 := h8.alloc (.cells (cellsB y) 34)
        obtain ⟨b2, hb2⟩ : ∃ z, z = w6.heap.size := ⟨_, rfl⟩
        obtain ⟨wc, hwc⟩ : ∃ z, z = w6.alloc (.cells (cellsB y) 34) := ⟨_, rfl⟩
        rw [← hb2, ← hwc] at h9
        unfold cellsB at hwc
        have h10 := h9.pick [5, 6, 7, 4, 0, 1, 2, 3] rfl
        have HK := Lib.hid (And.intro hnd' hlen')
        have d0 := h10.sw3.cell (o := 0) (x := .int .i64 x.1.1) rfl
        have d1 := h10.sw3.cell (o := 1) (x := .int .i64 x.1.2.1) rfl
        have d2 := h10.sw3.cell (o := 2) (x := .int .i64 x.1.2.2.1) rfl
        have d3 := h10.sw3.cell (o := 3) (x := .int .i64 x.1.2.2.2.1) rfl
        have d4 := h10.sw3.cell (o := 4) (x := .int .i64 x.1.2.2.2.2) rfl
        have H10 := Lib.hid h10
        clear h8 h9 h10 H7 HO ho' HY hnd' hlen'
        rw [hwc] at d0 d1 d2 d3 d4
        go_wp2_with fail
        rw [show w6.alloc (.cells #[.int .i64 y.1.1, .int .i64 y.1.2.1, .int .i64 y.1.2.2.1, .int .i64 y.1.2.2.2.1, .int .i64 y.1.2.2.2.2] 34) = wc from hwc.symm, ← hb2]
        clear hwc hb2
        refine (who_any x H10.out hn15 HT.out.2.2).mono ?_
        rintro r5 w7 ⟨v1, rfl, h11⟩
        clear d0 d1 d2 d3 d4
        obtain ⟨va, vc, rfl⟩ := h11.sl.len
        rw [iv_length] at h11
        rw [iv_length]
        obtain ⟨l, hl⟩ : ∃ l, l = whoOf ((mget S' x).getD 0) n := ⟨_, rfl⟩
        have hl15 : l.length ≤ 15 := by rw [hl]; have := whoOf_len ((mget S' x).getD 0) n; omega
        rw [← hl] at h11
        rw [← hl]
        have H11 := Lib.hid (h11.pick [3, 4, 5, 6, 7, 8, 0, 1, 2] rfl)
        have HL := Lib.hid hl
        have hl15' := Lib.hid hl15
        clear h11 H10 hl hl15
        obtain ⟨x0, x1, x2, x3, x4, y0, y1, y2, y3, y4, z0, z1, z2, z3, z4, m1⟩ := tal_cells H11.out
        obtain ⟨av', cv', rfl, -, -, -, -⟩ := (show Sep w (RRows v' S' R' :: _) _ from H11.out.sw5).rnForm
        have e0 : (y.1.1 != y.1.1) = false := by simp
        have e1 : (y.1.2.1 != y.1.2.1) = false := by simp
        have e2 : (y.1.2.2.1 != y.1.2.2.1) = false := by simp
        have e3 : (y.1.2.2.2.1 != y.1.2.2.2.1) = false := by simp
        have e4 : (y.1.2.2.2.2 != y.1.2.2.2.2) = false := by simp
        have e5 : (s != s) = false := by simp
        have e6 : (((S'.length : Nat) : Int) != ((S'.length : Nat) : Int)) = false := by simp
        have e7 : (S'.length != S'.length) = false := by simp
        have HW : Hid (∀ wx M, Sep w (RTalC m n (.slice av' S'.length cv') :: RRows (.slice av' S'.length cv') S' R' :: WhosT (setsS n S') R' :: M) wx → Calls Try.prog 18 #[.pointer (some ⟨m, 0, none⟩), balV x] wx fun e w' => ∃ u, e = .returned u ∧ Sep w (Is u l :: RTalC m n (.slice av' S'.length cv') :: RRows (.slice av' S'.length cv') S' R' :: WhosT (setsS n S') R' :: M) w') :=
          Lib.hid fun wx M hx => by rw [HL.out]; exact rwho_any x hx hn15 HK.out.1 HK.out.2
        unfold balV at HW
        go_wp2_with fail
        go_region_held3 (fun w' => w'.cell? ⟨bq, 0, none⟩ = some (.int .i64 x.1.1) ∧ w'.cell? ⟨bq, 1, none⟩ = some (.int .i64 x.1.2.1) ∧ w'.cell? ⟨bq, 2, none⟩ = some (.int .i64 x.1.2.2.1) ∧ w'.cell? ⟨bq, 3, none⟩ = some (.int .i64 x.1.2.2.2.1) ∧ w'.cell? ⟨bq, 4, none⟩ = some (.int .i64 x.1.2.2.2.2) ∧ w'.cell? ⟨b1, 0, none⟩ = some (.int .i64 y.1.1) ∧ w'.cell? ⟨b1, 1, none⟩ = some (.int .i64 y.1.2.1) ∧ w'.cell? ⟨b1, 2, none⟩ = some (.int .i64 y.1.2.2.1) ∧ w'.cell? ⟨b1, 3, none⟩ = some (.int .i64 y.1.2.2.2.1) ∧ w'.cell? ⟨b1, 4, none⟩ = some (.int .i64 y.1.2.2.2.2) ∧ w'.cell? ⟨b2, 0, none⟩ = some (.int .i64 y.1.1) ∧ w'.cell? ⟨b2, 1, none⟩ = some (.int .i64 y.1.2.1) ∧ w'.cell? ⟨b2, 2, none⟩ = some (.int .i64 y.1.2.2.1) ∧ w'.cell? ⟨b2, 3, none⟩ = some (.int .i64 y.1.2.2.2.1) ∧ w'.cell? ⟨b2, 4, none⟩ = some (.int .i64 y.1.2.2.2.2) ∧ w'.cell? ⟨m, 1, none⟩ = some (.slice av' S'.length cv')) (first | go_keep | with_reducible exact tal_cells HB1.out | with_reducible exact tal_cells HB2.out) (first
          | (go_at_call 18; refine Calls.mono (HW.out _ _ (H11.out.drew.pick [3, 4, 5, 6, 7, 8, 0, 1, 2] rfl)) ?_; rintro r9 w9 ⟨u, rfl, h9⟩; obtain ⟨ua, uc, rfl⟩ := h9.sl.len; rw [iv_length] at h9; rw [iv_length]; have HU := Lib.hid h9.sl; have h9 := h9.pick [7, 8, 9, 1, 2, 3, 4, 5, 6] rfl; have HB1 := Lib.hid h9; obtain ⟨x0, x1, x2, x3, x4, y0, y1, y2, y3, y4, z0, z1, z2, z3, z4, m1⟩ := tal_cells h9; clear h9)
          | (go_at_call 17; refine Calls.mono (eqInts_same _ _ l HB1.out (Sep.sl (HB1.out.sw7)) HU.out (by have := hl15'.out; omega)) ?_; rintro r9 w10 ⟨rfl, h9⟩; have HB2 := Lib.hid h9; have HT2 : Sep w [TalC g b n, BalM b S'] w10 := h9.pick [7, 8] rfl; have HLn := Lib.hid (len_any HT2); clear HT2; obtain ⟨x0, x1, x2, x3, x4, y0, y1, y2, y3, y4, z0, z1, z2, z3, z4, m1⟩ := tal_cells h9; clear h9)
          | (go_at_call 19; refine Calls.mono HLn.out ?_; rintro r9 w11 ⟨rfl, rfl⟩))
        all_goals
          have HC : Hid (Sep w (Rw 3 (.slice va l.length vc) (iv .i64 l) :: Cl bq (doCells x who op) 36 :: [RTalC m n (.slice av' S'.length cv'), RRows (.slice av' S'.length cv') S' R', WhosT (setsS n S') R', TalC g b n, BalM b S']) w10) := Lib.hid (HB2.out.pick [6, 0, 3, 4, 5, 7, 8] rfl)
          clear HB2 HB1 H11 HU HLn x0 x1 x2 x3 x4 y0 y1 y2 y3 y4 z0 z1 z2 z3 z4 m1 e0 e1 e2 e3 e4 e5 e6 e7 g0 g1
          go_wp2_with fail
          go_loopw [20] (fun i wz => ∃ (j : Nat) (xs : List Value), j ≤ l.length ∧ i = .int .i64 j ∧ xs.length = l.length ∧ Sep w (Rw 3 (.slice va l.length vc) xs :: Cl bq (doCells x who op) 36 :: [RTalC m n (.slice av' S'.length cv'), RRows (.slice av' S'.length cv') S' R', WhosT (setsS n S') R', TalC g b n, BalM b S']) wz) (fun i _ => l.length - (intOf i).toNat)
          case atStart => exact ⟨0, iv .i64 l, by omega, rfl, iv_length _ _, HC.out⟩
          case round =>
            obtain ⟨j, xs, hj, rfl, hxl, hz⟩ := hrel
            clear HC
            have j0 : (0 : Int) ≤ (j : Int) := by omega
            have j1 : (j : Int) ≤ 15 := by have := hl15'.out; omega
            by_cases hjl : j < l.length
            · have hdj : decide (j < l.length) = true := decide_eq_true hjl
              have j2 : (j : Int) < (l.length : Int) := by omega
              obtain ⟨b5, c5, hv5, q1, q2, q3, q4, q5⟩ := hz.rowForm (by omega)
              rw [hxl] at hv5
              simp only [Value.slice.injEq, true_and] at hv5
              obtain ⟨rfl, rfl⟩ := hv5
              have f1 := q3 j (by omega)
              have f2 := q4 j
              have HN := Lib.hid (q5 j (.int .i64 99) (by omega))
              have HXL := Lib.hid hxl
              generalize xs[j] = xj at *
              clear hz q1 q2 q3 q4 q5 hxl hjl
              go_wp2_with fail
              go_roundw
              case rel => exact ⟨j + 1, _, of_decide_eq_true hdj, by go_num, by rw [List.length_set]; exact HXL.out, HN.out⟩
              case measure => have hkn := of_decide_eq_true hdj; simp [intOf]; omega
            · have hdj : decide (j < l.length) = false := decide_eq_false hjl
              have HZ : Hid (Sep w (TalC g b n :: BalM b S' :: [Cl bq (doCells x who op) 36, RTalC m n (.slice av' S'.length cv'), RRows (.slice av' S'.length cv') S' R', WhosT (setsS n S') R']) wr) := Lib.hid (hz.pick [5, 6, 1, 2, 3, 4] rfl)
              obtain ⟨x0, x1, x2, x3, x4⟩ := bq_cells hz.sw2
              clear hz hxl hjl
              have HP := Lib.hid (who_any x HZ.out.drew hn15 HT.out.2.2)
              unfold balV at HP
              go_wp2_with fail
              go_region_held3 (fun w' => w'.cell? ⟨bq, 0, none⟩ = some (.int .i64 x.1.1) ∧ w'.cell? ⟨bq, 1, none⟩ = some (.int .i64 x.1.2.1) ∧ w'.cell? ⟨bq, 2, none⟩ = some (.int .i64 x.1.2.2.1) ∧ w'.cell? ⟨bq, 3, none⟩ = some (.int .i64 x.1.2.2.2.1) ∧ w'.cell? ⟨bq, 4, none⟩ = some (.int .i64 x.1.2.2.2.2)) (first | go_keep | with_reducible exact bq_cells HB1.out | with_reducible exact bq_cells HB2.out | with_reducible exact bq_cells HB3.out) (first
                | (go_at_call 16; refine Calls.mono HP.out ?_; rintro r9 w9 ⟨u1, rfl, h9⟩; rw [← HL.out] at h9; obtain ⟨ua1, uc1, rfl⟩ := h9.sl.len; rw [iv_length] at h9; rw [iv_length]; have h9 : Sep w (Cl bq (doCells x who op) 36 :: RTalC m n (.slice av' S'.length cv') :: RRows (.slice av' S'.length cv') S' R' :: WhosT (setsS n S') R' :: TalC g b n :: BalM b S' :: [Is (.slice ua1 l.length uc1) l]) w9 := h9.pick [3, 4, 5, 6, 1, 2, 0] rfl; have HB1 := Lib.hid h9; obtain ⟨x0, x1, x2, x3, x4⟩ := bq_cells h9; clear h9)
                | (go_at_call 18; refine Calls.mono (HW.out _ _ (HB1.out.pick [1, 2, 3, 4, 5, 0, 6] rfl)) ?_; rintro r9 w10 ⟨u, rfl, h9⟩; obtain ⟨ua, uc, rfl⟩ := h9.sl.len; rw [iv_length] at h9; rw [iv_length]; have h9 : Sep w (Cl bq (doCells x who op) 36 :: RTalC m n (.slice av' S'.length cv') :: RRows (.slice av' S'.length cv') S' R' :: WhosT (setsS n S') R' :: TalC g b n :: BalM b S' :: [Is (.slice ua l.length uc) l, Is (.slice ua1 l.length uc1) l]) w10 := h9.pick [6, 1, 2, 3, 4, 5, 0, 7] rfl; have HU1 : Sl w10 (.slice ua l.length uc) (iv .i64 l) := Sep.sl h9.sw7; have HU2 : Sl w10 (.slice ua1 l.length uc1) (iv .i64 l) := Sep.sl h9.sw8; have HQ := Lib.hid (eqInts_same _ _ l h9 HU2 HU1 (by have := hl15'.out; omega)); clear HU1 HU2; have HB2 := Lib.hid h9; obtain ⟨x0, x1, x2, x3, x4⟩ := bq_cells h9; clear h9)
                | (go_at_call 17; refine Calls.mono HQ.out ?_; rintro r9 w11 ⟨rfl, h9⟩; have HB3 := Lib.hid h9; obtain ⟨x0, x1, x2, x3, x4⟩ := bq_cells h9; clear h9))
              all_goals
                have HF := Lib.hid (HB3.out.pick [4, 5, 1, 2, 3] rfl)
                clear HB1 HB2 HB3 HQ HP HZ HW HL x0 x1 x2 x3 x4
                go_wp2_with fail
                go_roundw
                case rel => exact ⟨k + 1, S', R', _, of_decide_eq_true hd1, by have := of_decide_eq_true hd2; omega, by go_num, HT.out, HF.out⟩
                case measure => have := of_decide_eq_true hd2; simp [intOf]; omega
      · have HS2 := Lib.hid HS.out.low
        by_cases hk1 : k < len
        · have hd1 : decide (k < len) = true := decide_eq_true hk1
          have hd2 : decide ((k : Int) < 80) = false := decide_eq_false (by omega)
          clear HS HA hkl
          go_wp2_with fail
          refine (qworks_any _).mono ?_
          rintro r3 w4 ⟨rfl, h4⟩
          have H4 := Lib.hid (below_step HS2.out h4)
          clear h4
          go_wp2_with fail
          go_ret
          exact ⟨rfl, H4.out⟩
        · have hd1 : decide (k < len) = false := decide_eq_false hk1
          clear HS HA hkl
          go_wp2_with fail
          refine (qworks_any _).mono ?_
          rintro r3 w4 ⟨rfl, h4⟩
          have H4 := Lib.hid (below_step HS2.out h4)
          clear h4
          go_wp2_with fail
          go_ret
          exact ⟨rfl, H4.out⟩
end Go.Proofs.Ytidbniigfkocpaa
