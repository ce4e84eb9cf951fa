/- The statement's own (stage 12): asks, row, filled, sameRow. -/
import Derived.Test.YtpknfeokfladkaaDoorPipe2
import Derived.Test.YtpknfeokfladkaaDoorItem15
namespace Go.Proofs.YtpknfeokfladkaaDoor
open Go.RowKit
set_option linter.unusedVariables false
set_option linter.unusedSimpArgs false
def sC (r : Nat) : KS := ⟨(⟨#[115]⟩ : ByteArray) ++ (⟨#[UInt8.ofNat (97 + r)]⟩ : ByteArray), by unfold maxLen; show 2 ≤ _; decide⟩
theorem sC_ok {r : Nat} (h : r ≤ 25) : nameB (sC r).1 = true := by
  have : (List.range 26).all (fun m => nameB (sC m).1) = true := by kernel_rfl
  exact List.all_eq_true.1 this r (List.mem_range.2 (by omega))
def askE (n : Int) : EnM := ⟨n % 8, 1 + n % 1000, ⟨8, sC (n % 26).toNat, 0, 0, []⟩⟩
abbrev askP (n : Int) : EnM × Value := (askE n, .slice none 0 0)
theorem askE_ok (n : Int) : (askE n).ok = true := by
  have h : (⟨8, sC (n % 26).toNat, 0, 0, []⟩ : OpM).ok = true := ok_1 (sC_ok (by omega))
  unfold EnM.ok EnM.hd
  show (decide _ && OpM.ok ⟨8, sC (n % 26).toNat, 0, 0, []⟩) = true
  rw [h, Bool.and_true]
  exact decide_eq_true ⟨by show 0 ≤ n % 8; omega, by show n % 8 < 8; omega, by show 1 ≤ 1 + n % 1000; omega, by show 1 + n % 1000 ≤ 2147483647; omega⟩
set_option maxRecDepth 100000 in
set_option maxHeartbeats 8000000 in
theorem asks_any {w0 w : World} {L : List Thing} (n : Int) (h : Sep w0 L w) :
    Calls Tryd.prog 23 #[.int .i64 n] w fun e w' => e = .returned (enV (askE n) (.slice none 0 0)) ∧ Sep w0 L w' := by
  show Calls Tryd.prog 23 #[.int .i64 n] w fun e w' => e = .returned (.agg #[.int .i64 (n % 8), .int .i64 (1 + n % 1000), .int .i64 8, .string ((⟨#[115]⟩ : ByteArray) ++ (⟨#[UInt8.ofNat (97 + (n % 26).toNat)]⟩ : ByteArray)), .int .i64 0, .int .i64 0, .slice none 0 0]) ∧ Sep w0 L w'
  have h1 := h.alloc (.cells #[.int .i64 0, .int .i64 0, .int .i64 0, .string ⟨#[]⟩, .int .i64 0, .int .i64 0, .slice none 0 0] 34)
  obtain ⟨b2, hb2⟩ : ∃ z, z = w.heap.size := ⟨_, rfl⟩
  obtain ⟨w3, hw3⟩ : ∃ z, z = w.alloc (.cells #[.int .i64 0, .int .i64 0, .int .i64 0, .string ⟨#[]⟩, .int .i64 0, .int .i64 0, .slice none 0 0] 34) := ⟨_, rfl⟩
  rw [← hb2, ← hw3] at h1
  have HA := Lib.hid (fun wx => bring_any n 8 wx (by unfold Sm; omega))
  have HB := Lib.hid (fun wx => bring_any n 1000 wx (by unfold Sm; omega))
  have HC := Lib.hid (fun wx => bring_any n 26 wx (by unfold Sm; omega))
  obtain ⟨r, hr, hr2⟩ : ∃ r : Nat, n % 26 = (r : Int) ∧ r ≤ 25 := ⟨(n % 26).toNat, by omega, by omega⟩
  rw [show (n % 26).toNat = r by omega]
  rw [hr] at HC
  have hqm : 0 ≤ n % 1000 ∧ n % 1000 ≤ 999 := by omega
  generalize n % 8 = q8 at *
  generalize n % 1000 = qm at *
  have eM : IntKind.i64.wrap (1 + qm) = 1 + qm := IntWalk.i64_in _ (by omega)
  have eC : IntKind.i64.wrap (97 + (r : Int)) = 97 + (r : Int) := IntWalk.i64_in _ (by omega)
  have eE : (97 + (r : Int)) % 256 = 97 + (r : Int) := by omega
  obtain ⟨ch, hch⟩ : ∃ ch : UInt8, ch = UInt8.ofNat (97 + r) := ⟨_, rfl⟩
  have hz : ch.toNat = 97 + r := by rw [hch, UInt8.toNat_ofNat']; omega
  rw [← hch]
  have hA := h1.alloc (.cells #[.int .u8 ((ch.toNat : Nat) : Int)] 5)
  have hcv := conv_bytes (P := Tryd.prog) Tryd.underlying74 Tryd.underlying5 Tryd.underlying9 (l := [ch]) ((hA.asRow 1 rfl (by unfold maxLen; omega)).sl)
  rw [hz, show ((97 + r : Nat) : Int) = 97 + (r : Int) by omega] at hA hcv
  have h4 := hA.sw2
  obtain ⟨e0, e1, e2, e3, e4, e5, e6⟩ := cells7 h4
  obtain ⟨f0, f1, f2, f3, f4, f5, f6⟩ := frz7 h4
  have h7 := store7 (u0 := .int .i64 q8) (u1 := .int .i64 (1 + qm)) (u2 := .int .i64 8) (u3 := .string ((⟨#[115]⟩ : ByteArray) ++ (⟨#[ch]⟩ : ByteArray))) (u4 := .int .i64 0) (u5 := .int .i64 0) (u6 := .slice none 0 0) h4
  obtain ⟨y0, y1, y2, y3, y4, y5, y6⟩ := cells7 h7
  have H7 := Lib.hid h7.drop.drop
  clear h h1 h4 h7 hA hz hch hr hr2 hqm
  go_enter Tryd.func23, Tryd.ntmps23
  go_wp2_with fail
  rw [← hw3, ← hb2]
  clear hw3 hb2
  refine (HA.out _).mono ?_
  rintro r0 w1 ⟨rfl, rfl⟩
  clear HA
  go_wp2_with fail
  refine (HB.out _).mono ?_
  rintro r0 w1 ⟨rfl, rfl⟩
  clear HB
  go_wp2_with fail
  refine (HC.out _).mono ?_
  rintro r0 w1 ⟨rfl, rfl⟩
  clear HC
  go_wp2_with fail
  exact bodyPost_ret (v := .agg #[.int .i64 q8, .int .i64 (1 + qm), .int .i64 8, .string ((⟨#[115]⟩ : ByteArray) ++ (⟨#[ch]⟩ : ByteArray)), .int .i64 0, .int .i64 0, .slice none 0 0]) (by simp [results, Tryd.results23, go_sem, y0, y1, y2, y3, y4, y5, y6]) rfl ⟨rfl, H7.out⟩
set_option maxRecDepth 100000 in
set_option maxHeartbeats 8000000 in
theorem row12_any {w0 w : World} {L : List Thing} (v : Value) (l : List Int) (m : Nat) (h : Sep w0 L w) (hv : ∀ wx, Sep w0 L wx → Sl wx v (iv .i64 l)) (hm : m ≤ 1000) :
    Calls Tryd.prog 30 #[v, .int .i64 m] w fun e w' => ∃ u, e = .returned u ∧ Sep w0 (EnT u ((l.take m).map askP) :: L) w' := by
  obtain ⟨a, c, rfl⟩ := (hv _ h).len
  have HV := Lib.hid hv
  have H := Lib.hid h.enNil
  rw [iv_length] at HV ⊢
  have n0 : (0 : Int) ≤ (l.length : Int) := by omega
  have m0 : (0 : Int) ≤ (m : Int) := by omega
  have m1 : (m : Int) ≤ 1000 := by omega
  clear h hv hm
  go_enter Tryd.func30, Tryd.ntmps30
  go_wp2_with fail
  go_loopw [5, 6] (fun pv i wr => ∃ (k : Nat) (av : Option Addr) (cv : Nat), k ≤ l.length ∧ k ≤ m ∧ pv = .slice av k cv ∧ i = .int .i64 k ∧ Sep w0 (EnT (.slice av k cv) ((l.take k).map askP) :: L) wr) (fun _ i _ => m - (intOf i).toNat)
  case atStart => exact ⟨0, none, 0, Nat.zero_le _, Nat.zero_le _, rfl, rfl, H.out⟩
  case round =>
    obtain ⟨k, av, cv, hk, hkm, rfl, rfl, hs⟩ := hrel
    clear H
    have k0 : (0 : Int) ≤ (k : Int) := by omega
    have k9 : (k : Int) ≤ 1000 := by omega
    by_cases hgo : k < l.length ∧ k < m
    · have d0 : decide (k < l.length) = true := decide_eq_true hgo.1
      have d1 : decide (k < m) = true := decide_eq_true hgo.2
      have k1 : (k : Int) < (l.length : Int) := by omega
      obtain ⟨b, off, rfl, hll, hc⟩ := (HV.out _ hs.drop).at (by omega)
      have hcj := hc k _ (iv_get .i64 l k hgo.1)
      have HL := Lib.hid (show (l.take (k + 1)).map askP = (l.take k).map askP ++ [askP l[k]] by rw [List.take_succ_eq_append_getElem hgo.1, List.map_append]; rfl)
      have HG := Lib.hid hgo
      have HLK := Lib.hid (show ((l.take k).map askP).length = k by rw [List.length_map, List.length_take]; omega)
      have HA := Lib.hid (asks_any l[k] hs)
      generalize l[k] = x at *
      clear hs hc hll hgo hk hkm
      unfold enV at HA
      go_wp2_with fail
      refine HA.out.mono ?_
      rintro r0 w2 ⟨rfl, h2⟩
      have h3 := (h2.rnNil 2 71).alloc (.cells (enC (askE x) (.slice none 0 0)) 34)
      obtain ⟨a2, c2, w4, hr, h4⟩ := append_en (ty := 35) (h3.pickL (M := [_, _, _]) [0, 2, 1] rfl : Sep w0 (Cl w2.heap.size (enC (askE x) (.slice none 0 0)) 34 :: EnT (.slice av k cv) ((l.take k).map askP) :: LnR (.slice none 0 0) (askE x).p.ls :: L) _) rfl (by rw [HLK.out]; omega)
      rw [HLK.out] at hr h4
      unfold enC at hr
      have HAP := Lib.hid hr
      have H4 := Lib.hid h4
      clear HA h2 h3 hr h4 hcj
      go_wp2_with (at_builtin; refine wpList_append_run rfl _ _ _ _ rfl rfl rfl HAP.out ?_)
      go_roundw
      case rel => exact ⟨k + 1, a2, c2, HG.out.1, HG.out.2, rfl, by go_num, by rw [HL.out]; exact H4.out⟩
      case measure => have := HG.out.2; simp [intOf]; omega
    · by_cases hkl : k < l.length
      · have d0 : decide (k < l.length) = true := decide_eq_true hkl
        have d1 : decide (k < m) = false := decide_eq_false (by omega)
        have HE : Hid (k = m) := Lib.hid (by omega)
        have HF := Lib.hid hs
        clear hs hgo hk hkm hkl
        go_wp2_with fail
        go_ret
        exact ⟨_, rfl, by have := HF.out; rw [← HE.out]; exact this⟩
      · have d0 : decide (k < l.length) = false := decide_eq_false hkl
        have HE : Hid (l.take k = l.take m) := Lib.hid (by rw [List.take_of_length_le (by omega), List.take_of_length_le (by omega)])
        have HF := Lib.hid hs
        clear hs hgo hk hkm hkl
        go_wp2_with fail
        go_ret
        exact ⟨_, rfl, by have := HF.out; rw [← HE.out]; exact this⟩
set_option maxRecDepth 100000 in
set_option maxHeartbeats 8000000 in
theorem filled_any {w0 w : World} {L : List Thing} (b : Int) (a : Option Addr) (c n : Nat) (xs : List (EnM × Value)) (h : Sep w0 L w) (hv : ∀ wx, Sep w0 L wx → EnS wx (.slice a n c) xs) (hn : xs.length = n) (h0 : 0 ≤ b) (h1 : b ≤ 9007199254740991) (hl : n ≤ 24) (hok : ∀ q ∈ xs, q.1.ok = true) (hk : KindsAt w0) :
    Calls Tryd.prog 22 #[.int .i64 b, .slice a n c] w fun e w' => ∃ g, e = .returned (.pointer (some ⟨g, 0, none⟩)) ∧ ∃ qs : List (EnM × Value), qs.map (·.1) = xs.map (·.1) ∧ Sep w0 (PipeT g b qs :: L) w' := by
  have HP := Lib.hid (pnew_any b h h0 h1)
  have HV := Lib.hid hv
  have HK := Lib.hid hk
  have HOK := Lib.hid hok
  have HB := Lib.hid (And.intro h0 (And.intro h1 (And.intro hn hl)))
  have n0 : (0 : Int) ≤ (n : Int) := by omega
  have n1 : (n : Int) ≤ 24 := by omega
  clear h hv hk hok h0 h1 hn hl
  go_enter Tryd.func22, Tryd.ntmps22
  go_wp2_with fail
  refine HP.out.mono ?_
  rintro r0 w1 ⟨g, rfl, h1⟩
  have H1 := Lib.hid h1
  clear HP h1
  go_wp2_with fail
  go_loopw [7] (fun i wr => ∃ (k : Nat) (qs : List (EnM × Value)), k ≤ n ∧ i = .int .i64 k ∧ qs.map (·.1) = (xs.take k).map (·.1) ∧ Sep w0 (PipeT g b qs :: L) wr) (fun i _ => n - (intOf i).toNat)
  case atStart => exact ⟨0, [], Nat.zero_le _, rfl, rfl, H1.out⟩
  case round =>
    obtain ⟨k, qs, hk, rfl, hqs, hs⟩ := hrel
    clear H1
    have k0 : (0 : Int) ≤ (k : Int) := by omega
    by_cases hkn : k < n
    · have d0 : decide (k < n) = true := decide_eq_true hkn
      have k1 : (k : Int) < (n : Int) := by omega
      have hkx : k < xs.length := by have := HB.out; omega
      have hlq : qs.length = k := by have := congrArg List.length hqs; simpa [Nat.min_eq_left (Nat.le_of_lt hkx)] using this
      obtain ⟨bx, off, rfl, -, -, -, ⟨e0, e1, e2, e3, e4, e5, e6⟩, hln⟩ := (HV.out _ hs.drop).at hkx
      have hok := HOK.out _ (List.getElem_mem hkx)
      have hlv : ∀ wx, Sep w0 L wx → LnS wx xs[k].2 xs[k].1.p.ls := fun wx hx => by
        obtain ⟨bx', off', -, -, -, -, -, h9⟩ := (HV.out _ hx).at hkx
        exact h9
      obtain ⟨⟨x, v⟩, hxv⟩ : ∃ z, z = xs[k] := ⟨_, rfl⟩
      rw [← hxv] at e0 e1 e2 e3 e4 e5 e6 hln hok hlv
      dsimp only at e0 e1 e2 e3 e4 e5 e6 hln hok hlv
      obtain ⟨av, cv, rfl⟩ := hln.len
      have hap := append_ok x (.slice av x.p.ls.length cv) hs hlv HK.out hok HB.out.1 (by have := HB.out; omega) (by have := HB.out; omega)
      rw [show b + ((qs.length + 1 : Nat) : Int) = b + (k : Int) + 1 by omega] at hap
      have HAP := Lib.hid hap
      unfold enV at HAP
      have w1 : IntKind.i64.wrap (b + (k : Int)) = b + (k : Int) := IntWalk.i64_in _ (by have := HB.out; omega)
      have w2 : IntKind.i64.wrap (b + (k : Int) + 1) = b + (k : Int) + 1 := IntWalk.i64_in _ (by have := HB.out; omega)
      have HX : Hid (qs.map (·.1) ++ [x] = (xs.take (k + 1)).map (·.1) ∧ k < n) := Lib.hid ⟨by rw [hqs, List.take_succ_eq_append_getElem hkx, ← hxv]; simp, hkn⟩
      clear hs hln hlv hap hok hxv hqs hlq hk hkn hkx
      go_wp2_with fail
      refine HAP.out.mono ?_
      rintro r0 w3 ⟨u, rfl, h3⟩
      have H3 := Lib.hid h3
      clear HAP h3 e0 e1 e2 e3 e4 e5 e6
      go_wp2_with fail
      go_roundw
      case rel =>
        refine ⟨k + 1, qs ++ [(x, u)], HX.out.2, by go_num, ?_, H3.out⟩
        rw [List.map_append]; exact HX.out.1
      case measure => have := HX.out.2; simp [intOf]; omega
    · have d0 : decide (k < n) = false := decide_eq_false hkn
      have HF : Hid (qs.map (·.1) = xs.map (·.1)) := Lib.hid (by rw [hqs, List.take_of_length_le (by have := HB.out; omega)])
      have HS := Lib.hid hs
      clear hs hqs hk hkn
      go_wp2_with fail
      go_ret
      exact ⟨_, rfl, qs, HF.out, HS.out⟩
set_option maxRecDepth 100000 in
set_option maxHeartbeats 8000000 in
theorem samerow12 {w0 w : World} {L : List Thing} (a a' : Option Addr) (c c' n : Nat) (xs ys : List (EnM × Value)) (h : Sep w0 L w) (hv : ∀ wx, Sep w0 L wx → EnS wx (.slice a n c) xs) (hu : ∀ wx, Sep w0 L wx → EnS wx (.slice a' n c') ys) (hn : xs.length = n) (hl : n ≤ 1000000) (he : ys.map (·.1) = xs.map (·.1)) :
    Calls Tryd.prog 27 #[.slice a n c, .slice a' n c'] w fun e w' => e = .returned (.bool true) ∧ Sep w0 L w' := by
  have hny : ys.length = n := by have := congrArg List.length he; simpa [hn] using this
  have HV := Lib.hid hv
  have HU := Lib.hid hu
  have HE := Lib.hid (And.intro he (And.intro hn hny))
  have H := Lib.hid h
  have n0 : (0 : Int) ≤ (n : Int) := by omega
  have n1 : (n : Int) ≤ 1000000 := by omega
  clear h hv hu he hn hny hl
  go_enter Tryd.func27, Tryd.ntmps27
  go_wp2_with fail
  go_loopw [5] (fun i wr => ∃ (k : Nat), k ≤ n ∧ i = .int .i64 k ∧ Sep w0 L wr) (fun i _ => n - (intOf i).toNat)
  case atStart => exact ⟨0, Nat.zero_le _, rfl, H.out⟩
  case round =>
    obtain ⟨k, hk, rfl, hs⟩ := hrel
    clear H
    have k0 : (0 : Int) ≤ (k : Int) := by omega
    by_cases hkn : k < n
    · have d0 : decide (k < n) = true := decide_eq_true hkn
      have k1 : (k : Int) < (n : Int) := by omega
      have hkx : k < xs.length := by have := HE.out; omega
      have hky : k < ys.length := by have := HE.out; omega
      have hxy : ys[k].1 = xs[k].1 := by
        have h9 : (ys.map (·.1))[k]? = (xs.map (·.1))[k]? := by rw [HE.out.1]
        simpa [hkx, hky] using h9
      obtain ⟨bx, off, rfl, -, -, -, ⟨e0, e1, e2, e3, e4, e5, e6⟩, hlx⟩ := (HV.out _ hs).at hkx
      obtain ⟨by_, oy, rfl, -, -, -, ⟨d0_, d1, d2, d3, d4, d5, d6⟩, hly⟩ := (HU.out _ hs).at hky
      rw [hxy] at d0_ d1 d2 d3 d4 d5 hly
      generalize ys[k].2 = u at *
      obtain ⟨⟨x, v⟩, hxv⟩ : ∃ z, z = xs[k] := ⟨_, rfl⟩
      rw [← hxv] at e0 e1 e2 e3 e4 e5 e6 hlx d0_ d1 d2 d3 d4 d5 hly
      dsimp only at e0 e1 e2 e3 e4 e5 e6 hlx d0_ d1 d2 d3 d4 d5 d6 hly
      obtain ⟨vp, cp, rfl⟩ := hlx.len
      obtain ⟨vq, cq, rfl⟩ := hly.len
      have hsm := esame_any x x (.slice vp x.p.ls.length cp) (.slice vq x.p.ls.length cq) hs.drew hlx hly (lns_maxl hlx)
      rw [enSame_self] at hsm
      have HS := Lib.hid hsm
      unfold enV at HS
      have HKN := Lib.hid hkn
      clear hs hlx hly hxv hxy hkx hky hk hkn hsm
      go_wp2_with fail
      refine wp_region_G (fun w' => w'.cell? ⟨bx, off + k * 7, none⟩ = some (.int .i64 x.c) ∧ w'.cell? ⟨bx, off + k * 7 + 1, none⟩ = some (.int .i64 x.m) ∧ w'.cell? ⟨bx, off + k * 7 + 2, none⟩ = some (.int .i64 x.p.k) ∧ w'.cell? ⟨bx, off + k * 7 + 3, none⟩ = some (.string x.p.s.1) ∧ w'.cell? ⟨bx, off + k * 7 + 4, none⟩ = some (.int .i64 x.p.o) ∧ w'.cell? ⟨bx, off + k * 7 + 5, none⟩ = some (.int .i64 x.p.n) ∧ w'.cell? ⟨bx, off + k * 7 + 6, none⟩ = some (.slice vp x.p.ls.length cp) ∧ w'.cell? ⟨by_, oy + k * 7, none⟩ = some (.int .i64 x.c) ∧ w'.cell? ⟨by_, oy + k * 7 + 1, none⟩ = some (.int .i64 x.m) ∧ w'.cell? ⟨by_, oy + k * 7 + 2, none⟩ = some (.int .i64 x.p.k) ∧ w'.cell? ⟨by_, oy + k * 7 + 3, none⟩ = some (.string x.p.s.1) ∧ w'.cell? ⟨by_, oy + k * 7 + 4, none⟩ = some (.int .i64 x.p.o) ∧ w'.cell? ⟨by_, oy + k * 7 + 5, none⟩ = some (.int .i64 x.p.n) ∧ w'.cell? ⟨by_, oy + k * 7 + 6, none⟩ = some (.slice vq x.p.ls.length cq)) [8, 9] (by kernel_rfl) ⟨e0, e1, e2, e3, e4, e5, e6, d0_, d1, d2, d3, d4, d5, d6⟩ (fun hS => ?_)
      try dsimp only at hS
      refine wpAnyG_take' (i := 0) (v := ?v0_1sr) rfl (by kernel_rfl) (by kernel_rfl) (by kernel_rfl) (by kernel_rfl) (fun _ _ _ h => h) (Or.inl ⟨by rfl, ?hy0_1sr⟩) hS ?rest0_1sr
      case hy0_1sr => intro w hSw; (try dsimp only at hSw); go_simp; (try with_reducible rfl)
      case rest0_1sr =>
      try simp only [List.getElem_toArray, List.getElem_cons_succ, List.getElem_cons_zero, Act.put, List.setIfInBounds_toArray, List.set_cons_zero, List.set_cons_succ]
      refine wpAnyG_take' (i := 1) (v := ?v1_2sr) rfl (by kernel_rfl) (by kernel_rfl) (by kernel_rfl) (by kernel_rfl) (fun _ _ _ h => h) (Or.inl ⟨by rfl, ?hy1_2sr⟩) hS ?rest1_2sr
      case hy1_2sr => intro w hSw; (try dsimp only at hSw); go_simp; (try with_reducible rfl)
      case rest1_2sr =>
      try simp only [List.getElem_toArray, List.getElem_cons_succ, List.getElem_cons_zero, Act.put, List.setIfInBounds_toArray, List.set_cons_zero, List.set_cons_succ]
      refine wpAnyG_take' (i := 2) (v := ?v2_3sr) rfl (by kernel_rfl) (by kernel_rfl) (by kernel_rfl) (by kernel_rfl) (fun _ _ _ h => h) (Or.inl ⟨by rfl, ?hy2_3sr⟩) hS ?rest2_3sr
      case hy2_3sr => intro w hSw; (try dsimp only at hSw); go_simp; (try with_reducible rfl)
      case rest2_3sr =>
      try simp only [List.getElem_toArray, List.getElem_cons_succ, List.getElem_cons_zero, Act.put, List.setIfInBounds_toArray, List.set_cons_zero, List.set_cons_succ]
      refine wpAnyG_take' (i := 3) (v := ?v3_4sr) rfl (by kernel_rfl) (by kernel_rfl) (by kernel_rfl) (by kernel_rfl) (fun _ _ _ h => h) (Or.inl ⟨by rfl, ?hy3_4sr⟩) hS ?rest3_4sr
      case hy3_4sr => intro w hSw; (try dsimp only at hSw); go_simp; (try with_reducible rfl)
      case rest3_4sr =>
      try simp only [List.getElem_toArray, List.getElem_cons_succ, List.getElem_cons_zero, Act.put, List.setIfInBounds_toArray, List.set_cons_zero, List.set_cons_succ]
      refine wpAnyG_take' (i := 4) (v := ?v4_5sr) rfl (by kernel_rfl) (by kernel_rfl) (by kernel_rfl) (by kernel_rfl) (fun _ _ _ h => h) (Or.inl ⟨by rfl, ?hy4_5sr⟩) hS ?rest4_5sr
      case hy4_5sr => intro w hSw; (try dsimp only at hSw); go_simp; (try with_reducible rfl)
      case rest4_5sr =>
      try simp only [List.getElem_toArray, List.getElem_cons_succ, List.getElem_cons_zero, Act.put, List.setIfInBounds_toArray, List.set_cons_zero, List.set_cons_succ]
      refine wpAnyG_take' (i := 5) (v := ?v5_6sr) rfl (by kernel_rfl) (by kernel_rfl) (by kernel_rfl) (by kernel_rfl) (fun _ _ _ h => h) (Or.inl ⟨by rfl, ?hy5_6sr⟩) hS ?rest5_6sr
      case hy5_6sr => intro w hSw; (try dsimp only at hSw); go_simp; (try with_reducible rfl)
      case rest5_6sr =>
      try simp only [List.getElem_toArray, List.getElem_cons_succ, List.getElem_cons_zero, Act.put, List.setIfInBounds_toArray, List.set_cons_zero, List.set_cons_succ]
      refine wpAnyG_take' (i := 6) (v := ?v6_7sr) rfl (by kernel_rfl) (by kernel_rfl) (by kernel_rfl) (by kernel_rfl) (fun _ _ _ h => h) (Or.inl ⟨by rfl, ?hy6_7sr⟩) hS ?rest6_7sr
      case hy6_7sr => intro w hSw; (try dsimp only at hSw); go_simp; (try with_reducible rfl)
      case rest6_7sr =>
      try simp only [List.getElem_toArray, List.getElem_cons_succ, List.getElem_cons_zero, Act.put, List.setIfInBounds_toArray, List.set_cons_zero, List.set_cons_succ]
      refine wpAnyG_take' (i := 7) (v := ?v7_8sr) rfl (by kernel_rfl) (by kernel_rfl) (by kernel_rfl) (by kernel_rfl) (fun _ _ _ h => h) (Or.inl ⟨by rfl, ?hy7_8sr⟩) hS ?rest7_8sr
      case hy7_8sr => intro w hSw; (try dsimp only at hSw); go_simp; (try with_reducible rfl)
      case rest7_8sr =>
      try simp only [List.getElem_toArray, List.getElem_cons_succ, List.getElem_cons_zero, Act.put, List.setIfInBounds_toArray, List.set_cons_zero, List.set_cons_succ]
      refine wpAnyG_one (i := 8) (by kernel_rfl) rfl (fun K hK => ?_)
      go_simp
      refine Calls.mono HS.out ?_
      rintro r8 w8 ⟨rfl, h6⟩
      clear e0 e1 e2 e3 e4 e5 e6 d0_ d1 d2 d3 d4 d5 d6 HS
      have H6 := Lib.hid h6
      clear h6
      go_wp2_with fail
      refine hK.out _ _ (fun hno => by cases hno) ?_
      clear K hK
      try simp only [List.getElem_toArray, List.getElem_cons_succ, List.getElem_cons_zero, Act.put, List.setIfInBounds_toArray, List.set_cons_zero, List.set_cons_succ]
      refine wpAnyG_one (i := 9) (by kernel_rfl) rfl (fun K hK => ?_)
      go_simp
      refine hK.out _ _ (fun hno => by cases hno) ?_
      clear K hK
      try simp only [List.getElem_toArray, List.getElem_cons_succ, List.getElem_cons_zero, Act.put, List.setIfInBounds_toArray, List.set_cons_zero, List.set_cons_succ]
      refine wpAnyG_done (by kernel_rfl) ?_ _
      try simp only [List.getElem_toArray, List.getElem_cons_succ, List.getElem_cons_zero, Act.put, List.setIfInBounds_toArray, List.set_cons_zero, List.set_cons_succ]
      go_wp2_with fail
      go_roundw
      case rel => exact ⟨k + 1, HKN.out, by go_num, H6.out⟩
      case measure => have := HKN.out; simp [intOf]; omega
    · have d0 : decide (k < n) = false := decide_eq_false hkn
      have HF := Lib.hid hs
      clear hs hk hkn
      go_wp2_with fail
      go_ret
      exact ⟨rfl, HF.out⟩
end Go.Proofs.YtpknfeokfladkaaDoor
