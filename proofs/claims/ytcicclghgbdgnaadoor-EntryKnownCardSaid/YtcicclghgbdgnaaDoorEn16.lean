/- The document's own: Parse of an entry. -/
import Derived.Test.YtcicclghgbdgnaaDoorEn3
import Derived.Test.YtcicclghgbdgnaaDoorRefP4
import Derived.Test.YtcicclghgbdgnaaDoorBkE
namespace Go.Proofs.YtcicclghgbdgnaaDoor
open Go.RowKit
set_option linter.unusedVariables false
set_option linter.unusedSimpArgs false
theorem rrleft_sep {w0 w : World} {L : List Thing} {g : Nat} {rest : List UInt8} {e : Int} (h : Sep w0 (RrT g rest e :: L) w) :
    Calls Tryd.prog 81 #[.pointer (some ⟨g, 0, none⟩)] w fun r w' => r = .returned (.int .i64 (rest.length : Nat)) ∧ w = w' := by
  obtain ⟨F, hr, _⟩ := h.rr
  exact rrleft_any g rest e w hr
theorem big_bad {c : Int} {u : Nat} {p : OpM} (hu : U64 u) (h : 2147483647 < (u : Int)) : EnM.ok ⟨c, wrap64 (u : Int), p⟩ = false := by
  unfold U64 at hu
  have hm : ¬ (1 ≤ wrap64 (u : Int) ∧ wrap64 (u : Int) ≤ 2147483647) := by unfold wrap64; omega
  unfold EnM.ok EnM.hd
  rw [show decide (0 ≤ c ∧ c < 8 ∧ 1 ≤ wrap64 (u : Int) ∧ wrap64 (u : Int) ≤ 2147483647) = false from decide_eq_false (fun h => hm h.2.2)]
  rfl
set_option maxRecDepth 100000 in
set_option maxHeartbeats 16000000 in
theorem reparse_w {w : World} (v : Value) (l : List UInt8) (hv : Sl w v (bv l)) (hl : l.length ≤ 1000000) :
    Calls Tryd.prog 49 #[v] w (EPrs w (prsEn l)) := by
  obtain ⟨a, c, rfl⟩ := hv.len
  rw [bv_length] at hv ⊢
  have hcap := sl_cap hv rfl
  have hlt := rdNe_lt l 0
  have hsuf := rd_suf l
  have h0 := (Sep.start w).alloc (.cells #[.int .i64 0, .int .i64 0, .int .i64 0, .string ⟨#[]⟩, .int .i64 0, .int .i64 0, .slice none 0 0] 26)
  have HR := Lib.hid (rread_sep (.slice a l.length c) l _ h0 (hv.below h0.low) (by omega))
  obtain ⟨ki, hki⟩ : ∃ ki, ki = (rdNe l 0).1 := ⟨_, rfl⟩
  have k0 : (0 : Int) ≤ (ki : Int) := by omega
  have k1 : (ki : Int) ≤ 255 := by omega
  have HN : Hid (∀ wx M g, Sep w (RrT g l 0 :: M) wx → Calls Tryd.prog 77 #[.pointer (some ⟨g, 0, none⟩), .int .i64 8] wx fun r w' => r = .returned (.int .u64 ki) ∧ Sep w (RrT g (rdNe l 0).2.1 (rdNe l 0).2.2 :: M) w') := Lib.hid fun wx M g hx => by rw [hki]; exact rrnum_sep hx
  obtain ⟨F, hF⟩ : ∃ F, F = prsEn l := ⟨_, rfl⟩
  rw [← hF]
  unfold prsEn at hF
  dsimp only at hF
  rw [← hki] at hF
  generalize (rdNe l 0).2.1 = r1 at *
  generalize (rdNe l 0).2.2 = e1 at *
  have HV : Hid (∀ wx M g, Sep w (RrT g r1 e1 :: M) wx → Calls Tryd.prog 78 #[.pointer (some ⟨g, 0, none⟩)] wx fun r w' => r = .returned (.int .u64 (rdVe r1 e1).1) ∧ Sep w (RrT g (rdVe r1 e1).2.1 (rdVe r1 e1).2.2 :: M) w') := Lib.hid fun wx M g hx => rrvarint_sep hx
  have hu := rdVe_u64 r1 e1
  rw [i64w_eq] at hF
  generalize (rdVe r1 e1).1 = u at *
  generalize (rdVe r1 e1).2.1 = r2 at *
  generalize (rdVe r1 e1).2.2 = e2 at *
  have HU := Lib.hid hu
  unfold U64 at hu
  have ua : (0 : Int) ≤ (u : Int) := by omega
  have ub : (u : Int) ≤ 18446744073709551615 := by omega
  have HF := Lib.hid hF
  have HS := Lib.hid hv
  have HSUF := Lib.hid hsuf
  have HL := Lib.hid (And.intro hl hcap)
  obtain ⟨b0, hb0⟩ : ∃ z, z = w.heap.size := ⟨_, rfl⟩
  rw [← hb0] at HR
  clear hv hl hlt hki h0 hF hsuf hcap hu
  go_enter Tryd.func49, Tryd.ntmps49
  go_wp2_with fail
  rw [← hb0]
  clear hb0
  refine HR.out.mono ?_
  rintro q0 w1 ⟨g, rfl, h1⟩
  have H1 := Lib.hid h1
  clear h1 HR
  go_wp2_with fail
  refine (HN.out _ _ _ H1.out).mono ?_
  rintro q0 w2 ⟨rfl, h2⟩
  have H2 := Lib.hid h2
  clear h2 HN H1
  go_wp2_with fail
  refine (HV.out _ _ _ H2.out).mono ?_
  rintro q0 w3 ⟨rfl, h3⟩
  have HER := Lib.hid (rrerr_sep h3)
  have HLF := Lib.hid (rrleft_sep h3)
  have H3 := Lib.hid h3
  clear h3 HV H2
  go_wp2_with fail
  refine HER.out.mono ?_
  rintro q0 w7 ⟨rfl, rfl⟩
  by_cases hee : e2 = 0
  · have hb : (e2 != 0) = false := by simp [hee]
    obtain ⟨pre, hpre⟩ := HSUF.out hee
    obtain ⟨k, hkn⟩ : ∃ k : Nat, k = l.length - r2.length := ⟨_, rfl⟩
    have hlen : l.length = pre.length + r2.length := by rw [hpre, List.length_append]
    have hk1 : k ≤ l.length := by omega
    have hdr : l.drop k = r2 := by rw [show k = pre.length by omega, hpre, List.drop_left]
    have hsub : (l.length : Int) - (r2.length : Int) = (k : Int) := by omega
    have hrl : l.length - k = r2.length := by omega
    have hsl := sl_part HS.out rfl k l.length hk1 (Nat.le_refl _)
    rw [List.take_length, hdr] at hsl
    obtain ⟨q0, hq0⟩ : ∃ q, (if c = k then a else Option.map (fun q => q.add k) a) = q := ⟨_, rfl⟩
    rw [hq0, hrl] at hsl
    have HP := Lib.hid (rparse_any (.slice q0 r2.length (c - k)) r2 H3.out (hsl.below H3.out.low) (by have := HL.out.1; omega))
    have n1 : (l.length : Int) ≤ 1000000 := by have := HL.out.1; omega
    have n2 : l.length ≤ c := HL.out.2
    have n3 : (k : Int) ≤ (l.length : Int) := by omega
    have n4 : (r2.length : Int) ≤ (l.length : Int) := by omega
    have n5 : (0 : Int) ≤ (k : Int) := by omega
    clear hpre hlen hkn hdr hsl HSUF HS HER
    generalize l.length = n at *
    generalize hr2 : r2.length = m at *
    have HF2 : Hid (F = if (prsOp r2).2 ≠ 0 then (EnM.zero, (prsOp r2).2) else if EnM.ok ⟨(ki : Nat), wrap64 u, (prsOp r2).1⟩ then (⟨(ki : Nat), wrap64 u, (prsOp r2).1⟩, 0) else (EnM.zero, 4)) := Lib.hid (by rw [HF.out, if_neg (by simp [hee])])
    clear HF hr2 hee
    go_wp2_with fail
    refine HLF.out.mono ?_
    rintro q0' w8 ⟨rfl, rfl⟩
    clear HLF
    go_wp2_with fail
    refine HP.out.mono ?_
    rintro q1' w9 ⟨p, err, u', rfl, hp, h5⟩
    obtain ⟨a5, kp, rfl, -⟩ := h5.rnForm
    have hF3 : F = if err ≠ 0 then (EnM.zero, err) else if EnM.ok ⟨(ki : Nat), wrap64 u, p⟩ then (⟨(ki : Nat), wrap64 u, p⟩, 0) else (EnM.zero, 4) := by rw [HF2.out, ← hp]
    have h6 := h5.alloc (.cells #[.int .i64 p.k, .string p.s.1, .int .i64 p.o, .int .i64 p.n, .slice a5 p.ls.length kp] 24)
    clear hp HP HF2 n1 n2 n3 n4 n5 hrl hq0 H3
    obtain ⟨j0, j1, j2, j3, j4⟩ := cells5 h6
    by_cases hee : err = 0
    · have hb3 : (err != 0) = false := by simp [hee]
      rw [if_neg (by simp [hee])] at hF3
      clear hee h5
      by_cases hbig : 2147483647 < (u : Int)
      · rw [big_bad HU.out hbig, if_neg (by simp)] at hF3
        have HFF := Lib.hid hF3
        clear hF3
        obtain ⟨d0, d1, d2, d3, d4, d5, d6⟩ := cells7 h6.sw4
        obtain ⟨f0, f1, f2, f3, f4, f5, f6⟩ := frz7 h6.sw4
        have h9 := store7 (u0 := .int .i64 0) (u1 := .int .i64 0) (u2 := .int .i64 0) (u3 := .string ⟨#[]⟩) (u4 := .int .i64 0) (u5 := .int .i64 0) (u6 := .slice none 0 0) h6.sw4
        obtain ⟨y0, y1, y2, y3, y4, y5, y6⟩ := cells7 h9
        have H9 := Lib.hid ((h9.pick [] rfl : Sep w [] _).rnNil 2 36)
        clear h6 h9
        go_wp2_with fail
        exact bodyPost_ret (v := .tuple #[.agg #[.int .i64 0, .int .i64 0, .int .i64 0, .string ⟨#[]⟩, .int .i64 0, .int .i64 0, .slice none 0 0], .int .i64 4]) (by simp [results, Tryd.results49, go_sem, y0, y1, y2, y3, y4, y5, y6]) rfl ⟨EnM.zero, 4, _, rfl, HFF.out.symm, H9.out⟩
      · have ub2 : (u : Int) ≤ 2147483647 := by omega
        rw [show wrap64 (u : Int) = (u : Int) by unfold wrap64; omega] at hF3
        clear hbig ub
        have h7 := h6.alloc (.cells #[.int .i64 ki, .int .i64 u, .int .i64 p.k, .string p.s.1, .int .i64 p.o, .int .i64 p.n, .slice a5 p.ls.length kp] 26)
        rw [show (w9.alloc (.cells #[.int .i64 p.k, .string p.s.1, .int .i64 p.o, .int .i64 p.n, .slice a5 p.ls.length kp] 24)).heap.size = w9.heap.size + 1 by simp] at h7
        obtain ⟨c0, c1, c2, c3, c4, c5, c6⟩ := cells7 h7
        have hc := recheck_any ⟨(ki : Nat), u, p⟩ (.slice a5 p.ls.length kp) h7 (Sep.lnS h7.sw3) (lns_maxl (Sep.lnS h7.sw3))
        unfold enV at hc
        dsimp only at hc
        clear h6 h7
        cases hok : EnM.ok ⟨(ki : Nat), (u : Int), p⟩ with
        | true =>
          rw [hok] at hc hF3
          rw [if_pos rfl] at hF3
          have HFF := Lib.hid hF3
          have HC := Lib.hid hc
          unfold eB at HC
          clear hok hF3 hc
          go_wp2_with fail
          refine HC.out.mono ?_
          rintro q2' w10 ⟨rfl, h8⟩
          clear c0 c1 c2 c3 c4 c5 c6 j0 j1 j2 j3 j4 HC
          obtain ⟨c0, c1, c2, c3, c4, c5, c6⟩ := cells7 h8
          obtain ⟨d0, d1, d2, d3, d4, d5, d6⟩ := cells7 h8.sw5
          obtain ⟨f0, f1, f2, f3, f4, f5, f6⟩ := frz7 h8.sw5
          have h9 := store7 (u0 := .int .i64 ki) (u1 := .int .i64 u) (u2 := .int .i64 p.k) (u3 := .string p.s.1) (u4 := .int .i64 p.o) (u5 := .int .i64 p.n) (u6 := .slice a5 p.ls.length kp) h8.sw5
          obtain ⟨y0, y1, y2, y3, y4, y5, y6⟩ := cells7 h9
          have H9 := Lib.hid (h9.pick [3] rfl : Sep w [LnR (.slice a5 p.ls.length kp) p.ls] _)
          clear h8 h9
          go_wp2_with fail
          exact bodyPost_ret (v := .tuple #[.agg #[.int .i64 ki, .int .i64 u, .int .i64 p.k, .string p.s.1, .int .i64 p.o, .int .i64 p.n, .slice a5 p.ls.length kp], .int .i64 0]) (by simp [results, Tryd.results49, go_sem, y0, y1, y2, y3, y4, y5, y6]) rfl ⟨⟨(ki : Nat), u, p⟩, 0, _, rfl, HFF.out.symm, H9.out⟩
        | false =>
          rw [hok] at hc hF3
          rw [if_neg (by simp)] at hF3
          have HFF := Lib.hid hF3
          have HC := Lib.hid hc
          unfold eB at HC
          clear hok hF3 hc
          go_wp2_with fail
          refine HC.out.mono ?_
          rintro q2' w10 ⟨rfl, h8⟩
          clear c0 c1 c2 c3 c4 c5 c6 j0 j1 j2 j3 j4 HC
          obtain ⟨d0, d1, d2, d3, d4, d5, d6⟩ := cells7 h8.sw5
          obtain ⟨f0, f1, f2, f3, f4, f5, f6⟩ := frz7 h8.sw5
          have h9 := store7 (u0 := .int .i64 0) (u1 := .int .i64 0) (u2 := .int .i64 0) (u3 := .string ⟨#[]⟩) (u4 := .int .i64 0) (u5 := .int .i64 0) (u6 := .slice none 0 0) h8.sw5
          obtain ⟨y0, y1, y2, y3, y4, y5, y6⟩ := cells7 h9
          have H9 := Lib.hid ((h9.pick [] rfl : Sep w [] _).rnNil 2 36)
          clear h8 h9
          go_wp2_with fail
          exact bodyPost_ret (v := .tuple #[.agg #[.int .i64 0, .int .i64 0, .int .i64 0, .string ⟨#[]⟩, .int .i64 0, .int .i64 0, .slice none 0 0], .int .i64 4]) (by simp [results, Tryd.results49, go_sem, y0, y1, y2, y3, y4, y5, y6]) rfl ⟨EnM.zero, 4, _, rfl, HFF.out.symm, H9.out⟩
    · have hb3 : (err != 0) = true := by rw [bne_iff_ne]; exact hee
      rw [if_pos hee] at hF3
      have HFF := Lib.hid hF3
      clear hee hF3 h5
      obtain ⟨d0, d1, d2, d3, d4, d5, d6⟩ := cells7 h6.sw4
      obtain ⟨f0, f1, f2, f3, f4, f5, f6⟩ := frz7 h6.sw4
      have h9 := store7 (u0 := .int .i64 0) (u1 := .int .i64 0) (u2 := .int .i64 0) (u3 := .string ⟨#[]⟩) (u4 := .int .i64 0) (u5 := .int .i64 0) (u6 := .slice none 0 0) h6.sw4
      obtain ⟨y0, y1, y2, y3, y4, y5, y6⟩ := cells7 h9
      have H9 := Lib.hid ((h9.pick [] rfl : Sep w [] _).rnNil 2 36)
      clear h6 h9
      go_wp2_with fail
      exact bodyPost_ret (v := .tuple #[.agg #[.int .i64 0, .int .i64 0, .int .i64 0, .string ⟨#[]⟩, .int .i64 0, .int .i64 0, .slice none 0 0], .int .i64 err]) (by simp [results, Tryd.results49, go_sem, y0, y1, y2, y3, y4, y5, y6]) rfl ⟨EnM.zero, err, _, rfl, HFF.out.symm, H9.out⟩
  · have hb : (e2 != 0) = true := by rw [bne_iff_ne]; exact hee
    have hFF : F = (EnM.zero, e2) := by rw [HF.out, if_pos hee]
    have HFF := Lib.hid hFF
    have h3 := H3.out
    obtain ⟨d0, d1, d2, d3, d4, d5, d6⟩ := cells7 h3.sw2
    obtain ⟨f0, f1, f2, f3, f4, f5, f6⟩ := frz7 h3.sw2
    have h9 := store7 (u0 := .int .i64 0) (u1 := .int .i64 0) (u2 := .int .i64 0) (u3 := .string ⟨#[]⟩) (u4 := .int .i64 0) (u5 := .int .i64 0) (u6 := .slice none 0 0) h3.sw2
    obtain ⟨y0, y1, y2, y3, y4, y5, y6⟩ := cells7 h9
    have H9 := Lib.hid ((h9.pick [] rfl : Sep w [] _).rnNil 2 36)
    clear h9 h3 H3 hFF hee HF HSUF HLF HL
    go_wp2_with (refine HER.out.mono ?_; rintro q0 w8 ⟨rfl, rfl⟩)
    exact bodyPost_ret (v := .tuple #[.agg #[.int .i64 0, .int .i64 0, .int .i64 0, .string ⟨#[]⟩, .int .i64 0, .int .i64 0, .slice none 0 0], .int .i64 e2]) (by simp [results, Tryd.results49, go_sem, y0, y1, y2, y3, y4, y5, y6]) rfl ⟨EnM.zero, e2, _, rfl, HFF.out.symm, H9.out⟩
theorem reparse_any {w0 w : World} {L : List Thing} (v : Value) (l : List UInt8) (h : Sep w0 L w) (hv : Sl w v (bv l)) (hl : l.length ≤ 1000000) :
    Calls Tryd.prog 49 #[v] w fun r w' => ∃ (x : EnM) (err : Int) (u : Value), r = .returned (.tuple #[enV x u, .int .i64 err]) ∧ (x, err) = prsEn l ∧ Sep w0 (LnR u x.p.ls :: L) w' := by
  refine (reparse_w v l hv hl).mono ?_
  rintro e w' ⟨x, err, u, rfl, h1, h2⟩
  exact ⟨x, err, u, rfl, h1, h.onto1 h2⟩
end Go.Proofs.YtcicclghgbdgnaaDoor
