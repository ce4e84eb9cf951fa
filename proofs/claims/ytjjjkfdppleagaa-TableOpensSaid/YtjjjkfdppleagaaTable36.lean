/- The document's Open of a table, as the program text runs it. -/
import Derived.Test.YtjjjkfdppleagaaRefPP
import Derived.Test.YtjjjkfdppleagaaTable29
namespace Go.Proofs.Ytjjjkfdppleagaa
open Go Go.RowKit
set_option linter.unusedVariables false
set_option linter.unusedSimpArgs false
theorem rrleft_sep {w0 w : World} {L : List Thing} {g : Nat} {rest : List UInt8} {e : Int} (h : Sep w0 (RrT g rest e :: L) w) :
    Calls Try.prog 60 #[.pointer (some ⟨g, 0, none⟩)] w fun r w' => r = .returned (.int .i64 (rest.length : Nat)) ∧ w = w' := by
  obtain ⟨F, hr, _⟩ := h.rr
  exact rrleft_any g rest e w hr
theorem ss_c {w0 w : World} {b n c : Nat} {F : List SW} {L : List Thing} (h : Sep w0 (SsT (.slice (some ⟨b, 0, none⟩) n c) F :: L) w) (p : Nat) (hp : p < F.length) : w.cell? ⟨b, p * 6, none⟩ = some (.int .i64 (F[p]).c) := by
  obtain ⟨-, b', he, -, h1, -⟩ := h.ssAt p hp
  simp only [Option.some.injEq, Addr.mk.injEq, and_true] at he
  subst he
  exact h1
theorem rdNe_bad {l : List UInt8} (h : (rdNe l 0).2.2 ≠ 0) : (rdNe l 0).1 = 0 := by
  unfold rdNe rdN at *
  rw [if_pos rfl] at *
  by_cases h1 : l.length < 1
  · rw [if_pos h1]
  · rw [if_neg h1] at h; exact absurd rfl h
theorem step_buildS {ops : Array Oper} {o : Oper} {a : Act} {w : World} {K : Act → World → Prop} {Q : Exit → Act → World → Prop} {E : Prop}
    (hg : o.guard = none) (x : Operand) (ho : o.op = .buildSlice 45 1 #[(0, x)]) {v0 v1 v2 v3 v4 v5 : Value} (hx : a.eval x = .agg #[v0, v1, v2, v3, v4, v5]) (hK : K (a.put o.dst (.slice (some ⟨w.heap.size, 0, none⟩) 1 1)) (w.alloc (.cells #[v0, v1, v2, v3, v4, v5] 31))) :
    if Region.wanted o (yielded ops a.tmps) = true then Oper.wp Try.prog o a w K Q else E := by
  have hw : Region.wanted o (yielded ops a.tmps) = true := by simp [Region.wanted, hg]
  rw [if_pos hw]
  unfold Oper.wp
  simp [execOp, ho, hx, buildS, Result.andThen]
  exact hK
theorem docLoop_step {R : Option (List SW) × Int} {j : Nat} {F : List SW} {l : List UInt8} (h : R = docLoop (j + 1) F l) :
    ((docSeat l).2.2.2 ≠ 0 → R = (none, (docSeat l).2.2.2)) ∧ ((docSeat l).2.2.2 = 0 → ((docSeat l).2.1 = false ∨ ∃ s, F.getLast? = some s ∧ (docSeat l).1.c ≤ s.c) → R = (none, 4)) ∧
    ((docSeat l).2.2.2 = 0 → ¬ ((docSeat l).2.1 = false ∨ ∃ s, F.getLast? = some s ∧ (docSeat l).1.c ≤ s.c) → R = docLoop j (F ++ [(docSeat l).1]) (docSeat l).2.2.1) := by
  rw [docLoop] at h
  refine ⟨fun h1 => by rw [h, if_pos h1], fun h1 h2 => by rw [h, if_neg (by simpa using h1), if_pos h2], fun h1 h2 => by rw [h, if_neg (by simpa using h1), if_neg h2]⟩
def DOpR (w0 : World) (L : List Thing) (b : List UInt8) (e : Ending) (w' : World) : Prop :=
  (∃ F g, docO b = (some F, 0) ∧ e = .returned (.tuple #[.pointer (some ⟨g, 0, none⟩), .int .i64 0]) ∧ Sep w0 (DocT g F :: L) w') ∨ (∃ er, docO b = (none, er) ∧ er ≠ 0 ∧ e = .returned (.tuple #[.pointer none, .int .i64 er]) ∧ Sep w0 L w')
set_option maxRecDepth 100000 in
set_option maxHeartbeats 0 in
theorem dopen_any {w0 w : World} {L : List Thing} (v : Value) (b : List UInt8) (h : Sep w0 L w) (hv : Sl w v (bv b)) (hl : b.length ≤ 1000000) :
    Calls Try.prog 30 #[v] w (DOpR w0 L b) := by
  have HRD := Lib.hid (rread_sep v b w h hv (by omega))
  have hlt := rdNe_lt b 0
  have HN : Hid (∀ wx M g, Sep w0 (RrT g b 0 :: M) wx → Calls Try.prog 54 #[.pointer (some ⟨g, 0, none⟩), .int .i64 8] wx fun r w' => r = .returned (.int .u64 (rdNe b 0).1) ∧ Sep w0 (RrT g (rdNe b 0).2.1 (rdNe b 0).2.2 :: M) w') := Lib.hid fun wx M g hx => rrnum_sep hx
  have l1 := rdNe_len b 0
  have hbz := @rdNe_bad b
  unfold DOpR
  obtain ⟨R, hR⟩ : ∃ R, R = docO b := ⟨_, rfl⟩
  rw [← hR]
  unfold docO at hR
  obtain ⟨n, hn⟩ : ∃ n, n = (rdNe b 0).1 := ⟨_, rfl⟩
  rw [← hn] at hR HN hlt hbz
  generalize (rdNe b 0).2.1 = r1 at *
  generalize (rdNe b 0).2.2 = e1 at *
  have HL := Lib.hid (show r1.length ≤ 1000000 by omega)
  have n0 : (0 : Int) ≤ (n : Int) := by omega
  have n1 : (n : Int) ≤ 255 := by omega
  obtain ⟨bd, hbd⟩ : ∃ z, z = decide ((6 : Int) < (n : Int)) := ⟨_, rfl⟩
  have HD : Hid ((e1 ≠ 0 ∧ n = 0 ∧ bd = false ∧ R = (none, e1)) ∨ (e1 = 0 ∧ bd = true ∧ R = (none, 4)) ∨ (e1 = 0 ∧ bd = false ∧ n ≤ 6 ∧ R = docLoop n [] r1)) := Lib.hid (by
    by_cases he : e1 = 0
    · by_cases h6 : 6 < n
      · exact .inr (.inl ⟨he, by rw [hbd]; exact decide_eq_true (by omega), by rw [hR, if_neg (by simp [he]), if_pos h6]⟩)
      · exact .inr (.inr ⟨he, by rw [hbd]; exact decide_eq_false (by omega), by omega, by rw [hR, if_neg (by simp [he]), if_neg h6]⟩)
    · have := hbz he
      exact .inl ⟨he, this, by rw [hbd]; exact decide_eq_false (by omega), by rw [hR, if_pos he]⟩)
  have hbd' := hbd.symm
  clear h hv hl hlt hR hn l1 hbz hbd
  go_enter Try.func30, Try.ntmps30
  (try dsimp only); repeat' (first | go_values | go_skip | go_guarded | go_step | go_upon | go_back)
  refine HRD.out.mono ?_
  rintro q0 w1 ⟨g, rfl, h1⟩
  have HNW := Lib.hid (dnew_any h1)
  clear h1 HRD
  (try dsimp only); repeat' (first | go_values | go_skip | go_guarded | go_step | go_upon | go_back)
  refine HNW.out.mono ?_
  rintro q0 w2 ⟨t, rfl, h2⟩
  have H2 := Lib.hid h2.sw2
  clear h2 HNW
  (try dsimp only); repeat' (first | go_values | go_skip | go_guarded | go_step | go_upon | go_back)
  refine (HN.out _ _ _ H2.out).mono ?_
  rintro q0 w3 ⟨rfl, h3⟩
  have H3 := Lib.hid h3
  clear h3 H2 HN
  (try dsimp only); repeat' (first | go_values | go_skip | go_guarded | go_step | go_upon | go_back)
  go_loopw [7, 8] (fun a c wr => ∃ (k : Nat) (bd : Bool) (F : List SW) (l : List UInt8) (er : Int), a = .bool bd ∧ c = .int .i64 k ∧ k ≤ n ∧ F.length = k ∧ l.length ≤ 1000000 ∧ ((er ≠ 0 ∧ n = 0 ∧ bd = false ∧ R = (none, er)) ∨ (er = 0 ∧ bd = true ∧ R = (none, 4)) ∨ (er = 0 ∧ bd = false ∧ n ≤ 6 ∧ R = docLoop (n - k) F l)) ∧ Sep w0 (RrT g l er :: DocT t F :: L) wr) (fun _ c _ => 256 - (intOf c).toNat)
  case atStart => exact ⟨0, bd, [], r1, e1, rfl, rfl, Nat.zero_le _, rfl, HL.out, HD.out, H3.out⟩
  case round =>
    obtain ⟨k, bd, F, l, er, rfl, rfl, hk, hF, hl, hD, hs⟩ := hrel
    clear H3 HD HL hbd'
    have k0 : (0 : Int) ≤ (k : Int) := by omega
    have k6 : (k : Int) ≤ 255 := by omega
    rcases hD with ⟨he, hn, rfl, hR⟩ | ⟨rfl, rfl, hR⟩ | ⟨rfl, rfl, hn6, hR⟩
    · have dk : decide ((k : Int) < (n : Int)) = false := decide_eq_false (by omega)
      have dk2 : decide (k < n) = false := decide_eq_false (by omega)
      have d1 : (er != 0) = true := by rw [bne_iff_ne]; exact he
      have HE := Lib.hid (rrerr_sep hs)
      have HRR := Lib.hid (And.intro hR he)
      have HS := Lib.hid hs.drop.drop
      clear hs hR he hn hk hl hF
      (try dsimp only); repeat' (first | go_values | go_skip | go_guarded | go_step | go_upon | go_back)
      refine HE.out.mono ?_
      rintro q8 w8 ⟨rfl, rfl⟩
      clear HE
      (try dsimp only); repeat' (first | go_values | go_skip | go_guarded | go_step | go_upon | go_back)
      exact bodyPost_ret (v := .tuple #[.pointer none, .int .i64 er]) (by simp [results, Try.results30, go_sem]) rfl (.inr ⟨er, HRR.out.1, HRR.out.2, rfl, HS.out⟩)
    · have HE := Lib.hid (rrerr_sep hs)
      have HRR := Lib.hid hR
      have HS := Lib.hid hs.drop.drop
      clear hs hR hl hF
      by_cases hkn : k < n
      · have dk : decide ((k : Int) < (n : Int)) = true := decide_eq_true (by omega)
        have dk2 : decide (k < n) = true := decide_eq_true (by omega)
        clear hkn hk
        (try dsimp only); repeat' (first | go_values | go_skip | go_guarded | go_step | go_upon | go_back)
        refine HE.out.mono ?_
        rintro q8 w8 ⟨rfl, rfl⟩
        clear HE
        (try dsimp only); repeat' (first | go_values | go_skip | go_guarded | go_step | go_upon | go_back)
        exact bodyPost_ret (v := .tuple #[.pointer none, .int .i64 4]) (by simp [results, Try.results30, go_sem]) rfl (.inr ⟨4, HRR.out, by decide, rfl, HS.out⟩)
      · have dk : decide ((k : Int) < (n : Int)) = false := decide_eq_false (by omega)
        have dk2 : decide (k < n) = false := decide_eq_false (by omega)
        clear hkn hk
        (try dsimp only); repeat' (first | go_values | go_skip | go_guarded | go_step | go_upon | go_back)
        refine HE.out.mono ?_
        rintro q8 w8 ⟨rfl, rfl⟩
        clear HE
        (try dsimp only); repeat' (first | go_values | go_skip | go_guarded | go_step | go_upon | go_back)
        exact bodyPost_ret (v := .tuple #[.pointer none, .int .i64 4]) (by simp [results, Try.results30, go_sem]) rfl (.inr ⟨4, HRR.out, by decide, rfl, HS.out⟩)
    · by_cases hkn : k < n
      · have dk : decide ((k : Int) < (n : Int)) = true := decide_eq_true (by omega)
        have dk2 : decide (k < n) = true := decide_eq_true (by omega)
        obtain ⟨j, hj⟩ : ∃ j, n - k = j + 1 := ⟨n - k - 1, by omega⟩
        rw [hj] at hR
        replace hR := docLoop_step hR
        unfold docSeat at hR
        dsimp only at hR
        have HE := Lib.hid (rrerr_sep hs)
        obtain ⟨a, c, hs1⟩ := hs.sw2.docOpen
        rw [hF] at hs1
        have hs2 : Sep w0 (RrT g l 0 :: Cl t #[.slice a k c] 49 :: SsT (.slice a k c) F :: L) wr := (hs1.pickL (M := [_, _, _]) [2, 0, 1] rfl)
        have hlt := rdNe_lt l 0
        obtain ⟨ki, hki⟩ : ∃ ki, ki = (rdNe l 0).1 := ⟨_, rfl⟩
        have ki0 : (0 : Int) ≤ (ki : Int) := by omega
        have ki1 : (ki : Int) ≤ 255 := by omega
        have hn := rrnum_sep hs2
        have l1 := rdNe_len l 0
        rw [← hki] at hn hR
        generalize (rdNe l 0).2.1 = r1 at *
        generalize (rdNe l 0).2.2 = e1 at *
        have HN := Lib.hid hn
        have hb1 := rdVe_u64T r1 e1
        have l2 := rdVe_len r1 e1
        have HV1 : Hid (∀ wx M, Sep w0 (RrT g r1 e1 :: M) wx → Calls Try.prog 57 #[.pointer (some ⟨g, 0, none⟩)] wx fun r w' => r = .returned (.int .u64 (rdVe r1 e1).1) ∧ Sep w0 (RrT g (rdVe r1 e1).2.1 (rdVe r1 e1).2.2 :: M) w') := Lib.hid fun wx M hx => rrvarint_sep hx
        have HS1 := Lib.hid (fun wx => small10_any (rdVe r1 e1).1 wx hb1)
        generalize smlT (rdVe r1 e1).1 = ra at *
        generalize (rdVe r1 e1).1 = u at *
        generalize (rdVe r1 e1).2.1 = r2 at *
        generalize (rdVe r1 e1).2.2 = e2 at *
        have hb2' := rdVe_u64T r2 e2
        have l3 := rdVe_len r2 e2
        have HV2 : Hid (∀ wx M, Sep w0 (RrT g r2 e2 :: M) wx → Calls Try.prog 57 #[.pointer (some ⟨g, 0, none⟩)] wx fun r w' => r = .returned (.int .u64 (rdVe r2 e2).1) ∧ Sep w0 (RrT g (rdVe r2 e2).2.1 (rdVe r2 e2).2.2 :: M) w') := Lib.hid fun wx M hx => rrvarint_sep hx
        have HS2 := Lib.hid (fun wx => small10_any (rdVe r2 e2).1 wx hb2')
        generalize smlT (rdVe r2 e2).1 = rb at *
        generalize (rdVe r2 e2).1 = u' at *
        generalize (rdVe r2 e2).2.1 = r3 at *
        generalize (rdVe r2 e2).2.2 = e3 at *
        have l4 := rdTe_len r3 e3
        have HT : Hid (∀ wx M, Sep w0 (RrT g r3 e3 :: M) wx → Calls Try.prog 59 #[.pointer (some ⟨g, 0, none⟩)] wx fun r w' => ∃ v', r = .returned v' ∧ Sep w0 (By v' (rdTe r3 e3).1 :: RrT g (rdTe r3 e3).2.1 (rdTe r3 e3).2.2 :: M) w') := Lib.hid fun wx M hx => rrtext_sep hx (by omega)
        generalize (rdTe r3 e3).1 = tx at *
        generalize (rdTe r3 e3).2.1 = r4 at *
        generalize (rdTe r3 e3).2.2 = e4 at *
        have HP0 : Hid (∀ wx M v, Sep w0 M wx → Sl wx v (bv tx) → Calls Try.prog 58 #[v] wx fun r w' => ∃ (p : Int × Int × Int) (err : Int), r = .returned (.tuple #[.agg #[.int .i64 p.1, .int .i64 p.2.1, .int .i64 p.2.2], .int .i64 err]) ∧ (p, err) = prsRes tx ∧ Sep w0 M w') := Lib.hid fun wx M v hx hv => rparseRes_any v tx hx hv (by omega)
        have HR0 := Lib.hid hR
        unfold U64 at hb1 hb2'
        have a0 : (0 : Int) ≤ (u : Int) := by omega
        have a1 : (u : Int) ≤ 18446744073709551615 := by omega
        have a2 : (0 : Int) ≤ (u' : Int) := by omega
        have a3 : (u' : Int) ≤ 18446744073709551615 := by omega
        have HQ : Hid (k < n ∧ F.length = k ∧ r4.length ≤ 1000000 ∧ n ≤ 6 ∧ n - k = j + 1) := Lib.hid ⟨hkn, hF, by omega, hn6, hj⟩
        have k6 : (k : Int) ≤ 6 := by omega
        clear hs hs1 hs2 hlt hki hR hb1 hb2' l1 l2 l3 l4 hn hl hk hkn hF hn6 hj
        (try dsimp only); repeat' (first | go_values | go_skip | go_guarded | go_step | go_upon | go_back)
        refine HE.out.mono ?_
        rintro q1 w1 ⟨rfl, rfl⟩
        clear HE
        (try dsimp only); repeat' (first | go_values | go_skip | go_guarded | go_step | go_upon | go_back)
        refine HN.out.mono ?_
        rintro q1 w1 ⟨rfl, h1⟩
        have H1 := Lib.hid h1
        clear h1 HN
        (try dsimp only); repeat' (first | go_values | go_skip | go_guarded | go_step | go_upon | go_back)
        refine (HV1.out _ _ H1.out).mono ?_
        rintro q1 w2 ⟨rfl, h2⟩
        have HQ1 := Lib.hid (HS1.out w2)
        have H2 := Lib.hid h2
        clear h2 HV1 HS1 H1
        (try dsimp only); repeat' (first | go_values | go_skip | go_guarded | go_step | go_upon | go_back)
        refine HQ1.out.mono ?_
        rintro q1 w2' ⟨rfl, rfl⟩
        clear HQ1
        (try dsimp only); repeat' (first | go_values | go_skip | go_guarded | go_step | go_upon | go_back)
        refine (HV2.out _ _ H2.out).mono ?_
        rintro q1 w3 ⟨rfl, h3⟩
        have HQ1 := Lib.hid (HS2.out w3)
        have H3 := Lib.hid h3
        clear h3 HV2 HS2 H2
        (try dsimp only); repeat' (first | go_values | go_skip | go_guarded | go_step | go_upon | go_back)
        refine HQ1.out.mono ?_
        rintro q1 w3' ⟨rfl, rfl⟩
        clear HQ1
        have h4 := H3.out.alloc (.cells #[.int .i64 ki, .int .i64 ra, .int .i64 rb, .int .i64 0, .int .i64 0, .int .i64 0] 31)
        obtain ⟨b9, hb9⟩ : ∃ z, z = w3.heap.size := ⟨_, rfl⟩
        obtain ⟨w4, hw4⟩ : ∃ z, z = w3.alloc (.cells #[.int .i64 ki, .int .i64 ra, .int .i64 rb, .int .i64 0, .int .i64 0, .int .i64 0] 31) := ⟨_, rfl⟩
        rw [← hb9, ← hw4] at h4
        have H4 := Lib.hid h4.sw2
        clear h4 H3
        (try dsimp only); repeat' (first | go_values | go_skip | go_guarded | go_step | go_upon | go_back)
        rw [← hw4, ← hb9]
        clear hw4 hb9 a0 a1 a2 a3
        refine (HT.out _ _ H4.out).mono ?_
        rintro q1 w5 ⟨v, rfl, h5⟩
        obtain ⟨ta, tc, rfl⟩ := h5.sl.len
        have H5 := Lib.hid h5
        clear HT H4 h5
        (try dsimp only); repeat' (first | go_values | go_skip | go_guarded | go_step | go_upon | go_back)
        refine (HP0.out _ _ _ H5.out H5.out.sl).mono ?_
        rintro q1 w7 ⟨⟨p0, p1, p2⟩, pe, rfl, hp, h7⟩
        dsimp only
        have hR := HR0.out
        rw [← hp] at hR
        dsimp only at hR
        have HR := Lib.hid hR
        have h8 := h7.alloc (.cells #[.int .i64 p0, .int .i64 p1, .int .i64 p2] 29)
        have h8q : Sep w0 (Cl w7.heap.size #[.int .i64 p0, .int .i64 p1, .int .i64 p2] 29 :: By (.slice ta (bv tx).length tc) tx :: RrT g r4 e4 :: Cl b9 #[.int .i64 ki, .int .i64 ra, .int .i64 rb, .int .i64 0, .int .i64 0, .int .i64 0] 31 :: Cl t #[.slice a k c] 49 :: SsT (.slice a k c) F :: L) _ := h8
        have HE := Lib.hid (rrerr_sep h8q.sw3)
        by_cases he4 : e4 = 0
        · subst he4
          obtain ⟨y0, y1, y2⟩ := cells3 h8q
          obtain ⟨-, -, -, f3, f4, f5⟩ := frz6 h8q.sw4
          obtain ⟨-, -, -, x3, x4, x5⟩ := cells6z h8q.sw4
          have h9 := store6b (u3 := .int .i64 p0) (u4 := .int .i64 p1) (u5 := .int .i64 p2) h8q.sw4
          have h9q : Sep w0 (Cl b9 #[.int .i64 ki, .int .i64 ra, .int .i64 rb, .int .i64 p0, .int .i64 p1, .int .i64 p2] 31 :: Cl t #[.slice a k c] 49 :: SsT (.slice a k c) F :: RrT g r4 0 :: L) _ := (h9.pickL (M := [_, _, _, _, _, _]) [0, 4, 5, 3] rfl)
          have H9q := Lib.hid h9q
          clear h7 h8 h8q h9 h9q hp hR HR0 HP0 H5
          (try dsimp only); repeat' (first | go_values | go_skip | go_guarded | go_step | go_upon | go_back)
          refine HE.out.mono ?_
          rintro q1 w8 ⟨rfl, rfl⟩
          clear HE
          (try dsimp only); repeat' (first | go_values | go_skip | go_guarded | go_step | go_upon | go_back)
          have H9 := H9q
          clear H9q
          clear y0 y1 y2 f3 f4 f5 x3 x4 x5
          obtain ⟨w9, hw9⟩ : ∃ z, z = (((w7.alloc (.cells #[.int .i64 p0, .int .i64 p1, .int .i64 p2] 29)).setCell ⟨b9, 3, none⟩ (.int .i64 p0)).setCell ⟨b9, 4, none⟩ (.int .i64 p1)).setCell ⟨b9, 5, none⟩ (.int .i64 p2) := ⟨_, rfl⟩
          rw [← hw9] at H9 ⊢
          clear hw9
          by_cases her : pe = 0
          · subst her
            cases hok : clientOk ki ra rb p0 p1 p2 with
            | false =>
              as_aux_lemma =>
                have HMA := Lib.hid (may_any ki ra rb p0 p1 p2 H9.out.drew)
                rw [hok] at HMA
                obtain ⟨x0, x1, x2, x3, x4, x5⟩ := cells6z H9.out
                have hRR : R = (none, 4) := by exact HR.out.2.1 rfl (.inl (by simp [hok]))
                have HRR := Lib.hid hRR
                clear hRR HR hok
                (try dsimp only); repeat' (first | go_values | go_skip | go_guarded | go_step | go_upon | go_back)
                refine wp_region_G (fun w' => w'.cell? ⟨b9, 0, none⟩ = some (.int .i64 (ki : Int)) ∧ w'.cell? ⟨b9, 1, none⟩ = some (.int .i64 ra) ∧ w'.cell? ⟨b9, 2, none⟩ = some (.int .i64 rb) ∧ w'.cell? ⟨b9, 3, none⟩ = some (.int .i64 p0) ∧ w'.cell? ⟨b9, 4, none⟩ = some (.int .i64 p1) ∧ w'.cell? ⟨b9, 5, none⟩ = some (.int .i64 p2)) [] (by kernel_rfl) ⟨x0, x1, x2, x3, x4, x5⟩ (fun hS => ?_)
                try dsimp only at hS
                refine wpAnyG_take' (i := 0) (v := ?v0_1gb) rfl (by kernel_rfl) (by kernel_rfl) (by kernel_rfl) (by kernel_rfl) (fun _ _ _ h => h) (Or.inl ⟨by rfl, ?hy0_1gb⟩) hS ?rest0_1gb
                case hy0_1gb => intro w hSw; (try dsimp only at hSw); go_simp; (try with_reducible rfl)
                case rest0_1gb =>
                try simp only [List.getElem_toArray, List.getElem_cons_succ, List.getElem_cons_zero, Act.put, List.setIfInBounds_toArray, List.set_cons_zero, List.set_cons_succ]
                refine wpAnyG_take' (i := 1) (v := ?v1_2gb) rfl (by kernel_rfl) (by kernel_rfl) (by kernel_rfl) (by kernel_rfl) (fun _ _ _ h => h) (Or.inl ⟨by rfl, ?hy1_2gb⟩) hS ?rest1_2gb
                case hy1_2gb => intro w hSw; (try dsimp only at hSw); go_simp; (try with_reducible rfl)
                case rest1_2gb =>
                try simp only [List.getElem_toArray, List.getElem_cons_succ, List.getElem_cons_zero, Act.put, List.setIfInBounds_toArray, List.set_cons_zero, List.set_cons_succ]
                refine wpAnyG_take' (i := 2) (v := ?v2_3gb) rfl (by kernel_rfl) (by kernel_rfl) (by kernel_rfl) (by kernel_rfl) (fun _ _ _ h => h) (Or.inl ⟨by rfl, ?hy2_3gb⟩) hS ?rest2_3gb
                case hy2_3gb => intro w hSw; (try dsimp only at hSw); go_simp; (try with_reducible rfl)
                case rest2_3gb =>
                try simp only [List.getElem_toArray, List.getElem_cons_succ, List.getElem_cons_zero, Act.put, List.setIfInBounds_toArray, List.set_cons_zero, List.set_cons_succ]
                refine wpAnyG_take' (i := 3) (v := ?v3_4gb) rfl (by kernel_rfl) (by kernel_rfl) (by kernel_rfl) (by kernel_rfl) (fun _ _ _ h => h) (Or.inl ⟨by rfl, ?hy3_4gb⟩) hS ?rest3_4gb
                case hy3_4gb => intro w hSw; (try dsimp only at hSw); go_simp; (try with_reducible rfl)
                case rest3_4gb =>
                try simp only [List.getElem_toArray, List.getElem_cons_succ, List.getElem_cons_zero, Act.put, List.setIfInBounds_toArray, List.set_cons_zero, List.set_cons_succ]
                refine wpAnyG_one (i := 4) (by kernel_rfl) rfl (fun K hK => ?_)
                go_simp
                refine Calls.mono HMA.out ?_
                rintro r4 w10 ⟨rfl, h10⟩
                obtain ⟨y0, y1, y2, y3, y4, y5⟩ := cells6z h10
                have H10 := Lib.hid h10
                clear h10 HMA H9
                try dsimp only
                repeat' (first | go_values | go_skip | go_guarded | go_step | go_upon | go_back)
                refine hK.out _ _ (fun _ => ?hS5gb) ?rest5gb
                case hS5gb => exact ⟨y0, y1, y2, y3, y4, y5⟩
                clear K hK
                try simp only [List.getElem_toArray, List.getElem_cons_succ, List.getElem_cons_zero, Act.put, List.setIfInBounds_toArray, List.set_cons_zero, List.set_cons_succ]
                refine wpAnyG_take' (i := 5) (v := ?v5_6gb) rfl (by kernel_rfl) (by kernel_rfl) (by kernel_rfl) (by kernel_rfl) (fun _ _ _ h => h) (Or.inl ⟨by rfl, ?hy5_6gb⟩) ⟨y0, y1, y2, y3, y4, y5⟩ ?rest5_6gb
                case hy5_6gb => intro w hSw; (try dsimp only at hSw); go_simp; (try with_reducible rfl)
                case rest5_6gb =>
                try simp only [List.getElem_toArray, List.getElem_cons_succ, List.getElem_cons_zero, Act.put, List.setIfInBounds_toArray, List.set_cons_zero, List.set_cons_succ]
                refine wpAnyG_take' (i := 6) (v := ?v6_7gb) rfl (by kernel_rfl) (by kernel_rfl) (by kernel_rfl) (by kernel_rfl) (fun _ _ _ h => h) (Or.inl ⟨by rfl, ?hy6_7gb⟩) ⟨y0, y1, y2, y3, y4, y5⟩ ?rest6_7gb
                case hy6_7gb => intro w hSw; (try dsimp only at hSw); go_simp; (try with_reducible rfl)
                case rest6_7gb =>
                try simp only [List.getElem_toArray, List.getElem_cons_succ, List.getElem_cons_zero, Act.put, List.setIfInBounds_toArray, List.set_cons_zero, List.set_cons_succ]
                refine wpAnyG_take' (i := 7) (v := ?v7_8gb) rfl (by kernel_rfl) (by kernel_rfl) (by kernel_rfl) (by kernel_rfl) (fun _ _ _ h => h) (Or.inl ⟨by rfl, ?hy7_8gb⟩) ⟨y0, y1, y2, y3, y4, y5⟩ ?rest7_8gb
                case hy7_8gb => intro w hSw; (try dsimp only at hSw); go_simp; (try with_reducible rfl)
                case rest7_8gb =>
                try simp only [List.getElem_toArray, List.getElem_cons_succ, List.getElem_cons_zero, Act.put, List.setIfInBounds_toArray, List.set_cons_zero, List.set_cons_succ]
                refine wpAnyG_take' (i := 8) (v := undef) rfl (by kernel_rfl) (by kernel_rfl) (by kernel_rfl) (by kernel_rfl) (fun _ _ _ h => h) (Or.inr ⟨by rfl, rfl⟩) ⟨y0, y1, y2, y3, y4, y5⟩ ?rest8_9gb
                case rest8_9gb =>
                try simp only [List.getElem_toArray, List.getElem_cons_succ, List.getElem_cons_zero, Act.put, List.setIfInBounds_toArray, List.set_cons_zero, List.set_cons_succ]
                refine wpAnyG_take' (i := 9) (v := undef) rfl (by kernel_rfl) (by kernel_rfl) (by kernel_rfl) (by kernel_rfl) (fun _ _ _ h => h) (Or.inr ⟨by rfl, rfl⟩) ⟨y0, y1, y2, y3, y4, y5⟩ ?rest9_10gb
                case rest9_10gb =>
                try simp only [List.getElem_toArray, List.getElem_cons_succ, List.getElem_cons_zero, Act.put, List.setIfInBounds_toArray, List.set_cons_zero, List.set_cons_succ]
                refine wpAnyG_take' (i := 10) (v := undef) rfl (by kernel_rfl) (by kernel_rfl) (by kernel_rfl) (by kernel_rfl) (fun _ _ _ h => h) (Or.inr ⟨by rfl, rfl⟩) ⟨y0, y1, y2, y3, y4, y5⟩ ?rest10_11gb
                case rest10_11gb =>
                try simp only [List.getElem_toArray, List.getElem_cons_succ, List.getElem_cons_zero, Act.put, List.setIfInBounds_toArray, List.set_cons_zero, List.set_cons_succ]
                refine wpAnyG_take' (i := 11) (v := undef) rfl (by kernel_rfl) (by kernel_rfl) (by kernel_rfl) (by kernel_rfl) (fun _ _ _ h => h) (Or.inr ⟨by rfl, rfl⟩) ⟨y0, y1, y2, y3, y4, y5⟩ ?rest11_12gb
                case rest11_12gb =>
                try simp only [List.getElem_toArray, List.getElem_cons_succ, List.getElem_cons_zero, Act.put, List.setIfInBounds_toArray, List.set_cons_zero, List.set_cons_succ]
                refine wpAnyG_take' (i := 12) (v := undef) rfl (by kernel_rfl) (by kernel_rfl) (by kernel_rfl) (by kernel_rfl) (fun _ _ _ h => h) (Or.inr ⟨by rfl, rfl⟩) ⟨y0, y1, y2, y3, y4, y5⟩ ?rest12_13gb
                case rest12_13gb =>
                try simp only [List.getElem_toArray, List.getElem_cons_succ, List.getElem_cons_zero, Act.put, List.setIfInBounds_toArray, List.set_cons_zero, List.set_cons_succ]
                refine wpAnyG_take' (i := 13) (v := undef) rfl (by kernel_rfl) (by kernel_rfl) (by kernel_rfl) (by kernel_rfl) (fun _ _ _ h => h) (Or.inr ⟨by rfl, rfl⟩) ⟨y0, y1, y2, y3, y4, y5⟩ ?rest13_14gb
                case rest13_14gb =>
                try simp only [List.getElem_toArray, List.getElem_cons_succ, List.getElem_cons_zero, Act.put, List.setIfInBounds_toArray, List.set_cons_zero, List.set_cons_succ]
                refine wpAnyG_take' (i := 14) (v := undef) rfl (by kernel_rfl) (by kernel_rfl) (by kernel_rfl) (by kernel_rfl) (fun _ _ _ h => h) (Or.inr ⟨by rfl, rfl⟩) ⟨y0, y1, y2, y3, y4, y5⟩ ?rest14_15gb
                case rest14_15gb =>
                try simp only [List.getElem_toArray, List.getElem_cons_succ, List.getElem_cons_zero, Act.put, List.setIfInBounds_toArray, List.set_cons_zero, List.set_cons_succ]
                refine wpAnyG_take' (i := 15) (v := undef) rfl (by kernel_rfl) (by kernel_rfl) (by kernel_rfl) (by kernel_rfl) (fun _ _ _ h => h) (Or.inr ⟨by rfl, rfl⟩) ⟨y0, y1, y2, y3, y4, y5⟩ ?rest15_16gb
                case rest15_16gb =>
                try simp only [List.getElem_toArray, List.getElem_cons_succ, List.getElem_cons_zero, Act.put, List.setIfInBounds_toArray, List.set_cons_zero, List.set_cons_succ]
                refine wpAnyG_take' (i := 16) (v := undef) rfl (by kernel_rfl) (by kernel_rfl) (by kernel_rfl) (by kernel_rfl) (fun _ _ _ h => h) (Or.inr ⟨by rfl, rfl⟩) ⟨y0, y1, y2, y3, y4, y5⟩ ?rest16_17gb
                case rest16_17gb =>
                try simp only [List.getElem_toArray, List.getElem_cons_succ, List.getElem_cons_zero, Act.put, List.setIfInBounds_toArray, List.set_cons_zero, List.set_cons_succ]
                refine wpAnyG_take' (i := 17) (v := undef) rfl (by kernel_rfl) (by kernel_rfl) (by kernel_rfl) (by kernel_rfl) (fun _ _ _ h => h) (Or.inr ⟨by rfl, rfl⟩) ⟨y0, y1, y2, y3, y4, y5⟩ ?rest17_18gb
                case rest17_18gb =>
                try simp only [List.getElem_toArray, List.getElem_cons_succ, List.getElem_cons_zero, Act.put, List.setIfInBounds_toArray, List.set_cons_zero, List.set_cons_succ]
                refine wpAnyG_take' (i := 18) (v := undef) rfl (by kernel_rfl) (by kernel_rfl) (by kernel_rfl) (by kernel_rfl) (fun _ _ _ h => h) (Or.inr ⟨by rfl, rfl⟩) ⟨y0, y1, y2, y3, y4, y5⟩ ?rest18_19gb
                case rest18_19gb =>
                try simp only [List.getElem_toArray, List.getElem_cons_succ, List.getElem_cons_zero, Act.put, List.setIfInBounds_toArray, List.set_cons_zero, List.set_cons_succ]
                refine wpAnyG_take' (i := 19) (v := undef) rfl (by kernel_rfl) (by kernel_rfl) (by kernel_rfl) (by kernel_rfl) (fun _ _ _ h => h) (Or.inr ⟨by rfl, rfl⟩) ⟨y0, y1, y2, y3, y4, y5⟩ ?rest19_20gb
                case rest19_20gb =>
                try simp only [List.getElem_toArray, List.getElem_cons_succ, List.getElem_cons_zero, Act.put, List.setIfInBounds_toArray, List.set_cons_zero, List.set_cons_succ]
                refine wpAnyG_take' (i := 20) (v := undef) rfl (by kernel_rfl) (by kernel_rfl) (by kernel_rfl) (by kernel_rfl) (fun _ _ _ h => h) (Or.inr ⟨by rfl, rfl⟩) ⟨y0, y1, y2, y3, y4, y5⟩ ?rest20_21gb
                case rest20_21gb =>
                try simp only [List.getElem_toArray, List.getElem_cons_succ, List.getElem_cons_zero, Act.put, List.setIfInBounds_toArray, List.set_cons_zero, List.set_cons_succ]
                refine wpAnyG_take' (i := 21) (v := undef) rfl (by kernel_rfl) (by kernel_rfl) (by kernel_rfl) (by kernel_rfl) (fun _ _ _ h => h) (Or.inr ⟨by rfl, rfl⟩) ⟨y0, y1, y2, y3, y4, y5⟩ ?rest21_22gb
                case rest21_22gb =>
                try simp only [List.getElem_toArray, List.getElem_cons_succ, List.getElem_cons_zero, Act.put, List.setIfInBounds_toArray, List.set_cons_zero, List.set_cons_succ]
                refine wpAnyG_take' (i := 22) (v := undef) rfl (by kernel_rfl) (by kernel_rfl) (by kernel_rfl) (by kernel_rfl) (fun _ _ _ h => h) (Or.inr ⟨by rfl, rfl⟩) ⟨y0, y1, y2, y3, y4, y5⟩ ?rest22_23gb
                case rest22_23gb =>
                try simp only [List.getElem_toArray, List.getElem_cons_succ, List.getElem_cons_zero, Act.put, List.setIfInBounds_toArray, List.set_cons_zero, List.set_cons_succ]
                refine wpAnyG_take' (i := 23) (v := undef) rfl (by kernel_rfl) (by kernel_rfl) (by kernel_rfl) (by kernel_rfl) (fun _ _ _ h => h) (Or.inr ⟨by rfl, rfl⟩) ⟨y0, y1, y2, y3, y4, y5⟩ ?rest23_24gb
                case rest23_24gb =>
                try simp only [List.getElem_toArray, List.getElem_cons_succ, List.getElem_cons_zero, Act.put, List.setIfInBounds_toArray, List.set_cons_zero, List.set_cons_succ]
                refine wpAnyG_take' (i := 24) (v := undef) rfl (by kernel_rfl) (by kernel_rfl) (by kernel_rfl) (by kernel_rfl) (fun _ _ _ h => h) (Or.inr ⟨by rfl, rfl⟩) ⟨y0, y1, y2, y3, y4, y5⟩ ?rest24_25gb
                case rest24_25gb =>
                try simp only [List.getElem_toArray, List.getElem_cons_succ, List.getElem_cons_zero, Act.put, List.setIfInBounds_toArray, List.set_cons_zero, List.set_cons_succ]
                refine wpAnyG_take' (i := 25) (v := undef) rfl (by kernel_rfl) (by kernel_rfl) (by kernel_rfl) (by kernel_rfl) (fun _ _ _ h => h) (Or.inr ⟨by rfl, rfl⟩) ⟨y0, y1, y2, y3, y4, y5⟩ ?rest25_26gb
                case rest25_26gb =>
                try simp only [List.getElem_toArray, List.getElem_cons_succ, List.getElem_cons_zero, Act.put, List.setIfInBounds_toArray, List.set_cons_zero, List.set_cons_succ]
                refine wpAnyG_take' (i := 26) (v := undef) rfl (by kernel_rfl) (by kernel_rfl) (by kernel_rfl) (by kernel_rfl) (fun _ _ _ h => h) (Or.inr ⟨by rfl, rfl⟩) ⟨y0, y1, y2, y3, y4, y5⟩ ?rest26_27gb
                case rest26_27gb =>
                try simp only [List.getElem_toArray, List.getElem_cons_succ, List.getElem_cons_zero, Act.put, List.setIfInBounds_toArray, List.set_cons_zero, List.set_cons_succ]
                refine wpAnyG_take' (i := 27) (v := undef) rfl (by kernel_rfl) (by kernel_rfl) (by kernel_rfl) (by kernel_rfl) (fun _ _ _ h => h) (Or.inr ⟨by rfl, rfl⟩) ⟨y0, y1, y2, y3, y4, y5⟩ ?rest27_28gb
                case rest27_28gb =>
                try simp only [List.getElem_toArray, List.getElem_cons_succ, List.getElem_cons_zero, Act.put, List.setIfInBounds_toArray, List.set_cons_zero, List.set_cons_succ]
                refine wpAnyG_take' (i := 28) (v := undef) rfl (by kernel_rfl) (by kernel_rfl) (by kernel_rfl) (by kernel_rfl) (fun _ _ _ h => h) (Or.inr ⟨by rfl, rfl⟩) ⟨y0, y1, y2, y3, y4, y5⟩ ?rest28_29gb
                case rest28_29gb =>
                try simp only [List.getElem_toArray, List.getElem_cons_succ, List.getElem_cons_zero, Act.put, List.setIfInBounds_toArray, List.set_cons_zero, List.set_cons_succ]
                refine wpAnyG_take' (i := 29) (v := undef) rfl (by kernel_rfl) (by kernel_rfl) (by kernel_rfl) (by kernel_rfl) (fun _ _ _ h => h) (Or.inr ⟨by rfl, rfl⟩) ⟨y0, y1, y2, y3, y4, y5⟩ ?rest29_30gb
                case rest29_30gb =>
                try simp only [List.getElem_toArray, List.getElem_cons_succ, List.getElem_cons_zero, Act.put, List.setIfInBounds_toArray, List.set_cons_zero, List.set_cons_succ]
                refine wpAnyG_take' (i := 30) (v := undef) rfl (by kernel_rfl) (by kernel_rfl) (by kernel_rfl) (by kernel_rfl) (fun _ _ _ h => h) (Or.inr ⟨by rfl, rfl⟩) ⟨y0, y1, y2, y3, y4, y5⟩ ?rest30_31gb
                case rest30_31gb =>
                try simp only [List.getElem_toArray, List.getElem_cons_succ, List.getElem_cons_zero, Act.put, List.setIfInBounds_toArray, List.set_cons_zero, List.set_cons_succ]
                refine wpAnyG_take' (i := 31) (v := undef) rfl (by kernel_rfl) (by kernel_rfl) (by kernel_rfl) (by kernel_rfl) (fun _ _ _ h => h) (Or.inr ⟨by rfl, rfl⟩) ⟨y0, y1, y2, y3, y4, y5⟩ ?rest31_32gb
                case rest31_32gb =>
                try simp only [List.getElem_toArray, List.getElem_cons_succ, List.getElem_cons_zero, Act.put, List.setIfInBounds_toArray, List.set_cons_zero, List.set_cons_succ]
                refine wpAnyG_take' (i := 32) (v := ?v32_33gb) rfl (by kernel_rfl) (by kernel_rfl) (by kernel_rfl) (by kernel_rfl) (fun _ _ _ h => h) (Or.inl ⟨by rfl, ?hy32_33gb⟩) ⟨y0, y1, y2, y3, y4, y5⟩ ?rest32_33gb
                case hy32_33gb => intro w hSw; (try dsimp only at hSw); go_simp; (try with_reducible rfl)
                case rest32_33gb =>
                try simp only [List.getElem_toArray, List.getElem_cons_succ, List.getElem_cons_zero, Act.put, List.setIfInBounds_toArray, List.set_cons_zero, List.set_cons_succ]
                refine wpAnyG_done (by kernel_rfl) ?_ _
                try simp only [List.getElem_toArray, List.getElem_cons_succ, List.getElem_cons_zero, Act.put, List.setIfInBounds_toArray, List.set_cons_zero, List.set_cons_succ]
                clear hS
                clear x0 x1 x2 x3 x4 x5 y0 y1 y2 y3 y4 y5
                (try dsimp only); repeat' (first | go_values | go_skip | go_guarded | go_step | go_upon | go_back)
                have h11 := H10.out.drew
                obtain ⟨z0, z1, z2, z3, z4, z5⟩ := cells6z h11
                have g2 := h11.sw2.cell (o := 0) rfl
                have h12 := h11.alloc (.cells #[.int .i64 ki, .int .i64 ra, .int .i64 rb, .int .i64 p0, .int .i64 p1, .int .i64 p2] 31)
                obtain ⟨a9, c9, w12, hr, h13⟩ := append_seat (ty := 45) ⟨true, ki, ra, rb, p0, p1, p2⟩ (h12.pickL (M := [_, _, _, _, _]) [0, 3, 1, 2, 4] rfl) (by have := HQ.out.2.1; omega)
                rw [HQ.out.2.1] at hr h13
                have k2 := h12.sw3.cell (o := 0) rfl
                have k3 := h13.sw3.cell (o := 0) rfl
                have kf := h13.sw3.frozen 0
                have h14 : Sep w0 (Cl t #[.slice a9 (k + 1) c9] 49 :: SsT (.slice a9 (k + 1) c9) (F ++ [⟨true, ki, ra, rb, p0, p1, p2⟩]) :: RrT g r4 0 :: L) (w12.setCell ⟨t, 0, none⟩ (.slice a9 (k + 1) c9)) := ((h13.sw3.setCell 0 (.slice a9 (k + 1) c9)).pickL (M := [_, _, _, _]) [0, 1, 3] rfl)
                have h15 := h14.docClose.sw2
                obtain ⟨v0, v1, v2, v3, v4, v5⟩ := cells6z (h12.sw2)
                obtain ⟨m0, m1, m2, m3, m4, m5⟩ := cells6z (h13.sw2)
                have H15 := Lib.hid h15
                have HAP := Lib.hid hr
                clear h11 h12 h13 h14 h15 hr
                refine wp_region_G (fun w' => w'.cell? ⟨b9, 0, none⟩ = some (.int .i64 (ki : Int)) ∧ w'.cell? ⟨b9, 1, none⟩ = some (.int .i64 ra) ∧ w'.cell? ⟨b9, 2, none⟩ = some (.int .i64 rb) ∧ w'.cell? ⟨b9, 3, none⟩ = some (.int .i64 p0) ∧ w'.cell? ⟨b9, 4, none⟩ = some (.int .i64 p1) ∧ w'.cell? ⟨b9, 5, none⟩ = some (.int .i64 p2) ∧ w'.cell? ⟨t, 0, none⟩ = some (.slice a k c)) [10] (by kernel_rfl) ⟨z0, z1, z2, z3, z4, z5, g2⟩ (fun hS => ?_)
                try dsimp only at hS
                refine wpAnyG_take' (i := 0) (v := ?v0_1hb) rfl (by kernel_rfl) (by kernel_rfl) (by kernel_rfl) (by kernel_rfl) (fun _ _ _ h => h) (Or.inl ⟨by rfl, ?hy0_1hb⟩) hS ?rest0_1hb
                case hy0_1hb => intro w hSw; (try dsimp only at hSw); go_simp; (try with_reducible rfl)
                case rest0_1hb =>
                try simp only [List.getElem_toArray, List.getElem_cons_succ, List.getElem_cons_zero, Act.put, List.setIfInBounds_toArray, List.set_cons_zero, List.set_cons_succ]
                refine wpAnyG_take' (i := 1) (v := ?v1_2hb) rfl (by kernel_rfl) (by kernel_rfl) (by kernel_rfl) (by kernel_rfl) (fun _ _ _ h => h) (Or.inl ⟨by rfl, ?hy1_2hb⟩) hS ?rest1_2hb
                case hy1_2hb => intro w hSw; (try dsimp only at hSw); go_simp; (try with_reducible rfl)
                case rest1_2hb =>
                try simp only [List.getElem_toArray, List.getElem_cons_succ, List.getElem_cons_zero, Act.put, List.setIfInBounds_toArray, List.set_cons_zero, List.set_cons_succ]
                refine wpAnyG_take' (i := 2) (v := ?v2_3hb) rfl (by kernel_rfl) (by kernel_rfl) (by kernel_rfl) (by kernel_rfl) (fun _ _ _ h => h) (Or.inl ⟨by rfl, ?hy2_3hb⟩) hS ?rest2_3hb
                case hy2_3hb => intro w hSw; (try dsimp only at hSw); go_simp; (try with_reducible rfl)
                case rest2_3hb =>
                try simp only [List.getElem_toArray, List.getElem_cons_succ, List.getElem_cons_zero, Act.put, List.setIfInBounds_toArray, List.set_cons_zero, List.set_cons_succ]
                refine wpAnyG_take' (i := 3) (v := ?v3_4hb) rfl (by kernel_rfl) (by kernel_rfl) (by kernel_rfl) (by kernel_rfl) (fun _ _ _ h => h) (Or.inl ⟨by rfl, ?hy3_4hb⟩) hS ?rest3_4hb
                case hy3_4hb => intro w hSw; (try dsimp only at hSw); go_simp; (try with_reducible rfl)
                case rest3_4hb =>
                try simp only [List.getElem_toArray, List.getElem_cons_succ, List.getElem_cons_zero, Act.put, List.setIfInBounds_toArray, List.set_cons_zero, List.set_cons_succ]
                refine wpAnyG_take' (i := 4) (v := ?v4_5hb) rfl (by kernel_rfl) (by kernel_rfl) (by kernel_rfl) (by kernel_rfl) (fun _ _ _ h => h) (Or.inl ⟨by rfl, ?hy4_5hb⟩) hS ?rest4_5hb
                case hy4_5hb => intro w hSw; (try dsimp only at hSw); go_simp; (try with_reducible rfl)
                case rest4_5hb =>
                try simp only [List.getElem_toArray, List.getElem_cons_succ, List.getElem_cons_zero, Act.put, List.setIfInBounds_toArray, List.set_cons_zero, List.set_cons_succ]
                refine wpAnyG_take' (i := 5) (v := ?v5_6hb) rfl (by kernel_rfl) (by kernel_rfl) (by kernel_rfl) (by kernel_rfl) (fun _ _ _ h => h) (Or.inl ⟨by rfl, ?hy5_6hb⟩) hS ?rest5_6hb
                case hy5_6hb => intro w hSw; (try dsimp only at hSw); go_simp; (try with_reducible rfl)
                case rest5_6hb =>
                try simp only [List.getElem_toArray, List.getElem_cons_succ, List.getElem_cons_zero, Act.put, List.setIfInBounds_toArray, List.set_cons_zero, List.set_cons_succ]
                refine wpAnyG_one (i := 6) (by kernel_rfl) rfl (fun K hK => ?_)
                refine step_buildS rfl _ rfl rfl ?_
                refine hK.out _ _ (fun _ => ?hS7hb) ?rest7hb
                case hS7hb => exact ⟨v0, v1, v2, v3, v4, v5, k2⟩
                clear K hK
                try simp only [List.getElem_toArray, List.getElem_cons_succ, List.getElem_cons_zero, Act.put, List.setIfInBounds_toArray, List.set_cons_zero, List.set_cons_succ]
                refine wpAnyG_one (i := 7) (by kernel_rfl) rfl (fun K hK => ?_)
                refine step_append_run (by rfl) (.tmp 93) (.tmp 95) 45 45 (by rfl) _ _ (by rfl) (by rfl) HAP.out ?_
                refine hK.out _ _ (fun _ => ?hS8hb) ?rest8hb
                case hS8hb => exact ⟨m0, m1, m2, m3, m4, m5, k3⟩
                clear K hK
                try simp only [List.getElem_toArray, List.getElem_cons_succ, List.getElem_cons_zero, Act.put, List.setIfInBounds_toArray, List.set_cons_zero, List.set_cons_succ]
                refine wpAnyG_take' (i := 8) (v := ?v8_9hb) rfl (by kernel_rfl) (by kernel_rfl) (by kernel_rfl) (by kernel_rfl) (fun _ _ _ h => h) (Or.inl ⟨by rfl, ?hy8_9hb⟩) ⟨m0, m1, m2, m3, m4, m5, k3⟩ ?rest8_9hb
                case hy8_9hb => intro w hSw; (try dsimp only at hSw); go_simp; (try with_reducible rfl)
                case rest8_9hb =>
                try simp only [List.getElem_toArray, List.getElem_cons_succ, List.getElem_cons_zero, Act.put, List.setIfInBounds_toArray, List.set_cons_zero, List.set_cons_succ]
                refine wpAnyG_take' (i := 9) (v := ?v9_10hb) rfl (by kernel_rfl) (by kernel_rfl) (by kernel_rfl) (by kernel_rfl) (fun _ _ _ h => h) (Or.inl ⟨by rfl, ?hy9_10hb⟩) ⟨m0, m1, m2, m3, m4, m5, k3⟩ ?rest9_10hb
                case hy9_10hb => intro w hSw; (try dsimp only at hSw); go_simp; (try with_reducible rfl)
                case rest9_10hb =>
                try simp only [List.getElem_toArray, List.getElem_cons_succ, List.getElem_cons_zero, Act.put, List.setIfInBounds_toArray, List.set_cons_zero, List.set_cons_succ]
                refine wpAnyG_one (i := 10) (by kernel_rfl) rfl (fun K hK => ?_)
                go_simp
                refine hK.out _ _ (fun hno => by cases hno) ?_
                clear K hK
                try simp only [List.getElem_toArray, List.getElem_cons_succ, List.getElem_cons_zero, Act.put, List.setIfInBounds_toArray, List.set_cons_zero, List.set_cons_succ]
                refine wpAnyG_done (by kernel_rfl) ?_ _
                try simp only [List.getElem_toArray, List.getElem_cons_succ, List.getElem_cons_zero, Act.put, List.setIfInBounds_toArray, List.set_cons_zero, List.set_cons_succ]
                clear hS z0 z1 z2 z3 z4 z5 g2 k2 k3 kf v0 v1 v2 v3 v4 v5 m0 m1 m2 m3 m4 m5 HAP
                (try dsimp only); repeat' (first | go_values | go_skip | go_guarded | go_step | go_upon | go_back)
                go_roundw
                case rel => exact ⟨k + 1, true, F ++ [⟨true, ki, ra, rb, p0, p1, p2⟩], r4, 0, rfl, by go_num, by have := HQ.out.1; omega, by rw [List.length_append, HQ.out.2.1]; rfl, HQ.out.2.2.1, .inr (.inl ⟨rfl, rfl, HRR.out⟩), H15.out⟩
                case measure => have := HQ.out.1; simp [intOf]; omega
            | true =>
              by_cases hk0 : k = 0
              · have hFn : F = [] := List.eq_nil_of_length_eq_zero (by rw [HQ.out.2.1, hk0])
                as_aux_lemma =>
                  have HMA := Lib.hid (may_any ki ra rb p0 p1 p2 H9.out.drew)
                  rw [hok] at HMA
                  obtain ⟨x0, x1, x2, x3, x4, x5⟩ := cells6z H9.out
                  have g0 := H9.out.sw2.cell (o := 0) rfl
                  have hRR : R = docLoop j (F ++ [⟨true, ki, ra, rb, p0, p1, p2⟩]) r4 := HR.out.2.2 rfl (by rw [hFn]; simp [hok])
                  have dk0 : decide ((0 : Int) < (k : Int)) = false := decide_eq_false (by omega)
                  have dk00 : decide (0 < k) = false := decide_eq_false (by omega)
                  have HRR := Lib.hid hRR
                  clear hRR HR hok hFn hk0
                  (try dsimp only); repeat' (first | go_values | go_skip | go_guarded | go_step | go_upon | go_back)
                  refine wp_region_G (fun w' => w'.cell? ⟨b9, 0, none⟩ = some (.int .i64 (ki : Int)) ∧ w'.cell? ⟨b9, 1, none⟩ = some (.int .i64 ra) ∧ w'.cell? ⟨b9, 2, none⟩ = some (.int .i64 rb) ∧ w'.cell? ⟨b9, 3, none⟩ = some (.int .i64 p0) ∧ w'.cell? ⟨b9, 4, none⟩ = some (.int .i64 p1) ∧ w'.cell? ⟨b9, 5, none⟩ = some (.int .i64 p2) ∧ w'.cell? ⟨t, 0, none⟩ = some (.slice a k c)) [] (by kernel_rfl) ⟨x0, x1, x2, x3, x4, x5, g0⟩ (fun hS => ?_)
                  try dsimp only at hS
                  refine wpAnyG_take' (i := 0) (v := ?v0_1gc) rfl (by kernel_rfl) (by kernel_rfl) (by kernel_rfl) (by kernel_rfl) (fun _ _ _ h => h) (Or.inl ⟨by rfl, ?hy0_1gc⟩) hS ?rest0_1gc
                  case hy0_1gc => intro w hSw; (try dsimp only at hSw); go_simp; (try with_reducible rfl)
                  case rest0_1gc =>
                  try simp only [List.getElem_toArray, List.getElem_cons_succ, List.getElem_cons_zero, Act.put, List.setIfInBounds_toArray, List.set_cons_zero, List.set_cons_succ]
                  refine wpAnyG_take' (i := 1) (v := ?v1_2gc) rfl (by kernel_rfl) (by kernel_rfl) (by kernel_rfl) (by kernel_rfl) (fun _ _ _ h => h) (Or.inl ⟨by rfl, ?hy1_2gc⟩) hS ?rest1_2gc
                  case hy1_2gc => intro w hSw; (try dsimp only at hSw); go_simp; (try with_reducible rfl)
                  case rest1_2gc =>
                  try simp only [List.getElem_toArray, List.getElem_cons_succ, List.getElem_cons_zero, Act.put, List.setIfInBounds_toArray, List.set_cons_zero, List.set_cons_succ]
                  refine wpAnyG_take' (i := 2) (v := ?v2_3gc) rfl (by kernel_rfl) (by kernel_rfl) (by kernel_rfl) (by kernel_rfl) (fun _ _ _ h => h) (Or.inl ⟨by rfl, ?hy2_3gc⟩) hS ?rest2_3gc
                  case hy2_3gc => intro w hSw; (try dsimp only at hSw); go_simp; (try with_reducible rfl)
                  case rest2_3gc =>
                  try simp only [List.getElem_toArray, List.getElem_cons_succ, List.getElem_cons_zero, Act.put, List.setIfInBounds_toArray, List.set_cons_zero, List.set_cons_succ]
                  refine wpAnyG_take' (i := 3) (v := ?v3_4gc) rfl (by kernel_rfl) (by kernel_rfl) (by kernel_rfl) (by kernel_rfl) (fun _ _ _ h => h) (Or.inl ⟨by rfl, ?hy3_4gc⟩) hS ?rest3_4gc
                  case hy3_4gc => intro w hSw; (try dsimp only at hSw); go_simp; (try with_reducible rfl)
                  case rest3_4gc =>
                  try simp only [List.getElem_toArray, List.getElem_cons_succ, List.getElem_cons_zero, Act.put, List.setIfInBounds_toArray, List.set_cons_zero, List.set_cons_succ]
                  refine wpAnyG_one (i := 4) (by kernel_rfl) rfl (fun K hK => ?_)
                  go_simp
                  refine Calls.mono HMA.out ?_
                  rintro r4 w10 ⟨rfl, h10⟩
                  obtain ⟨y0, y1, y2, y3, y4, y5⟩ := cells6z h10
                  have g1 := h10.sw2.cell (o := 0) rfl
                  have H10 := Lib.hid h10
                  clear h10 HMA H9
                  try dsimp only
                  repeat' (first | go_values | go_skip | go_guarded | go_step | go_upon | go_back)
                  refine hK.out _ _ (fun _ => ?hS5gc) ?rest5gc
                  case hS5gc => exact ⟨y0, y1, y2, y3, y4, y5, g1⟩
                  clear K hK
                  try simp only [List.getElem_toArray, List.getElem_cons_succ, List.getElem_cons_zero, Act.put, List.setIfInBounds_toArray, List.set_cons_zero, List.set_cons_succ]
                  refine wpAnyG_take' (i := 5) (v := ?v5_6gc) rfl (by kernel_rfl) (by kernel_rfl) (by kernel_rfl) (by kernel_rfl) (fun _ _ _ h => h) (Or.inl ⟨by rfl, ?hy5_6gc⟩) ⟨y0, y1, y2, y3, y4, y5, g1⟩ ?rest5_6gc
                  case hy5_6gc => intro w hSw; (try dsimp only at hSw); go_simp; (try with_reducible rfl)
                  case rest5_6gc =>
                  try simp only [List.getElem_toArray, List.getElem_cons_succ, List.getElem_cons_zero, Act.put, List.setIfInBounds_toArray, List.set_cons_zero, List.set_cons_succ]
                  refine wpAnyG_take' (i := 6) (v := ?v6_7gc) rfl (by kernel_rfl) (by kernel_rfl) (by kernel_rfl) (by kernel_rfl) (fun _ _ _ h => h) (Or.inl ⟨by rfl, ?hy6_7gc⟩) ⟨y0, y1, y2, y3, y4, y5, g1⟩ ?rest6_7gc
                  case hy6_7gc => intro w hSw; (try dsimp only at hSw); go_simp; (try with_reducible rfl)
                  case rest6_7gc =>
                  try simp only [List.getElem_toArray, List.getElem_cons_succ, List.getElem_cons_zero, Act.put, List.setIfInBounds_toArray, List.set_cons_zero, List.set_cons_succ]
                  refine wpAnyG_take' (i := 7) (v := ?v7_8gc) rfl (by kernel_rfl) (by kernel_rfl) (by kernel_rfl) (by kernel_rfl) (fun _ _ _ h => h) (Or.inl ⟨by rfl, ?hy7_8gc⟩) ⟨y0, y1, y2, y3, y4, y5, g1⟩ ?rest7_8gc
                  case hy7_8gc => intro w hSw; (try dsimp only at hSw); go_simp; (try with_reducible rfl)
                  case rest7_8gc =>
                  try simp only [List.getElem_toArray, List.getElem_cons_succ, List.getElem_cons_zero, Act.put, List.setIfInBounds_toArray, List.set_cons_zero, List.set_cons_succ]
                  refine wpAnyG_take' (i := 8) (v := ?v8_9gc) rfl (by kernel_rfl) (by kernel_rfl) (by kernel_rfl) (by kernel_rfl) (fun _ _ _ h => h) (Or.inl ⟨by rfl, ?hy8_9gc⟩) ⟨y0, y1, y2, y3, y4, y5, g1⟩ ?rest8_9gc
                  case hy8_9gc => intro w hSw; (try dsimp only at hSw); go_simp; (try with_reducible rfl)
                  case rest8_9gc =>
                  try simp only [List.getElem_toArray, List.getElem_cons_succ, List.getElem_cons_zero, Act.put, List.setIfInBounds_toArray, List.set_cons_zero, List.set_cons_succ]
                  refine wpAnyG_take' (i := 9) (v := ?v9_10gc) rfl (by kernel_rfl) (by kernel_rfl) (by kernel_rfl) (by kernel_rfl) (fun _ _ _ h => h) (Or.inl ⟨by rfl, ?hy9_10gc⟩) ⟨y0, y1, y2, y3, y4, y5, g1⟩ ?rest9_10gc
                  case hy9_10gc => intro w hSw; (try dsimp only at hSw); go_simp; (try with_reducible rfl)
                  case rest9_10gc =>
                  try simp only [List.getElem_toArray, List.getElem_cons_succ, List.getElem_cons_zero, Act.put, List.setIfInBounds_toArray, List.set_cons_zero, List.set_cons_succ]
                  refine wpAnyG_take' (i := 10) (v := ?v10_11gc) rfl (by kernel_rfl) (by kernel_rfl) (by kernel_rfl) (by kernel_rfl) (fun _ _ _ h => h) (Or.inl ⟨by rfl, ?hy10_11gc⟩) ⟨y0, y1, y2, y3, y4, y5, g1⟩ ?rest10_11gc
                  case hy10_11gc => intro w hSw; (try dsimp only at hSw); go_simp; (try with_reducible rfl)
                  case rest10_11gc =>
                  try simp only [List.getElem_toArray, List.getElem_cons_succ, List.getElem_cons_zero, Act.put, List.setIfInBounds_toArray, List.set_cons_zero, List.set_cons_succ]
                  refine wpAnyG_take' (i := 11) (v := ?v11_12gc) rfl (by kernel_rfl) (by kernel_rfl) (by kernel_rfl) (by kernel_rfl) (fun _ _ _ h => h) (Or.inl ⟨by rfl, ?hy11_12gc⟩) ⟨y0, y1, y2, y3, y4, y5, g1⟩ ?rest11_12gc
                  case hy11_12gc => intro w hSw; (try dsimp only at hSw); go_simp; (try with_reducible rfl)
                  case rest11_12gc =>
                  try simp only [List.getElem_toArray, List.getElem_cons_succ, List.getElem_cons_zero, Act.put, List.setIfInBounds_toArray, List.set_cons_zero, List.set_cons_succ]
                  refine wpAnyG_take' (i := 12) (v := ?v12_13gc) rfl (by kernel_rfl) (by kernel_rfl) (by kernel_rfl) (by kernel_rfl) (fun _ _ _ h => h) (Or.inl ⟨by rfl, ?hy12_13gc⟩) ⟨y0, y1, y2, y3, y4, y5, g1⟩ ?rest12_13gc
                  case hy12_13gc => intro w hSw; (try dsimp only at hSw); go_simp; (try with_reducible rfl)
                  case rest12_13gc =>
                  try simp only [List.getElem_toArray, List.getElem_cons_succ, List.getElem_cons_zero, Act.put, List.setIfInBounds_toArray, List.set_cons_zero, List.set_cons_succ]
                  refine wpAnyG_take' (i := 13) (v := ?v13_14gc) rfl (by kernel_rfl) (by kernel_rfl) (by kernel_rfl) (by kernel_rfl) (fun _ _ _ h => h) (Or.inl ⟨by rfl, ?hy13_14gc⟩) ⟨y0, y1, y2, y3, y4, y5, g1⟩ ?rest13_14gc
                  case hy13_14gc => intro w hSw; (try dsimp only at hSw); go_simp; (try with_reducible rfl)
                  case rest13_14gc =>
                  try simp only [List.getElem_toArray, List.getElem_cons_succ, List.getElem_cons_zero, Act.put, List.setIfInBounds_toArray, List.set_cons_zero, List.set_cons_succ]
                  refine wpAnyG_take' (i := 14) (v := ?v14_15gc) rfl (by kernel_rfl) (by kernel_rfl) (by kernel_rfl) (by kernel_rfl) (fun _ _ _ h => h) (Or.inl ⟨by rfl, ?hy14_15gc⟩) ⟨y0, y1, y2, y3, y4, y5, g1⟩ ?rest14_15gc
                  case hy14_15gc => intro w hSw; (try dsimp only at hSw); go_simp; (try with_reducible rfl)
                  case rest14_15gc =>
                  try simp only [List.getElem_toArray, List.getElem_cons_succ, List.getElem_cons_zero, Act.put, List.setIfInBounds_toArray, List.set_cons_zero, List.set_cons_succ]
                  refine wpAnyG_take' (i := 15) (v := undef) rfl (by kernel_rfl) (by kernel_rfl) (by kernel_rfl) (by kernel_rfl) (fun _ _ _ h => h) (Or.inr ⟨by rfl, rfl⟩) ⟨y0, y1, y2, y3, y4, y5, g1⟩ ?rest15_16gc
                  case rest15_16gc =>
                  try simp only [List.getElem_toArray, List.getElem_cons_succ, List.getElem_cons_zero, Act.put, List.setIfInBounds_toArray, List.set_cons_zero, List.set_cons_succ]
                  refine wpAnyG_take' (i := 16) (v := undef) rfl (by kernel_rfl) (by kernel_rfl) (by kernel_rfl) (by kernel_rfl) (fun _ _ _ h => h) (Or.inr ⟨by rfl, rfl⟩) ⟨y0, y1, y2, y3, y4, y5, g1⟩ ?rest16_17gc
                  case rest16_17gc =>
                  try simp only [List.getElem_toArray, List.getElem_cons_succ, List.getElem_cons_zero, Act.put, List.setIfInBounds_toArray, List.set_cons_zero, List.set_cons_succ]
                  refine wpAnyG_take' (i := 17) (v := undef) rfl (by kernel_rfl) (by kernel_rfl) (by kernel_rfl) (by kernel_rfl) (fun _ _ _ h => h) (Or.inr ⟨by rfl, rfl⟩) ⟨y0, y1, y2, y3, y4, y5, g1⟩ ?rest17_18gc
                  case rest17_18gc =>
                  try simp only [List.getElem_toArray, List.getElem_cons_succ, List.getElem_cons_zero, Act.put, List.setIfInBounds_toArray, List.set_cons_zero, List.set_cons_succ]
                  refine wpAnyG_take' (i := 18) (v := undef) rfl (by kernel_rfl) (by kernel_rfl) (by kernel_rfl) (by kernel_rfl) (fun _ _ _ h => h) (Or.inr ⟨by rfl, rfl⟩) ⟨y0, y1, y2, y3, y4, y5, g1⟩ ?rest18_19gc
                  case rest18_19gc =>
                  try simp only [List.getElem_toArray, List.getElem_cons_succ, List.getElem_cons_zero, Act.put, List.setIfInBounds_toArray, List.set_cons_zero, List.set_cons_succ]
                  refine wpAnyG_take' (i := 19) (v := undef) rfl (by kernel_rfl) (by kernel_rfl) (by kernel_rfl) (by kernel_rfl) (fun _ _ _ h => h) (Or.inr ⟨by rfl, rfl⟩) ⟨y0, y1, y2, y3, y4, y5, g1⟩ ?rest19_20gc
                  case rest19_20gc =>
                  try simp only [List.getElem_toArray, List.getElem_cons_succ, List.getElem_cons_zero, Act.put, List.setIfInBounds_toArray, List.set_cons_zero, List.set_cons_succ]
                  refine wpAnyG_take' (i := 20) (v := undef) rfl (by kernel_rfl) (by kernel_rfl) (by kernel_rfl) (by kernel_rfl) (fun _ _ _ h => h) (Or.inr ⟨by rfl, rfl⟩) ⟨y0, y1, y2, y3, y4, y5, g1⟩ ?rest20_21gc
                  case rest20_21gc =>
                  try simp only [List.getElem_toArray, List.getElem_cons_succ, List.getElem_cons_zero, Act.put, List.setIfInBounds_toArray, List.set_cons_zero, List.set_cons_succ]
                  refine wpAnyG_take' (i := 21) (v := undef) rfl (by kernel_rfl) (by kernel_rfl) (by kernel_rfl) (by kernel_rfl) (fun _ _ _ h => h) (Or.inr ⟨by rfl, rfl⟩) ⟨y0, y1, y2, y3, y4, y5, g1⟩ ?rest21_22gc
                  case rest21_22gc =>
                  try simp only [List.getElem_toArray, List.getElem_cons_succ, List.getElem_cons_zero, Act.put, List.setIfInBounds_toArray, List.set_cons_zero, List.set_cons_succ]
                  refine wpAnyG_take' (i := 22) (v := undef) rfl (by kernel_rfl) (by kernel_rfl) (by kernel_rfl) (by kernel_rfl) (fun _ _ _ h => h) (Or.inr ⟨by rfl, rfl⟩) ⟨y0, y1, y2, y3, y4, y5, g1⟩ ?rest22_23gc
                  case rest22_23gc =>
                  try simp only [List.getElem_toArray, List.getElem_cons_succ, List.getElem_cons_zero, Act.put, List.setIfInBounds_toArray, List.set_cons_zero, List.set_cons_succ]
                  refine wpAnyG_take' (i := 23) (v := undef) rfl (by kernel_rfl) (by kernel_rfl) (by kernel_rfl) (by kernel_rfl) (fun _ _ _ h => h) (Or.inr ⟨by rfl, rfl⟩) ⟨y0, y1, y2, y3, y4, y5, g1⟩ ?rest23_24gc
                  case rest23_24gc =>
                  try simp only [List.getElem_toArray, List.getElem_cons_succ, List.getElem_cons_zero, Act.put, List.setIfInBounds_toArray, List.set_cons_zero, List.set_cons_succ]
                  refine wpAnyG_take' (i := 24) (v := undef) rfl (by kernel_rfl) (by kernel_rfl) (by kernel_rfl) (by kernel_rfl) (fun _ _ _ h => h) (Or.inr ⟨by rfl, rfl⟩) ⟨y0, y1, y2, y3, y4, y5, g1⟩ ?rest24_25gc
                  case rest24_25gc =>
                  try simp only [List.getElem_toArray, List.getElem_cons_succ, List.getElem_cons_zero, Act.put, List.setIfInBounds_toArray, List.set_cons_zero, List.set_cons_succ]
                  refine wpAnyG_take' (i := 25) (v := undef) rfl (by kernel_rfl) (by kernel_rfl) (by kernel_rfl) (by kernel_rfl) (fun _ _ _ h => h) (Or.inr ⟨by rfl, rfl⟩) ⟨y0, y1, y2, y3, y4, y5, g1⟩ ?rest25_26gc
                  case rest25_26gc =>
                  try simp only [List.getElem_toArray, List.getElem_cons_succ, List.getElem_cons_zero, Act.put, List.setIfInBounds_toArray, List.set_cons_zero, List.set_cons_succ]
                  refine wpAnyG_take' (i := 26) (v := undef) rfl (by kernel_rfl) (by kernel_rfl) (by kernel_rfl) (by kernel_rfl) (fun _ _ _ h => h) (Or.inr ⟨by rfl, rfl⟩) ⟨y0, y1, y2, y3, y4, y5, g1⟩ ?rest26_27gc
                  case rest26_27gc =>
                  try simp only [List.getElem_toArray, List.getElem_cons_succ, List.getElem_cons_zero, Act.put, List.setIfInBounds_toArray, List.set_cons_zero, List.set_cons_succ]
                  refine wpAnyG_take' (i := 27) (v := undef) rfl (by kernel_rfl) (by kernel_rfl) (by kernel_rfl) (by kernel_rfl) (fun _ _ _ h => h) (Or.inr ⟨by rfl, rfl⟩) ⟨y0, y1, y2, y3, y4, y5, g1⟩ ?rest27_28gc
                  case rest27_28gc =>
                  try simp only [List.getElem_toArray, List.getElem_cons_succ, List.getElem_cons_zero, Act.put, List.setIfInBounds_toArray, List.set_cons_zero, List.set_cons_succ]
                  refine wpAnyG_take' (i := 28) (v := undef) rfl (by kernel_rfl) (by kernel_rfl) (by kernel_rfl) (by kernel_rfl) (fun _ _ _ h => h) (Or.inr ⟨by rfl, rfl⟩) ⟨y0, y1, y2, y3, y4, y5, g1⟩ ?rest28_29gc
                  case rest28_29gc =>
                  try simp only [List.getElem_toArray, List.getElem_cons_succ, List.getElem_cons_zero, Act.put, List.setIfInBounds_toArray, List.set_cons_zero, List.set_cons_succ]
                  refine wpAnyG_take' (i := 29) (v := undef) rfl (by kernel_rfl) (by kernel_rfl) (by kernel_rfl) (by kernel_rfl) (fun _ _ _ h => h) (Or.inr ⟨by rfl, rfl⟩) ⟨y0, y1, y2, y3, y4, y5, g1⟩ ?rest29_30gc
                  case rest29_30gc =>
                  try simp only [List.getElem_toArray, List.getElem_cons_succ, List.getElem_cons_zero, Act.put, List.setIfInBounds_toArray, List.set_cons_zero, List.set_cons_succ]
                  refine wpAnyG_take' (i := 30) (v := undef) rfl (by kernel_rfl) (by kernel_rfl) (by kernel_rfl) (by kernel_rfl) (fun _ _ _ h => h) (Or.inr ⟨by rfl, rfl⟩) ⟨y0, y1, y2, y3, y4, y5, g1⟩ ?rest30_31gc
                  case rest30_31gc =>
                  try simp only [List.getElem_toArray, List.getElem_cons_succ, List.getElem_cons_zero, Act.put, List.setIfInBounds_toArray, List.set_cons_zero, List.set_cons_succ]
                  refine wpAnyG_take' (i := 31) (v := ?v31_32gc) rfl (by kernel_rfl) (by kernel_rfl) (by kernel_rfl) (by kernel_rfl) (fun _ _ _ h => h) (Or.inl ⟨by rfl, ?hy31_32gc⟩) ⟨y0, y1, y2, y3, y4, y5, g1⟩ ?rest31_32gc
                  case hy31_32gc => intro w hSw; (try dsimp only at hSw); go_simp; (try with_reducible rfl)
                  case rest31_32gc =>
                  try simp only [List.getElem_toArray, List.getElem_cons_succ, List.getElem_cons_zero, Act.put, List.setIfInBounds_toArray, List.set_cons_zero, List.set_cons_succ]
                  refine wpAnyG_take' (i := 32) (v := ?v32_33gc) rfl (by kernel_rfl) (by kernel_rfl) (by kernel_rfl) (by kernel_rfl) (fun _ _ _ h => h) (Or.inl ⟨by rfl, ?hy32_33gc⟩) ⟨y0, y1, y2, y3, y4, y5, g1⟩ ?rest32_33gc
                  case hy32_33gc => intro w hSw; (try dsimp only at hSw); go_simp; (try with_reducible rfl)
                  case rest32_33gc =>
                  try simp only [List.getElem_toArray, List.getElem_cons_succ, List.getElem_cons_zero, Act.put, List.setIfInBounds_toArray, List.set_cons_zero, List.set_cons_succ]
                  refine wpAnyG_done (by kernel_rfl) ?_ _
                  try simp only [List.getElem_toArray, List.getElem_cons_succ, List.getElem_cons_zero, Act.put, List.setIfInBounds_toArray, List.set_cons_zero, List.set_cons_succ]
                  clear hS
                  clear x0 x1 x2 x3 x4 x5 y0 y1 y2 y3 y4 y5 g0 g1
                  (try dsimp only); repeat' (first | go_values | go_skip | go_guarded | go_step | go_upon | go_back)
                  have h11 := H10.out.drew
                  obtain ⟨z0, z1, z2, z3, z4, z5⟩ := cells6z h11
                  have g2 := h11.sw2.cell (o := 0) rfl
                  have h12 := h11.alloc (.cells #[.int .i64 ki, .int .i64 ra, .int .i64 rb, .int .i64 p0, .int .i64 p1, .int .i64 p2] 31)
                  obtain ⟨a9, c9, w12, hr, h13⟩ := append_seat (ty := 45) ⟨true, ki, ra, rb, p0, p1, p2⟩ (h12.pickL (M := [_, _, _, _, _]) [0, 3, 1, 2, 4] rfl) (by have := HQ.out.2.1; omega)
                  rw [HQ.out.2.1] at hr h13
                  have k2 := h12.sw3.cell (o := 0) rfl
                  have k3 := h13.sw3.cell (o := 0) rfl
                  have kf := h13.sw3.frozen 0
                  have h14 : Sep w0 (Cl t #[.slice a9 (k + 1) c9] 49 :: SsT (.slice a9 (k + 1) c9) (F ++ [⟨true, ki, ra, rb, p0, p1, p2⟩]) :: RrT g r4 0 :: L) (w12.setCell ⟨t, 0, none⟩ (.slice a9 (k + 1) c9)) := ((h13.sw3.setCell 0 (.slice a9 (k + 1) c9)).pickL (M := [_, _, _, _]) [0, 1, 3] rfl)
                  have h15 := h14.docClose.sw2
                  obtain ⟨v0, v1, v2, v3, v4, v5⟩ := cells6z (h12.sw2)
                  obtain ⟨m0, m1, m2, m3, m4, m5⟩ := cells6z (h13.sw2)
                  have H15 := Lib.hid h15
                  have HAP := Lib.hid hr
                  clear h11 h12 h13 h14 h15 hr
                  refine wp_region_G (fun w' => w'.cell? ⟨b9, 0, none⟩ = some (.int .i64 (ki : Int)) ∧ w'.cell? ⟨b9, 1, none⟩ = some (.int .i64 ra) ∧ w'.cell? ⟨b9, 2, none⟩ = some (.int .i64 rb) ∧ w'.cell? ⟨b9, 3, none⟩ = some (.int .i64 p0) ∧ w'.cell? ⟨b9, 4, none⟩ = some (.int .i64 p1) ∧ w'.cell? ⟨b9, 5, none⟩ = some (.int .i64 p2) ∧ w'.cell? ⟨t, 0, none⟩ = some (.slice a k c)) [10] (by kernel_rfl) ⟨z0, z1, z2, z3, z4, z5, g2⟩ (fun hS => ?_)
                  try dsimp only at hS
                  refine wpAnyG_take' (i := 0) (v := ?v0_1hc) rfl (by kernel_rfl) (by kernel_rfl) (by kernel_rfl) (by kernel_rfl) (fun _ _ _ h => h) (Or.inl ⟨by rfl, ?hy0_1hc⟩) hS ?rest0_1hc
                  case hy0_1hc => intro w hSw; (try dsimp only at hSw); go_simp; (try with_reducible rfl)
                  case rest0_1hc =>
                  try simp only [List.getElem_toArray, List.getElem_cons_succ, List.getElem_cons_zero, Act.put, List.setIfInBounds_toArray, List.set_cons_zero, List.set_cons_succ]
                  refine wpAnyG_take' (i := 1) (v := ?v1_2hc) rfl (by kernel_rfl) (by kernel_rfl) (by kernel_rfl) (by kernel_rfl) (fun _ _ _ h => h) (Or.inl ⟨by rfl, ?hy1_2hc⟩) hS ?rest1_2hc
                  case hy1_2hc => intro w hSw; (try dsimp only at hSw); go_simp; (try with_reducible rfl)
                  case rest1_2hc =>
                  try simp only [List.getElem_toArray, List.getElem_cons_succ, List.getElem_cons_zero, Act.put, List.setIfInBounds_toArray, List.set_cons_zero, List.set_cons_succ]
                  refine wpAnyG_take' (i := 2) (v := ?v2_3hc) rfl (by kernel_rfl) (by kernel_rfl) (by kernel_rfl) (by kernel_rfl) (fun _ _ _ h => h) (Or.inl ⟨by rfl, ?hy2_3hc⟩) hS ?rest2_3hc
                  case hy2_3hc => intro w hSw; (try dsimp only at hSw); go_simp; (try with_reducible rfl)
                  case rest2_3hc =>
                  try simp only [List.getElem_toArray, List.getElem_cons_succ, List.getElem_cons_zero, Act.put, List.setIfInBounds_toArray, List.set_cons_zero, List.set_cons_succ]
                  refine wpAnyG_take' (i := 3) (v := ?v3_4hc) rfl (by kernel_rfl) (by kernel_rfl) (by kernel_rfl) (by kernel_rfl) (fun _ _ _ h => h) (Or.inl ⟨by rfl, ?hy3_4hc⟩) hS ?rest3_4hc
                  case hy3_4hc => intro w hSw; (try dsimp only at hSw); go_simp; (try with_reducible rfl)
                  case rest3_4hc =>
                  try simp only [List.getElem_toArray, List.getElem_cons_succ, List.getElem_cons_zero, Act.put, List.setIfInBounds_toArray, List.set_cons_zero, List.set_cons_succ]
                  refine wpAnyG_take' (i := 4) (v := ?v4_5hc) rfl (by kernel_rfl) (by kernel_rfl) (by kernel_rfl) (by kernel_rfl) (fun _ _ _ h => h) (Or.inl ⟨by rfl, ?hy4_5hc⟩) hS ?rest4_5hc
                  case hy4_5hc => intro w hSw; (try dsimp only at hSw); go_simp; (try with_reducible rfl)
                  case rest4_5hc =>
                  try simp only [List.getElem_toArray, List.getElem_cons_succ, List.getElem_cons_zero, Act.put, List.setIfInBounds_toArray, List.set_cons_zero, List.set_cons_succ]
                  refine wpAnyG_take' (i := 5) (v := ?v5_6hc) rfl (by kernel_rfl) (by kernel_rfl) (by kernel_rfl) (by kernel_rfl) (fun _ _ _ h => h) (Or.inl ⟨by rfl, ?hy5_6hc⟩) hS ?rest5_6hc
                  case hy5_6hc => intro w hSw; (try dsimp only at hSw); go_simp; (try with_reducible rfl)
                  case rest5_6hc =>
                  try simp only [List.getElem_toArray, List.getElem_cons_succ, List.getElem_cons_zero, Act.put, List.setIfInBounds_toArray, List.set_cons_zero, List.set_cons_succ]
                  refine wpAnyG_one (i := 6) (by kernel_rfl) rfl (fun K hK => ?_)
                  refine step_buildS rfl _ rfl rfl ?_
                  refine hK.out _ _ (fun _ => ?hS7hc) ?rest7hc
                  case hS7hc => exact ⟨v0, v1, v2, v3, v4, v5, k2⟩
                  clear K hK
                  try simp only [List.getElem_toArray, List.getElem_cons_succ, List.getElem_cons_zero, Act.put, List.setIfInBounds_toArray, List.set_cons_zero, List.set_cons_succ]
                  refine wpAnyG_one (i := 7) (by kernel_rfl) rfl (fun K hK => ?_)
                  refine step_append_run (by rfl) (.tmp 93) (.tmp 95) 45 45 (by rfl) _ _ (by rfl) (by rfl) HAP.out ?_
                  refine hK.out _ _ (fun _ => ?hS8hc) ?rest8hc
                  case hS8hc => exact ⟨m0, m1, m2, m3, m4, m5, k3⟩
                  clear K hK
                  try simp only [List.getElem_toArray, List.getElem_cons_succ, List.getElem_cons_zero, Act.put, List.setIfInBounds_toArray, List.set_cons_zero, List.set_cons_succ]
                  refine wpAnyG_take' (i := 8) (v := ?v8_9hc) rfl (by kernel_rfl) (by kernel_rfl) (by kernel_rfl) (by kernel_rfl) (fun _ _ _ h => h) (Or.inl ⟨by rfl, ?hy8_9hc⟩) ⟨m0, m1, m2, m3, m4, m5, k3⟩ ?rest8_9hc
                  case hy8_9hc => intro w hSw; (try dsimp only at hSw); go_simp; (try with_reducible rfl)
                  case rest8_9hc =>
                  try simp only [List.getElem_toArray, List.getElem_cons_succ, List.getElem_cons_zero, Act.put, List.setIfInBounds_toArray, List.set_cons_zero, List.set_cons_succ]
                  refine wpAnyG_take' (i := 9) (v := ?v9_10hc) rfl (by kernel_rfl) (by kernel_rfl) (by kernel_rfl) (by kernel_rfl) (fun _ _ _ h => h) (Or.inl ⟨by rfl, ?hy9_10hc⟩) ⟨m0, m1, m2, m3, m4, m5, k3⟩ ?rest9_10hc
                  case hy9_10hc => intro w hSw; (try dsimp only at hSw); go_simp; (try with_reducible rfl)
                  case rest9_10hc =>
                  try simp only [List.getElem_toArray, List.getElem_cons_succ, List.getElem_cons_zero, Act.put, List.setIfInBounds_toArray, List.set_cons_zero, List.set_cons_succ]
                  refine wpAnyG_one (i := 10) (by kernel_rfl) rfl (fun K hK => ?_)
                  go_simp
                  refine hK.out _ _ (fun hno => by cases hno) ?_
                  clear K hK
                  try simp only [List.getElem_toArray, List.getElem_cons_succ, List.getElem_cons_zero, Act.put, List.setIfInBounds_toArray, List.set_cons_zero, List.set_cons_succ]
                  refine wpAnyG_done (by kernel_rfl) ?_ _
                  try simp only [List.getElem_toArray, List.getElem_cons_succ, List.getElem_cons_zero, Act.put, List.setIfInBounds_toArray, List.set_cons_zero, List.set_cons_succ]
                  clear hS z0 z1 z2 z3 z4 z5 g2 k2 k3 kf v0 v1 v2 v3 v4 v5 m0 m1 m2 m3 m4 m5 HAP
                  (try dsimp only); repeat' (first | go_values | go_skip | go_guarded | go_step | go_upon | go_back)
                  go_roundw
                  case rel => exact ⟨k + 1, false, F ++ [⟨true, ki, ra, rb, p0, p1, p2⟩], r4, 0, rfl, by go_num, by have := HQ.out.1; omega, by rw [List.length_append, HQ.out.2.1]; rfl, HQ.out.2.2.1, .inr (.inr ⟨rfl, rfl, HQ.out.2.2.2.1, by rw [HRR.out, show n - (k + 1) = j by have := HQ.out.2.2.2.2; omega]⟩), H15.out⟩
                  case measure => have := HQ.out.1; simp [intOf]; omega
              · obtain ⟨p, hkp⟩ : ∃ p, p + 1 = k := ⟨k - 1, by omega⟩
                obtain ⟨lc, hlc0⟩ : ∃ z, z = (F[p]'(by have := HQ.out.2.1; omega)).c := ⟨_, rfl⟩
                obtain ⟨-, bS, rfl, -⟩ := (H9.out.sw3).ssAt p (by have := HQ.out.2.1; omega)
                have HP : Hid (∃ h : p < F.length, (F[p]'h).c = lc) := Lib.hid ⟨by have := HQ.out.2.1; omega, hlc0.symm⟩
                clear hk0 hlc0
                by_cases hlc : (ki : Int) ≤ lc
                · skip
                  as_aux_lemma =>
                    have HMA := Lib.hid (may_any ki ra rb p0 p1 p2 H9.out.drew)
                    rw [hok] at HMA
                    obtain ⟨x0, x1, x2, x3, x4, x5⟩ := cells6z H9.out
                    have g0 := H9.out.sw2.cell (o := 0) rfl
                    have s0 := ss_c H9.out.sw3 p HP.out.1
                    rw [HP.out.2] at s0
                    have hgl : F.getLast? = some (F[p]'HP.out.1) := by rw [List.getLast?_eq_getElem?, show F.length - 1 = p by have := HQ.out.2.1; omega, List.getElem?_eq_getElem HP.out.1]
                    have dk0 : decide ((0 : Int) < (k : Int)) = true := decide_eq_true (by omega)
                    have dk00 : decide (0 < k) = true := decide_eq_true (by omega)
                    have wpp : IntKind.i64.wrap (p : Int) = (p : Int) := IntWalk.i64_in _ (by omega)
                    have pk : (p : Int) < (k : Int) := by omega
                    have p0' : (0 : Int) ≤ (p : Int) := by omega
                    have pk1 : (k : Int) - 1 = (p : Int) := by omega
                    have hRR : R = (none, 4) := HR.out.2.1 rfl (.inr ⟨_, hgl, by rw [HP.out.2]; exact hlc⟩)
                    have dl : decide ((ki : Int) ≤ lc) = true := decide_eq_true hlc
                    have HRR := Lib.hid hRR
                    clear hRR hkp HR hok hlc hgl
                    (try dsimp only); repeat' (first | go_values | go_skip | go_guarded | go_step | go_upon | go_back)
                    refine wp_region_G (fun w' => w'.cell? ⟨b9, 0, none⟩ = some (.int .i64 (ki : Int)) ∧ w'.cell? ⟨b9, 1, none⟩ = some (.int .i64 ra) ∧ w'.cell? ⟨b9, 2, none⟩ = some (.int .i64 rb) ∧ w'.cell? ⟨b9, 3, none⟩ = some (.int .i64 p0) ∧ w'.cell? ⟨b9, 4, none⟩ = some (.int .i64 p1) ∧ w'.cell? ⟨b9, 5, none⟩ = some (.int .i64 p2) ∧ w'.cell? ⟨t, 0, none⟩ = some (.slice (some ⟨bS, 0, none⟩) k c) ∧ w'.cell? ⟨bS, p * 6, none⟩ = some (.int .i64 lc)) [] (by kernel_rfl) ⟨x0, x1, x2, x3, x4, x5, g0, s0⟩ (fun hS => ?_)
                    try dsimp only at hS
                    refine wpAnyG_take' (i := 0) (v := ?v0_1gd) rfl (by kernel_rfl) (by kernel_rfl) (by kernel_rfl) (by kernel_rfl) (fun _ _ _ h => h) (Or.inl ⟨by rfl, ?hy0_1gd⟩) hS ?rest0_1gd
                    case hy0_1gd => intro w hSw; (try dsimp only at hSw); go_simp; (try with_reducible rfl)
                    case rest0_1gd =>
                    try simp only [List.getElem_toArray, List.getElem_cons_succ, List.getElem_cons_zero, Act.put, List.setIfInBounds_toArray, List.set_cons_zero, List.set_cons_succ]
                    refine wpAnyG_take' (i := 1) (v := ?v1_2gd) rfl (by kernel_rfl) (by kernel_rfl) (by kernel_rfl) (by kernel_rfl) (fun _ _ _ h => h) (Or.inl ⟨by rfl, ?hy1_2gd⟩) hS ?rest1_2gd
                    case hy1_2gd => intro w hSw; (try dsimp only at hSw); go_simp; (try with_reducible rfl)
                    case rest1_2gd =>
                    try simp only [List.getElem_toArray, List.getElem_cons_succ, List.getElem_cons_zero, Act.put, List.setIfInBounds_toArray, List.set_cons_zero, List.set_cons_succ]
                    refine wpAnyG_take' (i := 2) (v := ?v2_3gd) rfl (by kernel_rfl) (by kernel_rfl) (by kernel_rfl) (by kernel_rfl) (fun _ _ _ h => h) (Or.inl ⟨by rfl, ?hy2_3gd⟩) hS ?rest2_3gd
                    case hy2_3gd => intro w hSw; (try dsimp only at hSw); go_simp; (try with_reducible rfl)
                    case rest2_3gd =>
                    try simp only [List.getElem_toArray, List.getElem_cons_succ, List.getElem_cons_zero, Act.put, List.setIfInBounds_toArray, List.set_cons_zero, List.set_cons_succ]
                    refine wpAnyG_take' (i := 3) (v := ?v3_4gd) rfl (by kernel_rfl) (by kernel_rfl) (by kernel_rfl) (by kernel_rfl) (fun _ _ _ h => h) (Or.inl ⟨by rfl, ?hy3_4gd⟩) hS ?rest3_4gd
                    case hy3_4gd => intro w hSw; (try dsimp only at hSw); go_simp; (try with_reducible rfl)
                    case rest3_4gd =>
                    try simp only [List.getElem_toArray, List.getElem_cons_succ, List.getElem_cons_zero, Act.put, List.setIfInBounds_toArray, List.set_cons_zero, List.set_cons_succ]
                    refine wpAnyG_one (i := 4) (by kernel_rfl) rfl (fun K hK => ?_)
                    go_simp
                    refine Calls.mono HMA.out ?_
                    rintro r4 w10 ⟨rfl, h10⟩
                    obtain ⟨y0, y1, y2, y3, y4, y5⟩ := cells6z h10
                    have g1 := h10.sw2.cell (o := 0) rfl
                    have s1 := ss_c h10.sw3 p HP.out.1
                    rw [HP.out.2] at s1
                    have H10 := Lib.hid h10
                    clear h10 HMA H9
                    try dsimp only
                    repeat' (first | go_values | go_skip | go_guarded | go_step | go_upon | go_back)
                    refine hK.out _ _ (fun _ => ?hS5gd) ?rest5gd
                    case hS5gd => exact ⟨y0, y1, y2, y3, y4, y5, g1, s1⟩
                    clear K hK
                    try simp only [List.getElem_toArray, List.getElem_cons_succ, List.getElem_cons_zero, Act.put, List.setIfInBounds_toArray, List.set_cons_zero, List.set_cons_succ]
                    refine wpAnyG_take' (i := 5) (v := ?v5_6gd) rfl (by kernel_rfl) (by kernel_rfl) (by kernel_rfl) (by kernel_rfl) (fun _ _ _ h => h) (Or.inl ⟨by rfl, ?hy5_6gd⟩) ⟨y0, y1, y2, y3, y4, y5, g1, s1⟩ ?rest5_6gd
                    case hy5_6gd => intro w hSw; (try dsimp only at hSw); go_simp; (try with_reducible rfl)
                    case rest5_6gd =>
                    try simp only [List.getElem_toArray, List.getElem_cons_succ, List.getElem_cons_zero, Act.put, List.setIfInBounds_toArray, List.set_cons_zero, List.set_cons_succ]
                    refine wpAnyG_take' (i := 6) (v := ?v6_7gd) rfl (by kernel_rfl) (by kernel_rfl) (by kernel_rfl) (by kernel_rfl) (fun _ _ _ h => h) (Or.inl ⟨by rfl, ?hy6_7gd⟩) ⟨y0, y1, y2, y3, y4, y5, g1, s1⟩ ?rest6_7gd
                    case hy6_7gd => intro w hSw; (try dsimp only at hSw); go_simp; (try with_reducible rfl)
                    case rest6_7gd =>
                    try simp only [List.getElem_toArray, List.getElem_cons_succ, List.getElem_cons_zero, Act.put, List.setIfInBounds_toArray, List.set_cons_zero, List.set_cons_succ]
                    refine wpAnyG_take' (i := 7) (v := ?v7_8gd) rfl (by kernel_rfl) (by kernel_rfl) (by kernel_rfl) (by kernel_rfl) (fun _ _ _ h => h) (Or.inl ⟨by rfl, ?hy7_8gd⟩) ⟨y0, y1, y2, y3, y4, y5, g1, s1⟩ ?rest7_8gd
                    case hy7_8gd => intro w hSw; (try dsimp only at hSw); go_simp; (try with_reducible rfl)
                    case rest7_8gd =>
                    try simp only [List.getElem_toArray, List.getElem_cons_succ, List.getElem_cons_zero, Act.put, List.setIfInBounds_toArray, List.set_cons_zero, List.set_cons_succ]
                    refine wpAnyG_take' (i := 8) (v := ?v8_9gd) rfl (by kernel_rfl) (by kernel_rfl) (by kernel_rfl) (by kernel_rfl) (fun _ _ _ h => h) (Or.inl ⟨by rfl, ?hy8_9gd⟩) ⟨y0, y1, y2, y3, y4, y5, g1, s1⟩ ?rest8_9gd
                    case hy8_9gd => intro w hSw; (try dsimp only at hSw); go_simp; (try with_reducible rfl)
                    case rest8_9gd =>
                    try simp only [List.getElem_toArray, List.getElem_cons_succ, List.getElem_cons_zero, Act.put, List.setIfInBounds_toArray, List.set_cons_zero, List.set_cons_succ]
                    refine wpAnyG_take' (i := 9) (v := ?v9_10gd) rfl (by kernel_rfl) (by kernel_rfl) (by kernel_rfl) (by kernel_rfl) (fun _ _ _ h => h) (Or.inl ⟨by rfl, ?hy9_10gd⟩) ⟨y0, y1, y2, y3, y4, y5, g1, s1⟩ ?rest9_10gd
                    case hy9_10gd => intro w hSw; (try dsimp only at hSw); go_simp; (try with_reducible rfl)
                    case rest9_10gd =>
                    try simp only [List.getElem_toArray, List.getElem_cons_succ, List.getElem_cons_zero, Act.put, List.setIfInBounds_toArray, List.set_cons_zero, List.set_cons_succ]
                    refine wpAnyG_take' (i := 10) (v := ?v10_11gd) rfl (by kernel_rfl) (by kernel_rfl) (by kernel_rfl) (by kernel_rfl) (fun _ _ _ h => h) (Or.inl ⟨by rfl, ?hy10_11gd⟩) ⟨y0, y1, y2, y3, y4, y5, g1, s1⟩ ?rest10_11gd
                    case hy10_11gd => intro w hSw; (try dsimp only at hSw); go_simp; (try with_reducible rfl)
                    case rest10_11gd =>
                    try simp only [List.getElem_toArray, List.getElem_cons_succ, List.getElem_cons_zero, Act.put, List.setIfInBounds_toArray, List.set_cons_zero, List.set_cons_succ]
                    refine wpAnyG_take' (i := 11) (v := ?v11_12gd) rfl (by kernel_rfl) (by kernel_rfl) (by kernel_rfl) (by kernel_rfl) (fun _ _ _ h => h) (Or.inl ⟨by rfl, ?hy11_12gd⟩) ⟨y0, y1, y2, y3, y4, y5, g1, s1⟩ ?rest11_12gd
                    case hy11_12gd => intro w hSw; (try dsimp only at hSw); go_simp; (try with_reducible rfl)
                    case rest11_12gd =>
                    try simp only [List.getElem_toArray, List.getElem_cons_succ, List.getElem_cons_zero, Act.put, List.setIfInBounds_toArray, List.set_cons_zero, List.set_cons_succ]
                    refine wpAnyG_take' (i := 12) (v := ?v12_13gd) rfl (by kernel_rfl) (by kernel_rfl) (by kernel_rfl) (by kernel_rfl) (fun _ _ _ h => h) (Or.inl ⟨by rfl, ?hy12_13gd⟩) ⟨y0, y1, y2, y3, y4, y5, g1, s1⟩ ?rest12_13gd
                    case hy12_13gd => intro w hSw; (try dsimp only at hSw); go_simp; (try with_reducible rfl)
                    case rest12_13gd =>
                    try simp only [List.getElem_toArray, List.getElem_cons_succ, List.getElem_cons_zero, Act.put, List.setIfInBounds_toArray, List.set_cons_zero, List.set_cons_succ]
                    refine wpAnyG_take' (i := 13) (v := ?v13_14gd) rfl (by kernel_rfl) (by kernel_rfl) (by kernel_rfl) (by kernel_rfl) (fun _ _ _ h => h) (Or.inl ⟨by rfl, ?hy13_14gd⟩) ⟨y0, y1, y2, y3, y4, y5, g1, s1⟩ ?rest13_14gd
                    case hy13_14gd => intro w hSw; (try dsimp only at hSw); go_simp; (try with_reducible rfl)
                    case rest13_14gd =>
                    try simp only [List.getElem_toArray, List.getElem_cons_succ, List.getElem_cons_zero, Act.put, List.setIfInBounds_toArray, List.set_cons_zero, List.set_cons_succ]
                    refine wpAnyG_take' (i := 14) (v := ?v14_15gd) rfl (by kernel_rfl) (by kernel_rfl) (by kernel_rfl) (by kernel_rfl) (fun _ _ _ h => h) (Or.inl ⟨by rfl, ?hy14_15gd⟩) ⟨y0, y1, y2, y3, y4, y5, g1, s1⟩ ?rest14_15gd
                    case hy14_15gd => intro w hSw; (try dsimp only at hSw); go_simp; (try with_reducible rfl)
                    case rest14_15gd =>
                    try simp only [List.getElem_toArray, List.getElem_cons_succ, List.getElem_cons_zero, Act.put, List.setIfInBounds_toArray, List.set_cons_zero, List.set_cons_succ]
                    refine wpAnyG_take' (i := 15) (v := ?v15_16gd) rfl (by kernel_rfl) (by kernel_rfl) (by kernel_rfl) (by kernel_rfl) (fun _ _ _ h => h) (Or.inl ⟨by rfl, ?hy15_16gd⟩) ⟨y0, y1, y2, y3, y4, y5, g1, s1⟩ ?rest15_16gd
                    case hy15_16gd => intro w hSw; (try dsimp only at hSw); go_simp; (try with_reducible rfl)
                    case rest15_16gd =>
                    try simp only [List.getElem_toArray, List.getElem_cons_succ, List.getElem_cons_zero, Act.put, List.setIfInBounds_toArray, List.set_cons_zero, List.set_cons_succ]
                    refine wpAnyG_take' (i := 16) (v := ?v16_17gd) rfl (by kernel_rfl) (by kernel_rfl) (by kernel_rfl) (by kernel_rfl) (fun _ _ _ h => h) (Or.inl ⟨by rfl, ?hy16_17gd⟩) ⟨y0, y1, y2, y3, y4, y5, g1, s1⟩ ?rest16_17gd
                    case hy16_17gd => intro w hSw; (try dsimp only at hSw); go_simp; (try with_reducible rfl)
                    case rest16_17gd =>
                    try simp only [List.getElem_toArray, List.getElem_cons_succ, List.getElem_cons_zero, Act.put, List.setIfInBounds_toArray, List.set_cons_zero, List.set_cons_succ]
                    refine wpAnyG_take' (i := 17) (v := ?v17_18gd) rfl (by kernel_rfl) (by kernel_rfl) (by kernel_rfl) (by kernel_rfl) (fun _ _ _ h => h) (Or.inl ⟨by rfl, ?hy17_18gd⟩) ⟨y0, y1, y2, y3, y4, y5, g1, s1⟩ ?rest17_18gd
                    case hy17_18gd => intro w hSw; (try dsimp only at hSw); go_simp; (try with_reducible rfl)
                    case rest17_18gd =>
                    try simp only [List.getElem_toArray, List.getElem_cons_succ, List.getElem_cons_zero, Act.put, List.setIfInBounds_toArray, List.set_cons_zero, List.set_cons_succ]
                    refine wpAnyG_take' (i := 18) (v := ?v18_19gd) rfl (by kernel_rfl) (by kernel_rfl) (by kernel_rfl) (by kernel_rfl) (fun _ _ _ h => h) (Or.inl ⟨by rfl, ?hy18_19gd⟩) ⟨y0, y1, y2, y3, y4, y5, g1, s1⟩ ?rest18_19gd
                    case hy18_19gd => intro w hSw; (try dsimp only at hSw); go_simp; (try with_reducible rfl)
                    case rest18_19gd =>
                    try simp only [List.getElem_toArray, List.getElem_cons_succ, List.getElem_cons_zero, Act.put, List.setIfInBounds_toArray, List.set_cons_zero, List.set_cons_succ]
                    refine wpAnyG_take' (i := 19) (v := ?v19_20gd) rfl (by kernel_rfl) (by kernel_rfl) (by kernel_rfl) (by kernel_rfl) (fun _ _ _ h => h) (Or.inl ⟨by rfl, ?hy19_20gd⟩) ⟨y0, y1, y2, y3, y4, y5, g1, s1⟩ ?rest19_20gd
                    case hy19_20gd => intro w hSw; (try dsimp only at hSw); go_simp; (try with_reducible rfl)
                    case rest19_20gd =>
                    try simp only [List.getElem_toArray, List.getElem_cons_succ, List.getElem_cons_zero, Act.put, List.setIfInBounds_toArray, List.set_cons_zero, List.set_cons_succ]
                    refine wpAnyG_take' (i := 20) (v := ?v20_21gd) rfl (by kernel_rfl) (by kernel_rfl) (by kernel_rfl) (by kernel_rfl) (fun _ _ _ h => h) (Or.inl ⟨by rfl, ?hy20_21gd⟩) ⟨y0, y1, y2, y3, y4, y5, g1, s1⟩ ?rest20_21gd
                    case hy20_21gd => intro w hSw; (try dsimp only at hSw); go_simp; (try with_reducible rfl)
                    case rest20_21gd =>
                    try simp only [List.getElem_toArray, List.getElem_cons_succ, List.getElem_cons_zero, Act.put, List.setIfInBounds_toArray, List.set_cons_zero, List.set_cons_succ]
                    refine wpAnyG_take' (i := 21) (v := ?v21_22gd) rfl (by kernel_rfl) (by kernel_rfl) (by kernel_rfl) (by kernel_rfl) (fun _ _ _ h => h) (Or.inl ⟨by rfl, ?hy21_22gd⟩) ⟨y0, y1, y2, y3, y4, y5, g1, s1⟩ ?rest21_22gd
                    case hy21_22gd => intro w hSw; (try dsimp only at hSw); go_simp; (try with_reducible rfl)
                    case rest21_22gd =>
                    try simp only [List.getElem_toArray, List.getElem_cons_succ, List.getElem_cons_zero, Act.put, List.setIfInBounds_toArray, List.set_cons_zero, List.set_cons_succ]
                    refine wpAnyG_take' (i := 22) (v := ?v22_23gd) rfl (by kernel_rfl) (by kernel_rfl) (by kernel_rfl) (by kernel_rfl) (fun _ _ _ h => h) (Or.inl ⟨by rfl, ?hy22_23gd⟩) ⟨y0, y1, y2, y3, y4, y5, g1, s1⟩ ?rest22_23gd
                    case hy22_23gd => intro w hSw; (try dsimp only at hSw); go_simp; (try with_reducible rfl)
                    case rest22_23gd =>
                    try simp only [List.getElem_toArray, List.getElem_cons_succ, List.getElem_cons_zero, Act.put, List.setIfInBounds_toArray, List.set_cons_zero, List.set_cons_succ]
                    refine wpAnyG_take' (i := 23) (v := ?v23_24gd) rfl (by kernel_rfl) (by kernel_rfl) (by kernel_rfl) (by kernel_rfl) (fun _ _ _ h => h) (Or.inl ⟨by rfl, ?hy23_24gd⟩) ⟨y0, y1, y2, y3, y4, y5, g1, s1⟩ ?rest23_24gd
                    case hy23_24gd => intro w hSw; (try dsimp only at hSw); go_simp; (try with_reducible rfl)
                    case rest23_24gd =>
                    try simp only [List.getElem_toArray, List.getElem_cons_succ, List.getElem_cons_zero, Act.put, List.setIfInBounds_toArray, List.set_cons_zero, List.set_cons_succ]
                    refine wpAnyG_take' (i := 24) (v := ?v24_25gd) rfl (by kernel_rfl) (by kernel_rfl) (by kernel_rfl) (by kernel_rfl) (fun _ _ _ h => h) (Or.inl ⟨by rfl, ?hy24_25gd⟩) ⟨y0, y1, y2, y3, y4, y5, g1, s1⟩ ?rest24_25gd
                    case hy24_25gd => intro w hSw; (try dsimp only at hSw); go_simp; (try with_reducible rfl)
                    case rest24_25gd =>
                    try simp only [List.getElem_toArray, List.getElem_cons_succ, List.getElem_cons_zero, Act.put, List.setIfInBounds_toArray, List.set_cons_zero, List.set_cons_succ]
                    refine wpAnyG_take' (i := 25) (v := ?v25_26gd) rfl (by kernel_rfl) (by kernel_rfl) (by kernel_rfl) (by kernel_rfl) (fun _ _ _ h => h) (Or.inl ⟨by rfl, ?hy25_26gd⟩) ⟨y0, y1, y2, y3, y4, y5, g1, s1⟩ ?rest25_26gd
                    case hy25_26gd => intro w hSw; (try dsimp only at hSw); go_simp; (try with_reducible rfl)
                    case rest25_26gd =>
                    try simp only [List.getElem_toArray, List.getElem_cons_succ, List.getElem_cons_zero, Act.put, List.setIfInBounds_toArray, List.set_cons_zero, List.set_cons_succ]
                    refine wpAnyG_take' (i := 26) (v := ?v26_27gd) rfl (by kernel_rfl) (by kernel_rfl) (by kernel_rfl) (by kernel_rfl) (fun _ _ _ h => h) (Or.inl ⟨by rfl, ?hy26_27gd⟩) ⟨y0, y1, y2, y3, y4, y5, g1, s1⟩ ?rest26_27gd
                    case hy26_27gd => intro w hSw; (try dsimp only at hSw); go_simp; (try with_reducible rfl)
                    case rest26_27gd =>
                    try simp only [List.getElem_toArray, List.getElem_cons_succ, List.getElem_cons_zero, Act.put, List.setIfInBounds_toArray, List.set_cons_zero, List.set_cons_succ]
                    refine wpAnyG_take' (i := 27) (v := ?v27_28gd) rfl (by kernel_rfl) (by kernel_rfl) (by kernel_rfl) (by kernel_rfl) (fun _ _ _ h => h) (Or.inl ⟨by rfl, ?hy27_28gd⟩) ⟨y0, y1, y2, y3, y4, y5, g1, s1⟩ ?rest27_28gd
                    case hy27_28gd => intro w hSw; (try dsimp only at hSw); go_simp; (try with_reducible rfl)
                    case rest27_28gd =>
                    try simp only [List.getElem_toArray, List.getElem_cons_succ, List.getElem_cons_zero, Act.put, List.setIfInBounds_toArray, List.set_cons_zero, List.set_cons_succ]
                    refine wpAnyG_take' (i := 28) (v := ?v28_29gd) rfl (by kernel_rfl) (by kernel_rfl) (by kernel_rfl) (by kernel_rfl) (fun _ _ _ h => h) (Or.inl ⟨by rfl, ?hy28_29gd⟩) ⟨y0, y1, y2, y3, y4, y5, g1, s1⟩ ?rest28_29gd
                    case hy28_29gd => intro w hSw; (try dsimp only at hSw); go_simp; (try with_reducible rfl)
                    case rest28_29gd =>
                    try simp only [List.getElem_toArray, List.getElem_cons_succ, List.getElem_cons_zero, Act.put, List.setIfInBounds_toArray, List.set_cons_zero, List.set_cons_succ]
                    refine wpAnyG_take' (i := 29) (v := ?v29_30gd) rfl (by kernel_rfl) (by kernel_rfl) (by kernel_rfl) (by kernel_rfl) (fun _ _ _ h => h) (Or.inl ⟨by rfl, ?hy29_30gd⟩) ⟨y0, y1, y2, y3, y4, y5, g1, s1⟩ ?rest29_30gd
                    case hy29_30gd => intro w hSw; (try dsimp only at hSw); go_simp; (try with_reducible rfl)
                    case rest29_30gd =>
                    try simp only [List.getElem_toArray, List.getElem_cons_succ, List.getElem_cons_zero, Act.put, List.setIfInBounds_toArray, List.set_cons_zero, List.set_cons_succ]
                    refine wpAnyG_take' (i := 30) (v := ?v30_31gd) rfl (by kernel_rfl) (by kernel_rfl) (by kernel_rfl) (by kernel_rfl) (fun _ _ _ h => h) (Or.inl ⟨by rfl, ?hy30_31gd⟩) ⟨y0, y1, y2, y3, y4, y5, g1, s1⟩ ?rest30_31gd
                    case hy30_31gd => intro w hSw; (try dsimp only at hSw); go_simp; (try with_reducible rfl)
                    case rest30_31gd =>
                    try simp only [List.getElem_toArray, List.getElem_cons_succ, List.getElem_cons_zero, Act.put, List.setIfInBounds_toArray, List.set_cons_zero, List.set_cons_succ]
                    refine wpAnyG_take' (i := 31) (v := ?v31_32gd) rfl (by kernel_rfl) (by kernel_rfl) (by kernel_rfl) (by kernel_rfl) (fun _ _ _ h => h) (Or.inl ⟨by rfl, ?hy31_32gd⟩) ⟨y0, y1, y2, y3, y4, y5, g1, s1⟩ ?rest31_32gd
                    case hy31_32gd => intro w hSw; (try dsimp only at hSw); go_simp; (try with_reducible rfl)
                    case rest31_32gd =>
                    try simp only [List.getElem_toArray, List.getElem_cons_succ, List.getElem_cons_zero, Act.put, List.setIfInBounds_toArray, List.set_cons_zero, List.set_cons_succ]
                    refine wpAnyG_take' (i := 32) (v := ?v32_33gd) rfl (by kernel_rfl) (by kernel_rfl) (by kernel_rfl) (by kernel_rfl) (fun _ _ _ h => h) (Or.inl ⟨by rfl, ?hy32_33gd⟩) ⟨y0, y1, y2, y3, y4, y5, g1, s1⟩ ?rest32_33gd
                    case hy32_33gd => intro w hSw; (try dsimp only at hSw); go_simp; (try with_reducible rfl)
                    case rest32_33gd =>
                    try simp only [List.getElem_toArray, List.getElem_cons_succ, List.getElem_cons_zero, Act.put, List.setIfInBounds_toArray, List.set_cons_zero, List.set_cons_succ]
                    refine wpAnyG_done (by kernel_rfl) ?_ _
                    try simp only [List.getElem_toArray, List.getElem_cons_succ, List.getElem_cons_zero, Act.put, List.setIfInBounds_toArray, List.set_cons_zero, List.set_cons_succ]
                    clear hS
                    clear x0 x1 x2 x3 x4 x5 y0 y1 y2 y3 y4 y5 g0 g1 s0 s1
                    (try dsimp only); repeat' (first | go_values | go_skip | go_guarded | go_step | go_upon | go_back)
                    have h11 := H10.out.drew
                    obtain ⟨z0, z1, z2, z3, z4, z5⟩ := cells6z h11
                    have g2 := h11.sw2.cell (o := 0) rfl
                    have h12 := h11.alloc (.cells #[.int .i64 ki, .int .i64 ra, .int .i64 rb, .int .i64 p0, .int .i64 p1, .int .i64 p2] 31)
                    obtain ⟨a9, c9, w12, hr, h13⟩ := append_seat (ty := 45) ⟨true, ki, ra, rb, p0, p1, p2⟩ (h12.pickL (M := [_, _, _, _, _]) [0, 3, 1, 2, 4] rfl) (by have := HQ.out.2.1; omega)
                    rw [HQ.out.2.1] at hr h13
                    have k2 := h12.sw3.cell (o := 0) rfl
                    have k3 := h13.sw3.cell (o := 0) rfl
                    have kf := h13.sw3.frozen 0
                    have h14 : Sep w0 (Cl t #[.slice a9 (k + 1) c9] 49 :: SsT (.slice a9 (k + 1) c9) (F ++ [⟨true, ki, ra, rb, p0, p1, p2⟩]) :: RrT g r4 0 :: L) (w12.setCell ⟨t, 0, none⟩ (.slice a9 (k + 1) c9)) := ((h13.sw3.setCell 0 (.slice a9 (k + 1) c9)).pickL (M := [_, _, _, _]) [0, 1, 3] rfl)
                    have h15 := h14.docClose.sw2
                    obtain ⟨v0, v1, v2, v3, v4, v5⟩ := cells6z (h12.sw2)
                    obtain ⟨m0, m1, m2, m3, m4, m5⟩ := cells6z (h13.sw2)
                    have H15 := Lib.hid h15
                    have HAP := Lib.hid hr
                    clear h11 h12 h13 h14 h15 hr
                    refine wp_region_G (fun w' => w'.cell? ⟨b9, 0, none⟩ = some (.int .i64 (ki : Int)) ∧ w'.cell? ⟨b9, 1, none⟩ = some (.int .i64 ra) ∧ w'.cell? ⟨b9, 2, none⟩ = some (.int .i64 rb) ∧ w'.cell? ⟨b9, 3, none⟩ = some (.int .i64 p0) ∧ w'.cell? ⟨b9, 4, none⟩ = some (.int .i64 p1) ∧ w'.cell? ⟨b9, 5, none⟩ = some (.int .i64 p2) ∧ w'.cell? ⟨t, 0, none⟩ = some (.slice (some ⟨bS, 0, none⟩) k c)) [10] (by kernel_rfl) ⟨z0, z1, z2, z3, z4, z5, g2⟩ (fun hS => ?_)
                    try dsimp only at hS
                    refine wpAnyG_take' (i := 0) (v := ?v0_1hd) rfl (by kernel_rfl) (by kernel_rfl) (by kernel_rfl) (by kernel_rfl) (fun _ _ _ h => h) (Or.inl ⟨by rfl, ?hy0_1hd⟩) hS ?rest0_1hd
                    case hy0_1hd => intro w hSw; (try dsimp only at hSw); go_simp; (try with_reducible rfl)
                    case rest0_1hd =>
                    try simp only [List.getElem_toArray, List.getElem_cons_succ, List.getElem_cons_zero, Act.put, List.setIfInBounds_toArray, List.set_cons_zero, List.set_cons_succ]
                    refine wpAnyG_take' (i := 1) (v := ?v1_2hd) rfl (by kernel_rfl) (by kernel_rfl) (by kernel_rfl) (by kernel_rfl) (fun _ _ _ h => h) (Or.inl ⟨by rfl, ?hy1_2hd⟩) hS ?rest1_2hd
                    case hy1_2hd => intro w hSw; (try dsimp only at hSw); go_simp; (try with_reducible rfl)
                    case rest1_2hd =>
                    try simp only [List.getElem_toArray, List.getElem_cons_succ, List.getElem_cons_zero, Act.put, List.setIfInBounds_toArray, List.set_cons_zero, List.set_cons_succ]
                    refine wpAnyG_take' (i := 2) (v := ?v2_3hd) rfl (by kernel_rfl) (by kernel_rfl) (by kernel_rfl) (by kernel_rfl) (fun _ _ _ h => h) (Or.inl ⟨by rfl, ?hy2_3hd⟩) hS ?rest2_3hd
                    case hy2_3hd => intro w hSw; (try dsimp only at hSw); go_simp; (try with_reducible rfl)
                    case rest2_3hd =>
                    try simp only [List.getElem_toArray, List.getElem_cons_succ, List.getElem_cons_zero, Act.put, List.setIfInBounds_toArray, List.set_cons_zero, List.set_cons_succ]
                    refine wpAnyG_take' (i := 3) (v := ?v3_4hd) rfl (by kernel_rfl) (by kernel_rfl) (by kernel_rfl) (by kernel_rfl) (fun _ _ _ h => h) (Or.inl ⟨by rfl, ?hy3_4hd⟩) hS ?rest3_4hd
                    case hy3_4hd => intro w hSw; (try dsimp only at hSw); go_simp; (try with_reducible rfl)
                    case rest3_4hd =>
                    try simp only [List.getElem_toArray, List.getElem_cons_succ, List.getElem_cons_zero, Act.put, List.setIfInBounds_toArray, List.set_cons_zero, List.set_cons_succ]
                    refine wpAnyG_take' (i := 4) (v := ?v4_5hd) rfl (by kernel_rfl) (by kernel_rfl) (by kernel_rfl) (by kernel_rfl) (fun _ _ _ h => h) (Or.inl ⟨by rfl, ?hy4_5hd⟩) hS ?rest4_5hd
                    case hy4_5hd => intro w hSw; (try dsimp only at hSw); go_simp; (try with_reducible rfl)
                    case rest4_5hd =>
                    try simp only [List.getElem_toArray, List.getElem_cons_succ, List.getElem_cons_zero, Act.put, List.setIfInBounds_toArray, List.set_cons_zero, List.set_cons_succ]
                    refine wpAnyG_take' (i := 5) (v := ?v5_6hd) rfl (by kernel_rfl) (by kernel_rfl) (by kernel_rfl) (by kernel_rfl) (fun _ _ _ h => h) (Or.inl ⟨by rfl, ?hy5_6hd⟩) hS ?rest5_6hd
                    case hy5_6hd => intro w hSw; (try dsimp only at hSw); go_simp; (try with_reducible rfl)
                    case rest5_6hd =>
                    try simp only [List.getElem_toArray, List.getElem_cons_succ, List.getElem_cons_zero, Act.put, List.setIfInBounds_toArray, List.set_cons_zero, List.set_cons_succ]
                    refine wpAnyG_one (i := 6) (by kernel_rfl) rfl (fun K hK => ?_)
                    refine step_buildS rfl _ rfl rfl ?_
                    refine hK.out _ _ (fun _ => ?hS7hd) ?rest7hd
                    case hS7hd => exact ⟨v0, v1, v2, v3, v4, v5, k2⟩
                    clear K hK
                    try simp only [List.getElem_toArray, List.getElem_cons_succ, List.getElem_cons_zero, Act.put, List.setIfInBounds_toArray, List.set_cons_zero, List.set_cons_succ]
                    refine wpAnyG_one (i := 7) (by kernel_rfl) rfl (fun K hK => ?_)
                    refine step_append_run (by rfl) (.tmp 93) (.tmp 95) 45 45 (by rfl) _ _ (by rfl) (by rfl) HAP.out ?_
                    refine hK.out _ _ (fun _ => ?hS8hd) ?rest8hd
                    case hS8hd => exact ⟨m0, m1, m2, m3, m4, m5, k3⟩
                    clear K hK
                    try simp only [List.getElem_toArray, List.getElem_cons_succ, List.getElem_cons_zero, Act.put, List.setIfInBounds_toArray, List.set_cons_zero, List.set_cons_succ]
                    refine wpAnyG_take' (i := 8) (v := ?v8_9hd) rfl (by kernel_rfl) (by kernel_rfl) (by kernel_rfl) (by kernel_rfl) (fun _ _ _ h => h) (Or.inl ⟨by rfl, ?hy8_9hd⟩) ⟨m0, m1, m2, m3, m4, m5, k3⟩ ?rest8_9hd
                    case hy8_9hd => intro w hSw; (try dsimp only at hSw); go_simp; (try with_reducible rfl)
                    case rest8_9hd =>
                    try simp only [List.getElem_toArray, List.getElem_cons_succ, List.getElem_cons_zero, Act.put, List.setIfInBounds_toArray, List.set_cons_zero, List.set_cons_succ]
                    refine wpAnyG_take' (i := 9) (v := ?v9_10hd) rfl (by kernel_rfl) (by kernel_rfl) (by kernel_rfl) (by kernel_rfl) (fun _ _ _ h => h) (Or.inl ⟨by rfl, ?hy9_10hd⟩) ⟨m0, m1, m2, m3, m4, m5, k3⟩ ?rest9_10hd
                    case hy9_10hd => intro w hSw; (try dsimp only at hSw); go_simp; (try with_reducible rfl)
                    case rest9_10hd =>
                    try simp only [List.getElem_toArray, List.getElem_cons_succ, List.getElem_cons_zero, Act.put, List.setIfInBounds_toArray, List.set_cons_zero, List.set_cons_succ]
                    refine wpAnyG_one (i := 10) (by kernel_rfl) rfl (fun K hK => ?_)
                    go_simp
                    refine hK.out _ _ (fun hno => by cases hno) ?_
                    clear K hK
                    try simp only [List.getElem_toArray, List.getElem_cons_succ, List.getElem_cons_zero, Act.put, List.setIfInBounds_toArray, List.set_cons_zero, List.set_cons_succ]
                    refine wpAnyG_done (by kernel_rfl) ?_ _
                    try simp only [List.getElem_toArray, List.getElem_cons_succ, List.getElem_cons_zero, Act.put, List.setIfInBounds_toArray, List.set_cons_zero, List.set_cons_succ]
                    clear hS z0 z1 z2 z3 z4 z5 g2 k2 k3 kf v0 v1 v2 v3 v4 v5 m0 m1 m2 m3 m4 m5 HAP
                    (try dsimp only); repeat' (first | go_values | go_skip | go_guarded | go_step | go_upon | go_back)
                    go_roundw
                    case rel => exact ⟨k + 1, true, F ++ [⟨true, ki, ra, rb, p0, p1, p2⟩], r4, 0, rfl, by go_num, by have := HQ.out.1; omega, by rw [List.length_append, HQ.out.2.1]; rfl, HQ.out.2.2.1, .inr (.inl ⟨rfl, rfl, HRR.out⟩), H15.out⟩
                    case measure => have := HQ.out.1; simp [intOf]; omega
                · skip
                  as_aux_lemma =>
                    have HMA := Lib.hid (may_any ki ra rb p0 p1 p2 H9.out.drew)
                    rw [hok] at HMA
                    obtain ⟨x0, x1, x2, x3, x4, x5⟩ := cells6z H9.out
                    have g0 := H9.out.sw2.cell (o := 0) rfl
                    have s0 := ss_c H9.out.sw3 p HP.out.1
                    rw [HP.out.2] at s0
                    have hgl : F.getLast? = some (F[p]'HP.out.1) := by rw [List.getLast?_eq_getElem?, show F.length - 1 = p by have := HQ.out.2.1; omega, List.getElem?_eq_getElem HP.out.1]
                    have dk0 : decide ((0 : Int) < (k : Int)) = true := decide_eq_true (by omega)
                    have dk00 : decide (0 < k) = true := decide_eq_true (by omega)
                    have wpp : IntKind.i64.wrap (p : Int) = (p : Int) := IntWalk.i64_in _ (by omega)
                    have pk : (p : Int) < (k : Int) := by omega
                    have p0' : (0 : Int) ≤ (p : Int) := by omega
                    have pk1 : (k : Int) - 1 = (p : Int) := by omega
                    have hRR : R = docLoop j (F ++ [⟨true, ki, ra, rb, p0, p1, p2⟩]) r4 := HR.out.2.2 rfl (by rintro (h9 | ⟨s9, h8, h9⟩); (simp [hok] at h9); (rw [hgl] at h8; cases h8; rw [HP.out.2] at h9; exact hlc h9))
                    have dl : decide ((ki : Int) ≤ lc) = false := decide_eq_false hlc
                    have HRR := Lib.hid hRR
                    clear hRR hkp HR hok hlc hgl
                    (try dsimp only); repeat' (first | go_values | go_skip | go_guarded | go_step | go_upon | go_back)
                    refine wp_region_G (fun w' => w'.cell? ⟨b9, 0, none⟩ = some (.int .i64 (ki : Int)) ∧ w'.cell? ⟨b9, 1, none⟩ = some (.int .i64 ra) ∧ w'.cell? ⟨b9, 2, none⟩ = some (.int .i64 rb) ∧ w'.cell? ⟨b9, 3, none⟩ = some (.int .i64 p0) ∧ w'.cell? ⟨b9, 4, none⟩ = some (.int .i64 p1) ∧ w'.cell? ⟨b9, 5, none⟩ = some (.int .i64 p2) ∧ w'.cell? ⟨t, 0, none⟩ = some (.slice (some ⟨bS, 0, none⟩) k c) ∧ w'.cell? ⟨bS, p * 6, none⟩ = some (.int .i64 lc)) [] (by kernel_rfl) ⟨x0, x1, x2, x3, x4, x5, g0, s0⟩ (fun hS => ?_)
                    try dsimp only at hS
                    refine wpAnyG_take' (i := 0) (v := ?v0_1ge) rfl (by kernel_rfl) (by kernel_rfl) (by kernel_rfl) (by kernel_rfl) (fun _ _ _ h => h) (Or.inl ⟨by rfl, ?hy0_1ge⟩) hS ?rest0_1ge
                    case hy0_1ge => intro w hSw; (try dsimp only at hSw); go_simp; (try with_reducible rfl)
                    case rest0_1ge =>
                    try simp only [List.getElem_toArray, List.getElem_cons_succ, List.getElem_cons_zero, Act.put, List.setIfInBounds_toArray, List.set_cons_zero, List.set_cons_succ]
                    refine wpAnyG_take' (i := 1) (v := ?v1_2ge) rfl (by kernel_rfl) (by kernel_rfl) (by kernel_rfl) (by kernel_rfl) (fun _ _ _ h => h) (Or.inl ⟨by rfl, ?hy1_2ge⟩) hS ?rest1_2ge
                    case hy1_2ge => intro w hSw; (try dsimp only at hSw); go_simp; (try with_reducible rfl)
                    case rest1_2ge =>
                    try simp only [List.getElem_toArray, List.getElem_cons_succ, List.getElem_cons_zero, Act.put, List.setIfInBounds_toArray, List.set_cons_zero, List.set_cons_succ]
                    refine wpAnyG_take' (i := 2) (v := ?v2_3ge) rfl (by kernel_rfl) (by kernel_rfl) (by kernel_rfl) (by kernel_rfl) (fun _ _ _ h => h) (Or.inl ⟨by rfl, ?hy2_3ge⟩) hS ?rest2_3ge
                    case hy2_3ge => intro w hSw; (try dsimp only at hSw); go_simp; (try with_reducible rfl)
                    case rest2_3ge =>
                    try simp only [List.getElem_toArray, List.getElem_cons_succ, List.getElem_cons_zero, Act.put, List.setIfInBounds_toArray, List.set_cons_zero, List.set_cons_succ]
                    refine wpAnyG_take' (i := 3) (v := ?v3_4ge) rfl (by kernel_rfl) (by kernel_rfl) (by kernel_rfl) (by kernel_rfl) (fun _ _ _ h => h) (Or.inl ⟨by rfl, ?hy3_4ge⟩) hS ?rest3_4ge
                    case hy3_4ge => intro w hSw; (try dsimp only at hSw); go_simp; (try with_reducible rfl)
                    case rest3_4ge =>
                    try simp only [List.getElem_toArray, List.getElem_cons_succ, List.getElem_cons_zero, Act.put, List.setIfInBounds_toArray, List.set_cons_zero, List.set_cons_succ]
                    refine wpAnyG_one (i := 4) (by kernel_rfl) rfl (fun K hK => ?_)
                    go_simp
                    refine Calls.mono HMA.out ?_
                    rintro r4 w10 ⟨rfl, h10⟩
                    obtain ⟨y0, y1, y2, y3, y4, y5⟩ := cells6z h10
                    have g1 := h10.sw2.cell (o := 0) rfl
                    have s1 := ss_c h10.sw3 p HP.out.1
                    rw [HP.out.2] at s1
                    have H10 := Lib.hid h10
                    clear h10 HMA H9
                    try dsimp only
                    repeat' (first | go_values | go_skip | go_guarded | go_step | go_upon | go_back)
                    refine hK.out _ _ (fun _ => ?hS5ge) ?rest5ge
                    case hS5ge => exact ⟨y0, y1, y2, y3, y4, y5, g1, s1⟩
                    clear K hK
                    try simp only [List.getElem_toArray, List.getElem_cons_succ, List.getElem_cons_zero, Act.put, List.setIfInBounds_toArray, List.set_cons_zero, List.set_cons_succ]
                    refine wpAnyG_take' (i := 5) (v := ?v5_6ge) rfl (by kernel_rfl) (by kernel_rfl) (by kernel_rfl) (by kernel_rfl) (fun _ _ _ h => h) (Or.inl ⟨by rfl, ?hy5_6ge⟩) ⟨y0, y1, y2, y3, y4, y5, g1, s1⟩ ?rest5_6ge
                    case hy5_6ge => intro w hSw; (try dsimp only at hSw); go_simp; (try with_reducible rfl)
                    case rest5_6ge =>
                    try simp only [List.getElem_toArray, List.getElem_cons_succ, List.getElem_cons_zero, Act.put, List.setIfInBounds_toArray, List.set_cons_zero, List.set_cons_succ]
                    refine wpAnyG_take' (i := 6) (v := ?v6_7ge) rfl (by kernel_rfl) (by kernel_rfl) (by kernel_rfl) (by kernel_rfl) (fun _ _ _ h => h) (Or.inl ⟨by rfl, ?hy6_7ge⟩) ⟨y0, y1, y2, y3, y4, y5, g1, s1⟩ ?rest6_7ge
                    case hy6_7ge => intro w hSw; (try dsimp only at hSw); go_simp; (try with_reducible rfl)
                    case rest6_7ge =>
                    try simp only [List.getElem_toArray, List.getElem_cons_succ, List.getElem_cons_zero, Act.put, List.setIfInBounds_toArray, List.set_cons_zero, List.set_cons_succ]
                    refine wpAnyG_take' (i := 7) (v := ?v7_8ge) rfl (by kernel_rfl) (by kernel_rfl) (by kernel_rfl) (by kernel_rfl) (fun _ _ _ h => h) (Or.inl ⟨by rfl, ?hy7_8ge⟩) ⟨y0, y1, y2, y3, y4, y5, g1, s1⟩ ?rest7_8ge
                    case hy7_8ge => intro w hSw; (try dsimp only at hSw); go_simp; (try with_reducible rfl)
                    case rest7_8ge =>
                    try simp only [List.getElem_toArray, List.getElem_cons_succ, List.getElem_cons_zero, Act.put, List.setIfInBounds_toArray, List.set_cons_zero, List.set_cons_succ]
                    refine wpAnyG_take' (i := 8) (v := ?v8_9ge) rfl (by kernel_rfl) (by kernel_rfl) (by kernel_rfl) (by kernel_rfl) (fun _ _ _ h => h) (Or.inl ⟨by rfl, ?hy8_9ge⟩) ⟨y0, y1, y2, y3, y4, y5, g1, s1⟩ ?rest8_9ge
                    case hy8_9ge => intro w hSw; (try dsimp only at hSw); go_simp; (try with_reducible rfl)
                    case rest8_9ge =>
                    try simp only [List.getElem_toArray, List.getElem_cons_succ, List.getElem_cons_zero, Act.put, List.setIfInBounds_toArray, List.set_cons_zero, List.set_cons_succ]
                    refine wpAnyG_take' (i := 9) (v := ?v9_10ge) rfl (by kernel_rfl) (by kernel_rfl) (by kernel_rfl) (by kernel_rfl) (fun _ _ _ h => h) (Or.inl ⟨by rfl, ?hy9_10ge⟩) ⟨y0, y1, y2, y3, y4, y5, g1, s1⟩ ?rest9_10ge
                    case hy9_10ge => intro w hSw; (try dsimp only at hSw); go_simp; (try with_reducible rfl)
                    case rest9_10ge =>
                    try simp only [List.getElem_toArray, List.getElem_cons_succ, List.getElem_cons_zero, Act.put, List.setIfInBounds_toArray, List.set_cons_zero, List.set_cons_succ]
                    refine wpAnyG_take' (i := 10) (v := ?v10_11ge) rfl (by kernel_rfl) (by kernel_rfl) (by kernel_rfl) (by kernel_rfl) (fun _ _ _ h => h) (Or.inl ⟨by rfl, ?hy10_11ge⟩) ⟨y0, y1, y2, y3, y4, y5, g1, s1⟩ ?rest10_11ge
                    case hy10_11ge => intro w hSw; (try dsimp only at hSw); go_simp; (try with_reducible rfl)
                    case rest10_11ge =>
                    try simp only [List.getElem_toArray, List.getElem_cons_succ, List.getElem_cons_zero, Act.put, List.setIfInBounds_toArray, List.set_cons_zero, List.set_cons_succ]
                    refine wpAnyG_take' (i := 11) (v := ?v11_12ge) rfl (by kernel_rfl) (by kernel_rfl) (by kernel_rfl) (by kernel_rfl) (fun _ _ _ h => h) (Or.inl ⟨by rfl, ?hy11_12ge⟩) ⟨y0, y1, y2, y3, y4, y5, g1, s1⟩ ?rest11_12ge
                    case hy11_12ge => intro w hSw; (try dsimp only at hSw); go_simp; (try with_reducible rfl)
                    case rest11_12ge =>
                    try simp only [List.getElem_toArray, List.getElem_cons_succ, List.getElem_cons_zero, Act.put, List.setIfInBounds_toArray, List.set_cons_zero, List.set_cons_succ]
                    refine wpAnyG_take' (i := 12) (v := ?v12_13ge) rfl (by kernel_rfl) (by kernel_rfl) (by kernel_rfl) (by kernel_rfl) (fun _ _ _ h => h) (Or.inl ⟨by rfl, ?hy12_13ge⟩) ⟨y0, y1, y2, y3, y4, y5, g1, s1⟩ ?rest12_13ge
                    case hy12_13ge => intro w hSw; (try dsimp only at hSw); go_simp; (try with_reducible rfl)
                    case rest12_13ge =>
                    try simp only [List.getElem_toArray, List.getElem_cons_succ, List.getElem_cons_zero, Act.put, List.setIfInBounds_toArray, List.set_cons_zero, List.set_cons_succ]
                    refine wpAnyG_take' (i := 13) (v := ?v13_14ge) rfl (by kernel_rfl) (by kernel_rfl) (by kernel_rfl) (by kernel_rfl) (fun _ _ _ h => h) (Or.inl ⟨by rfl, ?hy13_14ge⟩) ⟨y0, y1, y2, y3, y4, y5, g1, s1⟩ ?rest13_14ge
                    case hy13_14ge => intro w hSw; (try dsimp only at hSw); go_simp; (try with_reducible rfl)
                    case rest13_14ge =>
                    try simp only [List.getElem_toArray, List.getElem_cons_succ, List.getElem_cons_zero, Act.put, List.setIfInBounds_toArray, List.set_cons_zero, List.set_cons_succ]
                    refine wpAnyG_take' (i := 14) (v := ?v14_15ge) rfl (by kernel_rfl) (by kernel_rfl) (by kernel_rfl) (by kernel_rfl) (fun _ _ _ h => h) (Or.inl ⟨by rfl, ?hy14_15ge⟩) ⟨y0, y1, y2, y3, y4, y5, g1, s1⟩ ?rest14_15ge
                    case hy14_15ge => intro w hSw; (try dsimp only at hSw); go_simp; (try with_reducible rfl)
                    case rest14_15ge =>
                    try simp only [List.getElem_toArray, List.getElem_cons_succ, List.getElem_cons_zero, Act.put, List.setIfInBounds_toArray, List.set_cons_zero, List.set_cons_succ]
                    refine wpAnyG_take' (i := 15) (v := ?v15_16ge) rfl (by kernel_rfl) (by kernel_rfl) (by kernel_rfl) (by kernel_rfl) (fun _ _ _ h => h) (Or.inl ⟨by rfl, ?hy15_16ge⟩) ⟨y0, y1, y2, y3, y4, y5, g1, s1⟩ ?rest15_16ge
                    case hy15_16ge => intro w hSw; (try dsimp only at hSw); go_simp; (try with_reducible rfl)
                    case rest15_16ge =>
                    try simp only [List.getElem_toArray, List.getElem_cons_succ, List.getElem_cons_zero, Act.put, List.setIfInBounds_toArray, List.set_cons_zero, List.set_cons_succ]
                    refine wpAnyG_take' (i := 16) (v := ?v16_17ge) rfl (by kernel_rfl) (by kernel_rfl) (by kernel_rfl) (by kernel_rfl) (fun _ _ _ h => h) (Or.inl ⟨by rfl, ?hy16_17ge⟩) ⟨y0, y1, y2, y3, y4, y5, g1, s1⟩ ?rest16_17ge
                    case hy16_17ge => intro w hSw; (try dsimp only at hSw); go_simp; (try with_reducible rfl)
                    case rest16_17ge =>
                    try simp only [List.getElem_toArray, List.getElem_cons_succ, List.getElem_cons_zero, Act.put, List.setIfInBounds_toArray, List.set_cons_zero, List.set_cons_succ]
                    refine wpAnyG_take' (i := 17) (v := ?v17_18ge) rfl (by kernel_rfl) (by kernel_rfl) (by kernel_rfl) (by kernel_rfl) (fun _ _ _ h => h) (Or.inl ⟨by rfl, ?hy17_18ge⟩) ⟨y0, y1, y2, y3, y4, y5, g1, s1⟩ ?rest17_18ge
                    case hy17_18ge => intro w hSw; (try dsimp only at hSw); go_simp; (try with_reducible rfl)
                    case rest17_18ge =>
                    try simp only [List.getElem_toArray, List.getElem_cons_succ, List.getElem_cons_zero, Act.put, List.setIfInBounds_toArray, List.set_cons_zero, List.set_cons_succ]
                    refine wpAnyG_take' (i := 18) (v := ?v18_19ge) rfl (by kernel_rfl) (by kernel_rfl) (by kernel_rfl) (by kernel_rfl) (fun _ _ _ h => h) (Or.inl ⟨by rfl, ?hy18_19ge⟩) ⟨y0, y1, y2, y3, y4, y5, g1, s1⟩ ?rest18_19ge
                    case hy18_19ge => intro w hSw; (try dsimp only at hSw); go_simp; (try with_reducible rfl)
                    case rest18_19ge =>
                    try simp only [List.getElem_toArray, List.getElem_cons_succ, List.getElem_cons_zero, Act.put, List.setIfInBounds_toArray, List.set_cons_zero, List.set_cons_succ]
                    refine wpAnyG_take' (i := 19) (v := ?v19_20ge) rfl (by kernel_rfl) (by kernel_rfl) (by kernel_rfl) (by kernel_rfl) (fun _ _ _ h => h) (Or.inl ⟨by rfl, ?hy19_20ge⟩) ⟨y0, y1, y2, y3, y4, y5, g1, s1⟩ ?rest19_20ge
                    case hy19_20ge => intro w hSw; (try dsimp only at hSw); go_simp; (try with_reducible rfl)
                    case rest19_20ge =>
                    try simp only [List.getElem_toArray, List.getElem_cons_succ, List.getElem_cons_zero, Act.put, List.setIfInBounds_toArray, List.set_cons_zero, List.set_cons_succ]
                    refine wpAnyG_take' (i := 20) (v := ?v20_21ge) rfl (by kernel_rfl) (by kernel_rfl) (by kernel_rfl) (by kernel_rfl) (fun _ _ _ h => h) (Or.inl ⟨by rfl, ?hy20_21ge⟩) ⟨y0, y1, y2, y3, y4, y5, g1, s1⟩ ?rest20_21ge
                    case hy20_21ge => intro w hSw; (try dsimp only at hSw); go_simp; (try with_reducible rfl)
                    case rest20_21ge =>
                    try simp only [List.getElem_toArray, List.getElem_cons_succ, List.getElem_cons_zero, Act.put, List.setIfInBounds_toArray, List.set_cons_zero, List.set_cons_succ]
                    refine wpAnyG_take' (i := 21) (v := ?v21_22ge) rfl (by kernel_rfl) (by kernel_rfl) (by kernel_rfl) (by kernel_rfl) (fun _ _ _ h => h) (Or.inl ⟨by rfl, ?hy21_22ge⟩) ⟨y0, y1, y2, y3, y4, y5, g1, s1⟩ ?rest21_22ge
                    case hy21_22ge => intro w hSw; (try dsimp only at hSw); go_simp; (try with_reducible rfl)
                    case rest21_22ge =>
                    try simp only [List.getElem_toArray, List.getElem_cons_succ, List.getElem_cons_zero, Act.put, List.setIfInBounds_toArray, List.set_cons_zero, List.set_cons_succ]
                    refine wpAnyG_take' (i := 22) (v := ?v22_23ge) rfl (by kernel_rfl) (by kernel_rfl) (by kernel_rfl) (by kernel_rfl) (fun _ _ _ h => h) (Or.inl ⟨by rfl, ?hy22_23ge⟩) ⟨y0, y1, y2, y3, y4, y5, g1, s1⟩ ?rest22_23ge
                    case hy22_23ge => intro w hSw; (try dsimp only at hSw); go_simp; (try with_reducible rfl)
                    case rest22_23ge =>
                    try simp only [List.getElem_toArray, List.getElem_cons_succ, List.getElem_cons_zero, Act.put, List.setIfInBounds_toArray, List.set_cons_zero, List.set_cons_succ]
                    refine wpAnyG_take' (i := 23) (v := ?v23_24ge) rfl (by kernel_rfl) (by kernel_rfl) (by kernel_rfl) (by kernel_rfl) (fun _ _ _ h => h) (Or.inl ⟨by rfl, ?hy23_24ge⟩) ⟨y0, y1, y2, y3, y4, y5, g1, s1⟩ ?rest23_24ge
                    case hy23_24ge => intro w hSw; (try dsimp only at hSw); go_simp; (try with_reducible rfl)
                    case rest23_24ge =>
                    try simp only [List.getElem_toArray, List.getElem_cons_succ, List.getElem_cons_zero, Act.put, List.setIfInBounds_toArray, List.set_cons_zero, List.set_cons_succ]
                    refine wpAnyG_take' (i := 24) (v := ?v24_25ge) rfl (by kernel_rfl) (by kernel_rfl) (by kernel_rfl) (by kernel_rfl) (fun _ _ _ h => h) (Or.inl ⟨by rfl, ?hy24_25ge⟩) ⟨y0, y1, y2, y3, y4, y5, g1, s1⟩ ?rest24_25ge
                    case hy24_25ge => intro w hSw; (try dsimp only at hSw); go_simp; (try with_reducible rfl)
                    case rest24_25ge =>
                    try simp only [List.getElem_toArray, List.getElem_cons_succ, List.getElem_cons_zero, Act.put, List.setIfInBounds_toArray, List.set_cons_zero, List.set_cons_succ]
                    refine wpAnyG_take' (i := 25) (v := ?v25_26ge) rfl (by kernel_rfl) (by kernel_rfl) (by kernel_rfl) (by kernel_rfl) (fun _ _ _ h => h) (Or.inl ⟨by rfl, ?hy25_26ge⟩) ⟨y0, y1, y2, y3, y4, y5, g1, s1⟩ ?rest25_26ge
                    case hy25_26ge => intro w hSw; (try dsimp only at hSw); go_simp; (try with_reducible rfl)
                    case rest25_26ge =>
                    try simp only [List.getElem_toArray, List.getElem_cons_succ, List.getElem_cons_zero, Act.put, List.setIfInBounds_toArray, List.set_cons_zero, List.set_cons_succ]
                    refine wpAnyG_take' (i := 26) (v := ?v26_27ge) rfl (by kernel_rfl) (by kernel_rfl) (by kernel_rfl) (by kernel_rfl) (fun _ _ _ h => h) (Or.inl ⟨by rfl, ?hy26_27ge⟩) ⟨y0, y1, y2, y3, y4, y5, g1, s1⟩ ?rest26_27ge
                    case hy26_27ge => intro w hSw; (try dsimp only at hSw); go_simp; (try with_reducible rfl)
                    case rest26_27ge =>
                    try simp only [List.getElem_toArray, List.getElem_cons_succ, List.getElem_cons_zero, Act.put, List.setIfInBounds_toArray, List.set_cons_zero, List.set_cons_succ]
                    refine wpAnyG_take' (i := 27) (v := ?v27_28ge) rfl (by kernel_rfl) (by kernel_rfl) (by kernel_rfl) (by kernel_rfl) (fun _ _ _ h => h) (Or.inl ⟨by rfl, ?hy27_28ge⟩) ⟨y0, y1, y2, y3, y4, y5, g1, s1⟩ ?rest27_28ge
                    case hy27_28ge => intro w hSw; (try dsimp only at hSw); go_simp; (try with_reducible rfl)
                    case rest27_28ge =>
                    try simp only [List.getElem_toArray, List.getElem_cons_succ, List.getElem_cons_zero, Act.put, List.setIfInBounds_toArray, List.set_cons_zero, List.set_cons_succ]
                    refine wpAnyG_take' (i := 28) (v := ?v28_29ge) rfl (by kernel_rfl) (by kernel_rfl) (by kernel_rfl) (by kernel_rfl) (fun _ _ _ h => h) (Or.inl ⟨by rfl, ?hy28_29ge⟩) ⟨y0, y1, y2, y3, y4, y5, g1, s1⟩ ?rest28_29ge
                    case hy28_29ge => intro w hSw; (try dsimp only at hSw); go_simp; (try with_reducible rfl)
                    case rest28_29ge =>
                    try simp only [List.getElem_toArray, List.getElem_cons_succ, List.getElem_cons_zero, Act.put, List.setIfInBounds_toArray, List.set_cons_zero, List.set_cons_succ]
                    refine wpAnyG_take' (i := 29) (v := ?v29_30ge) rfl (by kernel_rfl) (by kernel_rfl) (by kernel_rfl) (by kernel_rfl) (fun _ _ _ h => h) (Or.inl ⟨by rfl, ?hy29_30ge⟩) ⟨y0, y1, y2, y3, y4, y5, g1, s1⟩ ?rest29_30ge
                    case hy29_30ge => intro w hSw; (try dsimp only at hSw); go_simp; (try with_reducible rfl)
                    case rest29_30ge =>
                    try simp only [List.getElem_toArray, List.getElem_cons_succ, List.getElem_cons_zero, Act.put, List.setIfInBounds_toArray, List.set_cons_zero, List.set_cons_succ]
                    refine wpAnyG_take' (i := 30) (v := ?v30_31ge) rfl (by kernel_rfl) (by kernel_rfl) (by kernel_rfl) (by kernel_rfl) (fun _ _ _ h => h) (Or.inl ⟨by rfl, ?hy30_31ge⟩) ⟨y0, y1, y2, y3, y4, y5, g1, s1⟩ ?rest30_31ge
                    case hy30_31ge => intro w hSw; (try dsimp only at hSw); go_simp; (try with_reducible rfl)
                    case rest30_31ge =>
                    try simp only [List.getElem_toArray, List.getElem_cons_succ, List.getElem_cons_zero, Act.put, List.setIfInBounds_toArray, List.set_cons_zero, List.set_cons_succ]
                    refine wpAnyG_take' (i := 31) (v := ?v31_32ge) rfl (by kernel_rfl) (by kernel_rfl) (by kernel_rfl) (by kernel_rfl) (fun _ _ _ h => h) (Or.inl ⟨by rfl, ?hy31_32ge⟩) ⟨y0, y1, y2, y3, y4, y5, g1, s1⟩ ?rest31_32ge
                    case hy31_32ge => intro w hSw; (try dsimp only at hSw); go_simp; (try with_reducible rfl)
                    case rest31_32ge =>
                    try simp only [List.getElem_toArray, List.getElem_cons_succ, List.getElem_cons_zero, Act.put, List.setIfInBounds_toArray, List.set_cons_zero, List.set_cons_succ]
                    refine wpAnyG_take' (i := 32) (v := ?v32_33ge) rfl (by kernel_rfl) (by kernel_rfl) (by kernel_rfl) (by kernel_rfl) (fun _ _ _ h => h) (Or.inl ⟨by rfl, ?hy32_33ge⟩) ⟨y0, y1, y2, y3, y4, y5, g1, s1⟩ ?rest32_33ge
                    case hy32_33ge => intro w hSw; (try dsimp only at hSw); go_simp; (try with_reducible rfl)
                    case rest32_33ge =>
                    try simp only [List.getElem_toArray, List.getElem_cons_succ, List.getElem_cons_zero, Act.put, List.setIfInBounds_toArray, List.set_cons_zero, List.set_cons_succ]
                    refine wpAnyG_done (by kernel_rfl) ?_ _
                    try simp only [List.getElem_toArray, List.getElem_cons_succ, List.getElem_cons_zero, Act.put, List.setIfInBounds_toArray, List.set_cons_zero, List.set_cons_succ]
                    clear hS
                    clear x0 x1 x2 x3 x4 x5 y0 y1 y2 y3 y4 y5 g0 g1 s0 s1
                    (try dsimp only); repeat' (first | go_values | go_skip | go_guarded | go_step | go_upon | go_back)
                    have h11 := H10.out.drew
                    obtain ⟨z0, z1, z2, z3, z4, z5⟩ := cells6z h11
                    have g2 := h11.sw2.cell (o := 0) rfl
                    have h12 := h11.alloc (.cells #[.int .i64 ki, .int .i64 ra, .int .i64 rb, .int .i64 p0, .int .i64 p1, .int .i64 p2] 31)
                    obtain ⟨a9, c9, w12, hr, h13⟩ := append_seat (ty := 45) ⟨true, ki, ra, rb, p0, p1, p2⟩ (h12.pickL (M := [_, _, _, _, _]) [0, 3, 1, 2, 4] rfl) (by have := HQ.out.2.1; omega)
                    rw [HQ.out.2.1] at hr h13
                    have k2 := h12.sw3.cell (o := 0) rfl
                    have k3 := h13.sw3.cell (o := 0) rfl
                    have kf := h13.sw3.frozen 0
                    have h14 : Sep w0 (Cl t #[.slice a9 (k + 1) c9] 49 :: SsT (.slice a9 (k + 1) c9) (F ++ [⟨true, ki, ra, rb, p0, p1, p2⟩]) :: RrT g r4 0 :: L) (w12.setCell ⟨t, 0, none⟩ (.slice a9 (k + 1) c9)) := ((h13.sw3.setCell 0 (.slice a9 (k + 1) c9)).pickL (M := [_, _, _, _]) [0, 1, 3] rfl)
                    have h15 := h14.docClose.sw2
                    obtain ⟨v0, v1, v2, v3, v4, v5⟩ := cells6z (h12.sw2)
                    obtain ⟨m0, m1, m2, m3, m4, m5⟩ := cells6z (h13.sw2)
                    have H15 := Lib.hid h15
                    have HAP := Lib.hid hr
                    clear h11 h12 h13 h14 h15 hr
                    refine wp_region_G (fun w' => w'.cell? ⟨b9, 0, none⟩ = some (.int .i64 (ki : Int)) ∧ w'.cell? ⟨b9, 1, none⟩ = some (.int .i64 ra) ∧ w'.cell? ⟨b9, 2, none⟩ = some (.int .i64 rb) ∧ w'.cell? ⟨b9, 3, none⟩ = some (.int .i64 p0) ∧ w'.cell? ⟨b9, 4, none⟩ = some (.int .i64 p1) ∧ w'.cell? ⟨b9, 5, none⟩ = some (.int .i64 p2) ∧ w'.cell? ⟨t, 0, none⟩ = some (.slice (some ⟨bS, 0, none⟩) k c)) [10] (by kernel_rfl) ⟨z0, z1, z2, z3, z4, z5, g2⟩ (fun hS => ?_)
                    try dsimp only at hS
                    refine wpAnyG_take' (i := 0) (v := ?v0_1he) rfl (by kernel_rfl) (by kernel_rfl) (by kernel_rfl) (by kernel_rfl) (fun _ _ _ h => h) (Or.inl ⟨by rfl, ?hy0_1he⟩) hS ?rest0_1he
                    case hy0_1he => intro w hSw; (try dsimp only at hSw); go_simp; (try with_reducible rfl)
                    case rest0_1he =>
                    try simp only [List.getElem_toArray, List.getElem_cons_succ, List.getElem_cons_zero, Act.put, List.setIfInBounds_toArray, List.set_cons_zero, List.set_cons_succ]
                    refine wpAnyG_take' (i := 1) (v := ?v1_2he) rfl (by kernel_rfl) (by kernel_rfl) (by kernel_rfl) (by kernel_rfl) (fun _ _ _ h => h) (Or.inl ⟨by rfl, ?hy1_2he⟩) hS ?rest1_2he
                    case hy1_2he => intro w hSw; (try dsimp only at hSw); go_simp; (try with_reducible rfl)
                    case rest1_2he =>
                    try simp only [List.getElem_toArray, List.getElem_cons_succ, List.getElem_cons_zero, Act.put, List.setIfInBounds_toArray, List.set_cons_zero, List.set_cons_succ]
                    refine wpAnyG_take' (i := 2) (v := ?v2_3he) rfl (by kernel_rfl) (by kernel_rfl) (by kernel_rfl) (by kernel_rfl) (fun _ _ _ h => h) (Or.inl ⟨by rfl, ?hy2_3he⟩) hS ?rest2_3he
                    case hy2_3he => intro w hSw; (try dsimp only at hSw); go_simp; (try with_reducible rfl)
                    case rest2_3he =>
                    try simp only [List.getElem_toArray, List.getElem_cons_succ, List.getElem_cons_zero, Act.put, List.setIfInBounds_toArray, List.set_cons_zero, List.set_cons_succ]
                    refine wpAnyG_take' (i := 3) (v := ?v3_4he) rfl (by kernel_rfl) (by kernel_rfl) (by kernel_rfl) (by kernel_rfl) (fun _ _ _ h => h) (Or.inl ⟨by rfl, ?hy3_4he⟩) hS ?rest3_4he
                    case hy3_4he => intro w hSw; (try dsimp only at hSw); go_simp; (try with_reducible rfl)
                    case rest3_4he =>
                    try simp only [List.getElem_toArray, List.getElem_cons_succ, List.getElem_cons_zero, Act.put, List.setIfInBounds_toArray, List.set_cons_zero, List.set_cons_succ]
                    refine wpAnyG_take' (i := 4) (v := ?v4_5he) rfl (by kernel_rfl) (by kernel_rfl) (by kernel_rfl) (by kernel_rfl) (fun _ _ _ h => h) (Or.inl ⟨by rfl, ?hy4_5he⟩) hS ?rest4_5he
                    case hy4_5he => intro w hSw; (try dsimp only at hSw); go_simp; (try with_reducible rfl)
                    case rest4_5he =>
                    try simp only [List.getElem_toArray, List.getElem_cons_succ, List.getElem_cons_zero, Act.put, List.setIfInBounds_toArray, List.set_cons_zero, List.set_cons_succ]
                    refine wpAnyG_take' (i := 5) (v := ?v5_6he) rfl (by kernel_rfl) (by kernel_rfl) (by kernel_rfl) (by kernel_rfl) (fun _ _ _ h => h) (Or.inl ⟨by rfl, ?hy5_6he⟩) hS ?rest5_6he
                    case hy5_6he => intro w hSw; (try dsimp only at hSw); go_simp; (try with_reducible rfl)
                    case rest5_6he =>
                    try simp only [List.getElem_toArray, List.getElem_cons_succ, List.getElem_cons_zero, Act.put, List.setIfInBounds_toArray, List.set_cons_zero, List.set_cons_succ]
                    refine wpAnyG_one (i := 6) (by kernel_rfl) rfl (fun K hK => ?_)
                    refine step_buildS rfl _ rfl rfl ?_
                    refine hK.out _ _ (fun _ => ?hS7he) ?rest7he
                    case hS7he => exact ⟨v0, v1, v2, v3, v4, v5, k2⟩
                    clear K hK
                    try simp only [List.getElem_toArray, List.getElem_cons_succ, List.getElem_cons_zero, Act.put, List.setIfInBounds_toArray, List.set_cons_zero, List.set_cons_succ]
                    refine wpAnyG_one (i := 7) (by kernel_rfl) rfl (fun K hK => ?_)
                    refine step_append_run (by rfl) (.tmp 93) (.tmp 95) 45 45 (by rfl) _ _ (by rfl) (by rfl) HAP.out ?_
                    refine hK.out _ _ (fun _ => ?hS8he) ?rest8he
                    case hS8he => exact ⟨m0, m1, m2, m3, m4, m5, k3⟩
                    clear K hK
                    try simp only [List.getElem_toArray, List.getElem_cons_succ, List.getElem_cons_zero, Act.put, List.setIfInBounds_toArray, List.set_cons_zero, List.set_cons_succ]
                    refine wpAnyG_take' (i := 8) (v := ?v8_9he) rfl (by kernel_rfl) (by kernel_rfl) (by kernel_rfl) (by kernel_rfl) (fun _ _ _ h => h) (Or.inl ⟨by rfl, ?hy8_9he⟩) ⟨m0, m1, m2, m3, m4, m5, k3⟩ ?rest8_9he
                    case hy8_9he => intro w hSw; (try dsimp only at hSw); go_simp; (try with_reducible rfl)
                    case rest8_9he =>
                    try simp only [List.getElem_toArray, List.getElem_cons_succ, List.getElem_cons_zero, Act.put, List.setIfInBounds_toArray, List.set_cons_zero, List.set_cons_succ]
                    refine wpAnyG_take' (i := 9) (v := ?v9_10he) rfl (by kernel_rfl) (by kernel_rfl) (by kernel_rfl) (by kernel_rfl) (fun _ _ _ h => h) (Or.inl ⟨by rfl, ?hy9_10he⟩) ⟨m0, m1, m2, m3, m4, m5, k3⟩ ?rest9_10he
                    case hy9_10he => intro w hSw; (try dsimp only at hSw); go_simp; (try with_reducible rfl)
                    case rest9_10he =>
                    try simp only [List.getElem_toArray, List.getElem_cons_succ, List.getElem_cons_zero, Act.put, List.setIfInBounds_toArray, List.set_cons_zero, List.set_cons_succ]
                    refine wpAnyG_one (i := 10) (by kernel_rfl) rfl (fun K hK => ?_)
                    go_simp
                    refine hK.out _ _ (fun hno => by cases hno) ?_
                    clear K hK
                    try simp only [List.getElem_toArray, List.getElem_cons_succ, List.getElem_cons_zero, Act.put, List.setIfInBounds_toArray, List.set_cons_zero, List.set_cons_succ]
                    refine wpAnyG_done (by kernel_rfl) ?_ _
                    try simp only [List.getElem_toArray, List.getElem_cons_succ, List.getElem_cons_zero, Act.put, List.setIfInBounds_toArray, List.set_cons_zero, List.set_cons_succ]
                    clear hS z0 z1 z2 z3 z4 z5 g2 k2 k3 kf v0 v1 v2 v3 v4 v5 m0 m1 m2 m3 m4 m5 HAP
                    (try dsimp only); repeat' (first | go_values | go_skip | go_guarded | go_step | go_upon | go_back)
                    go_roundw
                    case rel => exact ⟨k + 1, false, F ++ [⟨true, ki, ra, rb, p0, p1, p2⟩], r4, 0, rfl, by go_num, by have := HQ.out.1; omega, by rw [List.length_append, HQ.out.2.1]; rfl, HQ.out.2.2.1, .inr (.inr ⟨rfl, rfl, HQ.out.2.2.2.1, by rw [HRR.out, show n - (k + 1) = j by have := HQ.out.2.2.2.2; omega]⟩), H15.out⟩
                    case measure => have := HQ.out.1; simp [intOf]; omega
          · skip
            as_aux_lemma =>
              have d2 : (pe != 0) = true := by rw [bne_iff_ne]; exact her
              have hRR : R = (none, 4) := by exact HR.out.2.1 rfl (.inl (by simp [her]))
              have HRR := Lib.hid hRR
              clear hRR HR her
              (try dsimp only); repeat' (first | go_values | go_skip | go_guarded | go_step | go_upon | go_back)
              refine wp_region_G (fun w' => True) [] (by kernel_rfl) trivial (fun hS => ?_)
              try dsimp only at hS
              refine wpAnyG_take' (i := 0) (v := ?v0_1ga) rfl (by kernel_rfl) (by kernel_rfl) (by kernel_rfl) (by kernel_rfl) (fun _ _ _ h => h) (Or.inl ⟨by rfl, ?hy0_1ga⟩) hS ?rest0_1ga
              case hy0_1ga => intro w hSw; (try dsimp only at hSw); go_simp; (try with_reducible rfl)
              case rest0_1ga =>
              try simp only [List.getElem_toArray, List.getElem_cons_succ, List.getElem_cons_zero, Act.put, List.setIfInBounds_toArray, List.set_cons_zero, List.set_cons_succ]
              refine wpAnyG_take' (i := 1) (v := ?v1_2ga) rfl (by kernel_rfl) (by kernel_rfl) (by kernel_rfl) (by kernel_rfl) (fun _ _ _ h => h) (Or.inl ⟨by rfl, ?hy1_2ga⟩) hS ?rest1_2ga
              case hy1_2ga => intro w hSw; (try dsimp only at hSw); go_simp; (try with_reducible rfl)
              case rest1_2ga =>
              try simp only [List.getElem_toArray, List.getElem_cons_succ, List.getElem_cons_zero, Act.put, List.setIfInBounds_toArray, List.set_cons_zero, List.set_cons_succ]
              refine wpAnyG_take' (i := 2) (v := ?v2_3ga) rfl (by kernel_rfl) (by kernel_rfl) (by kernel_rfl) (by kernel_rfl) (fun _ _ _ h => h) (Or.inl ⟨by rfl, ?hy2_3ga⟩) hS ?rest2_3ga
              case hy2_3ga => intro w hSw; (try dsimp only at hSw); go_simp; (try with_reducible rfl)
              case rest2_3ga =>
              try simp only [List.getElem_toArray, List.getElem_cons_succ, List.getElem_cons_zero, Act.put, List.setIfInBounds_toArray, List.set_cons_zero, List.set_cons_succ]
              refine wpAnyG_take' (i := 3) (v := undef) rfl (by kernel_rfl) (by kernel_rfl) (by kernel_rfl) (by kernel_rfl) (fun _ _ _ h => h) (Or.inr ⟨by rfl, rfl⟩) hS ?rest3_4ga
              case rest3_4ga =>
              try simp only [List.getElem_toArray, List.getElem_cons_succ, List.getElem_cons_zero, Act.put, List.setIfInBounds_toArray, List.set_cons_zero, List.set_cons_succ]
              refine wpAnyG_take' (i := 4) (v := undef) rfl (by kernel_rfl) (by kernel_rfl) (by kernel_rfl) (by kernel_rfl) (fun _ _ _ h => h) (Or.inr ⟨by rfl, rfl⟩) hS ?rest4_5ga
              case rest4_5ga =>
              try simp only [List.getElem_toArray, List.getElem_cons_succ, List.getElem_cons_zero, Act.put, List.setIfInBounds_toArray, List.set_cons_zero, List.set_cons_succ]
              refine wpAnyG_take' (i := 5) (v := undef) rfl (by kernel_rfl) (by kernel_rfl) (by kernel_rfl) (by kernel_rfl) (fun _ _ _ h => h) (Or.inr ⟨by rfl, rfl⟩) hS ?rest5_6ga
              case rest5_6ga =>
              try simp only [List.getElem_toArray, List.getElem_cons_succ, List.getElem_cons_zero, Act.put, List.setIfInBounds_toArray, List.set_cons_zero, List.set_cons_succ]
              refine wpAnyG_take' (i := 6) (v := ?v6_7ga) rfl (by kernel_rfl) (by kernel_rfl) (by kernel_rfl) (by kernel_rfl) (fun _ _ _ h => h) (Or.inl ⟨by rfl, ?hy6_7ga⟩) hS ?rest6_7ga
              case hy6_7ga => intro w hSw; (try dsimp only at hSw); go_simp; (try with_reducible rfl)
              case rest6_7ga =>
              try simp only [List.getElem_toArray, List.getElem_cons_succ, List.getElem_cons_zero, Act.put, List.setIfInBounds_toArray, List.set_cons_zero, List.set_cons_succ]
              refine wpAnyG_take' (i := 7) (v := ?v7_8ga) rfl (by kernel_rfl) (by kernel_rfl) (by kernel_rfl) (by kernel_rfl) (fun _ _ _ h => h) (Or.inl ⟨by rfl, ?hy7_8ga⟩) hS ?rest7_8ga
              case hy7_8ga => intro w hSw; (try dsimp only at hSw); go_simp; (try with_reducible rfl)
              case rest7_8ga =>
              try simp only [List.getElem_toArray, List.getElem_cons_succ, List.getElem_cons_zero, Act.put, List.setIfInBounds_toArray, List.set_cons_zero, List.set_cons_succ]
              refine wpAnyG_take' (i := 8) (v := undef) rfl (by kernel_rfl) (by kernel_rfl) (by kernel_rfl) (by kernel_rfl) (fun _ _ _ h => h) (Or.inr ⟨by rfl, rfl⟩) hS ?rest8_9ga
              case rest8_9ga =>
              try simp only [List.getElem_toArray, List.getElem_cons_succ, List.getElem_cons_zero, Act.put, List.setIfInBounds_toArray, List.set_cons_zero, List.set_cons_succ]
              refine wpAnyG_take' (i := 9) (v := undef) rfl (by kernel_rfl) (by kernel_rfl) (by kernel_rfl) (by kernel_rfl) (fun _ _ _ h => h) (Or.inr ⟨by rfl, rfl⟩) hS ?rest9_10ga
              case rest9_10ga =>
              try simp only [List.getElem_toArray, List.getElem_cons_succ, List.getElem_cons_zero, Act.put, List.setIfInBounds_toArray, List.set_cons_zero, List.set_cons_succ]
              refine wpAnyG_take' (i := 10) (v := undef) rfl (by kernel_rfl) (by kernel_rfl) (by kernel_rfl) (by kernel_rfl) (fun _ _ _ h => h) (Or.inr ⟨by rfl, rfl⟩) hS ?rest10_11ga
              case rest10_11ga =>
              try simp only [List.getElem_toArray, List.getElem_cons_succ, List.getElem_cons_zero, Act.put, List.setIfInBounds_toArray, List.set_cons_zero, List.set_cons_succ]
              refine wpAnyG_take' (i := 11) (v := undef) rfl (by kernel_rfl) (by kernel_rfl) (by kernel_rfl) (by kernel_rfl) (fun _ _ _ h => h) (Or.inr ⟨by rfl, rfl⟩) hS ?rest11_12ga
              case rest11_12ga =>
              try simp only [List.getElem_toArray, List.getElem_cons_succ, List.getElem_cons_zero, Act.put, List.setIfInBounds_toArray, List.set_cons_zero, List.set_cons_succ]
              refine wpAnyG_take' (i := 12) (v := undef) rfl (by kernel_rfl) (by kernel_rfl) (by kernel_rfl) (by kernel_rfl) (fun _ _ _ h => h) (Or.inr ⟨by rfl, rfl⟩) hS ?rest12_13ga
              case rest12_13ga =>
              try simp only [List.getElem_toArray, List.getElem_cons_succ, List.getElem_cons_zero, Act.put, List.setIfInBounds_toArray, List.set_cons_zero, List.set_cons_succ]
              refine wpAnyG_take' (i := 13) (v := undef) rfl (by kernel_rfl) (by kernel_rfl) (by kernel_rfl) (by kernel_rfl) (fun _ _ _ h => h) (Or.inr ⟨by rfl, rfl⟩) hS ?rest13_14ga
              case rest13_14ga =>
              try simp only [List.getElem_toArray, List.getElem_cons_succ, List.getElem_cons_zero, Act.put, List.setIfInBounds_toArray, List.set_cons_zero, List.set_cons_succ]
              refine wpAnyG_take' (i := 14) (v := undef) rfl (by kernel_rfl) (by kernel_rfl) (by kernel_rfl) (by kernel_rfl) (fun _ _ _ h => h) (Or.inr ⟨by rfl, rfl⟩) hS ?rest14_15ga
              case rest14_15ga =>
              try simp only [List.getElem_toArray, List.getElem_cons_succ, List.getElem_cons_zero, Act.put, List.setIfInBounds_toArray, List.set_cons_zero, List.set_cons_succ]
              refine wpAnyG_take' (i := 15) (v := undef) rfl (by kernel_rfl) (by kernel_rfl) (by kernel_rfl) (by kernel_rfl) (fun _ _ _ h => h) (Or.inr ⟨by rfl, rfl⟩) hS ?rest15_16ga
              case rest15_16ga =>
              try simp only [List.getElem_toArray, List.getElem_cons_succ, List.getElem_cons_zero, Act.put, List.setIfInBounds_toArray, List.set_cons_zero, List.set_cons_succ]
              refine wpAnyG_take' (i := 16) (v := undef) rfl (by kernel_rfl) (by kernel_rfl) (by kernel_rfl) (by kernel_rfl) (fun _ _ _ h => h) (Or.inr ⟨by rfl, rfl⟩) hS ?rest16_17ga
              case rest16_17ga =>
              try simp only [List.getElem_toArray, List.getElem_cons_succ, List.getElem_cons_zero, Act.put, List.setIfInBounds_toArray, List.set_cons_zero, List.set_cons_succ]
              refine wpAnyG_take' (i := 17) (v := undef) rfl (by kernel_rfl) (by kernel_rfl) (by kernel_rfl) (by kernel_rfl) (fun _ _ _ h => h) (Or.inr ⟨by rfl, rfl⟩) hS ?rest17_18ga
              case rest17_18ga =>
              try simp only [List.getElem_toArray, List.getElem_cons_succ, List.getElem_cons_zero, Act.put, List.setIfInBounds_toArray, List.set_cons_zero, List.set_cons_succ]
              refine wpAnyG_take' (i := 18) (v := undef) rfl (by kernel_rfl) (by kernel_rfl) (by kernel_rfl) (by kernel_rfl) (fun _ _ _ h => h) (Or.inr ⟨by rfl, rfl⟩) hS ?rest18_19ga
              case rest18_19ga =>
              try simp only [List.getElem_toArray, List.getElem_cons_succ, List.getElem_cons_zero, Act.put, List.setIfInBounds_toArray, List.set_cons_zero, List.set_cons_succ]
              refine wpAnyG_take' (i := 19) (v := undef) rfl (by kernel_rfl) (by kernel_rfl) (by kernel_rfl) (by kernel_rfl) (fun _ _ _ h => h) (Or.inr ⟨by rfl, rfl⟩) hS ?rest19_20ga
              case rest19_20ga =>
              try simp only [List.getElem_toArray, List.getElem_cons_succ, List.getElem_cons_zero, Act.put, List.setIfInBounds_toArray, List.set_cons_zero, List.set_cons_succ]
              refine wpAnyG_take' (i := 20) (v := undef) rfl (by kernel_rfl) (by kernel_rfl) (by kernel_rfl) (by kernel_rfl) (fun _ _ _ h => h) (Or.inr ⟨by rfl, rfl⟩) hS ?rest20_21ga
              case rest20_21ga =>
              try simp only [List.getElem_toArray, List.getElem_cons_succ, List.getElem_cons_zero, Act.put, List.setIfInBounds_toArray, List.set_cons_zero, List.set_cons_succ]
              refine wpAnyG_take' (i := 21) (v := undef) rfl (by kernel_rfl) (by kernel_rfl) (by kernel_rfl) (by kernel_rfl) (fun _ _ _ h => h) (Or.inr ⟨by rfl, rfl⟩) hS ?rest21_22ga
              case rest21_22ga =>
              try simp only [List.getElem_toArray, List.getElem_cons_succ, List.getElem_cons_zero, Act.put, List.setIfInBounds_toArray, List.set_cons_zero, List.set_cons_succ]
              refine wpAnyG_take' (i := 22) (v := undef) rfl (by kernel_rfl) (by kernel_rfl) (by kernel_rfl) (by kernel_rfl) (fun _ _ _ h => h) (Or.inr ⟨by rfl, rfl⟩) hS ?rest22_23ga
              case rest22_23ga =>
              try simp only [List.getElem_toArray, List.getElem_cons_succ, List.getElem_cons_zero, Act.put, List.setIfInBounds_toArray, List.set_cons_zero, List.set_cons_succ]
              refine wpAnyG_take' (i := 23) (v := undef) rfl (by kernel_rfl) (by kernel_rfl) (by kernel_rfl) (by kernel_rfl) (fun _ _ _ h => h) (Or.inr ⟨by rfl, rfl⟩) hS ?rest23_24ga
              case rest23_24ga =>
              try simp only [List.getElem_toArray, List.getElem_cons_succ, List.getElem_cons_zero, Act.put, List.setIfInBounds_toArray, List.set_cons_zero, List.set_cons_succ]
              refine wpAnyG_take' (i := 24) (v := undef) rfl (by kernel_rfl) (by kernel_rfl) (by kernel_rfl) (by kernel_rfl) (fun _ _ _ h => h) (Or.inr ⟨by rfl, rfl⟩) hS ?rest24_25ga
              case rest24_25ga =>
              try simp only [List.getElem_toArray, List.getElem_cons_succ, List.getElem_cons_zero, Act.put, List.setIfInBounds_toArray, List.set_cons_zero, List.set_cons_succ]
              refine wpAnyG_take' (i := 25) (v := undef) rfl (by kernel_rfl) (by kernel_rfl) (by kernel_rfl) (by kernel_rfl) (fun _ _ _ h => h) (Or.inr ⟨by rfl, rfl⟩) hS ?rest25_26ga
              case rest25_26ga =>
              try simp only [List.getElem_toArray, List.getElem_cons_succ, List.getElem_cons_zero, Act.put, List.setIfInBounds_toArray, List.set_cons_zero, List.set_cons_succ]
              refine wpAnyG_take' (i := 26) (v := undef) rfl (by kernel_rfl) (by kernel_rfl) (by kernel_rfl) (by kernel_rfl) (fun _ _ _ h => h) (Or.inr ⟨by rfl, rfl⟩) hS ?rest26_27ga
              case rest26_27ga =>
              try simp only [List.getElem_toArray, List.getElem_cons_succ, List.getElem_cons_zero, Act.put, List.setIfInBounds_toArray, List.set_cons_zero, List.set_cons_succ]
              refine wpAnyG_take' (i := 27) (v := undef) rfl (by kernel_rfl) (by kernel_rfl) (by kernel_rfl) (by kernel_rfl) (fun _ _ _ h => h) (Or.inr ⟨by rfl, rfl⟩) hS ?rest27_28ga
              case rest27_28ga =>
              try simp only [List.getElem_toArray, List.getElem_cons_succ, List.getElem_cons_zero, Act.put, List.setIfInBounds_toArray, List.set_cons_zero, List.set_cons_succ]
              refine wpAnyG_take' (i := 28) (v := undef) rfl (by kernel_rfl) (by kernel_rfl) (by kernel_rfl) (by kernel_rfl) (fun _ _ _ h => h) (Or.inr ⟨by rfl, rfl⟩) hS ?rest28_29ga
              case rest28_29ga =>
              try simp only [List.getElem_toArray, List.getElem_cons_succ, List.getElem_cons_zero, Act.put, List.setIfInBounds_toArray, List.set_cons_zero, List.set_cons_succ]
              refine wpAnyG_take' (i := 29) (v := undef) rfl (by kernel_rfl) (by kernel_rfl) (by kernel_rfl) (by kernel_rfl) (fun _ _ _ h => h) (Or.inr ⟨by rfl, rfl⟩) hS ?rest29_30ga
              case rest29_30ga =>
              try simp only [List.getElem_toArray, List.getElem_cons_succ, List.getElem_cons_zero, Act.put, List.setIfInBounds_toArray, List.set_cons_zero, List.set_cons_succ]
              refine wpAnyG_take' (i := 30) (v := undef) rfl (by kernel_rfl) (by kernel_rfl) (by kernel_rfl) (by kernel_rfl) (fun _ _ _ h => h) (Or.inr ⟨by rfl, rfl⟩) hS ?rest30_31ga
              case rest30_31ga =>
              try simp only [List.getElem_toArray, List.getElem_cons_succ, List.getElem_cons_zero, Act.put, List.setIfInBounds_toArray, List.set_cons_zero, List.set_cons_succ]
              refine wpAnyG_take' (i := 31) (v := undef) rfl (by kernel_rfl) (by kernel_rfl) (by kernel_rfl) (by kernel_rfl) (fun _ _ _ h => h) (Or.inr ⟨by rfl, rfl⟩) hS ?rest31_32ga
              case rest31_32ga =>
              try simp only [List.getElem_toArray, List.getElem_cons_succ, List.getElem_cons_zero, Act.put, List.setIfInBounds_toArray, List.set_cons_zero, List.set_cons_succ]
              refine wpAnyG_take' (i := 32) (v := ?v32_33ga) rfl (by kernel_rfl) (by kernel_rfl) (by kernel_rfl) (by kernel_rfl) (fun _ _ _ h => h) (Or.inl ⟨by rfl, ?hy32_33ga⟩) hS ?rest32_33ga
              case hy32_33ga => intro w hSw; (try dsimp only at hSw); go_simp; (try with_reducible rfl)
              case rest32_33ga =>
              try simp only [List.getElem_toArray, List.getElem_cons_succ, List.getElem_cons_zero, Act.put, List.setIfInBounds_toArray, List.set_cons_zero, List.set_cons_succ]
              refine wpAnyG_done (by kernel_rfl) ?_ _
              try simp only [List.getElem_toArray, List.getElem_cons_succ, List.getElem_cons_zero, Act.put, List.setIfInBounds_toArray, List.set_cons_zero, List.set_cons_succ]
              clear hS
              (try dsimp only); repeat' (first | go_values | go_skip | go_guarded | go_step | go_upon | go_back)
              have H10 := Lib.hid H9.out.drew
              clear H9
              have h11 := H10.out.drew
              obtain ⟨z0, z1, z2, z3, z4, z5⟩ := cells6z h11
              have g2 := h11.sw2.cell (o := 0) rfl
              have h12 := h11.alloc (.cells #[.int .i64 ki, .int .i64 ra, .int .i64 rb, .int .i64 p0, .int .i64 p1, .int .i64 p2] 31)
              obtain ⟨a9, c9, w12, hr, h13⟩ := append_seat (ty := 45) ⟨true, ki, ra, rb, p0, p1, p2⟩ (h12.pickL (M := [_, _, _, _, _]) [0, 3, 1, 2, 4] rfl) (by have := HQ.out.2.1; omega)
              rw [HQ.out.2.1] at hr h13
              have k2 := h12.sw3.cell (o := 0) rfl
              have k3 := h13.sw3.cell (o := 0) rfl
              have kf := h13.sw3.frozen 0
              have h14 : Sep w0 (Cl t #[.slice a9 (k + 1) c9] 49 :: SsT (.slice a9 (k + 1) c9) (F ++ [⟨true, ki, ra, rb, p0, p1, p2⟩]) :: RrT g r4 0 :: L) (w12.setCell ⟨t, 0, none⟩ (.slice a9 (k + 1) c9)) := ((h13.sw3.setCell 0 (.slice a9 (k + 1) c9)).pickL (M := [_, _, _, _]) [0, 1, 3] rfl)
              have h15 := h14.docClose.sw2
              obtain ⟨v0, v1, v2, v3, v4, v5⟩ := cells6z (h12.sw2)
              obtain ⟨m0, m1, m2, m3, m4, m5⟩ := cells6z (h13.sw2)
              have H15 := Lib.hid h15
              have HAP := Lib.hid hr
              clear h11 h12 h13 h14 h15 hr
              refine wp_region_G (fun w' => w'.cell? ⟨b9, 0, none⟩ = some (.int .i64 (ki : Int)) ∧ w'.cell? ⟨b9, 1, none⟩ = some (.int .i64 ra) ∧ w'.cell? ⟨b9, 2, none⟩ = some (.int .i64 rb) ∧ w'.cell? ⟨b9, 3, none⟩ = some (.int .i64 p0) ∧ w'.cell? ⟨b9, 4, none⟩ = some (.int .i64 p1) ∧ w'.cell? ⟨b9, 5, none⟩ = some (.int .i64 p2) ∧ w'.cell? ⟨t, 0, none⟩ = some (.slice a k c)) [10] (by kernel_rfl) ⟨z0, z1, z2, z3, z4, z5, g2⟩ (fun hS => ?_)
              try dsimp only at hS
              refine wpAnyG_take' (i := 0) (v := ?v0_1ha) rfl (by kernel_rfl) (by kernel_rfl) (by kernel_rfl) (by kernel_rfl) (fun _ _ _ h => h) (Or.inl ⟨by rfl, ?hy0_1ha⟩) hS ?rest0_1ha
              case hy0_1ha => intro w hSw; (try dsimp only at hSw); go_simp; (try with_reducible rfl)
              case rest0_1ha =>
              try simp only [List.getElem_toArray, List.getElem_cons_succ, List.getElem_cons_zero, Act.put, List.setIfInBounds_toArray, List.set_cons_zero, List.set_cons_succ]
              refine wpAnyG_take' (i := 1) (v := ?v1_2ha) rfl (by kernel_rfl) (by kernel_rfl) (by kernel_rfl) (by kernel_rfl) (fun _ _ _ h => h) (Or.inl ⟨by rfl, ?hy1_2ha⟩) hS ?rest1_2ha
              case hy1_2ha => intro w hSw; (try dsimp only at hSw); go_simp; (try with_reducible rfl)
              case rest1_2ha =>
              try simp only [List.getElem_toArray, List.getElem_cons_succ, List.getElem_cons_zero, Act.put, List.setIfInBounds_toArray, List.set_cons_zero, List.set_cons_succ]
              refine wpAnyG_take' (i := 2) (v := ?v2_3ha) rfl (by kernel_rfl) (by kernel_rfl) (by kernel_rfl) (by kernel_rfl) (fun _ _ _ h => h) (Or.inl ⟨by rfl, ?hy2_3ha⟩) hS ?rest2_3ha
              case hy2_3ha => intro w hSw; (try dsimp only at hSw); go_simp; (try with_reducible rfl)
              case rest2_3ha =>
              try simp only [List.getElem_toArray, List.getElem_cons_succ, List.getElem_cons_zero, Act.put, List.setIfInBounds_toArray, List.set_cons_zero, List.set_cons_succ]
              refine wpAnyG_take' (i := 3) (v := ?v3_4ha) rfl (by kernel_rfl) (by kernel_rfl) (by kernel_rfl) (by kernel_rfl) (fun _ _ _ h => h) (Or.inl ⟨by rfl, ?hy3_4ha⟩) hS ?rest3_4ha
              case hy3_4ha => intro w hSw; (try dsimp only at hSw); go_simp; (try with_reducible rfl)
              case rest3_4ha =>
              try simp only [List.getElem_toArray, List.getElem_cons_succ, List.getElem_cons_zero, Act.put, List.setIfInBounds_toArray, List.set_cons_zero, List.set_cons_succ]
              refine wpAnyG_take' (i := 4) (v := ?v4_5ha) rfl (by kernel_rfl) (by kernel_rfl) (by kernel_rfl) (by kernel_rfl) (fun _ _ _ h => h) (Or.inl ⟨by rfl, ?hy4_5ha⟩) hS ?rest4_5ha
              case hy4_5ha => intro w hSw; (try dsimp only at hSw); go_simp; (try with_reducible rfl)
              case rest4_5ha =>
              try simp only [List.getElem_toArray, List.getElem_cons_succ, List.getElem_cons_zero, Act.put, List.setIfInBounds_toArray, List.set_cons_zero, List.set_cons_succ]
              refine wpAnyG_take' (i := 5) (v := ?v5_6ha) rfl (by kernel_rfl) (by kernel_rfl) (by kernel_rfl) (by kernel_rfl) (fun _ _ _ h => h) (Or.inl ⟨by rfl, ?hy5_6ha⟩) hS ?rest5_6ha
              case hy5_6ha => intro w hSw; (try dsimp only at hSw); go_simp; (try with_reducible rfl)
              case rest5_6ha =>
              try simp only [List.getElem_toArray, List.getElem_cons_succ, List.getElem_cons_zero, Act.put, List.setIfInBounds_toArray, List.set_cons_zero, List.set_cons_succ]
              refine wpAnyG_one (i := 6) (by kernel_rfl) rfl (fun K hK => ?_)
              refine step_buildS rfl _ rfl rfl ?_
              refine hK.out _ _ (fun _ => ?hS7ha) ?rest7ha
              case hS7ha => exact ⟨v0, v1, v2, v3, v4, v5, k2⟩
              clear K hK
              try simp only [List.getElem_toArray, List.getElem_cons_succ, List.getElem_cons_zero, Act.put, List.setIfInBounds_toArray, List.set_cons_zero, List.set_cons_succ]
              refine wpAnyG_one (i := 7) (by kernel_rfl) rfl (fun K hK => ?_)
              refine step_append_run (by rfl) (.tmp 93) (.tmp 95) 45 45 (by rfl) _ _ (by rfl) (by rfl) HAP.out ?_
              refine hK.out _ _ (fun _ => ?hS8ha) ?rest8ha
              case hS8ha => exact ⟨m0, m1, m2, m3, m4, m5, k3⟩
              clear K hK
              try simp only [List.getElem_toArray, List.getElem_cons_succ, List.getElem_cons_zero, Act.put, List.setIfInBounds_toArray, List.set_cons_zero, List.set_cons_succ]
              refine wpAnyG_take' (i := 8) (v := ?v8_9ha) rfl (by kernel_rfl) (by kernel_rfl) (by kernel_rfl) (by kernel_rfl) (fun _ _ _ h => h) (Or.inl ⟨by rfl, ?hy8_9ha⟩) ⟨m0, m1, m2, m3, m4, m5, k3⟩ ?rest8_9ha
              case hy8_9ha => intro w hSw; (try dsimp only at hSw); go_simp; (try with_reducible rfl)
              case rest8_9ha =>
              try simp only [List.getElem_toArray, List.getElem_cons_succ, List.getElem_cons_zero, Act.put, List.setIfInBounds_toArray, List.set_cons_zero, List.set_cons_succ]
              refine wpAnyG_take' (i := 9) (v := ?v9_10ha) rfl (by kernel_rfl) (by kernel_rfl) (by kernel_rfl) (by kernel_rfl) (fun _ _ _ h => h) (Or.inl ⟨by rfl, ?hy9_10ha⟩) ⟨m0, m1, m2, m3, m4, m5, k3⟩ ?rest9_10ha
              case hy9_10ha => intro w hSw; (try dsimp only at hSw); go_simp; (try with_reducible rfl)
              case rest9_10ha =>
              try simp only [List.getElem_toArray, List.getElem_cons_succ, List.getElem_cons_zero, Act.put, List.setIfInBounds_toArray, List.set_cons_zero, List.set_cons_succ]
              refine wpAnyG_one (i := 10) (by kernel_rfl) rfl (fun K hK => ?_)
              go_simp
              refine hK.out _ _ (fun hno => by cases hno) ?_
              clear K hK
              try simp only [List.getElem_toArray, List.getElem_cons_succ, List.getElem_cons_zero, Act.put, List.setIfInBounds_toArray, List.set_cons_zero, List.set_cons_succ]
              refine wpAnyG_done (by kernel_rfl) ?_ _
              try simp only [List.getElem_toArray, List.getElem_cons_succ, List.getElem_cons_zero, Act.put, List.setIfInBounds_toArray, List.set_cons_zero, List.set_cons_succ]
              clear hS z0 z1 z2 z3 z4 z5 g2 k2 k3 kf v0 v1 v2 v3 v4 v5 m0 m1 m2 m3 m4 m5 HAP
              (try dsimp only); repeat' (first | go_values | go_skip | go_guarded | go_step | go_upon | go_back)
              go_roundw
              case rel => exact ⟨k + 1, true, F ++ [⟨true, ki, ra, rb, p0, p1, p2⟩], r4, 0, rfl, by go_num, by have := HQ.out.1; omega, by rw [List.length_append, HQ.out.2.1]; rfl, HQ.out.2.2.1, .inr (.inl ⟨rfl, rfl, HRR.out⟩), H15.out⟩
              case measure => have := HQ.out.1; simp [intOf]; omega
        · have d1 : (e4 != 0) = true := by rw [bne_iff_ne]; exact he4
          have hRR : R = (none, e4) := HR.out.1 he4
          have HRR := Lib.hid (And.intro hRR he4)
          have HS : Hid (Sep w0 L _) := Lib.hid h8q.drop.drop.drop.drop.drop.drop
          clear h7 h8 h8q hp hR HR0 HR HP0 H5 hRR he4
          (try dsimp only); repeat' (first | go_values | go_skip | go_guarded | go_step | go_upon | go_back)
          refine HE.out.mono ?_
          rintro q1 w8 ⟨rfl, rfl⟩
          (try dsimp only); repeat' (first | go_values | go_skip | go_guarded | go_step | go_upon | go_back)
          refine HE.out.mono ?_
          rintro q8 w8 ⟨rfl, rfl⟩
          clear HE
          (try dsimp only); repeat' (first | go_values | go_skip | go_guarded | go_step | go_upon | go_back)
          exact bodyPost_ret (v := .tuple #[.pointer none, .int .i64 e4]) (by simp [results, Try.results30, go_sem]) rfl (.inr ⟨e4, HRR.out.1, HRR.out.2, rfl, HS.out⟩)
      · have dk : decide ((k : Int) < (n : Int)) = false := decide_eq_false (by omega)
        have dk2 : decide (k < n) = false := decide_eq_false (by omega)
        rw [show n - k = 0 by omega, docLoop] at hR
        have HE := Lib.hid (rrerr_sep hs)
        have HLF := Lib.hid (rrleft_sep hs)
        have hl0 : (0 : Int) ≤ (l.length : Int) := by omega
        have hl9 : (l.length : Int) ≤ 1000000 := by omega
        have HS := Lib.hid hs.drop.drop
        have HSD := Lib.hid hs.sw2
        by_cases hz : 0 < l.length
        · have dz : decide ((0 : Int) < (l.length : Int)) = true := decide_eq_true (by omega)
          have dz2 : decide (0 < l.length) = true := decide_eq_true hz
          have hee : endErr l 0 = 4 := by unfold endErr; rw [if_pos ⟨rfl, hz⟩]
          rw [hee, if_neg (by decide)] at hR
          have HRR := Lib.hid hR
          clear hs hR hee hz hk hl hkn HSD hn6 hF
          generalize l.length = ll at *
          (try dsimp only); repeat' (first | go_values | go_skip | go_guarded | go_step | go_upon | go_back)
          refine HE.out.mono ?_
          rintro q8 w8 ⟨rfl, rfl⟩
          clear HE
          (try dsimp only); repeat' (first | go_values | go_skip | go_guarded | go_step | go_upon | go_back)
          refine HLF.out.mono ?_
          rintro q8 w8 ⟨rfl, rfl⟩
          clear HLF
          (try dsimp only); repeat' (first | go_values | go_skip | go_guarded | go_step | go_upon | go_back)
          exact bodyPost_ret (v := .tuple #[.pointer none, .int .i64 4]) (by simp [results, Try.results30, go_sem]) rfl (.inr ⟨4, HRR.out, by decide, rfl, HS.out⟩)
        · have dz : decide ((0 : Int) < (l.length : Int)) = false := decide_eq_false (by omega)
          have dz2 : decide (0 < l.length) = false := decide_eq_false hz
          have hee : endErr l 0 = 0 := by unfold endErr; rw [if_neg (by intro h; exact hz h.2)]
          rw [hee, if_pos rfl] at hR
          have HRR := Lib.hid hR
          have HSD2 := Lib.hid HSD.out
          clear hs hR hee hz hk hl hkn HS HSD hn6
          have HSD := Lib.hid (HSD2.out.pickL (M := [_, _]) [0] rfl)
          clear HSD2
          generalize l.length = ll at *
          (try dsimp only); repeat' (first | go_values | go_skip | go_guarded | go_step | go_upon | go_back)
          refine HE.out.mono ?_
          rintro q8 w8 ⟨rfl, rfl⟩
          clear HE
          (try dsimp only); repeat' (first | go_values | go_skip | go_guarded | go_step | go_upon | go_back)
          refine HLF.out.mono ?_
          rintro q8 w8 ⟨rfl, rfl⟩
          clear HLF
          (try dsimp only); repeat' (first | go_values | go_skip | go_guarded | go_step | go_upon | go_back)
          exact bodyPost_ret (v := .tuple #[.pointer (some ⟨t, 0, none⟩), .int .i64 0]) (by simp [results, Try.results30, go_sem]) rfl (.inl ⟨F, t, HRR.out, rfl, HSD.out⟩)
end Go.Proofs.Ytjjjkfdppleagaa
