/- Package entry: Parse. -/
import Derived.Test.YtafkbodmiblbnaaDoorMZ22
import Derived.Test.YtafkbodmiblbnaaDoorMItem9
import Derived.Test.YtafkbodmiblbnaaDoorMZ27
import Derived.Test.YtafkbodmiblbnaaDoorMZ17
namespace Go.Proofs.YtafkbodmiblbnaaDoor
open Go.RowKit
set_option linter.unusedVariables false
set_option linter.unusedSimpArgs false
theorem rleft_sep {w0 w : World} {L : List Thing} {g : Nat} {rest : List UInt8} {e : Int} (h : Sep w0 (RdrT g rest e :: L) w) :
    Calls Tryd.prog 62 #[.pointer (some ⟨g, 0, none⟩)] w fun r w' => r = .returned (.int .i64 (rest.length : Nat)) ∧ w = w' := by
  obtain ⟨F, hr, _⟩ := h.rdr
  exact left_any g rest e w hr
theorem sl_cap {w : World} {a : Option Addr} {n c : Nat} {l : List UInt8} (h : Sl w (.slice a n c) (bv l)) (hl : l.length = n) : n ≤ c := by
  subst hl
  rcases h with (⟨hv, hx⟩ | ⟨b, off, cap, hv, h1, h2, h3, hc⟩) | ⟨x, c', hv, hx⟩
  · simp only [Value.slice.injEq] at hv; omega
  · simp only [Value.slice.injEq] at hv; obtain ⟨rfl, h5, rfl⟩ := hv; rw [bv_length] at h1; exact h1
  · simp only [Value.slice.injEq] at hv; obtain ⟨rfl, h5, rfl⟩ := hv; omega
theorem rdF_suf (f i u : Nat) (l : List UInt8) (h : (rdF f i u l).2.2 = 0) : ∃ pre, l = pre ++ (rdF f i u l).2.1 := by
  induction f generalizing i u l with
  | zero => simp [rdF] at h
  | succ f ih =>
    cases l with
    | nil => simp [rdF] at h
    | cons c l =>
      unfold rdF at h ⊢
      split at h
      · simp at h
      · split at h
        · simp at h
        · split at h
          · rename_i a b d; rw [if_neg a, if_neg b, if_pos d]; exact ⟨[c], rfl⟩
          · rename_i a b d
            rw [if_neg a, if_neg b, if_neg d]
            obtain ⟨pre, hp⟩ := ih _ _ _ h
            exact ⟨c :: pre, by rw [List.cons_append, ← hp]⟩
theorem rd_suf (l : List UInt8) (h : (rdVe (rdNe l 0).2.1 (rdNe l 0).2.2).2.2 = 0) : ∃ pre, l = pre ++ (rdVe (rdNe l 0).2.1 (rdNe l 0).2.2).2.1 := by
  have h0 : (rdNe l 0).2.2 = 0 := by
    apply Classical.byContradiction
    intro he
    unfold rdVe at h
    rw [if_neg he] at h
    exact he h
  have h1 : ∃ pre, l = pre ++ (rdNe l 0).2.1 := by
    unfold rdNe at h0 ⊢
    rw [if_pos rfl] at h0 ⊢
    unfold rdN at h0 ⊢
    split at h0
    · simp at h0
    · rename_i hh; rw [if_neg hh]; exact ⟨l.take 1, (List.take_append_drop 1 l).symm⟩
  rw [h0] at h ⊢
  unfold rdVe at h ⊢
  rw [if_pos rfl] at h ⊢
  obtain ⟨pre2, h3⟩ := rdF_suf 10 0 0 _ h
  obtain ⟨pre, h4⟩ := h1
  exact ⟨pre ++ pre2, by rw [List.append_assoc]; unfold rdV; rw [← h3]; exact h4⟩
def EnM.zero : EnM := ⟨0, 0, OpM.zero⟩
/-- What Parse answers. -/
def prsEn (l : List UInt8) : EnM × Int :=
  let a := rdNe l 0
  let b := rdVe a.2.1 a.2.2
  if b.2.2 ≠ 0 then (EnM.zero, b.2.2) else if (prsOp b.2.1).2 ≠ 0 then (EnM.zero, (prsOp b.2.1).2) else if EnM.ok ⟨(a.1 : Nat), i64w b.1, (prsOp b.2.1).1⟩ then (⟨(a.1 : Nat), i64w b.1, (prsOp b.2.1).1⟩, 0) else (EnM.zero, 4)
def EPrs (w0 : World) (F : EnM × Int) (r : Ending) (w' : World) : Prop := ∃ (x : EnM) (err : Int) (u : Value), r = .returned (.tuple #[enV x u, .int .i64 err]) ∧ (x, err) = F ∧ Sep w0 [LnR u x.p.ls] w'
set_option maxRecDepth 100000 in
set_option maxHeartbeats 16000000 in
theorem eparse_w {w : World} (v : Value) (l : List UInt8) (hv : Sl w v (bv l)) (hk : KindsAt w) (hl : l.length ≤ 1000000) :
    Calls Tryd.prog 59 #[v] w (EPrs w (prsEn l)) := by
  obtain ⟨a, c, rfl⟩ := hv.len
  rw [bv_length] at hv ⊢
  have hcap := sl_cap hv rfl
  have hlt := rdNe_lt l 0
  have hsuf := rd_suf l
  have h0 := (Sep.start w).alloc (.cells #[.int .i64 0, .int .i64 0, .int .i64 0, .string ⟨#[]⟩, .int .i64 0, .int .i64 0, .slice none 0 0] 32)
  have HR := Lib.hid (read_sep (.slice a l.length c) l _ h0 (hv.below h0.low) (by omega))
  obtain ⟨ki, hki⟩ : ∃ ki, ki = (rdNe l 0).1 := ⟨_, rfl⟩
  have k0 : (0 : Int) ≤ (ki : Int) := by omega
  have k1 : (ki : Int) ≤ 255 := by omega
  have HN : Hid (∀ wx M g, Sep w (RdrT g l 0 :: M) wx → Calls Tryd.prog 55 #[.pointer (some ⟨g, 0, none⟩), .int .i64 8] wx fun r w' => r = .returned (.int .u64 ki) ∧ Sep w (RdrT g (rdNe l 0).2.1 (rdNe l 0).2.2 :: M) w') := Lib.hid fun wx M g hx => by rw [hki]; exact rnum_sep hx
  obtain ⟨F, hF⟩ : ∃ F, F = prsEn l := ⟨_, rfl⟩
  rw [← hF]
  unfold prsEn at hF
  dsimp only at hF
  rw [← hki] at hF
  generalize (rdNe l 0).2.1 = r1 at *
  generalize (rdNe l 0).2.2 = e1 at *
  have HV : Hid (∀ wx M g, Sep w (RdrT g r1 e1 :: M) wx → Calls Tryd.prog 57 #[.pointer (some ⟨g, 0, none⟩)] wx fun r w' => r = .returned (.int .u64 (rdVe r1 e1).1) ∧ Sep w (RdrT g (rdVe r1 e1).2.1 (rdVe r1 e1).2.2 :: M) w') := Lib.hid fun wx M g hx => rvarint_sep hx
  have hu := rdVe_u64 r1 e1
  rw [i64w_eq] at hF
  generalize (rdVe r1 e1).1 = u at *
  generalize (rdVe r1 e1).2.1 = r2 at *
  generalize (rdVe r1 e1).2.2 = e2 at *
  unfold U64 at hu
  have ua : (0 : Int) ≤ (u : Int) := by omega
  have ub : (u : Int) ≤ 18446744073709551615 := by omega
  have HF := Lib.hid hF
  have HS := Lib.hid hv
  have HK := Lib.hid hk
  have HSUF := Lib.hid hsuf
  have HL := Lib.hid (And.intro hl hcap)
  obtain ⟨b0, hb0⟩ : ∃ z, z = w.heap.size := ⟨_, rfl⟩
  rw [← hb0] at HR
  clear hv hl hlt hki h0 hF hsuf hk hcap hu
  go_enter Tryd.func59, Tryd.ntmps59
  go_wp2_with fail
  rw [← hb0]
  clear hb0
  refine HR.out.mono ?_
  rintro q0 w1 ⟨g, rfl, h1⟩
  have H1 := Lib.hid h1
  clear h1 HR
  go_wp2_with fail
  refine (HN.out _ _ _ H1.out).mono ?_
  rintro q0 w2 ⟨rfl, h2⟩
  have H2 := Lib.hid h2
  clear h2 HN H1
  go_wp2_with fail
  refine (HV.out _ _ _ H2.out).mono ?_
  rintro q0 w3 ⟨rfl, h3⟩
  have h4 := h3.alloc (.cells #[.int .i64 ki, .int .i64 (wrap64 u), .int .i64 0, .string ⟨#[]⟩, .int .i64 0, .int .i64 0, .slice none 0 0] 32)
  obtain ⟨bo, hbo⟩ : ∃ z, z = w3.heap.size := ⟨_, rfl⟩
  obtain ⟨wo, hwo⟩ : ∃ z, z = w3.alloc (.cells #[.int .i64 ki, .int .i64 (wrap64 u), .int .i64 0, .string ⟨#[]⟩, .int .i64 0, .int .i64 0, .slice none 0 0] 32) := ⟨_, rfl⟩
  rw [← hbo, ← hwo] at h4
  have HER := Lib.hid (rerr_sep h4.sw2)
  have HLF := Lib.hid (rleft_sep h4.sw2)
  have H4 := Lib.hid h4
  clear h3 h4 HV H2
  go_wp2_with fail
  rw [← hwo, ← hbo]
  clear hwo hbo
  refine HER.out.mono ?_
  rintro q0 w7 ⟨rfl, rfl⟩
  clear HER
  by_cases hee : e2 = 0
  · have hb : (e2 != 0) = false := by simp [hee]
    obtain ⟨pre, hpre⟩ := HSUF.out hee
    obtain ⟨k, hkn⟩ : ∃ k : Nat, k = l.length - r2.length := ⟨_, rfl⟩
    have hlen : l.length = pre.length + r2.length := by rw [hpre, List.length_append]
    have hk1 : k ≤ l.length := by omega
    have hdr : l.drop k = r2 := by rw [show k = pre.length by omega, hpre, List.drop_left]
    have hsub : (l.length : Int) - (r2.length : Int) = (k : Int) := by omega
    have hrl : l.length - k = r2.length := by omega
    have hsl := sl_part HS.out rfl k l.length hk1 (Nat.le_refl _)
    rw [List.take_length, hdr] at hsl
    obtain ⟨q0, hq0⟩ : ∃ q, (if c = k then a else Option.map (fun q => q.add k) a) = q := ⟨_, rfl⟩
    rw [hq0, hrl] at hsl
    have HP := Lib.hid (parse_any (.slice q0 r2.length (c - k)) r2 H4.out (hsl.below H4.out.low) (HK.out.below H4.out.low) (by have := HL.out.1; omega))
    have n1 : (l.length : Int) ≤ 1000000 := by have := HL.out.1; omega
    have n2 : l.length ≤ c := HL.out.2
    have n3 : (k : Int) ≤ (l.length : Int) := by omega
    have n4 : (r2.length : Int) ≤ (l.length : Int) := by omega
    have n5 : (0 : Int) ≤ (k : Int) := by omega
    clear hpre hlen hkn hdr hsl HSUF HS
    generalize l.length = n at *
    generalize hr2 : r2.length = m at *
    have HF2 : Hid (F = if (prsOp r2).2 ≠ 0 then (EnM.zero, (prsOp r2).2) else if EnM.ok ⟨(ki : Nat), wrap64 u, (prsOp r2).1⟩ then (⟨(ki : Nat), wrap64 u, (prsOp r2).1⟩, 0) else (EnM.zero, 4)) := Lib.hid (by rw [HF.out, if_neg (by simp [hee])])
    clear HF hr2 hee
    go_wp2_with fail
    refine HLF.out.mono ?_
    rintro q0' w8 ⟨rfl, rfl⟩
    clear HLF
    go_wp2_with fail
    refine HP.out.mono ?_
    rintro q1' w9 ⟨p, err, u', rfl, hp, h5⟩
    obtain ⟨a5, kp, rfl, -⟩ := h5.rnForm
    have hF3 : F = if err ≠ 0 then (EnM.zero, err) else if EnM.ok ⟨(ki : Nat), wrap64 u, p⟩ then (⟨(ki : Nat), wrap64 u, p⟩, 0) else (EnM.zero, 4) := by rw [HF2.out, ← hp]
    have h6 := h5.alloc (.cells #[.int .i64 p.k, .string p.s.1, .int .i64 p.o, .int .i64 p.n, .slice a5 p.ls.length kp] 30)
    clear hp HP HF2 n1 n2 n3 n4 n5 hrl hq0
    obtain ⟨j0, j1, j2, j3, j4⟩ := cells5 h6
    by_cases hee : err = 0
    · have hb3 : (err != 0) = false := by simp [hee]
      rw [if_neg (by simp [hee])] at hF3
      clear hee
      obtain ⟨d0, d1, d2, d3, d4, d5, d6⟩ := cells7 h6.sw3
      obtain ⟨f0, f1, f2, f3, f4, f5, f6⟩ := frz7 h6.sw3
      have h7 : Sep w (Cl bo #[.int .i64 ki, .int .i64 (wrap64 u), .int .i64 p.k, .string p.s.1, .int .i64 p.o, .int .i64 p.n, .slice a5 p.ls.length kp] 32 :: Cl w9.heap.size #[.int .i64 p.k, .string p.s.1, .int .i64 p.o, .int .i64 p.n, .slice a5 p.ls.length kp] 30 :: LnR (.slice a5 p.ls.length kp) p.ls :: RdrT g r2 e2 :: Cl b0 #[.int .i64 0, .int .i64 0, .int .i64 0, .string ⟨#[]⟩, .int .i64 0, .int .i64 0, .slice none 0 0] 32 :: []) _ := store75 (u2 := .int .i64 p.k) (u3 := .string p.s.1) (u4 := .int .i64 p.o) (u5 := .int .i64 p.n) (u6 := .slice a5 p.ls.length kp) h6.sw3
      obtain ⟨c0, c1, c2, c3, c4, c5, c6⟩ := cells7 h7
      have hc := echeck_any ⟨(ki : Nat), wrap64 u, p⟩ (.slice a5 p.ls.length kp) h7 (Sep.lnS h7.sw3) (HK.out.below h7.low)
      unfold enV at hc
      dsimp only at hc
      clear h5 h6 h7 H4
      cases hok : EnM.ok ⟨(ki : Nat), wrap64 u, p⟩ with
      | true =>
        rw [hok] at hc hF3
        rw [if_pos rfl] at hF3
        have HFF := Lib.hid hF3
        have HC := Lib.hid hc
        unfold eB at HC
        clear hok hF3 hc
        go_wp2_with fail
        refine HC.out.mono ?_
        rintro q2' w10 ⟨rfl, h8⟩
        clear c0 c1 c2 c3 c4 c5 c6 d0 d1 d2 d3 d4 d5 d6 f0 f1 f2 f3 f4 f5 f6 j0 j1 j2 j3 j4 HC
        obtain ⟨c0, c1, c2, c3, c4, c5, c6⟩ := cells7 h8
        obtain ⟨d0, d1, d2, d3, d4, d5, d6⟩ := cells7 h8.sw5
        obtain ⟨f0, f1, f2, f3, f4, f5, f6⟩ := frz7 h8.sw5
        have h9 := store7 (u0 := .int .i64 ki) (u1 := .int .i64 (wrap64 u)) (u2 := .int .i64 p.k) (u3 := .string p.s.1) (u4 := .int .i64 p.o) (u5 := .int .i64 p.n) (u6 := .slice a5 p.ls.length kp) h8.sw5
        obtain ⟨y0, y1, y2, y3, y4, y5, y6⟩ := cells7 h9
        have H9 := Lib.hid (h9.pick [3] rfl : Sep w [LnR (.slice a5 p.ls.length kp) p.ls] _)
        clear h8 h9
        go_wp2_with fail
        exact bodyPost_ret (v := .tuple #[.agg #[.int .i64 ki, .int .i64 (wrap64 u), .int .i64 p.k, .string p.s.1, .int .i64 p.o, .int .i64 p.n, .slice a5 p.ls.length kp], .int .i64 0]) (by simp [results, Tryd.results59, go_sem, y0, y1, y2, y3, y4, y5, y6]) rfl ⟨⟨(ki : Nat), wrap64 u, p⟩, 0, _, rfl, HFF.out.symm, H9.out⟩
      | false =>
        rw [hok] at hc hF3
        rw [if_neg (by simp)] at hF3
        have HFF := Lib.hid hF3
        have HC := Lib.hid hc
        unfold eB at HC
        clear hok hF3 hc
        go_wp2_with fail
        refine HC.out.mono ?_
        rintro q2' w10 ⟨rfl, h8⟩
        clear c0 c1 c2 c3 c4 c5 c6 d0 d1 d2 d3 d4 d5 d6 f0 f1 f2 f3 f4 f5 f6 j0 j1 j2 j3 j4 HC
        obtain ⟨d0, d1, d2, d3, d4, d5, d6⟩ := cells7 h8.sw5
        obtain ⟨f0, f1, f2, f3, f4, f5, f6⟩ := frz7 h8.sw5
        have h9 := store7 (u0 := .int .i64 0) (u1 := .int .i64 0) (u2 := .int .i64 0) (u3 := .string ⟨#[]⟩) (u4 := .int .i64 0) (u5 := .int .i64 0) (u6 := .slice none 0 0) h8.sw5
        obtain ⟨y0, y1, y2, y3, y4, y5, y6⟩ := cells7 h9
        have H9 := Lib.hid ((h9.pick [] rfl : Sep w [] _).rnNil 2 117)
        clear h8 h9
        go_wp2_with fail
        exact bodyPost_ret (v := .tuple #[.agg #[.int .i64 0, .int .i64 0, .int .i64 0, .string ⟨#[]⟩, .int .i64 0, .int .i64 0, .slice none 0 0], .int .i64 4]) (by simp [results, Tryd.results59, go_sem, y0, y1, y2, y3, y4, y5, y6]) rfl ⟨EnM.zero, 4, _, rfl, HFF.out.symm, H9.out⟩
    · have hb3 : (err != 0) = true := by rw [bne_iff_ne]; exact hee
      rw [if_pos hee] at hF3
      have HFF := Lib.hid hF3
      clear hee hF3 H4 h5
      obtain ⟨d0, d1, d2, d3, d4, d5, d6⟩ := cells7 h6.sw5
      obtain ⟨f0, f1, f2, f3, f4, f5, f6⟩ := frz7 h6.sw5
      have h9 := store7 (u0 := .int .i64 0) (u1 := .int .i64 0) (u2 := .int .i64 0) (u3 := .string ⟨#[]⟩) (u4 := .int .i64 0) (u5 := .int .i64 0) (u6 := .slice none 0 0) h6.sw5
      obtain ⟨y0, y1, y2, y3, y4, y5, y6⟩ := cells7 h9
      have H9 := Lib.hid ((h9.pick [] rfl : Sep w [] _).rnNil 2 117)
      clear h6 h9
      go_wp2_with fail
      exact bodyPost_ret (v := .tuple #[.agg #[.int .i64 0, .int .i64 0, .int .i64 0, .string ⟨#[]⟩, .int .i64 0, .int .i64 0, .slice none 0 0], .int .i64 err]) (by simp [results, Tryd.results59, go_sem, y0, y1, y2, y3, y4, y5, y6]) rfl ⟨EnM.zero, err, _, rfl, HFF.out.symm, H9.out⟩
  · have hb : (e2 != 0) = true := by rw [bne_iff_ne]; exact hee
    have hFF : F = (EnM.zero, e2) := by rw [HF.out, if_pos hee]
    have HFF := Lib.hid hFF
    obtain ⟨d0, d1, d2, d3, d4, d5, d6⟩ := cells7 H4.out.sw3
    obtain ⟨f0, f1, f2, f3, f4, f5, f6⟩ := frz7 H4.out.sw3
    have h9 := store7 (u0 := .int .i64 0) (u1 := .int .i64 0) (u2 := .int .i64 0) (u3 := .string ⟨#[]⟩) (u4 := .int .i64 0) (u5 := .int .i64 0) (u6 := .slice none 0 0) H4.out.sw3
    obtain ⟨y0, y1, y2, y3, y4, y5, y6⟩ := cells7 h9
    have H9 := Lib.hid ((h9.pick [] rfl : Sep w [] _).rnNil 2 117)
    clear h9 H4 hFF hee HF HSUF HLF HL
    go_wp2_with fail
    exact bodyPost_ret (v := .tuple #[.agg #[.int .i64 0, .int .i64 0, .int .i64 0, .string ⟨#[]⟩, .int .i64 0, .int .i64 0, .slice none 0 0], .int .i64 e2]) (by simp [results, Tryd.results59, go_sem, y0, y1, y2, y3, y4, y5, y6]) rfl ⟨EnM.zero, e2, _, rfl, HFF.out.symm, H9.out⟩
theorem eparse_any {w0 w : World} {L : List Thing} (v : Value) (l : List UInt8) (h : Sep w0 L w) (hv : Sl w v (bv l)) (hk : KindsAt w) (hl : l.length ≤ 1000000) :
    Calls Tryd.prog 59 #[v] w fun r w' => ∃ (x : EnM) (err : Int) (u : Value), r = .returned (.tuple #[enV x u, .int .i64 err]) ∧ (x, err) = prsEn l ∧ Sep w0 (LnR u x.p.ls :: L) w' := by
  refine (eparse_w v l hv hk hl).mono ?_
  rintro e w' ⟨x, err, u, rfl, h1, h2⟩
  exact ⟨x, err, u, rfl, h1, h.onto1 h2⟩
end Go.Proofs.YtafkbodmiblbnaaDoor
/- What Parse of an entry reads: what was written, and nothing else. -/
namespace Go.Proofs.YtafkbodmiblbnaaDoor
open Go.RowKit
set_option linter.unusedVariables false
theorem prsEn_again (l : List UInt8) (hl : l.length ≤ maxLen) : (∃ x : EnM, prsEn l = (x, 0) ∧ x.ok = true ∧ l = entBs x) ∨ ∃ er, prsEn l = (EnM.zero, er) ∧ er ≠ 0 := by
  unfold prsEn
  dsimp only
  by_cases h1 : (rdVe (rdNe l 0).2.1 (rdNe l 0).2.2).2.2 ≠ 0
  · exact .inr ⟨_, if_pos h1, h1⟩
  · have h1' : (rdVe (rdNe l 0).2.1 (rdNe l 0).2.2).2.2 = 0 := Classical.byContradiction h1
    obtain ⟨e1, hr1⟩ := rdVe_zero h1'
    obtain ⟨-, hr0⟩ := rdNe_zero e1
    rw [if_neg h1]
    have hu : 0 ≤ i64w (rdVe (rdNe l 0).2.1 (rdNe l 0).2.2).1 → (i64w (rdVe (rdNe l 0).2.1 (rdNe l 0).2.2).1).toNat = (rdVe (rdNe l 0).2.1 (rdNe l 0).2.2).1 := rdVe_u
    have hlen : (rdVe (rdNe l 0).2.1 (rdNe l 0).2.2).2.1.length ≤ maxLen := by
      have a := rdNe_len l 0
      have b := rdVe_len (rdNe l 0).2.1 (rdNe l 0).2.2
      omega
    generalize (rdVe (rdNe l 0).2.1 (rdNe l 0).2.2).1 = u at *
    generalize (rdVe (rdNe l 0).2.1 (rdNe l 0).2.2).2.1 = r2 at *
    generalize (rdNe l 0).1 = k at *
    generalize (rdNe l 0).2.1 = r1 at *
    rcases prs_again r2 hlen with ⟨p, hp, hok, hb⟩ | ⟨er, hp, he⟩
    · rw [hp]
      rw [if_neg (by simp)]
      cases hx : EnM.ok ⟨(k : Nat), i64w u, p⟩ with
      | true =>
        have hm := (EnM.parts hx).1
        dsimp only at hm
        refine .inl ⟨_, if_pos rfl, hx, ?_⟩
        unfold entBs
        dsimp only
        rw [hu (by omega), hr0, hr1, hb]
        simp
      | false => exact .inr ⟨4, if_neg (by simp), by omega⟩
    · rw [hp]
      exact .inr ⟨er, if_pos he, he⟩
theorem prsEn_back {x : EnM} (h : x.ok = true) : prsEn (entBs x) = (x, 0) := by
  obtain ⟨⟨h0, h1, h2, h3⟩, hp⟩ := x.parts h
  have hp' : okB x.p.k x.p.s x.p.o x.p.n x.p.ls = true := hp
  have e : entBs x = [UInt8.ofNat x.c.toNat] ++ (vint x.m.toNat ++ opBs x.p.k x.p.s x.p.o x.p.n x.p.ls) := by unfold entBs; rw [List.append_assoc]
  unfold prsEn
  rw [e, rdNe_byte x.c.toNat _ (by omega)]
  dsimp only
  rw [rdVe_vint _ _ (by unfold U64; omega), prs_back hp']
  dsimp only
  rw [i64w_back (by omega) (by omega)]
  have hc : ((x.c.toNat : Nat) : Int) = x.c := by omega
  rw [hc, if_neg (by simp), if_neg (by simp)]
  rw [show EnM.ok ⟨x.c, x.m, ⟨x.p.k, x.p.s, x.p.o, x.p.n, x.p.ls⟩⟩ = true from h]
  rfl
end Go.Proofs.YtafkbodmiblbnaaDoor
/- What Rows reads: plain mathematics. -/
namespace Go.Proofs.YtafkbodmiblbnaaDoor
open Go.RowKit
set_option linter.unusedVariables false
set_option linter.unusedSimpArgs false
/-- What the loop reads, with so many entries still to come. -/
def rwsA : Nat → List UInt8 → Int → List EnM → List EnM × Int
  | 0, rest, e, acc => if endErr rest e ≠ 0 then ([], endErr rest e) else (acc, 0)
  | n + 1, rest, e, acc =>
    if (rdTe rest e).2.2 ≠ 0 then ([], (rdTe rest e).2.2) else if (prsEn (rdTe rest e).1).2 ≠ 0 then ([], (prsEn (rdTe rest e).1).2) else rwsA n (rdTe rest e).2.1 0 (acc ++ [(prsEn (rdTe rest e).1).1])
/-- What Rows answers. -/
def rwsOf (l : List UInt8) : List EnM × Int := rwsA (rdVe l 0).1 (rdVe l 0).2.1 (rdVe l 0).2.2 []
theorem rwsA_err (n : Nat) : ∀ (rest : List UInt8) (e : Int) (acc : List EnM), (rwsA n rest e acc).2 ≠ 0 → (rwsA n rest e acc).1 = [] := by
  induction n with
  | zero =>
    intro rest e acc h
    unfold rwsA at h ⊢
    split at h
    · rename_i h1; rw [if_pos h1]
    · simp at h
  | succ n ih =>
    intro rest e acc h
    unfold rwsA at h ⊢
    split at h
    · rename_i h1; rw [if_pos h1]
    · rename_i h1
      rw [if_neg h1]
      split at h
      · rename_i h2; rw [if_pos h2]
      · rename_i h2; rw [if_neg h2]; exact ih _ _ _ h
theorem rdTe_e {rest : List UInt8} {e : Int} (h : (rdTe rest e).2.2 = 0) : e = 0 := (rdTe_zero h).1
theorem rwsA_again (n : Nat) : ∀ (rest : List UInt8) (e : Int) (acc : List EnM), rest.length ≤ maxLen → (rwsA n rest e acc).2 = 0 →
    ∃ xs : List EnM, (rwsA n rest e acc).1 = acc ++ xs ∧ xs.length = n ∧ e = 0 ∧ rest = (xs.map rowTx).flatten ∧ ∀ x ∈ xs, x.ok = true := by
  induction n with
  | zero =>
    intro rest e acc hl h
    unfold rwsA at h ⊢
    split at h
    · rename_i h1; exact absurd h h1
    · rename_i h1
      rw [if_neg h1]
      obtain ⟨h2, h3⟩ := endErr_zero (Classical.byContradiction fun h => h1 h)
      exact ⟨[], by simp, rfl, h2, by simp [h3], by simp⟩
  | succ n ih =>
    intro rest e acc hl h
    unfold rwsA at h ⊢
    split at h
    · rename_i h1; exact absurd h h1
    · rename_i h1
      rw [if_neg h1]
      split at h
      · rename_i h2; exact absurd h h2
      · rename_i h2
        rw [if_neg h2]
        obtain ⟨he, hr⟩ := rdTe_zero (Classical.byContradiction fun h => h1 h)
        have hlen := rdTe_len rest e
        obtain ⟨xs, x1, x2, -, x4, x5⟩ := ih _ _ _ (by omega) h
        rcases prsEn_again (rdTe rest e).1 (by omega) with ⟨x, p1, p2, p3⟩ | ⟨er, p1, p2⟩
        · rw [p1] at x1 ⊢
          refine ⟨x :: xs, ?_, by simp [x2], he, ?_, ?_⟩
          · rw [x1]; simp
          · rw [List.map_cons, List.flatten_cons, ← x4]
            unfold rowTx
            rw [← p3]
            exact hr
          · intro y hy
            rcases List.mem_cons.1 hy with rfl | hy
            · exact p2
            · exact x5 y hy
        · rw [p1] at h2; exact absurd p2 h2
theorem rowTx_back {x : EnM} (h : x.ok = true) (l : List UInt8) : rdTe (rowTx x ++ l) 0 = (entBs x, l, 0) := by
  have hb := entBs_len h
  unfold rdTe
  rw [if_pos rfl]
  unfold rdT rowTx
  rw [List.append_assoc, rdV_back _ _ (by unfold U64; omega)]
  dsimp only
  rw [if_neg (by simp), if_neg (by rw [List.length_append]; omega), List.take_left, List.drop_left]
theorem rwsA_back : ∀ (xs acc : List EnM), (∀ x ∈ xs, x.ok = true) → rwsA xs.length (xs.map rowTx).flatten 0 acc = (acc ++ xs, 0)
  | [], acc, _ => by simp [rwsA, endErr]
  | x :: xs, acc, h => by
    have hx := h x (List.mem_cons_self ..)
    rw [List.length_cons, List.map_cons, List.flatten_cons, rwsA, rowTx_back hx]
    dsimp only
    rw [prsEn_back hx]
    dsimp only
    rw [if_neg (by simp), if_neg (by simp), rwsA_back xs _ fun y hy => h y (List.mem_cons_of_mem _ hy), List.append_assoc]
    rfl
theorem rwsOf_back {xs : List EnM} (h : ∀ x ∈ xs, x.ok = true) (hl : U64 xs.length) : rwsOf (rowBs xs) = (xs, 0) := by
  unfold rwsOf rowBs
  rw [rdVe_vint _ _ hl]
  exact rwsA_back xs [] h
theorem rwsOf_again {l : List UInt8} (hl : l.length ≤ maxLen) (h : (rwsOf l).2 = 0) : l = rowBs (rwsOf l).1 ∧ ∀ x ∈ (rwsOf l).1, x.ok = true := by
  unfold rwsOf at h ⊢
  have hlen := rdVe_len l 0
  obtain ⟨xs, x1, x2, x3, x4, x5⟩ := rwsA_again _ _ _ _ (by omega) h
  rw [x1, List.nil_append]
  refine ⟨?_, x5⟩
  obtain ⟨-, h2⟩ := rdVe_zero x3
  unfold rowBs
  rw [x2, ← x4]
  exact h2
theorem rwsOf_err {l : List UInt8} (h : (rwsOf l).2 ≠ 0) : (rwsOf l).1 = [] := rwsA_err _ _ _ _ h
end Go.Proofs.YtafkbodmiblbnaaDoor
/- Package msg: what a message says, without addresses; its bytes. -/
namespace Go.Proofs.YtafkbodmiblbnaaDoor
open Go Go.RowKit
set_option linter.unusedVariables false
set_option linter.unusedSimpArgs false
structure MgX where
  k : Int
  f : Int
  t : Int
  v : Int
  o : Int
  cm : Int
  la : Int
  en : EnM
  rc : Int
  ra : Int
  rb : Int
  s : Bool
  ib : Int
  ck : List UInt8
  es : List EnM
  ic : Int
def MgM.x (g : MgM) : MgX := ⟨g.k, g.f, g.t, g.v, g.o, g.cm, g.la, g.en, g.rc, g.ra, g.rb, g.s, g.ib, g.ck, g.ps.map (·.1), g.ic⟩
def wresB (c a b : Int) (s : Bool) : List UInt8 := vint (resBs c a b).length ++ resBs c a b ++ [if s then 1 else 0]
theorem resBs_len (c a b : Int) : (resBs c a b).length ≤ 21 := by
  unfold resBs
  have := vint_len a.toNat
  have := vint_len b.toNat
  simp
  omega
theorem wresB_len (c a b : Int) (s : Bool) : (wresB c a b s).length ≤ 40 := by
  unfold wresB
  have := vint_len (resBs c a b).length
  have := resBs_len c a b
  simp only [List.length_append, List.length_cons, List.length_nil]
  omega
def imgBs (ib ic : Int) (ck : List UInt8) (es : List EnM) : List UInt8 := vint ib.toNat ++ (vint ic.toNat ++ ((vint ck.length ++ ck) ++ (vint (rowBs es).length ++ rowBs es)))
theorem rowBs_lenM {es : List EnM} (h : ∀ x ∈ es, x.ok = true) : (rowBs es).length ≤ 10 + es.length * 400 := by
  unfold rowBs
  have h1 := vint_len es.length
  have h2 : ∀ l : List EnM, (∀ x ∈ l, x.ok = true) → ((l.map rowTx).flatten).length ≤ l.length * 400 := by
    intro l
    induction l with
    | nil => intro _; simp
    | cons a l ih =>
      intro h
      have h3 := ih fun x hx => h x (List.mem_cons_of_mem _ hx)
      have h4 := rowTx_len (h a (List.mem_cons_self ..))
      simp only [List.map_cons, List.flatten_cons, List.length_append, List.length_cons]
      omega
  have h5 := h2 es h
  rw [List.length_append]
  omega
theorem imgBs_len {ib ic : Int} {ck : List UInt8} {es : List EnM} (h : ∀ x ∈ es, x.ok = true) (hn : es.length ≤ 32) (hc : ck.length ≤ 16384) : (imgBs ib ic ck es).length ≤ 32000 := by
  unfold imgBs
  have h1 := vint_len ib.toNat
  have h2 := vint_len ic.toNat
  have h3 := vint_len ck.length
  have h4 := vint_len (rowBs es).length
  have h5 := rowBs_lenM h
  simp only [List.length_append]
  omega
def numAt (x : MgX) : Nat → Int
  | 0 => x.v
  | 1 => x.o
  | 2 => x.cm
  | _ => x.la
def numsB (has : Int) (x : MgX) : Nat → List UInt8
  | 0 => []
  | i + 1 => numsB has x i ++ if bit has (2 ^ i) then vint (numAt x i).toNat else []
theorem numsB_len (has : Int) (x : MgX) : ∀ i, (numsB has x i).length ≤ i * 10
  | 0 => Nat.le_refl _
  | i + 1 => by
    have h1 := numsB_len has x i
    have h2 := vint_len (numAt x i).toNat
    unfold numsB
    rw [List.length_append]
    split
    · omega
    · simp only [List.length_nil]; omega
def hdBs (x : MgX) : List UInt8 := [UInt8.ofNat x.k.toNat, UInt8.ofNat x.f.toNat, UInt8.ofNat x.t.toNat]
def entB (x : MgX) : List UInt8 := if bit (mfieldsOf x.k) 16 then rowTx x.en else if bit (mfieldsOf x.k) 32 then [UInt8.ofNat x.en.c.toNat] ++ vint x.en.m.toNat else []
def resB' (x : MgX) : List UInt8 := if bit (mfieldsOf x.k) 64 then wresB x.rc x.ra x.rb x.s else []
def imgB' (x : MgX) : List UInt8 := if bit (mfieldsOf x.k) 128 then imgBs x.ib x.ic x.ck x.es else []
def bodyB (x : MgX) : List UInt8 := hdBs x ++ (numsB (mfieldsOf x.k) x 4 ++ (entB x ++ (resB' x ++ imgB' x)))
/-- Which fields there may be together. -/
theorem has_cases (k : Int) : mfieldsOf k = 0 ∨ (1 ≤ k ∧ k ≤ 10 ∧ mfieldsOf k ≠ 0 ∧
    ((bit (mfieldsOf k) 16 = true ∧ bit (mfieldsOf k) 32 = false ∧ bit (mfieldsOf k) 64 = false ∧ bit (mfieldsOf k) 128 = false) ∨
     (bit (mfieldsOf k) 16 = false ∧ bit (mfieldsOf k) 32 = true ∧ bit (mfieldsOf k) 64 = true ∧ bit (mfieldsOf k) 128 = false) ∨
     (bit (mfieldsOf k) 16 = false ∧ bit (mfieldsOf k) 32 = true ∧ bit (mfieldsOf k) 64 = false ∧ bit (mfieldsOf k) 128 = false) ∨
     (bit (mfieldsOf k) 16 = false ∧ bit (mfieldsOf k) 32 = false ∧ bit (mfieldsOf k) 64 = false ∧ bit (mfieldsOf k) 128 = true) ∨
     (bit (mfieldsOf k) 16 = false ∧ bit (mfieldsOf k) 32 = false ∧ bit (mfieldsOf k) 64 = false ∧ bit (mfieldsOf k) 128 = false))) := by
  by_cases h : 0 ≤ k ∧ k ≤ 10
  · have h1 : k = 0 ∨ k = 1 ∨ k = 2 ∨ k = 3 ∨ k = 4 ∨ k = 5 ∨ k = 6 ∨ k = 7 ∨ k = 8 ∨ k = 9 ∨ k = 10 := by omega
    rcases h1 with rfl | rfl | rfl | rfl | rfl | rfl | rfl | rfl | rfl | rfl | rfl
    · exact .inl (by decide)
    · exact .inr ⟨by decide, by decide, by decide, .inl ⟨by decide, by decide, by decide, by decide⟩⟩
    · exact .inr ⟨by decide, by decide, by decide, .inr (.inl ⟨by decide, by decide, by decide, by decide⟩)⟩
    · exact .inr ⟨by decide, by decide, by decide, .inl ⟨by decide, by decide, by decide, by decide⟩⟩
    · exact .inr ⟨by decide, by decide, by decide, .inr (.inr (.inr (.inr ⟨by decide, by decide, by decide, by decide⟩)))⟩
    · exact .inr ⟨by decide, by decide, by decide, .inr (.inr (.inr (.inr ⟨by decide, by decide, by decide, by decide⟩)))⟩
    · exact .inr ⟨by decide, by decide, by decide, .inr (.inr (.inr (.inr ⟨by decide, by decide, by decide, by decide⟩)))⟩
    · exact .inr ⟨by decide, by decide, by decide, .inr (.inr (.inr (.inl ⟨by decide, by decide, by decide, by decide⟩)))⟩
    · exact .inr ⟨by decide, by decide, by decide, .inr (.inr (.inr (.inr ⟨by decide, by decide, by decide, by decide⟩)))⟩
    · exact .inr ⟨by decide, by decide, by decide, .inr (.inr (.inr (.inl ⟨by decide, by decide, by decide, by decide⟩)))⟩
    · exact .inr ⟨by decide, by decide, by decide, .inr (.inr (.inl ⟨by decide, by decide, by decide, by decide⟩))⟩
  · exact .inl (by unfold mfieldsOf; rw [if_neg h])
/-- What Check says of a message. -/
theorem chk_parts {g : MgM} (h : chkB g = true) : mfieldsOf g.k ≠ 0 ∧ 1 ≤ g.k ∧ g.k ≤ 10 ∧ 0 ≤ g.f ∧ g.f < 23 ∧ 0 ≤ g.t ∧ g.t < 23 ∧
    (bit (mfieldsOf g.k) 1 = true → numB g.v = true) ∧ (bit (mfieldsOf g.k) 2 = true → numB g.o = true) ∧ (bit (mfieldsOf g.k) 4 = true → numB g.cm = true) ∧ (bit (mfieldsOf g.k) 8 = true → numB g.la = true) ∧
    fEB (mfieldsOf g.k) g.en = true ∧ fRB (mfieldsOf g.k) g.rc g.ra g.rb g.s = true ∧ fIB (mfieldsOf g.k) g.ib g.ck g.ps g.ic = true := by
  unfold chkB at h
  simp only [Bool.and_eq_true, Bool.not_eq_true', beq_eq_false_iff_ne, ne_eq] at h
  obtain ⟨h1, h2, h3, h4, h5, h6, h7, h8, h9, h10⟩ := h
  have hn : ∀ b n, holdsB b n = true → b = true → numB n = true := by
    intro b n hh hb
    unfold holdsB at hh
    split at hh
    · rename_i h0; subst h0; decide
    · simp only [Bool.and_eq_true] at hh; exact hh.2
  have hp : ∀ n, partB n = true → 0 ≤ n ∧ n < 23 := fun n hh => of_decide_eq_true hh
  rcases has_cases g.k with h0 | ⟨hk1, hk2, -⟩
  · exact absurd h0 h1
  · exact ⟨h1, hk1, hk2, (hp _ h2).1, (hp _ h2).2, (hp _ h3).1, (hp _ h3).2, hn _ _ h4, hn _ _ h5, hn _ _ h6, hn _ _ h7, h8, h9, h10⟩
theorem numB_iff {n : Int} (h : numB n = true) : 0 ≤ n ∧ n ≤ 9007199254740991 := of_decide_eq_true h
theorem img_parts {has ib ic : Int} {l : List UInt8} {xs : List (EnM × Value)} (h : fIB has ib l xs ic = true) (hb : bit has 128 = true) : 0 ≤ ib ∧ ib ≤ 9007199254740991 ∧ l.length ≤ 16384 ∧ xs.length ≤ 32 ∧ rowOk xs = true ∧ (∀ x ∈ xs.map (·.1), x.ok = true) ∧ ib ≤ ic ∧ ic ≤ ib + xs.length := by
  unfold fIB at h
  rw [if_pos hb] at h
  unfold ckI at h
  simp only [Bool.and_eq_true, decide_eq_true_eq] at h
  obtain ⟨⟨⟨⟨h1, h2⟩, h3⟩, h4⟩, h5, h6⟩ := h
  have h7 := numB_iff h1
  refine ⟨h7.1, h7.2, h2, h3, h4, ?_, h5, h6⟩
  intro x hx
  obtain ⟨q, hq, rfl⟩ := List.mem_map.1 hx
  exact List.all_eq_true.1 h4 q hq
theorem body_len {g : MgM} (h : chkB g = true) : (bodyB g.x).length ≤ 65532 := by
  obtain ⟨h0, h1, h2, h3, h4, h5, h6, -, -, -, -, h7, h8, h9⟩ := chk_parts h
  unfold bodyB
  have a1 := numsB_len (mfieldsOf g.x.k) g.x 4
  have a2 : (hdBs g.x).length = 3 := rfl
  have a3 : (entB g.x).length ≤ 500 := by
    unfold entB
    split
    · rename_i hb
      have hb : bit (mfieldsOf g.k) 16 = true := hb
      unfold fEB at h7
      rw [if_pos hb] at h7
      have := rowTx_len h7
      show (rowTx g.en).length ≤ 500
      omega
    · split
      · have := vint_len g.x.en.m.toNat
        simp only [List.length_append, List.length_cons, List.length_nil]
        omega
      · simp
  have a4 : (resB' g.x).length ≤ 40 := by
    unfold resB'
    split
    · exact wresB_len _ _ _ _
    · simp
  have a5 : (imgB' g.x).length ≤ 32000 := by
    unfold imgB'
    split
    · rename_i hb
      obtain ⟨-, -, b1, b2, -, b3, -⟩ := img_parts h9 hb
      exact imgBs_len b3 (by show (g.ps.map (·.1)).length ≤ 32; rw [List.length_map]; exact b2) b1
    · simp
  simp only [List.length_append]
  omega
end Go.Proofs.YtafkbodmiblbnaaDoor
