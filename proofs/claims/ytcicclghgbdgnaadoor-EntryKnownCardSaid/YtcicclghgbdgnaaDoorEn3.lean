/- Package entry: Parse. -/
import Derived.Test.YtcicclghgbdgnaaDoorEn2
import Derived.Test.YtcicclghgbdgnaaDoorItem9
import Derived.Test.YtcicclghgbdgnaaDoorSlPart2
namespace Go.Proofs.YtcicclghgbdgnaaDoor
open Go.RowKit
set_option linter.unusedVariables false
set_option linter.unusedSimpArgs false
theorem rleft_sep {w0 w : World} {L : List Thing} {g : Nat} {rest : List UInt8} {e : Int} (h : Sep w0 (RdrT g rest e :: L) w) :
    Calls Tryd.prog 47 #[.pointer (some ⟨g, 0, none⟩)] w fun r w' => r = .returned (.int .i64 (rest.length : Nat)) ∧ w = w' := by
  obtain ⟨F, hr, _⟩ := h.rdr
  exact left_any g rest e w hr
theorem sl_cap {w : World} {a : Option Addr} {n c : Nat} {l : List UInt8} (h : Sl w (.slice a n c) (bv l)) (hl : l.length = n) : n ≤ c := by
  subst hl
  rcases h with (⟨hv, hx⟩ | ⟨b, off, cap, hv, h1, h2, h3, hc⟩) | ⟨x, c', hv, hx⟩
  · simp only [Value.slice.injEq] at hv; omega
  · simp only [Value.slice.injEq] at hv; obtain ⟨rfl, h5, rfl⟩ := hv; rw [bv_length] at h1; exact h1
  · simp only [Value.slice.injEq] at hv; obtain ⟨rfl, h5, rfl⟩ := hv; omega
theorem rdF_suf (f i u : Nat) (l : List UInt8) (h : (rdF f i u l).2.2 = 0) : ∃ pre, l = pre ++ (rdF f i u l).2.1 := by
  induction f generalizing i u l with
  | zero => simp [rdF] at h
  | succ f ih =>
    cases l with
    | nil => simp [rdF] at h
    | cons c l =>
      unfold rdF at h ⊢
      split at h
      · simp at h
      · split at h
        · simp at h
        · split at h
          · rename_i a b d; rw [if_neg a, if_neg b, if_pos d]; exact ⟨[c], rfl⟩
          · rename_i a b d
            rw [if_neg a, if_neg b, if_neg d]
            obtain ⟨pre, hp⟩ := ih _ _ _ h
            exact ⟨c :: pre, by rw [List.cons_append, ← hp]⟩
theorem rd_suf (l : List UInt8) (h : (rdVe (rdNe l 0).2.1 (rdNe l 0).2.2).2.2 = 0) : ∃ pre, l = pre ++ (rdVe (rdNe l 0).2.1 (rdNe l 0).2.2).2.1 := by
  have h0 : (rdNe l 0).2.2 = 0 := by
    apply Classical.byContradiction
    intro he
    unfold rdVe at h
    rw [if_neg he] at h
    exact he h
  have h1 : ∃ pre, l = pre ++ (rdNe l 0).2.1 := by
    unfold rdNe at h0 ⊢
    rw [if_pos rfl] at h0 ⊢
    unfold rdN at h0 ⊢
    split at h0
    · simp at h0
    · rename_i hh; rw [if_neg hh]; exact ⟨l.take 1, (List.take_append_drop 1 l).symm⟩
  rw [h0] at h ⊢
  unfold rdVe at h ⊢
  rw [if_pos rfl] at h ⊢
  obtain ⟨pre2, h3⟩ := rdF_suf 10 0 0 _ h
  obtain ⟨pre, h4⟩ := h1
  exact ⟨pre ++ pre2, by rw [List.append_assoc]; unfold rdV; rw [← h3]; exact h4⟩
def EnM.zero : EnM := ⟨0, 0, OpM.zero⟩
/-- What Parse answers. -/
def prsEn (l : List UInt8) : EnM × Int :=
  let a := rdNe l 0
  let b := rdVe a.2.1 a.2.2
  if b.2.2 ≠ 0 then (EnM.zero, b.2.2) else if (prsOp b.2.1).2 ≠ 0 then (EnM.zero, (prsOp b.2.1).2) else if EnM.ok ⟨(a.1 : Nat), i64w b.1, (prsOp b.2.1).1⟩ then (⟨(a.1 : Nat), i64w b.1, (prsOp b.2.1).1⟩, 0) else (EnM.zero, 4)
def EPrs (w0 : World) (F : EnM × Int) (r : Ending) (w' : World) : Prop := ∃ (x : EnM) (err : Int) (u : Value), r = .returned (.tuple #[enV x u, .int .i64 err]) ∧ (x, err) = F ∧ Sep w0 [LnR u x.p.ls] w'
set_option maxRecDepth 100000 in
set_option maxHeartbeats 16000000 in
theorem eparse_w {w : World} (v : Value) (l : List UInt8) (hv : Sl w v (bv l)) (hk : KindsAt w) (hl : l.length ≤ 1000000) :
    Calls Tryd.prog 23 #[v] w (EPrs w (prsEn l)) := by
  obtain ⟨a, c, rfl⟩ := hv.len
  rw [bv_length] at hv ⊢
  have hcap := sl_cap hv rfl
  have hlt := rdNe_lt l 0
  have hsuf := rd_suf l
  have h0 := (Sep.start w).alloc (.cells #[.int .i64 0, .int .i64 0, .int .i64 0, .string ⟨#[]⟩, .int .i64 0, .int .i64 0, .slice none 0 0] 26)
  have HR := Lib.hid (read_sep (.slice a l.length c) l _ h0 (hv.below h0.low) (by omega))
  obtain ⟨ki, hki⟩ : ∃ ki, ki = (rdNe l 0).1 := ⟨_, rfl⟩
  have k0 : (0 : Int) ≤ (ki : Int) := by omega
  have k1 : (ki : Int) ≤ 255 := by omega
  have HN : Hid (∀ wx M g, Sep w (RdrT g l 0 :: M) wx → Calls Tryd.prog 43 #[.pointer (some ⟨g, 0, none⟩), .int .i64 8] wx fun r w' => r = .returned (.int .u64 ki) ∧ Sep w (RdrT g (rdNe l 0).2.1 (rdNe l 0).2.2 :: M) w') := Lib.hid fun wx M g hx => by rw [hki]; exact rnum_sep hx
  obtain ⟨F, hF⟩ : ∃ F, F = prsEn l := ⟨_, rfl⟩
  rw [← hF]
  unfold prsEn at hF
  dsimp only at hF
  rw [← hki] at hF
  generalize (rdNe l 0).2.1 = r1 at *
  generalize (rdNe l 0).2.2 = e1 at *
  have HV : Hid (∀ wx M g, Sep w (RdrT g r1 e1 :: M) wx → Calls Tryd.prog 44 #[.pointer (some ⟨g, 0, none⟩)] wx fun r w' => r = .returned (.int .u64 (rdVe r1 e1).1) ∧ Sep w (RdrT g (rdVe r1 e1).2.1 (rdVe r1 e1).2.2 :: M) w') := Lib.hid fun wx M g hx => rvarint_sep hx
  have hu := rdVe_u64 r1 e1
  rw [i64w_eq] at hF
  generalize (rdVe r1 e1).1 = u at *
  generalize (rdVe r1 e1).2.1 = r2 at *
  generalize (rdVe r1 e1).2.2 = e2 at *
  unfold U64 at hu
  have ua : (0 : Int) ≤ (u : Int) := by omega
  have ub : (u : Int) ≤ 18446744073709551615 := by omega
  have HF := Lib.hid hF
  have HS := Lib.hid hv
  have HK := Lib.hid hk
  have HSUF := Lib.hid hsuf
  have HL := Lib.hid (And.intro hl hcap)
  obtain ⟨b0, hb0⟩ : ∃ z, z = w.heap.size := ⟨_, rfl⟩
  rw [← hb0] at HR
  clear hv hl hlt hki h0 hF hsuf hk hcap hu
  go_enter Tryd.func23, Tryd.ntmps23
  go_wp2_with fail
  rw [← hb0]
  clear hb0
  refine HR.out.mono ?_
  rintro q0 w1 ⟨g, rfl, h1⟩
  have H1 := Lib.hid h1
  clear h1 HR
  go_wp2_with fail
  refine (HN.out _ _ _ H1.out).mono ?_
  rintro q0 w2 ⟨rfl, h2⟩
  have H2 := Lib.hid h2
  clear h2 HN H1
  go_wp2_with fail
  refine (HV.out _ _ _ H2.out).mono ?_
  rintro q0 w3 ⟨rfl, h3⟩
  have h4 := h3.alloc (.cells #[.int .i64 ki, .int .i64 (wrap64 u), .int .i64 0, .string ⟨#[]⟩, .int .i64 0, .int .i64 0, .slice none 0 0] 26)
  obtain ⟨bo, hbo⟩ : ∃ z, z = w3.heap.size := ⟨_, rfl⟩
  obtain ⟨wo, hwo⟩ : ∃ z, z = w3.alloc (.cells #[.int .i64 ki, .int .i64 (wrap64 u), .int .i64 0, .string ⟨#[]⟩, .int .i64 0, .int .i64 0, .slice none 0 0] 26) := ⟨_, rfl⟩
  rw [← hbo, ← hwo] at h4
  have HER := Lib.hid (rerr_sep h4.sw2)
  have HLF := Lib.hid (rleft_sep h4.sw2)
  have H4 := Lib.hid h4
  clear h3 h4 HV H2
  go_wp2_with fail
  rw [← hwo, ← hbo]
  clear hwo hbo
  refine HER.out.mono ?_
  rintro q0 w7 ⟨rfl, rfl⟩
  clear HER
  by_cases hee : e2 = 0
  · have hb : (e2 != 0) = false := by simp [hee]
    obtain ⟨pre, hpre⟩ := HSUF.out hee
    obtain ⟨k, hkn⟩ : ∃ k : Nat, k = l.length - r2.length := ⟨_, rfl⟩
    have hlen : l.length = pre.length + r2.length := by rw [hpre, List.length_append]
    have hk1 : k ≤ l.length := by omega
    have hdr : l.drop k = r2 := by rw [show k = pre.length by omega, hpre, List.drop_left]
    have hsub : (l.length : Int) - (r2.length : Int) = (k : Int) := by omega
    have hrl : l.length - k = r2.length := by omega
    have hsl := sl_part HS.out rfl k l.length hk1 (Nat.le_refl _)
    rw [List.take_length, hdr] at hsl
    obtain ⟨q0, hq0⟩ : ∃ q, (if c = k then a else Option.map (fun q => q.add k) a) = q := ⟨_, rfl⟩
    rw [hq0, hrl] at hsl
    have HP := Lib.hid (parse_any (.slice q0 r2.length (c - k)) r2 H4.out (hsl.below H4.out.low) (HK.out.below H4.out.low) (by have := HL.out.1; omega))
    have n1 : (l.length : Int) ≤ 1000000 := by have := HL.out.1; omega
    have n2 : l.length ≤ c := HL.out.2
    have n3 : (k : Int) ≤ (l.length : Int) := by omega
    have n4 : (r2.length : Int) ≤ (l.length : Int) := by omega
    have n5 : (0 : Int) ≤ (k : Int) := by omega
    clear hpre hlen hkn hdr hsl HSUF HS
    generalize l.length = n at *
    generalize hr2 : r2.length = m at *
    have HF2 : Hid (F = if (prsOp r2).2 ≠ 0 then (EnM.zero, (prsOp r2).2) else if EnM.ok ⟨(ki : Nat), wrap64 u, (prsOp r2).1⟩ then (⟨(ki : Nat), wrap64 u, (prsOp r2).1⟩, 0) else (EnM.zero, 4)) := Lib.hid (by rw [HF.out, if_neg (by simp [hee])])
    clear HF hr2 hee
    go_wp2_with fail
    refine HLF.out.mono ?_
    rintro q0' w8 ⟨rfl, rfl⟩
    clear HLF
    go_wp2_with fail
    refine HP.out.mono ?_
    rintro q1' w9 ⟨p, err, u', rfl, hp, h5⟩
    obtain ⟨a5, kp, rfl, -⟩ := h5.rnForm
    have hF3 : F = if err ≠ 0 then (EnM.zero, err) else if EnM.ok ⟨(ki : Nat), wrap64 u, p⟩ then (⟨(ki : Nat), wrap64 u, p⟩, 0) else (EnM.zero, 4) := by rw [HF2.out, ← hp]
    have h6 := h5.alloc (.cells #[.int .i64 p.k, .string p.s.1, .int .i64 p.o, .int .i64 p.n, .slice a5 p.ls.length kp] 24)
    clear hp HP HF2 n1 n2 n3 n4 n5 hrl hq0
    obtain ⟨j0, j1, j2, j3, j4⟩ := cells5 h6
    by_cases hee : err = 0
    · have hb3 : (err != 0) = false := by simp [hee]
      rw [if_neg (by simp [hee])] at hF3
      clear hee
      obtain ⟨d0, d1, d2, d3, d4, d5, d6⟩ := cells7 h6.sw3
      obtain ⟨f0, f1, f2, f3, f4, f5, f6⟩ := frz7 h6.sw3
      have h7 : Sep w (Cl bo #[.int .i64 ki, .int .i64 (wrap64 u), .int .i64 p.k, .string p.s.1, .int .i64 p.o, .int .i64 p.n, .slice a5 p.ls.length kp] 26 :: Cl w9.heap.size #[.int .i64 p.k, .string p.s.1, .int .i64 p.o, .int .i64 p.n, .slice a5 p.ls.length kp] 24 :: LnR (.slice a5 p.ls.length kp) p.ls :: RdrT g r2 e2 :: Cl b0 #[.int .i64 0, .int .i64 0, .int .i64 0, .string ⟨#[]⟩, .int .i64 0, .int .i64 0, .slice none 0 0] 26 :: []) _ := store75 (u2 := .int .i64 p.k) (u3 := .string p.s.1) (u4 := .int .i64 p.o) (u5 := .int .i64 p.n) (u6 := .slice a5 p.ls.length kp) h6.sw3
      obtain ⟨c0, c1, c2, c3, c4, c5, c6⟩ := cells7 h7
      have hc := echeck_any ⟨(ki : Nat), wrap64 u, p⟩ (.slice a5 p.ls.length kp) h7 (Sep.lnS h7.sw3) (HK.out.below h7.low)
      unfold enV at hc
      dsimp only at hc
      clear h5 h6 h7 H4
      cases hok : EnM.ok ⟨(ki : Nat), wrap64 u, p⟩ with
      | true =>
        rw [hok] at hc hF3
        rw [if_pos rfl] at hF3
        have HFF := Lib.hid hF3
        have HC := Lib.hid hc
        unfold eB at HC
        clear hok hF3 hc
        go_wp2_with fail
        refine HC.out.mono ?_
        rintro q2' w10 ⟨rfl, h8⟩
        clear c0 c1 c2 c3 c4 c5 c6 d0 d1 d2 d3 d4 d5 d6 f0 f1 f2 f3 f4 f5 f6 j0 j1 j2 j3 j4 HC
        obtain ⟨c0, c1, c2, c3, c4, c5, c6⟩ := cells7 h8
        obtain ⟨d0, d1, d2, d3, d4, d5, d6⟩ := cells7 h8.sw5
        obtain ⟨f0, f1, f2, f3, f4, f5, f6⟩ := frz7 h8.sw5
        have h9 := store7 (u0 := .int .i64 ki) (u1 := .int .i64 (wrap64 u)) (u2 := .int .i64 p.k) (u3 := .string p.s.1) (u4 := .int .i64 p.o) (u5 := .int .i64 p.n) (u6 := .slice a5 p.ls.length kp) h8.sw5
        obtain ⟨y0, y1, y2, y3, y4, y5, y6⟩ := cells7 h9
        have H9 := Lib.hid (h9.pick [3] rfl : Sep w [LnR (.slice a5 p.ls.length kp) p.ls] _)
        clear h8 h9
        go_wp2_with fail
        exact bodyPost_ret (v := .tuple #[.agg #[.int .i64 ki, .int .i64 (wrap64 u), .int .i64 p.k, .string p.s.1, .int .i64 p.o, .int .i64 p.n, .slice a5 p.ls.length kp], .int .i64 0]) (by simp [results, Tryd.results23, go_sem, y0, y1, y2, y3, y4, y5, y6]) rfl ⟨⟨(ki : Nat), wrap64 u, p⟩, 0, _, rfl, HFF.out.symm, H9.out⟩
      | false =>
        rw [hok] at hc hF3
        rw [if_neg (by simp)] at hF3
        have HFF := Lib.hid hF3
        have HC := Lib.hid hc
        unfold eB at HC
        clear hok hF3 hc
        go_wp2_with fail
        refine HC.out.mono ?_
        rintro q2' w10 ⟨rfl, h8⟩
        clear c0 c1 c2 c3 c4 c5 c6 d0 d1 d2 d3 d4 d5 d6 f0 f1 f2 f3 f4 f5 f6 j0 j1 j2 j3 j4 HC
        obtain ⟨d0, d1, d2, d3, d4, d5, d6⟩ := cells7 h8.sw5
        obtain ⟨f0, f1, f2, f3, f4, f5, f6⟩ := frz7 h8.sw5
        have h9 := store7 (u0 := .int .i64 0) (u1 := .int .i64 0) (u2 := .int .i64 0) (u3 := .string ⟨#[]⟩) (u4 := .int .i64 0) (u5 := .int .i64 0) (u6 := .slice none 0 0) h8.sw5
        obtain ⟨y0, y1, y2, y3, y4, y5, y6⟩ := cells7 h9
        have H9 := Lib.hid ((h9.pick [] rfl : Sep w [] _).rnNil 2 36)
        clear h8 h9
        go_wp2_with fail
        exact bodyPost_ret (v := .tuple #[.agg #[.int .i64 0, .int .i64 0, .int .i64 0, .string ⟨#[]⟩, .int .i64 0, .int .i64 0, .slice none 0 0], .int .i64 4]) (by simp [results, Tryd.results23, go_sem, y0, y1, y2, y3, y4, y5, y6]) rfl ⟨EnM.zero, 4, _, rfl, HFF.out.symm, H9.out⟩
    · have hb3 : (err != 0) = true := by rw [bne_iff_ne]; exact hee
      rw [if_pos hee] at hF3
      have HFF := Lib.hid hF3
      clear hee hF3 H4 h5
      obtain ⟨d0, d1, d2, d3, d4, d5, d6⟩ := cells7 h6.sw5
      obtain ⟨f0, f1, f2, f3, f4, f5, f6⟩ := frz7 h6.sw5
      have h9 := store7 (u0 := .int .i64 0) (u1 := .int .i64 0) (u2 := .int .i64 0) (u3 := .string ⟨#[]⟩) (u4 := .int .i64 0) (u5 := .int .i64 0) (u6 := .slice none 0 0) h6.sw5
      obtain ⟨y0, y1, y2, y3, y4, y5, y6⟩ := cells7 h9
      have H9 := Lib.hid ((h9.pick [] rfl : Sep w [] _).rnNil 2 36)
      clear h6 h9
      go_wp2_with fail
      exact bodyPost_ret (v := .tuple #[.agg #[.int .i64 0, .int .i64 0, .int .i64 0, .string ⟨#[]⟩, .int .i64 0, .int .i64 0, .slice none 0 0], .int .i64 err]) (by simp [results, Tryd.results23, go_sem, y0, y1, y2, y3, y4, y5, y6]) rfl ⟨EnM.zero, err, _, rfl, HFF.out.symm, H9.out⟩
  · have hb : (e2 != 0) = true := by rw [bne_iff_ne]; exact hee
    have hFF : F = (EnM.zero, e2) := by rw [HF.out, if_pos hee]
    have HFF := Lib.hid hFF
    obtain ⟨d0, d1, d2, d3, d4, d5, d6⟩ := cells7 H4.out.sw3
    obtain ⟨f0, f1, f2, f3, f4, f5, f6⟩ := frz7 H4.out.sw3
    have h9 := store7 (u0 := .int .i64 0) (u1 := .int .i64 0) (u2 := .int .i64 0) (u3 := .string ⟨#[]⟩) (u4 := .int .i64 0) (u5 := .int .i64 0) (u6 := .slice none 0 0) H4.out.sw3
    obtain ⟨y0, y1, y2, y3, y4, y5, y6⟩ := cells7 h9
    have H9 := Lib.hid ((h9.pick [] rfl : Sep w [] _).rnNil 2 36)
    clear h9 H4 hFF hee HF HSUF HLF HL
    go_wp2_with fail
    exact bodyPost_ret (v := .tuple #[.agg #[.int .i64 0, .int .i64 0, .int .i64 0, .string ⟨#[]⟩, .int .i64 0, .int .i64 0, .slice none 0 0], .int .i64 e2]) (by simp [results, Tryd.results23, go_sem, y0, y1, y2, y3, y4, y5, y6]) rfl ⟨EnM.zero, e2, _, rfl, HFF.out.symm, H9.out⟩
theorem eparse_any {w0 w : World} {L : List Thing} (v : Value) (l : List UInt8) (h : Sep w0 L w) (hv : Sl w v (bv l)) (hk : KindsAt w) (hl : l.length ≤ 1000000) :
    Calls Tryd.prog 23 #[v] w fun r w' => ∃ (x : EnM) (err : Int) (u : Value), r = .returned (.tuple #[enV x u, .int .i64 err]) ∧ (x, err) = prsEn l ∧ Sep w0 (LnR u x.p.ls :: L) w' := by
  refine (eparse_w v l hv hk hl).mono ?_
  rintro e w' ⟨x, err, u, rfl, h1, h2⟩
  exact ⟨x, err, u, rfl, h1, h.onto1 h2⟩
end Go.Proofs.YtcicclghgbdgnaaDoor
