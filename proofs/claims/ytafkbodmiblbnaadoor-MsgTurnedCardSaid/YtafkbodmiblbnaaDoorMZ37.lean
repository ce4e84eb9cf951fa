/- Package msg: what may be is read of its bytes as it was (pure). -/
import Derived.Test.YtafkbodmiblbnaaDoorMZ36
import Derived.Test.YtafkbodmiblbnaaDoorMZ28
import Derived.Test.YtafkbodmiblbnaaDoorMZ22
namespace Go.Proofs.YtafkbodmiblbnaaDoor
open Go Go.RowKit
set_option linter.unusedVariables false
set_option linter.unusedSimpArgs false
theorem rdTe_back {t : List UInt8} (h : t.length ≤ 1000000) (l : List UInt8) : rdTe ((vint t.length ++ t) ++ l) 0 = (t, l, 0) := by
  unfold rdTe
  rw [if_pos rfl]
  unfold rdT
  rw [List.append_assoc, rdV_back _ _ (by unfold U64; omega)]
  dsimp only
  rw [if_neg (by simp), if_neg (by rw [List.length_append]; omega), List.take_left, List.drop_left]
theorem stHead_back (x y : MgX) (r : List UInt8) (hk : 0 ≤ x.k ∧ x.k < 256) (hf : 0 ≤ x.f ∧ x.f < 256) (ht : 0 ≤ x.t ∧ x.t < 256) : stHead ⟨hdBs x ++ r, 0, y⟩ = (⟨r, 0, { y with k := x.k, f := x.f, t := x.t }⟩, 0) := by
  have e1 : rdNe (hdBs x ++ r) 0 = (x.k.toNat, [UInt8.ofNat x.f.toNat] ++ ([UInt8.ofNat x.t.toNat] ++ r), 0) := rdNe_byte x.k.toNat ([UInt8.ofNat x.f.toNat] ++ ([UInt8.ofNat x.t.toNat] ++ r)) (by omega)
  have e2 := rdNe_byte x.f.toNat ([UInt8.ofNat x.t.toNat] ++ r) (by omega)
  have e3 := rdNe_byte x.t.toNat r (by omega)
  unfold stHead
  simp only [e1, e2, e3]
  rw [Int.toNat_of_nonneg hk.1, Int.toNat_of_nonneg hf.1, Int.toNat_of_nonneg ht.1]
def setsN (has : Int) (x y : MgX) : Nat → MgX
  | 0 => y
  | i + 1 => if bit has (2 ^ i) then setNum (setsN has x y i) i (numAt x i) else setsN has x y i
theorem stNumsA_back (has : Int) (x y : MgX) : ∀ (i : Nat) (r : List UInt8), (∀ j, j < i → bit has (2 ^ j) = true → numB (numAt x j) = true) → stNumsA has i ⟨numsB has x i ++ r, 0, y⟩ = ⟨r, 0, setsN has x y i⟩
  | 0, r, _ => rfl
  | i + 1, r, h => by
    show stN has i (stNumsA has i ⟨(numsB has x i ++ if bit has (2 ^ i) then vint (numAt x i).toNat else []) ++ r, 0, y⟩) = ⟨r, 0, if bit has (2 ^ i) then setNum (setsN has x y i) i (numAt x i) else setsN has x y i⟩
    rw [List.append_assoc, stNumsA_back has x y i _ fun j hj hb => h j (by omega) hb]
    unfold stN
    by_cases hb : bit has (2 ^ i) = true
    · have hn := numB_iff (h i (by omega) hb)
      rw [if_pos hb, if_pos hb, if_pos hb]
      dsimp only
      rw [rdVe_vint _ _ (by unfold U64; omega)]
      dsimp only
      rw [i64w_back hn.1 hn.2]
    · rw [if_neg hb, if_neg hb, if_neg hb]; rfl
theorem opZ_of {p : OpM} (h : opSameZ p = true) : p = OpM.zero := by
  obtain ⟨k, s, o, n, ls⟩ := p
  unfold opSameZ sameB at h
  simp only [Bool.and_eq_true, decide_eq_true_eq] at h
  obtain ⟨⟨⟨⟨h1, h2⟩, h3⟩, h4⟩, h5⟩ := h
  have hs : s = sZ := Subtype.ext h2
  subst h1 h3 h4 h5 hs
  rfl
theorem enZ_of {x : EnM} (h : enSame x enZ0 = true) : x = EnM.zero := by
  obtain ⟨c, m, p⟩ := x
  unfold enSame at h
  simp only [Bool.and_eq_true, decide_eq_true_eq] at h
  obtain ⟨⟨h1, h2⟩, h3⟩ := h
  have hp : p = OpM.zero := opZ_of h3
  have h1 : c = 0 := h1
  have h2 : m = 0 := h2
  subst h1 h2 hp
  rfl
theorem stEntry_back (x y : MgX) (r : List UInt8) (hk : y.k = x.k) (hz : y.en = EnM.zero) (h : fEB (mfieldsOf x.k) x.en = true) : stEntry ⟨entB x ++ r, 0, y⟩ = (⟨r, 0, { y with en := x.en }⟩, 0) := by
  unfold fEB at h
  unfold stEntry entB
  dsimp only
  rw [show mfieldsOf y.k = mfieldsOf x.k by rw [hk]]
  by_cases h16 : bit (mfieldsOf x.k) 16 = true
  · rw [if_pos h16] at h
    rw [if_pos h16, if_pos h16, rowTx_back h]
    dsimp only
    rw [if_neg (by simp), prsEn_back h]
  · rw [if_neg h16] at h
    rw [if_neg h16, if_neg h16]
    by_cases h32 : bit (mfieldsOf x.k) 32 = true
    · rw [if_pos h32, Bool.and_eq_true] at h
      have hb := of_decide_eq_true h.1
      have hp := opZ_of h.2
      rw [if_pos h32, if_pos h32, List.append_assoc, rdNe_byte _ _ (by omega)]
      dsimp only
      rw [rdVe_vint _ _ (by unfold U64; omega)]
      dsimp only
      rw [i64w_back (by omega) (by omega), Int.toNat_of_nonneg hb.1, hz, show EnM.zero.p = x.en.p from hp.symm]
    · rw [if_neg h32] at h
      have he := enZ_of h
      rw [if_neg h32, if_neg h32, he, ← hz]
      rfl
theorem stRes_back (x y : MgX) (r : List UInt8) (hk : y.k = x.k) (hz : y.rc = 0 ∧ y.ra = 0 ∧ y.rb = 0 ∧ y.s = false) (h : fRB (mfieldsOf x.k) x.rc x.ra x.rb x.s = true) : stRes ⟨resB' x ++ r, 0, y⟩ = (⟨r, 0, { y with rc := x.rc, ra := x.ra, rb := x.rb, s := x.s }⟩, 0) := by
  unfold fRB at h
  unfold stRes resB'
  dsimp only
  rw [show mfieldsOf y.k = mfieldsOf x.k by rw [hk]]
  by_cases h64 : bit (mfieldsOf x.k) 64 = true
  · rw [if_pos h64] at h
    rw [if_pos h64, if_pos h64]
    have e1 : wresB x.rc x.ra x.rb x.s ++ r = (vint (resBs x.rc x.ra x.rb).length ++ resBs x.rc x.ra x.rb) ++ ([UInt8.ofNat (if x.s then 1 else 0)] ++ r) := by
      unfold wresB
      rw [List.append_assoc]
      cases x.s <;> rfl
    have hl := resBs_len x.rc x.ra x.rb
    rw [e1, rdTe_back (by omega)]
    dsimp only
    rw [if_neg (by simp), prsRes_back h]
    dsimp only
    rw [if_neg (by simp)]
    unfold stRes2
    dsimp only
    rw [rdNe_byte _ _ (by split <;> omega)]
    dsimp only
    cases hs : x.s with
    | true => rfl
    | false => rfl
  · rw [if_neg h64] at h
    simp only [Bool.and_eq_true, decide_eq_true_eq, Bool.not_eq_true'] at h
    obtain ⟨⟨h1, h2, h3⟩, h4⟩ := h
    obtain ⟨z1, z2, z3, z4⟩ := hz
    rw [if_neg h64, if_neg h64, h1, h2, h3, h4]
    obtain ⟨k, f, t, v, o, cm, la, en, rc, ra, rb, s, ib, ck, es, ic⟩ := y
    dsimp only at z1 z2 z3 z4
    subst z1 z2 z3 z4
    rfl
theorem stImage_back (x y : MgX) (r : List UInt8) (hk : y.k = x.k) (hz : y.ib = 0 ∧ y.ic = 0 ∧ y.ck = [] ∧ y.es = []) (h : fIB (mfieldsOf x.k) x.ib x.ck (mkG x).ps x.ic = true) : stImage ⟨imgB' x ++ r, 0, y⟩ = (⟨r, 0, { y with ib := x.ib, ic := x.ic, ck := x.ck, es := x.es }⟩, 0) := by
  by_cases h128 : bit (mfieldsOf x.k) 128 = true
  · obtain ⟨i0, i1, i2, i3, i4, i5, i6, i7⟩ := img_parts h h128
    have hm : (mkG x).ps.map (·.1) = x.es := by unfold mkG; simp [Function.comp_def]
    have hle : (mkG x).ps.length = x.es.length := by rw [← hm, List.length_map]
    rw [hm] at i5
    have hr := rowBs_lenM i5
    have hi : numB x.ib = true := by unfold numB; exact decide_eq_true ⟨i0, i1⟩
    have hu : x.ic ≤ 9007199254741023 := by omega
    unfold stImage imgB'
    dsimp only
    rw [show mfieldsOf y.k = mfieldsOf x.k by rw [hk], if_pos h128, if_pos h128]
    have e1 : imgBs x.ib x.ic x.ck x.es ++ r = vint x.ib.toNat ++ (vint x.ic.toNat ++ ((vint x.ck.length ++ x.ck) ++ ((vint (rowBs x.es).length ++ rowBs x.es) ++ r))) := by
      unfold imgBs
      simp only [List.append_assoc]
    have ei : i64w x.ic.toNat = x.ic := by
      unfold i64w
      rw [IntKind.wrap_i64]
      omega
    rw [e1, rdVe_vint _ _ (by unfold U64; omega)]
    dsimp only
    rw [rdVe_vint _ _ (by unfold U64; omega)]
    dsimp only
    rw [rdTe_back (by omega)]
    dsimp only
    unfold stImg2
    rw [rdTe_back (by omega)]
    dsimp only
    rw [if_neg (by simp), rwsOf_back i5 (by unfold U64; omega), i64w_back i0 i1, ei]
  · unfold fIB at h
    rw [if_neg h128] at h
    unfold imgSame at h
    simp only [Bool.and_eq_true, decide_eq_true_eq] at h
    obtain ⟨⟨⟨h1, h2⟩, h3⟩, h4⟩ := h
    have h5 : x.es = [] := by
      have : (mkG x).ps.length = x.es.length := by unfold mkG; simp
      rw [this] at h4
      exact List.length_eq_zero_iff.1 h4
    obtain ⟨z1, z2, z3, z4⟩ := hz
    unfold stImage imgB'
    dsimp only
    rw [show mfieldsOf y.k = mfieldsOf x.k by rw [hk], if_neg h128, if_neg h128, h1, h2, h3, h5]
    obtain ⟨k, f, t, v, o, cm, la, en, rc, ra, rb, s, ib, ck, es, ic⟩ := y
    dsimp only at z1 z2 z3 z4
    subst z1 z2 z3 z4
    rfl
theorem holds_zero {b : Bool} {n : Int} (h : holdsB b n = true) (hb : ¬ b = true) : n = 0 := by
  unfold holdsB at h
  split at h
  · assumption
  · rw [Bool.and_eq_true] at h
    exact absurd h.1 hb
theorem prsBody_back {x : MgX} (h : chkX x = true) : prsBody (bodyB x) = (x, 0) := by
  have hchk := chk_parts (g := mkG x) h
  obtain ⟨c0, c1, c2, c3, c4, c5, c6, n0, n1, n2, n3, ce, cr, ci⟩ := hchk
  have z0 : ¬ bit (mfieldsOf x.k) 1 = true → x.v = 0 ∧ True := fun hb => by
    unfold chkX chkB at h
    simp only [Bool.and_eq_true] at h
    exact ⟨holds_zero h.2.2.2.1 hb, trivial⟩
  have z1 : ¬ bit (mfieldsOf x.k) 2 = true → x.o = 0 := fun hb => by
    unfold chkX chkB at h
    simp only [Bool.and_eq_true] at h
    exact holds_zero h.2.2.2.2.1 hb
  have z2 : ¬ bit (mfieldsOf x.k) 4 = true → x.cm = 0 := fun hb => by
    unfold chkX chkB at h
    simp only [Bool.and_eq_true] at h
    exact holds_zero h.2.2.2.2.2.1 hb
  have z3 : ¬ bit (mfieldsOf x.k) 8 = true → x.la = 0 := fun hb => by
    unfold chkX chkB at h
    simp only [Bool.and_eq_true] at h
    exact holds_zero h.2.2.2.2.2.2.1 hb
  have c1 : 1 ≤ x.k := c1
  have c2 : x.k ≤ 10 := c2
  have c3 : 0 ≤ x.f := c3
  have c4 : x.f < 23 := c4
  have c5 : 0 ≤ x.t := c5
  have c6 : x.t < 23 := c6
  have q0 := stHead_back x MgX.zero (numsB (mfieldsOf x.k) x 4 ++ (entB x ++ (resB' x ++ imgB' x))) ⟨by omega, by omega⟩ ⟨by omega, by omega⟩ ⟨by omega, by omega⟩
  obtain ⟨y1, hy1⟩ : ∃ y1, y1 = { MgX.zero with k := x.k, f := x.f, t := x.t } := ⟨_, rfl⟩
  rw [← hy1] at q0
  have hk1 : y1.k = x.k := by rw [hy1]
  have q1 := stNumsA_back (mfieldsOf x.k) x y1 4 (entB x ++ (resB' x ++ imgB' x)) fun j hj hb => by
    match j, hj with
    | 0, _ => exact n0 hb
    | 1, _ => exact n1 hb
    | 2, _ => exact n2 hb
    | 3, _ => exact n3 hb
  have hs : setsN (mfieldsOf x.k) x y1 4 = { y1 with v := x.v, o := x.o, cm := x.cm, la := x.la } := by
    have hb : ∀ i : Nat, bit (mfieldsOf x.k) (2 ^ i) = true ∨ ¬ bit (mfieldsOf x.k) (2 ^ i) = true := fun i => Decidable.em _
    unfold setsN setsN setsN setsN setsN
    rcases hb 0 with b0 | b0 <;> rcases hb 1 with b1 | b1 <;> rcases hb 2 with b2 | b2 <;> rcases hb 3 with b3 | b3 <;>
      simp only [b0, b1, b2, b3, if_true, if_false, Bool.false_eq_true] <;>
      (rw [hy1]) <;> (try simp only [setNum, numAt, MgX.zero]) <;> (try congr 1) <;>
      first
        | rfl
        | exact (z0 b0).1.symm
        | exact (z1 b1).symm
        | exact (z2 b2).symm
        | exact (z3 b3).symm
  rw [hs] at q1
  obtain ⟨y2, hy2⟩ : ∃ y2, y2 = { y1 with v := x.v, o := x.o, cm := x.cm, la := x.la } := ⟨_, rfl⟩
  rw [← hy2] at q1
  have q2 := stEntry_back x y2 (resB' x ++ imgB' x) (by rw [hy2, hy1]) (by rw [hy2, hy1]; rfl) ce
  have q3 := stRes_back x { y2 with en := x.en } (imgB' x) (by rw [hy2, hy1]) (by rw [hy2, hy1]; exact ⟨rfl, rfl, rfl, rfl⟩) cr
  have q4 := stImage_back x { y2 with en := x.en, rc := x.rc, ra := x.ra, rb := x.rb, s := x.s } [] (by rw [hy2, hy1]) (by rw [hy2, hy1]; exact ⟨rfl, rfl, rfl, rfl⟩) ci
  rw [List.append_nil] at q4
  have hx : ({ y2 with en := x.en, rc := x.rc, ra := x.ra, rb := x.rb, s := x.s, ib := x.ib, ic := x.ic, ck := x.ck, es := x.es } : MgX) = x := by rw [hy2, hy1]
  have q1' : stNums ⟨numsB (mfieldsOf x.k) x 4 ++ (entB x ++ (resB' x ++ imgB' x)), 0, y1⟩ = (⟨entB x ++ (resB' x ++ imgB' x), 0, y2⟩, 0) := by
    unfold stNums
    dsimp only
    rw [hk1, q1]
  have hA : prsA 5 0 ⟨bodyB x, 0, MgX.zero⟩ = (⟨[], 0, x⟩, 0) := by
    unfold bodyB
    unfold prsA
    rw [show stp 0 ⟨hdBs x ++ (numsB (mfieldsOf x.k) x 4 ++ (entB x ++ (resB' x ++ imgB' x))), 0, MgX.zero⟩ = _ from q0]
    dsimp only
    rw [if_neg (by simp)]
    unfold prsA
    rw [show stp (0 + 1) ⟨numsB (mfieldsOf x.k) x 4 ++ (entB x ++ (resB' x ++ imgB' x)), 0, y1⟩ = _ from q1']
    dsimp only
    rw [if_neg (by simp)]
    unfold prsA
    rw [show stp (0 + 1 + 1) ⟨entB x ++ (resB' x ++ imgB' x), 0, y2⟩ = _ from q2]
    dsimp only
    rw [if_neg (by simp)]
    unfold prsA
    rw [show stp (0 + 1 + 1 + 1) ⟨resB' x ++ imgB' x, 0, { y2 with en := x.en }⟩ = _ from q3]
    dsimp only
    rw [if_neg (by simp)]
    unfold prsA
    rw [show stp (0 + 1 + 1 + 1 + 1) ⟨imgB' x, 0, { y2 with en := x.en, rc := x.rc, ra := x.ra, rb := x.rb, s := x.s }⟩ = _ from q4]
    dsimp only
    rw [if_neg (by simp)]
    unfold prsA
    rw [hx]
  unfold prsBody
  rw [hA]
  unfold prsFinM
  dsimp only
  rw [if_neg (by simp), if_pos ⟨end_nil, h⟩]
theorem prsMsg_back {x : MgX} (h : chkX x = true) : prsMsg (sealL (bodyB x)) = (x, 0) := by
  have hl : (bodyB x).length ≤ 65532 := by have := body_len (g := mkG x) h; rwa [mkG_x] at this
  obtain ⟨h1, h2, h3⟩ := seal_take (bodyB x)
  unfold prsMsg
  rw [if_neg (by rw [h3]; omega), if_neg (by rw [h3]; omega), h3, Nat.add_sub_cancel, h1, h2, if_pos rfl]
  exact prsBody_back h
end Go.Proofs.YtafkbodmiblbnaaDoor
/- Package entry: Rows. -/
namespace Go.Proofs.YtafkbodmiblbnaaDoor
open Go.RowKit
set_option linter.unusedVariables false
set_option linter.unusedSimpArgs false
def RwsP (w0 : World) (L : List Thing) (F : List EnM × Int) (r : Ending) (w' : World) : Prop := ∃ (ps : List (EnM × Value)) (u : Value), r = .returned (.tuple #[u, .int .i64 F.2]) ∧ ps.map (·.1) = F.1 ∧ Sep w0 (EnT u ps :: L) w'
theorem vint_pos (u : Nat) : 1 ≤ (vint u).length := by unfold vint vintF; split <;> simp
theorem rdTe_less {rest : List UInt8} {e : Int} (h : (rdTe rest e).2.2 = 0) : (rdTe rest e).2.1.length + 1 ≤ rest.length := by
  obtain ⟨-, h2⟩ := rdTe_zero h
  have h3 := congrArg List.length h2
  rw [List.length_append, List.length_append] at h3
  have h4 : 1 ≤ (vint (rdTe rest e).1.length).length := vint_pos _
  omega
set_option maxRecDepth 100000 in
set_option maxHeartbeats 16000000 in
theorem decode_w {w : World} (v : Value) (l : List UInt8) (hv : Sl w v (bv l)) (hk : KindsAt w) (hl : l.length ≤ 1000000) :
    Calls Tryd.prog 79 #[v, .func (.func 59) #[] #[]] w (RwsP w [] (rwsOf l)) := by
  have HR := Lib.hid (read_sep v l w (Sep.start w) hv (by omega))
  have HK := Lib.hid hk
  have hu := rdVe_u64 l 0
  have hlen := rdVe_len l 0
  obtain ⟨F, hF⟩ : ∃ F, F = rwsOf l := ⟨_, rfl⟩
  rw [← hF]
  unfold rwsOf at hF
  have HV : Hid (∀ wx M g, Sep w (RdrT g l 0 :: M) wx → Calls Tryd.prog 57 #[.pointer (some ⟨g, 0, none⟩)] wx fun r w' => r = .returned (.int .u64 (rdVe l 0).1) ∧ Sep w (RdrT g (rdVe l 0).2.1 (rdVe l 0).2.2 :: M) w') := Lib.hid fun wx M g hx => rvarint_sep hx
  generalize (rdVe l 0).1 = n at *
  generalize (rdVe l 0).2.1 = r1 at *
  generalize (rdVe l 0).2.2 = e1 at *
  unfold U64 at hu
  have n0 : (0 : Int) ≤ (n : Int) := by omega
  have n1 : (n : Int) ≤ 18446744073709551615 := by omega
  have HL := Lib.hid (show r1.length ≤ 1000000 by omega)
  have HF := Lib.hid hF
  obtain ⟨a, c, rfl⟩ := hv.len
  clear hv hk hl hlen hF hu
  go_enter Tryd.func79, Tryd.ntmps79
  go_wp2_with fail
  refine HR.out.mono ?_
  rintro q0 w1 ⟨g, rfl, h1⟩
  have H1 := Lib.hid h1
  clear h1 HR
  go_wp2_with fail
  refine (HV.out _ _ _ H1.out).mono ?_
  rintro q0 w2 ⟨rfl, h2⟩
  have H2 := Lib.hid h2.enNil
  clear h2 HV H1
  go_wp2_with fail
  go_loopw [7, 16] (fun pv i wr => ∃ (j : Nat) (ps : List (EnM × Value)) (rs : List UInt8) (es : Int) (av : Option Addr) (cv : Nat), j ≤ n ∧ i = .int .u64 j ∧ pv = .slice av ps.length cv ∧ rs.length + ps.length ≤ 1000000 ∧ F = rwsA (n - j) rs es (ps.map (·.1)) ∧ Sep w [EnT (.slice av ps.length cv) ps, RdrT g rs es] wr) (fun _ i _ => n - (intOf i).toNat)
  case atStart => exact ⟨0, [], r1, e1, none, 0, Nat.zero_le _, rfl, rfl, HL.out, HF.out, H2.out⟩
  case round =>
    obtain ⟨j, ps, rs, es, av, cv, hj, rfl, rfl, hrs, hrd, hs⟩ := hrel
    clear H2 HF HL
    have j0 : (0 : Int) ≤ (j : Int) := by omega
    by_cases hjn : j < n
    · have hd : decide (j < n) = true := decide_eq_true hjn
      have j1 : (j : Int) < (n : Int) := by omega
      have hlen := rdTe_len rs es
      have HT := Lib.hid (rtext_sep hs.sw2 (by omega))
      have hless : (rdTe rs es).2.2 = 0 → (rdTe rs es).2.1.length + 1 ≤ rs.length := rdTe_less
      rw [show n - j = (n - (j + 1)) + 1 by omega, rwsA] at hrd
      generalize (rdTe rs es).1 = t at *
      generalize (rdTe rs es).2.1 = r2 at *
      generalize (rdTe rs es).2.2 = e2 at *
      have HRD := Lib.hid hrd
      have HRS := Lib.hid (And.intro hrs (And.intro hlen hjn))
      have HLESS := Lib.hid hless
      clear hs hrd hless hlen hrs hjn hj
      go_wp2_with fail
      refine HT.out.mono ?_
      rintro q0 w3 ⟨v3, rfl, h3⟩
      obtain ⟨a3, c3, rfl⟩ := h3.sl.len
      rw [bv_length] at h3 ⊢
      have HE := Lib.hid (rerr_sep h3.sw2)
      have H3 := Lib.hid h3
      clear h3 HT
      go_wp2_with fail
      refine HE.out.mono ?_
      rintro q0 w4 ⟨rfl, rfl⟩
      clear HE
      by_cases hee : e2 = 0
      · have hb : (e2 != 0) = false := by simp [hee]
        have HRD2 : Hid (F = if (prsEn t).2 ≠ 0 then ([], (prsEn t).2) else rwsA (n - (j + 1)) r2 0 (ps.map (·.1) ++ [(prsEn t).1])) := Lib.hid (by rw [HRD.out, if_neg (by simp [hee])])
        have HLS := Lib.hid (HLESS.out hee)
        have HP := Lib.hid (eparse_any (.slice a3 t.length c3) t H3.out H3.out.sl (HK.out.below H3.out.low) (by have := HRS.out; omega))
        have HRT : Hid (e2 = 0) := Lib.hid hee
        clear HRD HLESS H3 hee
        go_wp2_with fail
        refine HP.out.mono ?_
        rintro q0 w5 ⟨x, err, u, rfl, hp, h5⟩
        obtain ⟨au, ku, rfl, -⟩ := h5.rnForm
        have HRD3 : Hid (F = if err ≠ 0 then ([], err) else rwsA (n - (j + 1)) r2 0 (ps.map (·.1) ++ [x])) := Lib.hid (by rw [HRD2.out, ← hp])
        have h6 := h5.alloc (.cells (enC x (.slice au x.p.ls.length ku)) 32)
        have h7 := h6.alloc (.cells (enC x (.slice au x.p.ls.length ku)) 32)
        rw [show (w5.alloc (.cells (enC x (.slice au x.p.ls.length ku)) 32)).heap.size = w5.heap.size + 1 by simp] at h7
        by_cases hee : err = 0
        · have hb3 : (err != 0) = false := by simp [hee]
          obtain ⟨av2, cv2, w8, hr, h8⟩ := append_en (ty := 35) (h7.pick [0, 5, 2, 4] rfl : Sep w [Cl (w5.heap.size + 1) (enC x (.slice au x.p.ls.length ku)) 32, EnT (.slice av ps.length cv) ps, LnR (.slice au x.p.ls.length ku) x.p.ls, RdrT g r2 e2] _) rfl (by have := HRS.out; omega)
          unfold enC at h6 hr
          obtain ⟨d0, d1, d2, d3, d4, d5, d6⟩ := cells7 h6
          have HAP := Lib.hid hr
          have H8 := Lib.hid h8
          have HF : Hid (F = rwsA (n - (j + 1)) r2 0 (ps.map (·.1) ++ [x])) := Lib.hid (by rw [HRD3.out, if_neg (by simp [hee])])
          unfold enV
          clear HP HRD2 HRD3 hp h5 h6 h7 hr h8 hee
          go_wp2_with (at_builtin; refine wpList_append_run rfl _ _ _ _ rfl rfl rfl HAP.out ?_)
          go_roundw
          case rel =>
            refine ⟨j + 1, ps ++ [(x, .slice au x.p.ls.length ku)], r2, 0, av2, cv2, HRS.out.2.2, by go_num, by rw [List.length_append, List.length_singleton], by rw [List.length_append, List.length_singleton]; have := HRS.out; have := HLS.out; omega, ?_, ?_⟩
            · rw [List.map_append]; exact HF.out
            · have := H8.out; rw [HRT.out] at this; rw [List.length_append, List.length_singleton]; exact this
          case measure => have := HRS.out.2.2; simp [intOf]; omega
        · have hb3 : (err != 0) = true := by rw [bne_iff_ne]; exact hee
          have HF : Hid (F = ([], err)) := Lib.hid (by rw [HRD3.out, if_pos hee])
          have H6 := Lib.hid (h6.pick [] rfl : Sep w [] _).enNil
          unfold enC at h6
          obtain ⟨d0, d1, d2, d3, d4, d5, d6⟩ := cells7 h6
          unfold enV
          clear HP HRD2 HRD3 hp h5 h6 h7 hee
          go_wp2_with fail
          rw [HF.out]
          go_ret2
          exact ⟨[], _, rfl, rfl, by unfold enC at H6; exact H6.out⟩
      · have hb : (e2 != 0) = true := by rw [bne_iff_ne]; exact hee
        have HF : Hid (F = ([], e2)) := Lib.hid (by rw [HRD.out, if_pos hee])
        have hen : endErr r2 e2 = e2 := by unfold endErr; rw [if_neg (by simp [hee])]
        have hend := rend_sep H3.out.sw2
        rw [hen] at hend
        have HN := Lib.hid hend
        have H9 := Lib.hid (H3.out.pick [] rfl : Sep w [] _).enNil
        clear H3 HRD HLESS hee hen hend
        go_wp2_with fail
        refine HN.out.mono ?_
        rintro q0 w6 ⟨rfl, rfl⟩
        clear HN
        go_wp2_with fail
        rw [HF.out]
        go_ret2
        exact ⟨[], _, rfl, rfl, H9.out⟩
    · have hd : decide (j < n) = false := decide_eq_false hjn
      rw [show n - j = 0 by omega, rwsA] at hrd
      have HN := Lib.hid (rend_sep hs.sw2)
      have HS := Lib.hid (hs.pick [0] rfl : Sep w [EnT (.slice av ps.length cv) ps] wr)
      have HE := Lib.hid (hs.pick [] rfl : Sep w [] wr).enNil
      have HRD := Lib.hid hrd
      clear hs hrd hrs hj hjn
      generalize endErr rs es = e2 at *
      go_wp2_with fail
      refine HN.out.mono ?_
      rintro q0 w6 ⟨rfl, rfl⟩
      clear HN
      by_cases hee : e2 = 0
      · have hb : (e2 != 0) = false := by simp [hee]
        have HF : Hid (F = (ps.map (·.1), 0)) := Lib.hid (by rw [HRD.out, if_neg (by simp [hee])])
        clear hee HRD HE
        go_wp2_with fail
        rw [HF.out]
        go_ret2
        exact ⟨ps, _, rfl, rfl, HS.out⟩
      · have hb : (e2 != 0) = true := by rw [bne_iff_ne]; exact hee
        have HF : Hid (F = ([], e2)) := Lib.hid (by rw [HRD.out, if_pos hee])
        clear hee HRD HS
        go_wp2_with fail
        rw [HF.out]
        go_ret2
        exact ⟨[], _, rfl, rfl, HE.out⟩
theorem rows_any {w0 w : World} {L : List Thing} (v : Value) (l : List UInt8) (h : Sep w0 L w) (hv : Sl w v (bv l)) (hk : KindsAt w) (hl : l.length ≤ 1000000) :
    Calls Tryd.prog 61 #[v] w (RwsP w0 L (rwsOf l)) := by
  have HC := Lib.hid (decode_w v l hv hk hl)
  have H := Lib.hid h
  obtain ⟨a, c, rfl⟩ := hv.len
  clear h hv hk
  generalize rwsOf l = F at *
  go_enter Tryd.func61, Tryd.ntmps61
  go_wp2_with fail
  refine HC.out.mono ?_
  rintro r0 w1 ⟨ps, u, rfl, hps, h1⟩
  have HF := Lib.hid (H.out.onto1 h1)
  have HPS := Lib.hid hps
  clear h1 HC H hps
  go_wp2_with fail
  go_ret2
  exact ⟨ps, _, rfl, HPS.out, HF.out⟩
end Go.Proofs.YtafkbodmiblbnaaDoor
