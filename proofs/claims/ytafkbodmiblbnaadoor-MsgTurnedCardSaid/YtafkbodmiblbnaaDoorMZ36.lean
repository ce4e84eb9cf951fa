/- Package msg: what is read of bytes (pure). -/
import Derived.Test.YtafkbodmiblbnaaDoorMZ28
import Derived.Test.YtafkbodmiblbnaaDoorMZ18
import Derived.Test.YtafkbodmiblbnaaDoorMSum3
namespace Go.Proofs.YtafkbodmiblbnaaDoor
open Go Go.RowKit
set_option linter.unusedVariables false
set_option linter.unusedSimpArgs false
def MgX.zero : MgX := ⟨0, 0, 0, 0, 0, 0, 0, EnM.zero, 0, 0, 0, false, 0, [], [], 0⟩
/-- A message of its words, its lists nowhere. -/
def mkG (x : MgX) : MgM := ⟨x.k, x.f, x.t, x.v, x.o, x.cm, x.la, x.en, .slice none 0 0, x.rc, x.ra, x.rb, x.s, x.ib, x.ck, .slice none 0 0, x.es.map (fun e => (e, .slice none 0 0)), .slice none 0 0, x.ic⟩
def chkX (x : MgX) : Bool := chkB (mkG x)
theorem mkG_x (x : MgX) : (mkG x).x = x := by
  obtain ⟨k, f, t, v, o, cm, la, en, rc, ra, rb, s, ib, ck, es, ic⟩ := x
  simp [mkG, MgM.x, Function.comp_def]
theorem chkX_x (g : MgM) : chkX g.x = chkB g := by
  unfold chkX chkB mkG fIB ckI MgM.x
  simp only [List.map_map, List.length_map, List.all_map, Function.comp_def]
structure RS where
  r : List UInt8
  e : Int
  x : MgX
def stHead (s : RS) : RS × Int :=
  (⟨(rdNe (rdNe (rdNe s.r s.e).2.1 (rdNe s.r s.e).2.2).2.1 (rdNe (rdNe s.r s.e).2.1 (rdNe s.r s.e).2.2).2.2).2.1, (rdNe (rdNe (rdNe s.r s.e).2.1 (rdNe s.r s.e).2.2).2.1 (rdNe (rdNe s.r s.e).2.1 (rdNe s.r s.e).2.2).2.2).2.2,
    { s.x with k := ((rdNe s.r s.e).1 : Nat), f := ((rdNe (rdNe s.r s.e).2.1 (rdNe s.r s.e).2.2).1 : Nat), t := ((rdNe (rdNe (rdNe s.r s.e).2.1 (rdNe s.r s.e).2.2).2.1 (rdNe (rdNe s.r s.e).2.1 (rdNe s.r s.e).2.2).2.2).1 : Nat) }⟩,
    (rdNe (rdNe (rdNe s.r s.e).2.1 (rdNe s.r s.e).2.2).2.1 (rdNe (rdNe s.r s.e).2.1 (rdNe s.r s.e).2.2).2.2).2.2)
def setNum (x : MgX) : Nat → Int → MgX
  | 0, n => { x with v := n }
  | 1, n => { x with o := n }
  | 2, n => { x with cm := n }
  | _, n => { x with la := n }
def stN (has : Int) (i : Nat) (q : RS) : RS := if bit has (2 ^ i) then ⟨(rdVe q.r q.e).2.1, (rdVe q.r q.e).2.2, setNum q.x i (i64w (rdVe q.r q.e).1)⟩ else q
def stNumsA (has : Int) : Nat → RS → RS
  | 0, s => s
  | i + 1, s => stN has i (stNumsA has i s)
def stNums (s : RS) : RS × Int := (stNumsA (mfieldsOf s.x.k) 4 s, (stNumsA (mfieldsOf s.x.k) 4 s).e)
def stEntry (s : RS) : RS × Int :=
  if bit (mfieldsOf s.x.k) 16 then
    if (rdTe s.r s.e).2.2 ≠ 0 then (⟨(rdTe s.r s.e).2.1, (rdTe s.r s.e).2.2, s.x⟩, (rdTe s.r s.e).2.2)
    else (⟨(rdTe s.r s.e).2.1, (rdTe s.r s.e).2.2, { s.x with en := (prsEn (rdTe s.r s.e).1).1 }⟩, (prsEn (rdTe s.r s.e).1).2)
  else if bit (mfieldsOf s.x.k) 32 then
    (⟨(rdVe (rdNe s.r s.e).2.1 (rdNe s.r s.e).2.2).2.1, (rdVe (rdNe s.r s.e).2.1 (rdNe s.r s.e).2.2).2.2, { s.x with en := ⟨((rdNe s.r s.e).1 : Nat), i64w (rdVe (rdNe s.r s.e).2.1 (rdNe s.r s.e).2.2).1, s.x.en.p⟩ }⟩, (rdVe (rdNe s.r s.e).2.1 (rdNe s.r s.e).2.2).2.2)
  else (s, s.e)
def stRes2 (s : RS) (p : Int × Int × Int) (r : List UInt8) (e : Int) : RS × Int :=
  if 1 < (rdNe r e).1 then (⟨(rdNe r e).2.1, (rdNe r e).2.2, { s.x with rc := p.1, ra := p.2.1, rb := p.2.2 }⟩, 4)
  else (⟨(rdNe r e).2.1, (rdNe r e).2.2, { s.x with rc := p.1, ra := p.2.1, rb := p.2.2, s := decide ((rdNe r e).1 = 1) }⟩, (rdNe r e).2.2)
def stRes (s : RS) : RS × Int :=
  if bit (mfieldsOf s.x.k) 64 then
    if (rdTe s.r s.e).2.2 ≠ 0 then (⟨(rdTe s.r s.e).2.1, (rdTe s.r s.e).2.2, s.x⟩, (rdTe s.r s.e).2.2)
    else if (prsRes (rdTe s.r s.e).1).2 ≠ 0 then (⟨(rdTe s.r s.e).2.1, (rdTe s.r s.e).2.2, { s.x with rc := (prsRes (rdTe s.r s.e).1).1.1, ra := (prsRes (rdTe s.r s.e).1).1.2.1, rb := (prsRes (rdTe s.r s.e).1).1.2.2 }⟩, (prsRes (rdTe s.r s.e).1).2)
    else stRes2 s (prsRes (rdTe s.r s.e).1).1 (rdTe s.r s.e).2.1 (rdTe s.r s.e).2.2
  else (s, 0)
def stImg2 (s : RS) (a b : Int) (c : List UInt8) (r : List UInt8) (e : Int) : RS × Int :=
  if (rdTe r e).2.2 ≠ 0 then (⟨(rdTe r e).2.1, (rdTe r e).2.2, { s.x with ib := a, ic := b, ck := c }⟩, (rdTe r e).2.2)
  else (⟨(rdTe r e).2.1, (rdTe r e).2.2, { s.x with ib := a, ic := b, ck := c, es := (rwsOf (rdTe r e).1).1 }⟩, (rwsOf (rdTe r e).1).2)
def stImage (s : RS) : RS × Int :=
  if bit (mfieldsOf s.x.k) 128 then
    stImg2 s (i64w (rdVe s.r s.e).1) (i64w (rdVe (rdVe s.r s.e).2.1 (rdVe s.r s.e).2.2).1)
      (rdTe (rdVe (rdVe s.r s.e).2.1 (rdVe s.r s.e).2.2).2.1 (rdVe (rdVe s.r s.e).2.1 (rdVe s.r s.e).2.2).2.2).1
      (rdTe (rdVe (rdVe s.r s.e).2.1 (rdVe s.r s.e).2.2).2.1 (rdVe (rdVe s.r s.e).2.1 (rdVe s.r s.e).2.2).2.2).2.1
      (rdTe (rdVe (rdVe s.r s.e).2.1 (rdVe s.r s.e).2.2).2.1 (rdVe (rdVe s.r s.e).2.1 (rdVe s.r s.e).2.2).2.2).2.2
  else (s, 0)
def stp : Nat → RS → RS × Int
  | 0, s => stHead s
  | 1, s => stNums s
  | 2, s => stEntry s
  | 3, s => stRes s
  | _, s => stImage s
def prsA : Nat → Nat → RS → RS × Int
  | 0, _, s => (s, 0)
  | n + 1, i, s => if (stp i s).2 ≠ 0 then stp i s else prsA n (i + 1) (stp i s).1
def prsFinM (q : RS × Int) : MgX × Int := if q.2 ≠ 0 then (MgX.zero, q.2) else if endErr q.1.r q.1.e = 0 ∧ chkX q.1.x = true then (q.1.x, 0) else (MgX.zero, 4)
def prsBody (l : List UInt8) : MgX × Int := prsFinM (prsA 5 0 ⟨l, 0, MgX.zero⟩)
/-- What Parse answers. -/
def prsMsg (l : List UInt8) : MgX × Int :=
  if 65536 < l.length then (MgX.zero, 5) else if l.length < 4 then (MgX.zero, 3)
  else if tailL (l.take (l.length - 4)) = l.drop (l.length - 4) then prsBody (l.take (l.length - 4)) else (MgX.zero, 20)
theorem prsMsg_ne {l : List UInt8} (h : (prsMsg l).2 ≠ 0) : (prsMsg l).1 = MgX.zero := by
  unfold prsMsg at h ⊢
  split
  · rfl
  · rename_i h1
    rw [if_neg h1] at h
    split
    · rfl
    · rename_i h2
      rw [if_neg h2] at h
      split
      · rename_i h3
        rw [if_pos h3] at h
        unfold prsBody prsFinM at h ⊢
        split
        · rfl
        · rename_i h4
          rw [if_neg h4] at h
          split
          · rename_i h5
            rw [if_pos h5] at h
            exact absurd rfl h
          · rfl
      · rfl
/-- What each step has read, when it went well. -/
theorem stHead_ok {s : RS} (h : (stHead s).2 = 0) : s.e = 0 ∧ s.r = hdBs (stHead s).1.x ++ (stHead s).1.r ∧ (stHead s).1.e = 0 := by
  obtain ⟨h1, h2⟩ := rdNe_zero h
  obtain ⟨h3, h4⟩ := rdNe_zero h1
  obtain ⟨h5, h6⟩ := rdNe_zero h3
  refine ⟨h5, ?_, h⟩
  show s.r = [UInt8.ofNat ((rdNe s.r s.e).1 : Int).toNat, UInt8.ofNat ((rdNe (rdNe s.r s.e).2.1 (rdNe s.r s.e).2.2).1 : Int).toNat, UInt8.ofNat ((rdNe (rdNe (rdNe s.r s.e).2.1 (rdNe s.r s.e).2.2).2.1 (rdNe (rdNe s.r s.e).2.1 (rdNe s.r s.e).2.2).2.2).1 : Int).toNat] ++ (rdNe (rdNe (rdNe s.r s.e).2.1 (rdNe s.r s.e).2.2).2.1 (rdNe (rdNe s.r s.e).2.1 (rdNe s.r s.e).2.2).2.2).2.1
  rw [Int.toNat_natCast, Int.toNat_natCast, Int.toNat_natCast]
  conv => lhs; rw [h6, h4, h2]
  rfl
def lowN (x : MgX) (i : Nat) : Prop := 0 ≤ numAt x i
theorem stN_e {has : Int} {i : Nat} {q : RS} (h : (stN has i q).e = 0) : q.e = 0 := by
  unfold stN at h
  split at h
  · exact (rdVe_zero h).1
  · exact h
theorem stNumsA_e {has : Int} {s : RS} : ∀ i, (stNumsA has i s).e = 0 → s.e = 0
  | 0, h => h
  | i + 1, h => stNumsA_e i (stN_e h)
theorem setNum_at (x : MgX) (i j : Nat) (n : Int) (hi : i < 4) (hj : j < 4) : numAt (setNum x i n) j = if i = j then n else numAt x j := by
  match i, j, hi, hj with
  | 0, 0, _, _ => rfl | 0, 1, _, _ => rfl | 0, 2, _, _ => rfl | 0, 3, _, _ => rfl
  | 1, 0, _, _ => rfl | 1, 1, _, _ => rfl | 1, 2, _, _ => rfl | 1, 3, _, _ => rfl
  | 2, 0, _, _ => rfl | 2, 1, _, _ => rfl | 2, 2, _, _ => rfl | 2, 3, _, _ => rfl
  | 3, 0, _, _ => rfl | 3, 1, _, _ => rfl | 3, 2, _, _ => rfl | 3, 3, _, _ => rfl
theorem stN_at (has : Int) (i j : Nat) (q : RS) (hi : i < 4) (hj : j < 4) : numAt (stN has i q).x j = if i = j ∧ bit has (2 ^ i) = true then i64w (rdVe q.r q.e).1 else numAt q.x j := by
  unfold stN
  split
  · rename_i hb
    rw [setNum_at _ _ _ _ hi hj]
    by_cases h : i = j
    · rw [if_pos h, if_pos ⟨h, hb⟩]
    · rw [if_neg h, if_neg (fun c => h c.1)]
  · rename_i hb
    rw [if_neg (fun c => hb c.2)]
theorem stNumsA_at (has : Int) (s : RS) (j : Nat) (hj : j < 4) : ∀ i, i ≤ 4 → j < i → numAt (stNumsA has i s).x j = numAt (stNumsA has (j + 1) s).x j
  | 0, _, h => by omega
  | i + 1, hi, h => by
    by_cases he : j = i
    · rw [he]
    · show numAt (stN has i (stNumsA has i s)).x j = _
      rw [stN_at has i j _ (by omega) hj, if_neg (by omega)]
      exact stNumsA_at has s j hj i (by omega) (by omega)
theorem numsB_eq {has : Int} {x y : MgX} : ∀ {i : Nat}, (∀ j, j < i → numAt x j = numAt y j) → numsB has x i = numsB has y i
  | 0, _ => rfl
  | i + 1, h => by
    unfold numsB
    rw [numsB_eq (i := i) fun j hj => h j (by omega), h i (by omega)]
theorem stNumsA_ok {has : Int} {s : RS} : ∀ i, i ≤ 4 → (stNumsA has i s).e = 0 → (∀ j, j < i → bit has (2 ^ j) = true → 0 ≤ numAt (stNumsA has i s).x j) → s.r = numsB has (stNumsA has i s).x i ++ (stNumsA has i s).r
  | 0, _, _, _ => rfl
  | i + 1, hi, h, hn => by
    have h0 := stN_e h
    have h1 := stNumsA_ok (has := has) (s := s) i (by omega) h0 fun j hj hb => by
      have h2 := hn j (by omega) hb
      rw [stNumsA_at has s j (by omega) (i + 1) hi (by omega), ← stNumsA_at has s j (by omega) i (by omega) hj] at h2
      exact h2
    have h3 : numsB has (stNumsA has (i + 1) s).x i = numsB has (stNumsA has i s).x i := numsB_eq fun j hj => by
      rw [stNumsA_at has s j (by omega) (i + 1) hi (by omega), ← stNumsA_at has s j (by omega) i (by omega) hj]
    show s.r = (numsB has (stNumsA has (i + 1) s).x i ++ if bit has (2 ^ i) then vint (numAt (stNumsA has (i + 1) s).x i).toNat else []) ++ (stNumsA has (i + 1) s).r
    rw [h3]
    have h4 : numAt (stNumsA has (i + 1) s).x i = if bit has (2 ^ i) = true then i64w (rdVe (stNumsA has i s).r (stNumsA has i s).e).1 else numAt (stNumsA has i s).x i := by
      show numAt (stN has i (stNumsA has i s)).x i = _
      rw [stN_at has i i _ (by omega) (by omega)]
      by_cases hb : bit has (2 ^ i) = true
      · rw [if_pos ⟨rfl, hb⟩, if_pos hb]
      · rw [if_neg (fun c => hb c.2), if_neg hb]
    by_cases hb : bit has (2 ^ i) = true
    · have h5 := hn i (by omega) hb
      rw [h4, if_pos hb] at h5
      rw [if_pos hb, h4, if_pos hb, rdVe_u h5]
      have h6 : stNumsA has (i + 1) s = ⟨(rdVe (stNumsA has i s).r (stNumsA has i s).e).2.1, (rdVe (stNumsA has i s).r (stNumsA has i s).e).2.2, setNum (stNumsA has i s).x i (i64w (rdVe (stNumsA has i s).r (stNumsA has i s).e).1)⟩ := by
        show stN has i (stNumsA has i s) = _
        unfold stN
        rw [if_pos hb]
      rw [h6] at h ⊢
      have h7 := (rdVe_zero h).2
      conv => lhs; rw [h1, h7]
      rw [List.append_assoc]
    · rw [if_neg hb, List.append_nil]
      have h6 : stNumsA has (i + 1) s = stNumsA has i s := by
        show stN has i (stNumsA has i s) = _
        unfold stN
        rw [if_neg hb]
      rw [h6]
      exact h1
end Go.Proofs.YtafkbodmiblbnaaDoor
/- Package msg: what is read has just these bytes; what may be is read as it was (pure). -/
namespace Go.Proofs.YtafkbodmiblbnaaDoor
open Go Go.RowKit
set_option linter.unusedVariables false
set_option linter.unusedSimpArgs false
theorem stEntry_ok {s : RS} (h : (stEntry s).2 = 0) (hl : s.r.length ≤ 1000000) (hf : fEB (mfieldsOf s.x.k) (stEntry s).1.x.en = true) : s.e = 0 ∧ s.r = entB (stEntry s).1.x ++ (stEntry s).1.r ∧ (stEntry s).1.e = 0 := by
  by_cases h16 : bit (mfieldsOf s.x.k) 16 = true
  · by_cases ht : (rdTe s.r s.e).2.2 ≠ 0
    · have e : stEntry s = (⟨(rdTe s.r s.e).2.1, (rdTe s.r s.e).2.2, s.x⟩, (rdTe s.r s.e).2.2) := by unfold stEntry; rw [if_pos h16, if_pos ht]
      rw [e] at h
      exact absurd h ht
    · have e : stEntry s = (⟨(rdTe s.r s.e).2.1, (rdTe s.r s.e).2.2, { s.x with en := (prsEn (rdTe s.r s.e).1).1 }⟩, (prsEn (rdTe s.r s.e).1).2) := by unfold stEntry; rw [if_pos h16, if_neg ht]
      have ht := Decidable.not_not.1 ht
      obtain ⟨h1, h2⟩ := rdTe_zero ht
      have hlt : (rdTe s.r s.e).1.length ≤ s.r.length := by
        have := congrArg List.length h2
        simp only [List.length_append] at this
        omega
      rw [e] at h ⊢
      refine ⟨h1, ?_, ht⟩
      have h : (prsEn (rdTe s.r s.e).1).2 = 0 := h
      rcases prsEn_again (rdTe s.r s.e).1 (by unfold maxLen; omega) with ⟨x, h3, h4, h5⟩ | ⟨er, h3, h4⟩
      · have he : entB { s.x with en := (prsEn (rdTe s.r s.e).1).1 } = rowTx (prsEn (rdTe s.r s.e).1).1 := by
          unfold entB
          exact if_pos h16
        show s.r = entB { s.x with en := (prsEn (rdTe s.r s.e).1).1 } ++ (rdTe s.r s.e).2.1
        rw [he, h3]
        unfold rowTx
        rw [← h5]
        exact h2
      · rw [h3] at h
        exact absurd h h4
  · by_cases h32 : bit (mfieldsOf s.x.k) 32 = true
    · have e : stEntry s = (⟨(rdVe (rdNe s.r s.e).2.1 (rdNe s.r s.e).2.2).2.1, (rdVe (rdNe s.r s.e).2.1 (rdNe s.r s.e).2.2).2.2, { s.x with en := ⟨((rdNe s.r s.e).1 : Nat), i64w (rdVe (rdNe s.r s.e).2.1 (rdNe s.r s.e).2.2).1, s.x.en.p⟩ }⟩, (rdVe (rdNe s.r s.e).2.1 (rdNe s.r s.e).2.2).2.2) := by unfold stEntry; rw [if_neg h16, if_pos h32]
      rw [e] at h hf ⊢
      obtain ⟨h1, h2⟩ := rdVe_zero h
      obtain ⟨h3, h4⟩ := rdNe_zero h1
      refine ⟨h3, ?_, h⟩
      have hf : fEB (mfieldsOf s.x.k) ⟨((rdNe s.r s.e).1 : Nat), i64w (rdVe (rdNe s.r s.e).2.1 (rdNe s.r s.e).2.2).1, s.x.en.p⟩ = true := hf
      unfold fEB at hf
      rw [if_neg h16, if_pos h32, Bool.and_eq_true] at hf
      have h5 : 0 ≤ i64w (rdVe (rdNe s.r s.e).2.1 (rdNe s.r s.e).2.2).1 := by
        have h9 := of_decide_eq_true hf.1
        have h8 : 1 ≤ i64w (rdVe (rdNe s.r s.e).2.1 (rdNe s.r s.e).2.2).1 := h9.2.2.1
        omega
      have he : entB { s.x with en := ⟨((rdNe s.r s.e).1 : Nat), i64w (rdVe (rdNe s.r s.e).2.1 (rdNe s.r s.e).2.2).1, s.x.en.p⟩ } = [UInt8.ofNat ((rdNe s.r s.e).1 : Int).toNat] ++ vint (i64w (rdVe (rdNe s.r s.e).2.1 (rdNe s.r s.e).2.2).1).toNat := by
        unfold entB
        show (if bit (mfieldsOf s.x.k) 16 = true then _ else if bit (mfieldsOf s.x.k) 32 = true then _ else _) = _
        rw [if_neg h16, if_pos h32]
      show s.r = entB { s.x with en := ⟨((rdNe s.r s.e).1 : Nat), i64w (rdVe (rdNe s.r s.e).2.1 (rdNe s.r s.e).2.2).1, s.x.en.p⟩ } ++ (rdVe (rdNe s.r s.e).2.1 (rdNe s.r s.e).2.2).2.1
      rw [he, rdVe_u h5, Int.toNat_natCast, List.append_assoc, ← h2]
      exact h4
    · have e : stEntry s = (s, s.e) := by unfold stEntry; rw [if_neg h16, if_neg h32]
      rw [e] at h ⊢
      refine ⟨h, ?_, h⟩
      have he : entB s.x = [] := by unfold entB; rw [if_neg h16, if_neg h32]
      show s.r = entB s.x ++ s.r
      rw [he]; rfl
theorem byte01 {n : Nat} (h : ¬ 1 < n) : [UInt8.ofNat n] = [if decide (n = 1) = true then (1 : UInt8) else 0] := by
  rcases Nat.lt_or_ge n 1 with h1 | h1
  · have : n = 0 := by omega
    subst this; rfl
  · have : n = 1 := by omega
    subst this; rfl
theorem stRes_ok {s : RS} (h : (stRes s).2 = 0) (h0 : s.e = 0) : s.r = resB' (stRes s).1.x ++ (stRes s).1.r ∧ (stRes s).1.e = 0 := by
  by_cases h64 : bit (mfieldsOf s.x.k) 64 = true
  · by_cases ht : (rdTe s.r s.e).2.2 ≠ 0
    · have e : (stRes s).2 = (rdTe s.r s.e).2.2 := by unfold stRes; rw [if_pos h64, if_pos ht]
      rw [e] at h
      exact absurd h ht
    · by_cases hp : (prsRes (rdTe s.r s.e).1).2 ≠ 0
      · have e : (stRes s).2 = (prsRes (rdTe s.r s.e).1).2 := by unfold stRes; rw [if_pos h64, if_neg ht, if_pos hp]
        rw [e] at h
        exact absurd h hp
      · have e : stRes s = stRes2 s (prsRes (rdTe s.r s.e).1).1 (rdTe s.r s.e).2.1 (rdTe s.r s.e).2.2 := by unfold stRes; rw [if_pos h64, if_neg ht, if_neg hp]
        have ht := Decidable.not_not.1 ht
        have hp := Decidable.not_not.1 hp
        obtain ⟨h1, h2⟩ := rdTe_zero ht
        rw [e] at h ⊢
        rw [ht] at h ⊢
        by_cases hb : 1 < (rdNe (rdTe s.r s.e).2.1 0).1
        · have e2 : (stRes2 s (prsRes (rdTe s.r s.e).1).1 (rdTe s.r s.e).2.1 0).2 = 4 := by unfold stRes2; rw [if_pos hb]
          rw [e2] at h
          exact absurd h (by decide)
        · have e2 : stRes2 s (prsRes (rdTe s.r s.e).1).1 (rdTe s.r s.e).2.1 0 = (⟨(rdNe (rdTe s.r s.e).2.1 0).2.1, (rdNe (rdTe s.r s.e).2.1 0).2.2, { s.x with rc := (prsRes (rdTe s.r s.e).1).1.1, ra := (prsRes (rdTe s.r s.e).1).1.2.1, rb := (prsRes (rdTe s.r s.e).1).1.2.2, s := decide ((rdNe (rdTe s.r s.e).2.1 0).1 = 1) }⟩, (rdNe (rdTe s.r s.e).2.1 0).2.2) := by unfold stRes2; rw [if_neg hb]
          rw [e2] at h ⊢
          refine ⟨?_, h⟩
          obtain ⟨h3, h4⟩ := rdNe_zero h
          rcases prsRes_again (rdTe s.r s.e).1 with ⟨c, a, b, h5, h6, h7⟩ | ⟨er, h5, h6⟩
          · have he : resB' { s.x with rc := (prsRes (rdTe s.r s.e).1).1.1, ra := (prsRes (rdTe s.r s.e).1).1.2.1, rb := (prsRes (rdTe s.r s.e).1).1.2.2, s := decide ((rdNe (rdTe s.r s.e).2.1 0).1 = 1) } = wresB c a b (decide ((rdNe (rdTe s.r s.e).2.1 0).1 = 1)) := by
              unfold resB'
              rw [h5]
              exact if_pos h64
            show s.r = resB' { s.x with rc := (prsRes (rdTe s.r s.e).1).1.1, ra := (prsRes (rdTe s.r s.e).1).1.2.1, rb := (prsRes (rdTe s.r s.e).1).1.2.2, s := decide ((rdNe (rdTe s.r s.e).2.1 0).1 = 1) } ++ (rdNe (rdTe s.r s.e).2.1 0).2.1
            rw [he]
            unfold wresB
            rw [← h7, ← byte01 hb, List.append_assoc, ← h4]
            exact h2
          · rw [h5] at hp
            exact absurd hp h6
  · have e : stRes s = (s, 0) := by unfold stRes; rw [if_neg h64]
    rw [e]
    refine ⟨?_, h0⟩
    have he : resB' s.x = [] := by unfold resB'; rw [if_neg h64]
    show s.r = resB' s.x ++ s.r
    rw [he]; rfl
theorem stImage_ok {s : RS} (h : (stImage s).2 = 0) (h0 : s.e = 0) (hl : s.r.length ≤ 1000000) (hn : bit (mfieldsOf s.x.k) 128 = true → 0 ≤ (stImage s).1.x.ib ∧ 0 ≤ (stImage s).1.x.ic) : s.r = imgB' (stImage s).1.x ++ (stImage s).1.r ∧ (stImage s).1.e = 0 := by
  by_cases h128 : bit (mfieldsOf s.x.k) 128 = true
  · have hn := hn h128
    obtain ⟨A, hA⟩ : ∃ A, A = rdVe s.r s.e := ⟨_, rfl⟩
    obtain ⟨B, hB⟩ : ∃ B, B = rdVe A.2.1 A.2.2 := ⟨_, rfl⟩
    obtain ⟨C, hC⟩ : ∃ C, C = rdTe B.2.1 B.2.2 := ⟨_, rfl⟩
    obtain ⟨D, hD⟩ : ∃ D, D = rdTe C.2.1 C.2.2 := ⟨_, rfl⟩
    have e : stImage s = stImg2 s (i64w A.1) (i64w B.1) C.1 C.2.1 C.2.2 := by unfold stImage; rw [if_pos h128, hC, hB, hA]
    by_cases hd : D.2.2 ≠ 0
    · have e2 : (stImage s).2 = D.2.2 := by
        rw [e]; unfold stImg2; rw [← hD, if_pos hd]
      rw [e2] at h
      exact absurd h hd
    · have e2 : stImage s = (⟨D.2.1, D.2.2, { s.x with ib := i64w A.1, ic := i64w B.1, ck := C.1, es := (rwsOf D.1).1 }⟩, (rwsOf D.1).2) := by
        rw [e]; unfold stImg2; rw [← hD, if_neg hd]
      have hd := Decidable.not_not.1 hd
      rw [e2] at h hn ⊢
      refine ⟨?_, hd⟩
      have h1 := rdTe_zero (hD ▸ hd)
      rw [← hD] at h1
      have h2 := rdTe_zero (hC ▸ h1.1)
      rw [← hC] at h2
      have h3 := rdVe_zero (hB ▸ h2.1)
      rw [← hB] at h3
      have h4 := rdVe_zero (hA ▸ h3.1)
      rw [← hA] at h4
      have hlt : D.1.length ≤ 1000000 := by
        have a1 := congrArg List.length h1.2
        have a2 := congrArg List.length h2.2
        have a3 := congrArg List.length h3.2
        have a4 := congrArg List.length h4.2
        simp only [List.length_append] at a1 a2 a3 a4
        omega
      have h5 := (rwsOf_again (l := D.1) (by unfold maxLen; omega) h).1
      have he : imgB' { s.x with ib := i64w A.1, ic := i64w B.1, ck := C.1, es := (rwsOf D.1).1 } = imgBs (i64w A.1) (i64w B.1) C.1 (rwsOf D.1).1 := by
        unfold imgB'
        exact if_pos h128
      show s.r = imgB' { s.x with ib := i64w A.1, ic := i64w B.1, ck := C.1, es := (rwsOf D.1).1 } ++ D.2.1
      rw [he]
      unfold imgBs
      have u1 : (i64w A.1).toNat = A.1 := by rw [hA]; exact rdVe_u (by rw [← hA]; exact hn.1)
      have u2 : (i64w B.1).toNat = B.1 := by rw [hB]; exact rdVe_u (by rw [← hB]; exact hn.2)
      rw [u1, u2, ← h5]
      conv => lhs; rw [h4.2, h3.2, h2.2, h1.2]
      simp only [List.append_assoc]
  · have e : stImage s = (s, 0) := by unfold stImage; rw [if_neg h128]
    rw [e]
    refine ⟨?_, h0⟩
    have he : imgB' s.x = [] := by unfold imgB'; rw [if_neg h128]
    show s.r = imgB' s.x ++ s.r
    rw [he]; rfl
/-- What later steps leave as it is. -/
theorem setNum_k (x : MgX) (i : Nat) (n : Int) : (setNum x i n).k = x.k ∧ hdBs (setNum x i n) = hdBs x := by
  match i with
  | 0 => exact ⟨rfl, rfl⟩ | 1 => exact ⟨rfl, rfl⟩ | 2 => exact ⟨rfl, rfl⟩ | n + 3 => exact ⟨rfl, rfl⟩
theorem stNumsA_k (has : Int) (s : RS) : ∀ i, (stNumsA has i s).x.k = s.x.k ∧ hdBs (stNumsA has i s).x = hdBs s.x
  | 0 => ⟨rfl, rfl⟩
  | i + 1 => by
    have ih := stNumsA_k has s i
    show (stN has i (stNumsA has i s)).x.k = _ ∧ hdBs (stN has i (stNumsA has i s)).x = _
    unfold stN
    split
    · exact ⟨(setNum_k _ _ _).1.trans ih.1, (setNum_k _ _ _).2.trans ih.2⟩
    · exact ih
theorem stEntry_k (s : RS) : (stEntry s).1.x = { s.x with en := (stEntry s).1.x.en } := by
  unfold stEntry
  split
  · split <;> rfl
  · split <;> rfl
theorem stRes_k (s : RS) : (stRes s).1.x = { s.x with rc := (stRes s).1.x.rc, ra := (stRes s).1.x.ra, rb := (stRes s).1.x.rb, s := (stRes s).1.x.s } := by
  unfold stRes
  split
  · split
    · rfl
    · split
      · rfl
      · unfold stRes2
        split <;> rfl
  · rfl
theorem stImage_k (s : RS) : (stImage s).1.x = { s.x with ib := (stImage s).1.x.ib, ic := (stImage s).1.x.ic, ck := (stImage s).1.x.ck, es := (stImage s).1.x.es } := by
  unfold stImage
  split
  · unfold stImg2
    split <;> rfl
  · rfl
theorem prsA_step {n i : Nat} {s : RS} (h : (prsA (n + 1) i s).2 = 0) : (stp i s).2 = 0 ∧ prsA (n + 1) i s = prsA n (i + 1) (stp i s).1 := by
  have e : prsA (n + 1) i s = if (stp i s).2 ≠ 0 then stp i s else prsA n (i + 1) (stp i s).1 := rfl
  by_cases hc : (stp i s).2 ≠ 0
  · rw [e, if_pos hc] at h
    exact absurd h hc
  · exact ⟨Decidable.not_not.1 hc, by rw [e, if_neg hc]⟩
theorem prsBody_again {l : List UInt8} (hl : l.length ≤ 1000000) (h : (prsBody l).2 = 0) : chkX (prsBody l).1 = true ∧ l = bodyB (prsBody l).1 := by
  obtain ⟨q, hq⟩ : ∃ q, q = prsA 5 0 ⟨l, 0, MgX.zero⟩ := ⟨_, rfl⟩
  have e : prsBody l = prsFinM q := by rw [hq]; rfl
  rw [e] at h ⊢
  unfold prsFinM at h ⊢
  by_cases h1 : q.2 ≠ 0
  · rw [if_pos h1] at h; exact absurd h h1
  · rw [if_neg h1] at h ⊢
    by_cases h2 : endErr q.1.r q.1.e = 0 ∧ chkX q.1.x = true
    · rw [if_pos h2] at h ⊢
      refine ⟨h2.2, ?_⟩
      have h3 := (endErr_zero h2.1).2
      have h1 := Decidable.not_not.1 h1
      rw [hq] at h1
      obtain ⟨p0, e0⟩ := prsA_step h1
      rw [e0] at h1
      obtain ⟨p1, e1⟩ := prsA_step h1
      rw [e1] at h1
      obtain ⟨p2, e2⟩ := prsA_step h1
      rw [e2] at h1
      obtain ⟨p3, e3⟩ := prsA_step h1
      rw [e3] at h1
      obtain ⟨p4, e4⟩ := prsA_step h1
      rw [e0, e1, e2, e3, e4] at hq
      clear e0 e1 e2 e3 e4 h1 e h
      obtain ⟨s1, hs1⟩ : ∃ s1, s1 = (stHead ⟨l, 0, MgX.zero⟩).1 := ⟨_, rfl⟩
      obtain ⟨s2, hs2⟩ : ∃ s2, s2 = (stNums s1).1 := ⟨_, rfl⟩
      obtain ⟨s3, hs3⟩ : ∃ s3, s3 = (stEntry s2).1 := ⟨_, rfl⟩
      obtain ⟨s4, hs4⟩ : ∃ s4, s4 = (stRes s3).1 := ⟨_, rfl⟩
      obtain ⟨s5, hs5⟩ : ∃ s5, s5 = (stImage s4).1 := ⟨_, rfl⟩
      have hq5 : q.1 = s5 := by rw [hq, hs5, hs4, hs3, hs2, hs1]; rfl
      have p0 : (stHead ⟨l, 0, MgX.zero⟩).2 = 0 := p0
      have p1 : (stNums s1).2 = 0 := by rw [hs1]; exact p1
      have p2 : (stEntry s2).2 = 0 := by rw [hs2, hs1]; exact p2
      have p3 : (stRes s3).2 = 0 := by rw [hs3, hs2, hs1]; exact p3
      have p4 : (stImage s4).2 = 0 := by rw [hs4, hs3, hs2, hs1]; exact p4
      rw [hq5] at h2 h3 ⊢
      have hchk := chk_parts (g := mkG s5.x) h2.2
      obtain ⟨c0, c1, c2, c3, c4, c5, c6, n0, n1, n2, n3, ce, cr, ci⟩ := hchk
      -- what the steps leave
      have k2 := stNumsA_k (mfieldsOf s1.x.k) s1 4
      have hk2 : s2.x.k = s1.x.k ∧ hdBs s2.x = hdBs s1.x := by rw [hs2]; exact k2
      have k3 : s3.x = { s2.x with en := s3.x.en } := by rw [hs3]; exact stEntry_k s2
      have k4 : s4.x = { s3.x with rc := s4.x.rc, ra := s4.x.ra, rb := s4.x.rb, s := s4.x.s } := by rw [hs4]; exact stRes_k s3
      have k5 : s5.x = { s4.x with ib := s5.x.ib, ic := s5.x.ic, ck := s5.x.ck, es := s5.x.es } := by rw [hs5]; exact stImage_k s4
      have kk3 : s3.x.k = s2.x.k := by rw [k3]
      have kk4 : s4.x.k = s3.x.k := by rw [k4]
      have kk5 : s5.x.k = s4.x.k := by rw [k5]
      have num5 : ∀ j, numAt s5.x j = numAt s2.x j := fun j => by
        rw [k5, k4, k3]
        match j with
        | 0 => rfl | 1 => rfl | 2 => rfl | n + 3 => rfl
      have hd5 : hdBs s5.x = hdBs s1.x := by rw [← hk2.2, k5, k4, k3]; rfl
      have en5 : s5.x.en = s3.x.en := by rw [k5, k4]
      have r5 : resB' s5.x = resB' s4.x := by rw [k5]; rfl
      have e5 : entB s5.x = entB s3.x := by rw [k5, k4]; rfl
      have hK : mfieldsOf s5.x.k = mfieldsOf s1.x.k := by rw [kk5, kk4, kk3, hk2.1]
      have g0 : (mkG s5.x).k = s5.x.k := rfl
      -- the parts
      obtain ⟨a0, a1, a2⟩ := stHead_ok p0
      rw [← hs1] at a1 a2
      have a1 : l = hdBs s1.x ++ s1.r := a1
      have hl1 : s1.r.length ≤ 1000000 := by have := congrArg List.length a1; simp only [List.length_append] at this; omega
      have b1 : s1.r = numsB (mfieldsOf s1.x.k) s2.x 4 ++ s2.r := by
        have := stNumsA_ok (has := mfieldsOf s1.x.k) (s := s1) 4 (Nat.le_refl _) p1 fun j hj hb => by
          have hx : (stNumsA (mfieldsOf s1.x.k) 4 s1).x = s2.x := by rw [hs2]; rfl
          rw [hx, ← num5]
          match j, hj with
          | 0, _ => exact (numB_iff (n0 (by rw [g0, hK]; exact hb))).1
          | 1, _ => exact (numB_iff (n1 (by rw [g0, hK]; exact hb))).1
          | 2, _ => exact (numB_iff (n2 (by rw [g0, hK]; exact hb))).1
          | 3, _ => exact (numB_iff (n3 (by rw [g0, hK]; exact hb))).1
        rw [hs2]
        exact this
      have hl2 : s2.r.length ≤ 1000000 := by have := congrArg List.length b1; simp only [List.length_append] at this; omega
      have ce' : fEB (mfieldsOf s2.x.k) (stEntry s2).1.x.en = true := by
        rw [← hs3, ← en5, ← kk3, ← kk4, ← kk5]; exact ce
      obtain ⟨d0, d1, d2⟩ := stEntry_ok p2 hl2 ce'
      rw [← hs3] at d1 d2
      have hl3 : s3.r.length ≤ 1000000 := by have := congrArg List.length d1; simp only [List.length_append] at this; omega
      obtain ⟨f1, f2⟩ := stRes_ok p3 d2
      rw [← hs4] at f1 f2
      have hl4 : s4.r.length ≤ 1000000 := by have := congrArg List.length f1; simp only [List.length_append] at this; omega
      obtain ⟨i1, i2⟩ := stImage_ok p4 f2 hl4 fun hb => by
        rw [← hs5]
        rw [← kk5] at hb
        have := img_parts ci hb
        have h7 : 0 ≤ s5.x.ib := this.1
        have h8 : s5.x.ib ≤ s5.x.ic := this.2.2.2.2.2.2.1
        omega
      rw [← hs5] at i1 i2
      rw [h3, List.append_nil] at i1
      unfold bodyB
      rw [hd5, hK, numsB_eq (i := 4) fun j _ => num5 j, e5, r5, ← i1, ← f1, ← d1, ← b1]
      exact a1
    · rw [if_neg h2] at h
      exact absurd h (show ¬ (4 : Int) = 0 by decide)
theorem prsMsg_again {l : List UInt8} (h : (prsMsg l).2 = 0) : chkX (prsMsg l).1 = true ∧ l = sealL (bodyB (prsMsg l).1) ∧ l.length ≤ 65536 := by
  unfold prsMsg at h ⊢
  by_cases h1 : 65536 < l.length
  · rw [if_pos h1] at h; exact absurd h (show ¬ (5 : Int) = 0 by decide)
  · rw [if_neg h1] at h ⊢
    by_cases h2 : l.length < 4
    · rw [if_pos h2] at h; exact absurd h (show ¬ (3 : Int) = 0 by decide)
    · rw [if_neg h2] at h ⊢
      by_cases h3 : tailL (l.take (l.length - 4)) = l.drop (l.length - 4)
      · rw [if_pos h3] at h ⊢
        have h4 := prsBody_again (by rw [List.length_take]; omega) h
        refine ⟨h4.1, ?_, by omega⟩
        rw [← h4.2]
        exact opened_seal l (l.length - 4) (by omega) h3
      · rw [if_neg h3] at h; exact absurd h (show ¬ (20 : Int) = 0 by decide)
end Go.Proofs.YtafkbodmiblbnaaDoor
