/- Package item: what is written is read, and back: plain mathematics. -/
import Derived.Test.YtafkbodmiblbnaaDoorMZ17
import Derived.Test.YtafkbodmiblbnaaDoorMZ05
namespace Go.Proofs.YtafkbodmiblbnaaDoor
open Go.RowKit
set_option linter.unusedVariables false
set_option linter.unusedSimpArgs false
theorem rdVe_vint (u : Nat) (l : List UInt8) (h : U64 u) : rdVe (vint u ++ l) 0 = (u, l, 0) := by unfold rdVe; rw [if_pos rfl]; exact rdV_back u l h
theorem rdTe_txt (s : KS) (l : List UInt8) (h : s.1.size ≤ 1000) : rdTe (txtB s ++ l) 0 = (s.1.data.toList, l, 0) := by
  have hsz : s.1.data.toList.length = s.1.size := rfl
  unfold rdTe
  rw [if_pos rfl]
  unfold rdT txtB
  rw [List.append_assoc, rdV_back _ _ (by unfold U64; omega)]
  dsimp only
  rw [if_neg (by simp), if_neg (by rw [List.length_append, hsz]; omega), ← hsz, List.take_left, List.drop_left]
theorem rdNe_byte (k : Nat) (l : List UInt8) (h : k < 256) : rdNe ([UInt8.ofNat k] ++ l) 0 = (k, l, 0) := by
  unfold rdNe
  rw [if_pos rfl]
  unfold rdN
  rw [if_neg (by simp)]
  simp [beVal, UInt8.toNat_ofNat']
  omega
theorem mkS_back (s : KS) : mkS s.1.data.toList = s := by
  have hsz : s.1.data.toList.length = s.1.size := rfl
  have h : s.1.data.toList.length ≤ maxLen := by rw [hsz]; exact s.2
  apply Subtype.ext
  rw [mkS_val h]
theorem i64w_back {n : Int} (h0 : 0 ≤ n) (h1 : n ≤ 9007199254740991) : i64w n.toNat = n := by
  rw [i64w_eq]; unfold wrap64; omega
theorem qty_of {n : Int} (h : qtyB n = true) : 1 ≤ n ∧ n ≤ 2147483647 := by unfold qtyB at h; simpa using h
theorem name_of {s : ByteArray} (h : nameB s = true) : 1 ≤ s.size ∧ s.size ≤ 8 := by unfold nameB at h; simp at h; exact h.1
theorem rdLs_back : ∀ (ls : List Ln) (r : List UInt8), ls.all lineB = true → rdLs ls.length (ls.flatMap lineBs ++ r) 0 = (ls, r, 0)
  | [], r, _ => rfl
  | l :: ls, r, h => by
    simp only [List.all_cons, Bool.and_eq_true] at h
    obtain ⟨h1, h2⟩ := h
    unfold lineB at h1
    simp only [Bool.and_eq_true] at h1
    have hn := (name_of h1.1).2
    have hq := qty_of h1.2
    have e1 : rdTe ((l :: ls).flatMap lineBs ++ r) 0 = (l.1.1.data.toList, vint l.2.toNat ++ (ls.flatMap lineBs ++ r), 0) := by
      rw [List.flatMap_cons, List.append_assoc]
      unfold lineBs
      rw [List.append_assoc]
      exact rdTe_txt _ _ (by omega)
    have e2 : rdVe (vint l.2.toNat ++ (ls.flatMap lineBs ++ r)) 0 = (l.2.toNat, ls.flatMap lineBs ++ r, 0) := rdVe_vint _ _ (by unfold U64; omega)
    rw [List.length_cons, rdLs]
    rw [e1]
    dsimp only
    rw [e2]
    dsimp only
    rw [rdLs_back ls r h2, mkS_back, i64w_back (by omega) (by omega)]
theorem end_nil : endErr [] 0 = 0 := rfl
theorem fin_ok {p : OpM} (h : p.ok = true) : prsFin p [] 0 = (p, 0) := by unfold prsFin; rw [end_nil, if_pos rfl, h]; rfl
theorem sku_empty {s : KS} (h : s.1.toList.isEmpty = true) : s = sZ := by
  apply Subtype.ext
  have h2 : s.1.toList = [] := List.isEmpty_iff.1 h
  unfold sZ
  apply ByteArray.ext
  apply Array.ext'
  have h3 : s.1.toList = s.1.data.toList := ByteArray.toList_eq s.1
  rw [← h3, h2]
/-- What may be, by the class of its kind. -/
theorem ok_parts {k : Int} {s : KS} {o n : Int} {ls : List Ln} (h : okB k s o n ls = true) :
    (1 ≤ k ∧ k ≤ 9) ∧ ((fieldsOf k = 5 ∧ nameB s.1 = true ∧ o = 0 ∧ qtyB n = true ∧ ls = []) ∨ (fieldsOf k = 9 ∧ nameB s.1 = true ∧ o = 0 ∧ chgB n = true ∧ ls = []) ∨ (fieldsOf k = 22 ∧ s = sZ ∧ qtyB o = true ∧ qtyB n = true ∧ linesB ls = true) ∨ (fieldsOf k = 2 ∧ s = sZ ∧ qtyB o = true ∧ n = 0 ∧ ls = []) ∨ (fieldsOf k = 4 ∧ s = sZ ∧ o = 0 ∧ qtyB n = true ∧ ls = []) ∨ (fieldsOf k = 1 ∧ nameB s.1 = true ∧ o = 0 ∧ n = 0 ∧ ls = [])) := by
  unfold okB at h
  simp only [Bool.and_eq_true] at h
  obtain ⟨⟨⟨⟨h0, h1⟩, h2⟩, h3⟩, h4⟩ := h
  have h0' : fieldsOf k ≠ 0 := by simpa using h0
  refine ⟨fields_ne h0', ?_⟩
  rcases fields_cls k with e | hc
  · exact absurd e h0'
  have lnil : ∀ {b : Bool}, ((ls.length : Int) == 0) = true → ls = [] := fun hh => List.eq_nil_of_length_eq_zero (by have := of_decide_eq_true hh; omega)
  have hin : ∀ {x : Int}, (x == 0) = true → x = 0 := fun hh => of_decide_eq_true hh
  rcases hc with e | e | e | e | e | e <;> rw [e] at h1 h2 h3 h4
  · exact .inl ⟨e, h1, hin h2, h3, lnil (b := true) h4⟩
  · exact .inr (.inl ⟨e, h1, hin h2, h3, lnil (b := true) h4⟩)
  · exact .inr (.inr (.inl ⟨e, sku_empty h1, h2, h3, h4⟩))
  · exact .inr (.inr (.inr (.inl ⟨e, sku_empty h1, h2, of_decide_eq_true h3, lnil (b := true) h4⟩)))
  · exact .inr (.inr (.inr (.inr (.inl ⟨e, sku_empty h1, hin h2, h3, lnil (b := true) h4⟩))))
  · exact .inr (.inr (.inr (.inr (.inr ⟨e, h1, hin h2, of_decide_eq_true h3, lnil (b := true) h4⟩))))
theorem ok_n {k : Int} {s : KS} {o n : Int} {ls : List Ln} (h : okB k s o n ls = true) (hf : fieldsOf k = 5 ∨ fieldsOf k = 4) : qtyB n = true := by
  obtain ⟨_, hp⟩ := ok_parts h
  rcases hp with ⟨e, h1, h2, h3, h4⟩ | ⟨e, h1, h2, h3, h4⟩ | ⟨e, h1, h2, h3, h4⟩ | ⟨e, h1, h2, h3, h4⟩ | ⟨e, h1, h2, h3, h4⟩ | ⟨e, h1, h2, h3, h4⟩
  all_goals first | assumption | (exfalso; omega)
theorem ok_o {k : Int} {s : KS} {o n : Int} {ls : List Ln} (h : okB k s o n ls = true) (hf : fieldsOf k = 2) : qtyB o = true := by
  obtain ⟨_, hp⟩ := ok_parts h
  rcases hp with ⟨e, h1, h2, h3, h4⟩ | ⟨e, h1, h2, h3, h4⟩ | ⟨e, h1, h2, h3, h4⟩ | ⟨e, h1, h2, h3, h4⟩ | ⟨e, h1, h2, h3, h4⟩ | ⟨e, h1, h2, h3, h4⟩
  all_goals first | assumption | (exfalso; omega)
theorem ok_22 {k : Int} {s : KS} {o n : Int} {ls : List Ln} (h : okB k s o n ls = true) (hf : fieldsOf k = 22) : qtyB o = true ∧ qtyB n = true ∧ linesB ls = true := by
  obtain ⟨_, hp⟩ := ok_parts h
  rcases hp with ⟨e, h1, h2, h3, h4⟩ | ⟨e, h1, h2, h3, h4⟩ | ⟨e, h1, h2, h3, h4⟩ | ⟨e, h1, h2, h3, h4⟩ | ⟨e, h1, h2, h3, h4⟩ | ⟨e, h1, h2, h3, h4⟩
  all_goals first | exact ⟨h2, h3, h4⟩ | (exfalso; omega)
theorem chg_of {n : Int} (h : chgB n = true) : n ≠ 0 ∧ -2147483647 ≤ n ∧ n ≤ 2147483647 := by unfold chgB at h; simp at h; omega
theorem lines_of {ls : List Ln} (h : linesB ls = true) : 1 ≤ ls.length ∧ ls.length ≤ 4 ∧ ls.all lineB = true := by
  unfold linesB at h; simp only [Bool.and_eq_true] at h; exact ⟨of_decide_eq_true h.1.1.1, of_decide_eq_true h.1.1.2, h.1.2⟩
theorem prs_back {k : Int} {s : KS} {o n : Int} {ls : List Ln} (h : okB k s o n ls = true) : prsOp (opBs k s o n ls) = (⟨k, s, o, n, ls⟩, 0) := by
  obtain ⟨⟨k1, k9⟩, hp⟩ := ok_parts h
  obtain ⟨j, rfl⟩ : ∃ j : Nat, k = j := ⟨k.toNat, by omega⟩
  have hok : (⟨(j : Int), s, o, n, ls⟩ : OpM).ok = true := h
  have hfin := fin_ok hok
  have hb := fun l => rdNe_byte j l (by omega)
  rcases hp with ⟨e, h1, rfl, h3, rfl⟩ | ⟨e, h1, rfl, h3, rfl⟩ | ⟨e, rfl, h2, h3, h4⟩ | ⟨e, rfl, h2, rfl, rfl⟩ | ⟨e, rfl, rfl, h3, rfl⟩ | ⟨e, h1, rfl, rfl, rfl⟩
  · have hq := qty_of h3
    have hn := name_of h1
    have hr : opBs j s 0 n [] = [UInt8.ofNat j] ++ (txtB s ++ (vint n.toNat ++ [])) := by unfold opBs cntBs; rw [e]; simp
    unfold prsOp
    rw [hr, hb]
    dsimp only
    rw [e, if_pos rfl]
    unfold prs5
    rw [rdTe_txt s _ (by omega)]
    dsimp only
    rw [rdVe_vint _ _ (by unfold U64; omega)]
    dsimp only
    rw [mkS_back, i64w_back (by omega) (by omega), hfin]
  · have hq := chg_of h3
    have hn := name_of h1
    have hr : opBs j s 0 n [] = [UInt8.ofNat j] ++ (txtB s ++ (vint (zig n) ++ [])) := by unfold opBs cntBs; rw [e]; simp
    unfold prsOp
    rw [hr, hb]
    dsimp only
    rw [e, if_neg (by decide), if_pos rfl]
    unfold prs9
    rw [rdTe_txt s _ (by omega)]
    dsimp only
    rw [rdVe_vint _ _ (zig_u64 (by unfold I64; omega))]
    dsimp only
    rw [mkS_back, zag_zig, hfin]
  · have ho := qty_of h2
    have hq := qty_of h3
    obtain ⟨l1, l4, hall⟩ := lines_of h4
    have hr : opBs j sZ o n ls = [UInt8.ofNat j] ++ (vint o.toNat ++ (vint n.toNat ++ (vint ls.length ++ (ls.flatMap lineBs ++ [])))) := by unfold opBs cntBs; rw [e]; simp
    have hl : rdL (vint ls.length ++ (ls.flatMap lineBs ++ [])) 0 = (ls, [], 0) := by
      unfold rdL
      rw [rdVe_vint _ _ (by unfold U64; omega)]
      dsimp only
      rw [Nat.min_eq_left (by omega)]
      exact rdLs_back ls [] hall
    unfold prsOp
    rw [hr, hb]
    dsimp only
    rw [e, if_neg (by decide), if_neg (by decide), if_pos rfl]
    unfold prs22
    rw [rdVe_vint _ _ (by unfold U64; omega)]
    dsimp only
    rw [rdVe_vint _ _ (by unfold U64; omega)]
    dsimp only
    rw [hl]
    dsimp only
    rw [i64w_back (by omega) (by omega), i64w_back (by omega) (by omega), hfin]
  · have ho := qty_of h2
    have hr : opBs j sZ o 0 [] = [UInt8.ofNat j] ++ (vint o.toNat ++ []) := by unfold opBs cntBs; rw [e]; simp
    unfold prsOp
    rw [hr, hb]
    dsimp only
    rw [e, if_neg (by decide), if_neg (by decide), if_neg (by decide), if_pos rfl]
    unfold prs2
    rw [rdVe_vint _ _ (by unfold U64; omega)]
    dsimp only
    rw [i64w_back (by omega) (by omega), hfin]
  · have hq := qty_of h3
    have hr : opBs j sZ 0 n [] = [UInt8.ofNat j] ++ (vint n.toNat ++ []) := by unfold opBs cntBs; rw [e]; simp
    unfold prsOp
    rw [hr, hb]
    dsimp only
    rw [e, if_neg (by decide), if_neg (by decide), if_neg (by decide), if_neg (by decide), if_pos rfl]
    unfold prs4
    rw [rdVe_vint _ _ (by unfold U64; omega)]
    dsimp only
    rw [i64w_back (by omega) (by omega), hfin]
  · have hn := name_of h1
    have hr : opBs j s 0 0 [] = [UInt8.ofNat j] ++ (txtB s ++ []) := by unfold opBs cntBs; rw [e]; simp
    unfold prsOp
    rw [hr, hb]
    dsimp only
    rw [e, if_neg (by decide), if_neg (by decide), if_neg (by decide), if_neg (by decide), if_neg (by decide), if_pos rfl]
    unfold prs1
    rw [rdTe_txt s _ (by omega)]
    dsimp only
    rw [mkS_back, hfin]
theorem prsRes_back {c a b : Int} (h : resB c a b = true) : prsRes (resBs c a b) = ((c, a, b), 0) := by
  have hs := of_decide_eq_true h
  obtain ⟨s0, s1, s2, s3, s4, s5⟩ := hs
  obtain ⟨j, rfl⟩ : ∃ j : Nat, c = j := ⟨c.toNat, by omega⟩
  have hr : resBs j a b = [UInt8.ofNat j] ++ (vint a.toNat ++ (vint b.toNat ++ [])) := by unfold resBs; simp
  unfold prsRes
  rw [hr, rdNe_byte j _ (by omega)]
  dsimp only
  rw [rdVe_vint _ _ (by unfold U64; omega)]
  dsimp only
  rw [rdVe_vint _ _ (by unfold U64; omega)]
  dsimp only
  rw [end_nil, if_pos rfl, i64w_back s2 (by omega), i64w_back s3 (by omega), h]
  rfl
/- What can be read has just these bytes. -/
theorem rdVe_zero {r : List UInt8} {e : Int} (h : (rdVe r e).2.2 = 0) : e = 0 ∧ r = vint (rdVe r e).1 ++ (rdVe r e).2.1 := by
  unfold rdVe at h ⊢
  by_cases he : e = 0
  · rw [if_pos he] at h ⊢
    exact ⟨he, rdV_vint r _ _ (by rw [← h])⟩
  · rw [if_neg he] at h; exact absurd h he
theorem rdTe_zero {r : List UInt8} {e : Int} (h : (rdTe r e).2.2 = 0) : e = 0 ∧ r = (vint (rdTe r e).1.length ++ (rdTe r e).1) ++ (rdTe r e).2.1 := by
  unfold rdTe at h ⊢
  by_cases he : e = 0
  · rw [if_pos he] at h ⊢
    refine ⟨he, ?_⟩
    unfold rdT at h ⊢
    by_cases h1 : (rdV r).2.2 = 0
    · rw [if_neg (by simpa using h1)] at h ⊢
      by_cases h2 : (rdV r).2.1.length < (rdV r).1
      · rw [if_pos h2] at h; simp at h
      · rw [if_neg h2]
        dsimp only
        rw [List.length_take, Nat.min_eq_left (by omega), List.append_assoc, List.take_append_drop]
        exact rdV_vint r _ _ (by rw [← h1])
    · rw [if_pos (by simpa using h1)] at h; exact absurd h h1
  · rw [if_neg he] at h; exact absurd h he
theorem rdNe_zero {r : List UInt8} {e : Int} (h : (rdNe r e).2.2 = 0) : e = 0 ∧ r = [UInt8.ofNat (rdNe r e).1] ++ (rdNe r e).2.1 := by
  unfold rdNe at h ⊢
  by_cases he : e = 0
  · rw [if_pos he] at h ⊢
    refine ⟨he, ?_⟩
    unfold rdN at h ⊢
    by_cases h1 : r.length < 1
    · rw [if_pos h1] at h; simp at h
    · rw [if_neg h1]
      cases r with
      | nil => simp at h1
      | cons c r => simp [beVal]
  · rw [if_neg he] at h; exact absurd h he
theorem rdVe_u {r : List UInt8} {e : Int} (h : 0 ≤ i64w (rdVe r e).1) : (i64w (rdVe r e).1).toNat = (rdVe r e).1 := by
  have := rdVe_u64 r e
  unfold U64 at this
  rw [i64w_eq] at h ⊢
  unfold wrap64 at h ⊢
  omega
theorem mkS_bytes {l : List UInt8} (h : l.length ≤ maxLen) : (mkS l).1.data.toList = l := by rw [mkS_val h]
theorem txt_mk {l : List UInt8} (h : l.length ≤ maxLen) : txtB (mkS l) = vint l.length ++ l := by
  unfold txtB
  rw [show (mkS l).1.size = (mkS l).1.data.toList.length from rfl, mkS_bytes h]
theorem rdLs_zero : ∀ (c : Nat) (r : List UInt8) (e : Int), r.length ≤ maxLen → (rdLs c r e).2.2 = 0 → (rdLs c r e).1.length = c ∧ e = 0 ∧ ((rdLs c r e).1.all lineB = true → r = (rdLs c r e).1.flatMap lineBs ++ (rdLs c r e).2.1)
  | 0, r, e, _, h => ⟨rfl, h, fun _ => rfl⟩
  | c + 1, r, e, hl, h => by
    rw [rdLs] at h ⊢
    dsimp only at h ⊢
    have l1 := rdTe_len r e
    have l2 := rdVe_len (rdTe r e).2.1 (rdTe r e).2.2
    obtain ⟨i1, i2, i3⟩ := rdLs_zero c _ _ (by omega) h
    obtain ⟨j1, j2⟩ := rdVe_zero i2
    obtain ⟨k1, k2⟩ := rdTe_zero j1
    refine ⟨by rw [List.length_cons, i1], k1, fun hall => ?_⟩
    simp only [List.all_cons, Bool.and_eq_true] at hall
    have hq := hall.1
    unfold lineB at hq
    simp only [Bool.and_eq_true] at hq
    have hq2 := qty_of hq.2
    rw [List.flatMap_cons]
    unfold lineBs
    dsimp only
    rw [txt_mk (by omega), rdVe_u (by omega)]
    conv => lhs; rw [k2, j2, i3 hall.2]
    simp only [List.append_assoc]
    rfl
theorem endErr_zero {r : List UInt8} {e : Int} (h : endErr r e = 0) : e = 0 ∧ r = [] := by
  unfold endErr at h
  by_cases he : e = 0 ∧ 0 < r.length
  · rw [if_pos he] at h; cases h
  · rw [if_neg he] at h
    refine ⟨h, ?_⟩
    cases r with
    | nil => rfl
    | cons c r => exact absurd ⟨h, by simp⟩ he
theorem fin_cases (p : OpM) (r : List UInt8) (e : Int) : (prsFin p r e = (p, 0) ∧ p.ok = true ∧ r = [] ∧ e = 0) ∨ ∃ er, prsFin p r e = (OpM.zero, er) ∧ er ≠ 0 := by
  unfold prsFin
  by_cases h : endErr r e = 0
  · rw [if_pos h]
    obtain ⟨h1, h2⟩ := endErr_zero h
    cases hp : p.ok
    · exact .inr ⟨4, rfl, by decide⟩
    · exact .inl ⟨rfl, rfl, h2, h1⟩
  · rw [if_neg h]; exact .inr ⟨_, rfl, h⟩
theorem prs_again (l : List UInt8) (hl : l.length ≤ maxLen) : (∃ p : OpM, prsOp l = (p, 0) ∧ p.ok = true ∧ l = opBs p.k p.s p.o p.n p.ls) ∨ ∃ er, prsOp l = (OpM.zero, er) ∧ er ≠ 0 := by
  have hn := rdNe_len l 0
  have hlt := rdNe_lt l 0
  have hz := @rdNe_zero l 0
  unfold prsOp
  generalize (rdNe l 0).1 = k at *
  generalize (rdNe l 0).2.1 = r at *
  generalize (rdNe l 0).2.2 = e at *
  have hk : ∀ {s o n ls}, okB (k : Int) s o n ls = true → True := fun _ => trivial
  rcases fields_cls k with h0 | h1 | h1 | h1 | h1 | h1 | h1
  · rw [h0]
    rw [if_neg (by decide), if_neg (by decide), if_neg (by decide), if_neg (by decide), if_neg (by decide), if_neg (by decide)]
    unfold prs0
    rcases fin_cases ⟨k, sZ, 0, 0, []⟩ r e with ⟨_, h, _⟩ | h
    · exfalso
      unfold OpM.ok okB at h
      dsimp only at h
      rw [h0] at h
      simp at h
    · exact .inr h
  · rw [h1]
    rw [if_pos rfl]
    unfold prs5
    have l1 := rdTe_len r e
    rcases fin_cases ⟨k, mkS (rdTe r e).1, 0, i64w (rdVe (rdTe r e).2.1 (rdTe r e).2.2).1, []⟩ (rdVe (rdTe r e).2.1 (rdTe r e).2.2).2.1 (rdVe (rdTe r e).2.1 (rdTe r e).2.2).2.2 with ⟨h, hok, hr, he⟩ | h
    · refine .inl ⟨_, h, hok, ?_⟩
      obtain ⟨a1, a2⟩ := rdVe_zero he
      obtain ⟨b1, b2⟩ := rdTe_zero a1
      obtain ⟨_, c2⟩ := hz b1
      rw [hr] at a2
      have hq : qtyB (i64w (rdVe (rdTe r e).2.1 (rdTe r e).2.2).1) = true := by
        exact ok_n hok (.inl h1)
      have hu := rdVe_u (r := (rdTe r e).2.1) (e := (rdTe r e).2.2) (by have := qty_of hq; omega)
      unfold opBs cntBs
      dsimp only
      rw [h1, hu, txt_mk (by omega)]
      conv => lhs; rw [c2, b2, a2]
      simp
    · exact .inr h
  · rw [h1]
    rw [if_neg (by decide), if_pos rfl]
    unfold prs9
    have l1 := rdTe_len r e
    rcases fin_cases ⟨k, mkS (rdTe r e).1, 0, zag (rdVe (rdTe r e).2.1 (rdTe r e).2.2).1, []⟩ (rdVe (rdTe r e).2.1 (rdTe r e).2.2).2.1 (rdVe (rdTe r e).2.1 (rdTe r e).2.2).2.2 with ⟨h, hok, hr, he⟩ | h
    · refine .inl ⟨_, h, hok, ?_⟩
      obtain ⟨a1, a2⟩ := rdVe_zero he
      obtain ⟨b1, b2⟩ := rdTe_zero a1
      obtain ⟨_, c2⟩ := hz b1
      rw [hr] at a2
      unfold opBs cntBs
      dsimp only
      rw [h1, zig_zag, txt_mk (by omega)]
      conv => lhs; rw [c2, b2, a2]
      simp
    · exact .inr h
  · rw [h1]
    rw [if_neg (by decide), if_neg (by decide), if_pos rfl]
    unfold prs22
    dsimp only
    have l1 := rdVe_len r e
    have l2 := rdVe_len (rdVe r e).2.1 (rdVe r e).2.2
    rcases fin_cases ⟨k, sZ, i64w (rdVe r e).1, i64w (rdVe (rdVe r e).2.1 (rdVe r e).2.2).1, (rdL (rdVe (rdVe r e).2.1 (rdVe r e).2.2).2.1 (rdVe (rdVe r e).2.1 (rdVe r e).2.2).2.2).1⟩ (rdL (rdVe (rdVe r e).2.1 (rdVe r e).2.2).2.1 (rdVe (rdVe r e).2.1 (rdVe r e).2.2).2.2).2.1 (rdL (rdVe (rdVe r e).2.1 (rdVe r e).2.2).2.1 (rdVe (rdVe r e).2.1 (rdVe r e).2.2).2.2).2.2 with ⟨h, hok, hr, he⟩ | h
    · refine .inl ⟨_, h, hok, ?_⟩
      have hp : qtyB (i64w (rdVe r e).1) = true ∧ qtyB (i64w (rdVe (rdVe r e).2.1 (rdVe r e).2.2).1) = true ∧ linesB (rdL (rdVe (rdVe r e).2.1 (rdVe r e).2.2).2.1 (rdVe (rdVe r e).2.1 (rdVe r e).2.2).2.2).1 = true := by
        exact ok_22 hok h1
      obtain ⟨hq1, hq2, hli⟩ := hp
      obtain ⟨m1, m4, hall⟩ := lines_of hli
      unfold rdL at hr he m1 m4 hall
      have l3 := rdVe_len (rdVe (rdVe r e).2.1 (rdVe r e).2.2).2.1 (rdVe (rdVe r e).2.1 (rdVe r e).2.2).2.2
      obtain ⟨d1, d2, d3⟩ := rdLs_zero _ _ _ (by omega) he
      have d4 := d3 hall
      rw [hr] at d4
      obtain ⟨x1, x2⟩ := rdVe_zero d2
      obtain ⟨a1, a2⟩ := rdVe_zero x1
      obtain ⟨b1, b2⟩ := rdVe_zero a1
      obtain ⟨_, c2⟩ := hz b1
      have hu := rdVe_u (r := r) (e := e) (by have := qty_of hq1; omega)
      have hu2 := rdVe_u (r := (rdVe r e).2.1) (e := (rdVe r e).2.2) (by have := qty_of hq2; omega)
      have hln : (rdVe (rdVe (rdVe r e).2.1 (rdVe r e).2.2).2.1 (rdVe (rdVe r e).2.1 (rdVe r e).2.2).2.2).1 = (rdL (rdVe (rdVe r e).2.1 (rdVe r e).2.2).2.1 (rdVe (rdVe r e).2.1 (rdVe r e).2.2).2.2).1.length := by
        unfold rdL; omega
      rw [hln] at x2
      unfold opBs cntBs
      dsimp only
      rw [h1, hu, hu2]
      conv => lhs; rw [c2, b2, a2, x2, d4]
      simp
      rfl
    · exact .inr h
  · rw [h1]
    rw [if_neg (by decide), if_neg (by decide), if_neg (by decide), if_pos rfl]
    unfold prs2
    rcases fin_cases ⟨k, sZ, i64w (rdVe r e).1, 0, []⟩ (rdVe r e).2.1 (rdVe r e).2.2 with ⟨h, hok, hr, he⟩ | h
    · refine .inl ⟨_, h, hok, ?_⟩
      obtain ⟨b1, b2⟩ := rdVe_zero he
      obtain ⟨_, c2⟩ := hz b1
      rw [hr] at b2
      have hq : qtyB (i64w (rdVe r e).1) = true := by
        exact ok_o hok h1
      have hu := rdVe_u (r := r) (e := e) (by have := qty_of hq; omega)
      unfold opBs cntBs
      dsimp only
      rw [h1, hu]
      conv => lhs; rw [c2, b2]
      simp
    · exact .inr h
  · rw [h1]
    rw [if_neg (by decide), if_neg (by decide), if_neg (by decide), if_neg (by decide), if_pos rfl]
    unfold prs4
    rcases fin_cases ⟨k, sZ, 0, i64w (rdVe r e).1, []⟩ (rdVe r e).2.1 (rdVe r e).2.2 with ⟨h, hok, hr, he⟩ | h
    · refine .inl ⟨_, h, hok, ?_⟩
      obtain ⟨b1, b2⟩ := rdVe_zero he
      obtain ⟨_, c2⟩ := hz b1
      rw [hr] at b2
      have hq : qtyB (i64w (rdVe r e).1) = true := by
        exact ok_n hok (.inr h1)
      have hu := rdVe_u (r := r) (e := e) (by have := qty_of hq; omega)
      unfold opBs cntBs
      dsimp only
      rw [h1, hu]
      conv => lhs; rw [c2, b2]
      simp
    · exact .inr h
  · rw [h1]
    rw [if_neg (by decide), if_neg (by decide), if_neg (by decide), if_neg (by decide), if_neg (by decide), if_pos rfl]
    unfold prs1
    have l1 := rdTe_len r e
    rcases fin_cases ⟨k, mkS (rdTe r e).1, 0, 0, []⟩ (rdTe r e).2.1 (rdTe r e).2.2 with ⟨h, hok, hr, he⟩ | h
    · refine .inl ⟨_, h, hok, ?_⟩
      obtain ⟨b1, b2⟩ := rdTe_zero he
      obtain ⟨_, c2⟩ := hz b1
      rw [hr] at b2
      unfold opBs cntBs
      dsimp only
      rw [h1, txt_mk (by omega)]
      conv => lhs; rw [c2, b2]
      simp
    · exact .inr h
theorem prsRes_again (l : List UInt8) : (∃ c a b : Int, prsRes l = ((c, a, b), 0) ∧ resB c a b = true ∧ l = resBs c a b) ∨ ∃ er, prsRes l = ((0, 0, 0), er) ∧ er ≠ 0 := by
  unfold prsRes
  dsimp only
  by_cases h : endErr (rdVe (rdVe (rdNe l 0).2.1 (rdNe l 0).2.2).2.1 (rdVe (rdNe l 0).2.1 (rdNe l 0).2.2).2.2).2.1 (rdVe (rdVe (rdNe l 0).2.1 (rdNe l 0).2.2).2.1 (rdVe (rdNe l 0).2.1 (rdNe l 0).2.2).2.2).2.2 = 0
  · rw [if_pos h]
    obtain ⟨he, hr⟩ := endErr_zero h
    cases hb : resB ((rdNe l 0).1 : Nat) (i64w (rdVe (rdNe l 0).2.1 (rdNe l 0).2.2).1) (i64w (rdVe (rdVe (rdNe l 0).2.1 (rdNe l 0).2.2).2.1 (rdVe (rdNe l 0).2.1 (rdNe l 0).2.2).2.2).1) with
    | true =>
      rw [if_pos rfl]
      refine .inl ⟨_, _, _, rfl, hb, ?_⟩
      have hs := of_decide_eq_true hb
      obtain ⟨a1, a2⟩ := rdVe_zero he
      obtain ⟨b1, b2⟩ := rdVe_zero a1
      obtain ⟨_, c2⟩ := rdNe_zero b1
      rw [hr] at a2
      unfold resBs
      rw [rdVe_u hs.2.2.1, rdVe_u hs.2.2.2.1]
      conv => lhs; rw [c2, b2, a2]
      simp
    | false => exact .inr ⟨4, rfl, by decide⟩
  · rw [if_neg h]; exact .inr ⟨_, rfl, h⟩
end Go.Proofs.YtafkbodmiblbnaaDoor
/- The statement's own: bytes. -/
namespace Go.Proofs.YtafkbodmiblbnaaDoor
open Go.RowKit
set_option linter.unusedVariables false
set_option linter.unusedSimpArgs false
theorem same_self (k : Int) (s : KS) (o n : Int) (ls : List Ln) : sameB k s o n ls k s o n ls = true := by simp [sameB]
theorem ok_len {k : Int} {s : KS} {o n : Int} {ls : List Ln} (h : okB k s o n ls = true) : ls.length ≤ 4 := by
  obtain ⟨_, hp⟩ := ok_parts h
  rcases hp with ⟨e, h1, h2, h3, h4⟩ | ⟨e, h1, h2, h3, h4⟩ | ⟨e, h1, h2, h3, h4⟩ | ⟨e, h1, h2, h3, h4⟩ | ⟨e, h1, h2, h3, h4⟩ | ⟨e, h1, h2, h3, h4⟩
  all_goals first | (have := lines_of h4; omega) | (rw [h4]; simp)
theorem txtB_len (s : KS) (h : s.1.size ≤ 8) : (txtB s).length ≤ 18 := by
  unfold txtB
  rw [List.length_append, show s.1.data.toList.length = s.1.size from rfl]
  have := vint_len s.1.size
  omega
theorem lines_len : ∀ (ls : List Ln), ls.all lineB = true → (ls.flatMap lineBs).length ≤ ls.length * 28
  | [], _ => Nat.le_refl _
  | l :: ls, h => by
    simp only [List.all_cons, Bool.and_eq_true] at h
    have ih := lines_len ls h.2
    have h1 := h.1
    unfold lineB at h1
    simp only [Bool.and_eq_true] at h1
    have hn := (name_of h1.1).2
    have t := txtB_len l.1 hn
    have hv := vint_len l.2.toNat
    have t2 : (lineBs l).length = (txtB l.1).length + (vint l.2.toNat).length := by unfold lineBs; rw [List.length_append]
    rw [List.flatMap_cons, List.length_append, List.length_cons]
    omega
theorem opBs_len {k : Int} {s : KS} {o n : Int} {ls : List Ln} (h : okB k s o n ls = true) : (opBs k s o n ls).length ≤ 200 := by
  obtain ⟨_, hp⟩ := ok_parts h
  have v1 := vint_len o.toNat
  have v2 := vint_len n.toNat
  have v3 := vint_len (zig n)
  have v4 := vint_len ls.length
  rcases hp with ⟨e, h1, h2, h3, h4⟩ | ⟨e, h1, h2, h3, h4⟩ | ⟨e, h1, h2, h3, h4⟩ | ⟨e, h1, h2, h3, h4⟩ | ⟨e, h1, h2, h3, h4⟩ | ⟨e, h1, h2, h3, h4⟩
  · have t := txtB_len s (name_of h1).2
    rw [h4]; unfold opBs cntBs; rw [e]; simp; omega
  · have t := txtB_len s (name_of h1).2
    rw [h4]; unfold opBs cntBs; rw [e]; simp; omega
  · obtain ⟨l1, l4, hall⟩ := lines_of h4
    have t := lines_len ls hall
    unfold opBs cntBs; rw [e]; rw [if_neg (by decide), if_pos (by decide), if_pos (by decide), if_pos (by decide)]; simp only [List.length_append, List.length_singleton, List.length_nil]; omega
  · rw [h4]; unfold opBs cntBs; rw [e]; simp; omega
  · rw [h4]; unfold opBs cntBs; rw [e]; simp; omega
  · have t := txtB_len s (name_of h1).2
    rw [h4]; unfold opBs cntBs; rw [e]; simp; omega
end Go.Proofs.YtafkbodmiblbnaaDoor
