/- The document's tally: Who. -/
import Derived.Test.YtidbniigfkocpaaRefTal
import Derived.BigQuiet
namespace Go.Proofs.Ytidbniigfkocpaa
open Go.RowKit
set_option linter.unusedVariables false
set_option linter.unusedSimpArgs false
theorem whoOf_none (n : Nat) : whoOf 0 n = [] := by
  unfold whoOf
  rw [List.filter_eq_nil_iff.2 (fun a _ => by simp [bitAt])]
  rfl
/-- Where two ballots differ first. -/
theorem bal_ne {y x : Bal} (h : ¬ y = x) : (y.1.1 ≠ x.1.1) ∨ (y.1.1 = x.1.1 ∧ y.1.2.1 ≠ x.1.2.1) ∨ (y.1.1 = x.1.1 ∧ y.1.2.1 = x.1.2.1 ∧ y.1.2.2.1 ≠ x.1.2.2.1) ∨ (y.1.1 = x.1.1 ∧ y.1.2.1 = x.1.2.1 ∧ y.1.2.2.1 = x.1.2.2.1 ∧ y.1.2.2.2.1 ≠ x.1.2.2.2.1) ∨
    (y.1.1 = x.1.1 ∧ y.1.2.1 = x.1.2.1 ∧ y.1.2.2.1 = x.1.2.2.1 ∧ y.1.2.2.2.1 = x.1.2.2.2.1 ∧ y.1.2.2.2.2 ≠ x.1.2.2.2.2) := by
  obtain ⟨⟨a, b, c, d, e⟩, hx⟩ := x
  obtain ⟨⟨a', b', c', d', e'⟩, hy⟩ := y
  simp only [Subtype.mk.injEq, Prod.mk.injEq] at h ⊢
  omega
set_option maxRecDepth 100000 in
set_option maxHeartbeats 2000000 in
theorem rwho_any {w0 w : World} {g n : Nat} {v : Value} {S : List (Bal × Nat)} {R : List Value} {L : List Thing} (x : Bal) (h : Sep w0 (RTalC g n v :: RRows v S R :: WhosT (setsS n S) R :: L) w) (hn : n ≤ 15) (hS : (S.map (·.1)).Nodup) (hl : S.length ≤ 1000) :
    Calls Try.prog 18 #[.pointer (some ⟨g, 0, none⟩), balV x] w fun e w' => ∃ u, e = .returned u ∧ Sep w0 (Is u (whoOf ((mget S x).getD 0) n) :: RTalC g n v :: RRows v S R :: WhosT (setsS n S) R :: L) w' := by
  obtain ⟨bx, hbx⟩ : ∃ k, k = w.heap.size := ⟨_, rfl⟩
  obtain ⟨wa, hwa⟩ : ∃ k, k = w.alloc (.cells (cellsB x) 34) := ⟨_, rfl⟩
  have h1 := h.alloc (.cells (cellsB x) 34)
  rw [← hbx, ← hwa] at h1
  obtain ⟨y0, y1, y2, y3, y4⟩ := bal_cells h1
  have z1 := h1.sw2.cell (o := 1) (x := v) rfl
  obtain ⟨av, cv, rfl, _, _, _, _⟩ := h1.sw3.rnForm
  have hR : R.length = S.length := by have := h1.sw4.whos.1; simpa using this
  have H1 := Lib.hid h1
  have HS := Lib.hid hS
  have HR := Lib.hid hR
  clear h h1 hS hR
  unfold balV
  unfold cellsB at hwa
  go_enter Try.func18, Try.ntmps18
  go_wp2_with fail
  rw [← hwa, ← hbx]
  clear hwa hbx
  go_wp2_with fail
  go_loopw [5] (fun i wr => ∃ k m : Nat, k ≤ S.length ∧ i = .int .i64 k ∧ (∀ p ∈ S.take k, p.1 ≠ x) ∧ wr = wa.drewN m) (fun i _ => S.length - (intOf i).toNat)
  case atStart => exact ⟨0, 0, by omega, rfl, (fun p hp => by simp at hp), rfl⟩
  case round =>
    obtain ⟨k, m, hk, rfl, ht, rfl⟩ := hrel
    have k0 : (0 : Int) ≤ (k : Int) := by omega
    have k1 : (k : Int) ≤ 1000 := by omega
    have HT := Lib.hid ht
    clear ht
    by_cases hkn : k < S.length
    · have hd : decide (k < S.length) = true := decide_eq_true hkn
      have k2 : (k : Int) < (S.length : Int) := by omega
      obtain ⟨b, c, hv, r1, r2, c0, c1, c2, c3, c4, c5⟩ := H1.out.sw3.rrowAt HR.out k hkn
      simp only [Value.slice.injEq] at hv
      obtain ⟨rfl, -, rfl⟩ := hv
      by_cases hx : S[k].1 = x
      · have hg := mget_mem HS.out (List.getElem_mem hkn)
        rw [hx] at hg
        have hw := H1.out.sw4.whos.2 k (by rw [HR.out]; exact hkn) (by simpa using hkn)
        obtain ⟨b2, cc, e1, e2, e3, e4, e5⟩ := hw
        rw [e1] at c5
        have hsl : Sl wa (.slice (some ⟨b2, 0, none⟩) (whoOf S[k].2 n).length cc) (iv .i64 (whoOf S[k].2 n)) := by
          refine .inl (.inr ⟨b2, 0, cc, by rw [iv_length], ?_, e3, e4, fun j u hj => ?_⟩)
          · rw [iv_length]; simpa using e2
          · have hj2 : j < (whoOf S[k].2 n).length := by
              rcases Nat.lt_or_ge j (whoOf S[k].2 n).length with h | h
              · exact h
              · rw [List.getElem?_eq_none (by rw [iv_length]; exact h)] at hj; cases hj
            rw [iv_get _ _ j hj2] at hj
            cases hj
            have := e5 j (by simpa using hj2)
            simpa using this
        simp only [setsS, List.getElem_map] at c5
        rw [hx] at c0 c1 c2 c3 c4
        go_wp2_with fail
        go_quiet (fail)
        have hx00 := (H1.out.drop.drewN (m + nq)).alloc (.cells #[] 3)
        have z2 := hx00.sw2.cell (o := 1) (x := .slice (some ⟨b, 0, none⟩) S.length cv) rfl
        obtain ⟨b', c', hv', _, _, _, _, _, _, _, d5⟩ := hx00.sw3.rrowAt HR.out k hkn
        simp only [Value.slice.injEq, Option.some.injEq, Addr.mk.injEq, and_true] at hv'
        obtain ⟨rfl, -⟩ := hv'
        rw [e1] at d5
        simp only [setsS, List.getElem_map] at d5
        have hx0 := hx00.asRow 0 rfl (by unfold maxLen; omega)
        have hb2 : Below wa.heap.size wa ((wa.drewN (m + nq)).alloc (.cells #[] 3)) := (show Below wa.heap.size wa (wa.drewN (m + nq)) from ⟨rfl, rfl, rfl, Nat.le_refl _, fun _ _ => rfl⟩).alloc (Nat.le_refl _) _
        obtain ⟨u2, w2, hr2, h4, _⟩ := appI (ty := 41) (xs := []) hx0 (hsl.below hb2) (by have := whoOf_len S[k].2 n; simp; omega)
        have Hr := Lib.hid hr2
        rw [show S[k].2 = (mget S x).getD 0 by rw [hg]; rfl, List.nil_append] at h4
        have H4 := Lib.hid h4
        clear hx0 hx00 hb2 hr2 h4 hg hsl
        go_wp2_with (at_builtin; refine wpList_append_run rfl _ _ _ _ rfl rfl rfl Hr.out ?_)
        go_ret
        exact ⟨_, rfl, H4.out⟩
      · have hno : ∀ p ∈ S.take (k + 1), p.1 ≠ x := by
          rw [List.take_succ_eq_append_getElem hkn]
          intro p hp
          rcases List.mem_append.1 hp with h | h
          · exact HT.out p h
          · rw [List.mem_singleton.1 h]; exact hx
        have HN := Lib.hid hno
        generalize S[k].1 = y at *
        clear hno HT hkn c5
        rcases bal_ne hx with h | ⟨h0, h⟩ | ⟨h0, h1, h⟩ | ⟨h0, h1, h2, h⟩ | ⟨h0, h1, h2, h3, h⟩
        all_goals
          try rw [h0] at c0
          try rw [h1] at c1
          try rw [h2] at c2
          try rw [h3] at c3
          have hne := beq_eq_false_iff_ne.2 h
          clear h hx
          try clear h0
          try clear h1
          try clear h2
          try clear h3
          go_wp2_with fail
          go_quiet (fail)
          go_wp2_with fail
          go_roundw
          case rel => exact ⟨k + 1, m + nq, of_decide_eq_true hd, by go_num, HN.out, by simp [World.drewN, Nat.add_assoc]⟩
          case measure => have hkn := of_decide_eq_true hd; simp [intOf]; omega
    · have hd : decide (k < S.length) = false := decide_eq_false hkn
      have hkl : k = S.length := by omega
      have hno : mget S x = none := mget_none fun p hp => HT.out p (by rw [hkl, List.take_length]; exact hp)
      have hres : whoOf ((mget S x).getD 0) n = [] := by rw [hno]; exact whoOf_none n
      have H2 := Lib.hid (((H1.out.drewN m).drop).rnil 3)
      have HH := Lib.hid hres
      clear hkn hkl hno hres HT y0 y1 y2 y3 y4
      go_wp2_with fail
      go_ret
      rw [HH.out]
      exact ⟨_, rfl, H2.out⟩
end Go.Proofs.Ytidbniigfkocpaa
