/- Texts of one bundle: Item6, Item7. -/
import Derived.Test.YtcicclghgbdgnaaDoorBkG
import Derived.Test.YtcicclghgbdgnaaDoorBkB
/- Package item: Same. -/
namespace Go.Proofs.YtcicclghgbdgnaaDoor
open Go.RowKit
set_option linter.unusedVariables false
set_option linter.unusedSimpArgs false
theorem str_ne {x y : ByteArray} (h : ¬ x = y) : (x.toList == y.toList) = false := by
  rw [beq_eq_false_iff_ne, ByteArray.toList_eq, ByteArray.toList_eq]
  exact fun e => h (ByteArray.ext (Array.toList_inj.mp e))
theorem takeL_succ {la lb : List Ln} {k : Nat} (h : la.take k = lb.take k) (ha : k < la.length) (hb : k < lb.length) (he : la[k] = lb[k]) : la.take (k + 1) = lb.take (k + 1) := by
  rw [List.take_succ_eq_append_getElem ha, List.take_succ_eq_append_getElem hb, h, he]
set_option maxRecDepth 100000 in
set_option maxHeartbeats 2000000 in
theorem equalL_any {w0 w : World} {L : List Thing} (va vb : Value) (la lb : List Ln) (hs : Sep w0 L w) (ha : LnS w va la) (hb : LnS w vb lb) (hl : la.length ≤ 9223372036854775807) :
    Calls Tryd.prog 67 #[va, vb] w fun e w' => e = .returned (.bool (decide (la = lb))) ∧ Sep w0 L w' := by
  obtain ⟨aa, ca, rfl⟩ := ha.len
  obtain ⟨ab, cb, rfl⟩ := hb.len
  have HA := Lib.hid ha
  have HB := Lib.hid hb
  have HS := Lib.hid hs
  clear ha hb hs
  by_cases hne : la.length = lb.length
  · have hn : (((la.length : Nat) : Int) != ((lb.length : Nat) : Int)) = false := by simp [hne]
    have hn' : (la.length != lb.length) = false := by simp [hne]
    have HN := Lib.hid hne
    obtain ⟨r, hr⟩ : ∃ r : Bool, r = decide (la = lb) := ⟨_, rfl⟩
    rw [← hr]
    have HR := Lib.hid hr
    clear hne hr
    go_enter Tryd.func67, Tryd.ntmps67
    go_wp2_with fail
    go_loopw [13] (fun i wr => ∃ k m : Nat, k ≤ la.length ∧ i = .int .i64 k ∧ la.take k = lb.take k ∧ wr = w.drewN m) (fun i _ => la.length - (intOf i).toNat)
    case atStart => exact ⟨0, 0, by omega, rfl, rfl, rfl⟩
    case round =>
      obtain ⟨k, m, hk, rfl, ht, rfl⟩ := hrel
      have k0 : (0 : Int) ≤ (k : Int) := by omega
      have kb : (k : Int) ≤ 9223372036854775807 := by omega
      by_cases hkn : k < la.length
      · have hd : decide (k < la.length) = true := decide_eq_true hkn
        have hkb : k < lb.length := by have := HN.out; omega
        have k1 : (k : Int) < (la.length : Int) := by omega
        have k2 : (k : Int) < (lb.length : Int) := by omega
        obtain ⟨-, -, -, b1, o1, rfl, -, hc1⟩ := HA.out.at hkn
        obtain ⟨-, -, -, b2, o2, rfl, -, hc2⟩ := HB.out.at hkb
        obtain ⟨c0, c1⟩ := hc1 w (Below.refl _ w)
        obtain ⟨d0, d1⟩ := hc2 w (Below.refl _ w)
        by_cases he : la[k] = lb[k]
        · have HT := Lib.hid (takeL_succ ht hkn hkb he)
          rw [← he] at d0 d1
          generalize la[k] = z at *
          clear ht hc1 hc2 hkn hkb he
          go_wp2_with fail
          go_quiet (fail)
          go_wp2_with fail
          go_roundw
          case rel => exact ⟨k + 1, m + nq, of_decide_eq_true hd, by go_num, HT.out, by simp [World.drewN, Nat.add_assoc]⟩
          case measure => have hkn := of_decide_eq_true hd; simp [intOf]; omega
        · have HF : Hid (r = false) := Lib.hid (by
            rw [HR.out]
            exact decide_eq_false fun e => by subst e; exact he rfl)
          generalize la[k] = z at *
          generalize lb[k] = z' at *
          by_cases hs : z.1.1 = z'.1.1
          · have e2 : (z.2 == z'.2) = false := by
              rw [beq_eq_false_iff_ne]
              exact fun h => he (Prod.ext (Subtype.ext hs) h)
            rw [← hs] at d0
            clear ht hc1 hc2 hkn hkb he hs
            go_wp2_with fail
            go_quiet (fail)
            go_wp2_with fail
            go_ret
            rw [HF.out]
            exact ⟨rfl, (HS.out.drewN m).drewN nq⟩
          · have e3 : (z.1.1.toList == z'.1.1.toList) = false := str_ne hs
            have e4 : (z.1.1.toList != z'.1.1.toList) = true := by rw [bne, e3]; rfl
            clear ht hc1 hc2 hkn hkb he hs
            go_wp2_with fail
            go_quiet (fail)
            go_wp2_with fail
            go_ret
            rw [HF.out]
            exact ⟨rfl, (HS.out.drewN m).drewN nq⟩
      · have hd : decide (k < la.length) = false := decide_eq_false hkn
        have HF : Hid (r = true) := Lib.hid (by
          rw [HR.out]
          have hkl : k = la.length := by omega
          rw [hkl, List.take_length, HN.out, List.take_length] at ht
          exact decide_eq_true ht)
        clear ht hkn
        go_wp2_with fail
        go_ret
        rw [HF.out]
        exact ⟨rfl, HS.out.drewN m⟩
  · have hn : (((la.length : Nat) : Int) != ((lb.length : Nat) : Int)) = true := by rw [bne_iff_ne]; omega
    have hn' : (la.length != lb.length) = true := by rw [bne_iff_ne]; exact hne
    have hx : decide (la = lb) = false := decide_eq_false fun e => hne (by rw [e])
    rw [hx]
    clear hne hx
    go_enter Tryd.func67, Tryd.ntmps67
    go_wp2_with fail
    go_ret
    exact ⟨rfl, HS.out⟩
def sameB (k : Int) (s : KS) (o n : Int) (ls : List Ln) (k' : Int) (s' : KS) (o' n' : Int) (ls' : List Ln) : Bool := decide (k = k') && decide (s.1 = s'.1) && decide (o = o') && decide (n = n') && decide (ls = ls')
set_option maxRecDepth 100000 in
set_option maxHeartbeats 4000000 in
theorem same_any {w0 w : World} {L : List Thing} (k : Int) (s : KS) (o n : Int) (v : Value) (ls : List Ln) (k' : Int) (s' : KS) (o' n' : Int) (v' : Value) (ls' : List Ln) (h : Sep w0 L w) (hv : LnS w v ls) (hv' : LnS w v' ls') (hl : ls.length ≤ 9223372036854775807) :
    Calls Tryd.prog 35 #[.agg #[.int .i64 k, .string s.1, .int .i64 o, .int .i64 n, v], .agg #[.int .i64 k', .string s'.1, .int .i64 o', .int .i64 n', v']] w fun e w' => e = .returned (.bool (sameB k s o n ls k' s' o' n' ls')) ∧ Sep w0 L w' := by
  suffices hh : Calls Tryd.prog 35 #[.agg #[.int .i64 k, .string s.1, .int .i64 o, .int .i64 n, v], .agg #[.int .i64 k', .string s'.1, .int .i64 o', .int .i64 n', v']] w fun e w' => e = .returned (.bool (sameB k s o n ls k' s' o' n' ls')) ∧ Sep w [] w' from hh.mono fun e w' ⟨h1, h2⟩ => ⟨h1, h.below h2.low⟩
  clear h
  obtain ⟨a, c, rfl⟩ := hv.len
  obtain ⟨a', c', rfl⟩ := hv'.len
  obtain ⟨wa, hwa⟩ : ∃ z, z = (w.alloc (.cells (opCells k s o n (.slice a ls.length c)) 24)).alloc (.cells (opCells k' s' o' n' (.slice a' ls'.length c')) 24) := ⟨_, rfl⟩
  have h1 := ((Sep.start w).alloc (.cells (opCells k s o n (.slice a ls.length c)) 24)).alloc (.cells (opCells k' s' o' n' (.slice a' ls'.length c')) 24)
  rw [← hwa] at h1
  rw [show (w.alloc (.cells (opCells k s o n (.slice a ls.length c)) 24)).heap.size = w.heap.size + 1 by simp] at h1
  have HE := Lib.hid (equalL_any _ _ ls ls' (Sep.start wa) (hv.below h1.low) (hv'.below h1.low) hl)
  obtain ⟨c0, c1, c2, c3, c4⟩ := op_cells h1.sw2
  obtain ⟨d0, d1, d2, d3, d4⟩ := op_cells h1
  have HL := Lib.hid h1.low
  unfold opCells at hwa
  clear h1 hv hv'
  unfold sameB
  by_cases e0 : k = k'
  · subst e0
    rw [decide_eq_true rfl, Bool.true_and]
    by_cases e1 : s.1 = s'.1
    · rw [decide_eq_true e1, Bool.true_and]
      rw [← e1] at d1 hwa ⊢
      clear e1
      by_cases e2 : o = o'
      · subst e2
        rw [decide_eq_true rfl, Bool.true_and]
        by_cases e3 : n = n'
        · subst e3
          rw [decide_eq_true rfl, Bool.true_and]
          generalize decide (ls = ls') = r at *
          go_enter Tryd.func35, Tryd.ntmps35
          go_wp2_with fail
          rw [← hwa]
          clear hwa
          go_wp2_with fail
          refine HE.out.mono ?_
          rintro r0 w1 ⟨rfl, h2⟩
          have H2 := Lib.hid (HL.out.trans (h2.low.mono HL.out.size))
          clear h2
          go_wp2_with fail
          go_ret
          exact ⟨rfl, Sep.nil H2.out⟩
        · rw [decide_eq_false e3, Bool.false_and]
          have f : (n == n') = false := beq_eq_false_iff_ne.2 e3
          clear e3
          go_enter Tryd.func35, Tryd.ntmps35
          go_wp2_with fail
          rw [← hwa]
          clear hwa
          go_wp2_with fail
          go_ret
          exact ⟨rfl, Sep.nil HL.out⟩
      · rw [decide_eq_false e2, Bool.false_and, Bool.false_and]
        have f : (o == o') = false := beq_eq_false_iff_ne.2 e2
        clear e2
        go_enter Tryd.func35, Tryd.ntmps35
        go_wp2_with fail
        rw [← hwa]
        clear hwa
        go_wp2_with fail
        go_ret
        exact ⟨rfl, Sep.nil HL.out⟩
    · rw [decide_eq_false e1, Bool.false_and, Bool.false_and, Bool.false_and]
      have f := str_ne e1
      clear e1
      go_enter Tryd.func35, Tryd.ntmps35
      go_wp2_with fail
      rw [← hwa]
      clear hwa
      go_wp2_with fail
      go_ret
      exact ⟨rfl, Sep.nil HL.out⟩
  · rw [decide_eq_false e0, Bool.false_and, Bool.false_and, Bool.false_and, Bool.false_and]
    have f : (k == k') = false := beq_eq_false_iff_ne.2 e0
    clear e0
    go_enter Tryd.func35, Tryd.ntmps35
    go_wp2_with fail
    rw [← hwa]
    clear hwa
    go_wp2_with fail
    go_ret
    exact ⟨rfl, Sep.nil HL.out⟩
end Go.Proofs.YtcicclghgbdgnaaDoor

/- Package item: Copy. -/
namespace Go.Proofs.YtcicclghgbdgnaaDoor
open Go.RowKit
set_option linter.unusedVariables false
set_option linter.unusedSimpArgs false
def lnCells (ls : List Ln) : List Value := ls.flatMap fun l => [.string l.1.1, .int .i64 l.2]
theorem lnCells_len : ∀ ls : List Ln, (lnCells ls).length = ls.length * 2
  | [] => rfl
  | l :: ls => by
    have := lnCells_len ls
    simp only [lnCells, List.flatMap_cons, List.length_append, List.length_cons, List.length_nil] at this ⊢
    omega
theorem lnCells_at : ∀ (ls : List Ln) (i : Nat) (hi : i < ls.length), (lnCells ls)[i * 2]? = some (.string ls[i].1.1) ∧ (lnCells ls)[i * 2 + 1]? = some (.int .i64 ls[i].2)
  | l :: ls, 0, _ => ⟨rfl, rfl⟩
  | l :: ls, i + 1, hi => by
    have := lnCells_at ls i (by simpa using hi)
    rw [show (i + 1) * 2 = i * 2 + 2 by omega]
    simpa [lnCells] using this
theorem lnCells_get {ls : List Ln} {j : Nat} {u : Value} (h : (lnCells ls)[j]? = some u) : ∃ i, ∃ hi : i < ls.length, (j = i * 2 ∧ u = .string ls[i].1.1) ∨ (j = i * 2 + 1 ∧ u = .int .i64 ls[i].2) := by
  have hj : j < ls.length * 2 := by
    rw [← lnCells_len]
    exact (List.getElem?_eq_some_iff.1 h).1
  obtain ⟨h0, h1⟩ := lnCells_at ls (j / 2) (by omega)
  refine ⟨j / 2, by omega, ?_⟩
  rcases Nat.mod_two_eq_zero_or_one j with hm | hm
  · have e : j / 2 * 2 = j := by omega
    rw [e, h] at h0
    exact .inl ⟨e.symm, Option.some.inj h0⟩
  · have e : j / 2 * 2 + 1 = j := by omega
    rw [e, h] at h1
    exact .inr ⟨e.symm, Option.some.inj h1⟩
/-- Lines of one's own. -/
abbrev LnR (v : Value) (ls : List Ln) : Thing := Rn 2 36 v ls.length (lnCells ls)
theorem Sep.lnS {w0 w : World} {v : Value} {ls : List Ln} {L : List Thing} (h : Sep w0 (LnR v ls :: L) w) : LnS w v ls := by
  have hr := h.rn.2
  obtain ⟨a, c, rfl, h1, h2, h3, h4⟩ := h.rnForm
  by_cases h0 : 0 < ls.length
  · obtain ⟨b, rfl, h5, h6⟩ := h4 h0
    refine .inr ⟨b, 0, c, rfl, h1, h2, h5, fun i hi => ?_⟩
    obtain ⟨q0, q1⟩ := lnCells_at ls i hi
    have k : ∀ j u, (lnCells ls)[j]? = some u → w.cell? ⟨b, j, none⟩ = some u := fun j u hu => by
      obtain ⟨hj, rfl⟩ := List.getElem?_eq_some_iff.1 hu
      exact h6 j hj
    rw [Nat.zero_add]
    exact ⟨k _ _ q0, k _ _ q1⟩
  · obtain rfl : ls = [] := List.eq_nil_of_length_eq_zero (by omega)
    refine .inl ⟨a, c, rfl, fun ha => ?_, rfl⟩
    subst ha
    rcases hr with ⟨h5, _⟩ | ⟨g, cap, cur, h5, _⟩
    · simp at h5; exact h5
    · simp at h5
theorem infoLn : (Tryd.prog.info? 36).map (fun i => (i.size, decide (i.bytes ≤ 256), i.zero.map (fun z => z.cells.size))) = some (2, true, some 2) := by kernel_rfl
theorem lnCells_one (ls : List Ln) : ∀ u ∈ lnCells ls, u.oneCell' = true := by
  intro u hu
  obtain ⟨l, _, hl⟩ := List.mem_flatMap.1 hu
  simp only [List.mem_cons, List.not_mem_nil, or_false] at hl
  rcases hl with rfl | rfl <;> rfl
theorem lnCells_app (a b : List Ln) : lnCells (a ++ b) = lnCells a ++ lnCells b := by simp [lnCells]
/-- A row that is appended to. -/
theorem rn_grow {w0 w w' : World} {sz n n' : Nat} {e : TypeId} {v v' : Value} {xs xs' : List Value} {L : List Thing} (h : Sep w0 (Rn sz e v n xs :: L) w) (ho : w'.ownsRow w0.heap.size e sz v' n' xs') (hg : w.grownBy w' v.ownBlock) (hat : v'.ownBlock = v.ownBlock ∨ v'.ownBlock = some w.heap.size) : Sep w0 (Rn sz e v' n' xs' :: L) w' := by
  refine h.change (loc_rn _ _ _ _ _) fun F hF hlt => ⟨fun k => v'.ownBlock = some k, ⟨⟨_, ho⟩, fun _ => Iff.rfl⟩, fun k hk => ?_, ⟨hg.os, hg.tape, hg.output, hg.size, fun k hk hn => ?_⟩⟩
  · refine ⟨?_, (ownsRow_lt ho k hk).2⟩
    rcases hat with h1 | h1
    · exact .inl ((hF.2 k).2 (h1 ▸ hk))
    · rw [h1] at hk; cases hk; exact .inr (Nat.le_refl _)
  · exact hg.block k hk fun e => hn ((hF.2 k).2 e.symm)
/-- 'append' of lines that are read. -/
theorem append_ln {w0 w : World} {v x : Value} {ls ms : List Ln} {L : List Thing} (ty : TypeId) (h : Sep w0 (LnR v ls :: L) w) (hx : LnS w x ms) (hlen : ls.length + ms.length ≤ 549755813888) :
    ∃ v' w', (Builtin.append_ #[22, 22] ty #[v, x]).run Tryd.prog w = .ok v' w' ∧ Sep w0 (LnR v' (ls ++ ms) :: L) w' ∧ (v' = .slice none 0 0 → v = .slice none 0 0) := by
  obtain ⟨i, hi, he⟩ := Option.map_eq_some_iff.1 infoLn
  simp only [Prod.mk.injEq, decide_eq_true_eq] at he
  obtain ⟨z, hz, hz2⟩ := Option.map_eq_some_iff.1 he.2.2
  have hown := h.rn
  have hm : ls.length + ms.length ≤ maxLen := by unfold maxLen; omega
  have hbb : (ls.length + ms.length) * i.bytes ≤ 140737488355328 := by
    calc (ls.length + ms.length) * i.bytes ≤ 549755813888 * 256 := Nat.mul_le_mul hlen he.2.1
      _ = 140737488355328 := by omega
  unfold LnR
  rw [lnCells_app, List.length_append]
  rcases hx with ⟨a, c, rfl, _, rfl⟩ | ⟨b, off, c, rfl, h1, h2, h3, h4⟩
  · cases a with
    | none =>
      refine ⟨v, w, run_append_owned_none (P := Tryd.prog) w w0.heap.size _ ty 36 i 2 Tryd.underlying22 hi v _ _ hown, by rw [show lnCells ([] : List Ln) = [] from rfl, List.append_nil]; exact h, id⟩
    | some x =>
      obtain ⟨v', w', hr, ho, hg, hn, hat⟩ := run_append_own_at (P := Tryd.prog) w w0.heap.size _ ty 36 i z 2 i.bytes Tryd.underlying22 hi hz he.1 rfl hz2 (by decide) v ls.length (lnCells ls) hown x 0 c [] rfl (fun j u hj => by simp at hj) (fun u hu => by cases hu) hm hbb h.size
      refine ⟨v', w', hr, ?_, fun h => (hn.1 h).1⟩
      exact rn_grow h ho hg hat
  · have hadd : ∀ j, (⟨b, off, none⟩ : Addr).add j = ⟨b, off + j, none⟩ := fun j => by unfold Addr.add; split <;> simp_all
    obtain ⟨v', w', hr, ho, hg, hn, hat⟩ := run_append_own_at (P := Tryd.prog) w w0.heap.size _ ty 36 i z 2 i.bytes Tryd.underlying22 hi hz he.1 rfl hz2 (by decide) v ls.length (lnCells ls) hown ⟨b, off, none⟩ ms.length c (lnCells ms) (lnCells_len ms) (fun j u hj => by
      rw [hadd]
      obtain ⟨k, hk, h5⟩ := lnCells_get hj
      rcases h5 with ⟨rfl, rfl⟩ | ⟨rfl, rfl⟩
      · exact (h4 k hk).1
      · exact (h4 k hk).2) (lnCells_one ms) hm hbb h.size
    exact ⟨v', w', hr, rn_grow h ho hg hat, fun h => (hn.1 h).1⟩
theorem rnEmpty {w0 w : World} {L : List Thing} (h : Sep w0 L w) : Sep w0 (LnR (.slice (some ⟨w.heap.size, 0, none⟩) 0 0) [] :: L) (w.alloc (.cells #[] 36)) := by
  refine (h.alloc (.cells #[] 36)).imp (loc_rn _ _ _ _ _) fun F hF => ⟨⟨0, ?_, .inr ⟨w.heap.size, 0, #[], rfl, Nat.zero_le _, hF.1, Nat.le_refl _, Nat.zero_le _, rfl, rfl⟩⟩, fun k => ⟨fun hk => by rw [(hF.2 k).1 hk]; rfl, fun hk => (hF.2 k).2 (by simpa [Value.ownBlock] using hk.symm)⟩⟩
  rfl
set_option maxRecDepth 100000 in
set_option maxHeartbeats 1000000 in
theorem cloneL_any {w0 w : World} {L : List Thing} (v : Value) (ls : List Ln) (h : Sep w0 L w) (hv : LnS w v ls) (hl : ls.length ≤ 1000) :
    Calls Tryd.prog 59 #[v] w fun e w' => ∃ u, e = .returned u ∧ Sep w0 (LnR u ls :: L) w' := by
  obtain ⟨a, c, hva⟩ := hv.len
  by_cases hn : v = .slice none 0 0
  · subst hn
    have h0 : ls = [] := by
      rcases hv with ⟨_, _, _, _, h⟩ | ⟨b, off, c', h, _⟩
      · exact h
      · simp at h
    subst h0
    have e1 := fun w => Lib.run_eql_slice_nil (P := Tryd.prog) w 22 36 none 0 0 0 0 Tryd.underlying22
    have H := Lib.hid (h.rnNil 2 36)
    clear h hv hva
    go_enter Tryd.func59, Tryd.ntmps59
    go_wp2_with fail
    go_ret
    exact ⟨_, rfl, H.out⟩
  · have ha : ∃ x, a = some x := by
      cases a with
      | some x => exact ⟨x, rfl⟩
      | none =>
        exfalso
        rcases hv with ⟨a', c', h1, h3, h2⟩ | ⟨b, off, c', h1, _⟩
        · subst h2
          rw [hva] at h1
          simp only [Value.slice.injEq, List.length_nil, true_and] at h1
          obtain ⟨rfl, rfl⟩ := h1
          rw [h3 rfl] at hva
          exact hn hva
        · rw [hva] at h1; simp at h1
    obtain ⟨x, rfl⟩ := ha
    subst hva
    have e1 := fun w => Lib.run_eql_slice_nil (P := Tryd.prog) w 22 36 (some x) ls.length c 0 0 Tryd.underlying22
    have h1 := rnEmpty h
    obtain ⟨v', w', hr, h2, hnil⟩ := append_ln (ms := ls) 22 h1 (hv.below ((Below.refl w.heap.size w).alloc (Nat.le_refl _) _)) (by simp; omega)
    rw [List.nil_append] at h2
    have H1 := Lib.hid hr
    have H2 := Lib.hid h2
    obtain ⟨a2, c2, rfl, -⟩ := h2.rnForm
    clear h hv h1 h2 hr hnil hn
    go_enter Tryd.func59, Tryd.ntmps59
    go_wp2_with (at_builtin; refine wpList_append_run rfl _ _ _ _ rfl rfl rfl H1.out ?_)
    go_ret
    exact ⟨_, rfl, H2.out⟩
def opZ : Array Value := #[.int .i64 0, .string ⟨#[]⟩, .int .i64 0, .int .i64 0, .slice none 0 0]
theorem cells5 {w0 w : World} {b : Nat} {v0 v1 v2 v3 v4 : Value} {t : TypeId} {L : List Thing} (h : Sep w0 (Cl b #[v0, v1, v2, v3, v4] t :: L) w) :
    (w.cell? ⟨b, 0, none⟩ = some v0 ∧ w.cell? ⟨b, 1, none⟩ = some v1 ∧ w.cell? ⟨b, 2, none⟩ = some v2 ∧ w.cell? ⟨b, 3, none⟩ = some v3 ∧ w.cell? ⟨b, 4, none⟩ = some v4) :=
  ⟨h.cell rfl, h.cell rfl, h.cell rfl, h.cell rfl, h.cell rfl⟩
theorem frz5 {w0 w : World} {b : Nat} {xs : Array Value} {t : TypeId} {L : List Thing} (h : Sep w0 (Cl b xs t :: L) w) :
    (w.frozen? ⟨b, 0, none⟩ = false ∧ w.frozen? ⟨b, 1, none⟩ = false ∧ w.frozen? ⟨b, 2, none⟩ = false ∧ w.frozen? ⟨b, 3, none⟩ = false ∧ w.frozen? ⟨b, 4, none⟩ = false) := by
  have k : ∀ o, w.frozen? ⟨b, o, none⟩ = false := fun o => by unfold World.frozen?; rw [h.blk]; simp
  exact ⟨k 0, k 1, k 2, k 3, k 4⟩
theorem store5 {w0 w : World} {b : Nat} {v0 v1 v2 v3 v4 u0 u1 u2 u3 u4 : Value} {t : TypeId} {L : List Thing} (h : Sep w0 (Cl b #[v0, v1, v2, v3, v4] t :: L) w) :
    Sep w0 (Cl b #[u0, u1, u2, u3, u4] t :: L) (((((w.setCell ⟨b, 0, none⟩ u0).setCell ⟨b, 1, none⟩ u1).setCell ⟨b, 2, none⟩ u2).setCell ⟨b, 3, none⟩ u3).setCell ⟨b, 4, none⟩ u4) :=
  ((((h.setCell 0 _).setCell 1 _).setCell 2 _).setCell 3 _).setCell 4 _
set_option maxRecDepth 100000 in
set_option maxHeartbeats 2000000 in
theorem copy_any {w0 w : World} {L : List Thing} (k : Int) (s : KS) (o n : Int) (v : Value) (ls : List Ln) (h : Sep w0 L w) (hv : LnS w v ls) (hl : ls.length ≤ 1000) :
    Calls Tryd.prog 32 #[.agg #[.int .i64 k, .string s.1, .int .i64 o, .int .i64 n, v]] w fun e w' => ∃ u, e = .returned (.agg #[.int .i64 k, .string s.1, .int .i64 o, .int .i64 n, u]) ∧ Sep w0 (LnR u ls :: L) w' := by
  obtain ⟨a, c, rfl⟩ := hv.len
  obtain ⟨wa, hwa⟩ : ∃ z, z = (w.alloc (.cells (opCells k s o n (.slice a ls.length c)) 24)).alloc (.cells opZ 24) := ⟨_, rfl⟩
  have h1 := (h.alloc (.cells (opCells k s o n (.slice a ls.length c)) 24)).alloc (.cells opZ 24)
  have hlow : Below w.heap.size w wa := by
    rw [hwa]
    exact ((Below.refl _ w).alloc (Nat.le_refl _) _).alloc (by simp) _
  rw [← hwa] at h1
  rw [show (w.alloc (.cells (opCells k s o n (.slice a ls.length c)) 24)).heap.size = w.heap.size + 1 by simp] at h1
  have HC := Lib.hid (cloneL_any _ ls h1 (hv.below hlow) hl)
  unfold opCells opZ at *
  obtain ⟨c0, c1, c2, c3, c4⟩ := cells5 h1.sw2
  clear h h1 hv hlow
  go_enter Tryd.func32, Tryd.ntmps32
  go_wp2_with fail
  rw [← hwa]
  clear hwa
  go_wp2_with fail
  refine HC.out.mono ?_
  rintro r0 w1 ⟨u, rfl, h2⟩
  clear c0 c1 c2 c3 c4 HC
  obtain ⟨a2, c2, rfl, -⟩ := h2.rnForm
  have f4 := (frz5 h2.sw3).2.2.2.2
  have b4 := (cells5 h2.sw3).2.2.2.2
  have h3 : Sep w0 (Cl w.heap.size #[.int .i64 k, .string s.1, .int .i64 o, .int .i64 n, .slice a2 ls.length c2] 24 :: LnR (.slice a2 ls.length c2) ls :: Cl (w.heap.size + 1) #[.int .i64 0, .string ⟨#[]⟩, .int .i64 0, .int .i64 0, .slice none 0 0] 24 :: L) (w1.setCell ⟨w.heap.size, 4, none⟩ (.slice a2 ls.length c2)) := h2.sw3.setCell 4 _
  obtain ⟨c0, c1, c2', c3, c4⟩ := cells5 h3
  obtain ⟨g0, g1, g2, g3, g4⟩ := frz5 h3.sw3
  obtain ⟨z0, z1, z2, z3, z4⟩ := cells5 h3.sw3
  have h4 := store5 (u0 := .int .i64 k) (u1 := .string s.1) (u2 := .int .i64 o) (u3 := .int .i64 n) (u4 := .slice a2 ls.length c2) h3.sw3
  obtain ⟨k0, k1, k2, k3, k4⟩ := cells5 h4
  have H4 := Lib.hid h4.drop.drop
  clear h2 h3 h4
  go_wp2_with fail
  exact bodyPost_ret (v := .agg #[.int .i64 k, .string s.1, .int .i64 o, .int .i64 n, .slice a2 ls.length c2]) (by simp [results, Tryd.results32, go_sem, k0, k1, k2, k3, k4]) rfl ⟨_, rfl, H4.out⟩
end Go.Proofs.YtcicclghgbdgnaaDoor
