/- PipeKeeps. -/
import Derived.Test.YtpknfeokfladkaaDoorPipe9
namespace Go.Proofs.YtpknfeokfladkaaDoor
open Go.RowKit
set_option linter.unusedVariables false
set_option linter.unusedSimpArgs false
theorem Sep.enForm2 {w0 w : World} {v : Value} {ps : List (EnM × Value)} {L : List Thing} (h : Sep w0 (EnT v ps :: L) w) : (v = .slice none 0 0 ∧ ps = []) ∨ ∃ g c, v = .slice (some ⟨g, 0, none⟩) ps.length c ∧ ps.length ≤ c ∧ c ≤ maxLen := by
  have ho := h.enOpen.rn
  rcases ho.2 with ⟨h1, h2⟩ | ⟨g, cap, cur, h1, hb, hc, h2, h3, -⟩
  · exact .inl ⟨h1, List.eq_nil_of_length_eq_zero h2⟩
  · exact .inr ⟨g, cap, h1, h2, h3⟩
theorem enCs_take : ∀ (ps : List (EnM × Value)) (k : Nat), enCs (ps.take k) = (enCs ps).take (k * 7)
  | [], k => by simp [enCs]
  | q :: ps, 0 => by simp [enCs]
  | q :: ps, k + 1 => by
    have ih := enCs_take ps k
    unfold enCs at ih ⊢
    rw [List.take_succ_cons, List.flatMap_cons, List.flatMap_cons, ih, List.take_append, List.take_of_length_le (l := (enC q.1 q.2).toList) (i := (k + 1) * 7) (by simp [enC]; omega)]
    rw [show (k + 1) * 7 - (enC q.1 q.2).toList.length = k * 7 by simp [enC]; omega]
theorem enCs_drop : ∀ (ps : List (EnM × Value)) (k : Nat), enCs (ps.drop k) = (enCs ps).drop (k * 7)
  | [], k => by simp [enCs]
  | q :: ps, 0 => by simp [enCs]
  | q :: ps, k + 1 => by
    have ih := enCs_drop ps k
    unfold enCs at ih ⊢
    rw [List.drop_succ_cons, List.flatMap_cons, ih, List.drop_append, List.drop_of_length_le (l := (enC q.1 q.2).toList) (i := (k + 1) * 7) (by simp [enC]; omega), List.nil_append]
    rw [show (k + 1) * 7 - (enC q.1 q.2).toList.length = k * 7 by simp [enC]; omega]
/-- 'l[:k]' of entries of one's own. -/
theorem Sep.enTake {w0 w : World} {a : Option Addr} {n c : Nat} {ps : List (EnM × Value)} {L : List Thing} (h : Sep w0 (EnT (.slice a n c) ps :: L) w) (k : Nat) (hk : k ≤ n) (hn : ps.length = n) : Sep w0 (EnT (.slice a k c) (ps.take k) :: L) w := by
  subst hn
  have h1 := h.enOpen
  have e : ps.map lnP = (ps.take k).map lnP ++ (ps.drop k).map lnP := by rw [← List.map_append, List.take_append_drop]
  rw [e] at h1
  have h2 : Sep w0 (EnR (.slice a ps.length c) ps :: ((ps.take k).map lnP ++ L)) w := by
    have h3 : (EnR (.slice a ps.length c) ps :: (((ps.take k).map lnP ++ (ps.drop k).map lnP) ++ L)).Perm ((ps.drop k).map lnP ++ (EnR (.slice a ps.length c) ps :: ((ps.take k).map lnP ++ L))) := by
      refine List.Perm.trans (List.Perm.cons _ ?_) List.perm_middle.symm
      rw [← List.append_assoc]
      exact List.perm_append_comm.append_right L
    exact (h1.perm h3).left
  have hlen : (ps.take k).length = k := by rw [List.length_take]; omega
  refine Sep.enClose (h2.imp (loc_rn _ _ _ _ _) fun F hF => ⟨?_, fun j => by have h9 := hF.2 j; rcases a with _ | ⟨gb, go, _ | sp⟩ <;> exact h9⟩)
  obtain ⟨base, ho1, ho2⟩ := hF.1
  refine ⟨base, by rw [enCs_len], ?_⟩
  rcases ho2 with ⟨h3, h4⟩ | ⟨g, cap, cur, h3, hb, hc, h4, h5, h6, h7⟩
  · simp only [Value.slice.injEq] at h3
    obtain ⟨rfl, h8, rfl⟩ := h3
    exact .inl ⟨by rw [show k = 0 by omega], by rw [hlen]; omega⟩
  · simp only [Value.slice.injEq] at h3
    obtain ⟨rfl, -, rfl⟩ := h3
    refine .inr ⟨g, c, cur, by rw [hlen], hb, hc, by rw [hlen]; omega, h5, h6, ?_⟩
    rw [enCs_take, ← h7, List.take_take, hlen]
    rw [show min (k * 7) (ps.length * 7) = k * 7 by omega]
/-- 'append([]T{}, l[k:]...)'. -/
theorem own_tail {w0 w : World} {v0 : Value} {b n c off cc : Nat} {ps : List (EnM × Value)} {L : List Thing} (ty : TypeId) (h : Sep w0 (EnT v0 [] :: EnT (.slice (some ⟨b, 0, none⟩) n c) ps :: L) w) (k : Nat) (hk : k ≤ n) (hn : ps.length = n) (hoff : off = k * 7 ∨ n = k) (hl : n ≤ 10000000) :
    ∃ a' c' w', (Builtin.append_ #[35, 35] ty #[v0, .slice (some ⟨b, off, none⟩) (n - k) cc]).run Tryd.prog w = .ok (.slice a' (n - k) c') w' ∧ Sep w0 (EnT (.slice a' (n - k) c') (ps.drop k) :: L) w' := by
  subst hn
  obtain ⟨i, hi, he⟩ := Option.map_eq_some_iff.1 infoEn
  simp only [Prod.mk.injEq, decide_eq_true_eq] at he
  obtain ⟨z, hz, hz2⟩ := Option.map_eq_some_iff.1 he.2.2
  have h1 : Sep w0 (Rn 7 34 v0 0 [] :: EnT (.slice (some ⟨b, 0, none⟩) ps.length c) ps :: L) w := h.enOpen
  have hlen : (ps.drop k).length = ps.length - k := List.length_drop
  obtain ⟨v', w', hr, h2⟩ := append_rn (P := Tryd.prog) (ty := ty) (b := b) (off := off) (m := ps.length - k) (c := cc) Tryd.underlying35 hi hz he.1 he.2.1 hz2 (by decide) h1 (news := enCs (ps.drop k)) (by rw [enCs_len, hlen]) (fun j u hj => by
      obtain ⟨a, c2, hv, -, -, h4, h5⟩ := h.sw2.enOpen.rnForm
      have hj2 := (List.getElem?_eq_some_iff.1 hj).1
      rw [enCs_len, hlen] at hj2
      obtain ⟨b', hb', -, h6⟩ := h5 (by omega)
      simp only [Value.slice.injEq] at hv
      obtain ⟨rfl, -, -⟩ := hv
      simp only [Option.some.injEq, Addr.mk.injEq, and_true] at hb'
      subst hb'
      rcases hoff with rfl | h7
      · rw [enCs_drop, List.getElem?_drop] at hj
        obtain ⟨h8, h9⟩ := List.getElem?_eq_some_iff.1 hj
        rw [h6 _ h8, h9]
      · omega) (by
      intro y hy
      obtain ⟨q, hqm, hq⟩ := List.mem_flatMap.1 hy
      have hq2 : q.2.oneCell' = true := by
        obtain ⟨M, hM⟩ := h.sw2.enOpen.memT (A := lnP q) (List.mem_cons_of_mem _ (List.mem_append_left _ (List.mem_map_of_mem (List.mem_of_mem_drop hqm))))
        obtain ⟨a, c2, hv, -⟩ := hM.rnForm
        rw [hv]; rfl
      simp only [enC, List.mem_cons, List.not_mem_nil, or_false] at hq
      rcases hq with rfl | rfl | rfl | rfl | rfl | rfl | rfl <;> first | rfl | exact hq2) (by omega)
  obtain ⟨a', c', rfl, -⟩ := h2.rnForm
  rw [Nat.zero_add] at hr h2
  refine ⟨a', c', w', hr, ?_⟩
  have h3 : Sep w0 (ps.map lnP ++ (Rn 7 34 (.slice a' (ps.length - k) c') (ps.length - k) ([] ++ enCs (ps.drop k)) :: L)) w' := h2.sw2.enOpen.drop
  have e : ps.map lnP = (ps.take k).map lnP ++ (ps.drop k).map lnP := by rw [← List.map_append, List.take_append_drop]
  rw [e, List.append_assoc] at h3
  have h4 := (h3.left).perm List.perm_middle
  refine Sep.enClose ?_
  show Sep w0 (Rn 7 34 (.slice a' (ps.length - k) c') (ps.drop k).length (enCs (ps.drop k)) :: _) w'
  rw [hlen]
  exact h4
/-- A block as a row of structs of its own. -/
theorem Sep.asRn0 {w0 w : World} {g : Nat} {xs : Array Value} {e : TypeId} {L : List Thing} (h : Sep w0 (Cl g xs e :: L) w) (sz n : Nat) (hn : xs.size = n * sz) (hl : n ≤ maxLen) : Sep w0 (Rn sz e (.slice (some ⟨g, 0, none⟩) n n) n xs.toList :: L) w := by
  refine h.imp (loc_rn _ _ _ _ _) fun F hF => ⟨⟨0, ?_, .inr ⟨g, n, xs, rfl, Nat.zero_le _, hF.1, Nat.le_refl _, hl, hn, ?_⟩⟩, fun k => ⟨fun hk => by rw [(hF.2 k).1 hk]; rfl, fun hk => (hF.2 k).2 (by simpa [Value.ownBlock] using hk.symm)⟩⟩
  · simp [hn]
  · apply List.take_of_length_le; simp [hn]
theorem Sep.lnNil {w0 w : World} {L : List Thing} {ls : List Ln} (h : Sep w0 L w) (hx : ls = []) : Sep w0 (LnR (.slice none 0 0) ls :: L) w := by subst hx; exact h.rnNil 2 71
structure KR (ows qs : List (EnM × Value)) (m : Nat) : Prop where
  eq : qs.map (·.1) = ows.map (·.1)
  lo : ows.length = m
  lq : qs.length = m
  m24 : m ≤ 24
  ln : ∀ q ∈ qs, q.1.p.ls = []
theorem KR.take {ows qs : List (EnM × Value)} {m : Nat} (h : KR ows qs m) (k : Nat) (hk : k ≤ m) : KR (ows.take k) (qs.take k) k :=
  ⟨by rw [List.map_take, List.map_take, h.eq], by rw [List.length_take, h.lo]; omega, by rw [List.length_take, h.lq]; omega, by have := h.m24; omega, fun q hq => h.ln q (List.mem_of_mem_take hq)⟩
theorem KR.drop {ows qs : List (EnM × Value)} {m : Nat} (h : KR ows qs m) (k : Nat) : KR (ows.drop k) (qs.drop k) (m - k) :=
  ⟨by rw [List.map_drop, List.map_drop, h.eq], by rw [List.length_drop, h.lo], by rw [List.length_drop, h.lq], by have := h.m24; omega, fun q hq => h.ln q (List.mem_of_mem_drop hq)⟩
theorem KR.more {ows qs : List (EnM × Value)} {m : Nat} (h : KR ows qs m) (hm : m < 24) (x : EnM) (u v : Value) (hx : x.p.ls = []) : KR (ows ++ [(x, v)]) (qs ++ [(x, u)]) (m + 1) :=
  ⟨by simp [h.eq], by simp [h.lo], by simp [h.lq], by omega, fun q hq => by
    rcases List.mem_append.1 hq with hq | hq
    · exact h.ln q hq
    · rw [List.mem_singleton.1 hq]; exact hx⟩
set_option maxRecDepth 100000 in
set_option maxHeartbeats 64000000 in
theorem keeps12 (base : Int) (v : Value) (l : List Int) (w : World) (hv : Sl w v (iv .i64 l)) (hk : KindsAt w) :
    Calls Tryd.prog 5 #[.int .i64 base, v] w fun e w' => e = .returned (.bool true) ∧ Below w.heap.size w w' := by
  have HK := Lib.hid hk
  have HV := Lib.hid hv
  have HW := Lib.hid (works12_any (Sep.start w) hk)
  obtain ⟨va, vc, rfl⟩ := hv.len
  rw [iv_length] at HV ⊢
  have n0 : (0 : Int) ≤ (l.length : Int) := by omega
  clear hk hv
  go_enter Tryd.func5, Tryd.ntmps5
  go_wp2_with fail
  refine HW.out.mono ?_
  rintro r0 w1 ⟨rfl, h1⟩
  have H1 := Lib.hid h1
  clear HW h1
  go_wp2_with fail
  refine (bring_any base 1099511627776 _ (by unfold Sm; omega)).mono ?_
  rintro r0 w2 ⟨rfl, rfl⟩
  have hb : 0 ≤ base % 1099511627776 ∧ base % 1099511627776 ≤ 1099511627776 := by omega
  generalize base % 1099511627776 = b0 at *
  have HB0 := Lib.hid hb
  have HF := Lib.hid (filled_any b0 none 0 0 [] H1.out (fun wx hx => .inl ⟨none, 0, rfl, rfl⟩) rfl hb.1 (by omega) (by omega) (by simp) HK.out)
  clear hb H1
  go_wp2_with fail
  refine HF.out.mono ?_
  rintro r0 w3 ⟨g, rfl, qs, hqs, h2⟩
  obtain rfl : qs = [] := by simpa using hqs
  have H2 := Lib.hid h2.enNil
  clear HF h2 hqs
  go_wp2_with fail
  go_loopw [0, 6, 7] (fun bv pv i wr => ∃ (k : Nat) (B : Int) (m : Nat) (oa : Option Addr) (oc : Nat) (ows qs : List (EnM × Value)), k ≤ l.length ∧ k ≤ 60 ∧ bv = .int .i64 B ∧ pv = .slice oa m oc ∧ i = .int .i64 k ∧ 0 ≤ B ∧ B ≤ 1099511627776 + 24 * (k : Int) ∧ KR ows qs m ∧ Sep w [EnT (.slice oa m oc) ows, PipeT g B qs] wr) (fun _ _ i _ => 60 - (intOf i).toNat)
  case atStart => exact ⟨0, b0, 0, none, 0, [], [], Nat.zero_le _, by omega, rfl, rfl, rfl, HB0.out.1, by have := HB0.out.2; omega, ⟨rfl, rfl, rfl, by omega, by simp⟩, H2.out⟩
  case round =>
    obtain ⟨k, B, m, oa, oc, ows, qs, hkl, hk60, rfl, rfl, rfl, hB0, hB1, hkr, hs⟩ := hrel
    clear H2
    have k0 : (0 : Int) ≤ (k : Int) := by omega
    have k60 : (k : Int) ≤ 60 := by omega
    by_cases hgo : k < l.length ∧ k < 60
    · have d0 : decide (k < l.length) = true := decide_eq_true hgo.1
      have d1 : decide ((k : Int) < 60) = true := decide_eq_true (by omega)
      have k1 : (k : Int) < (l.length : Int) := by omega
      obtain ⟨b, off, rfl, hll, hc⟩ := (HV.out.below hs.low).at (by omega)
      have hcj := hc k _ (iv_get .i64 l k hgo.1)
      have HG := Lib.hid (And.intro hgo (And.intro hB0 hB1))
      have HR := Lib.hid hkr
      have HS := Lib.hid hs
      have hq : 0 ≤ l[k] % 1073741824 ∧ l[k] % 1073741824 < 1073741824 := by omega
      have HBR := Lib.hid (bring_any l[k] 1073741824 wr (by unfold Sm; omega))
      obtain ⟨n, hn⟩ : ∃ n : Nat, l[k] % 1073741824 = (n : Int) := ⟨(l[k] % 1073741824).toNat, by omega⟩
      rw [hn] at HBR hq
      generalize l[k] = lk at *
      clear hc hll hgo hkr hs hn hkl hk60
      go_wp2_with fail
      refine HBR.out.mono ?_
      rintro r0 w4 ⟨rfl, rfl⟩
      clear HBR hcj
      have m0 : (0 : Int) ≤ (m : Int) := by omega
      have m24 : (m : Int) ≤ 24 := by have := HR.out.m24; omega
      obtain ⟨n8, hn8⟩ : ∃ n8 : Nat, (n : Int).tdiv 8 = (n8 : Int) := ⟨((n : Int).tdiv 8).toNat, by have := Int.tdiv_nonneg (a := (n : Int)) (b := 8) (by omega) (by omega); omega⟩
      obtain ⟨at_, hat, hatm⟩ : ∃ q : Nat, (n8 : Int).tmod ((m : Int) + 1) = (q : Int) ∧ q ≤ m := ⟨((n8 : Int).tmod ((m : Int) + 1)).toNat, by have := Int.tmod_nonneg (a := (n8 : Int)) ((m : Int) + 1) (by omega); omega, by have h1 := Int.tmod_nonneg (a := (n8 : Int)) ((m : Int) + 1) (by omega); have h2 := Int.tmod_lt_of_pos (n8 : Int) (b := (m : Int) + 1) (by omega); omega⟩
      have hn8b : (n8 : Int) ≤ 1073741824 := by
        have h1 := Int.tdiv_nonneg (a := (n : Int)) (b := 8) (by omega) (by omega)
        have h2 : (n : Int).tdiv 8 ≤ n := Int.tdiv_le_self 8 (by omega)
        omega
      have wn8 : IntKind.i64.wrap (n8 : Int) = (n8 : Int) := IntWalk.i64_in _ (by omega)
      have wm1 : IntKind.i64.wrap ((m : Int) + 1) = (m : Int) + 1 := IntWalk.i64_in _ (by omega)
      have wat : IntKind.i64.wrap (at_ : Int) = (at_ : Int) := IntWalk.i64_in _ (by omega)
      have hne : ¬ ((m : Int) + 1 = 0) := by omega
      obtain ⟨r, hr, hr8⟩ : ∃ r : Nat, (n : Int).tmod 8 = (r : Int) ∧ r < 8 := ⟨((n : Int).tmod 8).toNat, by have := Int.tmod_nonneg (a := (n : Int)) 8 (by omega); omega, by have h1 := Int.tmod_nonneg (a := (n : Int)) 8 (by omega); have h2 := Int.tmod_lt_of_pos (n : Int) (b := 8) (by omega); omega⟩
      have wr8 : IntKind.i64.wrap (r : Int) = (r : Int) := IntWalk.i64_in _ (by omega)
      by_cases hr5 : r < 5
      · have e5 : decide ((r : Int) < 5) = true := decide_eq_true (by omega)
        have hA : ∀ wx L, Sep w L wx → Calls Tryd.prog 23 #[.int .i64 n] wx fun e w' => e = .returned (enV (askE n) (.slice none 0 0)) ∧ Sep w L w' := fun wx L hx => asks_any n hx
        have HA := Lib.hid (hA _ _ HS.out)
        have HX : Hid ((askE n).ok = true ∧ (askE n).p.ls = []) := Lib.hid ⟨askE_ok n, rfl⟩
        clear hA HS
        generalize askE (n : Int) = x at *
        unfold enV at HA
        go_wp2_with fail
        refine HA.out.mono ?_
        rintro r0 w5 ⟨rfl, h5⟩
        clear HA hn8 hat wn8 wm1 wat hne hr wr8 hn8b
        obtain ⟨b10, hb10⟩ : ∃ z, z = w5.heap.size := ⟨_, rfl⟩
        obtain ⟨w6, hw6⟩ : ∃ z, z = w5.alloc (.cells #[.int .i64 x.c, .int .i64 x.m, .int .i64 x.p.k, .string x.p.s.1, .int .i64 x.p.o, .int .i64 x.p.n, .slice none 0 0] 34) := ⟨_, rfl⟩
        have h6 : Sep w [PipeT g B qs, EnT (.slice oa m oc) ows, Cl b10 (enC x (.slice none 0 0)) 34] w6 := by
          have h3 := h5.alloc (.cells (enC x (.slice none 0 0)) 34)
          rw [← hb10] at h3
          rw [hw6]; exact h3.pick [2, 1, 0] rfl
        obtain ⟨x0, x1, x2, x3, x4, x5, x6⟩ := cells7 h6.sw3
        clear h5
        by_cases hm : m < 24
        · have hap := append_ok x (.slice none 0 0) h6 (fun wx hx => by rw [HX.out.2]; exact lnK wx) HK.out HX.out.1 HG.out.2.1 (by have := HG.out; omega) (by rw [HR.out.lq]; exact hm)
          obtain ⟨m2, hm2⟩ : ∃ z, z = m + 1 := ⟨_, rfl⟩
          rw [HR.out.lq, ← hm2] at hap
          have HAP := Lib.hid hap
          unfold enV at HAP
          have dm : decide ((m : Int) < 24) = true := decide_eq_true (by omega)
          have HM := Lib.hid (And.intro hm hm2)
          have m20 : ((m2 : Nat) : Int) ≤ 24 := by omega
          have wt : IntKind.i64.wrap (B + ((m2 : Nat) : Int)) = B + ((m2 : Nat) : Int) := IntWalk.i64_in _ (by have := HG.out; omega)
          clear hap h6 hm
          go_wp2_with fail
          rw [← hw6, ← hb10]
          clear hw6 hb10
          refine HAP.out.mono ?_
          rintro r0 w7 ⟨u, rfl, h7⟩
          obtain ⟨x0, x1, x2, x3, x4, x5, x6⟩ := cells7 h7.sw3
          have h8 := (h7.lnNil HX.out.2).alloc (.cells (enC x (.slice none 0 0)) 34)
          obtain ⟨oa2, oc2, w9, hr9, h9⟩ := append_en (ty := 35) (x := x) (u := .slice none 0 0) (h8.pick [0, 3, 1, 2] rfl : Sep w [Cl w7.heap.size (enC x (.slice none 0 0)) 34, EnT (.slice oa m oc) ows, LnR (.slice none 0 0) x.p.ls, PipeT g B (qs ++ [(x, u)])] _) rfl (by rw [HR.out.lo]; omega)
          rw [HR.out.lo, ← hm2] at hr9 h9
          unfold enC at hr9
          have HAP2 := Lib.hid hr9
          have H9 := Lib.hid h9
          have hkr2 := HR.out.more HM.out.1 x u (.slice none 0 0) HX.out.2
          rw [← hm2] at hkr2
          have HKR2 := Lib.hid hkr2
          clear HAP h7 h8 hr9 h9 hm2 hkr2
          go_wp2_with (at_builtin; refine wpList_append_run rfl _ _ _ _ rfl rfl rfl HAP2.out ?_)
          have h10 : Sep w [EnT (.slice oa2 m2 oc2) (ows ++ [(x, Value.slice none 0 0)]), PipeT g B (qs ++ [(x, u)])] w9 := H9.out
          clear HAP2 H9 x0 x1 x2 x3 x4 x5 x6
          have HKR := Lib.hid HKR2.out
          have HFR := Lib.hid (from_ok B 0 (Nat.zero_le _) (by omega) (fun q hq => by rw [HKR.out.ln q hq]; simp) h10.sw2 (by have := HG.out; omega) (by have := HG.out; omega) (by rw [HKR.out.lq]; have := HKR.out.m24; omega))
          have wtop : IntKind.i64.wrap (B + ((m2 : Nat) : Int)) = B + ((m2 : Nat) : Int) := IntWalk.i64_in _ (by have := HG.out; have := HKR.out.m24; omega)
          clear h10
          go_wp2_with fail
          refine HFR.out.mono ?_
          rintro r0 wA ⟨u1, rfl, rs, hrs, h3⟩
          rw [List.drop_zero, HKR.out.eq] at hrs
          have hrl : rs.length = m2 := by have := congrArg List.length hrs; rw [List.length_map, List.length_map, HKR.out.lo] at this; exact this
          obtain ⟨a1, c1, rfl, -⟩ := h3.enForm
          rw [hrl] at h3 ⊢
          have HSR := Lib.hid (samerow12 a1 oa2 c1 oc2 m2 rs (ows ++ [(x, Value.slice none 0 0)]) h3 (fun wx hx => hx.enS) (fun wx hx => hx.sw3.enS) hrl (by have := HKR.out.m24; omega) hrs.symm)
          clear HFR h3 hrs hrl
          go_wp2_with fail
          refine HSR.out.mono ?_
          rintro r0 wB ⟨rfl, h4⟩
          have HBA := Lib.hid (base_any (h4.pick [1, 2] rfl : Sep w [PipeT g B (qs ++ [(x, u)]), EnT (.slice oa2 m2 oc2) (ows ++ [(x, Value.slice none 0 0)])] _))
          clear HSR h4
          go_wp2_with fail
          refine HBA.out.mono ?_
          rintro r0 wC ⟨rfl, h5⟩
          have htp := top_any h5 (by have := HG.out; omega) (by have := HG.out; omega) (by rw [HKR.out.lq]; have := HKR.out.m24; omega)
          rw [HKR.out.lq] at htp
          have HTP := Lib.hid htp
          clear HBA h5 htp
          go_wp2_with fail
          refine HTP.out.mono ?_
          rintro r0 wD ⟨rfl, h6⟩
          have H6 := Lib.hid h6.sw2
          clear HTP h6
          go_wp2_with fail
          go_roundw
          case rel => exact ⟨k + 1, B, m2, oa2, oc2, (ows ++ [(x, Value.slice none 0 0)]), (qs ++ [(x, u)]), HG.out.1.1, HG.out.1.2, rfl, rfl, by go_num, by have := HG.out; omega, by have := HG.out; omega, HKR.out, H6.out⟩
          case measure => have := HG.out.1.2; simp [intOf]; omega
        · have hap := append_full x (.slice none 0 0) h6 (fun wx hx => by rw [HX.out.2]; exact lnK wx) HK.out HX.out.1 (by rw [HR.out.lq]; omega) (by rw [HR.out.lq]; have := HR.out.m24; omega)
          have HAP := Lib.hid hap
          unfold enV at HAP
          have dm : decide ((m : Int) < 24) = false := decide_eq_false (by omega)
          clear hap h6 hm
          go_wp2_with fail
          rw [← hw6, ← hb10]
          clear hw6 hb10
          refine HAP.out.mono ?_
          rintro r0 w7 ⟨rfl, h7⟩
          have h10 : Sep w [EnT (.slice oa m oc) ows, PipeT g B qs] w7 := h7.pick [1, 0] rfl
          clear HAP h7 x0 x1 x2 x3 x4 x5 x6
          have HKR := Lib.hid HR.out
          have HFR := Lib.hid (from_ok B 0 (Nat.zero_le _) (by omega) (fun q hq => by rw [HKR.out.ln q hq]; simp) h10.sw2 (by have := HG.out; omega) (by have := HG.out; omega) (by rw [HKR.out.lq]; have := HKR.out.m24; omega))
          have wtop : IntKind.i64.wrap (B + ((m : Nat) : Int)) = B + ((m : Nat) : Int) := IntWalk.i64_in _ (by have := HG.out; have := HKR.out.m24; omega)
          clear h10
          go_wp2_with fail
          refine HFR.out.mono ?_
          rintro r0 wA ⟨u1, rfl, rs, hrs, h3⟩
          rw [List.drop_zero, HKR.out.eq] at hrs
          have hrl : rs.length = m := by have := congrArg List.length hrs; rw [List.length_map, List.length_map, HKR.out.lo] at this; exact this
          obtain ⟨a1, c1, rfl, -⟩ := h3.enForm
          rw [hrl] at h3 ⊢
          have HSR := Lib.hid (samerow12 a1 oa c1 oc m rs ows h3 (fun wx hx => hx.enS) (fun wx hx => hx.sw3.enS) hrl (by have := HKR.out.m24; omega) hrs.symm)
          clear HFR h3 hrs hrl
          go_wp2_with fail
          refine HSR.out.mono ?_
          rintro r0 wB ⟨rfl, h4⟩
          have HBA := Lib.hid (base_any (h4.pick [1, 2] rfl : Sep w [PipeT g B qs, EnT (.slice oa m oc) ows] _))
          clear HSR h4
          go_wp2_with fail
          refine HBA.out.mono ?_
          rintro r0 wC ⟨rfl, h5⟩
          have htp := top_any h5 (by have := HG.out; omega) (by have := HG.out; omega) (by rw [HKR.out.lq]; have := HKR.out.m24; omega)
          rw [HKR.out.lq] at htp
          have HTP := Lib.hid htp
          clear HBA h5 htp
          go_wp2_with fail
          refine HTP.out.mono ?_
          rintro r0 wD ⟨rfl, h6⟩
          have H6 := Lib.hid h6.sw2
          clear HTP h6
          go_wp2_with fail
          go_roundw
          case rel => exact ⟨k + 1, B, m, oa, oc, ows, qs, HG.out.1.1, HG.out.1.2, rfl, rfl, by go_num, by have := HG.out; omega, by have := HG.out; omega, HKR.out, H6.out⟩
          case measure => have := HG.out.1.2; simp [intOf]; omega
      · have e5 : decide ((r : Int) < 5) = false := decide_eq_false (by omega)
        have wba : IntKind.i64.wrap (B + (at_ : Int)) = B + (at_ : Int) := IntWalk.i64_in _ (by have := HG.out; omega)
        have at0 : (0 : Int) ≤ (at_ : Int) := by omega
        by_cases hr7 : r < 7
        · have e7 : decide ((r : Int) < 7) = true := decide_eq_true (by omega)
          have HC := Lib.hid (cut_ok (B + (at_ : Int)) at_ (by rw [HR.out.lq]; exact hatm) rfl HS.out.sw2 HG.out.2.1 (by have := HG.out; omega) (by rw [HR.out.lq]; omega))
          have HFM := Lib.hid HS.out.enForm2
          clear HS hr5 hr7
          go_wp2_with fail
          refine HC.out.mono ?_
          rintro r0 w5 ⟨rfl, h5⟩
          have hkr3 := HR.out.take at_ hatm
          have h10 : Sep w [EnT (.slice oa at_ oc) (ows.take at_), PipeT g B (qs.take at_)] w5 := h5.sw2.enTake at_ hatm HR.out.lo
          clear HC h5 hn8 hat wn8 wm1 wat hne hr wr8 hn8b
          rcases HFM.out with ⟨he, hnil⟩ | ⟨ob, oc', he, hle, -⟩
          · simp only [Value.slice.injEq] at he
            obtain ⟨rfl, hm0, hoc0⟩ := he
            have cc0 : (at_ : Int) ≤ (oc : Int) := by omega
            clear HFM hm0 hoc0 hnil
            go_wp2_with fail
            have HKR := Lib.hid hkr3
            have HFR := Lib.hid (from_ok B 0 (Nat.zero_le _) (by omega) (fun q hq => by rw [HKR.out.ln q hq]; simp) h10.sw2 (by have := HG.out; omega) (by have := HG.out; omega) (by rw [HKR.out.lq]; have := HKR.out.m24; omega))
            have wtop : IntKind.i64.wrap (B + ((at_ : Nat) : Int)) = B + ((at_ : Nat) : Int) := IntWalk.i64_in _ (by have := HG.out; have := HKR.out.m24; omega)
            clear h10
            go_wp2_with fail
            refine HFR.out.mono ?_
            rintro r0 wA ⟨u1, rfl, rs, hrs, h3⟩
            rw [List.drop_zero, HKR.out.eq] at hrs
            have hrl : rs.length = at_ := by have := congrArg List.length hrs; rw [List.length_map, List.length_map, HKR.out.lo] at this; exact this
            obtain ⟨a1, c1, rfl, -⟩ := h3.enForm
            rw [hrl] at h3 ⊢
            have HSR := Lib.hid (samerow12 a1 none c1 oc at_ rs (ows.take at_) h3 (fun wx hx => hx.enS) (fun wx hx => hx.sw3.enS) hrl (by have := HKR.out.m24; omega) hrs.symm)
            clear HFR h3 hrs hrl
            go_wp2_with fail
            refine HSR.out.mono ?_
            rintro r0 wB ⟨rfl, h4⟩
            have HBA := Lib.hid (base_any (h4.pick [1, 2] rfl : Sep w [PipeT g B (qs.take at_), EnT (.slice none at_ oc) (ows.take at_)] _))
            clear HSR h4
            go_wp2_with fail
            refine HBA.out.mono ?_
            rintro r0 wC ⟨rfl, h5⟩
            have htp := top_any h5 (by have := HG.out; omega) (by have := HG.out; omega) (by rw [HKR.out.lq]; have := HKR.out.m24; omega)
            rw [HKR.out.lq] at htp
            have HTP := Lib.hid htp
            clear HBA h5 htp
            go_wp2_with fail
            refine HTP.out.mono ?_
            rintro r0 wD ⟨rfl, h6⟩
            have H6 := Lib.hid h6.sw2
            clear HTP h6
            go_wp2_with fail
            go_roundw
            case rel => exact ⟨k + 1, B, at_, none, oc, (ows.take at_), (qs.take at_), HG.out.1.1, HG.out.1.2, rfl, rfl, by go_num, by have := HG.out; omega, by have := HG.out; omega, HKR.out, H6.out⟩
            case measure => have := HG.out.1.2; simp [intOf]; omega
          · simp only [Value.slice.injEq] at he
            obtain ⟨rfl, hml, rfl⟩ := he
            have cc0 : (at_ : Int) ≤ (oc : Int) := by omega
            clear HFM hml hle
            go_wp2_with fail
            have HKR := Lib.hid hkr3
            have HFR := Lib.hid (from_ok B 0 (Nat.zero_le _) (by omega) (fun q hq => by rw [HKR.out.ln q hq]; simp) h10.sw2 (by have := HG.out; omega) (by have := HG.out; omega) (by rw [HKR.out.lq]; have := HKR.out.m24; omega))
            have wtop : IntKind.i64.wrap (B + ((at_ : Nat) : Int)) = B + ((at_ : Nat) : Int) := IntWalk.i64_in _ (by have := HG.out; have := HKR.out.m24; omega)
            clear h10
            go_wp2_with fail
            refine HFR.out.mono ?_
            rintro r0 wA ⟨u1, rfl, rs, hrs, h3⟩
            rw [List.drop_zero, HKR.out.eq] at hrs
            have hrl : rs.length = at_ := by have := congrArg List.length hrs; rw [List.length_map, List.length_map, HKR.out.lo] at this; exact this
            obtain ⟨a1, c1, rfl, -⟩ := h3.enForm
            rw [hrl] at h3 ⊢
            have HSR := Lib.hid (samerow12 a1 (some ⟨ob, 0, none⟩) c1 oc at_ rs (ows.take at_) h3 (fun wx hx => hx.enS) (fun wx hx => hx.sw3.enS) hrl (by have := HKR.out.m24; omega) hrs.symm)
            clear HFR h3 hrs hrl
            go_wp2_with fail
            refine HSR.out.mono ?_
            rintro r0 wB ⟨rfl, h4⟩
            have HBA := Lib.hid (base_any (h4.pick [1, 2] rfl : Sep w [PipeT g B (qs.take at_), EnT (.slice (some ⟨ob, 0, none⟩) at_ oc) (ows.take at_)] _))
            clear HSR h4
            go_wp2_with fail
            refine HBA.out.mono ?_
            rintro r0 wC ⟨rfl, h5⟩
            have htp := top_any h5 (by have := HG.out; omega) (by have := HG.out; omega) (by rw [HKR.out.lq]; have := HKR.out.m24; omega)
            rw [HKR.out.lq] at htp
            have HTP := Lib.hid htp
            clear HBA h5 htp
            go_wp2_with fail
            refine HTP.out.mono ?_
            rintro r0 wD ⟨rfl, h6⟩
            have H6 := Lib.hid h6.sw2
            clear HTP h6
            go_wp2_with fail
            go_roundw
            case rel => exact ⟨k + 1, B, at_, (some ⟨ob, 0, none⟩), oc, (ows.take at_), (qs.take at_), HG.out.1.1, HG.out.1.2, rfl, rfl, by go_num, by have := HG.out; omega, by have := HG.out; omega, HKR.out, H6.out⟩
            case measure => have := HG.out.1.2; simp [intOf]; omega
        · have e7 : decide ((r : Int) < 7) = false := decide_eq_false (by omega)
          have HC := Lib.hid (trim_ok (B + (at_ : Int)) at_ (by rw [HR.out.lq]; exact hatm) rfl HS.out.sw2 HG.out.2.1 (by have := HG.out; omega) (by rw [HR.out.lq]; omega))
          have HFM := Lib.hid HS.out.enForm2
          obtain ⟨m2, hm2⟩ : ∃ z, z = m - at_ := ⟨_, rfl⟩
          have hkr3 := HR.out.drop at_
          rw [← hm2] at hkr3
          have HK3 := Lib.hid hkr3
          have HM2 := Lib.hid hm2
          clear HS hr5 hr7 hkr3 hm2
          go_wp2_with fail
          refine HC.out.mono ?_
          rintro r0 w5 ⟨rfl, h5⟩
          clear HC hn8 hat wn8 wm1 wat hne hr wr8 hn8b
          have am : (at_ : Int) ≤ (m : Int) := by omega
          have hlit : Sep w [EnT (.slice (some ⟨w5.heap.size, 0, none⟩) 0 0) [], EnT (.slice oa m oc) ows, PipeT g (B + (at_ : Int)) (qs.drop at_)] (w5.alloc (.cells #[] 34)) :=
            (Sep.enClose (ps := []) ((h5.alloc (.cells #[] 34)).asRn0 7 0 rfl (by unfold maxLen; omega))).pick [0, 2, 1] rfl
          clear h5
          rcases HFM.out with ⟨he, hnil⟩ | ⟨ob, oc', he, hle, hmx⟩
          · simp only [Value.slice.injEq] at he
            obtain ⟨rfl, hm0, hoc0⟩ := he
            have hex : (Builtin.append_ #[35, 35] 35 #[.slice (some ⟨w5.heap.size, 0, none⟩) 0 0, .slice none (m - at_) (oc - at_)]).run Tryd.prog (w5.alloc (.cells #[] 34)) = .ok (.slice (some ⟨w5.heap.size, 0, none⟩) m2 0) (w5.alloc (.cells #[] 34)) := by
              rw [show m - at_ = 0 by omega, show oc - at_ = 0 by omega, show m2 = 0 by have := HM2.out; omega]
              obtain ⟨i, hi, he⟩ := Option.map_eq_some_iff.1 infoEn
              exact run_append_owned_none (P := Tryd.prog) _ w.heap.size 35 35 34 i 7 Tryd.underlying35 hi _ _ _ hlit.enOpen.rn
            have h10 : Sep w [EnT (.slice (some ⟨w5.heap.size, 0, none⟩) m2 0) (ows.drop at_), PipeT g (B + (at_ : Int)) (qs.drop at_)] (w5.alloc (.cells #[] 34)) := by
              rw [show m2 = 0 by have := HM2.out; omega, hnil, List.drop_nil]
              exact hlit.pick [0, 2] rfl
            have HEX := Lib.hid hex
            have ac : (at_ : Int) ≤ (oc : Int) := by omega
            clear HFM hm0 hoc0 hnil hlit hex
            go_wp2_with (at_builtin; refine wpList_append_run rfl _ _ _ _ rfl rfl rfl HEX.out ?_)
            clear HEX
            have HKR := Lib.hid HK3.out
            have HFR := Lib.hid (from_ok (B + (at_ : Int)) 0 (Nat.zero_le _) (by omega) (fun q hq => by rw [HKR.out.ln q hq]; simp) h10.sw2 (by have := HG.out; omega) (by have := HG.out; omega) (by rw [HKR.out.lq]; have := HKR.out.m24; omega))
            have wtop : IntKind.i64.wrap ((B + (at_ : Int)) + ((m2 : Nat) : Int)) = (B + (at_ : Int)) + ((m2 : Nat) : Int) := IntWalk.i64_in _ (by have := HG.out; have := HKR.out.m24; omega)
            clear h10
            go_wp2_with fail
            refine HFR.out.mono ?_
            rintro r0 wA ⟨u1, rfl, rs, hrs, h3⟩
            rw [List.drop_zero, HKR.out.eq] at hrs
            have hrl : rs.length = m2 := by have := congrArg List.length hrs; rw [List.length_map, List.length_map, HKR.out.lo] at this; exact this
            obtain ⟨a1, c1, rfl, -⟩ := h3.enForm
            rw [hrl] at h3 ⊢
            have HSR := Lib.hid (samerow12 a1 (some ⟨w5.heap.size, 0, none⟩) c1 0 m2 rs (ows.drop at_) h3 (fun wx hx => hx.enS) (fun wx hx => hx.sw3.enS) hrl (by have := HKR.out.m24; omega) hrs.symm)
            clear HFR h3 hrs hrl
            go_wp2_with fail
            refine HSR.out.mono ?_
            rintro r0 wB ⟨rfl, h4⟩
            have HBA := Lib.hid (base_any (h4.pick [1, 2] rfl : Sep w [PipeT g (B + (at_ : Int)) (qs.drop at_), EnT (.slice (some ⟨w5.heap.size, 0, none⟩) m2 0) (ows.drop at_)] _))
            clear HSR h4
            go_wp2_with fail
            refine HBA.out.mono ?_
            rintro r0 wC ⟨rfl, h5⟩
            have htp := top_any h5 (by have := HG.out; omega) (by have := HG.out; omega) (by rw [HKR.out.lq]; have := HKR.out.m24; omega)
            rw [HKR.out.lq] at htp
            have HTP := Lib.hid htp
            clear HBA h5 htp
            go_wp2_with fail
            refine HTP.out.mono ?_
            rintro r0 wD ⟨rfl, h6⟩
            have H6 := Lib.hid h6.sw2
            clear HTP h6
            go_wp2_with fail
            go_roundw
            case rel => exact ⟨k + 1, (B + (at_ : Int)), m2, (some ⟨w5.heap.size, 0, none⟩), 0, (ows.drop at_), (qs.drop at_), HG.out.1.1, HG.out.1.2, rfl, rfl, by go_num, by have := HG.out; omega, by have := HG.out; omega, HKR.out, H6.out⟩
            case measure => have := HG.out.1.2; simp [intOf]; omega
          · simp only [Value.slice.injEq] at he
            obtain ⟨rfl, hml, rfl⟩ := he
            by_cases hca : oc = at_
            · have hca2 : at_ = oc := hca.symm
              subst hca2
              obtain ⟨oa2, oc2, w6, hex, h10⟩ := own_tail (off := 0) (cc := 0) 35 hlit at_ (by omega) HR.out.lo (.inr (by rw [HR.out.lo] at hle; omega)) (by omega)
              have hex2 : (Builtin.append_ #[35, 35] 35 #[.slice (some ⟨w5.heap.size, 0, none⟩) 0 0, .slice (some ⟨ob, 0, none⟩) (m - at_) 0]).run Tryd.prog (w5.alloc (.cells #[] 34)) = .ok (.slice oa2 m2 oc2) w6 := by rw [HM2.out]; exact hex
              rw [← HM2.out] at h10
              have HEX := Lib.hid hex2
              clear HFM hml hle hmx hlit hex hex2 hca
              go_wp2_with (at_builtin; refine wpList_append_run rfl _ _ _ _ rfl rfl rfl HEX.out ?_)
              clear HEX
              have HKR := Lib.hid HK3.out
              have HFR := Lib.hid (from_ok (B + (at_ : Int)) 0 (Nat.zero_le _) (by omega) (fun q hq => by rw [HKR.out.ln q hq]; simp) h10.sw2 (by have := HG.out; omega) (by have := HG.out; omega) (by rw [HKR.out.lq]; have := HKR.out.m24; omega))
              have wtop : IntKind.i64.wrap ((B + (at_ : Int)) + ((m2 : Nat) : Int)) = (B + (at_ : Int)) + ((m2 : Nat) : Int) := IntWalk.i64_in _ (by have := HG.out; have := HKR.out.m24; omega)
              clear h10
              go_wp2_with fail
              refine HFR.out.mono ?_
              rintro r0 wA ⟨u1, rfl, rs, hrs, h3⟩
              rw [List.drop_zero, HKR.out.eq] at hrs
              have hrl : rs.length = m2 := by have := congrArg List.length hrs; rw [List.length_map, List.length_map, HKR.out.lo] at this; exact this
              obtain ⟨a1, c1, rfl, -⟩ := h3.enForm
              rw [hrl] at h3 ⊢
              have HSR := Lib.hid (samerow12 a1 oa2 c1 oc2 m2 rs (ows.drop at_) h3 (fun wx hx => hx.enS) (fun wx hx => hx.sw3.enS) hrl (by have := HKR.out.m24; omega) hrs.symm)
              clear HFR h3 hrs hrl
              go_wp2_with fail
              refine HSR.out.mono ?_
              rintro r0 wB ⟨rfl, h4⟩
              have HBA := Lib.hid (base_any (h4.pick [1, 2] rfl : Sep w [PipeT g (B + (at_ : Int)) (qs.drop at_), EnT (.slice oa2 m2 oc2) (ows.drop at_)] _))
              clear HSR h4
              go_wp2_with fail
              refine HBA.out.mono ?_
              rintro r0 wC ⟨rfl, h5⟩
              have htp := top_any h5 (by have := HG.out; omega) (by have := HG.out; omega) (by rw [HKR.out.lq]; have := HKR.out.m24; omega)
              rw [HKR.out.lq] at htp
              have HTP := Lib.hid htp
              clear HBA h5 htp
              go_wp2_with fail
              refine HTP.out.mono ?_
              rintro r0 wD ⟨rfl, h6⟩
              have H6 := Lib.hid h6.sw2
              clear HTP h6
              go_wp2_with fail
              go_roundw
              case rel => exact ⟨k + 1, (B + (at_ : Int)), m2, oa2, oc2, (ows.drop at_), (qs.drop at_), HG.out.1.1, HG.out.1.2, rfl, rfl, by go_num, by have := HG.out; omega, by have := HG.out; omega, HKR.out, H6.out⟩
              case measure => have := HG.out.1.2; simp [intOf]; omega
            · obtain ⟨oa2, oc2, w6, hex, h10⟩ := own_tail (off := at_ * 7) (cc := oc - at_) 35 hlit at_ (by omega) HR.out.lo (.inl rfl) (by omega)
              have hex2 : (Builtin.append_ #[35, 35] 35 #[.slice (some ⟨w5.heap.size, 0, none⟩) 0 0, .slice (some ⟨ob, at_ * 7, none⟩) (m - at_) (oc - at_)]).run Tryd.prog (w5.alloc (.cells #[] 34)) = .ok (.slice oa2 m2 oc2) w6 := by rw [HM2.out]; exact hex
              rw [← HM2.out] at h10
              have HEX := Lib.hid hex2
              clear HFM hml hle hmx hlit hex hex2
              go_wp2_with (at_builtin; refine wpList_append_run rfl _ _ _ _ rfl rfl rfl HEX.out ?_)
              clear HEX
              have HKR := Lib.hid HK3.out
              have HFR := Lib.hid (from_ok (B + (at_ : Int)) 0 (Nat.zero_le _) (by omega) (fun q hq => by rw [HKR.out.ln q hq]; simp) h10.sw2 (by have := HG.out; omega) (by have := HG.out; omega) (by rw [HKR.out.lq]; have := HKR.out.m24; omega))
              have wtop : IntKind.i64.wrap ((B + (at_ : Int)) + ((m2 : Nat) : Int)) = (B + (at_ : Int)) + ((m2 : Nat) : Int) := IntWalk.i64_in _ (by have := HG.out; have := HKR.out.m24; omega)
              clear h10
              go_wp2_with fail
              refine HFR.out.mono ?_
              rintro r0 wA ⟨u1, rfl, rs, hrs, h3⟩
              rw [List.drop_zero, HKR.out.eq] at hrs
              have hrl : rs.length = m2 := by have := congrArg List.length hrs; rw [List.length_map, List.length_map, HKR.out.lo] at this; exact this
              obtain ⟨a1, c1, rfl, -⟩ := h3.enForm
              rw [hrl] at h3 ⊢
              have HSR := Lib.hid (samerow12 a1 oa2 c1 oc2 m2 rs (ows.drop at_) h3 (fun wx hx => hx.enS) (fun wx hx => hx.sw3.enS) hrl (by have := HKR.out.m24; omega) hrs.symm)
              clear HFR h3 hrs hrl
              go_wp2_with fail
              refine HSR.out.mono ?_
              rintro r0 wB ⟨rfl, h4⟩
              have HBA := Lib.hid (base_any (h4.pick [1, 2] rfl : Sep w [PipeT g (B + (at_ : Int)) (qs.drop at_), EnT (.slice oa2 m2 oc2) (ows.drop at_)] _))
              clear HSR h4
              go_wp2_with fail
              refine HBA.out.mono ?_
              rintro r0 wC ⟨rfl, h5⟩
              have htp := top_any h5 (by have := HG.out; omega) (by have := HG.out; omega) (by rw [HKR.out.lq]; have := HKR.out.m24; omega)
              rw [HKR.out.lq] at htp
              have HTP := Lib.hid htp
              clear HBA h5 htp
              go_wp2_with fail
              refine HTP.out.mono ?_
              rintro r0 wD ⟨rfl, h6⟩
              have H6 := Lib.hid h6.sw2
              clear HTP h6
              go_wp2_with fail
              go_roundw
              case rel => exact ⟨k + 1, (B + (at_ : Int)), m2, oa2, oc2, (ows.drop at_), (qs.drop at_), HG.out.1.1, HG.out.1.2, rfl, rfl, by go_num, by have := HG.out; omega, by have := HG.out; omega, HKR.out, H6.out⟩
              case measure => have := HG.out.1.2; simp [intOf]; omega
    · have HW := Lib.hid (works12_any (Sep.start w) HK.out)
      have HE := Lib.hid hs.low
      clear hs hkr hB0 hB1
      by_cases hkl2 : k < l.length
      · have d0 : decide (k < l.length) = true := decide_eq_true hkl2
        have d1 : decide ((k : Int) < 60) = false := decide_eq_false (by omega)
        clear hgo hkl2 hkl hk60 HW
        go_wp2_with fail
        go_ret
        exact ⟨rfl, HE.out⟩
      · have d0 : decide (k < l.length) = false := decide_eq_false hkl2
        clear hgo hkl2 hkl hk60 HW
        go_wp2_with fail
        go_ret
        exact ⟨rfl, HE.out⟩
theorem keeps12_in (base : Int) (v : Value) (w : World) (h : RdC Tryd.prog w 51 [v]) (hk : KindsAt w) :
    Calls Tryd.prog 5 #[.int .i64 base, v] w fun e w' => e = .returned (.bool true) ∧ Below w.heap.size w w' := by
  obtain ⟨l, hv, -⟩ := h.ints64 Tryd.underlying51 Tryd.underlying3 (by kernel_rfl)
  exact keeps12 base v l w hv hk
end Go.Proofs.YtpknfeokfladkaaDoor
