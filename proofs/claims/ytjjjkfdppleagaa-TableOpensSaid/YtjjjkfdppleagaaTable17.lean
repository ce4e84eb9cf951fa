/- TableBack. -/
import Derived.Test.YtjjjkfdppleagaaTable15
import Derived.Test.YtjjjkfdppleagaaIntsI
import Derived.Test.YtjjjkfdppleagaaBkB
namespace Go.Proofs.Ytjjjkfdppleagaa
open Go Go.RowKit
set_option linter.unusedVariables false
set_option linter.unusedSimpArgs false
/-- Where a walk stops. -/
def Stop (p : Prop) : Prop := p
theorem stop {p : Prop} (h : Stop p) : p := h
/-- What a table of seats that may be is like. -/
structure TabI (T : List SW) : Prop where
  len : T.length = 8
  ok : ∀ i (hi : i < T.length), (T[i]).had = true → (T[i]).c = i ∧ clientOk (T[i]).c (T[i]).n (T[i]).o (T[i]).k (T[i]).a (T[i]).b = true
  free : ∀ i (hi : i < T.length), (T[i]).had = false → T[i] = SW.zero
theorem TabI.zero : TabI T0 := by
  refine ⟨rfl, fun i hi h => ?_, fun i hi h => ?_⟩
  · rw [show T0[i] = SW.zero from List.eq_of_mem_replicate (List.getElem_mem hi)] at h; cases h
  · exact List.eq_of_mem_replicate (List.getElem_mem hi)
theorem TabI.oks {T : List SW} (h : TabI T) : ∀ s ∈ seatsOf T, clientOk s.c s.n s.o s.k s.a s.b = true := fun s hs => by
  obtain ⟨h1, h2⟩ := List.mem_filter.1 hs
  obtain ⟨i, hi, rfl⟩ := List.getElem_of_mem h1
  exact (h.ok i hi h2).2
theorem TabI.put {T : List SW} (h : TabI T) (i : Nat) (hi : i < T.length) (s : SW) (hs : s.had = true) (hc : s.c = i) (ho : clientOk s.c s.n s.o s.k s.a s.b = true) : TabI (T.set i s) := by
  refine ⟨by rw [List.length_set]; exact h.len, fun j hj hh => ?_, fun j hj hh => ?_⟩
  · rw [List.getElem_set] at hh ⊢
    split
    · rename_i e; subst e; exact ⟨hc, ho⟩
    · rename_i e; rw [if_neg e] at hh; exact h.ok j (by simpa using hj) hh
  · rw [List.getElem_set] at hh ⊢
    split
    · rename_i e; rw [if_pos e] at hh; rw [hs] at hh; cases hh
    · rename_i e; rw [if_neg e] at hh; exact h.free j (by simpa using hj) hh
/-- What was put on a table Tf, the last one first, and how each seat was ahead, makes T. -/
def Hist (Tf : List SW) : List (Nat × SW) → List SW → Prop
  | [], T => T = Tf
  | (i, s) :: H, T => ∃ new, T[i]? = some new ∧ new.had = true ∧ precV s new = true ∧ Hist Tf H (T.set i s)
theorem Hist.put {Tf : List SW} {H : List (Nat × SW)} {T : List SW} (h : Hist Tf H T) (hI : TabI T) (i : Nat) (hi : i < T.length) (new : SW) (hn : new.had = true) (hc : new.c = i) (hlt : (T[i]).had = true → (T[i]).n < new.n) : Hist Tf ((i, T[i]) :: H) (T.set i new) := by
  refine ⟨new, by rw [List.getElem?_set_self hi], hn, ?_, ?_⟩
  · unfold precV
    cases hh : (T[i]).had with
    | true =>
      obtain ⟨h1, h2⟩ := hI.ok i hi hh
      rw [if_pos rfl, h2, Bool.true_and]
      exact decide_eq_true ⟨by rw [h1, hc], hlt hh⟩
    | false =>
      rw [if_neg (by simp), hI.free i hi hh]
      rfl
  · rw [List.set_set, List.set_getElem_self]
    exact h
def clsOf (F : List (Nat × SW)) : List Int := F.map fun p => (p.1 : Int)
def wasOf (F : List (Nat × SW)) : List Value := F.flatMap fun p => p.2.cells
theorem clsOf_app (F : List (Nat × SW)) (i : Nat) (s : SW) : clsOf F ++ [(i : Int)] = clsOf (F ++ [(i, s)]) := by unfold clsOf; rw [List.map_append]; rfl
theorem clsOf_len (F : List (Nat × SW)) : (clsOf F).length = F.length := by unfold clsOf; rw [List.length_map]
theorem wasOf_app (F : List (Nat × SW)) (i : Nat) (s : SW) : wasOf F ++ s.cells = wasOf (F ++ [(i, s)]) := by unfold wasOf; rw [List.flatMap_append]; simp
theorem wasOf_get : ∀ (F : List (Nat × SW)) (k : Nat) (hk : k < F.length) (j : Nat) (hj : j < 7), (wasOf F)[k * 7 + j]? = (F[k]).2.cells[j]?
  | p :: F, 0, _, j, hj => by
    unfold wasOf
    rw [List.flatMap_cons, List.getElem?_append_left (by simp [SW.cells]; omega), List.getElem_cons_zero]
    congr 1; omega
  | p :: F, k + 1, hk, j, hj => by
    have ih := wasOf_get F k (by simpa using hk) j hj
    unfold wasOf at ih ⊢
    rw [List.flatMap_cons, List.getElem?_append_right (by simp [SW.cells]; omega), List.getElem_cons_succ, ← ih]
    congr 1
    simp [SW.cells]; omega
/-- Ahead of where they are taken back from; and behind. -/
structure BkI (f k n : Nat) (T Tf : List SW) (F : List (Nat × SW)) (bs : List UInt8) : Prop where
  tab : TabI T
  many : F.length = n
  le : n ≤ k
  at_ : (k ≤ f ∧ F = [] ∧ bs = []) ∨ (f < k ∧ bs = tabBs Tf ∧ TabI Tf ∧ Hist Tf F.reverse T)
theorem BkI.tf {f k n : Nat} {T Tf : List SW} {F : List (Nat × SW)} {bs : List UInt8} (h : BkI f k n T Tf F bs) (hk : f < k) : bs = tabBs Tf ∧ TabI Tf ∧ Hist Tf F.reverse T := by
  rcases h.at_ with h1 | h1
  · omega
  · exact h1.2
theorem BkI.here {f n : Nat} {T Tf : List SW} {F : List (Nat × SW)} {bs : List UInt8} (h : BkI f f n T Tf F bs) : F = [] ∧ n = 0 ∧ bs = [] := by
  rcases h.at_ with h1 | h1
  · obtain ⟨-, rfl, rfl⟩ := h1; exact ⟨rfl, h.many.symm, rfl⟩
  · omega
/-- What the round ahead of the Put has made of it: P. -/
structure BkP (f k n : Nat) (T Tf : List SW) (F : List (Nat × SW)) (bs : List UInt8) : Prop where
  tab : TabI T
  many : F.length = n
  le : n ≤ k
  at_ : (k < f ∧ F = [] ∧ bs = []) ∨ (f ≤ k ∧ bs = tabBs Tf ∧ TabI Tf ∧ Hist Tf F.reverse T)
theorem BkI.off {f k n : Nat} {T Tf : List SW} {F : List (Nat × SW)} {bs : List UInt8} (h : BkI f k n T Tf F bs) (hk : k ≠ f) : BkP f k n T Tf F bs :=
  ⟨h.tab, h.many, h.le, by rcases h.at_ with h1 | h1; exact .inl ⟨by omega, h1.2⟩; exact .inr ⟨by omega, h1.2⟩⟩
theorem BkI.on {f n : Nat} {T Tf : List SW} {F : List (Nat × SW)} {bs : List UInt8} (h : BkI f f n T Tf F bs) : BkP f f n T T F (tabBs T) :=
  ⟨h.tab, h.many, h.le, .inr ⟨Nat.le_refl _, rfl, h.tab, by rw [h.here.1]; rfl⟩⟩
theorem BkP.skip {f k n : Nat} {T Tf : List SW} {F : List (Nat × SW)} {bs : List UInt8} (h : BkP f k n T Tf F bs) : BkI f (k + 1) n T Tf F bs :=
  ⟨h.tab, h.many, by have := h.le; omega, by rcases h.at_ with h1 | h1; exact .inl ⟨by omega, h1.2⟩; exact .inr ⟨by omega, h1.2⟩⟩
theorem BkP.early {f k n : Nat} {T Tf : List SW} {F : List (Nat × SW)} {bs : List UInt8} (h : BkP f k n T Tf F bs) (hk : k < f) (i : Nat) (hi : i < T.length) (s : SW) (hs : s.had = true) (hc : s.c = i) (ho : clientOk s.c s.n s.o s.k s.a s.b = true) : BkI f (k + 1) n (T.set i s) Tf F bs :=
  ⟨h.tab.put i hi s hs hc ho, h.many, by have := h.le; omega, by rcases h.at_ with h1 | h1; exact .inl ⟨by omega, h1.2⟩; omega⟩
theorem BkP.late {f k n : Nat} {T Tf : List SW} {F : List (Nat × SW)} {bs : List UInt8} (h : BkP f k n T Tf F bs) (hk : f ≤ k) (i : Nat) (hi : i < T.length) (s t : SW) (ht : T[i] = t) (hs : s.had = true) (hc : s.c = i) (ho : clientOk s.c s.n s.o s.k s.a s.b = true) (hlt : t.had = true → t.n < s.n) :
    BkI f (k + 1) (n + 1) (T.set i s) Tf (F ++ [(i, t)]) bs := by
  refine ⟨h.tab.put i hi s hs hc ho, by rw [List.length_append, h.many]; rfl, by have := h.le; omega, ?_⟩
  rcases h.at_ with h1 | h1
  · omega
  · refine .inr ⟨by omega, h1.2.1, h1.2.2.1, ?_⟩
    rw [List.reverse_append]
    have := h1.2.2.2.put h.tab i hi s hs hc (by rw [ht]; exact hlt)
    rw [ht] at this
    exact this
theorem judge_lt {T : List SW} {i : Nat} (hT : T.length = 8) (hi : i < 8) {s : SW} (hs : T[i]? = some s) {n : Int} (hj : judgeV T i n = 1) : s.had = true → s.n < n := fun hh => by
  rw [judge_had hT hi hs hh] at hj
  split at hj
  · assumption
  · split at hj <;> cases hj
theorem put_not {w0 w : World} {g : Nat} {T : List SW} {L : List Thing} (c n o k a b : Int) (h : Sep w0 (TabT g T :: L) w) (hT : T.length = 8) (hok : clientOk c n o k a b = true) (hj : judgeV T c n ≠ 1) :
    Calls Try.prog 18 #[.pointer (some ⟨g, 0, none⟩), .agg #[.int .i64 c, .int .i64 n, .int .i64 o, .int .i64 k, .int .i64 a, .int .i64 b]] w fun e w' => ∃ z : Int, e = .returned (.tuple #[.agg #[.bool false, .int .i64 0, .int .i64 0, .int .i64 0, .int .i64 0, .int .i64 0, .int .i64 0], .int .i64 z]) ∧ (z == 0) = false ∧ Sep w0 (TabT g T :: L) w' := by
  have h4 : judgeV T c n = 4 ∨ judgeV T c n = 2 ∨ judgeV T c n = 3 := by
    unfold judgeV at hj ⊢
    split <;> rename_i h1
    · rw [if_pos h1] at hj
      split <;> rename_i h2
      · rw [if_pos h2] at hj; exact absurd rfl hj
      · split
        · exact .inr (.inl rfl)
        · exact .inr (.inr rfl)
    · rw [if_neg h1] at hj
      split <;> rename_i h2
      · exact .inl rfl
      · rw [if_neg h2] at hj; exact absurd rfl hj
  rcases h4 with h4 | h4 | h4
  · exact (put_full c n o k a b h hT hok h4).mono fun e w' hh => ⟨5, hh.1, rfl, hh.2⟩
  · exact (put_same c n o k a b h hT hok h4).mono fun e w' hh => ⟨9, hh.1, rfl, hh.2⟩
  · exact (put_old c n o k a b h hT hok h4).mono fun e w' hh => ⟨9, hh.1, rfl, hh.2⟩
theorem BkP.out {f k n : Nat} {T Tf : List SW} {F : List (Nat × SW)} {bs : List UInt8} (h : BkP f k n T Tf F bs) (hk : f ≤ k) : bs = tabBs Tf ∧ TabI Tf ∧ Hist Tf F.reverse T := by
  rcases h.at_ with h1 | h1
  · omega
  · exact h1.2
theorem tabBs_len (T : List SW) : (tabBs T).length = 1 + ((seatsOf T).flatMap seatBs).length := by unfold tabBs; rw [List.length_append]; rfl
theorem infoWas : (Try.prog.info? 33).map (fun i => (i.size, decide (i.bytes ≤ 256), i.zero.map (·.cells.size))) = some (7, true, some 7) := by kernel_rfl
theorem append_was {w0 w : World} {ty : TypeId} {v : Value} {n b : Nat} {F : List (Nat × SW)} {L : List Thing} (s : SW) (h : Sep w0 (Cl b #[.bool s.had, .int .i64 s.c, .int .i64 s.n, .int .i64 s.o, .int .i64 s.k, .int .i64 s.a, .int .i64 s.b] 33 :: Rn 7 33 v n (wasOf F) :: L) w) (hn : n ≤ 1000000) :
    ∃ a c w', (Builtin.append_ #[66, 66] ty #[v, .slice (some ⟨b, 0, none⟩) 1 1]).run Try.prog w = .ok (.slice a (n + 1) c) w' ∧ Sep w0 (Rn 7 33 (.slice a (n + 1) c) (n + 1) (wasOf F ++ s.cells) :: L) w' := by
  obtain ⟨i, hi, he⟩ := Option.map_eq_some_iff.1 infoWas
  simp only [Prod.mk.injEq, decide_eq_true_eq] at he
  obtain ⟨z, hz, hz2⟩ := Option.map_eq_some_iff.1 he.2.2
  have hc : ∀ j u', s.cells[j]? = some u' → w.cell? ⟨b, 0 + j, none⟩ = some u' := fun j u' hj => by
    rw [Nat.zero_add]
    exact h.cell (by simpa [SW.cells] using hj)
  obtain ⟨v', w', hr, h2⟩ := append_rn (P := Try.prog) (ty := ty) (m := 1) (c := 1) Try.underlying66 hi hz he.1 he.2.1 hz2 (by decide) h.sw2 (news := s.cells) rfl hc (by
    intro y hy
    simp only [SW.cells, List.mem_cons, List.not_mem_nil, or_false] at hy
    rcases hy with rfl | rfl | rfl | rfl | rfl | rfl | rfl <;> rfl) (by omega)
  obtain ⟨a, c, rfl, -⟩ := h2.rnForm
  exact ⟨a, c, w', hr, h2.sw2.drop⟩
theorem buildW (w : World) (v0 v1 v2 v3 v4 v5 v6 : Value) :
    (Instr.buildSlice 66 1 #[(0, .agg #[v0, v1, v2, v3, v4, v5, v6])]).run Try.prog w = .ok (.slice (some ⟨w.heap.size, 0, none⟩) 1 1) (w.alloc (.cells #[v0, v1, v2, v3, v4, v5, v6] 33)) := by
  simp [go_sem]
theorem wpList_buildW {w : World} {ops : Array Oper} {rest : List Oper} {o : Oper} {a : Act} {Q : Exit → Act → World → Prop} (hgd : o.guard = none) (x : Operand)
    (ho : o.op = .buildSlice 66 1 #[(0, x)]) {v0 v1 v2 v3 v4 v5 v6 : Value} (hx : a.eval x = .agg #[v0, v1, v2, v3, v4, v5, v6])
    (h : wpList Try.prog ops Q rest (a.put o.dst (.slice (some ⟨w.heap.size, 0, none⟩) 1 1)) (w.alloc (.cells #[v0, v1, v2, v3, v4, v5, v6] 33))) : wpList Try.prog ops Q (o :: rest) a w := by
  refine wpList_plain hgd fun K hK => ?_
  unfold Oper.wp
  simp [execOp, ho, hx, buildW, Result.andThen]
  exact hK _ _ h
set_option maxRecDepth 100000 in
set_option maxHeartbeats 0 in
theorem back10_any (v : Value) (from_ : Int) (w : World) (h : RdC Try.prog w 45 [v]) :
    Calls Try.prog 6 #[v, .int .i64 from_] w fun e w' => e = .returned (.bool true) ∧ Below w.heap.size w w' := by
  obtain ⟨la, len, cap, rfl, hlc, hcm, hd⟩ := seats_of h
  have HD := Lib.hid hd
  have l0 : (0 : Int) ≤ (len : Int) := by omega
  obtain ⟨m, hml, hm4, hm, hmo⟩ := min_len len 40
  rw [show ((40 : Nat) : Int) = 40 from rfl] at hm
  have mc : (m : Int) ≤ (cap : Int) := by omega
  have m0 : (0 : Int) ≤ (m : Int) := by omega
  have m40 : (m : Int) ≤ 40 := by omega
  have HB := Lib.hid (fun wx => bring_any from_ ((m : Int) + 1) wx (by unfold Sm; omega))
  obtain ⟨f, hf, hfm⟩ : ∃ f : Nat, from_ % ((m : Int) + 1) = (f : Int) ∧ f ≤ m := ⟨(from_ % ((m : Int) + 1)).toNat, by have := Int.emod_nonneg from_ (b := (m : Int) + 1) (by omega); omega, by have h1 := Int.emod_nonneg from_ (b := (m : Int) + 1) (by omega); have h2 := Int.emod_lt_of_pos from_ (b := (m : Int) + 1) (by omega); omega⟩
  rw [hf] at HB
  have HL := Lib.hid (And.intro hml (And.intro hlc hcm))
  have HN := Lib.hid (tnew_any (Sep.start w))
  clear h hd hlc hcm hf hmo hml
  go_enter Try.func6, Try.ntmps6
  (try dsimp only); repeat' (first | go_values | go_skip | go_guarded | go_step | go_upon | go_back)
  refine HN.out.mono ?_
  rintro r0 w1 ⟨g, rfl, h1⟩
  have H1 := Lib.hid h1
  clear HN h1
  (try dsimp only); repeat' (first | go_values | go_skip | go_guarded | go_step | go_upon | go_back)
  refine (HB.out _).mono ?_
  rintro r0 w2 ⟨rfl, rfl⟩
  clear HB
  (try dsimp only); repeat' (first | go_values | go_skip | go_guarded | go_step | go_upon | go_back)
  go_loopw [6, 7, 8, 9] (fun cv wv bv_ i wr => ∃ (k n nb : Nat) (T Tf : List SW) (F : List (Nat × SW)) (bs : List UInt8) (a1 a2 a3 : Option Addr) (c1 c2 c3 : Nat), k ≤ m ∧ cv = .slice a1 n c1 ∧ wv = .slice a2 n c2 ∧ bv_ = .slice a3 nb c3 ∧ i = .int .i64 k ∧ bs.length = nb ∧ BkI f k n T Tf F bs ∧ Sep w [TabT g T, Is (.slice a1 n c1) (clsOf F), Rn 7 33 (.slice a2 n c2) n (wasOf F), By (.slice a3 nb c3) bs] wr) (fun _ _ _ i _ => 41 - (intOf i).toNat)
  case atStart =>
    have h2 := ((H1.out.rnil 5).rnNil 7 33).rnil 3
    exact ⟨0, 0, 0, T0, T0, [], [], none, none, none, 0, 0, 0, Nat.zero_le _, rfl, rfl, rfl, rfl, rfl, ⟨TabI.zero, rfl, Nat.le_refl _, .inl ⟨Nat.zero_le _, rfl, rfl⟩⟩, h2.pick [3, 0, 1, 2] rfl⟩
  case round =>
    obtain ⟨k, n, nb, T, Tf, F, bs, a1, a2, a3, c1, c2, c3, hkm, rfl, rfl, rfl, rfl, hnb, hb, hs⟩ := hrel
    clear H1
    have k0 : (0 : Int) ≤ (k : Int) := by omega
    have k40 : (k : Int) ≤ 40 := by omega
    have n0 : (0 : Int) ≤ (n : Int) := by omega
    have n40 : (n : Int) ≤ 40 := by have := hb.le; omega
    have d0 : decide (k ≤ len) = true := decide_eq_true (by have := HL.out; omega)
    have d00 : decide (k ≤ m) = true := decide_eq_true hkm
    have HNB := Lib.hid hnb
    have HBI := Lib.hid hb
    have HKM := Lib.hid hkm
    clear hb hnb hkm
    by_cases hkf : k = f
    · have e1 : ((k : Int) == (f : Int)) = true := beq_iff_eq.2 (by omega)
      have HTB := Lib.hid (tbytes_any hs HBI.out.tab.len HBI.out.tab.oks)
      subst hkf
      have HP : Hid (BkP k k n T T F (tabBs T)) := Lib.hid HBI.out.on
      clear hs HBI HNB
      (try dsimp only); repeat' (first | go_values | go_skip | go_guarded | go_step | go_upon | go_back)
      refine HTB.out.mono ?_
      rintro r0 w3 ⟨u, rfl, h3⟩
      obtain ⟨ax, cx, rfl⟩ := h3.sl.len
      obtain ⟨nx, hnx⟩ : ∃ z, z = (bv (tabBs T)).length := ⟨_, rfl⟩
      rw [← hnx] at h3 ⊢
      have HNB : Hid ((tabBs T).length = nx) := Lib.hid (by rw [hnx, bv_length])
      have hsq : Sep w [TabT g T, Is (.slice a1 n c1) (clsOf F), Rn 7 33 (.slice a2 n c2) n (wasOf F), By (.slice ax nx cx) (tabBs T)] w3 := h3.pick [1, 2, 3, 0] rfl
      have HS := Lib.hid hsq
      clear hsq

      clear HTB h3 hnx e1
      by_cases hm9 : k = m
      · have e2 : ((k : Int) == (m : Int)) = true := beq_iff_eq.2 (by omega)
        as_aux_lemma =>
          subst hm9
          have HO := Lib.hid (HP.out.out (by omega))
          (try dsimp only); repeat' (first | go_values | go_skip | go_guarded | go_step | go_upon | go_back)
          go_loopw [13] (fun j wr => ∃ (q : Nat) (Y : List SW), q ≤ n ∧ j = .int .i64 ((q : Int) - 1) ∧ Y.length = 8 ∧ Hist T (F.take q).reverse Y ∧ Sep w [TabT g Y, Is (.slice a1 n c1) (clsOf F), Rn 7 33 (.slice a2 n c2) n (wasOf F), By (.slice ax nx cx) (tabBs T)] wr) (fun j _ => (intOf j + 1).toNat)
          case atStart => exact ⟨n, T, Nat.le_refl _, rfl, HP.out.tab.len, by rw [List.take_of_length_le (by rw [HP.out.many]; exact Nat.le_refl _)]; exact HO.out.2.2, HS.out⟩
          case round =>
            obtain ⟨q, Y, hqn, rfl, hY, hh, hs2⟩ := hrel
            clear HS
            cases q with
            | zero =>
              have hYT : Y = T := hh
              rw [hYT] at hs2
              have HTB := Lib.hid (tbytes_any hs2 HO.out.2.1.len HO.out.2.1.oks)
              rw [show (((0 : Nat) : Int) - 1) = -1 from rfl]
              have nx0 : decide (0 < nx) = true := decide_eq_true (by have h9 := HNB.out; rw [HO.out.1, tabBs_len] at h9; omega)
              have nx1 : decide ((0 : Int) < (nx : Int)) = true := decide_eq_true (by have h9 := of_decide_eq_true nx0; omega)
              clear hh hs2 hY hYT hqn
              (try dsimp only); repeat' (first | go_values | go_skip | go_guarded | go_step | go_upon | go_back)
              refine HTB.out.mono ?_
              rintro r8 w8 ⟨u8, rfl, h8⟩
              have HE := Lib.hid (eqBytes_any _ _ _ _ _ h8.sl (h8.pick [4] rfl : Sep w [By (.slice ax nx cx) (tabBs T)] _).sl)
              rw [← HO.out.1, beq_self_eq_true] at HE
              have HW := Lib.hid (works10_any h8)
              clear HTB h8
              (try dsimp only); repeat' (first | go_values | go_skip | go_guarded | go_step | go_upon | go_back)
              refine HE.out.mono ?_
              rintro r9 w9 ⟨rfl, rfl⟩
              clear HE
              (try dsimp only); repeat' (first | go_values | go_skip | go_guarded | go_step | go_upon | go_back)
              refine HW.out.mono ?_
              rintro r9 w9 ⟨rfl, h9⟩
              have HZ := Lib.hid h9.low
              clear HW h9
              (try dsimp only); repeat' (first | go_values | go_skip | go_guarded | go_step | go_upon | go_back)
              go_ret
              exact ⟨rfl, HZ.out⟩
            | succ p =>
              have e3 : (((p + 1 : Nat) : Int) - 1) = (p : Int) := by omega
              rw [e3]
              have hp : p < F.length := by rw [HP.out.many]; omega
              have htk : (F.take (p + 1)).reverse = F[p] :: (F.take p).reverse := by rw [List.take_succ_eq_append_getElem hp, List.reverse_append]; rfl
              rw [htk] at hh
              obtain ⟨⟨i, s⟩, hfp⟩ : ∃ z, z = F[p] := ⟨_, rfl⟩
              rw [← hfp] at hh
              obtain ⟨new, hn1, hn2, hn3, hn4⟩ := hh
              have HBK := Lib.hid (back_ok i new hn1 hn2 s hs2.drew hY hn3)
              obtain ⟨b1, c1', hv1, -, -, hx, -⟩ := (hs2.pick [1] rfl : Sep w [Is (.slice a1 n c1) (clsOf F)] _).rowForm (by rw [iv_length, clsOf_len]; omega)
              simp only [Value.slice.injEq] at hv1
              obtain ⟨rfl, -, -⟩ := hv1
              obtain ⟨a2', c2', hv2, -, -, -, hy⟩ := (hs2.pick [2] rfl : Sep w [Rn 7 33 (.slice a2 n c2) n (wasOf F)] _).rnForm
              obtain ⟨b2, hab, -, hy⟩ := hy (by omega)
              simp only [Value.slice.injEq] at hv2
              rw [← hv2.1] at hab
              subst hab
              have hpI : p < (iv .i64 (clsOf F)).length := by rw [iv_length, clsOf_len]; exact hp
              have x0 := hx p hpI
              rw [show (iv .i64 (clsOf F))[p]'hpI = Value.int .i64 (i : Int) by simp [iv, clsOf, ← hfp]] at x0
              have hyj : ∀ j v, j < 7 → s.cells[j]? = some v → wr.cell? ⟨b2, p * 7 + j, none⟩ = some v := fun j v hj hv => by
                have h9 := wasOf_get F p hp j hj
                rw [← hfp, hv] at h9
                obtain ⟨h7, h8⟩ := List.getElem?_eq_some_iff.1 h9
                rw [hy _ h7, h8]
              have y0 := hyj 0 _ (by omega) rfl
              have y1 := hyj 1 _ (by omega) rfl
              have y2 := hyj 2 _ (by omega) rfl
              have y3 := hyj 3 _ (by omega) rfl
              have y4 := hyj 4 _ (by omega) rfl
              have y5 := hyj 5 _ (by omega) rfl
              have y6 := hyj 6 _ (by omega) rfl
              rw [Nat.add_zero] at y0
              have p0 : (0 : Int) ≤ (p : Int) := by omega
              have p40 : (p : Int) ≤ 40 := by omega
              have pn : (p : Int) < (n : Int) := by omega
              have HH := Lib.hid (And.intro hqn hn4)
              have HYL := Lib.hid hY
              clear hs2 hY hp htk hfp hn1 hn2 hn3 hn4 hx hy hyj hpI hv2 hqn
              (try dsimp only); repeat' (first | go_values | go_skip | go_guarded | go_step | go_upon | go_back)
              refine wp_region_G (fun w' => w'.cell? ⟨b1, p, none⟩ = some (.int .i64 (i : Int)) ∧ w'.cell? ⟨b2, p * 7, none⟩ = some (.bool s.had) ∧ w'.cell? ⟨b2, p * 7 + 1, none⟩ = some (.int .i64 s.c) ∧ w'.cell? ⟨b2, p * 7 + 2, none⟩ = some (.int .i64 s.n) ∧ w'.cell? ⟨b2, p * 7 + 3, none⟩ = some (.int .i64 s.o) ∧ w'.cell? ⟨b2, p * 7 + 4, none⟩ = some (.int .i64 s.k) ∧ w'.cell? ⟨b2, p * 7 + 5, none⟩ = some (.int .i64 s.a) ∧ w'.cell? ⟨b2, p * 7 + 6, none⟩ = some (.int .i64 s.b)) [9, 10] (by kernel_rfl) ⟨x0, y0, y1, y2, y3, y4, y5, y6⟩ (fun hS => ?_)
              try dsimp only at hS
              refine wpAnyG_take' (i := 0) (v := ?v0_1r1) rfl (by kernel_rfl) (by kernel_rfl) (by kernel_rfl) (by kernel_rfl) (fun _ _ _ h => h) (Or.inl ⟨by rfl, ?hy0_1r1⟩) hS ?rest0_1r1
              case hy0_1r1 => intro w hSw; (try dsimp only at hSw); go_simp; (try with_reducible rfl)
              case rest0_1r1 =>
              try simp only [List.getElem_toArray, List.getElem_cons_succ, List.getElem_cons_zero, Act.put, List.setIfInBounds_toArray, List.set_cons_zero, List.set_cons_succ]
              refine wpAnyG_take' (i := 1) (v := ?v1_2r1) rfl (by kernel_rfl) (by kernel_rfl) (by kernel_rfl) (by kernel_rfl) (fun _ _ _ h => h) (Or.inl ⟨by rfl, ?hy1_2r1⟩) hS ?rest1_2r1
              case hy1_2r1 => intro w hSw; (try dsimp only at hSw); go_simp; (try with_reducible rfl)
              case rest1_2r1 =>
              try simp only [List.getElem_toArray, List.getElem_cons_succ, List.getElem_cons_zero, Act.put, List.setIfInBounds_toArray, List.set_cons_zero, List.set_cons_succ]
              refine wpAnyG_take' (i := 2) (v := ?v2_3r1) rfl (by kernel_rfl) (by kernel_rfl) (by kernel_rfl) (by kernel_rfl) (fun _ _ _ h => h) (Or.inl ⟨by rfl, ?hy2_3r1⟩) hS ?rest2_3r1
              case hy2_3r1 => intro w hSw; (try dsimp only at hSw); go_simp; (try with_reducible rfl)
              case rest2_3r1 =>
              try simp only [List.getElem_toArray, List.getElem_cons_succ, List.getElem_cons_zero, Act.put, List.setIfInBounds_toArray, List.set_cons_zero, List.set_cons_succ]
              refine wpAnyG_take' (i := 3) (v := ?v3_4r1) rfl (by kernel_rfl) (by kernel_rfl) (by kernel_rfl) (by kernel_rfl) (fun _ _ _ h => h) (Or.inl ⟨by rfl, ?hy3_4r1⟩) hS ?rest3_4r1
              case hy3_4r1 => intro w hSw; (try dsimp only at hSw); go_simp; (try with_reducible rfl)
              case rest3_4r1 =>
              try simp only [List.getElem_toArray, List.getElem_cons_succ, List.getElem_cons_zero, Act.put, List.setIfInBounds_toArray, List.set_cons_zero, List.set_cons_succ]
              refine wpAnyG_take' (i := 4) (v := ?v4_5r1) rfl (by kernel_rfl) (by kernel_rfl) (by kernel_rfl) (by kernel_rfl) (fun _ _ _ h => h) (Or.inl ⟨by rfl, ?hy4_5r1⟩) hS ?rest4_5r1
              case hy4_5r1 => intro w hSw; (try dsimp only at hSw); go_simp; (try with_reducible rfl)
              case rest4_5r1 =>
              try simp only [List.getElem_toArray, List.getElem_cons_succ, List.getElem_cons_zero, Act.put, List.setIfInBounds_toArray, List.set_cons_zero, List.set_cons_succ]
              refine wpAnyG_take' (i := 5) (v := ?v5_6r1) rfl (by kernel_rfl) (by kernel_rfl) (by kernel_rfl) (by kernel_rfl) (fun _ _ _ h => h) (Or.inl ⟨by rfl, ?hy5_6r1⟩) hS ?rest5_6r1
              case hy5_6r1 => intro w hSw; (try dsimp only at hSw); go_simp; (try with_reducible rfl)
              case rest5_6r1 =>
              try simp only [List.getElem_toArray, List.getElem_cons_succ, List.getElem_cons_zero, Act.put, List.setIfInBounds_toArray, List.set_cons_zero, List.set_cons_succ]
              refine wpAnyG_take' (i := 6) (v := ?v6_7r1) rfl (by kernel_rfl) (by kernel_rfl) (by kernel_rfl) (by kernel_rfl) (fun _ _ _ h => h) (Or.inl ⟨by rfl, ?hy6_7r1⟩) hS ?rest6_7r1
              case hy6_7r1 => intro w hSw; (try dsimp only at hSw); go_simp; (try with_reducible rfl)
              case rest6_7r1 =>
              try simp only [List.getElem_toArray, List.getElem_cons_succ, List.getElem_cons_zero, Act.put, List.setIfInBounds_toArray, List.set_cons_zero, List.set_cons_succ]
              refine wpAnyG_take' (i := 7) (v := ?v7_8r1) rfl (by kernel_rfl) (by kernel_rfl) (by kernel_rfl) (by kernel_rfl) (fun _ _ _ h => h) (Or.inl ⟨by rfl, ?hy7_8r1⟩) hS ?rest7_8r1
              case hy7_8r1 => intro w hSw; (try dsimp only at hSw); go_simp; (try with_reducible rfl)
              case rest7_8r1 =>
              try simp only [List.getElem_toArray, List.getElem_cons_succ, List.getElem_cons_zero, Act.put, List.setIfInBounds_toArray, List.set_cons_zero, List.set_cons_succ]
              refine wpAnyG_take' (i := 8) (v := ?v8_9r1) rfl (by kernel_rfl) (by kernel_rfl) (by kernel_rfl) (by kernel_rfl) (fun _ _ _ h => h) (Or.inl ⟨by rfl, ?hy8_9r1⟩) hS ?rest8_9r1
              case hy8_9r1 => intro w hSw; (try dsimp only at hSw); go_simp; (try with_reducible rfl)
              case rest8_9r1 =>
              try simp only [List.getElem_toArray, List.getElem_cons_succ, List.getElem_cons_zero, Act.put, List.setIfInBounds_toArray, List.set_cons_zero, List.set_cons_succ]
              refine wpAnyG_one (i := 9) (by kernel_rfl) rfl (fun K hK => ?_)
              go_simp
              refine Calls.mono HBK.out ?_
              rintro r9 w9 ⟨rfl, h9⟩
              clear x0 y0 y1 y2 y3 y4 y5 y6 HBK
              have H9 := Lib.hid h9
              clear h9
              (try dsimp only); repeat' (first | go_values | go_skip | go_guarded | go_step | go_upon | go_back)
              refine hK.out _ _ (fun hno => by cases hno) ?_
              clear K hK
              try simp only [List.getElem_toArray, List.getElem_cons_succ, List.getElem_cons_zero, Act.put, List.setIfInBounds_toArray, List.set_cons_zero, List.set_cons_succ]
              refine wpAnyG_one (i := 10) (by kernel_rfl) rfl (fun K hK => ?_)
              go_simp
              refine hK.out _ _ (fun hno => by cases hno) ?_
              clear K hK
              try simp only [List.getElem_toArray, List.getElem_cons_succ, List.getElem_cons_zero, Act.put, List.setIfInBounds_toArray, List.set_cons_zero, List.set_cons_succ]
              refine wpAnyG_done (by kernel_rfl) ?_ _
              try simp only [List.getElem_toArray, List.getElem_cons_succ, List.getElem_cons_zero, Act.put, List.setIfInBounds_toArray, List.set_cons_zero, List.set_cons_succ]
              (try dsimp only); repeat' (first | go_values | go_skip | go_guarded | go_step | go_upon | go_back)
              go_roundw
              case rel => exact ⟨p, Y.set i s, by have := HH.out.1; omega, by first | rfl | go_num, by rw [List.length_set]; exact HYL.out, HH.out.2, H9.out⟩
              case measure => first | (simp [intOf]; done) | (simp [intOf]; omega)
      · have e2 : ((k : Int) == (m : Int)) = false := beq_eq_false_iff_ne.2 (by omega)
        as_aux_lemma =>

          have hkl : k < len := by have := HL.out; have := HKM.out; omega
          have d3 : decide (k < len) = true := decide_eq_true hkl
          have kl : (k : Int) < (m : Int) := by have := HKM.out; omega
          obtain ⟨b, off, rfl, hbl, xc, xn, xo, xk, xa, xb, hat⟩ := HD.out k hkl
          have q : ∀ j z, [.int .i64 xc, .int .i64 xn, .int .i64 xo, .int .i64 xk, .int .i64 xa, .int .i64 xb][j]? = some z → ∀ wx, Below w.heap.size w wx → wx.cell? ⟨b, off + k * 6 + j, none⟩ = some z := fun j z hj wx hb => (hb.cell (p := ⟨b, off + k * 6 + j, none⟩) hbl).trans (hat j z hj)
          have e10 := q 0 _ rfl _ HS.out.low
          have e11 := q 1 _ rfl _ HS.out.low
          have e12 := q 2 _ rfl _ HS.out.low
          have e13 := q 3 _ rfl _ HS.out.low
          have e14 := q 4 _ rfl _ HS.out.low
          have e15 := q 5 _ rfl _ HS.out.low
          simp only [Nat.add_zero] at e10
          have hmd := made10_any xc xn xo xk xa xb HS.out
          obtain ⟨i, hi, hi8⟩ : ∃ i : Nat, xc % 8 = (i : Int) ∧ i < 8 := ⟨(xc % 8).toNat, by omega, by omega⟩
          obtain ⟨num, hn0, hn1, hn2⟩ : ∃ z : Int, 1 + xn % 2147483647 = z ∧ 1 ≤ z ∧ z ≤ 2147483647 := ⟨_, rfl, by omega, by omega⟩
          obtain ⟨so, hso, so1, so2⟩ : ∃ z : Int, 1 + xo % 1125899906842624 = z ∧ 1 ≤ z ∧ z ≤ 1125899906842624 := ⟨_, rfl, by omega, by omega⟩
          obtain ⟨sk, hsk, sk1, sk2⟩ : ∃ z : Int, xk % 7 = z ∧ 0 ≤ z ∧ z ≤ 6 := ⟨_, rfl, by omega, by omega⟩
          obtain ⟨sa, hsa, sa1, sa2⟩ : ∃ z : Int, xa % 2147483647 = z ∧ 0 ≤ z ∧ z ≤ 2147483646 := ⟨_, rfl, by omega, by omega⟩
          obtain ⟨sb, hsb, sb1, sb2⟩ : ∃ z : Int, xb % 2147483647 = z ∧ 0 ≤ z ∧ z ≤ 2147483646 := ⟨_, rfl, by omega, by omega⟩
          rw [hi, hn0, hso, hsk, hsa, hsb] at hmd
          have HM := Lib.hid hmd
          have HC : Hid (clientOk i num so sk sa sb = true) := Lib.hid (by
            unfold clientOk clientB resB
            simp
            omega)
          have HIL : Hid (i < T.length) := Lib.hid (by rw [HP.out.tab.len]; exact hi8)
          have HI8 := Lib.hid hi8
          clear hat q hmd hi hn0 hso so1 so2 hsk sk1 sk2 hsa sa1 sa2 hsb sb1 sb2 hkl HS hn1 hn2 hi8 HD
          (try dsimp only); repeat' (first | go_values | go_skip | go_guarded | go_step | go_upon | go_back)
          refine HM.out.mono ?_
          rintro r0 w4 ⟨rfl, h4⟩
          obtain ⟨s, hsq⟩ : ∃ s, s = T[i]'HIL.out := ⟨_, rfl⟩
          have HSQ : Hid (T[i]? = some s) := Lib.hid (by rw [hsq]; exact List.getElem?_eq_getElem HIL.out)
          have HSE := Lib.hid hsq.symm
          clear HM e10 e11 e12 e13 e14 e15 hsq
          have h5 := h4.alloc (.cells #[.int .i64 i, .int .i64 num, .int .i64 so, .int .i64 sk, .int .i64 sa, .int .i64 sb] 31)
          have h5 : Sep w [TabT g T, Cl _ #[.int .i64 i, .int .i64 num, .int .i64 so, .int .i64 sk, .int .i64 sa, .int .i64 sb] 31, Is (.slice a1 n c1) (clsOf F), Rn 7 33 (.slice a2 n c2) n (wasOf F), By (.slice ax nx cx) (tabBs T)] _ := h5.pick [1, 0, 2, 3, 4] rfl
          by_cases hj : judgeV T i num = 1
          · have HPT := Lib.hid (put_new i num so sk sa sb h5 HP.out.tab.len s HSQ.out HC.out hj)
            have HJ := Lib.hid hj
            obtain ⟨b7, hb7⟩ : ∃ z, z = w4.heap.size := ⟨_, rfl⟩
            obtain ⟨w5, hw5⟩ : ∃ z, z = w4.alloc (.cells #[.int .i64 i, .int .i64 num, .int .i64 so, .int .i64 sk, .int .i64 sa, .int .i64 sb] 31) := ⟨_, rfl⟩
            clear h4 h5 hj
            (try dsimp only); repeat' (first | go_values | go_skip | go_guarded | go_step | go_upon | go_back)
            rw [← hw5, ← hb7]
            rw [← hw5, ← hb7] at HPT
            clear hw5 hb7
            refine HPT.out.mono ?_
            rintro r1 w6 ⟨rfl, h6⟩
            have h7 := h6.alloc (.cells #[.bool s.had, .int .i64 s.c, .int .i64 s.n, .int .i64 s.o, .int .i64 s.k, .int .i64 s.a, .int .i64 s.b] 33)
            obtain ⟨b8, hb8⟩ : ∃ z, z = w6.heap.size := ⟨_, rfl⟩
            obtain ⟨w7, hw7⟩ : ∃ z, z = w6.alloc (.cells #[.bool s.had, .int .i64 s.c, .int .i64 s.n, .int .i64 s.o, .int .i64 s.k, .int .i64 s.a, .int .i64 s.b] 33) := ⟨_, rfl⟩
            rw [← hb8, ← hw7] at h7
            clear h6 HPT
            have d4 : decide (k ≤ k) = true := decide_eq_true (by omega)
            have d5 : decide ((k : Int) ≤ (k : Int)) = true := decide_eq_true (by omega)
            subst hw7 hb8
            obtain ⟨z0, z1, z2, z3, z4, z5⟩ := cells6z (h7.pick [2] rfl : Sep w [Cl b7 _ _] _)
            have h8 := h7.alloc (.cells #[.int .i64 (i : Int)] 3)
            have hx8 : Sl _ (.slice (some ⟨_, 0, none⟩) 1 1) (iv .i64 [(i : Int)]) := (h8.asRow 1 rfl (by unfold maxLen; omega)).sl
            have h8q : Sep w [Is (.slice a1 n c1) (clsOf F), Cl w6.heap.size #[.bool s.had, .int .i64 s.c, .int .i64 s.n, .int .i64 s.o, .int .i64 s.k, .int .i64 s.a, .int .i64 s.b] 33, TabT g (T.set i ⟨true, i, num, so, sk, sa, sb⟩), Cl b7 #[.int .i64 i, .int .i64 num, .int .i64 so, .int .i64 sk, .int .i64 sa, .int .i64 sb] 31, Rn 7 33 (.slice a2 n c2) n (wasOf F), By (.slice ax nx cx) (tabBs T)] _ := h8.pick [4, 1, 2, 3, 5, 6] rfl
            obtain ⟨v1, w9, hr9, h9, -⟩ := appI (ty := 65) h8q hx8 (by rw [clsOf_len, HP.out.many]; simp; omega)
            obtain ⟨n2, hn2⟩ : ∃ z, z = n + 1 := ⟨_, rfl⟩
            obtain ⟨a4, c4, rfl⟩ := h9.sl.len
            rw [clsOf_app F i s, iv_length, clsOf_len, List.length_append, HP.out.many, show n + [(i, s)].length = n2 by rw [hn2]; rfl] at h9
            rw [clsOf_app F i s, iv_length, clsOf_len, List.length_append, HP.out.many, show n + [(i, s)].length = n2 by rw [hn2]; rfl] at hr9
            rw [World.size_alloc] at hr9
            have HR9 := Lib.hid hr9
            obtain ⟨u0, u1, u2, u3, u4, u5, u6⟩ := cells7z (h9.pick [1] rfl : Sep w [Cl w6.heap.size _ _] _)
            have h10 := h9.alloc (.cells #[.bool s.had, .int .i64 s.c, .int .i64 s.n, .int .i64 s.o, .int .i64 s.k, .int .i64 s.a, .int .i64 s.b] 33)
            have h10q : Sep w [Cl w9.heap.size #[.bool s.had, .int .i64 s.c, .int .i64 s.n, .int .i64 s.o, .int .i64 s.k, .int .i64 s.a, .int .i64 s.b] 33, Rn 7 33 (.slice a2 n c2) n (wasOf F), Is (.slice a4 n2 c4) (clsOf (F ++ [(i, s)])), Cl w6.heap.size #[.bool s.had, .int .i64 s.c, .int .i64 s.n, .int .i64 s.o, .int .i64 s.k, .int .i64 s.a, .int .i64 s.b] 33, TabT g (T.set i ⟨true, i, num, so, sk, sa, sb⟩), Cl b7 #[.int .i64 i, .int .i64 num, .int .i64 so, .int .i64 sk, .int .i64 sa, .int .i64 sb] 31, By (.slice ax nx cx) (tabBs T)] _ := h10.pick [0, 5, 1, 2, 3, 4, 6] rfl
            obtain ⟨a5, c5, w10, hr10, h11⟩ := append_was (ty := 66) s h10q (by omega)
            rw [wasOf_app F i s, ← hn2] at h11
            rw [← hn2] at hr10
            have HR10 := Lib.hid hr10
            have h11q : Sep w [TabT g (T.set i ⟨true, i, num, so, sk, sa, sb⟩), Is (.slice a4 n2 c4) (clsOf (F ++ [(i, s)])), Rn 7 33 (.slice a5 n2 c5) n2 (wasOf (F ++ [(i, s)])), By (.slice ax nx cx) (tabBs T)] _ := h11.pick [3, 1, 0, 5] rfl
            have H11 := Lib.hid h11q
            clear h11q

            have HN2 := Lib.hid hn2
            clear h7 h8 h8q hx8 h9 h10 h10q h11 hr9 hr10 hn2
            (try dsimp only); repeat' (first | (at_builtin; refine stop ?_) | (refine wpList_buildW rfl _ rfl rfl ?_) | go_values | go_skip | go_guarded | go_step | go_upon | go_back)
            unfold Stop
            refine wpList_append_run rfl _ _ _ _ rfl rfl rfl HR9.out ?_
            clear HR9 z0 z1 z2 z3 z4 z5
            (try dsimp only); repeat' (first | (at_builtin; refine stop ?_) | (refine wpList_buildW rfl _ rfl rfl ?_) | go_values | go_skip | go_guarded | go_step | go_upon | go_back)
            unfold Stop
            refine wpList_append_run rfl _ _ _ _ rfl rfl rfl HR10.out ?_
            clear HR10 u0 u1 u2 u3 u4 u5 u6
            (try dsimp only); repeat' (first | go_values | go_skip | go_guarded | go_step | go_upon | go_back)
            go_roundw
            case rel => exact ⟨k + 1, n2, nx, _, T, F ++ [(i, s)], (tabBs T), a4, a5, ax, c4, c5, cx, by have := HKM.out; omega, rfl, rfl, rfl, by go_num, HNB.out, by rw [HN2.out]; exact HP.out.late (by omega) i HIL.out ⟨true, i, num, so, sk, sa, sb⟩ s HSE.out rfl rfl HC.out (judge_lt HP.out.tab.len HI8.out HSQ.out HJ.out), H11.out⟩
            case measure => have := HKM.out; simp [intOf]; omega
          · have HPT := Lib.hid (put_not i num so sk sa sb h5 HP.out.tab.len HC.out hj)
            obtain ⟨b7, hb7⟩ : ∃ z, z = w4.heap.size := ⟨_, rfl⟩
            obtain ⟨w5, hw5⟩ : ∃ z, z = w4.alloc (.cells #[.int .i64 i, .int .i64 num, .int .i64 so, .int .i64 sk, .int .i64 sa, .int .i64 sb] 31) := ⟨_, rfl⟩
            clear h4 h5 hj
            (try dsimp only); repeat' (first | go_values | go_skip | go_guarded | go_step | go_upon | go_back)
            rw [← hw5, ← hb7]
            rw [← hw5, ← hb7] at HPT
            clear hw5 hb7
            refine HPT.out.mono ?_
            rintro r1 w6 ⟨z, rfl, hz, h6⟩
            have h7 := h6.alloc (.cells #[.bool false, .int .i64 0, .int .i64 0, .int .i64 0, .int .i64 0, .int .i64 0, .int .i64 0] 33)
            have h8q : Sep w [TabT g T, Is (.slice a1 n c1) (clsOf F), Rn 7 33 (.slice a2 n c2) n (wasOf F), By (.slice ax nx cx) (tabBs T)] _ := h7.pick [1, 3, 4, 5] rfl
            have H8 := Lib.hid h8q
            clear h8q

            clear h6 h7 HPT
            (try dsimp only); repeat' (first | go_values | go_skip | go_guarded | go_step | go_upon | go_back)
            go_roundw
            case rel => exact ⟨k + 1, n, nx, T, T, F, (tabBs T), a1, a2, ax, c1, c2, cx, by have := HKM.out; omega, rfl, rfl, rfl, by go_num, HNB.out, HP.out.skip, H8.out⟩
            case measure => have := HKM.out; simp [intOf]; omega
    · have e1 : ((k : Int) == (f : Int)) = false := beq_eq_false_iff_ne.2 (by omega)
      have HP : Hid (BkP f k n T Tf F bs) := Lib.hid (HBI.out.off hkf)
      have HS := Lib.hid hs
      obtain ⟨ax, hax⟩ : ∃ z, z = a3 := ⟨_, rfl⟩
      clear hs HBI
      by_cases hm9 : k = m
      · have e2 : ((k : Int) == (m : Int)) = true := beq_iff_eq.2 (by omega)
        as_aux_lemma =>
          subst hm9
          have HO := Lib.hid (HP.out.out (by omega))
          (try dsimp only); repeat' (first | go_values | go_skip | go_guarded | go_step | go_upon | go_back)
          go_loopw [13] (fun j wr => ∃ (q : Nat) (Y : List SW), q ≤ n ∧ j = .int .i64 ((q : Int) - 1) ∧ Y.length = 8 ∧ Hist Tf (F.take q).reverse Y ∧ Sep w [TabT g Y, Is (.slice a1 n c1) (clsOf F), Rn 7 33 (.slice a2 n c2) n (wasOf F), By (.slice a3 nb c3) bs] wr) (fun j _ => (intOf j + 1).toNat)
          case atStart => exact ⟨n, T, Nat.le_refl _, rfl, HP.out.tab.len, by rw [List.take_of_length_le (by rw [HP.out.many]; exact Nat.le_refl _)]; exact HO.out.2.2, HS.out⟩
          case round =>
            obtain ⟨q, Y, hqn, rfl, hY, hh, hs2⟩ := hrel
            clear HS
            cases q with
            | zero =>
              have hYT : Y = Tf := hh
              rw [hYT] at hs2
              have HTB := Lib.hid (tbytes_any hs2 HO.out.2.1.len HO.out.2.1.oks)
              rw [show (((0 : Nat) : Int) - 1) = -1 from rfl]
              have nx0 : decide (0 < nb) = true := decide_eq_true (by have h9 := HNB.out; rw [HO.out.1, tabBs_len] at h9; omega)
              have nx1 : decide ((0 : Int) < (nb : Int)) = true := decide_eq_true (by have h9 := of_decide_eq_true nx0; omega)
              clear hh hs2 hY hYT hqn
              (try dsimp only); repeat' (first | go_values | go_skip | go_guarded | go_step | go_upon | go_back)
              refine HTB.out.mono ?_
              rintro r8 w8 ⟨u8, rfl, h8⟩
              have HE := Lib.hid (eqBytes_any _ _ _ _ _ h8.sl (h8.pick [4] rfl : Sep w [By (.slice a3 nb c3) bs] _).sl)
              rw [← HO.out.1, beq_self_eq_true] at HE
              have HW := Lib.hid (works10_any h8)
              clear HTB h8
              (try dsimp only); repeat' (first | go_values | go_skip | go_guarded | go_step | go_upon | go_back)
              refine HE.out.mono ?_
              rintro r9 w9 ⟨rfl, rfl⟩
              clear HE
              (try dsimp only); repeat' (first | go_values | go_skip | go_guarded | go_step | go_upon | go_back)
              refine HW.out.mono ?_
              rintro r9 w9 ⟨rfl, h9⟩
              have HZ := Lib.hid h9.low
              clear HW h9
              (try dsimp only); repeat' (first | go_values | go_skip | go_guarded | go_step | go_upon | go_back)
              go_ret
              exact ⟨rfl, HZ.out⟩
            | succ p =>
              have e3 : (((p + 1 : Nat) : Int) - 1) = (p : Int) := by omega
              rw [e3]
              have hp : p < F.length := by rw [HP.out.many]; omega
              have htk : (F.take (p + 1)).reverse = F[p] :: (F.take p).reverse := by rw [List.take_succ_eq_append_getElem hp, List.reverse_append]; rfl
              rw [htk] at hh
              obtain ⟨⟨i, s⟩, hfp⟩ : ∃ z, z = F[p] := ⟨_, rfl⟩
              rw [← hfp] at hh
              obtain ⟨new, hn1, hn2, hn3, hn4⟩ := hh
              have HBK := Lib.hid (back_ok i new hn1 hn2 s hs2.drew hY hn3)
              obtain ⟨b1, c1', hv1, -, -, hx, -⟩ := (hs2.pick [1] rfl : Sep w [Is (.slice a1 n c1) (clsOf F)] _).rowForm (by rw [iv_length, clsOf_len]; omega)
              simp only [Value.slice.injEq] at hv1
              obtain ⟨rfl, -, -⟩ := hv1
              obtain ⟨a2', c2', hv2, -, -, -, hy⟩ := (hs2.pick [2] rfl : Sep w [Rn 7 33 (.slice a2 n c2) n (wasOf F)] _).rnForm
              obtain ⟨b2, hab, -, hy⟩ := hy (by omega)
              simp only [Value.slice.injEq] at hv2
              rw [← hv2.1] at hab
              subst hab
              have hpI : p < (iv .i64 (clsOf F)).length := by rw [iv_length, clsOf_len]; exact hp
              have x0 := hx p hpI
              rw [show (iv .i64 (clsOf F))[p]'hpI = Value.int .i64 (i : Int) by simp [iv, clsOf, ← hfp]] at x0
              have hyj : ∀ j v, j < 7 → s.cells[j]? = some v → wr.cell? ⟨b2, p * 7 + j, none⟩ = some v := fun j v hj hv => by
                have h9 := wasOf_get F p hp j hj
                rw [← hfp, hv] at h9
                obtain ⟨h7, h8⟩ := List.getElem?_eq_some_iff.1 h9
                rw [hy _ h7, h8]
              have y0 := hyj 0 _ (by omega) rfl
              have y1 := hyj 1 _ (by omega) rfl
              have y2 := hyj 2 _ (by omega) rfl
              have y3 := hyj 3 _ (by omega) rfl
              have y4 := hyj 4 _ (by omega) rfl
              have y5 := hyj 5 _ (by omega) rfl
              have y6 := hyj 6 _ (by omega) rfl
              rw [Nat.add_zero] at y0
              have p0 : (0 : Int) ≤ (p : Int) := by omega
              have p40 : (p : Int) ≤ 40 := by omega
              have pn : (p : Int) < (n : Int) := by omega
              have HH := Lib.hid (And.intro hqn hn4)
              have HYL := Lib.hid hY
              clear hs2 hY hp htk hfp hn1 hn2 hn3 hn4 hx hy hyj hpI hv2 hqn
              (try dsimp only); repeat' (first | go_values | go_skip | go_guarded | go_step | go_upon | go_back)
              refine wp_region_G (fun w' => w'.cell? ⟨b1, p, none⟩ = some (.int .i64 (i : Int)) ∧ w'.cell? ⟨b2, p * 7, none⟩ = some (.bool s.had) ∧ w'.cell? ⟨b2, p * 7 + 1, none⟩ = some (.int .i64 s.c) ∧ w'.cell? ⟨b2, p * 7 + 2, none⟩ = some (.int .i64 s.n) ∧ w'.cell? ⟨b2, p * 7 + 3, none⟩ = some (.int .i64 s.o) ∧ w'.cell? ⟨b2, p * 7 + 4, none⟩ = some (.int .i64 s.k) ∧ w'.cell? ⟨b2, p * 7 + 5, none⟩ = some (.int .i64 s.a) ∧ w'.cell? ⟨b2, p * 7 + 6, none⟩ = some (.int .i64 s.b)) [9, 10] (by kernel_rfl) ⟨x0, y0, y1, y2, y3, y4, y5, y6⟩ (fun hS => ?_)
              try dsimp only at hS
              refine wpAnyG_take' (i := 0) (v := ?v0_1r2) rfl (by kernel_rfl) (by kernel_rfl) (by kernel_rfl) (by kernel_rfl) (fun _ _ _ h => h) (Or.inl ⟨by rfl, ?hy0_1r2⟩) hS ?rest0_1r2
              case hy0_1r2 => intro w hSw; (try dsimp only at hSw); go_simp; (try with_reducible rfl)
              case rest0_1r2 =>
              try simp only [List.getElem_toArray, List.getElem_cons_succ, List.getElem_cons_zero, Act.put, List.setIfInBounds_toArray, List.set_cons_zero, List.set_cons_succ]
              refine wpAnyG_take' (i := 1) (v := ?v1_2r2) rfl (by kernel_rfl) (by kernel_rfl) (by kernel_rfl) (by kernel_rfl) (fun _ _ _ h => h) (Or.inl ⟨by rfl, ?hy1_2r2⟩) hS ?rest1_2r2
              case hy1_2r2 => intro w hSw; (try dsimp only at hSw); go_simp; (try with_reducible rfl)
              case rest1_2r2 =>
              try simp only [List.getElem_toArray, List.getElem_cons_succ, List.getElem_cons_zero, Act.put, List.setIfInBounds_toArray, List.set_cons_zero, List.set_cons_succ]
              refine wpAnyG_take' (i := 2) (v := ?v2_3r2) rfl (by kernel_rfl) (by kernel_rfl) (by kernel_rfl) (by kernel_rfl) (fun _ _ _ h => h) (Or.inl ⟨by rfl, ?hy2_3r2⟩) hS ?rest2_3r2
              case hy2_3r2 => intro w hSw; (try dsimp only at hSw); go_simp; (try with_reducible rfl)
              case rest2_3r2 =>
              try simp only [List.getElem_toArray, List.getElem_cons_succ, List.getElem_cons_zero, Act.put, List.setIfInBounds_toArray, List.set_cons_zero, List.set_cons_succ]
              refine wpAnyG_take' (i := 3) (v := ?v3_4r2) rfl (by kernel_rfl) (by kernel_rfl) (by kernel_rfl) (by kernel_rfl) (fun _ _ _ h => h) (Or.inl ⟨by rfl, ?hy3_4r2⟩) hS ?rest3_4r2
              case hy3_4r2 => intro w hSw; (try dsimp only at hSw); go_simp; (try with_reducible rfl)
              case rest3_4r2 =>
              try simp only [List.getElem_toArray, List.getElem_cons_succ, List.getElem_cons_zero, Act.put, List.setIfInBounds_toArray, List.set_cons_zero, List.set_cons_succ]
              refine wpAnyG_take' (i := 4) (v := ?v4_5r2) rfl (by kernel_rfl) (by kernel_rfl) (by kernel_rfl) (by kernel_rfl) (fun _ _ _ h => h) (Or.inl ⟨by rfl, ?hy4_5r2⟩) hS ?rest4_5r2
              case hy4_5r2 => intro w hSw; (try dsimp only at hSw); go_simp; (try with_reducible rfl)
              case rest4_5r2 =>
              try simp only [List.getElem_toArray, List.getElem_cons_succ, List.getElem_cons_zero, Act.put, List.setIfInBounds_toArray, List.set_cons_zero, List.set_cons_succ]
              refine wpAnyG_take' (i := 5) (v := ?v5_6r2) rfl (by kernel_rfl) (by kernel_rfl) (by kernel_rfl) (by kernel_rfl) (fun _ _ _ h => h) (Or.inl ⟨by rfl, ?hy5_6r2⟩) hS ?rest5_6r2
              case hy5_6r2 => intro w hSw; (try dsimp only at hSw); go_simp; (try with_reducible rfl)
              case rest5_6r2 =>
              try simp only [List.getElem_toArray, List.getElem_cons_succ, List.getElem_cons_zero, Act.put, List.setIfInBounds_toArray, List.set_cons_zero, List.set_cons_succ]
              refine wpAnyG_take' (i := 6) (v := ?v6_7r2) rfl (by kernel_rfl) (by kernel_rfl) (by kernel_rfl) (by kernel_rfl) (fun _ _ _ h => h) (Or.inl ⟨by rfl, ?hy6_7r2⟩) hS ?rest6_7r2
              case hy6_7r2 => intro w hSw; (try dsimp only at hSw); go_simp; (try with_reducible rfl)
              case rest6_7r2 =>
              try simp only [List.getElem_toArray, List.getElem_cons_succ, List.getElem_cons_zero, Act.put, List.setIfInBounds_toArray, List.set_cons_zero, List.set_cons_succ]
              refine wpAnyG_take' (i := 7) (v := ?v7_8r2) rfl (by kernel_rfl) (by kernel_rfl) (by kernel_rfl) (by kernel_rfl) (fun _ _ _ h => h) (Or.inl ⟨by rfl, ?hy7_8r2⟩) hS ?rest7_8r2
              case hy7_8r2 => intro w hSw; (try dsimp only at hSw); go_simp; (try with_reducible rfl)
              case rest7_8r2 =>
              try simp only [List.getElem_toArray, List.getElem_cons_succ, List.getElem_cons_zero, Act.put, List.setIfInBounds_toArray, List.set_cons_zero, List.set_cons_succ]
              refine wpAnyG_take' (i := 8) (v := ?v8_9r2) rfl (by kernel_rfl) (by kernel_rfl) (by kernel_rfl) (by kernel_rfl) (fun _ _ _ h => h) (Or.inl ⟨by rfl, ?hy8_9r2⟩) hS ?rest8_9r2
              case hy8_9r2 => intro w hSw; (try dsimp only at hSw); go_simp; (try with_reducible rfl)
              case rest8_9r2 =>
              try simp only [List.getElem_toArray, List.getElem_cons_succ, List.getElem_cons_zero, Act.put, List.setIfInBounds_toArray, List.set_cons_zero, List.set_cons_succ]
              refine wpAnyG_one (i := 9) (by kernel_rfl) rfl (fun K hK => ?_)
              go_simp
              refine Calls.mono HBK.out ?_
              rintro r9 w9 ⟨rfl, h9⟩
              clear x0 y0 y1 y2 y3 y4 y5 y6 HBK
              have H9 := Lib.hid h9
              clear h9
              (try dsimp only); repeat' (first | go_values | go_skip | go_guarded | go_step | go_upon | go_back)
              refine hK.out _ _ (fun hno => by cases hno) ?_
              clear K hK
              try simp only [List.getElem_toArray, List.getElem_cons_succ, List.getElem_cons_zero, Act.put, List.setIfInBounds_toArray, List.set_cons_zero, List.set_cons_succ]
              refine wpAnyG_one (i := 10) (by kernel_rfl) rfl (fun K hK => ?_)
              go_simp
              refine hK.out _ _ (fun hno => by cases hno) ?_
              clear K hK
              try simp only [List.getElem_toArray, List.getElem_cons_succ, List.getElem_cons_zero, Act.put, List.setIfInBounds_toArray, List.set_cons_zero, List.set_cons_succ]
              refine wpAnyG_done (by kernel_rfl) ?_ _
              try simp only [List.getElem_toArray, List.getElem_cons_succ, List.getElem_cons_zero, Act.put, List.setIfInBounds_toArray, List.set_cons_zero, List.set_cons_succ]
              (try dsimp only); repeat' (first | go_values | go_skip | go_guarded | go_step | go_upon | go_back)
              go_roundw
              case rel => exact ⟨p, Y.set i s, by have := HH.out.1; omega, by first | rfl | go_num, by rw [List.length_set]; exact HYL.out, HH.out.2, H9.out⟩
              case measure => first | (simp [intOf]; done) | (simp [intOf]; omega)
      · have e2 : ((k : Int) == (m : Int)) = false := beq_eq_false_iff_ne.2 (by omega)
        as_aux_lemma =>

          have hkl : k < len := by have := HL.out; have := HKM.out; omega
          have d3 : decide (k < len) = true := decide_eq_true hkl
          have kl : (k : Int) < (m : Int) := by have := HKM.out; omega
          obtain ⟨b, off, rfl, hbl, xc, xn, xo, xk, xa, xb, hat⟩ := HD.out k hkl
          have q : ∀ j z, [.int .i64 xc, .int .i64 xn, .int .i64 xo, .int .i64 xk, .int .i64 xa, .int .i64 xb][j]? = some z → ∀ wx, Below w.heap.size w wx → wx.cell? ⟨b, off + k * 6 + j, none⟩ = some z := fun j z hj wx hb => (hb.cell (p := ⟨b, off + k * 6 + j, none⟩) hbl).trans (hat j z hj)
          have e10 := q 0 _ rfl _ HS.out.low
          have e11 := q 1 _ rfl _ HS.out.low
          have e12 := q 2 _ rfl _ HS.out.low
          have e13 := q 3 _ rfl _ HS.out.low
          have e14 := q 4 _ rfl _ HS.out.low
          have e15 := q 5 _ rfl _ HS.out.low
          simp only [Nat.add_zero] at e10
          have hmd := made10_any xc xn xo xk xa xb HS.out
          obtain ⟨i, hi, hi8⟩ : ∃ i : Nat, xc % 8 = (i : Int) ∧ i < 8 := ⟨(xc % 8).toNat, by omega, by omega⟩
          obtain ⟨num, hn0, hn1, hn2⟩ : ∃ z : Int, 1 + xn % 2147483647 = z ∧ 1 ≤ z ∧ z ≤ 2147483647 := ⟨_, rfl, by omega, by omega⟩
          obtain ⟨so, hso, so1, so2⟩ : ∃ z : Int, 1 + xo % 1125899906842624 = z ∧ 1 ≤ z ∧ z ≤ 1125899906842624 := ⟨_, rfl, by omega, by omega⟩
          obtain ⟨sk, hsk, sk1, sk2⟩ : ∃ z : Int, xk % 7 = z ∧ 0 ≤ z ∧ z ≤ 6 := ⟨_, rfl, by omega, by omega⟩
          obtain ⟨sa, hsa, sa1, sa2⟩ : ∃ z : Int, xa % 2147483647 = z ∧ 0 ≤ z ∧ z ≤ 2147483646 := ⟨_, rfl, by omega, by omega⟩
          obtain ⟨sb, hsb, sb1, sb2⟩ : ∃ z : Int, xb % 2147483647 = z ∧ 0 ≤ z ∧ z ≤ 2147483646 := ⟨_, rfl, by omega, by omega⟩
          rw [hi, hn0, hso, hsk, hsa, hsb] at hmd
          have HM := Lib.hid hmd
          have HC : Hid (clientOk i num so sk sa sb = true) := Lib.hid (by
            unfold clientOk clientB resB
            simp
            omega)
          have HIL : Hid (i < T.length) := Lib.hid (by rw [HP.out.tab.len]; exact hi8)
          have HI8 := Lib.hid hi8
          have hkf' := hkf
          clear hat q hmd hi hn0 hso so1 so2 hsk sk1 sk2 hsa sa1 sa2 hsb sb1 sb2 hkl HS hn1 hn2 hi8 HD hkf
          (try dsimp only); repeat' (first | go_values | go_skip | go_guarded | go_step | go_upon | go_back)
          refine HM.out.mono ?_
          rintro r0 w4 ⟨rfl, h4⟩
          obtain ⟨s, hsq⟩ : ∃ s, s = T[i]'HIL.out := ⟨_, rfl⟩
          have HSQ : Hid (T[i]? = some s) := Lib.hid (by rw [hsq]; exact List.getElem?_eq_getElem HIL.out)
          have HSE := Lib.hid hsq.symm
          clear HM e10 e11 e12 e13 e14 e15 hsq
          have h5 := h4.alloc (.cells #[.int .i64 i, .int .i64 num, .int .i64 so, .int .i64 sk, .int .i64 sa, .int .i64 sb] 31)
          have h5 : Sep w [TabT g T, Cl _ #[.int .i64 i, .int .i64 num, .int .i64 so, .int .i64 sk, .int .i64 sa, .int .i64 sb] 31, Is (.slice a1 n c1) (clsOf F), Rn 7 33 (.slice a2 n c2) n (wasOf F), By (.slice a3 nb c3) bs] _ := h5.pick [1, 0, 2, 3, 4] rfl
          by_cases hj : judgeV T i num = 1
          · have HPT := Lib.hid (put_new i num so sk sa sb h5 HP.out.tab.len s HSQ.out HC.out hj)
            have HJ := Lib.hid hj
            obtain ⟨b7, hb7⟩ : ∃ z, z = w4.heap.size := ⟨_, rfl⟩
            obtain ⟨w5, hw5⟩ : ∃ z, z = w4.alloc (.cells #[.int .i64 i, .int .i64 num, .int .i64 so, .int .i64 sk, .int .i64 sa, .int .i64 sb] 31) := ⟨_, rfl⟩
            clear h4 h5 hj
            (try dsimp only); repeat' (first | go_values | go_skip | go_guarded | go_step | go_upon | go_back)
            rw [← hw5, ← hb7]
            rw [← hw5, ← hb7] at HPT
            clear hw5 hb7
            refine HPT.out.mono ?_
            rintro r1 w6 ⟨rfl, h6⟩
            have h7 := h6.alloc (.cells #[.bool s.had, .int .i64 s.c, .int .i64 s.n, .int .i64 s.o, .int .i64 s.k, .int .i64 s.a, .int .i64 s.b] 33)
            obtain ⟨b8, hb8⟩ : ∃ z, z = w6.heap.size := ⟨_, rfl⟩
            obtain ⟨w7, hw7⟩ : ∃ z, z = w6.alloc (.cells #[.bool s.had, .int .i64 s.c, .int .i64 s.n, .int .i64 s.o, .int .i64 s.k, .int .i64 s.a, .int .i64 s.b] 33) := ⟨_, rfl⟩
            rw [← hb8, ← hw7] at h7
            clear h6 HPT
            by_cases hfk : k < f
            · have d4 : decide (f ≤ k) = false := decide_eq_false (by omega)
              have d5 : decide ((f : Int) ≤ (k : Int)) = false := decide_eq_false (by omega)
              have hkf := hkf'
              have h8q : Sep w [TabT g (T.set i ⟨true, i, num, so, sk, sa, sb⟩), Is (.slice a1 n c1) (clsOf F), Rn 7 33 (.slice a2 n c2) n (wasOf F), By (.slice a3 nb c3) bs] _ := h7.pick [1, 3, 4, 5] rfl
              have H8 := Lib.hid h8q
              clear h8q

              clear h7
              (try dsimp only); repeat' (first | go_values | go_skip | go_guarded | go_step | go_upon | go_back)
              rw [← hw7]
              go_roundw
              case rel => exact ⟨k + 1, n, nb, _, Tf, F, bs, a1, a2, a3, c1, c2, c3, by have := HKM.out; omega, rfl, rfl, rfl, by go_num, HNB.out, HP.out.early (by omega) i HIL.out ⟨true, i, num, so, sk, sa, sb⟩ rfl rfl HC.out, H8.out⟩
              case measure => have := HKM.out; simp [intOf]; omega
            · have d4 : decide (f ≤ k) = true := decide_eq_true (by omega)
              have d5 : decide ((f : Int) ≤ (k : Int)) = true := decide_eq_true (by omega)
              subst hw7 hb8
              obtain ⟨z0, z1, z2, z3, z4, z5⟩ := cells6z (h7.pick [2] rfl : Sep w [Cl b7 _ _] _)
              have h8 := h7.alloc (.cells #[.int .i64 (i : Int)] 3)
              have hx8 : Sl _ (.slice (some ⟨_, 0, none⟩) 1 1) (iv .i64 [(i : Int)]) := (h8.asRow 1 rfl (by unfold maxLen; omega)).sl
              have h8q : Sep w [Is (.slice a1 n c1) (clsOf F), Cl w6.heap.size #[.bool s.had, .int .i64 s.c, .int .i64 s.n, .int .i64 s.o, .int .i64 s.k, .int .i64 s.a, .int .i64 s.b] 33, TabT g (T.set i ⟨true, i, num, so, sk, sa, sb⟩), Cl b7 #[.int .i64 i, .int .i64 num, .int .i64 so, .int .i64 sk, .int .i64 sa, .int .i64 sb] 31, Rn 7 33 (.slice a2 n c2) n (wasOf F), By (.slice a3 nb c3) bs] _ := h8.pick [4, 1, 2, 3, 5, 6] rfl
              obtain ⟨v1, w9, hr9, h9, -⟩ := appI (ty := 65) h8q hx8 (by rw [clsOf_len, HP.out.many]; simp; omega)
              obtain ⟨n2, hn2⟩ : ∃ z, z = n + 1 := ⟨_, rfl⟩
              obtain ⟨a4, c4, rfl⟩ := h9.sl.len
              rw [clsOf_app F i s, iv_length, clsOf_len, List.length_append, HP.out.many, show n + [(i, s)].length = n2 by rw [hn2]; rfl] at h9
              rw [clsOf_app F i s, iv_length, clsOf_len, List.length_append, HP.out.many, show n + [(i, s)].length = n2 by rw [hn2]; rfl] at hr9
              rw [World.size_alloc] at hr9
              have HR9 := Lib.hid hr9
              obtain ⟨u0, u1, u2, u3, u4, u5, u6⟩ := cells7z (h9.pick [1] rfl : Sep w [Cl w6.heap.size _ _] _)
              have h10 := h9.alloc (.cells #[.bool s.had, .int .i64 s.c, .int .i64 s.n, .int .i64 s.o, .int .i64 s.k, .int .i64 s.a, .int .i64 s.b] 33)
              have h10q : Sep w [Cl w9.heap.size #[.bool s.had, .int .i64 s.c, .int .i64 s.n, .int .i64 s.o, .int .i64 s.k, .int .i64 s.a, .int .i64 s.b] 33, Rn 7 33 (.slice a2 n c2) n (wasOf F), Is (.slice a4 n2 c4) (clsOf (F ++ [(i, s)])), Cl w6.heap.size #[.bool s.had, .int .i64 s.c, .int .i64 s.n, .int .i64 s.o, .int .i64 s.k, .int .i64 s.a, .int .i64 s.b] 33, TabT g (T.set i ⟨true, i, num, so, sk, sa, sb⟩), Cl b7 #[.int .i64 i, .int .i64 num, .int .i64 so, .int .i64 sk, .int .i64 sa, .int .i64 sb] 31, By (.slice a3 nb c3) bs] _ := h10.pick [0, 5, 1, 2, 3, 4, 6] rfl
              obtain ⟨a5, c5, w10, hr10, h11⟩ := append_was (ty := 66) s h10q (by omega)
              rw [wasOf_app F i s, ← hn2] at h11
              rw [← hn2] at hr10
              have HR10 := Lib.hid hr10
              have h11q : Sep w [TabT g (T.set i ⟨true, i, num, so, sk, sa, sb⟩), Is (.slice a4 n2 c4) (clsOf (F ++ [(i, s)])), Rn 7 33 (.slice a5 n2 c5) n2 (wasOf (F ++ [(i, s)])), By (.slice a3 nb c3) bs] _ := h11.pick [3, 1, 0, 5] rfl
              have H11 := Lib.hid h11q
              clear h11q

              have HN2 := Lib.hid hn2
              clear h7 h8 h8q hx8 h9 h10 h10q h11 hr9 hr10 hn2
              (try dsimp only); repeat' (first | (at_builtin; refine stop ?_) | (refine wpList_buildW rfl _ rfl rfl ?_) | go_values | go_skip | go_guarded | go_step | go_upon | go_back)
              unfold Stop
              refine wpList_append_run rfl _ _ _ _ rfl rfl rfl HR9.out ?_
              clear HR9 z0 z1 z2 z3 z4 z5
              (try dsimp only); repeat' (first | (at_builtin; refine stop ?_) | (refine wpList_buildW rfl _ rfl rfl ?_) | go_values | go_skip | go_guarded | go_step | go_upon | go_back)
              unfold Stop
              refine wpList_append_run rfl _ _ _ _ rfl rfl rfl HR10.out ?_
              clear HR10 u0 u1 u2 u3 u4 u5 u6
              (try dsimp only); repeat' (first | go_values | go_skip | go_guarded | go_step | go_upon | go_back)
              go_roundw
              case rel => exact ⟨k + 1, n2, nb, _, Tf, F ++ [(i, s)], bs, a4, a5, a3, c4, c5, c3, by have := HKM.out; omega, rfl, rfl, rfl, by go_num, HNB.out, by rw [HN2.out]; exact HP.out.late (by omega) i HIL.out ⟨true, i, num, so, sk, sa, sb⟩ s HSE.out rfl rfl HC.out (judge_lt HP.out.tab.len HI8.out HSQ.out HJ.out), H11.out⟩
              case measure => have := HKM.out; simp [intOf]; omega
          · have HPT := Lib.hid (put_not i num so sk sa sb h5 HP.out.tab.len HC.out hj)
            obtain ⟨b7, hb7⟩ : ∃ z, z = w4.heap.size := ⟨_, rfl⟩
            obtain ⟨w5, hw5⟩ : ∃ z, z = w4.alloc (.cells #[.int .i64 i, .int .i64 num, .int .i64 so, .int .i64 sk, .int .i64 sa, .int .i64 sb] 31) := ⟨_, rfl⟩
            clear h4 h5 hj
            (try dsimp only); repeat' (first | go_values | go_skip | go_guarded | go_step | go_upon | go_back)
            rw [← hw5, ← hb7]
            rw [← hw5, ← hb7] at HPT
            clear hw5 hb7
            refine HPT.out.mono ?_
            rintro r1 w6 ⟨z, rfl, hz, h6⟩
            have h7 := h6.alloc (.cells #[.bool false, .int .i64 0, .int .i64 0, .int .i64 0, .int .i64 0, .int .i64 0, .int .i64 0] 33)
            have h8q : Sep w [TabT g T, Is (.slice a1 n c1) (clsOf F), Rn 7 33 (.slice a2 n c2) n (wasOf F), By (.slice a3 nb c3) bs] _ := h7.pick [1, 3, 4, 5] rfl
            have H8 := Lib.hid h8q
            clear h8q

            clear h6 h7 HPT
            (try dsimp only); repeat' (first | go_values | go_skip | go_guarded | go_step | go_upon | go_back)
            go_roundw
            case rel => exact ⟨k + 1, n, nb, T, Tf, F, bs, a1, a2, a3, c1, c2, c3, by have := HKM.out; omega, rfl, rfl, rfl, by go_num, HNB.out, HP.out.skip, H8.out⟩
            case measure => have := HKM.out; simp [intOf]; omega
end Go.Proofs.Ytjjjkfdppleagaa
