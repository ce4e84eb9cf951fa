/- In place of EnP where the seat has entries' own texts (fill.py ALT=EnP=EnPF): En1, En4, En11, Item9, Item25, and what EnP has besides. -/
import Derived.Deep.QuietTactic
import Derived.BigQuiet
import Derived.Test.YtafkbodmiblbnaaDoorMZ22
import Derived.Test.YtafkbodmiblbnaaDoorMZ21
import Derived.Test.YtafkbodmiblbnaaDoorMItem9
import Derived.Test.YtafkbodmiblbnaaDoorMZ05
import Derived.Test.YtafkbodmiblbnaaDoorMZ12
import Derived.Test.YtafkbodmiblbnaaDoorMZ19
namespace Go.Proofs.YtafkbodmiblbnaaDoor
open Go.RowKit
set_option linter.unusedVariables false
set_option linter.unusedSimpArgs false
theorem below_gr0 {w w' : World} (h : w.grownBy w' none) : Below w.heap.size w w' := ⟨h.os, h.tape, h.output, h.size, fun k hk => h.block k hk (by simp)⟩
set_option maxRecDepth 100000 in
set_option maxHeartbeats 8000000 in
theorem lcopy_w {w : World} (a : Option Addr) (c : Nat) (xs : List (EnM × Value)) (hv : EnS w (.slice a xs.length c) xs) (hl : xs.length ≤ 1000000) (hls : ∀ x ∈ xs, x.1.p.ls.length ≤ 1000) :
    Calls Tryd.prog 46 #[.slice a xs.length c, .func (.func 42) #[] #[]] w fun e w' => ∃ (u : Value) (ps : List (EnM × Value)), e = .returned u ∧ ps.map (·.1) = xs.map (·.1) ∧ Sep w [EnT u ps] w' := by
  obtain ⟨i, hi, he⟩ := Option.map_eq_some_iff.1 infoEn
  simp only [Prod.mk.injEq, decide_eq_true_eq] at he
  obtain ⟨z, hz, hz2⟩ := Option.map_eq_some_iff.1 he.2.2
  obtain ⟨w1, hmk, hown, hgr⟩ := run_make_own (P := Tryd.prog) w w.heap.size 35 32 i z 7 Tryd.underlying35 hi hz he.1 .i64 .i64 xs.length (by
    calc i.bytes * xs.length ≤ 256 * 1000000 := Nat.mul_le_mul he.2.1 hl
      _ ≤ 281474976710656 := by omega) (by unfold maxLen; omega) (Nat.le_refl _)
  have h1 : Sep w [EnT (.slice (some ⟨w.heap.size, 0, none⟩) 0 xs.length) []] w1 := Sep.enClose (ps := []) ((Sep.start w).new (loc_rn _ _ _ _ _) (below_gr0 hgr) (F := fun k => (Value.slice (some ⟨w.heap.size, 0, none⟩) 0 xs.length).ownBlock = some k) ⟨⟨_, hown⟩, fun _ => Iff.rfl⟩ (ownsRow_lt hown))
  have HM := Lib.hid hmk
  have H1 := Lib.hid h1
  have HX := Lib.hid hv
  have HLS := Lib.hid hls
  have n0 : (0 : Int) ≤ (xs.length : Int) := by omega
  have n1 : (xs.length : Int) ≤ 1000000 := by omega
  clear hi he hz hz2 hown hgr h1 hmk hv hls hl
  obtain ⟨n, hn⟩ : ∃ n, n = xs.length := ⟨_, rfl⟩
  rw [← hn] at HM H1 HX n0 n1 ⊢
  have HN := Lib.hid hn
  clear hn
  go_enter Tryd.func46, Tryd.ntmps46
  go_wp2_with fail
  rw [HM.out]
  clear HM
  go_wp2_with fail
  go_loopw [5, 13] (fun pv i wr => ∃ (k : Nat) (ps : List (EnM × Value)) (av : Option Addr) (cv : Nat), k ≤ n ∧ pv = .slice av k cv ∧ i = .int .i64 k ∧ ps.length = k ∧ ps.map (·.1) = (xs.take k).map (·.1) ∧ Sep w [EnT (.slice av k cv) ps] wr) (fun _ i _ => n - (intOf i).toNat)
  case atStart => exact ⟨0, [], _, _, Nat.zero_le _, rfl, rfl, rfl, rfl, H1.out⟩
  case round =>
    obtain ⟨k, ps, av, cv, hk, rfl, rfl, hpl, hps, hs⟩ := hrel
    clear H1
    have k0 : (0 : Int) ≤ (k : Int) := by omega
    by_cases hkn : k < n
    · have hkx : k < xs.length := by have := HN.out; omega
      have hd : decide (k < n) = true := decide_eq_true hkn
      have k1 : (k : Int) < (n : Int) := by omega
      obtain ⟨bx, off, rfl, -, hnc, -, ⟨e0, e1, e2, e3, e4, e5, e6⟩, hln⟩ := (HX.out.below hs.low).at hkx
      have hxl := HLS.out _ (List.getElem_mem hkx)
      obtain ⟨⟨x, v⟩, hxv⟩ : ∃ z, z = xs[k] := ⟨_, rfl⟩
      rw [← hxv] at e0 e1 e2 e3 e4 e5 e6 hln hxl
      dsimp only at e0 e1 e2 e3 e4 e5 e6 hln hxl
      obtain ⟨av', kv, rfl⟩ := hln.len
      have h4 := hs.alloc (.cells (enC x (.slice av' x.p.ls.length kv)) 32)
      have hlow : Below wr.heap.size wr (wr.alloc (.cells (enC x (.slice av' x.p.ls.length kv)) 32)) := (Below.refl _ wr).alloc (Nat.le_refl _) _
      have HB := Lib.hid (ecopy_any x (.slice av' x.p.ls.length kv) h4 (hln.below hlow) hxl)
      unfold enV enC at HB
      unfold enC at h4
      obtain ⟨d0, d1, d2, d3, d4, d5, d6⟩ := cells7 h4
      have HXV := Lib.hid (And.intro hxv (And.intro hkx hkn))
      have HPS := Lib.hid (And.intro hpl hps)
      clear hs h4 hlow hln hxv hpl hps hk hkn hxl
      go_wp2_with fail
      refine HB.out.mono ?_
      rintro r0 w5 ⟨u, rfl, h5⟩
      obtain ⟨au, ku, rfl, -⟩ := h5.rnForm
      have h6 := h5.alloc (.cells (enC x (.slice au x.p.ls.length ku)) 32)
      obtain ⟨a2, c2, w8, hr, h8⟩ := append_en (ty := 35) (h6.pick [0, 3, 1] rfl : Sep w [Cl w5.heap.size (enC x (.slice au x.p.ls.length ku)) 32, EnT (.slice av k cv) ps, LnR (.slice au x.p.ls.length ku) x.p.ls] _) rfl (by rw [HPS.out.1]; omega)
      rw [HPS.out.1] at hr h8
      unfold enC at hr
      have HAP := Lib.hid hr
      have H8 := Lib.hid h8
      clear HB h5 h6 hr h8 d0 d1 d2 d3 d4 d5 d6 e0 e1 e2 e3 e4 e5 e6
      go_wp2_with (at_builtin; refine wpList_append_run rfl _ _ _ _ rfl rfl rfl HAP.out ?_)
      go_roundw
      case rel =>
        refine ⟨k + 1, ps ++ [(x, .slice au x.p.ls.length ku)], a2, c2, HXV.out.2.2, rfl, by go_num, by rw [List.length_append, HPS.out.1, List.length_singleton], ?_, H8.out⟩
        rw [List.map_append, HPS.out.2, List.take_succ_eq_append_getElem HXV.out.2.1, ← HXV.out.1]; simp
      case measure => have := HXV.out.2.2; simp [intOf]; omega
    · have hd : decide (k < n) = false := decide_eq_false hkn
      have hn := HN.out
      have hkx : xs.take k = xs := List.take_of_length_le (by omega)
      rw [hkx] at hps
      have HF := Lib.hid (And.intro hps hs)
      clear hps hs hpl hk hkn hn hkx
      go_wp2_with fail
      go_ret
      exact ⟨_, rfl, ps, HF.out.1, HF.out.2⟩
theorem lcopy_any {w0 w : World} {L : List Thing} (a : Option Addr) (c n : Nat) (xs : List (EnM × Value)) (h : Sep w0 L w) (hv : EnS w (.slice a n c) xs) (hn : xs.length = n) (hl : n ≤ 1000000) (hls : ∀ x ∈ xs, x.1.p.ls.length ≤ 1000) :
    Calls Tryd.prog 46 #[.slice a n c, .func (.func 42) #[] #[]] w fun e w' => ∃ (u : Value) (ps : List (EnM × Value)), e = .returned u ∧ ps.map (·.1) = xs.map (·.1) ∧ Sep w0 (EnT u ps :: L) w' := by
  subst hn
  exact (lcopy_w a c xs hv hl hls).mono fun e w' ⟨u, ps, h1, h2, h3⟩ => ⟨u, ps, h1, h2, h.onto1 h3⟩
end Go.Proofs.YtafkbodmiblbnaaDoor
/- A region that draws its order, walked by number: a call that changes nothing is taken first, wherever it may come up. -/
namespace Go.Proofs.YtafkbodmiblbnaaDoor
open Go
set_option linter.unusedVariables false
section
variable {P : Program} {ops : Array Oper} {Q : Exit → Act → World → Prop} {md : Region.Mode} {S : World → Prop} {T : List Nat}
/-- A call that answers v in every world that meets S, and changes nothing. -/
def AnswersIf (P : Program) (ops : Array Oper) (S : World → Prop) (o : Oper) (v : Value) (a : Act) : Prop :=
  Region.wanted o (yielded ops a.tmps) = true ∧ ∀ w, S w → ∃ f args, (execOp a.eval o).run P w = .ok (.enter f args) w ∧ Calls P f args w fun e w' => e = .returned v ∧ w' = w
theorem AnswersIf.run {i : Nat} {o : Oper} {v : Value} {a : Act} (hi : ops[i]? = some o) (hy : AnswersIf P ops S o v a) {K : Act → World → Prop} {w : World} (hS : S w) (h : K (a.put o.dst v) w) : wpOp P ops Q i K a w := by
  obtain ⟨hw, hc⟩ := hy
  obtain ⟨f, args, hr, hcl⟩ := hc w hS
  unfold Go.wpOp
  rw [hi]
  simp only [hw, if_true]
  left
  unfold Oper.wp
  rw [hr]
  refine Calls.mono hcl ?_
  rintro e w' ⟨rfl, rfl⟩
  exact h
theorem AnswersIf.past {oi oj : Oper} {v : Value} {a : Act} (hs : ∀ cs b, oi.op ≠ .select cs b) (h3 : ∀ d, oj.dst = some d → d ∉ oi.looksAt ops) (u : Value) (hy : AnswersIf P ops S oi v a) : AnswersIf P ops S oi v (a.put oj.dst u) := by
  unfold AnswersIf
  rw [wanted_put oi a oj.dst u h3, execOp_put oi hs a oj.dst u h3]
  exact hy
/-- What the other one does hangs not on the call's answer. -/
theorem beside_call {j : Nat} {oi oj : Oper} {v : Value} (hj : ops[j]? = some oj) (hap : oi.apart ops oj = true) (hsi : ∀ cs b, oi.op ≠ .select cs b) (hsj : ∀ cs b, oj.op ≠ .select cs b)
    (hQ : ∀ c a w, Q (.panic c) (a.put oi.dst v) w → Q (.panic c) a w) {K : Act → World → Prop} {a : Act} {w : World} (hy : AnswersIf P ops S oi v a) (h : wpOp P ops Q j K (a.put oi.dst v) w) :
    wpOp P ops Q j (fun a' w' => AnswersIf P ops S oi v a' ∧ K (a'.put oi.dst v) w') a w := by
  obtain ⟨p1, p2, p3⟩ := Oper.apart_spec hap
  have here : ∀ {w' : World} (u : Value), K ((a.put oi.dst v).put oj.dst u) w' → AnswersIf P ops S oi v (a.put oj.dst u) ∧ K ((a.put oj.dst u).put oi.dst v) w' := fun u hk =>
    ⟨hy.past hsi p3 u, by rw [← Act.put_comm a v u p2]; exact hk⟩
  have hwj := wanted_put oj a oi.dst v p1
  have hej := execOp_put (ops := ops) oj hsj a oi.dst v p1
  unfold wpOp at h ⊢
  rw [hj] at h ⊢
  dsimp only at h ⊢
  rw [hwj] at h
  by_cases hw : Region.wanted oj (yielded ops a.tmps) = true
  · rw [if_pos hw] at h ⊢
    rcases h with h | ⟨hasks, hl⟩
    · left
      unfold Oper.wp at h ⊢
      rw [hej] at h
      revert h
      cases (execOp a.eval oj).run P w with
      | ok n w' =>
        cases n with
        | value u => exact here u
        | skip => exact here undef
        | enter f args =>
          intro h
          refine Calls.mono h fun e w'' he => ?_
          cases e with
          | returned u => exact here u he
          | panicked c => exact hQ _ _ _ he
          | outgrown => exact he
        | row r args => exact fun h => Rows.mono h fun u w'' he => here u he
        | defer d =>
          intro h
          have hd : AnswersIf P ops S oi v { a with defers := d :: a.defers } := hy
          refine ⟨hd.past hsi p3 undef, ?_⟩
          rw [← Act.put_comm _ v undef p2, ← Act.put_defers]
          exact h
        | _ => exact fun h => h
      | halt x w' =>
        cases x with
        | panic u => exact fun h => hQ _ _ _ h
        | _ => exact fun h => h
    · right
      refine ⟨?_, hl⟩
      unfold Oper.asks at hasks ⊢
      rw [hej] at hasks
      exact hasks
  · rw [if_neg hw] at h ⊢
    exact here undef h
theorem callFirst {V : List Nat} (hTV : ∀ t, t ∈ T → t ∈ V) {i : Nat} {oi : Oper} {v : Value} (hi : ops[i]? = some oi) (hsel : ∀ (j : Nat) (o : Oper) cs b, ops[j]? = some o → o.op ≠ .select cs b)
    (hQ : ∀ c a w, Q (.panic c) (a.put oi.dst v) w → Q (.panic c) a w) (hch : chained md ops V i) :
    ∀ (fuel : Nat) (listed : Array Bool) (a : Act) (w : World),
      (∀ j oj, ops[j]? = some oj → j ≠ i → listed.getD j true = false → (∀ e ∈ oj.after, Region.binds md e = true → e.on ≠ i) → oi.apart ops oj = true) →
      i ∈ Region.ready md ops listed → unlisted V listed → AnswersIf P ops S oi v a → S w →
      wpAnyG P md ops Q S T fuel (listed.setIfInBounds i true) (a.put oi.dst v) w → wpAnyG P md ops Q S T (fuel + 1) listed a w := by
  intro fuel
  induction fuel with
  | zero =>
    intro listed a w _ hr hu hy hS H
    refine ⟨fun h => (by rw [h] at hr; cases hr), fun j hj => ?_⟩
    by_cases hji : j = i
    · subst hji; exact hy.run hi hS ⟨fun _ => hS, H⟩
    · have := ready_mono hj hji
      rw [H.1] at this
      cases this
  | succ fuel ih =>
    intro listed a w hfree hr hu hy hS H
    refine ⟨fun h => (by rw [h] at hr; cases hr), fun j hj => ?_⟩
    by_cases hji : j = i
    · subst hji; exact hy.run hi hS ⟨fun _ => hS, H⟩
    · have h1 := H.2 j (ready_mono hj hji)
      obtain ⟨hjun, oj, hoj, hall⟩ := mem_ready.1 hj
      have hjV := not_mem_of_ready hu hch (mem_ready.1 hr).1 hj
      have hjT : T.contains j = false := by
        cases hc : T.contains j
        · rfl
        · exact (hjV (hTV j (by simpa using hc))).elim
      have hnot : ∀ e ∈ oj.after, Region.binds md e = true → e.on ≠ i := fun e he hb heq => by
        have h1 := hall e he hb
        rw [heq] at h1
        exact getD_false_of_unlisted (mem_ready.1 hr).1 h1
      have h2 := beside_call hoj (hfree j oj hoj hji hjun hnot) (fun cs b => hsel i oi cs b hi) (fun cs b => hsel j oj cs b hoj) hQ hy h1
      have hfree' : ∀ k ok, ops[k]? = some ok → k ≠ i → (listed.setIfInBounds j true).getD k true = false →
          (∀ e ∈ ok.after, Region.binds md e = true → e.on ≠ i) → oi.apart ops ok = true := fun k ok hk hki hun hno => by
        refine hfree k ok hk hki ?_ hno
        by_cases hjk : j = k
        · subst hjk; exact hjun
        · rw [getD_set_ne true hjk] at hun; exact hun
      have hu' : unlisted V (listed.setIfInBounds j true) := fun t ht => by
        rw [getD_set_ne true (fun e => by subst e; exact hjV ht)]; exact hu t ht
      refine wpOp_mono (fun a' w' h3 => ⟨h3.2.1, ih (listed.setIfInBounds j true) a' w' hfree' (ready_mono hr (Ne.symm hji)) hu' h3.1 (h3.2.1 hjT) ?_⟩) h2
      rw [Array.setIfInBounds_comm _ _ hji]
      exact h3.2.2
/-- Number i, a call that changes nothing, is taken first. -/
theorem wpAnyG_call {i : Nat} {oi : Oper} {v : Value} {fuel : Nat} {listed : Array Bool} {a : Act} {w : World} (hi : ops[i]? = some oi)
    (hs : Region.noSelect ops = true) (hf : Region.free md ops listed i = true) (hr : (Region.ready md ops listed).contains i = true) (hT : (T.all (after md ops listed i).contains && waits md ops (after md ops listed i) listed i) = true)
    (hQ : ∀ c a w, Q (.panic c) (a.put oi.dst v) w → Q (.panic c) a w) (hy : AnswersIf P ops S oi v a) (hS : S w)
    (h : wpAnyG P md ops Q S T fuel (listed.setIfInBounds i true) (a.put oi.dst v) w) : wpAnyG P md ops Q S T (fuel + 1) listed a w :=
  callFirst (V := after md ops listed i) (fun t ht => by have := List.all_eq_true.1 (Bool.and_eq_true_iff.1 hT).1 t ht; simpa using this) hi (Region.noSelect_spec hs) hQ (waits_spec (Bool.and_eq_true_iff.1 hT).2).2 fuel listed a w (Region.free_spec hi hf) (by simpa using hr) (waits_spec (Bool.and_eq_true_iff.1 hT).2).1 hy hS h
end
end Go.Proofs.YtafkbodmiblbnaaDoor
/- Rows of entries, compared (SameRow), picked out of XEn7: without their bytes. -/
namespace Go.Proofs.YtafkbodmiblbnaaDoor
open Go.RowKit
set_option linter.unusedVariables false
set_option linter.unusedSimpArgs false
/-- Two rows are the same. -/
def SameP (xs ys : List (EnM × Value)) : Prop := xs.length = ys.length ∧ ∀ j (h : j < xs.length) (h' : j < ys.length), enSame xs[j].1 ys[j].1 = true
set_option maxRecDepth 100000 in
set_option maxHeartbeats 16000000 in
theorem eqfunc_w {w : World} (a a' : Option Addr) (c c' : Nat) (xs ys : List (EnM × Value)) (hx : EnS w (.slice a xs.length c) xs) (hy : EnS w (.slice a' ys.length c') ys) (hl : xs.length ≤ 1000000) (hl' : ys.length ≤ 1000000) :
    Calls Tryd.prog 66 #[.slice a xs.length c, .slice a' ys.length c', .func (.func 41) #[] #[]] w fun e w' => ∃ r : Bool, e = .returned (.bool r) ∧ (r = true ↔ SameP xs ys) ∧ Sep w [] w' := by
  have HX := Lib.hid hx
  have HY := Lib.hid hy
  have n0 : (xs.length : Int) ≤ 1000000 := by omega
  have n1 : (ys.length : Int) ≤ 1000000 := by omega
  clear hx hy hl hl'
  obtain ⟨n, hn⟩ : ∃ n, n = xs.length := ⟨_, rfl⟩
  obtain ⟨n', hn'⟩ : ∃ n, n = ys.length := ⟨_, rfl⟩
  rw [← hn] at HX n0 ⊢
  rw [← hn'] at HY n1 ⊢
  have HN := Lib.hid (And.intro hn hn')
  clear hn hn'
  by_cases hll : n = n'
  · subst hll
    go_enter Tryd.func66, Tryd.ntmps66
    go_wp2_with fail
    go_loopw [17] (fun i wr => ∃ k : Nat, k ≤ n ∧ i = .int .i64 k ∧ (∀ j (h : j < xs.length) (h' : j < ys.length), j < k → enSame xs[j].1 ys[j].1 = true) ∧ Sep w [] wr) (fun i _ => n - (intOf i).toNat)
    case atStart => exact ⟨0, Nat.zero_le _, rfl, (fun j _ _ h => absurd h (by omega)), Sep.start w⟩
    case round =>
      obtain ⟨k, hk, rfl, hall, hs⟩ := hrel
      have k0 : (0 : Int) ≤ (k : Int) := by omega
      by_cases hkn : k < n
      · have hkx : k < xs.length := by have := HN.out.1; omega
        have hky : k < ys.length := by have := HN.out.2; omega
        have hd : decide (k < n) = true := decide_eq_true hkn
        have k1 : (k : Int) < (n : Int) := by omega
        obtain ⟨bx, off, rfl, -, hnc, -, ⟨e0, e1, e2, e3, e4, e5, e6⟩, hln⟩ := (HX.out.below hs.low).at hkx
        obtain ⟨by', off', rfl, -, hnc', -, -, -⟩ := HY.out.at hky
        obtain ⟨⟨x, v⟩, hxv⟩ : ∃ z, z = xs[k] := ⟨_, rfl⟩
        obtain ⟨⟨y, u⟩, hyu⟩ : ∃ z, z = ys[k] := ⟨_, rfl⟩
        rw [← hxv] at e0 e1 e2 e3 e4 e5 e6 hln
        dsimp only at e0 e1 e2 e3 e4 e5 e6 hln
        obtain ⟨av, kv, rfl⟩ := hln.len
        have h4 := hs.alloc (.cells (enC x (.slice av x.p.ls.length kv)) 32)
        have hlow : Below wr.heap.size wr (wr.alloc (.cells (enC x (.slice av x.p.ls.length kv)) 32)) := (Below.refl _ wr).alloc (Nat.le_refl _) _
        obtain ⟨b2, o2, hab, -, -, -, ⟨d0, d1, d2, d3, d4, d5, d6⟩, hlu⟩ := (HY.out.below h4.low).at hky
        simp only [Option.some.injEq, Addr.mk.injEq, and_true] at hab
        obtain ⟨rfl, rfl⟩ := hab
        rw [← hyu] at d0 d1 d2 d3 d4 d5 d6 hlu
        dsimp only at d0 d1 d2 d3 d4 d5 d6 hlu
        obtain ⟨au, ku, rfl⟩ := hlu.len
        have h5 := h4.alloc (.cells (enC y (.slice au y.p.ls.length ku)) 32)
        have hlow2 : Below (wr.alloc (.cells (enC x (.slice av x.p.ls.length kv)) 32)).heap.size _ ((wr.alloc (.cells (enC x (.slice av x.p.ls.length kv)) 32)).alloc (.cells (enC y (.slice au y.p.ls.length ku)) 32)) := (Below.refl _ _).alloc (Nat.le_refl _) _
        rw [show (wr.alloc (.cells (enC x (.slice av x.p.ls.length kv)) 32)).heap.size = wr.heap.size + 1 by simp] at h5
        have HS := Lib.hid (esame_any x y _ _ h5 ((hln.below hlow).below hlow2) (hlu.below hlow2) (lns_maxl hln))
        unfold enV enC at HS
        unfold enC at h4 h5 d0 d1 d2 d3 d4 d5 d6
        obtain ⟨g0, g1, g2, g3, g4, g5, g6⟩ := cells7 h5.sw2
        obtain ⟨j0, j1, j2, j3, j4, j5, j6⟩ := cells7 h5
        have HXV := Lib.hid (And.intro hxv (And.intro hyu hkn))
        have HAL := Lib.hid hall
        clear hs hln hlu hxv hyu hall hk hkn h4 h5 hlow hlow2
        cases hsm : enSame x y with
        | true =>
          rw [hsm] at HS
          have HT := Lib.hid hsm
          clear hsm
          go_wp2_with fail
          refine HS.out.mono ?_
          rintro r0 w5 ⟨rfl, h6⟩
          have HF := Lib.hid h6.drop.drop
          clear h6 HS e0 e1 e2 e3 e4 e5 e6 d0 d1 d2 d3 d4 d5 d6 g0 g1 g2 g3 g4 g5 g6 j0 j1 j2 j3 j4 j5 j6
          go_wp2_with fail
          go_roundw
          case rel =>
            refine ⟨k + 1, HXV.out.2.2, by go_num, fun j h h' hj => ?_, HF.out⟩
            by_cases hjk : j = k
            · subst hjk; rw [← HXV.out.1, ← HXV.out.2.1]; exact HT.out
            · exact HAL.out j h h' (by omega)
          case measure => have := HXV.out.2.2; simp [intOf]; omega
        | false =>
          rw [hsm] at HS
          have HT : Hid (¬ SameP xs ys) := Lib.hid fun hh => by
            have := hh.2 k hkx hky
            rw [← HXV.out.1, ← HXV.out.2.1] at this
            rw [show enSame x y = true from this] at hsm; cases hsm
          clear hsm
          go_wp2_with fail
          refine HS.out.mono ?_
          rintro r0 w5 ⟨rfl, h6⟩
          have HF := Lib.hid h6.drop.drop
          clear h6 HS e0 e1 e2 e3 e4 e5 e6 d0 d1 d2 d3 d4 d5 d6 g0 g1 g2 g3 g4 g5 g6 j0 j1 j2 j3 j4 j5 j6
          go_wp2_with fail
          go_ret
          exact ⟨false, rfl, ⟨(fun h => by cases h), fun h => absurd h HT.out⟩, HF.out⟩
      · have hd : decide (k < n) = false := decide_eq_false hkn
        have HF := Lib.hid hs
        have HT : Hid (SameP xs ys) := Lib.hid ⟨by have := HN.out; omega, fun j h h' => hall j h h' (by have := HN.out.1; omega)⟩
        clear hs hall hk hkn
        go_wp2_with fail
        go_ret
        exact ⟨true, rfl, ⟨fun _ => HT.out, fun _ => rfl⟩, HF.out⟩
  · have hne : ((n : Int) != (n' : Int)) = true := by rw [bne_iff_ne]; omega
    have HT : Hid (¬ SameP xs ys) := Lib.hid fun hh => by have := HN.out; have := hh.1; omega
    clear hll
    go_enter Tryd.func66, Tryd.ntmps66
    go_wp2_with fail
    go_ret
    exact ⟨false, rfl, ⟨(fun h => by cases h), fun h => absurd h HT.out⟩, Sep.start w⟩
-- the document's SameRow
theorem samerow_w {w : World} (a a' : Option Addr) (c c' : Nat) (xs ys : List (EnM × Value)) (hx : EnS w (.slice a xs.length c) xs) (hy : EnS w (.slice a' ys.length c') ys) (hl : xs.length ≤ 1000000) (hl' : ys.length ≤ 1000000) :
    Calls Tryd.prog 44 #[.slice a xs.length c, .slice a' ys.length c'] w fun e w' => ∃ r : Bool, e = .returned (.bool r) ∧ (r = true ↔ SameP xs ys) ∧ Sep w [] w' := by
  have HC := Lib.hid (eqfunc_w a a' c c' xs ys hx hy hl hl')
  clear hx hy hl hl'
  go_enter Tryd.func44, Tryd.ntmps44
  go_wp2_with fail
  refine HC.out.mono ?_
  rintro r0 w1 ⟨r, rfl, hr, h1⟩
  have HF := Lib.hid (And.intro hr h1)
  clear hr h1 HC
  go_wp2_with fail
  go_ret
  exact ⟨r, rfl, HF.out.1, HF.out.2⟩
end Go.Proofs.YtafkbodmiblbnaaDoor
