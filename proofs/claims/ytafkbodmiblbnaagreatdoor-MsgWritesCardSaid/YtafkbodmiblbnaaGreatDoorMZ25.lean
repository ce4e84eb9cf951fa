/- A region that draws its order, walked by number: several conditions on the world, each of which holds till an operation of its own has come up. -/
import Derived.Test.YtafkbodmiblbnaaGreatDoorMZ14
import Derived.Test.YtafkbodmiblbnaaGreatDoorMZ24
import Derived.Test.YtafkbodmiblbnaaGreatDoorMZ01
import Derived.Test.YtafkbodmiblbnaaGreatDoorMZ06
import Derived.Test.YtafkbodmiblbnaaGreatDoorMMg1
import Derived.Test.YtafkbodmiblbnaaGreatDoorMZ21
namespace Go.Proofs.YtafkbodmiblbnaaGreatDoor
open Go
set_option linter.unusedVariables false
section
variable {P : Program} {ops : Array Oper} {Q : Exit → Act → World → Prop} {md : Region.Mode} {C : List (Nat × (World → Prop))}
def CondH (C : List (Nat × (World → Prop))) (listed : Array Bool) (w : World) : Prop := ∀ p ∈ C, listed.getD p.1 true = false → p.2 w
/-- Whatever order is picked from here on; each condition of C holds till its own operation has come up. -/
def wpAnyH (P : Program) (md : Region.Mode) (ops : Array Oper) (Q : Exit → Act → World → Prop) (C : List (Nat × (World → Prop))) : Nat → Array Bool → Act → World → Prop
  | 0, listed, a, w => Region.ready md ops listed = [] ∧ Q .normal a w
  | fuel + 1, listed, a, w =>
    (Region.ready md ops listed = [] → Q .normal a w) ∧
    ∀ i ∈ Region.ready md ops listed, wpOp P ops Q i (fun a' w' => CondH C (listed.setIfInBounds i true) w' ∧ wpAnyH P md ops Q C fuel (listed.setIfInBounds i true) a' w') a w
theorem wpAny_of_H : ∀ (fuel : Nat) (listed : Array Bool) (a : Act) (w : World), wpAnyH P md ops Q C fuel listed a w → wpAny P md ops Q fuel listed a w
  | 0, _, _, _, h => h
  | fuel + 1, _, _, _, h => ⟨h.1, fun i hi => wpOp_mono (fun a' w' h' => wpAny_of_H fuel _ a' w' h'.2) (h.2 i hi)⟩
theorem CondH.put {listed : Array Bool} {w : World} {i : Nat} (hi : ∀ p ∈ C, p.1 ≠ i) (h : CondH C listed w) : CondH C (listed.setIfInBounds i true) w := fun p hp hl => h p hp (by rw [getD_set_ne true (Ne.symm (hi p hp))] at hl; exact hl)
theorem CondH.back {listed : Array Bool} {w : World} {i : Nat} (hi : ∀ p ∈ C, p.1 ≠ i) (h : CondH C (listed.setIfInBounds i true) w) : CondH C listed w := fun p hp hl => h p hp (by rw [getD_set_ne true (Ne.symm (hi p hp))]; exact hl)
theorem wpAnyH_first {V : List Nat} {t : Nat} {S : World → Prop} (hm : (t, S) ∈ C) (hTV : t ∈ V) {i : Nat} (hiC : ∀ p ∈ C, p.1 ≠ i) {oi : Oper} {v : Value} (hi : ops[i]? = some oi) (hsel : ∀ (j : Nat) (o : Oper) cs b, ops[j]? = some o → o.op ≠ .select cs b)
    (hQ : ∀ c a w, Q (.panic c) (a.put oi.dst v) w → Q (.panic c) a w) (hch : chained md ops V i) :
    ∀ (fuel : Nat) (listed : Array Bool) (a : Act) (w : World),
      (∀ j oj, ops[j]? = some oj → j ≠ i → listed.getD j true = false → (∀ e ∈ oj.after, Region.binds md e = true → e.on ≠ i) → oi.apart ops oj = true) →
      i ∈ Region.ready md ops listed → unlisted V listed → YieldsIf P ops S oi v a → CondH C listed w →
      wpAnyH P md ops Q C fuel (listed.setIfInBounds i true) (a.put oi.dst v) w → wpAnyH P md ops Q C (fuel + 1) listed a w := by
  intro fuel
  induction fuel with
  | zero =>
    intro listed a w _ hr hu hy hS H
    refine ⟨fun h => (by rw [h] at hr; cases hr), fun j hj => ?_⟩
    by_cases hji : j = i
    · subst hji; exact hy.wpOp hi (hS _ hm (hu t hTV)) ⟨hS.put hiC, H⟩
    · have := ready_mono hj hji
      rw [H.1] at this
      cases this
  | succ fuel ih =>
    intro listed a w hfree hr hu hy hS H
    refine ⟨fun h => (by rw [h] at hr; cases hr), fun j hj => ?_⟩
    by_cases hji : j = i
    · subst hji; exact hy.wpOp hi (hS _ hm (hu t hTV)) ⟨hS.put hiC, H⟩
    · have h1 := H.2 j (ready_mono hj hji)
      obtain ⟨hjun, oj, hoj, hall⟩ := mem_ready.1 hj
      have hjV := not_mem_of_ready hu hch (mem_ready.1 hr).1 hj
      have hnot : ∀ e ∈ oj.after, Region.binds md e = true → e.on ≠ i := fun e he hb heq => by
        have h1 := hall e he hb
        rw [heq] at h1
        exact getD_false_of_unlisted (mem_ready.1 hr).1 h1
      have h2 := wpOp_putIf hoj (hfree j oj hoj hji hjun hnot) (fun cs b => hsel i oi cs b hi) (fun cs b => hsel j oj cs b hoj) hQ hy h1
      have hfree' : ∀ k ok, ops[k]? = some ok → k ≠ i → (listed.setIfInBounds j true).getD k true = false →
          (∀ e ∈ ok.after, Region.binds md e = true → e.on ≠ i) → oi.apart ops ok = true := fun k ok hk hki hun hno => by
        refine hfree k ok hk hki ?_ hno
        by_cases hjk : j = k
        · subst hjk; exact hjun
        · rw [getD_set_ne true hjk] at hun; exact hun
      have hu' : unlisted V (listed.setIfInBounds j true) := fun t ht => by
        rw [getD_set_ne true (fun e => by subst e; exact hjV ht)]; exact hu t ht
      refine wpOp_mono (fun a' w' h3 => ?_) h2
      have hc : CondH C (listed.setIfInBounds j true) w' := by
        have := h3.2.1
        rw [Array.setIfInBounds_comm _ _ (Ne.symm hji)] at this
        exact this.back hiC
      refine ⟨hc, ih (listed.setIfInBounds j true) a' w' hfree' (ready_mono hr (Ne.symm hji)) hu' h3.1 hc ?_⟩
      rw [Array.setIfInBounds_comm _ _ hji]
      exact h3.2.2
/-- Number i is taken first, by the condition that holds till t, which waits for i. -/
theorem wpAnyH_take {i : Nat} (t : Nat) {S : World → Prop} {oi : Oper} {v : Value} {fuel : Nat} {listed : Array Bool} {a : Act} {w : World} (hm : (t, S) ∈ C) (hiC : (C.all fun p => !(p.1 == i)) = true) (hi : ops[i]? = some oi)
    (hs : Region.noSelect ops = true) (hf : Region.free md ops listed i = true) (hr : (Region.ready md ops listed).contains i = true) (hT : ((after md ops listed i).contains t && waits md ops (after md ops listed i) listed i) = true)
    (hQ : ∀ c a w, Q (.panic c) (a.put oi.dst v) w → Q (.panic c) a w) (hy : YieldsIf P ops S oi v a) (hS : CondH C listed w)
    (h : CondH C (listed.setIfInBounds i true) w → wpAnyH P md ops Q C fuel (listed.setIfInBounds i true) (a.put oi.dst v) w) : wpAnyH P md ops Q C (fuel + 1) listed a w := by
  obtain ⟨h1, h2⟩ := Bool.and_eq_true_iff.1 hT
  have hne : ∀ p ∈ C, p.1 ≠ i := fun p hp => by
    have := List.all_eq_true.1 hiC p hp
    simpa using this
  exact wpAnyH_first (V := after md ops listed i) hm (by simpa using h1) hne hi (Region.noSelect_spec hs) hQ (waits_spec h2).2 fuel listed a w (Region.free_spec hi hf) (by simpa using hr) (waits_spec h2).1 hy hS (h (hS.put hne))
/-- The same, where all the conditions hold yet. -/
theorem wpAnyH_read {i : Nat} (t : Nat) {S : World → Prop} {oi : Oper} {v : Value} {fuel : Nat} {listed : Array Bool} {a : Act} {w : World} (hm : (t, S) ∈ C) (hiC : (C.all fun p => !(p.1 == i)) = true) (hi : ops[i]? = some oi)
    (hs : Region.noSelect ops = true) (hf : Region.free md ops listed i = true) (hr : (Region.ready md ops listed).contains i = true) (hT : ((after md ops listed i).contains t && waits md ops (after md ops listed i) listed i) = true)
    (hQ : ∀ c a w, Q (.panic c) (a.put oi.dst v) w → Q (.panic c) a w) (hy : YieldsIf P ops S oi v a) (hS : ∀ p ∈ C, p.2 w)
    (h : wpAnyH P md ops Q C fuel (listed.setIfInBounds i true) (a.put oi.dst v) w) : wpAnyH P md ops Q C (fuel + 1) listed a w :=
  wpAnyH_take t hm hiC hi hs hf hr hT hQ hy (fun p hp _ => hS p hp) fun _ => h
theorem wpAnyH_one {i : Nat} {o : Oper} {fuel : Nat} {listed : Array Bool} {a : Act} {w : World} (hr : Region.ready md ops listed = [i]) (ho : ops[i]? = some o)
    (h : ∀ K' : Act → World → Prop, Shut (∀ a w, CondH C (listed.setIfInBounds i true) w → wpAnyH P md ops Q C fuel (listed.setIfInBounds i true) a w → K' a w) → if Region.wanted o (yielded ops a.tmps) = true then Oper.wp P o a w K' Q else K' (a.put o.dst undef) w) :
    wpAnyH P md ops Q C (fuel + 1) listed a w := by
  refine ⟨fun h0 => (by rw [hr] at h0; cases h0), fun j hj => ?_⟩
  rw [hr] at hj
  obtain rfl := List.mem_singleton.1 hj
  exact wpOp_step ho fun K' hK => h K' fun a w h1 h2 => hK a w ⟨h1, h2⟩
theorem wpAnyH_done {listed : Array Bool} {a : Act} {w : World} (hr : Region.ready md ops listed = []) (h : Q .normal a w) : ∀ fuel, wpAnyH P md ops Q C fuel listed a w
  | 0 => ⟨hr, h⟩
  | _ + 1 => ⟨fun _ => h, by rw [hr]; simp⟩
theorem wp_region_H (C : List (Nat × (World → Prop))) (l : Array Bool) {id : Nat} {a : Act} {w : World} (hm : P.follows .mixedOrders = true) (hl : Array.replicate ops.size false = l)
    (hS : ∀ p ∈ C, p.2 w.drew) (h : (∀ p ∈ C, p.2 w.drew) → wpAnyH P .any ops Q C ops.size l a w.drew) : (Code.region id ops true).wp P Q a w := by
  subst hl
  exact wp_region_any hm (wpAny_of_H _ _ _ _ (h hS))
end
end Go.Proofs.YtafkbodmiblbnaaGreatDoor
/- Package sum: slices.Reverse of four bytes of one's own, tail, Seal. -/
namespace Go.Proofs.YtafkbodmiblbnaaGreatDoor
open Go Go.RowKit
set_option linter.unusedVariables false
set_option linter.unusedSimpArgs false
theorem bv_set (l : List UInt8) (k : Nat) (x : UInt8) : (bv l).set k (.int .u8 x.toNat) = bv (l.set k x) := by unfold bv; rw [List.map_set]
theorem Sep.byForm {w0 w : World} {b n c : Nat} {ys : List UInt8} {L : List Thing} (h : Sep w0 (By (.slice (some ⟨b, 0, none⟩) n c) ys :: L) w) (hn : 0 < ys.length) :
    ys.length = n ∧ n ≤ c ∧ (∀ k (hk : k < ys.length), w.cell? ⟨b, k, none⟩ = some (.int .u8 (ys[k]).toNat)) ∧ (∀ k, w.frozen? ⟨b, k, none⟩ = false) ∧ ∀ k x, k < ys.length → Sep w0 (By (.slice (some ⟨b, 0, none⟩) n c) (ys.set k x) :: L) (w.setCell ⟨b, k, none⟩ (.int .u8 x.toNat)) := by
  obtain ⟨b', c', hv, h1, h2, h3, h4, h5⟩ := h.rowForm (by rw [bv_length]; exact hn)
  simp only [Value.slice.injEq, Option.some.injEq, Addr.mk.injEq, and_true] at hv
  obtain ⟨rfl, e2, rfl⟩ := hv
  rw [bv_length] at e2 h1
  refine ⟨e2.symm, by omega, fun k hk => ?_, h4, fun k x hk => ?_⟩
  · have := h3 k (by rw [bv_length]; exact hk)
    rw [this]
    have h6 := bv_get ys k hk
    rw [List.getElem?_eq_getElem (by rw [bv_length]; exact hk)] at h6
    exact h6
  · have := h5 k (.int .u8 x.toNat) (by rw [bv_length]; exact hk)
    rw [bv_set] at this
    exact this
theorem Sep.byAt {w0 w : World} {v : Value} {ys : List UInt8} {L : List Thing} (h : Sep w0 (By v ys :: L) w) (hn : 0 < ys.length) : ∃ b c, v = .slice (some ⟨b, 0, none⟩) ys.length c := by
  obtain ⟨b', c', hv, -⟩ := h.rowForm (by rw [bv_length]; exact hn)
  exact ⟨b', c', by rw [hv, bv_length]⟩
def rvK (l : List UInt8) : Nat → List UInt8
  | 0 => l
  | k + 1 => ((rvK l k).set k ((rvK l k).getD (3 - k) 0)).set (3 - k) ((rvK l k).getD k 0)
theorem rvK_len (l : List UInt8) : ∀ k, (rvK l k).length = l.length
  | 0 => rfl
  | k + 1 => by unfold rvK; rw [List.length_set, List.length_set, rvK_len l k]
theorem rvK_two (l : List UInt8) (h : l.length = 4) : rvK l 2 = l.reverse := by
  match l, h with
  | [a, b, c, d], _ => rfl
set_option maxRecDepth 100000 in
set_option maxHeartbeats 4000000 in
theorem rev4_any {w0 w : World} {L : List Thing} {v : Value} (l : List UInt8) (h : Sep w0 (By v l :: L) w) (hl : l.length = 4) :
    Calls Tryz.prog 117 #[v] w fun e w' => e = .returned (.tuple #[]) ∧ Sep w0 (By v l.reverse :: L) w' := by
  obtain ⟨b, c, rfl⟩ := h.byAt (by omega)
  rw [hl] at h ⊢
  have H := Lib.hid h
  have HL := Lib.hid hl
  clear h hl
  go_enter Tryz.func117, Tryz.ntmps117
  (try dsimp only); repeat' (first | go_values | go_skip | go_guarded | go_step | go_upon | go_back)
  go_loopw [2, 3] (fun i j wr => ∃ k : Nat, k ≤ 2 ∧ i = .int .i64 k ∧ j = .int .i64 (3 - (k : Int)) ∧ Sep w0 (By (.slice (some ⟨b, 0, none⟩) 4 c) (rvK l k) :: L) wr) (fun i _ _ => 2 - (intOf i).toNat)
  case atStart => exact ⟨0, Nat.zero_le _, rfl, rfl, H.out⟩
  case round =>
    obtain ⟨k, hk, rfl, rfl, hs⟩ := hrel
    clear H
    by_cases hgo : k < 2
    · obtain ⟨m, hm⟩ : ∃ m : Nat, m = 3 - k := ⟨_, rfl⟩
      have hmi : 3 - (k : Int) = (m : Int) := by omega
      rw [hmi]
      have k0 : (0 : Int) ≤ (k : Int) := by omega
      have m0 : (0 : Int) ≤ (m : Int) := by omega
      have k4 : (k : Int) < 4 := by omega
      have m4 : (m : Int) < 4 := by omega
      have d0 : decide (k < m) = true := decide_eq_true (by omega)
      have hlen : (rvK l k).length = 4 := by rw [rvK_len, HL.out]
      obtain ⟨-, hc4, hcell, hfr, hset⟩ := hs.byForm (by omega)
      have e0 := hcell k (by omega)
      have e1 := hcell m (by omega)
      have hs1 := hset k (rvK l k)[m] (by omega)
      have hlen1 : ((rvK l k).set k (rvK l k)[m]).length = 4 := by rw [List.length_set, hlen]
      obtain ⟨-, -, hcell1, hfr1, hset1⟩ := hs1.byForm (by omega)
      have e2 := hcell1 m (by omega)
      rw [List.getElem_set_ne (by omega)] at e2
      have hs2 := hset1 m (rvK l k)[k] (by omega)
      have f0 := hfr k
      have f1 := hfr1 m
      have hrv : ((rvK l k).set k (rvK l k)[m]).set m (rvK l k)[k] = rvK l (k + 1) := by
        show _ = ((rvK l k).set k ((rvK l k).getD (3 - k) 0)).set (3 - k) ((rvK l k).getD k 0)
        rw [← hm, List.getD_eq_getElem?_getD, List.getD_eq_getElem?_getD, List.getElem?_eq_getElem (by omega), List.getElem?_eq_getElem (by omega)]
        rfl
      rw [hrv] at hs2
      obtain ⟨p, hp⟩ : ∃ p : Int, p = (rvK l k)[k].toNat := ⟨_, rfl⟩
      obtain ⟨q, hq⟩ : ∃ q : Int, q = (rvK l k)[m].toNat := ⟨_, rfl⟩
      rw [← hp] at e0 hs2
      rw [← hq] at e1 e2 hs2 f1
      have g0 : wr.drew.cell? ⟨b, k, none⟩ = some (.int .u8 p) ∧ wr.drew.cell? ⟨b, m, none⟩ = some (.int .u8 q) := ⟨e0, e1⟩
      have G0 := Lib.hid g0
      have H2 := Lib.hid hs2.drew
      have HM := Lib.hid (And.intro hm hgo)
      clear hcell hfr hset hs1 hlen1 hcell1 hfr1 hset1 hs2 hrv hp hq hs hlen hk hm hgo
      (try dsimp only); repeat' (first | go_values | go_skip | go_guarded | go_step | go_upon | go_back)
      refine wp_region_H [(13, fun w' => w'.cell? ⟨b, k, none⟩ = some (.int .u8 p) ∧ w'.cell? ⟨b, m, none⟩ = some (.int .u8 q)), (15, fun _ => True)] #[false, false, false, false, false, false, false, false, false, false, false, false, false, false, false, false] (by kernel_rfl) (by kernel_rfl) (by intro p hp; simp only [List.mem_cons, List.not_mem_nil, or_false] at hp; rcases hp with rfl | rfl; exact g0; exact trivial) (fun hS => ?_)
      refine wpAnyH_read (i := 0) (v := ?v0_1rv) 13 (List.mem_cons_self ..) (by kernel_rfl) rfl (by kernel_rfl) (by kernel_rfl) (by kernel_rfl) (by kernel_rfl) (fun _ _ _ h => h) (Or.inl ⟨by rfl, ?hy0_1rv⟩) hS ?rest0_1rv
      case hy0_1rv => intro w hSw; (try dsimp only at hSw); go_simp; (try with_reducible rfl)
      case rest0_1rv =>
      try simp only [nz0, nz1, nz2, Act.put, nz3, nz4, nz5]
      refine wpAnyH_read (i := 1) (v := ?v1_2rv) 13 (List.mem_cons_self ..) (by kernel_rfl) rfl (by kernel_rfl) (by kernel_rfl) (by kernel_rfl) (by kernel_rfl) (fun _ _ _ h => h) (Or.inl ⟨by rfl, ?hy1_2rv⟩) hS ?rest1_2rv
      case hy1_2rv => intro w hSw; (try dsimp only at hSw); go_simp; (try with_reducible rfl)
      case rest1_2rv =>
      try simp only [nz0, nz1, nz2, Act.put, nz3, nz4, nz5]
      refine wpAnyH_read (i := 4) (v := ?v4_3rv) 13 (List.mem_cons_self ..) (by kernel_rfl) rfl (by kernel_rfl) (by kernel_rfl) (by kernel_rfl) (by kernel_rfl) (fun _ _ _ h => h) (Or.inl ⟨by rfl, ?hy4_3rv⟩) hS ?rest4_3rv
      case hy4_3rv => intro w hSw; (try dsimp only at hSw); go_simp; (try with_reducible rfl)
      case rest4_3rv =>
      try simp only [nz0, nz1, nz2, Act.put, nz3, nz4, nz5]
      refine wpAnyH_read (i := 5) (v := ?v5_4rv) 13 (List.mem_cons_self ..) (by kernel_rfl) rfl (by kernel_rfl) (by kernel_rfl) (by kernel_rfl) (by kernel_rfl) (fun _ _ _ h => h) (Or.inl ⟨by rfl, ?hy5_4rv⟩) hS ?rest5_4rv
      case hy5_4rv => intro w hSw; (try dsimp only at hSw); go_simp; (try with_reducible rfl)
      case rest5_4rv =>
      try simp only [nz0, nz1, nz2, Act.put, nz3, nz4, nz5]
      refine wpAnyH_read (i := 6) (v := ?v6_5rv) 13 (List.mem_cons_self ..) (by kernel_rfl) rfl (by kernel_rfl) (by kernel_rfl) (by kernel_rfl) (by kernel_rfl) (fun _ _ _ h => h) (Or.inl ⟨by rfl, ?hy6_5rv⟩) hS ?rest6_5rv
      case hy6_5rv => intro w hSw; (try dsimp only at hSw); go_simp; (try with_reducible rfl)
      case rest6_5rv =>
      try simp only [nz0, nz1, nz2, Act.put, nz3, nz4, nz5]
      refine wpAnyH_read (i := 7) (v := ?v7_6rv) 13 (List.mem_cons_self ..) (by kernel_rfl) rfl (by kernel_rfl) (by kernel_rfl) (by kernel_rfl) (by kernel_rfl) (fun _ _ _ h => h) (Or.inl ⟨by rfl, ?hy7_6rv⟩) hS ?rest7_6rv
      case hy7_6rv => intro w hSw; (try dsimp only at hSw); go_simp; (try with_reducible rfl)
      case rest7_6rv =>
      try simp only [nz0, nz1, nz2, Act.put, nz3, nz4, nz5]
      refine wpAnyH_read (i := 8) (v := ?v8_7rv) 13 (List.mem_cons_self ..) (by kernel_rfl) rfl (by kernel_rfl) (by kernel_rfl) (by kernel_rfl) (by kernel_rfl) (fun _ _ _ h => h) (Or.inl ⟨by rfl, ?hy8_7rv⟩) hS ?rest8_7rv
      case hy8_7rv => intro w hSw; (try dsimp only at hSw); go_simp; (try with_reducible rfl)
      case rest8_7rv =>
      try simp only [nz0, nz1, nz2, Act.put, nz3, nz4, nz5]
      refine wpAnyH_read (i := 9) (v := ?v9_8rv) 13 (List.mem_cons_self ..) (by kernel_rfl) rfl (by kernel_rfl) (by kernel_rfl) (by kernel_rfl) (by kernel_rfl) (fun _ _ _ h => h) (Or.inl ⟨by rfl, ?hy9_8rv⟩) hS ?rest9_8rv
      case hy9_8rv => intro w hSw; (try dsimp only at hSw); go_simp; (try with_reducible rfl)
      case rest9_8rv =>
      try simp only [nz0, nz1, nz2, Act.put, nz3, nz4, nz5]
      refine wpAnyH_read (i := 10) (v := ?v10_9rv) 13 (List.mem_cons_self ..) (by kernel_rfl) rfl (by kernel_rfl) (by kernel_rfl) (by kernel_rfl) (by kernel_rfl) (fun _ _ _ h => h) (Or.inl ⟨by rfl, ?hy10_9rv⟩) hS ?rest10_9rv
      case hy10_9rv => intro w hSw; (try dsimp only at hSw); go_simp; (try with_reducible rfl)
      case rest10_9rv =>
      try simp only [nz0, nz1, nz2, Act.put, nz3, nz4, nz5]
      refine wpAnyH_read (i := 11) (v := ?v11_10rv) 13 (List.mem_cons_self ..) (by kernel_rfl) rfl (by kernel_rfl) (by kernel_rfl) (by kernel_rfl) (by kernel_rfl) (fun _ _ _ h => h) (Or.inl ⟨by rfl, ?hy11_10rv⟩) hS ?rest11_10rv
      case hy11_10rv => intro w hSw; (try dsimp only at hSw); go_simp; (try with_reducible rfl)
      case rest11_10rv =>
      try simp only [nz0, nz1, nz2, Act.put, nz3, nz4, nz5]
      refine wpAnyH_read (i := 2) (v := ?v2_11rv) 15 (List.mem_cons_of_mem _ (List.mem_cons_self ..)) (by kernel_rfl) rfl (by kernel_rfl) (by kernel_rfl) (by kernel_rfl) (by kernel_rfl) (fun _ _ _ h => h) (Or.inl ⟨by rfl, ?hy2_11rv⟩) hS ?rest2_11rv
      case hy2_11rv => intro w hSw; (try dsimp only at hSw); go_simp; (try with_reducible rfl)
      case rest2_11rv =>
      try simp only [nz0, nz1, nz2, Act.put, nz3, nz4, nz5]
      refine wpAnyH_read (i := 3) (v := ?v3_12rv) 15 (List.mem_cons_of_mem _ (List.mem_cons_self ..)) (by kernel_rfl) rfl (by kernel_rfl) (by kernel_rfl) (by kernel_rfl) (by kernel_rfl) (fun _ _ _ h => h) (Or.inl ⟨by rfl, ?hy3_12rv⟩) hS ?rest3_12rv
      case hy3_12rv => intro w hSw; (try dsimp only at hSw); go_simp; (try with_reducible rfl)
      case rest3_12rv =>
      try simp only [nz0, nz1, nz2, Act.put, nz3, nz4, nz5]
      refine wpAnyH_one (i := 12) (by kernel_rfl) rfl (fun K hK => ?_)
      go_simp
      refine hK.out _ _ ?hS13rv ?rest13rv
      case hS13rv => (intro p hp hl; simp only [List.mem_cons, List.not_mem_nil, or_false] at hp; rcases hp with rfl | rfl; exact G0.out; exact trivial)
      case rest13rv =>
      clear K hK
      try simp only [nz0, nz1, nz2, Act.put, nz3, nz4, nz5]
      refine wpAnyH_one (i := 13) (by kernel_rfl) rfl (fun K hK => ?_)
      go_simp
      refine hK.out _ _ ?hS14rv ?rest14rv
      case hS14rv => (intro p hp hl; simp only [List.mem_cons, List.not_mem_nil, or_false] at hp; rcases hp with rfl | rfl; (exact absurd (hl.symm.trans (by kernel_rfl)) Bool.false_ne_true); exact trivial)
      case rest14rv =>
      clear K hK
      try simp only [nz0, nz1, nz2, Act.put, nz3, nz4, nz5]
      refine wpAnyH_one (i := 14) (by kernel_rfl) rfl (fun K hK => ?_)
      go_simp
      refine hK.out _ _ ?hS15rv ?rest15rv
      case hS15rv => (intro p hp hl; simp only [List.mem_cons, List.not_mem_nil, or_false] at hp; rcases hp with rfl | rfl; (exact absurd (hl.symm.trans (by kernel_rfl)) Bool.false_ne_true); exact trivial)
      case rest15rv =>
      clear K hK
      try simp only [nz0, nz1, nz2, Act.put, nz3, nz4, nz5]
      refine wpAnyH_one (i := 15) (by kernel_rfl) rfl (fun K hK => ?_)
      go_simp
      refine hK.out _ _ ?hS16rv ?rest16rv
      case hS16rv => (intro p hp hl; simp only [List.mem_cons, List.not_mem_nil, or_false] at hp; rcases hp with rfl | rfl; (exact absurd (hl.symm.trans (by kernel_rfl)) Bool.false_ne_true); (exact absurd (hl.symm.trans (by kernel_rfl)) Bool.false_ne_true))
      case rest16rv =>
      clear K hK
      try simp only [nz0, nz1, nz2, Act.put, nz3, nz4, nz5]
      refine wpAnyH_done (by kernel_rfl) ?_ _
      try simp only [nz0, nz1, nz2, Act.put, nz3, nz4, nz5]
      (try dsimp only); repeat' (first | go_values | go_skip | go_guarded | go_step | go_upon | go_back)
      go_roundw
      case rel => exact ⟨k + 1, by have := HM.out.2; omega, by go_num, by go_num, H2.out⟩
      case measure => have := HM.out.2; simp [intOf]; omega
    · have hk2 : k = 2 := by omega
      subst hk2
      rw [rvK_two l HL.out] at hs
      have HS := Lib.hid hs
      clear hs hk hgo
      (try dsimp only); repeat' (first | go_values | go_skip | go_guarded | go_step | go_upon | go_back)
      exact bodyPost_end (results_none rfl _ _ _) rfl ⟨rfl, HS.out⟩
def tailL (l : List UInt8) : List UInt8 := (beL 4 (crcL l)).reverse
theorem tailL_len (l : List UInt8) : (tailL l).length = 4 := by unfold tailL; rw [List.length_reverse, beL_len]
set_option maxRecDepth 100000 in
set_option maxHeartbeats 4000000 in
theorem tail_any {w0 w : World} {L : List Thing} {v : Value} (l : List UInt8) (h : Sep w0 L w) (hv : Sl w v (bv l)) (hl : l.length ≤ 1099511627776) :
    Calls Tryz.prog 83 #[v] w fun e w' => ∃ u, e = .returned u ∧ Sep w0 (By u (tailL l) :: L) w' := by
  have HC := Lib.hid (crcOf_any v l w hv hl)
  have HP := Lib.hid ((put_ok 4 (by omega) (.slice none 0 0) [] (crcL l) w (crcL_lt l) (by exact (own_nil w 0).sl) (by simp)).mono fun e w' ⟨⟨v', he, ho⟩, hb⟩ => (show ∃ v', e = Ending.returned (.tuple #[v', .int .i64 0]) ∧ Sep w0 (By v' (beL 4 (crcL l)) :: L) w' from ⟨v', he, h.row hb ho⟩))
  have HB : Hid ((beL 4 (crcL l)).reverse = tailL l) := Lib.hid rfl
  have HL := Lib.hid (beL_len 4 (crcL l))
  have hx := crcL_lt l
  obtain ⟨x, hxx⟩ : ∃ x, x = crcL l := ⟨_, rfl⟩
  rw [← hxx] at HC HP HB HL hx
  have HM : Hid ((x : Int) % 18446744073709551616 = (x : Int)) := Lib.hid (by omega)
  have x0 : (0 : Int) ≤ (x : Int) := by omega
  have x1 : (x : Int) < 18446744073709551616 := by omega
  clear h hv hl hxx hx
  go_enter Tryz.func83, Tryz.ntmps83
  (try dsimp only); repeat' (first | go_values | go_skip | go_guarded | go_step | go_upon | go_back)
  refine HC.out.mono ?_
  rintro r0 w1 ⟨rfl, rfl⟩
  clear HC
  (try dsimp only); repeat' (first | go_values | go_skip | go_guarded | go_step | go_upon | go_back)
  (try rw [HM.out])
  refine HP.out.mono ?_
  rintro r0 w2 ⟨u, rfl, h2⟩
  have HR := Lib.hid (rev4_any _ h2 HL.out)
  rw [HB.out] at HR
  clear HP h2
  (try dsimp only); repeat' (first | go_values | go_skip | go_guarded | go_step | go_upon | go_back)
  refine HR.out.mono ?_
  rintro r0 w3 ⟨rfl, h3⟩
  have H3 := Lib.hid h3
  clear HR h3
  (try dsimp only); repeat' (first | go_values | go_skip | go_guarded | go_step | go_upon | go_back)
  go_ret
  exact ⟨u, rfl, H3.out⟩
/-- What Seal answers. -/
def sealL (l : List UInt8) : List UInt8 := l ++ tailL l
set_option maxRecDepth 100000 in
set_option maxHeartbeats 4000000 in
theorem seal_ok {w0 w : World} {L : List Thing} {v : Value} (l : List UInt8) (h : Sep w0 L w) (hv : Sl w v (bv l)) (hl : l.length ≤ 65532) :
    Calls Tryz.prog 34 #[v] w fun e w' => ∃ u, e = .returned (.tuple #[u, .int .i64 0]) ∧ Sep w0 (By u (sealL l) :: L) w' := by
  obtain ⟨a, c, rfl⟩ := slB hv
  obtain ⟨n, hn⟩ : ∃ n, n = l.length := ⟨_, rfl⟩
  have HT := Lib.hid (tail_any l (Sep.start w) hv (by omega))
  have HH := Lib.hid h
  have HV := Lib.hid hv
  have HZ := Lib.hid (And.intro h.size (And.intro hn hl))
  rw [← hn] at HT HV hl ⊢
  have n0 : (0 : Int) ≤ (n : Int) := by omega
  have n1 : decide ((65532 : Int) < (n : Int)) = false := decide_eq_false (by omega)
  have n2 : decide (65532 < n) = false := decide_eq_false (by omega)
  have n3 : ¬ (65532 : Int) < (n : Int) := by omega
  have HW : Hid (∀ wx, Below w.heap.size w wx → Sl wx (.slice a n c) (bv l)) := Lib.hid fun wx hb => HV.out.below hb
  clear h hv hn hl
  go_enter Tryz.func34, Tryz.ntmps34
  (try dsimp only); repeat' (first | go_values | go_skip | go_guarded | go_step | go_upon | go_back)
  refine HT.out.mono ?_
  rintro r0 w1 ⟨u, rfl, h1⟩
  clear HT
  obtain ⟨b, c', rfl⟩ := h1.byAt (by rw [tailL_len]; omega)
  have H1 := Lib.hid h1
  have HS := Lib.hid (show l.length + (tailL l).length ≤ 2199023255552 by rw [tailL_len]; have := HZ.out.2.1; have := HZ.out.2.2; omega)
  rw [tailL_len]
  clear h1
  (try dsimp only); repeat' (first | go_values | go_skip | go_guarded | go_step | go_upon | go_back)
  refine (concat_lit2 (.slice a n c) (.slice (some ⟨b, 0, none⟩) 4 c') l (tailL l) w1 (HW.out w1 H1.out.low) (by have := H1.out.sl; rw [tailL_len] at this; exact this) HS.out _).mono ?_
  rintro r0 w2 ⟨⟨v2, rfl, ho⟩, hb⟩
  have hb2 := H1.out.low.trans (hb.mono H1.out.low.size)
  have HF : Hid (Sep w0 (By v2 (sealL l) :: L) w2) := Lib.hid (HH.out.row hb2 (ho.base H1.out.low.size))
  clear hb hb2 ho
  (try dsimp only); repeat' (first | go_values | go_skip | go_guarded | go_step | go_upon | go_back)
  exact bodyPost_ret (results_tmp2 rfl _ _ _) rfl ⟨_, rfl, HF.out⟩
end Go.Proofs.YtafkbodmiblbnaaGreatDoor
/- Package sum: Open. -/
namespace Go.Proofs.YtafkbodmiblbnaaGreatDoor
open Go Go.RowKit
set_option linter.unusedVariables false
set_option linter.unusedSimpArgs false
set_option maxRecDepth 100000 in
set_option maxHeartbeats 8000000 in
theorem open_any {w0 w : World} {L : List Thing} {v : Value} (l : List UInt8) (m : Nat) (h : Sep w0 L w) (hv : Sl w v (bv l)) (hm : l.length = m + 4) (hl : l.length ≤ 65536) :
    Calls Tryz.prog 73 #[v] w fun e w' => if tailL (l.take m) = l.drop m then ∃ u, e = .returned (.tuple #[u, .int .i64 0]) ∧ Sep w0 (By u (l.take m) :: L) w' else e = .returned (.tuple #[.slice none 0 0, .int .i64 20]) ∧ Sep w0 L w' := by
  obtain ⟨a, c, rfl⟩ := slB hv
  obtain ⟨b, off, rfl, hnl, -⟩ := sl_at hv (by omega)
  obtain ⟨d, hd⟩ : ∃ d, c = m + 4 + d := by
    rcases hv with (⟨h1, h2⟩ | ⟨b', off', cap, h1, h2, h3, h4, h5⟩) | ⟨x, c', h1, h2⟩
    · simp only [Value.slice.injEq] at h1; omega
    · simp only [Value.slice.injEq] at h1; rw [bv_length] at h2; exact ⟨c - (m + 4), by omega⟩
    · simp only [Value.slice.injEq] at h1; omega
  subst hd
  have hp := sl_part hv rfl 0 m (Nat.zero_le _) (by omega)
  have hq := sl_part hv rfl m l.length (by omega) (Nat.le_refl _)
  rw [hm] at hq hl ⊢
  try rw [hm] at hv
  try rw [hm] at hp
  rw [if_neg (by omega), List.take_of_length_le (by omega), show m + 4 - m = 4 by omega, show m + 4 + d - m = 4 + d by omega] at hq
  rw [if_neg (by omega), List.drop_zero, Nat.sub_zero, Nat.sub_zero] at hp
  have hp : Sl w (.slice (some ⟨b, off, none⟩) m (m + 4 + d)) (bv (l.take m)) := hp
  have hq : Sl w (.slice (some ⟨b, off + m, none⟩) 4 (4 + d)) (bv (l.drop m)) := by
    have e : (Addr.add ⟨b, off, none⟩ m) = ⟨b, off + m, none⟩ := by
      unfold Addr.add
      split
      · rename_i h0; rw [h0]; rfl
      · rfl
    rw [Option.map_some, e] at hq
    exact hq
  have HT := Lib.hid (tail_any (l.take m) (Sep.start w.drew) (hp.below ((Below.refl _ w).drew)) (by rw [List.length_take]; omega))
  have HW : Hid (∀ wx, Below w.drew.heap.size w.drew wx → Sl wx (.slice (some ⟨b, off + m, none⟩) 4 (4 + d)) (bv (l.drop m))) := Lib.hid fun wx hb => (hq.below ((Below.refl _ w).drew)).below hb
  have HP : Hid (∀ wx, Below w.drew.heap.size w.drew wx → Sl wx (.slice (some ⟨b, off, none⟩) m (m + 4 + d)) (bv (l.take m))) := Lib.hid fun wx hb => (hp.below ((Below.refl _ w).drew)).below hb
  have HN := Lib.hid hm
  have HH := Lib.hid h.drew
  have m0 : (0 : Int) ≤ (m : Int) := by omega
  have d0 : (0 : Int) ≤ (d : Int) := by omega
  have n1 : ¬ (65536 : Int) < (m : Int) + 4 := by omega
  have n2 : ¬ (m : Int) + 4 < 4 := by omega
  have n3 : (m : Int) ≤ (m : Int) + 4 + (d : Int) := by omega
  have n4 : (m : Int) ≤ (m : Int) + 4 := by omega
  have n5 : (m : Int) + 4 ≤ (m : Int) + 4 + (d : Int) := by omega
  clear h hv hp hq hm hl hnl
  go_enter Tryz.func73, Tryz.ntmps73
  (try dsimp only); repeat' (first | go_values | go_skip | go_guarded | go_step | go_upon | go_back)
  refine wp_region_G (fun _ => True) [] (by kernel_rfl) trivial (fun hS => ?_)
  try dsimp only at hS
  refine wpAnyG_take' (i := 0) (v := ?v0_1op) rfl (by kernel_rfl) (by kernel_rfl) (by kernel_rfl) (by kernel_rfl) (fun _ _ _ h => h) (Or.inl ⟨by rfl, ?hy0_1op⟩) hS ?rest0_1op
  case hy0_1op => intro w hSw; (try dsimp only at hSw); go_simp; (try with_reducible rfl)
  case rest0_1op =>
  try simp only [nz0, nz1, nz2, Act.put, nz3, nz4, nz5]
  refine wpAnyG_take' (i := 2) (v := ?v2_2op) rfl (by kernel_rfl) (by kernel_rfl) (by kernel_rfl) (by kernel_rfl) (fun _ _ _ h => h) (Or.inl ⟨by rfl, ?hy2_2op⟩) hS ?rest2_2op
  case hy2_2op => intro w hSw; (try dsimp only at hSw); go_simp; (try with_reducible rfl)
  case rest2_2op =>
  try simp only [nz0, nz1, nz2, Act.put, nz3, nz4, nz5]
  refine wpAnyG_take' (i := 3) (v := ?v3_3op) rfl (by kernel_rfl) (by kernel_rfl) (by kernel_rfl) (by kernel_rfl) (fun _ _ _ h => h) (Or.inl ⟨by rfl, ?hy3_3op⟩) hS ?rest3_3op
  case hy3_3op => intro w hSw; (try dsimp only at hSw); go_simp; (try with_reducible rfl)
  case rest3_3op =>
  try simp only [nz0, nz1, nz2, Act.put, nz3, nz4, nz5]
  refine wpAnyG_take' (i := 4) (v := ?v4_4op) rfl (by kernel_rfl) (by kernel_rfl) (by kernel_rfl) (by kernel_rfl) (fun _ _ _ h => h) (Or.inl ⟨by rfl, ?hy4_4op⟩) hS ?rest4_4op
  case hy4_4op => intro w hSw; (try dsimp only at hSw); go_simp; (try with_reducible rfl)
  case rest4_4op =>
  try simp only [nz0, nz1, nz2, Act.put, nz3, nz4, nz5]
  refine wpAnyG_take' (i := 5) (v := ?v5_5op) rfl (by kernel_rfl) (by kernel_rfl) (by kernel_rfl) (by kernel_rfl) (fun _ _ _ h => h) (Or.inl ⟨by rfl, ?hy5_5op⟩) hS ?rest5_5op
  case hy5_5op => intro w hSw; (try dsimp only at hSw); go_simp; (try with_reducible rfl)
  case rest5_5op =>
  try simp only [nz0, nz1, nz2, Act.put, nz3, nz4, nz5]
  rw [if_neg (show ¬ m + 4 + d = m by omega), show m + 4 + d - m = 4 + d by omega]
  refine wpAnyG_one (i := 1) (by kernel_rfl) rfl (fun K hK => ?_)
  go_simp
  refine HT.out.mono ?_
  rintro r0 w1 ⟨u, rfl, h1⟩
  have HE := Lib.hid (eqB_any u _ (tailL (l.take m)) (l.drop m) h1 h1.sl (HW.out w1 h1.low) (by rw [tailL_len]; omega) (by rw [List.length_drop]; have := HN.out; omega))
  have HU := Lib.hid h1.low
  clear HT h1
  refine hK.out _ _ (fun _ => ?hS6op) ?rest6op
  case hS6op => exact trivial
  clear K hK
  try simp only [nz0, nz1, nz2, Act.put, nz3, nz4, nz5]
  refine wpAnyG_one (i := 6) (by kernel_rfl) rfl (fun K hK => ?_)
  go_simp
  refine HE.out.mono ?_
  rintro r0 w2 ⟨rfl, h2⟩
  have H2 := Lib.hid h2.low
  clear HE h2
  refine hK.out _ _ (fun _ => ?hS7op) ?rest7op
  case hS7op => exact trivial
  clear K hK
  try simp only [nz0, nz1, nz2, Act.put, nz3, nz4, nz5]
  refine wpAnyG_take' (i := 7) (v := ?v7_8op) rfl (by kernel_rfl) (by kernel_rfl) (by kernel_rfl) (by kernel_rfl) (fun _ _ _ h => h) (Or.inl ⟨by rfl, ?hy7_8op⟩) hS ?rest7_8op
  case hy7_8op => intro w hSw; (try dsimp only at hSw); go_simp; (try with_reducible rfl)
  case rest7_8op =>
  try simp only [nz0, nz1, nz2, Act.put, nz3, nz4, nz5]
  refine wpAnyG_done (by kernel_rfl) ?_ _
  try simp only [nz0, nz1, nz2, Act.put, nz3, nz4, nz5]
  have HD := Lib.hid (HH.out.below H2.out)
  by_cases hb : tailL (l.take m) = l.drop m
  · have d1 : decide (tailL (l.take m) = l.drop m) = true := decide_eq_true hb
    have HB := Lib.hid hb
    have HC := Lib.hid (clone_sep _ (l.take m) w2 HD.out (HP.out w2 H2.out) (by rw [List.length_take]; have := HN.out; omega))
    rw [d1]
    clear hb d1
    (try dsimp only); repeat' (first | go_values | go_skip | go_guarded | go_step | go_upon | go_back)
    refine HC.out.mono ?_
    rintro r0 w3 ⟨x, rfl, h3⟩
    have H3 := Lib.hid h3
    clear HC h3
    (try dsimp only); repeat' (first | go_values | go_skip | go_guarded | go_step | go_upon | go_back)
    exact bodyPost_ret (results_tmp2 rfl _ _ _) rfl (by rw [if_pos HB.out]; exact ⟨_, rfl, H3.out⟩)
  · have d1 : decide (tailL (l.take m) = l.drop m) = false := decide_eq_false hb
    have HB := Lib.hid hb
    rw [d1]
    clear hb d1
    (try dsimp only); repeat' (first | go_values | go_skip | go_guarded | go_step | go_upon | go_back)
    exact bodyPost_ret (results_tmp2 rfl _ _ _) rfl (by rw [if_neg HB.out]; exact ⟨rfl, HD.out⟩)
/-- What was sealed is opened. -/
theorem seal_take (l : List UInt8) : (sealL l).take l.length = l ∧ (sealL l).drop l.length = tailL l ∧ (sealL l).length = l.length + 4 := by
  unfold sealL
  exact ⟨by simp, by simp, by rw [List.length_append, tailL_len]⟩
theorem open_seal {w0 w : World} {L : List Thing} {v : Value} (l : List UInt8) (h : Sep w0 L w) (hv : Sl w v (bv (sealL l))) (hl : l.length ≤ 65532) :
    Calls Tryz.prog 73 #[v] w fun e w' => ∃ u, e = .returned (.tuple #[u, .int .i64 0]) ∧ Sep w0 (By u l :: L) w' := by
  obtain ⟨h1, h2, h3⟩ := seal_take l
  refine (open_any (sealL l) l.length h hv h3 (by rw [h3]; omega)).mono fun e w' hh => ?_
  rw [if_pos (by rw [h1, h2]), h1] at hh
  exact hh
end Go.Proofs.YtafkbodmiblbnaaGreatDoor
