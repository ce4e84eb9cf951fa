/- Package item: Copy. -/
import Derived.Test.YtcnbmeiielkigaaGreatDoorMZ02
import Derived.Test.YtcnbmeiielkigaaGreatDoorMZ00
namespace Go.Proofs.YtcnbmeiielkigaaGreatDoor
open Go.RowKit
set_option linter.unusedVariables false
set_option linter.unusedSimpArgs false
def lnCells (ls : List Ln) : List Value := ls.flatMap fun l => [.string l.1.1, .int .i64 l.2]
theorem lnCells_len : ∀ ls : List Ln, (lnCells ls).length = ls.length * 2
 | [] => rfl
 | l :: ls => by
  have := lnCells_len ls
  simp only [lnCells, List.flatMap_cons, List.length_append, List.length_cons, List.length_nil] at this ⊢
  omega
theorem lnCells_at : ∀ (ls : List Ln) (i : Nat) (hi : i < ls.length), (lnCells ls)[i * 2]? = some (.string ls[i].1.1) ∧ (lnCells ls)[i * 2 + 1]? = some (.int .i64 ls[i].2)
 | l :: ls, 0, _ => ⟨rfl, rfl⟩
 | l :: ls, i + 1, hi => by
  have := lnCells_at ls i (by simpa using hi)
  rw [show (i + 1) * 2 = i * 2 + 2 by omega]
  simpa [lnCells] using this
theorem lnCells_get {ls : List Ln} {j : Nat} {u : Value} (h : (lnCells ls)[j]? = some u) : ∃ i, ∃ hi : i < ls.length, (j = i * 2 ∧ u = .string ls[i].1.1) ∨ (j = i * 2 + 1 ∧ u = .int .i64 ls[i].2) := by
 have hj : j < ls.length * 2 := by
  rw [← lnCells_len]
  exact (List.getElem?_eq_some_iff.1 h).1
 obtain ⟨h0, h1⟩ := lnCells_at ls (j / 2) (by omega)
 refine ⟨j / 2, by omega, ?_⟩
 rcases Nat.mod_two_eq_zero_or_one j with hm | hm
 ·have e : j / 2 * 2 = j := by omega
  rw [e, h] at h0
  exact .inl ⟨e.symm, Option.some.inj h0⟩
 ·have e : j / 2 * 2 + 1 = j := by omega
  rw [e, h] at h1
  exact .inr ⟨e.symm, Option.some.inj h1⟩
/-- Lines of one's own. -/
abbrev LnR (v : Value) (ls : List Ln) : Thing := Rn 2 68 v ls.length (lnCells ls)
theorem Sep.lnS {w0 w : World} {v : Value} {ls : List Ln} {L : List Thing} (h : Sep w0 (LnR v ls :: L) w) : LnS w v ls := by
 have hr := h.rn.2
 obtain ⟨a, c, rfl, h1, h2, h3, h4⟩ := h.rnForm
 by_cases h0 : 0 < ls.length
 ·obtain ⟨b, rfl, h5, h6⟩ := h4 h0
  refine .inr ⟨b, 0, c, rfl, h1, h2, h5, fun i hi => ?_⟩
  obtain ⟨q0, q1⟩ := lnCells_at ls i hi
  have k : ∀ j u, (lnCells ls)[j]? = some u → w.cell? ⟨b, j, none⟩ = some u := fun j u hu => by
   obtain ⟨hj, rfl⟩ := List.getElem?_eq_some_iff.1 hu
   exact h6 j hj
  rw [Nat.zero_add]
  exact ⟨k _ _ q0, k _ _ q1⟩
 ·obtain rfl : ls = [] := List.eq_nil_of_length_eq_zero (by omega)
  refine .inl ⟨a, c, rfl, fun ha => ?_, rfl⟩
  subst ha
  rcases hr with ⟨h5, _⟩ | ⟨g, cap, cur, h5, _⟩
  ·simp at h5; exact h5
  ·simp at h5
theorem infoLn : (Tryz.prog.info? 68).map (fun i => (i.size, decide (i.bytes ≤ 256), i.zero.map (fun z => z.cells.size))) = some (2, true, some 2) := by kernel_rfl
theorem lnCells_one (ls : List Ln) : ∀ u ∈ lnCells ls, u.oneCell' = true := by
 intro u hu
 obtain ⟨l, _, hl⟩ := List.mem_flatMap.1 hu
 simp only [List.mem_cons, List.not_mem_nil, or_false] at hl
 rcases hl with rfl | rfl <;> rfl
theorem lnCells_app (a b : List Ln) : lnCells (a ++ b) = lnCells a ++ lnCells b := by simp [lnCells]
/-- A row that is appended to. -/
theorem rn_grow {w0 w w' : World} {sz n n' : Nat} {e : TypeId} {v v' : Value} {xs xs' : List Value} {L : List Thing} (h : Sep w0 (Rn sz e v n xs :: L) w) (ho : w'.ownsRow w0.heap.size e sz v' n' xs') (hg : w.grownBy w' v.ownBlock) (hat : v'.ownBlock = v.ownBlock ∨ v'.ownBlock = some w.heap.size) : Sep w0 (Rn sz e v' n' xs' :: L) w' := by
 refine h.change (loc_rn _ _ _ _ _) fun F hF hlt => ⟨fun k => v'.ownBlock = some k, ⟨⟨_, ho⟩, fun _ => Iff.rfl⟩, fun k hk => ?_, ⟨hg.os, hg.tape, hg.output, hg.size, fun k hk hn => ?_⟩⟩
 ·refine ⟨?_, (ownsRow_lt ho k hk).2⟩
  rcases hat with h1 | h1
  ·exact .inl ((hF.2 k).2 (h1 ▸ hk))
  ·rw [h1] at hk; cases hk; exact .inr (Nat.le_refl _)
 ·exact hg.block k hk fun e => hn ((hF.2 k).2 e.symm)
/-- 'append' of lines that are read. -/
theorem append_ln {w0 w : World} {v x : Value} {ls ms : List Ln} {L : List Thing} (ty : TypeId) (h : Sep w0 (LnR v ls :: L) w) (hx : LnS w x ms) (hlen : ls.length + ms.length ≤ 549755813888) :
  ∃ v' w', (Builtin.append_ #[28, 28] ty #[v, x]).run Tryz.prog w = .ok v' w' ∧ Sep w0 (LnR v' (ls ++ ms) :: L) w' ∧ (v' = .slice none 0 0 → v = .slice none 0 0) := by
 obtain ⟨i, hi, he⟩ := Option.map_eq_some_iff.1 infoLn
 simp only [Prod.mk.injEq, decide_eq_true_eq] at he
 obtain ⟨z, hz, hz2⟩ := Option.map_eq_some_iff.1 he.2.2
 have hown := h.rn
 have hm : ls.length + ms.length ≤ maxLen := by unfold maxLen; omega
 have hbb : (ls.length + ms.length) * i.bytes ≤ 140737488355328 := by
  calc (ls.length + ms.length) * i.bytes ≤ 549755813888 * 256 := Nat.mul_le_mul hlen he.2.1
   _ = 140737488355328 := by omega
 unfold LnR
 rw [lnCells_app, List.length_append]
 rcases hx with ⟨a, c, rfl, _, rfl⟩ | ⟨b, off, c, rfl, h1, h2, h3, h4⟩
 ·cases a with
  | none =>
   refine ⟨v, w, run_append_owned_none (P := Tryz.prog) w w0.heap.size _ ty 68 i 2 Tryz.underlying28 hi v _ _ hown, by rw [show lnCells ([] : List Ln) = [] from rfl, List.append_nil]; exact h, id⟩
  | some x =>
   obtain ⟨v', w', hr, ho, hg, hn, hat⟩ := run_append_own_at (P := Tryz.prog) w w0.heap.size _ ty 68 i z 2 i.bytes Tryz.underlying28 hi hz he.1 rfl hz2 (by decide) v ls.length (lnCells ls) hown x 0 c [] rfl (fun j u hj => by simp at hj) (fun u hu => by cases hu) hm hbb h.size
   refine ⟨v', w', hr, ?_, fun h => (hn.1 h).1⟩
   exact rn_grow h ho hg hat
 ·have hadd : ∀ j, (⟨b, off, none⟩ : Addr).add j = ⟨b, off + j, none⟩ := fun j => by unfold Addr.add; split <;> simp_all
  obtain ⟨v', w', hr, ho, hg, hn, hat⟩ := run_append_own_at (P := Tryz.prog) w w0.heap.size _ ty 68 i z 2 i.bytes Tryz.underlying28 hi hz he.1 rfl hz2 (by decide) v ls.length (lnCells ls) hown ⟨b, off, none⟩ ms.length c (lnCells ms) (lnCells_len ms) (fun j u hj => by
   rw [hadd]
   obtain ⟨k, hk, h5⟩ := lnCells_get hj
   rcases h5 with ⟨rfl, rfl⟩ | ⟨rfl, rfl⟩
   ·exact (h4 k hk).1
   ·exact (h4 k hk).2) (lnCells_one ms) hm hbb h.size
  exact ⟨v', w', hr, rn_grow h ho hg hat, fun h => (hn.1 h).1⟩
theorem rnEmpty {w0 w : World} {L : List Thing} (h : Sep w0 L w) : Sep w0 (LnR (.slice (some ⟨w.heap.size, 0, none⟩) 0 0) [] :: L) (w.alloc (.cells #[] 68)) := by
 refine (h.alloc (.cells #[] 68)).imp (loc_rn _ _ _ _ _) fun F hF => ⟨⟨0, ?_, .inr ⟨w.heap.size, 0, #[], rfl, Nat.zero_le _, hF.1, Nat.le_refl _, Nat.zero_le _, rfl, rfl⟩⟩, fun k => ⟨fun hk => by rw [(hF.2 k).1 hk]; rfl, fun hk => (hF.2 k).2 (by simpa [Value.ownBlock] using hk.symm)⟩⟩
 rfl
set_option maxRecDepth 100000 in
set_option maxHeartbeats 1000000 in
theorem cloneL_any {w0 w : World} {L : List Thing} (v : Value) (ls : List Ln) (h : Sep w0 L w) (hv : LnS w v ls) (hl : ls.length ≤ 1000) :
  Calls Tryz.prog 93 #[v] w fun e w' => ∃ u, e = .returned u ∧ Sep w0 (LnR u ls :: L) w' := by
 obtain ⟨a, c, hva⟩ := hv.len
 by_cases hn : v = .slice none 0 0
 ·subst hn
  have h0 : ls = [] := by
   rcases hv with ⟨_, _, _, _, h⟩ | ⟨b, off, c', h, _⟩
   ·exact h
   ·simp at h
  subst h0
  have e1 := fun w => Lib.run_eql_slice_nil (P := Tryz.prog) w 28 68 none 0 0 0 0 Tryz.underlying28
  have H := Lib.hid (h.rnNil 2 68)
  clear h hv hva
  go_enter Tryz.func93, Tryz.ntmps93
  go_wp2_with fail
  go_ret
  exact ⟨_, rfl, H.out⟩
 ·have ha : ∃ x, a = some x := by
   cases a with
   | some x => exact ⟨x, rfl⟩
   | none =>
    exfalso
    rcases hv with ⟨a', c', h1, h3, h2⟩ | ⟨b, off, c', h1, _⟩
    ·subst h2
     rw [hva] at h1
     simp only [Value.slice.injEq, List.length_nil, true_and] at h1
     obtain ⟨rfl, rfl⟩ := h1
     rw [h3 rfl] at hva
     exact hn hva
    ·rw [hva] at h1; simp at h1
  obtain ⟨x, rfl⟩ := ha
  subst hva
  have e1 := fun w => Lib.run_eql_slice_nil (P := Tryz.prog) w 28 68 (some x) ls.length c 0 0 Tryz.underlying28
  have h1 := rnEmpty h
  obtain ⟨v', w', hr, h2, hnil⟩ := append_ln (ms := ls) 28 h1 (hv.below ((Below.refl w.heap.size w).alloc (Nat.le_refl _) _)) (by simp; omega)
  rw [List.nil_append] at h2
  have H1 := Lib.hid hr
  have H2 := Lib.hid h2
  obtain ⟨a2, c2, rfl, -⟩ := h2.rnForm
  clear h hv h1 h2 hr hnil hn
  go_enter Tryz.func93, Tryz.ntmps93
  go_wp2_with (at_builtin; refine wpList_append_run rfl _ _ _ _ rfl rfl rfl H1.out ?_)
  go_ret
  exact ⟨_, rfl, H2.out⟩
def opZ : Array Value := #[.int .i64 0, .string ⟨#[]⟩, .int .i64 0, .int .i64 0, .slice none 0 0]
theorem cells5 {w0 w : World} {b : Nat} {v0 v1 v2 v3 v4 : Value} {t : TypeId} {L : List Thing} (h : Sep w0 (Cl b #[v0, v1, v2, v3, v4] t :: L) w) :
  (w.cell? ⟨b, 0, none⟩ = some v0 ∧ w.cell? ⟨b, 1, none⟩ = some v1 ∧ w.cell? ⟨b, 2, none⟩ = some v2 ∧ w.cell? ⟨b, 3, none⟩ = some v3 ∧ w.cell? ⟨b, 4, none⟩ = some v4) :=
 ⟨h.cell rfl, h.cell rfl, h.cell rfl, h.cell rfl, h.cell rfl⟩
theorem frz5 {w0 w : World} {b : Nat} {xs : Array Value} {t : TypeId} {L : List Thing} (h : Sep w0 (Cl b xs t :: L) w) :
  (w.frozen? ⟨b, 0, none⟩ = false ∧ w.frozen? ⟨b, 1, none⟩ = false ∧ w.frozen? ⟨b, 2, none⟩ = false ∧ w.frozen? ⟨b, 3, none⟩ = false ∧ w.frozen? ⟨b, 4, none⟩ = false) := by
 have k : ∀ o, w.frozen? ⟨b, o, none⟩ = false := fun o => by unfold World.frozen?; rw [h.blk]; simp
 exact ⟨k 0, k 1, k 2, k 3, k 4⟩
theorem store5 {w0 w : World} {b : Nat} {v0 v1 v2 v3 v4 u0 u1 u2 u3 u4 : Value} {t : TypeId} {L : List Thing} (h : Sep w0 (Cl b #[v0, v1, v2, v3, v4] t :: L) w) :
  Sep w0 (Cl b #[u0, u1, u2, u3, u4] t :: L) (((((w.setCell ⟨b, 0, none⟩ u0).setCell ⟨b, 1, none⟩ u1).setCell ⟨b, 2, none⟩ u2).setCell ⟨b, 3, none⟩ u3).setCell ⟨b, 4, none⟩ u4) :=
 ((((h.setCell 0 _).setCell 1 _).setCell 2 _).setCell 3 _).setCell 4 _
set_option maxRecDepth 100000 in
set_option maxHeartbeats 2000000 in
theorem copy_any {w0 w : World} {L : List Thing} (k : Int) (s : KS) (o n : Int) (v : Value) (ls : List Ln) (h : Sep w0 L w) (hv : LnS w v ls) (hl : ls.length ≤ 1000) :
  Calls Tryz.prog 78 #[.agg #[.int .i64 k, .string s.1, .int .i64 o, .int .i64 n, v]] w fun e w' => ∃ u, e = .returned (.agg #[.int .i64 k, .string s.1, .int .i64 o, .int .i64 n, u]) ∧ Sep w0 (LnR u ls :: L) w' := by
 obtain ⟨a, c, rfl⟩ := hv.len
 obtain ⟨wa, hwa⟩ : ∃ z, z = (w.alloc (.cells (opCells k s o n (.slice a ls.length c)) 30)).alloc (.cells opZ 30) := ⟨_, rfl⟩
 have h1 := (h.alloc (.cells (opCells k s o n (.slice a ls.length c)) 30)).alloc (.cells opZ 30)
 have hlow : Below w.heap.size w wa := by
  rw [hwa]
  exact ((Below.refl _ w).alloc (Nat.le_refl _) _).alloc (by simp) _
 rw [← hwa] at h1
 rw [show (w.alloc (.cells (opCells k s o n (.slice a ls.length c)) 30)).heap.size = w.heap.size + 1 by simp] at h1
 have HC := Lib.hid (cloneL_any _ ls h1 (hv.below hlow) hl)
 unfold opCells opZ at *
 obtain ⟨c0, c1, c2, c3, c4⟩ := cells5 h1.sw2
 clear h h1 hv hlow
 go_enter Tryz.func78, Tryz.ntmps78
 go_wp2_with fail
 rw [← hwa]
 clear hwa
 go_wp2_with fail
 refine HC.out.mono ?_
 rintro r0 w1 ⟨u, rfl, h2⟩
 clear c0 c1 c2 c3 c4 HC
 obtain ⟨a2, c2, rfl, -⟩ := h2.rnForm
 have f4 := (frz5 h2.sw3).2.2.2.2
 have b4 := (cells5 h2.sw3).2.2.2.2
 have h3 : Sep w0 (Cl w.heap.size #[.int .i64 k, .string s.1, .int .i64 o, .int .i64 n, .slice a2 ls.length c2] 30 :: LnR (.slice a2 ls.length c2) ls :: Cl (w.heap.size + 1) #[.int .i64 0, .string ⟨#[]⟩, .int .i64 0, .int .i64 0, .slice none 0 0] 30 :: L) (w1.setCell ⟨w.heap.size, 4, none⟩ (.slice a2 ls.length c2)) := h2.sw3.setCell 4 _
 obtain ⟨c0, c1, c2', c3, c4⟩ := cells5 h3
 obtain ⟨g0, g1, g2, g3, g4⟩ := frz5 h3.sw3
 obtain ⟨z0, z1, z2, z3, z4⟩ := cells5 h3.sw3
 have h4 := store5 (u0 := .int .i64 k) (u1 := .string s.1) (u2 := .int .i64 o) (u3 := .int .i64 n) (u4 := .slice a2 ls.length c2) h3.sw3
 obtain ⟨k0, k1, k2, k3, k4⟩ := cells5 h4
 have H4 := Lib.hid h4.drop.drop
 clear h2 h3 h4
 go_wp2_with fail
 exact bodyPost_ret (v := .agg #[.int .i64 k, .string s.1, .int .i64 o, .int .i64 n, .slice a2 ls.length c2]) (by simp [results, Tryz.results78, go_sem, k0, k1, k2, k3, k4]) rfl ⟨_, rfl, H4.out⟩
end Go.Proofs.YtcnbmeiielkigaaGreatDoor
/- Package item: which answers may be. -/
namespace Go.Proofs.YtcnbmeiielkigaaGreatDoor
open Go.RowKit
set_option linter.unusedVariables false
set_option linter.unusedSimpArgs false
def resB (k a b : Int) : Bool := decide (0 ≤ k ∧ k ≤ 6 ∧ 0 ≤ a ∧ 0 ≤ b ∧ a ≤ 2147483647 ∧ b ≤ 2147483647)
def okE (x : Bool) : Int := if x then 0 else 2
theorem res_any (k a b : Int) (w : World) : Calls Tryz.prog 83 #[.agg #[.int .i64 k, .int .i64 a, .int .i64 b]] w fun e w' => e = .returned (.int .i64 (okE (resB k a b))) ∧ w' = w.alloc (.cells #[.int .i64 k, .int .i64 a, .int .i64 b] 34) := by
 by_cases h0 : k < 0
 ·have hb : resB k a b = false := decide_eq_false fun h => by omega
  rw [hb]
  clear hb
  go_enter Tryz.func83, Tryz.ntmps83
  go_wp2
  go_ret
  exact ⟨rfl, rfl⟩
 ·by_cases h1 : 6 < k
  ·have hb : resB k a b = false := decide_eq_false fun h => by omega
   rw [hb]
   clear hb
   go_enter Tryz.func83, Tryz.ntmps83
   go_wp2
   go_ret
   exact ⟨rfl, rfl⟩
  ·have k0 : 0 ≤ k := by omega
   have k1 : k ≤ 6 := by omega
   rcases Int.lt_trichotomy a b with hab | rfl | hab
   ·by_cases h2 : a < 0
    ·have hb : resB k a b = false := decide_eq_false fun h => by omega
     rw [hb]
     clear hb
     go_enter Tryz.func83, Tryz.ntmps83
     go_wp2
     go_ret
     exact ⟨rfl, rfl⟩
    ·have h2' : 0 ≤ a := by omega
     by_cases h3 : 2147483647 < b
     ·have hb : resB k a b = false := decide_eq_false fun h => by omega
      rw [hb]
      clear hb
      go_enter Tryz.func83, Tryz.ntmps83
      go_wp2
      go_ret
      exact ⟨rfl, rfl⟩
     ·have h3' : b ≤ 2147483647 := by omega
      have hb : resB k a b = true := decide_eq_true (by omega)
      rw [hb]
      clear hb
      go_enter Tryz.func83, Tryz.ntmps83
      go_wp2
      go_ret
      exact ⟨rfl, rfl⟩
   ·by_cases h2 : a < 0
    ·have hb : resB k a a = false := decide_eq_false fun h => by omega
     rw [hb]
     clear hb
     go_enter Tryz.func83, Tryz.ntmps83
     go_wp2
     go_ret
     exact ⟨rfl, rfl⟩
    ·have h2' : 0 ≤ a := by omega
     by_cases h3 : 2147483647 < a
     ·have hb : resB k a a = false := decide_eq_false fun h => by omega
      rw [hb]
      clear hb
      go_enter Tryz.func83, Tryz.ntmps83
      go_wp2
      go_ret
      exact ⟨rfl, rfl⟩
     ·have h3' : a ≤ 2147483647 := by omega
      have hb : resB k a a = true := decide_eq_true (by omega)
      rw [hb]
      clear hb
      go_enter Tryz.func83, Tryz.ntmps83
      go_wp2
      go_ret
      exact ⟨rfl, rfl⟩
   ·by_cases h2 : b < 0
    ·have hb : resB k a b = false := decide_eq_false fun h => by omega
     rw [hb]
     clear hb
     go_enter Tryz.func83, Tryz.ntmps83
     go_wp2
     go_ret
     exact ⟨rfl, rfl⟩
    ·have h2' : 0 ≤ b := by omega
     by_cases h3 : 2147483647 < a
     ·have hb : resB k a b = false := decide_eq_false fun h => by omega
      rw [hb]
      clear hb
      go_enter Tryz.func83, Tryz.ntmps83
      go_wp2
      go_ret
      exact ⟨rfl, rfl⟩
     ·have h3' : a ≤ 2147483647 := by omega
      have hb : resB k a b = true := decide_eq_true (by omega)
      rw [hb]
      clear hb
      go_enter Tryz.func83, Tryz.ntmps83
      go_wp2
      go_ret
      exact ⟨rfl, rfl⟩
end Go.Proofs.YtcnbmeiielkigaaGreatDoor
/- Package msg: messages without lists (Entry's Op and Image are none): Check. -/
namespace Go.Proofs.YtcnbmeiielkigaaGreatDoor
open Go.RowKit
set_option linter.unusedVariables false
set_option linter.unusedSimpArgs false
def mkindsL : List Int := [0, 16, 99, 23, 3, 7, 1, 137, 3, 129, 33]
/-- The table of kinds of messages lies where start-up laid it. -/
def MKindsAt (w : World) : Prop := 0 < w.heap.size ∧ ∀ k (hk : k < mkindsL.length), w.cell? ⟨0, k, none⟩ = some (.int .i64 mkindsL[k])
theorem MKindsAt.below {w w' : World} (h : MKindsAt w) (hb : Below w.heap.size w w') : MKindsAt w' :=
 ⟨by have := hb.size; have := h.1; omega, fun k hk => by rw [hb.cell (p := ⟨0, k, none⟩) h.1]; exact h.2 k hk⟩
def mfieldsOf (k : Int) : Int := if 0 ≤ k ∧ k ≤ 10 then mkindsL.getD k.toNat 0 else 0
theorem mfields_any (k : Int) (w : World) (h : MKindsAt w) : Calls Tryz.prog 51 #[.int .i64 k] w fun e w' => e = .returned (.int .i64 (mfieldsOf k)) ∧ w = w' := by
 by_cases h0 : 0 ≤ k
 ·by_cases h9 : k ≤ 10
  ·obtain ⟨j, rfl⟩ : ∃ j : Nat, k = j := ⟨k.toNat, by omega⟩
   have hj : j < mkindsL.length := by simp [mkindsL]; omega
   have hf : mfieldsOf j = mkindsL[j] := by
    unfold mfieldsOf
    rw [if_pos ⟨h0, h9⟩, Int.toNat_natCast, List.getD_eq_getElem?_getD, List.getElem?_eq_getElem hj]
    rfl
   rw [hf]
   have c0 := h.2 j hj
   have d1 : ¬ (j : Int) < 0 := by omega
   have d2 : ¬ (10 : Int) < (j : Int) := by omega
   have d3 : (j : Int) < 11 := by omega
   generalize mkindsL[j] = z at *
   clear h hj hf
   go_enter Tryz.func51, Tryz.ntmps51
   go_wp2
   go_ret
   exact ⟨rfl, rfl⟩
  ·have hf : mfieldsOf k = 0 := by unfold mfieldsOf; rw [if_neg (by omega)]
   rw [hf]
   clear h
   go_enter Tryz.func51, Tryz.ntmps51
   go_wp2
   go_ret
   exact ⟨rfl, rfl⟩
 ·have hf : mfieldsOf k = 0 := by unfold mfieldsOf; rw [if_neg (by omega)]
  rw [hf]
  clear h
  go_enter Tryz.func51, Tryz.ntmps51
  go_wp2
  go_ret
  exact ⟨rfl, rfl⟩
def partB (n : Int) : Bool := decide (0 ≤ n ∧ n < 23)
theorem part_any (n : Int) (w : World) : Calls Tryz.prog 52 #[.int .i64 n] w fun e w' => e = .returned (.bool (partB n)) ∧ w = w' := by
 by_cases h0 : n < 0
 ·have hb : partB n = false := decide_eq_false (by omega)
  rw [hb]
  go_enter Tryz.func52, Tryz.ntmps52
  go_wp2
  go_ret
  exact ⟨rfl, rfl⟩
 ·by_cases h1 : n < 23
  ·have hb : partB n = true := decide_eq_true (by omega)
   rw [hb]
   have h2 : 0 ≤ n := by omega
   go_enter Tryz.func52, Tryz.ntmps52
   go_wp2
   go_ret
   exact ⟨rfl, rfl⟩
  ·have hb : partB n = false := decide_eq_false (by omega)
   rw [hb]
   have h2 : 0 ≤ n := by omega
   go_enter Tryz.func52, Tryz.ntmps52
   go_wp2
   go_ret
   exact ⟨rfl, rfl⟩
def numB (n : Int) : Bool := decide (0 ≤ n ∧ n ≤ 9007199254740991)
theorem isnum_any (n : Int) (w : World) : Calls Tryz.prog 81 #[.int .i64 n] w fun e w' => e = .returned (.bool (numB n)) ∧ w = w' := by
 by_cases h0 : n < 0
 ·have hb : numB n = false := decide_eq_false (by omega)
  rw [hb]
  go_enter Tryz.func81, Tryz.ntmps81
  go_wp2
  go_ret
  exact ⟨rfl, rfl⟩
 ·by_cases h1 : n ≤ 9007199254740991
  ·have hb : numB n = true := decide_eq_true (by omega)
   rw [hb]
   have h2 : 0 ≤ n := by omega
   go_enter Tryz.func81, Tryz.ntmps81
   go_wp2
   go_ret
   exact ⟨rfl, rfl⟩
  ·have hb : numB n = false := decide_eq_false (by omega)
   rw [hb]
   have h2 : 0 ≤ n := by omega
   go_enter Tryz.func81, Tryz.ntmps81
   go_wp2
   go_ret
   exact ⟨rfl, rfl⟩
def holdsB (t : Bool) (n : Int) : Bool := if n = 0 then true else t && numB n
theorem holds_any (t : Bool) (n : Int) (w : World) : Calls Tryz.prog 53 #[.bool t, .int .i64 n] w fun e w' => e = .returned (.bool (holdsB t n)) ∧ w = w' := by
 have HN := Lib.hid (isnum_any n w)
 unfold holdsB
 by_cases h0 : n = 0
 ·rw [if_pos h0]
  subst h0
  go_enter Tryz.func53, Tryz.ntmps53
  (try dsimp only); repeat' (first | go_values | go_skip | go_guarded | go_step | go_upon | go_back)
  go_ret
  exact ⟨rfl, rfl⟩
 ·rw [if_neg h0]
  have d0 : (n == 0) = false := beq_eq_false_iff_ne.2 h0
  generalize numB n = z at *
  clear h0
  cases t with
  | false =>
   rw [Bool.false_and]
   go_enter Tryz.func53, Tryz.ntmps53
   (try dsimp only); repeat' (first | go_values | go_skip | go_guarded | go_step | go_upon | go_back)
   go_ret
   exact ⟨rfl, rfl⟩
  | true =>
   rw [Bool.true_and]
   go_enter Tryz.func53, Tryz.ntmps53
   (try dsimp only); repeat' (first | go_values | go_skip | go_guarded | go_step | go_upon | go_back)
   refine HN.out.mono ?_
   rintro r0 w1 ⟨rfl, rfl⟩
   (try dsimp only); repeat' (first | go_values | go_skip | go_guarded | go_step | go_upon | go_back)
   go_ret
   exact ⟨rfl, rfl⟩
def zS : KS := ⟨⟨#[]⟩, Nat.zero_le _⟩
/-- A list that is none. -/
def NilL (v : Value) : Prop := ∃ a c, v = .slice a 0 c ∧ (a = none → c = 0)
theorem NilL.ln {v : Value} (h : NilL v) (w : World) : LnS w v [] := by obtain ⟨a, c, rfl, h⟩ := h; exact .inl ⟨a, c, rfl, h, rfl⟩
theorem nil0 : NilL (.slice none 0 0) := ⟨none, 0, rfl, fun _ => rfl⟩
def opZV (v : Value) : Value := .agg #[.int .i64 0, .string ⟨#[]⟩, .int .i64 0, .int .i64 0, v]
theorem samez_any {w0 w : World} {L : List Thing} {v u : Value} (h : Sep w0 L w) (hv : NilL v) (hu : NilL u) : Calls Tryz.prog 58 #[opZV v, opZV u] w fun e w' => e = .returned (.bool true) ∧ Sep w0 L w' :=
 (same_any 0 zS 0 0 v [] 0 zS 0 0 u [] h (hv.ln w) (hu.ln w) (by simp)).mono fun e w' ⟨h1, h2⟩ => ⟨h1.trans (by simp [sameB]), h2⟩
def enZC (c m : Int) (v : Value) : Array Value := #[.int .i64 c, .int .i64 m, .int .i64 0, .string ⟨#[]⟩, .int .i64 0, .int .i64 0, v]
def hdB (c m : Int) : Bool := decide (0 ≤ c ∧ c < 8 ∧ 1 ≤ m ∧ m ≤ 2147483647)
theorem hdB_cases (c m : Int) : (hdB c m = false ∧ (c < 0 ∨ (0 ≤ c ∧ 8 ≤ c) ∨ (0 ≤ c ∧ c < 8 ∧ m < 1) ∨ (0 ≤ c ∧ c < 8 ∧ 1 ≤ m ∧ 2147483647 < m))) ∨ (hdB c m = true ∧ 0 ≤ c ∧ c < 8 ∧ 1 ≤ m ∧ m ≤ 2147483647) := by
 unfold hdB
 by_cases h : 0 ≤ c ∧ c < 8 ∧ 1 ≤ m ∧ m ≤ 2147483647
 ·exact .inr ⟨decide_eq_true h, h⟩
 ·exact .inl ⟨decide_eq_false h, by omega⟩
set_option maxRecDepth 100000 in
set_option maxHeartbeats 4000000 in
theorem esamez_any {w0 w : World} {L : List Thing} {v u : Value} (h : Sep w0 L w) (hv : NilL v) (hu : NilL u) : Calls Tryz.prog 42 #[.agg (enZC 0 0 v), .agg (enZC 0 0 u)] w fun e w' => e = .returned (.bool true) ∧ Sep w0 L w' := by
 obtain ⟨a, c, rfl, hac⟩ := id hv
 obtain ⟨a', c', rfl, hac'⟩ := id hu
 have h1 := (h.alloc (.cells (enZC 0 0 (.slice a 0 c)) 32)).alloc (.cells (enZC 0 0 (.slice a' 0 c')) 32)
 rw [show (w.alloc (.cells (enZC 0 0 (.slice a 0 c)) 32)).heap.size = w.heap.size + 1 by simp] at h1
 have HC := Lib.hid (samez_any h1 hv hu)
 have H1 := Lib.hid h1.drop.drop
 unfold opZV at HC
 unfold enZC at *
 have d2 := h1.cell (o := 2) rfl
 have d3 := h1.cell (o := 3) rfl
 have d4 := h1.cell (o := 4) rfl
 have d5 := h1.cell (o := 5) rfl
 have d6 := h1.cell (o := 6) rfl
 have d0 := h1.cell (o := 0) rfl
 have d1 := h1.cell (o := 1) rfl
 have c2 := h1.sw2.cell (o := 2) rfl
 have c3 := h1.sw2.cell (o := 3) rfl
 have c4 := h1.sw2.cell (o := 4) rfl
 have c5 := h1.sw2.cell (o := 5) rfl
 have c6 := h1.sw2.cell (o := 6) rfl
 have c0 := h1.sw2.cell (o := 0) rfl
 have c1 := h1.sw2.cell (o := 1) rfl
 clear h h1 hv hu hac hac'
 go_enter Tryz.func42, Tryz.ntmps42
 (try dsimp only); repeat' (first | go_values | go_skip | go_guarded | go_step | go_upon | go_back)
 refine HC.out.mono ?_
 rintro r0 w1 ⟨rfl, h2⟩
 (try dsimp only); repeat' (first | go_values | go_skip | go_guarded | go_step | go_upon | go_back)
 go_ret
 exact ⟨rfl, h2.drop.drop⟩
set_option maxRecDepth 100000 in
set_option maxHeartbeats 4000000 in
theorem fitsEntry_3 {w0 w : World} {L : List Thing} {v : Value} (c m : Int) (h : Sep w0 L w) (hv : NilL v) (hc : c = 0) (hm : m = 0) : Calls Tryz.prog 54 #[.int .i64 3, .agg (enZC c m v)] w fun e w' => e = .returned (.bool true) ∧ Sep w0 L w' := by
 obtain ⟨a, k, rfl, hak⟩ := id hv
 have h1 := h.alloc (.cells (enZC c m (.slice a 0 k)) 32)
 subst hc; subst hm
 have HC := Lib.hid (esamez_any h1 hv nil0)
 unfold enZC at HC
 have H1 := Lib.hid h1.drop
 unfold enZC at *
 have d0 := h1.cell (o := 0) rfl
 have d1 := h1.cell (o := 1) rfl
 have d2 := h1.cell (o := 2) rfl
 have d3 := h1.cell (o := 3) rfl
 have d4 := h1.cell (o := 4) rfl
 have d5 := h1.cell (o := 5) rfl
 have d6 := h1.cell (o := 6) rfl
 clear h h1 hv hak
 go_enter Tryz.func54, Tryz.ntmps54
 (try dsimp only); repeat' (first | go_values | go_skip | go_guarded | go_step | go_upon | go_back)
 refine HC.out.mono ?_
 rintro r0 w1 ⟨rfl, h2⟩
 (try dsimp only); repeat' (first | go_values | go_skip | go_guarded | go_step | go_upon | go_back)
 go_ret
 exact ⟨rfl, h2.drop⟩
set_option maxRecDepth 100000 in
set_option maxHeartbeats 4000000 in
theorem fitsEntry_1 {w0 w : World} {L : List Thing} {v : Value} (c m : Int) (h : Sep w0 L w) (hv : NilL v) (hc : c = 0) (hm : m = 0) : Calls Tryz.prog 54 #[.int .i64 1, .agg (enZC c m v)] w fun e w' => e = .returned (.bool true) ∧ Sep w0 L w' := by
 obtain ⟨a, k, rfl, hak⟩ := id hv
 have h1 := h.alloc (.cells (enZC c m (.slice a 0 k)) 32)
 subst hc; subst hm
 have HC := Lib.hid (esamez_any h1 hv nil0)
 unfold enZC at HC
 have H1 := Lib.hid h1.drop
 unfold enZC at *
 have d0 := h1.cell (o := 0) rfl
 have d1 := h1.cell (o := 1) rfl
 have d2 := h1.cell (o := 2) rfl
 have d3 := h1.cell (o := 3) rfl
 have d4 := h1.cell (o := 4) rfl
 have d5 := h1.cell (o := 5) rfl
 have d6 := h1.cell (o := 6) rfl
 clear h h1 hv hak
 go_enter Tryz.func54, Tryz.ntmps54
 (try dsimp only); repeat' (first | go_values | go_skip | go_guarded | go_step | go_upon | go_back)
 refine HC.out.mono ?_
 rintro r0 w1 ⟨rfl, h2⟩
 (try dsimp only); repeat' (first | go_values | go_skip | go_guarded | go_step | go_upon | go_back)
 go_ret
 exact ⟨rfl, h2.drop⟩
set_option maxRecDepth 100000 in
set_option maxHeartbeats 4000000 in
theorem fitsRes_3 {w0 w : World} {L : List Thing} (h : Sep w0 L w) : Calls Tryz.prog 55 #[.int .i64 3, .agg #[.int .i64 0, .int .i64 0, .int .i64 0], .bool false] w fun e w' => e = .returned (.bool true) ∧ Sep w0 L w' := by
 have h1 := h.alloc (.cells #[.int .i64 0, .int .i64 0, .int .i64 0] 34)
 have d0 := h1.cell (o := 0) rfl
 have d1 := h1.cell (o := 1) rfl
 have d2 := h1.cell (o := 2) rfl
 have H1 := Lib.hid h1.drop
 clear h h1
 go_enter Tryz.func55, Tryz.ntmps55
 (try dsimp only); repeat' (first | go_values | go_skip | go_guarded | go_step | go_upon | go_back)
 go_ret
 exact ⟨rfl, H1.out⟩
set_option maxRecDepth 100000 in
set_option maxHeartbeats 4000000 in
theorem fitsRes_1 {w0 w : World} {L : List Thing} (h : Sep w0 L w) : Calls Tryz.prog 55 #[.int .i64 1, .agg #[.int .i64 0, .int .i64 0, .int .i64 0], .bool false] w fun e w' => e = .returned (.bool true) ∧ Sep w0 L w' := by
 have h1 := h.alloc (.cells #[.int .i64 0, .int .i64 0, .int .i64 0] 34)
 have d0 := h1.cell (o := 0) rfl
 have d1 := h1.cell (o := 1) rfl
 have d2 := h1.cell (o := 2) rfl
 have H1 := Lib.hid h1.drop
 clear h h1
 go_enter Tryz.func55, Tryz.ntmps55
 (try dsimp only); repeat' (first | go_values | go_skip | go_guarded | go_step | go_upon | go_back)
 go_ret
 exact ⟨rfl, H1.out⟩
end Go.Proofs.YtcnbmeiielkigaaGreatDoor
