/- Package entry: Row. -/
import Derived.Deep.QuietTactic
import Derived.BigQuiet
import Derived.Test.YtcnbmeiielkigaaGreatDoorMZ08
import Derived.Test.YtcnbmeiielkigaaGreatDoorMZ18
import Derived.Test.YtcnbmeiielkigaaGreatDoorMZ02
import Derived.Test.YtcnbmeiielkigaaGreatDoorMZ10
import Derived.Test.YtcnbmeiielkigaaGreatDoorMItem9
import Derived.Test.YtcnbmeiielkigaaGreatDoorMZ03
import Derived.Test.YtcnbmeiielkigaaGreatDoorMZ05
import Derived.Test.YtcnbmeiielkigaaGreatDoorMZ06
namespace Go.Proofs.YtcnbmeiielkigaaGreatDoor
open Go.RowKit
set_option linter.unusedVariables false
set_option linter.unusedSimpArgs false
/-- One entry, as it lies in a row. -/
def En7 (w : World) (b i : Nat) (x : EnM) (v : Value) : Prop := w.cell? ⟨b, i, none⟩ = some (.int .i64 x.c) ∧ w.cell? ⟨b, i + 1, none⟩ = some (.int .i64 x.m) ∧ w.cell? ⟨b, i + 2, none⟩ = some (.int .i64 x.p.k) ∧ w.cell? ⟨b, i + 3, none⟩ = some (.string x.p.s.1) ∧ w.cell? ⟨b, i + 4, none⟩ = some (.int .i64 x.p.o) ∧ w.cell? ⟨b, i + 5, none⟩ = some (.int .i64 x.p.n) ∧ w.cell? ⟨b, i + 6, none⟩ = some v
/-- A slice of entries, read. -/
def EnS (w : World) (v : Value) (xs : List (EnM × Value)) : Prop :=
 (∃ a c, v = .slice a 0 c ∧ xs = []) ∨ ∃ b off c, v = .slice (some ⟨b, off, none⟩) xs.length c ∧ xs.length ≤ c ∧ c ≤ maxLen ∧ b < w.heap.size ∧ ∀ i (hi : i < xs.length), En7 w b (off + i * 7) xs[i].1 xs[i].2 ∧ LnS w xs[i].2 xs[i].1.p.ls
theorem EnS.below {w w' : World} {v : Value} {xs : List (EnM × Value)} (h : EnS w v xs) (hb : Below w.heap.size w w') : EnS w' v xs := by
 rcases h with h | ⟨b, off, c, h1, h2, h3, h4, h5⟩
 ·exact .inl h
 ·refine .inr ⟨b, off, c, h1, h2, h3, Nat.lt_of_lt_of_le h4 hb.size, fun i hi => ?_⟩
  obtain ⟨⟨a0, a1, a2, a3, a4, a5, a6⟩, h6⟩ := h5 i hi
  have k : ∀ o, w'.cell? ⟨b, o, none⟩ = w.cell? ⟨b, o, none⟩ := fun o => hb.cell (p := ⟨b, o, none⟩) h4
  exact ⟨⟨(k _).trans a0, (k _).trans a1, (k _).trans a2, (k _).trans a3, (k _).trans a4, (k _).trans a5, (k _).trans a6⟩, h6.below hb⟩
theorem EnS.len {w : World} {v : Value} {xs : List (EnM × Value)} (h : EnS w v xs) : ∃ a c, v = .slice a xs.length c := by
 rcases h with ⟨a, c, rfl, rfl⟩ | ⟨b, off, c, h1, _⟩
 ·exact ⟨a, c, rfl⟩
 ·exact ⟨_, c, h1⟩
theorem EnS.at {w : World} {a : Option Addr} {n c : Nat} {xs : List (EnM × Value)} (h : EnS w (.slice a n c) xs) {i : Nat} (hi : i < xs.length) :
  ∃ b off, a = some ⟨b, off, none⟩ ∧ n = xs.length ∧ n ≤ c ∧ c ≤ maxLen ∧ En7 w b (off + i * 7) xs[i].1 xs[i].2 ∧ LnS w xs[i].2 xs[i].1.p.ls := by
 rcases h with ⟨a, c, h1, rfl⟩ | ⟨b, off, c', h1, h2, h3, h4, h5⟩
 ·simp at hi
 ·simp only [Value.slice.injEq] at h1
  obtain ⟨rfl, rfl, rfl⟩ := h1
  exact ⟨b, off, rfl, rfl, h2, h3, h5 i hi⟩
theorem Sep.memb {w0 w : World} {A : Thing} {L : List Thing} (h : Sep w0 L w) (hm : A ∈ L) : ∃ M, Sep w0 (A :: M) w := by
 induction L with
 | nil => cases hm
 | cons B L ih =>
  rcases List.mem_cons.1 hm with rfl | hm
  ·exact ⟨L, h⟩
  ·exact ih h.drop hm
end Go.Proofs.YtcnbmeiielkigaaGreatDoor
/- Entries of one's own: a row of them, the lines of each in blocks of their own. -/
namespace Go.Proofs.YtcnbmeiielkigaaGreatDoor
open Go.RowKit
set_option linter.unusedVariables false
set_option linter.unusedSimpArgs false
abbrev lnP (q : EnM × Value) : Thing := LnR q.2 q.1.p.ls
def enCs (ps : List (EnM × Value)) : List Value := ps.flatMap fun q => (enC q.1 q.2).toList
theorem enCs_len : ∀ ps : List (EnM × Value), (enCs ps).length = ps.length * 7
 | [] => rfl
 | q :: ps => by
  have := enCs_len ps
  unfold enCs at this ⊢
  rw [List.flatMap_cons, List.length_append, this, List.length_cons]
  simp [enC]
  omega
theorem enCs_at : ∀ (ps : List (EnM × Value)) (i : Nat) (hi : i < ps.length) (j : Nat), j < 7 → (enCs ps)[i * 7 + j]? = (enC ps[i].1 ps[i].2).toList[j]?
 | q :: ps, 0, _, j, hj => by
  unfold enCs
  rw [List.flatMap_cons, Nat.zero_mul, Nat.zero_add, List.getElem?_append_left (by simpa [enC] using hj)]
  rfl
 | q :: ps, i + 1, hi, j, hj => by
  have := enCs_at ps i (by simpa using hi) j hj
  unfold enCs at this ⊢
  rw [List.flatMap_cons, List.getElem?_append_right (by simp [enC]; omega)]
  rw [show (i + 1) * 7 + j - (enC q.1 q.2).toList.length = i * 7 + j by simp [enC]; omega, this]
  rfl
theorem enCs_app (a b : List (EnM × Value)) : enCs (a ++ b) = enCs a ++ enCs b := by simp [enCs]
theorem enCs_one (q : EnM × Value) : enCs [q] = (enC q.1 q.2).toList := by simp [enCs]
abbrev EnR (v : Value) (ps : List (EnM × Value)) : Thing := Rn 7 32 v ps.length (enCs ps)
/-- Entries of one's own. -/
def EnT (v : Value) (ps : List (EnM × Value)) : Thing := Grp (EnR v ps :: ps.map lnP)
theorem loc_enR (v : Value) (ps : List (EnM × Value)) : ∀ A ∈ EnR v ps :: ps.map lnP, Loc A := by
 intro A hA
 rcases List.mem_cons.1 hA with rfl | hA
 ·exact loc_rn _ _ _ _ _
 ·obtain ⟨q, _, rfl⟩ := List.mem_map.1 hA; exact loc_rn _ _ _ _ _
theorem loc_enT (v : Value) (ps : List (EnM × Value)) : Loc (EnT v ps) := loc_grp (loc_enR v ps)
theorem Sep.enOpen {w0 w : World} {v : Value} {ps : List (EnM × Value)} {L : List Thing} (h : Sep w0 (EnT v ps :: L) w) : Sep w0 (EnR v ps :: (ps.map lnP ++ L)) w := h.open_ (loc_enR v ps)
theorem Sep.enClose {w0 w : World} {v : Value} {ps : List (EnM × Value)} {L : List Thing} (h : Sep w0 (EnR v ps :: (ps.map lnP ++ L)) w) : Sep w0 (EnT v ps :: L) w := Sep.close (M := EnR v ps :: ps.map lnP) h
theorem Sep.enNil {w0 w : World} {L : List Thing} (h : Sep w0 L w) : Sep w0 (EnT (.slice none 0 0) [] :: L) w := Sep.enClose (ps := []) (h.rnNil 7 32)
theorem Sep.enForm {w0 w : World} {v : Value} {ps : List (EnM × Value)} {L : List Thing} (h : Sep w0 (EnT v ps :: L) w) : ∃ a c, v = .slice a ps.length c ∧ ps.length ≤ c ∧ c ≤ maxLen := by
 obtain ⟨a, c, h1, h2, h3, -⟩ := h.enOpen.rnForm
 exact ⟨a, c, h1, h2, h3⟩
theorem Sep.memT {w0 w : World} {A : Thing} {L : List Thing} (h : Sep w0 L w) (hm : A ∈ L) : ∃ M, Sep w0 (A :: M) w := Sep.memb h hm
theorem Sep.enS {w0 w : World} {v : Value} {ps : List (EnM × Value)} {L : List Thing} (h : Sep w0 (EnT v ps :: L) w) : EnS w v ps := by
 have h1 := h.enOpen
 obtain ⟨a, c, rfl, h2, h3, h4, h5⟩ := h1.rnForm
 by_cases h0 : 0 < ps.length
 ·obtain ⟨b, rfl, hb, hc⟩ := h5 h0
  refine .inr ⟨b, 0, c, rfl, h2, h3, hb, fun i hi => ?_⟩
  have k : ∀ j u, j < 7 → (enC ps[i].1 ps[i].2).toList[j]? = some u → w.cell? ⟨b, 0 + i * 7 + j, none⟩ = some u := fun j u hj hu => by
   have h6 := enCs_at ps i hi j hj
   rw [hu] at h6
   obtain ⟨h7, h8⟩ := List.getElem?_eq_some_iff.1 h6
   rw [Nat.zero_add, hc _ h7, h8]
  refine ⟨⟨k 0 _ (by omega) rfl, k 1 _ (by omega) rfl, k 2 _ (by omega) rfl, k 3 _ (by omega) rfl, k 4 _ (by omega) rfl, k 5 _ (by omega) rfl, k 6 _ (by omega) rfl⟩, ?_⟩
  obtain ⟨M, hM⟩ := h1.memT (A := lnP ps[i]) (List.mem_cons_of_mem _ (List.mem_append_left _ (List.mem_map_of_mem (List.getElem_mem hi))))
  exact Sep.lnS hM
 ·exact .inl ⟨a, c, by rw [show ps.length = 0 by omega], List.eq_nil_of_length_eq_zero (by omega)⟩
theorem infoEn : (Tryz.prog.info? 32).map (fun i => (i.size, decide (i.bytes ≤ 256), i.zero.map (fun z => z.cells.size))) = some (7, true, some 7) := by kernel_rfl
/-- 'append' of one entry, that lies in a block of its own, onto them. -/
theorem append_en {w0 w : World} {v : Value} {ps : List (EnM × Value)} {x : EnM} {u : Value} {b : Nat} {L : List Thing} (ty : TypeId) (h : Sep w0 (Cl b (enC x u) 32 :: EnT v ps :: LnR u x.p.ls :: L) w) (hu : u.oneCell' = true) (hl : ps.length ≤ 10000000) :
  ∃ a c w', (Builtin.append_ #[36, 36] ty #[v, .slice (some ⟨b, 0, none⟩) 1 1]).run Tryz.prog w = .ok (.slice a (ps.length + 1) c) w' ∧ Sep w0 (EnT (.slice a (ps.length + 1) c) (ps ++ [(x, u)]) :: L) w' := by
 obtain ⟨i, hi, he⟩ := Option.map_eq_some_iff.1 infoEn
 simp only [Prod.mk.injEq, decide_eq_true_eq] at he
 obtain ⟨z, hz, hz2⟩ := Option.map_eq_some_iff.1 he.2.2
 have h1 := h.sw2.enOpen
 have hc : ∀ j u', (enC x u).toList[j]? = some u' → w.cell? ⟨b, 0 + j, none⟩ = some u' := fun j u' hj => by
  rw [Nat.zero_add]
  exact h.cell (by simpa using hj)
 obtain ⟨v', w', hr, h2⟩ := append_rn (P := Tryz.prog) (ty := ty) (m := 1) (c := 1) Tryz.underlying36 hi hz he.1 he.2.1 hz2 (by decide) h1 (news := (enC x u).toList) (by simp [enC]) hc (by
  intro y hy
  simp only [enC, List.mem_cons, List.not_mem_nil, or_false] at hy
  rcases hy with rfl | rfl | rfl | rfl | rfl | rfl | rfl <;> first | rfl | exact hu) (by omega)
 obtain ⟨a, c, rfl, -⟩ := h2.rnForm
 refine ⟨a, c, w', hr, ?_⟩
 have e : enCs ps ++ (enC x u).toList = enCs (ps ++ [(x, u)]) := by rw [enCs_app, enCs_one]
 rw [e] at h2
 have h3 : Sep w0 ((EnR (.slice a (ps.length + 1) c) (ps ++ [(x, u)]) :: ps.map lnP) ++ (Cl b (enC x u) 32 :: LnR u x.p.ls :: L)) w' := by
  show Sep w0 (Rn 7 32 (.slice a (ps.length + 1) c) (ps ++ [(x, u)]).length (enCs (ps ++ [(x, u)])) :: _) w'
  rw [List.length_append, List.length_singleton]
  exact h2
 have h4 : Sep w0 ((EnR (.slice a (ps.length + 1) c) (ps ++ [(x, u)]) :: ps.map lnP) ++ (LnR u x.p.ls :: L)) w' := by
  have hp : ((EnR (.slice a (ps.length + 1) c) (ps ++ [(x, u)]) :: ps.map lnP) ++ (Cl b (enC x u) 32 :: LnR u x.p.ls :: L)).Perm (Cl b (enC x u) 32 :: ((EnR (.slice a (ps.length + 1) c) (ps ++ [(x, u)]) :: ps.map lnP) ++ (LnR u x.p.ls :: L))) := List.perm_middle
  exact (h3.perm hp).drop
 refine Sep.enClose ?_
 rw [List.map_append, List.append_assoc]
 exact h4
end Go.Proofs.YtcnbmeiielkigaaGreatDoor
/- In place of EnP where the seat has entries' own texts (fill.py ALT=EnP=EnPF): En1, En4, En11, Item9, Item25, and what EnP has besides. -/
namespace Go.Proofs.YtcnbmeiielkigaaGreatDoor
open Go.RowKit
set_option linter.unusedVariables false
set_option linter.unusedSimpArgs false
theorem below_gr0 {w w' : World} (h : w.grownBy w' none) : Below w.heap.size w w' := ⟨h.os, h.tape, h.output, h.size, fun k hk => h.block k hk (by simp)⟩
set_option maxRecDepth 100000 in
set_option maxHeartbeats 8000000 in
theorem lcopy_w {w : World} (a : Option Addr) (c : Nat) (xs : List (EnM × Value)) (hv : EnS w (.slice a xs.length c) xs) (hl : xs.length ≤ 1000000) (hls : ∀ x ∈ xs, x.1.p.ls.length ≤ 1000) :
  Calls Tryz.prog 80 #[.slice a xs.length c, .func (.func 49) #[] #[]] w fun e w' => ∃ (u : Value) (ps : List (EnM × Value)), e = .returned u ∧ ps.map (·.1) = xs.map (·.1) ∧ Sep w [EnT u ps] w' := by
 obtain ⟨i, hi, he⟩ := Option.map_eq_some_iff.1 infoEn
 simp only [Prod.mk.injEq, decide_eq_true_eq] at he
 obtain ⟨z, hz, hz2⟩ := Option.map_eq_some_iff.1 he.2.2
 obtain ⟨w1, hmk, hown, hgr⟩ := run_make_own (P := Tryz.prog) w w.heap.size 36 32 i z 7 Tryz.underlying36 hi hz he.1 .i64 .i64 xs.length (by
  calc i.bytes * xs.length ≤ 256 * 1000000 := Nat.mul_le_mul he.2.1 hl
   _ ≤ 281474976710656 := by omega) (by unfold maxLen; omega) (Nat.le_refl _)
 have h1 : Sep w [EnT (.slice (some ⟨w.heap.size, 0, none⟩) 0 xs.length) []] w1 := Sep.enClose (ps := []) ((Sep.start w).new (loc_rn _ _ _ _ _) (below_gr0 hgr) (F := fun k => (Value.slice (some ⟨w.heap.size, 0, none⟩) 0 xs.length).ownBlock = some k) ⟨⟨_, hown⟩, fun _ => Iff.rfl⟩ (ownsRow_lt hown))
 have HM := Lib.hid hmk
 have H1 := Lib.hid h1
 have HX := Lib.hid hv
 have HLS := Lib.hid hls
 have n0 : (0 : Int) ≤ (xs.length : Int) := by omega
 have n1 : (xs.length : Int) ≤ 1000000 := by omega
 clear hi he hz hz2 hown hgr h1 hmk hv hls hl
 obtain ⟨n, hn⟩ : ∃ n, n = xs.length := ⟨_, rfl⟩
 rw [← hn] at HM H1 HX n0 n1 ⊢
 have HN := Lib.hid hn
 clear hn
 go_enter Tryz.func80, Tryz.ntmps80
 go_wp2_with fail
 rw [HM.out]
 clear HM
 go_wp2_with fail
 go_loopw [5, 13] (fun pv i wr => ∃ (k : Nat) (ps : List (EnM × Value)) (av : Option Addr) (cv : Nat), k ≤ n ∧ pv = .slice av k cv ∧ i = .int .i64 k ∧ ps.length = k ∧ ps.map (·.1) = (xs.take k).map (·.1) ∧ Sep w [EnT (.slice av k cv) ps] wr) (fun _ i _ => n - (intOf i).toNat)
 case atStart => exact ⟨0, [], _, _, Nat.zero_le _, rfl, rfl, rfl, rfl, H1.out⟩
 case round =>
  obtain ⟨k, ps, av, cv, hk, rfl, rfl, hpl, hps, hs⟩ := hrel
  clear H1
  have k0 : (0 : Int) ≤ (k : Int) := by omega
  by_cases hkn : k < n
  ·have hkx : k < xs.length := by have := HN.out; omega
   have hd : decide (k < n) = true := decide_eq_true hkn
   have k1 : (k : Int) < (n : Int) := by omega
   obtain ⟨bx, off, rfl, -, hnc, -, ⟨e0, e1, e2, e3, e4, e5, e6⟩, hln⟩ := (HX.out.below hs.low).at hkx
   have hxl := HLS.out _ (List.getElem_mem hkx)
   obtain ⟨⟨x, v⟩, hxv⟩ : ∃ z, z = xs[k] := ⟨_, rfl⟩
   rw [← hxv] at e0 e1 e2 e3 e4 e5 e6 hln hxl
   dsimp only at e0 e1 e2 e3 e4 e5 e6 hln hxl
   obtain ⟨av', kv, rfl⟩ := hln.len
   have h4 := hs.alloc (.cells (enC x (.slice av' x.p.ls.length kv)) 32)
   have hlow : Below wr.heap.size wr (wr.alloc (.cells (enC x (.slice av' x.p.ls.length kv)) 32)) := (Below.refl _ wr).alloc (Nat.le_refl _) _
   have HB := Lib.hid (ecopy_any x (.slice av' x.p.ls.length kv) h4 (hln.below hlow) hxl)
   unfold enV enC at HB
   unfold enC at h4
   obtain ⟨d0, d1, d2, d3, d4, d5, d6⟩ := cells7 h4
   have HXV := Lib.hid (And.intro hxv (And.intro hkx hkn))
   have HPS := Lib.hid (And.intro hpl hps)
   clear hs h4 hlow hln hxv hpl hps hk hkn hxl
   go_wp2_with fail
   refine HB.out.mono ?_
   rintro r0 w5 ⟨u, rfl, h5⟩
   obtain ⟨au, ku, rfl, -⟩ := h5.rnForm
   have h6 := h5.alloc (.cells (enC x (.slice au x.p.ls.length ku)) 32)
   obtain ⟨a2, c2, w8, hr, h8⟩ := append_en (ty := 36) (h6.pick [0, 3, 1] rfl : Sep w [Cl w5.heap.size (enC x (.slice au x.p.ls.length ku)) 32, EnT (.slice av k cv) ps, LnR (.slice au x.p.ls.length ku) x.p.ls] _) rfl (by rw [HPS.out.1]; omega)
   rw [HPS.out.1] at hr h8
   unfold enC at hr
   have HAP := Lib.hid hr
   have H8 := Lib.hid h8
   clear HB h5 h6 hr h8 d0 d1 d2 d3 d4 d5 d6 e0 e1 e2 e3 e4 e5 e6
   go_wp2_with (at_builtin; refine wpList_append_run rfl _ _ _ _ rfl rfl rfl HAP.out ?_)
   go_roundw
   case rel =>
    refine ⟨k + 1, ps ++ [(x, .slice au x.p.ls.length ku)], a2, c2, HXV.out.2.2, rfl, by go_num, by rw [List.length_append, HPS.out.1, List.length_singleton], ?_, H8.out⟩
    rw [List.map_append, HPS.out.2, List.take_succ_eq_append_getElem HXV.out.2.1, ← HXV.out.1]; simp
   case measure => have := HXV.out.2.2; simp [intOf]; omega
  ·have hd : decide (k < n) = false := decide_eq_false hkn
   have hn := HN.out
   have hkx : xs.take k = xs := List.take_of_length_le (by omega)
   rw [hkx] at hps
   have HF := Lib.hid (And.intro hps hs)
   clear hps hs hpl hk hkn hn hkx
   go_wp2_with fail
   go_ret
   exact ⟨_, rfl, ps, HF.out.1, HF.out.2⟩
theorem lcopy_any {w0 w : World} {L : List Thing} (a : Option Addr) (c n : Nat) (xs : List (EnM × Value)) (h : Sep w0 L w) (hv : EnS w (.slice a n c) xs) (hn : xs.length = n) (hl : n ≤ 1000000) (hls : ∀ x ∈ xs, x.1.p.ls.length ≤ 1000) :
  Calls Tryz.prog 80 #[.slice a n c, .func (.func 49) #[] #[]] w fun e w' => ∃ (u : Value) (ps : List (EnM × Value)), e = .returned u ∧ ps.map (·.1) = xs.map (·.1) ∧ Sep w0 (EnT u ps :: L) w' := by
 subst hn
 exact (lcopy_w a c xs hv hl hls).mono fun e w' ⟨u, ps, h1, h2, h3⟩ => ⟨u, ps, h1, h2, h.onto1 h3⟩
end Go.Proofs.YtcnbmeiielkigaaGreatDoor
/- Rows of entries, compared (SameRow), picked out of XEn7: without their bytes. -/
namespace Go.Proofs.YtcnbmeiielkigaaGreatDoor
open Go.RowKit
set_option linter.unusedVariables false
set_option linter.unusedSimpArgs false
/-- Two rows are the same. -/
def SameP (xs ys : List (EnM × Value)) : Prop := xs.length = ys.length ∧ ∀ j (h : j < xs.length) (h' : j < ys.length), enSame xs[j].1 ys[j].1 = true
set_option maxRecDepth 100000 in
set_option maxHeartbeats 16000000 in
theorem eqfunc_w {w : World} (a a' : Option Addr) (c c' : Nat) (xs ys : List (EnM × Value)) (hx : EnS w (.slice a xs.length c) xs) (hy : EnS w (.slice a' ys.length c') ys) (hl : xs.length ≤ 1000000) (hl' : ys.length ≤ 1000000) :
  Calls Tryz.prog 86 #[.slice a xs.length c, .slice a' ys.length c', .func (.func 42) #[] #[]] w fun e w' => ∃ r : Bool, e = .returned (.bool r) ∧ (r = true ↔ SameP xs ys) ∧ Sep w [] w' := by
 have HX := Lib.hid hx
 have HY := Lib.hid hy
 have n0 : (xs.length : Int) ≤ 1000000 := by omega
 have n1 : (ys.length : Int) ≤ 1000000 := by omega
 clear hx hy hl hl'
 obtain ⟨n, hn⟩ : ∃ n, n = xs.length := ⟨_, rfl⟩
 obtain ⟨n', hn'⟩ : ∃ n, n = ys.length := ⟨_, rfl⟩
 rw [← hn] at HX n0 ⊢
 rw [← hn'] at HY n1 ⊢
 have HN := Lib.hid (And.intro hn hn')
 clear hn hn'
 by_cases hll : n = n'
 ·subst hll
  go_enter Tryz.func86, Tryz.ntmps86
  go_wp2_with fail
  go_loopw [17] (fun i wr => ∃ k : Nat, k ≤ n ∧ i = .int .i64 k ∧ (∀ j (h : j < xs.length) (h' : j < ys.length), j < k → enSame xs[j].1 ys[j].1 = true) ∧ Sep w [] wr) (fun i _ => n - (intOf i).toNat)
  case atStart => exact ⟨0, Nat.zero_le _, rfl, (fun j _ _ h => absurd h (by omega)), Sep.start w⟩
  case round =>
   obtain ⟨k, hk, rfl, hall, hs⟩ := hrel
   have k0 : (0 : Int) ≤ (k : Int) := by omega
   by_cases hkn : k < n
   ·have hkx : k < xs.length := by have := HN.out.1; omega
    have hky : k < ys.length := by have := HN.out.2; omega
    have hd : decide (k < n) = true := decide_eq_true hkn
    have k1 : (k : Int) < (n : Int) := by omega
    obtain ⟨bx, off, rfl, -, hnc, -, ⟨e0, e1, e2, e3, e4, e5, e6⟩, hln⟩ := (HX.out.below hs.low).at hkx
    obtain ⟨by', off', rfl, -, hnc', -, -, -⟩ := HY.out.at hky
    obtain ⟨⟨x, v⟩, hxv⟩ : ∃ z, z = xs[k] := ⟨_, rfl⟩
    obtain ⟨⟨y, u⟩, hyu⟩ : ∃ z, z = ys[k] := ⟨_, rfl⟩
    rw [← hxv] at e0 e1 e2 e3 e4 e5 e6 hln
    dsimp only at e0 e1 e2 e3 e4 e5 e6 hln
    obtain ⟨av, kv, rfl⟩ := hln.len
    have h4 := hs.alloc (.cells (enC x (.slice av x.p.ls.length kv)) 32)
    have hlow : Below wr.heap.size wr (wr.alloc (.cells (enC x (.slice av x.p.ls.length kv)) 32)) := (Below.refl _ wr).alloc (Nat.le_refl _) _
    obtain ⟨b2, o2, hab, -, -, -, ⟨d0, d1, d2, d3, d4, d5, d6⟩, hlu⟩ := (HY.out.below h4.low).at hky
    simp only [Option.some.injEq, Addr.mk.injEq, and_true] at hab
    obtain ⟨rfl, rfl⟩ := hab
    rw [← hyu] at d0 d1 d2 d3 d4 d5 d6 hlu
    dsimp only at d0 d1 d2 d3 d4 d5 d6 hlu
    obtain ⟨au, ku, rfl⟩ := hlu.len
    have h5 := h4.alloc (.cells (enC y (.slice au y.p.ls.length ku)) 32)
    have hlow2 : Below (wr.alloc (.cells (enC x (.slice av x.p.ls.length kv)) 32)).heap.size _ ((wr.alloc (.cells (enC x (.slice av x.p.ls.length kv)) 32)).alloc (.cells (enC y (.slice au y.p.ls.length ku)) 32)) := (Below.refl _ _).alloc (Nat.le_refl _) _
    rw [show (wr.alloc (.cells (enC x (.slice av x.p.ls.length kv)) 32)).heap.size = wr.heap.size + 1 by simp] at h5
    have HS := Lib.hid (esame_any x y _ _ h5 ((hln.below hlow).below hlow2) (hlu.below hlow2) (lns_maxl hln))
    unfold enV enC at HS
    unfold enC at h4 h5 d0 d1 d2 d3 d4 d5 d6
    obtain ⟨g0, g1, g2, g3, g4, g5, g6⟩ := cells7 h5.sw2
    obtain ⟨j0, j1, j2, j3, j4, j5, j6⟩ := cells7 h5
    have HXV := Lib.hid (And.intro hxv (And.intro hyu hkn))
    have HAL := Lib.hid hall
    clear hs hln hlu hxv hyu hall hk hkn h4 h5 hlow hlow2
    cases hsm : enSame x y with
    | true =>
     rw [hsm] at HS
     have HT := Lib.hid hsm
     clear hsm
     go_wp2_with fail
     refine HS.out.mono ?_
     rintro r0 w5 ⟨rfl, h6⟩
     have HF := Lib.hid h6.drop.drop
     clear h6 HS e0 e1 e2 e3 e4 e5 e6 d0 d1 d2 d3 d4 d5 d6 g0 g1 g2 g3 g4 g5 g6 j0 j1 j2 j3 j4 j5 j6
     go_wp2_with fail
     go_roundw
     case rel =>
      refine ⟨k + 1, HXV.out.2.2, by go_num, fun j h h' hj => ?_, HF.out⟩
      by_cases hjk : j = k
      ·subst hjk; rw [← HXV.out.1, ← HXV.out.2.1]; exact HT.out
      ·exact HAL.out j h h' (by omega)
     case measure => have := HXV.out.2.2; simp [intOf]; omega
    | false =>
     rw [hsm] at HS
     have HT : Hid (¬ SameP xs ys) := Lib.hid fun hh => by
      have := hh.2 k hkx hky
      rw [← HXV.out.1, ← HXV.out.2.1] at this
      rw [show enSame x y = true from this] at hsm; cases hsm
     clear hsm
     go_wp2_with fail
     refine HS.out.mono ?_
     rintro r0 w5 ⟨rfl, h6⟩
     have HF := Lib.hid h6.drop.drop
     clear h6 HS e0 e1 e2 e3 e4 e5 e6 d0 d1 d2 d3 d4 d5 d6 g0 g1 g2 g3 g4 g5 g6 j0 j1 j2 j3 j4 j5 j6
     go_wp2_with fail
     go_ret
     exact ⟨false, rfl, ⟨(fun h => by cases h), fun h => absurd h HT.out⟩, HF.out⟩
   ·have hd : decide (k < n) = false := decide_eq_false hkn
    have HF := Lib.hid hs
    have HT : Hid (SameP xs ys) := Lib.hid ⟨by have := HN.out; omega, fun j h h' => hall j h h' (by have := HN.out.1; omega)⟩
    clear hs hall hk hkn
    go_wp2_with fail
    go_ret
    exact ⟨true, rfl, ⟨fun _ => HT.out, fun _ => rfl⟩, HF.out⟩
 ·have hne : ((n : Int) != (n' : Int)) = true := by rw [bne_iff_ne]; omega
  have HT : Hid (¬ SameP xs ys) := Lib.hid fun hh => by have := HN.out; have := hh.1; omega
  clear hll
  go_enter Tryz.func86, Tryz.ntmps86
  go_wp2_with fail
  go_ret
  exact ⟨false, rfl, ⟨(fun h => by cases h), fun h => absurd h HT.out⟩, Sep.start w⟩
-- the document's SameRow
theorem samerow_w {w : World} (a a' : Option Addr) (c c' : Nat) (xs ys : List (EnM × Value)) (hx : EnS w (.slice a xs.length c) xs) (hy : EnS w (.slice a' ys.length c') ys) (hl : xs.length ≤ 1000000) (hl' : ys.length ≤ 1000000) :
  Calls Tryz.prog 60 #[.slice a xs.length c, .slice a' ys.length c'] w fun e w' => ∃ r : Bool, e = .returned (.bool r) ∧ (r = true ↔ SameP xs ys) ∧ Sep w [] w' := by
 have HC := Lib.hid (eqfunc_w a a' c c' xs ys hx hy hl hl')
 clear hx hy hl hl'
 go_enter Tryz.func60, Tryz.ntmps60
 go_wp2_with fail
 refine HC.out.mono ?_
 rintro r0 w1 ⟨r, rfl, hr, h1⟩
 have HF := Lib.hid (And.intro hr h1)
 clear hr h1 HC
 go_wp2_with fail
 go_ret
 exact ⟨r, rfl, HF.out.1, HF.out.2⟩
end Go.Proofs.YtcnbmeiielkigaaGreatDoor
