/- Stage 22, BagPlays: what the walks of step share. -/
import Derived.Deep.Slices
import Derived.Test.YtcnbmeiielkigaaGreatDoorMZ33
import Derived.Test.YtcnbmeiielkigaaGreatDoorMZ34
import Derived.Test.YtcnbmeiielkigaaGreatDoorMZ01
import Derived.Test.YtcnbmeiielkigaaGreatDoorMZ00
import Derived.Test.YtcnbmeiielkigaaGreatDoorMZ21
import Derived.Test.YtcnbmeiielkigaaGreatDoorMZ02
namespace Go.Proofs.YtcnbmeiielkigaaGreatDoor
open Go Go.RowKit
set_option linter.unusedVariables false
set_option linter.unusedSimpArgs false
variable {w0 w : World} {b b' : Nat} {gs hs : List MgM} {L : List Thing}
theorem chkB_same {x y : MgM} (h : SameF x y) : chkB x = chkB y := by
 have hl := h.psl
 obtain ⟨⟨h1, h2, h3, h4, h5, h6, h7, h8, h9, h10, h11, h12, h13, h14, h15⟩, hp⟩ := h
 have ha : x.ps.all (fun q => q.1.ok) = y.ps.all (fun q => q.1.ok) := by
  have e : ∀ l : List (EnM × Value), l.all (fun q => q.1.ok) = (l.map (·.1)).all (·.ok) := by intro l; rw [List.all_map]; rfl
  rw [e, e, hp]
 unfold chkB fIB ckI
 rw [h1, h2, h3, h4, h5, h6, h7, h8, h9, h10, h11, h12, h13, h14, h15, hl, ha]
theorem MOk.of {x y : MgM} (h : SameF x y) (hy : MOk y) : MOk x := hy.same h (by rw [chkB_same h]; exact hy.1)
def zG : MgM := ⟨0, 0, 0, 0, 0, 0, 0, enZ0, .slice none 0 0, 0, 0, 0, false, 0, [], .slice none 0 0, [], .slice none 0 0, 0⟩
theorem zG_c : mgC zG = #[.int .i64 0, .int .i64 0, .int .i64 0, .int .i64 0, .int .i64 0, .int .i64 0, .int .i64 0, .int .i64 0, .int .i64 0, .int .i64 0, .string ⟨#[]⟩, .int .i64 0, .int .i64 0, .slice none 0 0, .int .i64 0, .int .i64 0, .int .i64 0, .bool false, .int .i64 0, .slice none 0 0, .slice none 0 0, .int .i64 0] := rfl
theorem Sep.mtZero (h : Sep w0 L w) : Sep w0 (MT zG :: L) w := by
 have h1 : Sep w0 (EnT (.slice none 0 0) [] :: L) w := Sep.enClose (h.rnNil 7 32)
 have h2 : Sep w0 (By (.slice none 0 0) [] :: EnT (.slice none 0 0) [] :: L) w := h1.rnil 5
 exact Sep.mtClose (g := zG) (h2.rnNil 2 68)
/-- What a call's cells are. -/
def DoC (dc : Array Value) (k n : Int) (g : MgM) (r : Bool) : Prop := dc.size = 25 ∧ dc[0]? = some (.int .i64 k) ∧ dc[1]? = some (.int .i64 n) ∧ dc[24]? = some (.bool r) ∧ ∀ (j : Nat) (u : Value), (mgC g).toList[j]? = some u → dc[2 + j]? = some u
theorem Sep.loadDo {b5 : Nat} {dc : Array Value} {k n : Int} {g : MgM} {r : Bool} (h : Sep w0 (Cl b5 dc 42 :: L) w) (hd : DoC dc k n g r) : (Instr.loadAt 40 (.pointer (some ⟨b5, 2, none⟩))).run Tryz.prog w = .ok (.agg (mgC g)) w := by
 have h1 := run_loadAt_mid (P := Tryz.prog) w b5 2 40 (mgC g).toList _ (fun j v hj => h.cell (hd.2.2.2.2 j v hj)) Tryz.underlying40 rfl (by rw [Array.length_toList]; show _ = some 22; kernel_rfl)
 simpa using h1
def StepP (w0 : World) (b b' m : Nat) (L : List Thing) (e : Ending) (w' : World) : Prop := e = .returned (.bool true) ∧ ∃ gs' hs', gs'.length ≤ m + 1 ∧ SameL gs' hs' ∧ (∀ g ∈ gs', MOk g) ∧ (∀ g ∈ hs', MOk g) ∧ Sep w0 (PB b gs' :: DB b' hs' :: L) w'
theorem mok_snoc {l : List MgM} {g : MgM} (h : ∀ x ∈ l, MOk x) (hg : MOk g) : ∀ x ∈ l ++ [g], MOk x := by
 intro x hx
 rcases List.mem_append.1 hx with h1 | h1
 ·exact h x h1
 ·rw [List.mem_singleton.1 h1]; exact hg
theorem mok_erase {l : List MgM} (i : Nat) (h : ∀ x ∈ l, MOk x) : ∀ x ∈ l.eraseIdx i, MOk x := fun x hx => h x (List.mem_of_mem_eraseIdx hx)
end Go.Proofs.YtcnbmeiielkigaaGreatDoor
/- What the row's shell tells of arguments of whatever type: cells that read as a value of it. -/
namespace Go.Proofs.YtcnbmeiielkigaaGreatDoor
open Go.RowKit
set_option linter.unusedVariables false
/-- Cells that read as a value of a type. -/
def RdC (P : Program) (w : World) (t : TypeId) (cs : List Value) : Prop :=
 ∃ (H : Type) (enc : TypeId × Value → H) (base : Nat) (spare : Nat → Bool) (held : Bool) (fuel : Nat) (x : DataW H × List MemPlace), DataW.trod enc P w base spare held fuel t cs = some x
/-- A struct or an array. -/
def Av (P : Program) (w : World) (t : TypeId) (v : Value) : Prop := ∃ cs : Array Value, v = .agg cs ∧ RdC P w t cs.toList
theorem RdC.int {P : Program} {w : World} {t : TypeId} {k : IntKind} {cs : List Value} (ht : P.underlying t = some (.int k)) (h : RdC P w t cs) : ∃ n, cs = [.int k n] ∧ (Lit.int k n).wf = true := by
 obtain ⟨H, enc, base, spare, held, fuel, x, hf⟩ := h
 cases fuel with
 | zero => simp [DataW.trod] at hf
 | succ m =>
  rw [DataW.trod_step] at hf
  unfold DataW.trodStep at hf
  simp only [ht] at hf
  split at hf <;> simp_all
theorem RdC.bool {P : Program} {w : World} {t : TypeId} {cs : List Value} (ht : P.underlying t = some .bool) (h : RdC P w t cs) : ∃ b, cs = [.bool b] := by
 obtain ⟨H, enc, base, spare, held, fuel, x, hf⟩ := h
 cases fuel with
 | zero => simp [DataW.trod] at hf
 | succ m =>
  rw [DataW.trod_step] at hf
  unfold DataW.trodStep at hf
  simp only [ht] at hf
  split at hf <;> simp_all
theorem RdC.slice {P : Program} {w : World} {t e : TypeId} {cs : List Value} (ht : P.underlying t = some (.slice e)) (h : RdC P w t cs) :
  cs = [.slice none 0 0] ∨ ∃ a len cap, cs = [.slice (some a) len cap] ∧ len ≤ cap ∧ cap ≤ maxLen ∧
   ∀ i, i < len → ∃ cs', cs'.length = P.cellsOf e ∧ (∀ j, j < P.cellsOf e → w.cell? ((a.add (i * P.cellsOf e)).add j) = cs'[j]?) ∧ RdC P w e cs' := by
 obtain ⟨H, enc, base, spare, held, fuel, x, hf⟩ := h
 rcases Go.Deep.open_slice ht hf with ⟨h0, _⟩ | ⟨a, len, cap, m, n, D, Pl, rfl, _, hl, hm, hmm, _, hel⟩
 ·exact .inl h0
 ·refine .inr ⟨a, len, cap, rfl, hl, hm, fun i hi => ?_⟩
  obtain ⟨cs', h1, h2⟩ := hel i (by rw [hmm]; split <;> omega)
  have h3 := World.cells?_some h1
  exact ⟨cs', h3.2.1, h3.2.2, H, enc, base, spare, held, n, _, h2⟩
theorem RdC.array {P : Program} {w : World} {t e : TypeId} {n : Nat} {cs : List Value} (ht : P.underlying t = some (.array n e)) (h : RdC P w t cs) :
  cs.length = P.cellsOf t ∧ ∀ i, i < n → RdC P w e ((cs.drop (i * P.cellsOf e)).take (P.cellsOf e)) := by
 obtain ⟨H, enc, base, spare, held, fuel, x, hf⟩ := h
 cases fuel with
 | zero => simp [DataW.trod] at hf
 | succ m =>
  rw [DataW.trod_step] at hf
  unfold DataW.trodStep at hf
  simp only [ht] at hf
  split at hf
  ·rename_i hl
   refine ⟨hl, fun i hi => ?_⟩
   obtain ⟨ys, hy, _⟩ := Option.map_eq_some_iff.1 hf
   cases hr : DataW.trod enc P w base spare held m e ((cs.drop (i * P.cellsOf e)).take (P.cellsOf e)) with
   | none => rw [mapM_none_of (List.mem_range.2 hi) hr] at hy; cases hy
   | some y => exact ⟨H, enc, base, spare, held, m, y, hr⟩
  ·cases hf
theorem RdC.struct {P : Program} {w : World} {t : TypeId} {fs : Array Field} {cs : List Value} (ht : P.underlying t = some (.struct fs)) (h : RdC P w t cs) :
  cs.length = P.cellsOf t ∧ ∀ f ∈ fs.toList, RdC P w f.type ((cs.drop f.offset).take (P.cellsOf f.type)) := by
 obtain ⟨H, enc, base, spare, held, fuel, x, hf⟩ := h
 cases fuel with
 | zero => simp [DataW.trod] at hf
 | succ m =>
  rw [DataW.trod_step] at hf
  unfold DataW.trodStep at hf
  simp only [ht] at hf
  split at hf
  ·rename_i hl
   refine ⟨hl, fun f hi => ?_⟩
   obtain ⟨ys, hy, _⟩ := Option.map_eq_some_iff.1 hf
   cases hr : DataW.trod enc P w base spare held m f.type ((cs.drop f.offset).take (P.cellsOf f.type)) with
   | none => rw [mapM_none_of hi hr] at hy; cases hy
   | some y => exact ⟨H, enc, base, spare, held, m, y, hr⟩
  ·cases hf
/-- A slice of cells, each by itself. -/
theorem RdC.cells1 {P : Program} {w : World} {t e : TypeId} {v : Value} (ht : P.underlying t = some (.slice e)) (hc : P.cellsOf e = 1) (h : RdC P w t [v]) :
  ∃ (a : Option Addr) (cap : Nat) (vs : List Value), v = .slice a vs.length cap ∧ vs.length ≤ cap ∧ cap ≤ maxLen ∧ Sl w (.slice a vs.length cap) vs ∧ ∀ u ∈ vs, RdC P w e [u] := by
 rcases h.slice ht with h0 | ⟨a, len, cap, h0, hl, hm, hel⟩
 ·simp only [List.cons.injEq, and_true] at h0
  subst h0
  exact ⟨none, 0, [], rfl, Nat.le_refl _, Nat.zero_le _, .inl (.inl ⟨rfl, rfl⟩), fun _ h => by cases h⟩
 ·simp only [List.cons.injEq, and_true] at h0
  subst h0
  rw [hc] at hel
  have hall : ∀ i, i < len → ∃ u, w.cell? (a.add i) = some u ∧ RdC P w e [u] := by
   intro i hi
   obtain ⟨cs', h1, h2, h3⟩ := hel i hi
   match cs', h1 with
   | [u], _ =>
    refine ⟨u, ?_, h3⟩
    have := h2 0 (by omega)
    rw [Nat.mul_one] at this
    have ha : (a.add i).add 0 = a.add i := by unfold Addr.add; cases (a.spot) <;> simp
    rw [ha] at this
    simpa using this
  by_cases h0 : len = 0
  ·subst h0
   exact ⟨some a, cap, [], rfl, hl, hm, .inr ⟨a, cap, rfl, rfl⟩, fun _ h => by cases h⟩
  ·have hx : ∃ b off, a = ⟨b, off, none⟩ := by
    obtain ⟨u, h1, _⟩ := hall 0 (by omega)
    obtain ⟨b, off, sp⟩ := a
    cases sp with
    | none => exact ⟨b, off, rfl⟩
    | some s => simp [Addr.add, World.cell?] at h1; split at h1 <;> simp at h1
   obtain ⟨b, off, rfl⟩ := hx
   have hadd : ∀ j, (⟨b, off, none⟩ : Addr).add j = ⟨b, off + j, none⟩ := fun j => by unfold Addr.add; split <;> simp_all
   let g : Nat → Value := fun i => (w.cell? ⟨b, off + i, none⟩).getD (.bool false)
   have hg : ∀ i, i < len → w.cell? ⟨b, off + i, none⟩ = some (g i) ∧ RdC P w e [g i] := by
    intro i hi
    obtain ⟨u, h1, h2⟩ := hall i hi
    rw [hadd] at h1
    have : g i = u := by show (w.cell? ⟨b, off + i, none⟩).getD _ = u; rw [h1]; rfl
    rw [this]
    exact ⟨h1, h2⟩
   have hb : b < w.heap.size := World.block_lt_of_cell? w ⟨b, off + 0, none⟩ (hg 0 (by omega)).1
   refine ⟨some ⟨b, off, none⟩, cap, (List.range len).map g, by simp, by simpa using hl, hm, .inl (.inr ⟨b, off, cap, rfl, by simpa using hl, hm, hb, fun j u hj => ?_⟩), fun u hu => ?_⟩
   ·rw [List.getElem?_map] at hj
    obtain ⟨i, hi, rfl⟩ := Option.map_eq_some_iff.1 hj
    rw [List.getElem?_range] at hi
    ·cases hi
     have hj2 : j < len := by
      rcases Nat.lt_or_ge j len with h | h
      ·exact h
      ·rw [List.getElem?_eq_none (by simpa using h)] at hj; cases hj
     exact (hg j hj2).1
    ·rcases Nat.lt_or_ge j len with h | h
     ·exact h
     ·rw [List.getElem?_eq_none (by simpa using h)] at hj; cases hj
   ·obtain ⟨i, hi, rfl⟩ := List.mem_map.1 hu
    exact (hg i (List.mem_range.1 hi)).2
/-- .. of bytes. -/
theorem RdC.bytes {P : Program} {w : World} {t e : TypeId} {v : Value} (ht : P.underlying t = some (.slice e)) (he : P.underlying e = some (.int .u8)) (hc : P.cellsOf e = 1) (h : RdC P w t [v]) :
  ∃ (a : Option Addr) (cap : Nat) (l : List UInt8), v = .slice a l.length cap ∧ l.length ≤ cap ∧ cap ≤ maxLen ∧ Sl w (.slice a l.length cap) (bv l) := by
 obtain ⟨a, cap, vs, rfl, h1, h2, h3, h4⟩ := h.cells1 ht hc
 obtain ⟨l, rfl⟩ : ∃ l : List UInt8, vs = bv l := by
  clear h1 h3 h
  induction vs with
  | nil => exact ⟨[], rfl⟩
  | cons u vs ih =>
   obtain ⟨l, rfl⟩ := ih fun u hu => h4 u (List.mem_cons_of_mem _ hu)
   obtain ⟨n, hn, hw⟩ := (h4 u (List.mem_cons_self ..)).int he
   simp only [List.cons.injEq, and_true] at hn
   subst hn
   have := bounds_u8 hw
   refine ⟨UInt8.ofNat n.toNat :: l, ?_⟩
   simp only [bv, List.map_cons, List.cons.injEq, Value.int.injEq, true_and, and_true]
   rw [UInt8.toNat_ofNat']
   omega
 rw [bv_length] at h1 h3
 exact ⟨a, cap, l, by rw [bv_length], h1, h2, h3⟩
end Go.Proofs.YtcnbmeiielkigaaGreatDoor
/- Slices of structs that came in. -/
namespace Go.Proofs.YtcnbmeiielkigaaGreatDoor
open Go.RowKit
set_option linter.unusedVariables false
/-- A slice whose elements take c cells each. -/
theorem RdC.rows {P : Program} {w : World} {t e : TypeId} {v : Value} {c : Nat} (ht : P.underlying t = some (.slice e)) (hc : P.cellsOf e = c) (hpos : 0 < c) (h : RdC P w t [v]) :
  ∃ (a : Option Addr) (len cap : Nat), v = .slice a len cap ∧ len ≤ cap ∧ cap ≤ maxLen ∧
   ∀ i, i < len → ∃ b off, a = some ⟨b, off, none⟩ ∧ b < w.heap.size ∧ ∃ cs : List Value, cs.length = c ∧ (∀ j (hj : j < cs.length), w.cell? ⟨b, off + i * c + j, none⟩ = some cs[j]) ∧ RdC P w e cs := by
 rcases h.slice ht with h0 | ⟨a, len, cap, h0, hl, hm, hel⟩
 ·simp only [List.cons.injEq, and_true] at h0
  subst h0
  exact ⟨none, 0, 0, rfl, Nat.le_refl _, Nat.zero_le _, fun i hi => by omega⟩
 ·simp only [List.cons.injEq, and_true] at h0
  subst h0
  refine ⟨some a, len, cap, rfl, hl, hm, fun i hi => ?_⟩
  obtain ⟨cs, h1, h2, h3⟩ := hel i hi
  rw [hc] at h1 h2
  have hx : ∃ b off, a = ⟨b, off, none⟩ := by
   obtain ⟨cs', g1, g2, _⟩ := hel 0 (by omega)
   have h4 := g2 0 (by omega)
   obtain ⟨b, off, sp⟩ := a
   cases sp with
   | none => exact ⟨b, off, rfl⟩
   | some s =>
    rw [List.getElem?_eq_getElem (by omega)] at h4
    simp [Addr.add, World.cell?] at h4
    split at h4 <;> simp at h4
  obtain ⟨b, off, rfl⟩ := hx
  have hadd : ∀ o j, (⟨b, o, none⟩ : Addr).add j = ⟨b, o + j, none⟩ := fun o j => by unfold Addr.add; split <;> simp_all
  have hcell : ∀ j (hj : j < cs.length), w.cell? ⟨b, off + i * c + j, none⟩ = some cs[j] := fun j hj => by
   have h4 := h2 j (by omega)
   rw [hadd, hadd, List.getElem?_eq_getElem hj] at h4
   exact h4
  exact ⟨b, off, rfl, World.block_lt_of_cell? w ⟨b, off + i * c + 0, none⟩ (hcell 0 (by omega)), cs, h1, hcell, h3⟩
end Go.Proofs.YtcnbmeiielkigaaGreatDoor
/- What came in, with its weights: how many bytes each slice takes. -/
namespace Go.Proofs.YtcnbmeiielkigaaGreatDoor
open Go Go.RowKit
set_option linter.unusedVariables false
set_option linter.unusedSimpArgs false
/-- Cells that read as a value of a type, each slice of it no larger than memory. -/
def RdV (P : Program) (w : World) (t : TypeId) (cs : List Value) : Prop :=
 ∃ (H : Type) (enc : TypeId × Value → H) (base : Nat) (spare : Nat → Bool) (held : Bool) (fuel : Nat) (x : DataW H × List MemPlace), DataW.trod enc P w base spare held fuel t cs = some x ∧ ∀ n ∈ x.1.weights P t, n ≤ reachBytes
def AvV (P : Program) (w : World) (t : TypeId) (v : Value) : Prop := ∃ cs : Array Value, v = .agg cs ∧ RdV P w t cs.toList
theorem RdV.rdc {P : Program} {w : World} {t : TypeId} {cs : List Value} (h : RdV P w t cs) : RdC P w t cs := by
 obtain ⟨H, enc, base, spare, held, fuel, x, hf, -⟩ := h
 exact ⟨H, enc, base, spare, held, fuel, x, hf⟩
theorem AvV.av {P : Program} {w : World} {t : TypeId} {v : Value} (h : AvV P w t v) : Av P w t v := by
 obtain ⟨cs, h1, h2⟩ := h
 exact ⟨cs, h1, h2.rdc⟩
theorem weightsAll_mem {H : Type} {P : Program} {e : TypeId} : ∀ {l : List (DataW H)} {d : DataW H}, d ∈ l → ∀ n ∈ d.weights P e, n ∈ DataW.weightsAll P e l
 | x :: l, d, hd, n, hn => by
  rw [DataW.weightsAll]
  rcases List.mem_cons.1 hd with rfl | hd
  ·exact List.mem_append_left _ hn
  ·exact List.mem_append_right _ (weightsAll_mem hd n hn)
theorem each_mem {H α : Type} {P : Program} {ty : α → TypeId} {r : α → Option (DataW H × List MemPlace)} : ∀ {fs : List α} {ys : List (DataW H × List MemPlace)}, fs.mapM r = some ys → ∀ f ∈ fs, ∃ y, r f = some y ∧ ∀ n ∈ y.1.weights P (ty f), n ∈ DataW.weightsEach P (fs.map ty) (ys.map (·.1))
 | [], ys, h, f, hf => by cases hf
 | g :: fs, ys, h, f, hf => by
  rw [List.mapM_cons] at h
  cases hg : r g with
  | none => rw [hg] at h; simp at h
  | some y0 =>
   rw [hg] at h
   cases hr : fs.mapM r with
   | none => rw [hr] at h; simp at h
   | some ys0 =>
    rw [hr] at h
    simp only [Option.pure_def, Option.bind_eq_bind, Option.bind_some, Option.some.injEq] at h
    subst h
    rcases List.mem_cons.1 hf with rfl | hf
    ·refine ⟨y0, hg, fun n hn => ?_⟩
     show n ∈ DataW.weights P (ty f) y0.1 ++ _
     exact List.mem_append_left _ hn
    ·obtain ⟨y, h1, h2⟩ := each_mem (P := P) (ty := ty) hr f hf
     refine ⟨y, h1, fun n hn => ?_⟩
     show n ∈ DataW.weights P (ty g) y0.1 ++ _
     exact List.mem_append_right _ (h2 n hn)
theorem RdV.struct {P : Program} {w : World} {t : TypeId} {fs : Array Field} {cs : List Value} (ht : P.underlying t = some (.struct fs)) (h : RdV P w t cs) :
  cs.length = P.cellsOf t ∧ ∀ f ∈ fs.toList, RdV P w f.type ((cs.drop f.offset).take (P.cellsOf f.type)) := by
 obtain ⟨H, enc, base, spare, held, fuel, x, hf, hw⟩ := h
 cases fuel with
 | zero => simp [DataW.trod] at hf
 | succ m =>
  rw [DataW.trod_step] at hf
  unfold DataW.trodStep at hf
  simp only [ht] at hf
  split at hf
  ·rename_i hl
   refine ⟨hl, fun f hi => ?_⟩
   obtain ⟨ys, hy, hx⟩ := Option.map_eq_some_iff.1 hf
   subst hx
   obtain ⟨y, h1, h2⟩ := each_mem (P := P) (ty := fun f : Field => f.type) hy f hi
   refine ⟨H, enc, base, spare, held, m, y, h1, fun n hn => hw n ?_⟩
   have h3 := h2 n hn
   unfold DataW.weights
   rw [ht]
   exact h3
  ·cases hf
theorem RdV.slice {P : Program} {w : World} {t e : TypeId} {cs : List Value} (ht : P.underlying t = some (.slice e)) (h : RdV P w t cs) :
  cs = [.slice none 0 0] ∨ ∃ a len cap, cs = [.slice (some a) len cap] ∧ len ≤ cap ∧ cap ≤ maxLen ∧ len * P.bytesOf e ≤ reachBytes ∧
   ∀ i, i < len → ∃ cs', cs'.length = P.cellsOf e ∧ (∀ j, j < P.cellsOf e → w.cell? ((a.add (i * P.cellsOf e)).add j) = cs'[j]?) ∧ RdV P w e cs' := by
 obtain ⟨H, enc, base, spare, held, fuel, x, hf, hw⟩ := h
 rcases Go.Deep.open_slice ht hf with ⟨h0, _⟩ | ⟨a, len, cap, m, n, D, Pl, rfl, _, hl, hm, hmm, hx, hel⟩
 ·exact .inl h0
 ·subst hx
  have hW : ∀ z ∈ (len + (m - len)) * P.bytesOf e :: (DataW.weightsAll P e ((List.range len).map D) ++ DataW.weightsAll P e ((List.range (m - len)).map fun j => D (len + j))), z ≤ reachBytes := by
   intro z hz
   refine hw z ?_
   unfold DataW.weights
   rw [ht]
   simpa using hz
  have hle : len * P.bytesOf e ≤ reachBytes := Nat.le_trans (Nat.mul_le_mul_right _ (by omega)) (hW _ (List.mem_cons_self ..))
  refine .inr ⟨a, len, cap, rfl, hl, hm, hle, fun i hi => ?_⟩
  obtain ⟨cs', h1, h2⟩ := hel i (by rw [hmm]; split <;> omega)
  have h3 := World.cells?_some h1
  refine ⟨cs', h3.2.1, h3.2.2, H, enc, base, spare, held, n, _, h2, fun z hz => hW z ?_⟩
  exact List.mem_cons_of_mem _ (List.mem_append_left _ (weightsAll_mem (List.mem_map.2 ⟨i, by simpa using hi, rfl⟩) z hz))
end Go.Proofs.YtcnbmeiielkigaaGreatDoor
/- Ops, results and lines that came in. -/
namespace Go.Proofs.YtcnbmeiielkigaaGreatDoor
open Go.RowKit
set_option linter.unusedVariables false
theorem RdC.str {P : Program} {w : World} {t : TypeId} {cs : List Value} (ht : P.underlying t = some .string) (h : RdC P w t cs) : ∃ s : KS, cs = [.string s.1] := by
 obtain ⟨H, enc, base, spare, held, fuel, x, hf⟩ := h
 cases fuel with
 | zero => simp [DataW.trod] at hf
 | succ m =>
  rw [DataW.trod_step] at hf
  unfold DataW.trodStep at hf
  simp only [ht] at hf
  split at hf
  all_goals first | (exfalso; simp_all; done) | skip
  rename_i s _
  split at hf
  ·rename_i hs
   exact ⟨⟨s, hs⟩, rfl⟩
  ·cases hf
theorem listN2 {cs : List Value} (h : cs.length = 2) : ∃ u0 u1, cs = [u0, u1] := by
 match cs, h with
 | [u0, u1], _ => exact ⟨u0, u1, rfl⟩
theorem listN5 {cs : List Value} (h : cs.length = 5) : ∃ u0 u1 u2 u3 u4, cs = [u0, u1, u2, u3, u4] := by
 match cs, h with
 | [u0, u1, u2, u3, u4], _ => exact ⟨u0, u1, u2, u3, u4, rfl⟩
theorem lineCells : Tryz.prog.cellsOf 68 = 2 := by kernel_rfl
theorem ln_of {w : World} {cs : List Value} (h : RdC Tryz.prog w 68 cs) : ∃ l : Ln, cs = [.string l.1.1, .int .i64 l.2] := by
 obtain ⟨hl, hf⟩ := h.struct Tryz.underlying68
 rw [lineCells] at hl
 obtain ⟨u0, u1, rfl⟩ := listN2 hl
 have g0 := hf _ (List.mem_cons_self ..)
 have g1 := hf _ (List.mem_cons_of_mem _ (List.mem_cons_self ..))
 rw [show Tryz.prog.cellsOf 9 = 1 by kernel_rfl] at g0
 rw [show Tryz.prog.cellsOf 3 = 1 by kernel_rfl] at g1
 simp only [List.drop_zero, List.drop_succ_cons, List.take_succ_cons, List.take_zero] at g0 g1
 obtain ⟨s, e0⟩ := g0.str Tryz.underlying9
 obtain ⟨n, e1, _⟩ := g1.int Tryz.underlying3
 simp only [List.cons.injEq, and_true] at e0 e1
 exact ⟨(s, n), by rw [e0, e1]⟩
theorem lns_of {w : World} {v : Value} (h : RdC Tryz.prog w 28 [v]) : ∃ ls : List Ln, LnS w v ls := by
 obtain ⟨a, len, cap, rfl, h1, h2, h3⟩ := h.rows Tryz.underlying28 lineCells (by decide)
 by_cases h0 : len = 0
 ·subst h0
  rcases a with _ | a
  ·rcases h.slice Tryz.underlying28 with h4 | ⟨a, _, _, h4, _⟩
   ·simp only [List.cons.injEq, and_true, Value.slice.injEq] at h4
    exact ⟨[], .inl ⟨none, cap, rfl, fun _ => h4.2.2, rfl⟩⟩
   ·simp only [List.cons.injEq, and_true, Value.slice.injEq] at h4
    cases h4.1
  ·exact ⟨[], .inl ⟨some a, cap, rfl, (fun h => nomatch h), rfl⟩⟩
 ·obtain ⟨b, off, rfl, hb, -⟩ := h3 0 (by omega)
  have hc : ∀ i, i < len → ∃ l : Ln, w.cell? ⟨b, off + i * 2, none⟩ = some (.string l.1.1) ∧ w.cell? ⟨b, off + i * 2 + 1, none⟩ = some (.int .i64 l.2) := fun i hi => by
   obtain ⟨b', off', hab, _, cs, hl, hc, hr⟩ := h3 i hi
   simp only [Option.some.injEq, Addr.mk.injEq, and_true] at hab
   obtain ⟨rfl, rfl⟩ := hab
   obtain ⟨l, rfl⟩ := ln_of hr
   exact ⟨l, hc 0 (by simp), hc 1 (by simp)⟩
  have hpick : ∀ i : Nat, ∃ l : Ln, i < len → w.cell? ⟨b, off + i * 2, none⟩ = some (.string l.1.1) ∧ w.cell? ⟨b, off + i * 2 + 1, none⟩ = some (.int .i64 l.2) := fun i => by
   by_cases hi : i < len
   ·obtain ⟨l, h⟩ := hc i hi; exact ⟨l, fun _ => h⟩
   ·exact ⟨(⟨⟨#[]⟩, Nat.zero_le _⟩, 0), fun h => absurd h hi⟩
  obtain ⟨f, hf⟩ := Classical.axiomOfChoice hpick
  refine ⟨(List.range len).map f, .inr ⟨b, off, cap, by simp, by simpa using h1, h2, hb, fun i hi => ?_⟩⟩
  have hi' : i < len := by simpa using hi
  rw [List.getElem_map, List.getElem_range]
  exact hf i hi'
theorem op_of {w : World} {cs : List Value} (h : RdC Tryz.prog w 30 cs) : ∃ (k : Int) (s : KS) (o n : Int) (v : Value) (ls : List Ln), cs = [.int .i64 k, .string s.1, .int .i64 o, .int .i64 n, v] ∧ LnS w v ls ∧ (Lit.int .i64 k).wf = true ∧ (Lit.int .i64 o).wf = true ∧ (Lit.int .i64 n).wf = true := by
 obtain ⟨hl, hf⟩ := h.struct Tryz.underlying30
 rw [show Tryz.prog.cellsOf 30 = 5 by kernel_rfl] at hl
 obtain ⟨u0, u1, u2, u3, u4, rfl⟩ := listN5 hl
 have g0 := hf _ (List.mem_cons_self ..)
 have g1 := hf _ (List.mem_cons_of_mem _ (List.mem_cons_self ..))
 have g2 := hf _ (List.mem_cons_of_mem _ (List.mem_cons_of_mem _ (List.mem_cons_self ..)))
 have g3 := hf _ (List.mem_cons_of_mem _ (List.mem_cons_of_mem _ (List.mem_cons_of_mem _ (List.mem_cons_self ..))))
 have g4 := hf _ (List.mem_cons_of_mem _ (List.mem_cons_of_mem _ (List.mem_cons_of_mem _ (List.mem_cons_of_mem _ (List.mem_cons_self ..)))))
 rw [show Tryz.prog.cellsOf 9 = 1 by kernel_rfl] at g1
 rw [show Tryz.prog.cellsOf 3 = 1 by kernel_rfl] at g0 g2 g3
 rw [show Tryz.prog.cellsOf 28 = 1 by kernel_rfl] at g4
 simp only [List.drop_zero, List.drop_succ_cons, List.take_succ_cons, List.take_zero] at g0 g1 g2 g3 g4
 obtain ⟨k, e0, w0⟩ := g0.int Tryz.underlying3
 obtain ⟨s, e1⟩ := g1.str Tryz.underlying9
 obtain ⟨o, e2, w2⟩ := g2.int Tryz.underlying3
 obtain ⟨n, e3, w3⟩ := g3.int Tryz.underlying3
 obtain ⟨ls, e4⟩ := lns_of g4
 simp only [List.cons.injEq, and_true] at e0 e1 e2 e3
 exact ⟨k, s, o, n, u4, ls, by rw [e0, e1, e2, e3], e4, w0, w2, w3⟩
theorem Av.op {w : World} {v : Value} (h : Av Tryz.prog w 30 v) : ∃ (k : Int) (s : KS) (o n : Int) (u : Value) (ls : List Ln), v = .agg #[.int .i64 k, .string s.1, .int .i64 o, .int .i64 n, u] ∧ LnS w u ls ∧ (Lit.int .i64 k).wf = true ∧ (Lit.int .i64 o).wf = true ∧ (Lit.int .i64 n).wf = true := by
 obtain ⟨cs, rfl, h⟩ := h
 obtain ⟨k, s, o, n, u, ls, e, h⟩ := op_of h
 exact ⟨k, s, o, n, u, ls, congrArg Value.agg (Array.toList_inj.1 e), h⟩
end Go.Proofs.YtcnbmeiielkigaaGreatDoor
/- Messages that came in. -/
namespace Go.Proofs.YtcnbmeiielkigaaGreatDoor
open Go Go.RowKit
set_option linter.unusedVariables false
set_option linter.unusedSimpArgs false
theorem listM22 {cs : List Value} (h : cs.length = 22) : ∃ u0 u1 u2 u3 u4 u5 u6 u7 u8 u9 u10 u11 u12 u13 u14 u15 u16 u17 u18 u19 u20 u21, cs = [u0, u1, u2, u3, u4, u5, u6, u7, u8, u9, u10, u11, u12, u13, u14, u15, u16, u17, u18, u19, u20, u21] := by
 match cs, h with
 | [u0, u1, u2, u3, u4, u5, u6, u7, u8, u9, u10, u11, u12, u13, u14, u15, u16, u17, u18, u19, u20, u21], _ => exact ⟨u0, u1, u2, u3, u4, u5, u6, u7, u8, u9, u10, u11, u12, u13, u14, u15, u16, u17, u18, u19, u20, u21, rfl⟩
end Go.Proofs.YtcnbmeiielkigaaGreatDoor
/- Stage 22, BagPlays: the calls that came in. -/
namespace Go.Proofs.YtcnbmeiielkigaaGreatDoor
open Go Go.RowKit
set_option linter.unusedVariables false
set_option linter.unusedSimpArgs false
theorem RdV.rows {P : Program} {w : World} {t e : TypeId} {v : Value} {c : Nat} (ht : P.underlying t = some (.slice e)) (hc : P.cellsOf e = c) (hpos : 0 < c) (h : RdV P w t [v]) :
  ∃ (a : Option Addr) (len cap : Nat), v = .slice a len cap ∧ len ≤ cap ∧ cap ≤ maxLen ∧
   ∀ i, i < len → ∃ b off, a = some ⟨b, off, none⟩ ∧ b < w.heap.size ∧ ∃ cs : List Value, cs.length = c ∧ (∀ j (hj : j < cs.length), w.cell? ⟨b, off + i * c + j, none⟩ = some cs[j]) ∧ RdV P w e cs := by
 rcases h.slice ht with h0 | ⟨a, len, cap, h0, hl, hm, -, hel⟩
 ·simp only [List.cons.injEq, and_true] at h0
  subst h0
  exact ⟨none, 0, 0, rfl, Nat.le_refl _, Nat.zero_le _, fun i hi => by omega⟩
 ·simp only [List.cons.injEq, and_true] at h0
  subst h0
  refine ⟨some a, len, cap, rfl, hl, hm, fun i hi => ?_⟩
  obtain ⟨cs, h1, h2, h3⟩ := hel i hi
  rw [hc] at h1 h2
  have hx : ∃ b off, a = ⟨b, off, none⟩ := by
   obtain ⟨cs', g1, g2, _⟩ := hel 0 (by omega)
   have h4 := g2 0 (by omega)
   obtain ⟨b, off, sp⟩ := a
   cases sp with
   | none => exact ⟨b, off, rfl⟩
   | some s =>
    rw [List.getElem?_eq_getElem (by omega)] at h4
    simp [Addr.add, World.cell?] at h4
    split at h4 <;> simp at h4
  obtain ⟨b, off, rfl⟩ := hx
  have hadd : ∀ o j, (⟨b, o, none⟩ : Addr).add j = ⟨b, o + j, none⟩ := fun o j => by unfold Addr.add; split <;> simp_all
  have hcell : ∀ j (hj : j < cs.length), w.cell? ⟨b, off + i * c + j, none⟩ = some cs[j] := fun j hj => by
   have h4 := h2 j (by omega)
   rw [hadd, hadd, List.getElem?_eq_getElem hj] at h4
   exact h4
  exact ⟨b, off, rfl, World.block_lt_of_cell? w ⟨b, off + i * c + 0, none⟩ (hcell 0 (by omega)), cs, h1, hcell, h3⟩
/-- A message that came in. -/
def MIn (w : World) (g : MgM) : Prop := GmS w g ∧ g.ck.length ≤ 9223372036854775807 ∧ g.ps.length ≤ 9223372036854775807 ∧ g.ic ≤ 9223372036854775807 ∧ ∀ x ∈ g.ps, x.1.p.ls.length ≤ 5864062014805
/-- Calls that lie there. -/
def DosAt (w : World) (a : Option Addr) (len : Nat) : Prop := ∀ i, i < len → ∃ b off, a = some ⟨b, off, none⟩ ∧ b < w.heap.size ∧
  ∃ (dc : Array Value) (k n : Int) (g : MgM) (r : Bool), DoC dc k n g r ∧ MIn w g ∧ ∀ j u, dc[j]? = some u → w.cell? ⟨b, off + i * 25 + j, none⟩ = some u
end Go.Proofs.YtcnbmeiielkigaaGreatDoor
