/- Texts of one bundle: Kit, Slices, Grow, Concat, BitsMath, Bits, Bring, Ints, TurnMath. -/
import Derived.Test.YtcicclghgbdgnaaDoorChecked
import Derived.WalkKit
import Derived.ProofKit
import Derived.OpenShut
import Derived.Outline
import Derived.WalkSpells
import Derived.WalkLawsBesides
import Derived.Laws.BytesArg
import Derived.Laws.AppendOwnNone
import Derived.Laws.OwnMore
import Derived.Lib.Hide
import Derived.Lib.AppendZeros
import Derived.Laws.Bits64b
import Derived.Laws.ShiftsVarLaws
import Derived.Laws.BitsLemmas
import Derived.Laws.DeepNot64
import Derived.IntWalk
/- Small words of our own over the library: slices that read as lists, and what becomes of them. No statement is proved here. -/
namespace Go.Proofs.YtcicclghgbdgnaaDoor
open Go.RowKit

/-- Bytes as values. -/
def bv (l : List UInt8) : List Value := l.map fun c => Value.int .u8 c.toNat
theorem bv_length (l : List UInt8) : (bv l).length = l.length := by simp [bv]
theorem bv_append (a b : List UInt8) : bv (a ++ b) = bv a ++ bv b := by simp [bv]
theorem bv_inj {a b : List UInt8} (h : bv a = bv b) : a = b := by
  induction a generalizing b with
  | nil => cases b with | nil => rfl | cons y b => simp [bv] at h
  | cons x a ih =>
    cases b with
    | nil => simp [bv] at h
    | cons y b =>
      simp only [bv, List.map_cons, List.cons.injEq, Value.int.injEq, true_and] at h
      obtain ⟨h1, h2⟩ := h
      have h1' : x.toNat = y.toNat := by omega
      rw [UInt8.toNat_inj.1 h1', ih h2]
theorem bv_get (l : List UInt8) (j : Nat) (h : j < l.length) : (bv l)[j]? = some (.int .u8 (l[j]).toNat) := by simp [bv, h]
theorem bv_nil_iff (l : List UInt8) : bv l = [] ↔ l = [] := by simp [bv]

/-- A slice value that reads as a list of one-cell values. -/
def SlS (w : World) (v : Value) (xs : List Value) : Prop :=
  (v = .slice none 0 0 ∧ xs = []) ∨ ∃ b off cap, v = .slice (some ⟨b, off, none⟩) xs.length cap ∧ xs.length ≤ cap ∧ cap ≤ maxLen ∧ b < w.heap.size ∧ ∀ j u, xs[j]? = some u → w.cell? ⟨b, off + j, none⟩ = some u

/-- The same, where an empty one that came in may have whatever address. -/
def Sl (w : World) (v : Value) (xs : List Value) : Prop := SlS w v xs ∨ ∃ x c, v = .slice (some x) 0 c ∧ xs = []

theorem SlS.sl {w : World} {v : Value} {xs : List Value} (h : SlS w v xs) : Sl w v xs := .inl h

/-- Its length as the walk reads it. -/
theorem Sl.len {w : World} {v : Value} {xs : List Value} (h : Sl w v xs) : ∃ a c, v = .slice a xs.length c := by
  rcases h with (⟨rfl, rfl⟩ | ⟨b, off, cap, rfl, _⟩) | ⟨x, c, rfl, rfl⟩
  · exact ⟨none, 0, rfl⟩
  · exact ⟨_, _, rfl⟩
  · exact ⟨_, _, rfl⟩
theorem SlS.len {w : World} {v : Value} {xs : List Value} (h : SlS w v xs) : ∃ a c, v = .slice a xs.length c := h.sl.len

/-- It is read the same where its block is as it was. -/
theorem SlS.keep {w w' : World} {v : Value} {xs : List Value} (h : SlS w v xs) (hs : w.heap.size ≤ w'.heap.size) (hk : ∀ b, v.ownBlock = some b → b < w.heap.size → w'.heap[b]? = w.heap[b]?) : SlS w' v xs := by
  rcases h with h | ⟨b, off, cap, rfl, h1, h2, h3, hc⟩
  · exact .inl h
  · refine .inr ⟨b, off, cap, rfl, h1, h2, by omega, fun j u hj => ?_⟩
    rw [World.cell?_of_block (w := w) (hk b rfl h3)]
    exact hc j u hj
theorem Sl.keep {w w' : World} {v : Value} {xs : List Value} (h : Sl w v xs) (hs : w.heap.size ≤ w'.heap.size) (hk : ∀ b, v.ownBlock = some b → b < w.heap.size → w'.heap[b]? = w.heap[b]?) : Sl w' v xs := by
  rcases h with h | h
  · exact .inl (h.keep hs hk)
  · exact .inr h

theorem SlS.below {w w' : World} {v : Value} {xs : List Value} (h : SlS w v xs) (hb : Below w.heap.size w w') : SlS w' v xs :=
  h.keep hb.size fun b _ hlt => hb.block b hlt
theorem Sl.below {w w' : World} {v : Value} {xs : List Value} (h : Sl w v xs) (hb : Below w.heap.size w w') : Sl w' v xs :=
  h.keep hb.size fun b _ hlt => hb.block b hlt
/-- A slice of integers that came in, as the row's shell tells it. -/
theorem sl_of_row {w : World} {a : Option Addr} {len cap : Nat} {zs : List Int}
    (h : (a = none ∧ len = 0 ∧ cap = 0 ∧ zs = []) ∨ ∃ x, a = some x ∧ len ≤ cap ∧ cap ≤ maxLen ∧ zs.length = cap ∧ (∀ i, i < zs.length → w.cell? (x.add i) = some (.int .u8 (zs.getD i 0))) ∧ ∀ n ∈ zs, (Lit.int .u8 n).wf = true) :
    ∃ l : List UInt8, l.length = len ∧ len ≤ cap ∧ Sl w (.slice a l.length cap) (bv l) := by
  rcases h with ⟨rfl, rfl, rfl, rfl⟩ | ⟨x, rfl, h1, h2, h3, h4, h5⟩
  · exact ⟨[], rfl, Nat.le_refl _, .inl (.inl ⟨rfl, rfl⟩)⟩
  · by_cases h0 : len = 0
    · subst h0
      exact ⟨[], rfl, h1, .inr ⟨x, cap, rfl, rfl⟩⟩
    · have hx : ∃ b off, x = ⟨b, off, none⟩ := by
        have := h4 0 (by omega)
        obtain ⟨b, off, sp⟩ := x
        cases sp with
        | none => exact ⟨b, off, rfl⟩
        | some s => simp [Addr.add, World.cell?] at this; split at this <;> simp at this
      obtain ⟨b, off, rfl⟩ := hx
      have hadd : ∀ j, (⟨b, off, none⟩ : Addr).add j = ⟨b, off + j, none⟩ := fun j => by unfold Addr.add; split <;> simp_all
      have hb : b < w.heap.size := World.block_lt_of_cell? w ⟨b, off, none⟩ (by have := h4 0 (by omega); rw [hadd, Nat.add_zero] at this; exact this)
      have hl : ((zs.take len).map fun n => UInt8.ofNat n.toNat).length = len := by rw [List.length_map, List.length_take]; omega
      refine ⟨(zs.take len).map fun n => UInt8.ofNat n.toNat, hl, h1, .inl (.inr ⟨b, off, cap, by rw [bv_length], by rw [bv_length, hl]; exact h1, h2, hb, fun j u hj => ?_⟩)⟩
      rw [← hadd]
      have hj' : j < len := by
        rcases Nat.lt_or_ge j len with h | h
        · exact h
        · rw [List.getElem?_eq_none (by rw [bv_length, hl]; exact h)] at hj; cases hj
      have hjz : j < zs.length := by omega
      rw [h4 j hjz, ← hj, bv, List.map_map, List.getElem?_map, List.getElem?_take, if_pos hj', List.getElem?_eq_getElem hjz]
      have hw := h5 zs[j] (List.getElem_mem hjz)
      have hw' : 0 ≤ zs[j] ∧ zs[j] < 256 := by
        have := bounds_u8 hw
        omega
      simp only [List.getD, List.getElem?_eq_getElem hjz, Option.getD_some, Option.map_some, Function.comp, Option.some.injEq, Value.int.injEq, true_and]
      rw [UInt8.toNat_ofNat']
      omega

/-- A slice of the call's own, from block 'base' on. -/
abbrev Own (w : World) (base : Nat) (e : TypeId) (v : Value) (xs : List Value) : Prop := w.ownsRow base e 1 v xs.length xs

theorem Own.sls {w : World} {base : Nat} {e : TypeId} {v : Value} {xs : List Value} (h : Own w base e v xs) : SlS w v xs := by
  rcases h.2 with ⟨rfl, hn⟩ | ⟨g, cap, cur, rfl, hb, hg, hnc, hcm, hcs, ht⟩
  · exact .inl ⟨rfl, List.eq_nil_of_length_eq_zero hn⟩
  · refine .inr ⟨g, 0, cap, rfl, hnc, hcm, (Array.getElem?_eq_some_iff.1 hg).1, fun j u hj => ?_⟩
    have hadd : (⟨g, 0, none⟩ : Addr).add j = ⟨g, 0 + j, none⟩ := by unfold Addr.add; split <;> simp_all
    rw [← hadd]
    exact h.cells (g := g) rfl j u hj

theorem Own.sl {w : World} {base : Nat} {e : TypeId} {v : Value} {xs : List Value} (h : Own w base e v xs) : Sl w v xs := h.sls.sl
theorem Own.base {w : World} {base base' : Nat} {e : TypeId} {v : Value} {xs : List Value} (h : Own w base e v xs) (hb : base' ≤ base) : Own w base' e v xs := by
  refine ⟨h.1, ?_⟩
  rcases h.2 with h2 | ⟨g, cap, cur, hv, hg, r⟩
  · exact .inl h2
  · exact .inr ⟨g, cap, cur, hv, by omega, r⟩

theorem Own.keep {w w' : World} {base : Nat} {e : TypeId} {v : Value} {xs : List Value} (h : Own w base e v xs) (hk : ∀ b, v.ownBlock = some b → b < w.heap.size → w'.heap[b]? = w.heap[b]?) : Own w' base e v xs := by
  refine ⟨h.1, ?_⟩
  rcases h.2 with h2 | ⟨g, cap, cur, rfl, hg, hh, r⟩
  · exact .inl h2
  · exact .inr ⟨g, cap, cur, rfl, hg, by rw [hk g rfl (Array.getElem?_eq_some_iff.1 hh).1]; exact hh, r⟩

theorem Own.below {w w' : World} {base : Nat} {e : TypeId} {v : Value} {xs : List Value} (h : Own w base e v xs) (hb : Below w.heap.size w w') : Own w' base e v xs :=
  h.keep fun b _ hlt => hb.block b hlt

theorem Own.alloc {w : World} {base : Nat} {e : TypeId} {v : Value} {xs : List Value} (h : Own w base e v xs) (o : Obj) : Own (w.alloc o) base e v xs := World.ownsRow.alloc h o

theorem below_grown {w w' : World} {row : Option Nat} {B : Nat} (hg : w.grownBy w' row) (hB : B ≤ w.heap.size) (hr : ∀ k, row = some k → B ≤ k) : Below B w w' := (Below.refl B w).grown hg hB hr

/-- 'append' of what reads as a list onto a slice of the call's own. -/
theorem run_append_sl {P : Program} {w : World} {t ty e : TypeId} {i : TypeInfo} {z : Value} (ht : P.underlying t = some (.slice e)) (hi : P.info? e = some i) (hz : i.zero = some z)
    (hsize : i.size = 1) (hby : i.bytes ≤ 64) (hzs : z.cells.size = 1) {base : Nat} {v x : Value} {xs ys : List Value} (hown : Own w base e v xs) (hx : Sl w x ys) (h1 : ∀ u ∈ ys, u.oneCell' = true)
    (hlen : xs.length + ys.length ≤ 2199023255552) (hbase : base ≤ w.heap.size) :
    ∃ v' w', (Builtin.append_ #[t, t] ty #[v, x]).run P w = .ok v' w' ∧ Own w' base e v' (xs ++ ys) ∧ w.grownBy w' v.ownBlock ∧ (v' = .slice none 0 0 → v = .slice none 0 0) := by
  rcases hx with (⟨rfl, rfl⟩ | ⟨b, off, cap, rfl, h2, h3, h4, hc⟩) | ⟨x, c, rfl, rfl⟩
  rotate_left
  rotate_left
  · obtain ⟨v', w', hr, ho, hg, hn⟩ := run_append_own (P := P) w base t ty e i z 1 i.bytes ht hi hz hsize rfl hzs (by decide) v xs.length xs hown x 0 c [] (by simp) (fun j u hj => by simp at hj) h1
      (by unfold maxLen; simp at hlen; omega) (by
        simp only [List.length_nil, Nat.add_zero] at hlen ⊢
        calc xs.length * i.bytes ≤ 2199023255552 * 64 := Nat.mul_le_mul hlen hby
          _ = 140737488355328 := by omega) hbase
    exact ⟨v', w', hr, by simpa using ho, hg, fun h => (hn.1 h).1⟩
  · refine ⟨v, w, run_append_owned_none (P := P) w base t ty e i 1 ht hi v _ xs hown, by simpa using hown, ⟨rfl, rfl, rfl, Nat.le_refl _, fun _ _ _ => rfl⟩, id⟩
  · have hm : xs.length + ys.length ≤ maxLen := by unfold maxLen; omega
    have hbb : (xs.length + ys.length) * i.bytes ≤ 140737488355328 := by
      calc (xs.length + ys.length) * i.bytes ≤ 2199023255552 * 64 := Nat.mul_le_mul hlen hby
        _ = 140737488355328 := by omega
    obtain ⟨v', w', hr, ho, hg, hn⟩ := run_append_own (P := P) w base t ty e i z 1 i.bytes ht hi hz hsize rfl hzs (by decide) v xs.length xs hown ⟨b, off, none⟩ ys.length cap ys (by simp)
      (fun j u hj => by
        have hadd : (⟨b, off, none⟩ : Addr).add j = ⟨b, off + j, none⟩ := by unfold Addr.add; split <;> simp_all
        rw [hadd]; exact hc j u hj) h1 hm hbb hbase
    refine ⟨v', w', hr, ?_, hg, fun h => (hn.1 h).1⟩
    show w'.ownsRow base e 1 v' (xs ++ ys).length (xs ++ ys)
    rw [List.length_append]
    exact ho

theorem bv_one (l : List UInt8) : ∀ u ∈ bv l, u.oneCell' = true := by
  intro u hu
  obtain ⟨_, _, rfl⟩ := List.mem_map.1 hu
  rfl

/-- Bytes turned into a string. -/
theorem strOfNums_bv (l : List UInt8) : strOfNums (l.map fun c => (c.toNat : Int)) = ⟨l.toArray⟩ := by
  have h : ∀ s : ByteArray, s.data.toList = l → s = ⟨l.toArray⟩ := by
    intro s hs; cases s with | mk d => simp at hs; subst hs; simp
  apply h
  rw [strOfNums_data, List.map_map]
  have : ((fun n : Int => UInt8.ofNat n.toNat) ∘ fun c : UInt8 => (c.toNat : Int)) = id := by
    funext c; simp
  rw [this, List.map_id]

theorem conv_bytes {P : Program} {src e dst : TypeId} (hs : P.underlying src = some (.slice e)) (he : P.underlying e = some (.int .u8)) (hd : P.underlying dst = some .string)
    {w : World} {v : Value} {l : List UInt8} (h : Sl w v (bv l)) : (convert src dst v).run P w = .ok (.string ⟨l.toArray⟩) w := by
  rcases h with (⟨rfl, hx⟩ | ⟨b, off, cap, rfl, h1, h2, _, hc⟩) | ⟨x, c, rfl, hx⟩
  rotate_left
  rotate_left
  · obtain rfl : l = [] := (bv_nil_iff l).1 hx
    have hl : (loadCells x 0).run P w = .ok ((([] : List Int).map (Value.int .u8)).toArray) w := by simp [loadCells, loadCellsFrom]
    rw [run_convert_bytes_string w src dst e _ 0 c hs he hd, run_bytesToString w _ 0 c [] hl, foldl_push_bytes]
    rfl
  · have : l = [] := (bv_nil_iff l).1 hx
    subst this
    exact run_convert_bytes_nil w src e hs he 0 0 dst hd
  · rw [← strOfNums_bv, bv_length]
    exact run_convert_bytes_arg w src e hs he b off l.length cap (l.map fun c => (c.toNat : Int)) (by simp) (fun i hi => by
      rw [hc i (.int .u8 (l[i].toNat)) (bv_get l i hi)]
      simp [List.getD, hi]) dst hd

theorem below_step {a w w' : World} (h : Below a.heap.size a w) (hb : Below w.heap.size w w') : Below a.heap.size a w' := h.trans (hb.mono h.size)
theorem below_alloc {a w : World} (h : Below a.heap.size a w) (o : Obj) : Below a.heap.size a (w.alloc o) := h.alloc h.size o

/-- But for block g, what was there is as it was. -/
structure Upd (g : Nat) (w w' : World) : Prop where
  os : w'.os = w.os
  tape : w'.tape = w.tape
  output : w'.output = w.output
  size : w.heap.size ≤ w'.heap.size
  block : ∀ k, k < w.heap.size → k ≠ g → w'.heap[k]? = w.heap[k]?
theorem Upd.refl (g : Nat) (w : World) : Upd g w w := ⟨rfl, rfl, rfl, Nat.le_refl _, fun _ _ _ => rfl⟩
theorem Upd.trans {g : Nat} {a b c : World} (h : Upd g a b) (k : Upd g b c) : Upd g a c :=
  ⟨k.os.trans h.os, k.tape.trans h.tape, k.output.trans h.output, Nat.le_trans h.size k.size, fun i hi hn => (k.block i (Nat.lt_of_lt_of_le hi h.size) hn).trans (h.block i hi hn)⟩
theorem Upd.drew {g : Nat} {a w : World} (h : Upd g a w) : Upd g a w.drew := ⟨h.os, h.tape, h.output, h.size, h.block⟩
theorem below_upd {w w' : World} (h : Below w.heap.size w w') (g : Nat) : Upd g w w' := ⟨h.os, h.tape, h.output, h.size, fun k hk _ => h.block k hk⟩
theorem Upd.below {g B : Nat} {w w' : World} (h : Upd g w w') (hB : B ≤ g) (hw : B ≤ w.heap.size) : Below B w w' :=
  ⟨h.os, h.tape, h.output, h.size, fun k hk => h.block k (by omega) (by omega)⟩
theorem Upd.setCell {g : Nat} {a w : World} (h : Upd g a w) (o : Nat) (u : Value) : Upd g a (w.setCell ⟨g, o, none⟩ u) :=
  h.trans ⟨rfl, rfl, rfl, by simp [World.setCell], fun _ _ hn => Below.heap_setCell _ _ _ _ (by simpa using hn)⟩
/-- A store into a block that was not there. -/
theorem Upd.setNew {g : Nat} {a w : World} (h : Upd g a w) {b : Nat} (hb : a.heap.size ≤ b) (o : Nat) (u : Value) : Upd g a (w.setCell ⟨b, o, none⟩ u) :=
  ⟨h.os, h.tape, h.output, by simp [World.setCell]; exact h.size, fun k hk hn => (Below.heap_setCell w ⟨b, o, none⟩ u k (by show k ≠ b; omega)).trans (h.block k hk hn)⟩
theorem Upd.drewN {g : Nat} {a w : World} (h : Upd g a w) (n : Nat) : Upd g a (w.drewN n) := ⟨h.os, h.tape, h.output, h.size, h.block⟩
theorem Upd.alloc {g : Nat} {a w : World} (h : Upd g a w) (o : Obj) : Upd g a (w.alloc o) :=
  h.trans (below_upd ((Below.refl w.heap.size w).alloc (Nat.le_refl _) o) g)
theorem SlS.upd {g : Nat} {w w' : World} {v : Value} {xs : List Value} (h : SlS w v xs) (hu : Upd g w w') (hv : v.ownBlock ≠ some g) : SlS w' v xs :=
  h.keep hu.size fun b hb hlt => hu.block b hlt (fun e => hv (by rw [hb, e]))
theorem Sl.upd {g : Nat} {w w' : World} {v : Value} {xs : List Value} (h : Sl w v xs) (hu : Upd g w w') (hv : v.ownBlock ≠ some g) : Sl w' v xs :=
  h.keep hu.size fun b hb hlt => hu.block b hlt (fun e => hv (by rw [hb, e]))
theorem Own.upd {g : Nat} {w w' : World} {base : Nat} {e : TypeId} {v : Value} {xs : List Value} (h : Own w base e v xs) (hu : Upd g w w') (hv : v.ownBlock ≠ some g) : Own w' base e v xs :=
  h.keep fun b hb hlt => hu.block b hlt (fun e => hv (by rw [hb, e]))
/-- What is the call's own is no block that was there ahead. -/
theorem Own.ne {w : World} {base g : Nat} {e : TypeId} {v : Value} {xs : List Value} (h : Own w base e v xs) (hg : g < base) : v.ownBlock ≠ some g :=
  fun hb => by have := (h.lt g hb).1; omega

/-- A store into a row of cells. -/
theorem heap_setCell_at {w : World} {g o : Nat} {cur : Array Value} {e : TypeId} {fr : Nat × Nat} (h : w.heap[g]? = some (.cells cur e fr)) (x : Value) :
    (w.setCell ⟨g, o, none⟩ x).heap[g]? = some (.cells (cur.setIfInBounds o x) e fr) := by
  simp only [World.setCell, Array.getElem?_modify, if_true, h]
  rfl

/-- An append whose run is known. -/
theorem wpList_append_run {P : Program} {w : World} {ops : Array Oper} {rest : List Oper} {o : Oper} {a : Act} {Q : Exit → Act → World → Prop} (hgd : o.guard = none) (s x : Operand) (t u : TypeId)
    (ho : o.op = .call { callee := .builtin .append, args := #[s, x], argTypes := #[t, u] }) {v y v' : Value} {w' : World} (hs : a.eval s = v) (hx : a.eval x = y)
    (hr : (Builtin.append_ #[t, u] o.type #[v, y]).run P w = .ok v' w') (h : wpList P ops Q rest (a.put o.dst v') w') : wpList P ops Q (o :: rest) a w := by
  refine wpList_plain hgd fun K hK => ?_
  unfold Oper.wp
  simp [execOp, ho, resolve, invoke, builtin, hs, hx, hr, Result.andThen]
  exact hK _ _ h

end Go.Proofs.YtcicclghgbdgnaaDoor

/- Contracts of the small functions on bytes: EqBytes, CopyBytes, slices.Grow, slices.Concat, slices.Clone. -/
namespace Go.Proofs.YtcicclghgbdgnaaDoor
open Go.RowKit
set_option linter.unusedVariables false

theorem info8 : (Tryd.prog.info? 5).map (fun i => (i.zero, i.size, i.bytes)) = some (some (.int .u8 0), 1, 1) := by kernel_rfl

theorem eqBytes_any (a b : Value) (la lb : List UInt8) (w : World) (ha : Sl w a (bv la)) (hb : Sl w b (bv lb)) :
    Calls Tryd.prog 13 #[a, b] w fun e w' => e = .returned (.bool (la == lb)) ∧ w = w' := by
  have ca := conv_bytes (P := Tryd.prog) Tryd.underlying27 Tryd.underlying5 Tryd.underlying9 ha
  have cb := conv_bytes (P := Tryd.prog) Tryd.underlying27 Tryd.underlying5 Tryd.underlying9 hb
  clear ha hb
  go_enter Tryd.func13, Tryd.ntmps13
  go_wp2
  go_ret
  exact ⟨rfl, rfl⟩

/-- One append of what reads as bytes. -/
theorem append8 {w : World} {ty : TypeId} {base : Nat} {v x : Value} {xs ys : List UInt8} (hown : Own w base 5 v (bv xs)) (hx : Sl w x (bv ys)) (hlen : xs.length + ys.length ≤ 2199023255552) (hbase : base ≤ w.heap.size) :
    ∃ v' w', (Builtin.append_ #[27, 27] ty #[v, x]).run Tryd.prog w = .ok v' w' ∧ Own w' base 5 v' (bv (xs ++ ys)) ∧ w.grownBy w' v.ownBlock ∧ (v' = .slice none 0 0 → v = .slice none 0 0) := by
  obtain ⟨i0, hi, hz0, hz1, hz2⟩ := info_parts info8
  rw [bv_append]
  exact run_append_sl (P := Tryd.prog) Tryd.underlying27 hi hz0 hz1 (by omega) rfl hown hx (bv_one ys) (by rw [bv_length, bv_length]; exact hlen) hbase

theorem own_nil (w : World) (base : Nat) : Own w base 5 (.slice none 0 0) (bv []) := World.ownsRow_nil w base 5 1

theorem copyBytes_any (v : Value) (l : List UInt8) (w : World) (h : Sl w v (bv l)) (hlen : l.length ≤ 2199023255552) :
    Calls Tryd.prog 26 #[v] w fun e w' => (∃ v', e = .returned v' ∧ Own w' w.heap.size 5 v' (bv l)) ∧ Below w.heap.size w w' := by
  obtain ⟨v', w', hr, ho, hg, _⟩ := append8 (ty := 27) (own_nil w w.heap.size) h (by simpa using hlen) (Nat.le_refl _)
  have hb := below_grown hg (Nat.le_refl _) (by intro k hk; cases hk)
  rw [List.nil_append] at ho
  have Hr := Lib.hid hr
  clear h hg hr
  go_enter Tryd.func26, Tryd.ntmps26
  go_wp2_with (at_builtin; refine wpList_append_run rfl _ _ _ _ rfl rfl rfl Hr.out ?_)
  go_ret
  exact ⟨⟨v', rfl, ho⟩, hb⟩

theorem clone_any (v : Value) (l : List UInt8) (w : World) (h : Sl w v (bv l)) (hlen : l.length ≤ 2199023255552) :
    Calls Tryd.prog 68 #[v] w fun e w' => (∃ v', e = .returned v' ∧ Own w' w.heap.size 5 v' (bv l)) ∧ Below w.heap.size w w' := by
  have h' := Lib.hid h
  have hL := h.len
  rw [bv_length] at hL
  obtain ⟨a, c, rfl⟩ := hL
  cases a with
  | none =>
    have hx : l = [] ∧ c = 0 := by
      rcases h with (⟨hv, hx⟩ | ⟨b, off, cap, hv, _⟩) | ⟨x, c, hv, hx⟩
      · simp only [Value.slice.injEq] at hv
        exact ⟨(bv_nil_iff l).1 hx, hv.2.2⟩
      · simp at hv
      · simp at hv
    obtain ⟨rfl, rfl⟩ := hx
    rw [List.length_nil]
    have e1 := fun w => Lib.run_eql_slice_nil (P := Tryd.prog) w 27 5 none 0 0 0 0 Tryd.underlying27
    go_enter Tryd.func68, Tryd.ntmps68
    go_wp2
    go_ret
    exact ⟨⟨_, rfl, own_nil w _⟩, Below.refl _ _⟩
  | some x =>
    have e1 := fun w => Lib.run_eql_slice_nil (P := Tryd.prog) w 27 5 (some x) l.length c 0 0 Tryd.underlying27
    clear h
    have h0 : Own (w.alloc (.cells #[] 5)) w.heap.size 5 (.slice (some ⟨w.heap.size, 0, none⟩) 0 0) (bv []) := World.ownsRow_lit w #[] 0 (Nat.le_refl _) (by simp) rfl
    obtain ⟨v', w', hr, ho, hg, _⟩ := append8 (ty := 27) h0 (h'.out.below ((Below.refl w.heap.size w).alloc (Nat.le_refl _) _)) (by simpa using hlen) (by simp)
    have hb : Below w.heap.size w w' := ((Below.refl w.heap.size w).alloc (Nat.le_refl _) _).trans (below_grown hg (by simp) (by intro k hk; simp [Value.ownBlock] at hk; omega))
    rw [List.nil_append] at ho
    have H1 := Lib.hid hr
    clear hr hg h' h0
    go_enter Tryd.func68, Tryd.ntmps68
    go_wp2_with (at_builtin; refine wpList_append_run rfl _ _ _ _ rfl rfl rfl H1.out ?_)
    go_ret
    exact ⟨⟨v', rfl, ho⟩, hb⟩

end Go.Proofs.YtcicclghgbdgnaaDoor

/- Contract of slices.Grow at bytes. -/
namespace Go.Proofs.YtcicclghgbdgnaaDoor
open Go.RowKit
set_option linter.unusedVariables false
theorem grow_zero (w : World) :
    Calls Tryd.prog 54 #[.slice none 0 0, .int .i64 0] w fun e w' => (∃ v', e = .returned v' ∧ Own w' w.heap.size 5 v' (bv [])) ∧ Below w.heap.size w w' := by
  go_enter Tryd.func54, Tryd.ntmps54
  go_wp2
  go_ret
  exact ⟨⟨_, rfl, own_nil w _⟩, Below.refl _ _⟩

theorem own_grown (w : World) (n : Nat) (hn : n ≤ 2199023255552) :
    Own (w.drew.alloc (.cells (Builtin.zeroCells (Value.int .u8 0).cells n ++ Builtin.zeroCells (Value.int .u8 0).cells (grownCap w n 0 5 - n)) 5)) w.heap.size 5
      (.slice (some ⟨w.heap.size, 0, none⟩) 0 (grownCap w n 0 5)) (bv []) := by
  have hge := grownCap_ge w n 0 5
  have hcm := grownCap_le_maxLen w n 0 5 (by unfold maxLen; omega)
  refine World.ownsRow_made w.drew _ _ (Nat.le_refl _) hcm ?_
  simp only [Array.size_append, size_zeroCells]
  show n * 1 + _ * 1 = _
  omega

set_option maxRecDepth 100000 in
theorem grow_pos (n : Nat) (h0 : 0 < n) (hn : n ≤ 2199023255552) (w : World) :
    Calls Tryd.prog 54 #[.slice none 0 0, .int .i64 n] w fun e w' => (∃ v', e = .returned v' ∧ Own w' w.heap.size 5 v' (bv [])) ∧ Below w.heap.size w w' := by
  obtain ⟨i0, hi, hz0, hz1, hz2⟩ := info_parts info8
  have hr := Lib.run_append_nil_zeros (P := Tryd.prog) w 27 3 27 5 i0 _ .i64 .i64 Tryd.underlying27 Tryd.underlying3 hi hz0 n h0 (by omega) (by omega) (by rw [hz2]; omega)
  have ho := own_grown w n hn
  have hb : Below w.heap.size w (w.drew.alloc (.cells (Builtin.zeroCells (Value.int .u8 0).cells n ++ Builtin.zeroCells (Value.int .u8 0).cells (grownCap w n 0 5 - n)) 5)) := ((Below.refl _ w).drew).alloc (Nat.le_refl _) _
  generalize (w.drew.alloc (.cells (Builtin.zeroCells (Value.int .u8 0).cells n ++ Builtin.zeroCells (Value.int .u8 0).cells (grownCap w n 0 5 - n)) 5)) = w1 at *
  have hge := grownCap_ge w n 0 5
  generalize grownCap w n 0 5 = cap at *
  have H := Lib.hid hr
  clear hi hz0 hz1 hz2 hr
  go_enter Tryd.func54, Tryd.ntmps54
  go_wp2_with (at_builtin; refine wpList_append_run rfl _ _ _ _ rfl rfl rfl H.out ?_)
  go_ret
  exact ⟨⟨_, rfl, ho⟩, hb⟩

theorem grow_any (n : Nat) (hn : n ≤ 2199023255552) (w : World) :
    Calls Tryd.prog 54 #[.slice none 0 0, .int .i64 n] w fun e w' => (∃ v', e = .returned v' ∧ Own w' w.heap.size 5 v' (bv [])) ∧ Below w.heap.size w w' := by
  by_cases h : n = 0
  · subst h; exact grow_zero w
  · exact grow_pos n (by omega) hn w
end Go.Proofs.YtcicclghgbdgnaaDoor

/- Contract of slices.Concat at []byte: the bytes of all of its arguments, one behind the other, in new memory. -/
namespace Go.Proofs.YtcicclghgbdgnaaDoor
open Go.RowKit
set_option linter.unusedVariables false

/-- How many bytes the first k have. -/
def sumLen (ls : List (List UInt8)) : Nat := ls.flatten.length
theorem take_succ_flat (ls : List (List UInt8)) (k : Nat) (h : k < ls.length) : (ls.take (k + 1)).flatten = (ls.take k).flatten ++ ls[k] := by
  rw [List.take_succ_eq_append_getElem h, List.flatten_append]; simp
theorem sumLen_succ (ls : List (List UInt8)) (k : Nat) (h : k < ls.length) : sumLen (ls.take (k + 1)) = sumLen (ls.take k) + ls[k].length := by
  unfold sumLen; rw [take_succ_flat ls k h, List.length_append]
theorem sumLen_take (ls : List (List UInt8)) (k : Nat) : sumLen (ls.take k) ≤ sumLen ls := by
  unfold sumLen
  conv => rhs; rw [← List.take_append_drop k ls, List.flatten_append, List.length_append]
  omega

/-- The slices, each of which reads as bytes. -/
def Sls (w : World) (vs : List Value) (ls : List (List UInt8)) : Prop := vs.length = ls.length ∧ ∀ k (h : k < ls.length) v, vs[k]? = some v → Sl w v (bv ls[k])

set_option maxHeartbeats 400000 in
theorem concat_any (b off cap : Nat) (vs : List Value) (ls : List (List UInt8)) (w : World) (hc : ∀ j u, vs[j]? = some u → w.cell? ⟨b, off + j, none⟩ = some u) (hs : Sls w vs ls) (hn : ls.length ≤ 1000) (hlen : sumLen ls ≤ 2199023255552) :
    Calls Tryd.prog 28 #[.slice (some ⟨b, off, none⟩) ls.length cap] w fun e w' => (∃ v', e = .returned v' ∧ Own w' w.heap.size 5 v' (bv ls.flatten)) ∧ Below w.heap.size w w' := by
  obtain ⟨hvl, hsl⟩ := hs
  have Hc := Lib.hid hc
  have Hs := Lib.hid hsl
  have Hvl := Lib.hid hvl
  have Hlen := Lib.hid hlen
  clear hc hsl hvl hlen
  go_enter Tryd.func28, Tryd.ntmps28
  go_wp2_with fail
  go_loop [3, 11] (fun s i => ∃ k : Nat, k ≤ ls.length ∧ i = .int .i64 k ∧ s = .int .i64 (sumLen (ls.take k) : Nat)) (fun _ i => ls.length - (intOf i).toNat)
  case atStart => exact ⟨0, Nat.zero_le _, rfl, rfl⟩
  case round =>
    obtain ⟨k, hk, rfl, rfl⟩ := hrel
    by_cases hlt : k < ls.length
    · obtain ⟨u, hu⟩ : ∃ u, vs[k]? = some u := ⟨_, List.getElem?_eq_getElem (by rw [Hvl.out]; exact hlt)⟩
      have hcell := Hc.out k u hu
      obtain ⟨a, c, rfl⟩ := (Hs.out k hlt u hu).len
      clear hu
      have h1 := sumLen_succ ls k hlt
      have h2 := sumLen_take ls (k + 1)
      have h3 := Hlen.out
      rw [bv_length] at hcell
      generalize ls[k].length = m at *
      have HS := Lib.hid h1
      have hb1 : sumLen (ls.take k) + m ≤ 2199023255552 := by omega
      clear h1 h2 h3
      generalize sumLen (ls.take k) = s at *
      go_wp2
      go_round
      case rel => exact ⟨k + 1, by omega, by go_num, by rw [HS.out]; go_num⟩
      case measure => simp [intOf]; omega
    · have hs0 : sumLen (ls.take k) ≤ 2199023255552 := Nat.le_trans (sumLen_take ls k) Hlen.out
      generalize sumLen (ls.take k) = s at *
      go_wp2_with (go_at_call 54; refine (grow_any s hs0 _).mono ?_; rintro e w1 ⟨⟨v1, rfl, ho1⟩, hb1⟩)
      go_loopw [6, 27] (fun v i wr => ∃ k : Nat, k ≤ ls.length ∧ i = .int .i64 k ∧ Own wr w.heap.size 5 v (bv (ls.take k).flatten) ∧ Below w.heap.size w wr) (fun _ i _ => ls.length - (intOf i).toNat)
      case atStart => exact ⟨0, Nat.zero_le _, rfl, ho1, hb1⟩
      case round =>
        clear ho1 hb1
        obtain ⟨k, hk, rfl, ho, hbl⟩ := hrel
        by_cases hlt : k < ls.length
        · obtain ⟨u, hu⟩ : ∃ u, vs[k]? = some u := ⟨_, List.getElem?_eq_getElem (by rw [Hvl.out]; exact hlt)⟩
          have hcell := cell_later hbl (Hc.out k u hu)
          have hsl := (Hs.out k hlt u hu).below hbl
          have h1 := take_succ_flat ls k hlt
          have h2 : (ls.take k).flatten.length + ls[k].length ≤ 2199023255552 := by
            have := sumLen_succ ls k hlt
            have := sumLen_take ls (k + 1)
            have := Hlen.out
            unfold sumLen at *; omega
          obtain ⟨v', w', hr, ho', hg, _⟩ := append8 (ty := 27) ho hsl h2 hbl.size
          have hbl' := hbl.grown hg hbl.size (fun g hg' => (ho.lt g hg').1)
          rw [← h1] at ho'
          have H := Lib.hid hr
          clear hr hg h1 h2 hsl ho hbl hu
          go_wp2_with (at_builtin; refine wpList_append_run rfl _ _ _ _ rfl rfl rfl H.out ?_)
          go_roundw
          case rel => exact ⟨k + 1, by omega, by go_num, ho', hbl'⟩
          case measure => simp [intOf]; omega
        · have : k = ls.length := by omega
          rw [List.take_of_length_le (by omega)] at ho
          clear this
          go_wp2
          go_ret
          exact ⟨⟨_, rfl, ho⟩, hbl⟩
end Go.Proofs.YtcicclghgbdgnaaDoor

/- Numbers as bits: plain arithmetic; no program is spoken of. -/
namespace Go.Proofs.YtcicclghgbdgnaaDoor
open Go.RowKit

def U64 (u : Nat) : Prop := u < 18446744073709551616
def I64 (n : Int) : Prop := -9223372036854775808 ≤ n ∧ n < 9223372036854775808

def zig (n : Int) : Nat := if 0 ≤ n then 2 * n.toNat else 2 * (-n - 1).toNat + 1
def zag (u : Nat) : Int := if u % 2 = 0 then ((u / 2 : Nat) : Int) else -((u / 2 : Nat) : Int) - 1

theorem zig_u64 {n : Int} (h : I64 n) : U64 (zig n) := by unfold I64 at h; unfold U64 zig; split <;> omega
theorem zag_i64 {u : Nat} (h : U64 u) : I64 (zag u) := by unfold U64 at h; unfold I64 zag; split <;> omega
theorem zag_zig {n : Int} : zag (zig n) = n := by unfold zag zig; split <;> split <;> omega
theorem zig_zag {u : Nat} : zig (zag u) = u := by unfold zag zig; split <;> split <;> omega

theorem ones_xor (a : Nat) (h : a < 18446744073709551616) : a ^^^ 18446744073709551615 = 18446744073709551615 - a := by
  have h1 : (BitVec.ofNat 64 a ^^^ BitVec.allOnes 64).toNat = (~~~(BitVec.ofNat 64 a)).toNat := by rw [BitVec.xor_allOnes]
  rw [BitVec.toNat_xor, BitVec.toNat_not, BitVec.toNat_allOnes, BitVec.toNat_ofNat, Nat.mod_eq_of_lt (by omega)] at h1
  simpa using h1

theorem zig_eq {n : Int} (h : I64 n) : bits BinOp.xor IntKind.u64 (IntKind.u64.wrap (IntKind.u64.wrap n * 2)) (IntKind.u64.wrap (n / 9223372036854775808)) = (zig n : Nat) := by
  unfold I64 at h
  rw [IntKind.wrap_u64, IntKind.wrap_u64, IntKind.wrap_u64]
  unfold zig
  split
  · rename_i h0
    have e1 : n % 18446744073709551616 * 2 % 18446744073709551616 = ((2 * n.toNat : Nat) : Int) := by omega
    have e2 : n / 9223372036854775808 % 18446744073709551616 = ((0 : Nat) : Int) := by omega
    rw [e1, e2, bits_xor_u64_nat _ _ (by omega) (by omega), Nat.xor_zero]
  · rename_i h0
    have e1 : n % 18446744073709551616 * 2 % 18446744073709551616 = ((18446744073709551616 - 2 * (-n).toNat : Nat) : Int) := by omega
    have e2 : n / 9223372036854775808 % 18446744073709551616 = ((18446744073709551615 : Nat) : Int) := by omega
    rw [e1, e2, bits_xor_u64_nat _ _ (by omega) (by omega), ones_xor _ (by omega)]
    omega

theorem and_one (u : Nat) (h : U64 u) : bits BinOp.and IntKind.u64 (u : Int) 1 = ((u % 2 : Nat) : Int) := by
  have := bits_and_u64_nat u 1 h (by omega)
  rw [Nat.and_one_is_mod] at this
  exact this

theorem i64_minus_one (a : Nat) (ha : a < 9223372036854775808) : bits .xor .i64 (a : Int) (-1) = -1 - (a : Int) := by
  rw [← i64_not a ha]
  show IntKind.i64.wrap ((BitVec.ofInt 64 (a : Int) ^^^ BitVec.ofInt 64 (-1)).toNat : Int) = IntKind.i64.wrap ((BitVec.ofInt 64 (-1) ^^^ BitVec.ofInt 64 (a : Int)).toNat : Int)
  rw [BitVec.xor_comm]
theorem i64_zero (a : Nat) (ha : a < 9223372036854775808) : bits .xor .i64 (a : Int) 0 = (a : Int) := by
  show IntKind.i64.wrap ((BitVec.ofInt 64 (a : Int) ^^^ BitVec.ofInt 64 0).toNat : Int) = _
  have h1 : BitVec.ofInt 64 0 = 0#64 := by decide
  rw [h1, BitVec.xor_zero, BitVec.ofInt_natCast, BitVec.toNat_ofNat, Nat.mod_eq_of_lt (by omega), IntKind.wrap_i64]
  omega

theorem zag_eq {u : Nat} (h : U64 u) : bits BinOp.xor IntKind.i64 (wrap64 (u / 2)) (wrap64 (-wrap64 (bits BinOp.and IntKind.u64 (u : Int) 1))) = zag u := by
  rw [and_one u h]
  unfold U64 at h
  have e1 : wrap64 ((u : Int) / 2) = ((u / 2 : Nat) : Int) := by unfold wrap64; omega
  have e2 : wrap64 ((u % 2 : Nat) : Int) = ((u % 2 : Nat) : Int) := by unfold wrap64; omega
  rw [e1, e2]
  have e3 : wrap64 (-((u % 2 : Nat) : Int)) = (-((u % 2 : Nat) : Int)) := by unfold wrap64; omega
  rw [e3]
  unfold zag
  split
  · rename_i h0
    rw [h0]
    exact i64_zero _ (by omega)
  · rename_i h0
    rw [show u % 2 = 1 by omega]
    have := i64_minus_one (u / 2) (by omega)
    rw [show (-((1 : Nat) : Int)) = -1 from rfl, this]; omega

/-- A rotation: by k bits to the left, of 64. -/
def rotl (n r : Nat) : Nat := (n * 2 ^ r) % 2 ^ 64 ||| n / 2 ^ (64 - r)
def rot (n : Nat) (k : Int) : Nat := rotl n (k % 64).toNat
theorem rotl_u64 (n r : Nat) (h : U64 n) : U64 (rotl n r) := by
  unfold U64 rotl at *
  have h1 : n * 2 ^ r % 2 ^ 64 < 2 ^ 64 := Nat.mod_lt _ (by decide)
  have h2 : n / 2 ^ (64 - r) < 2 ^ 64 := Nat.lt_of_le_of_lt (Nat.div_le_self _ _) (by omega)
  have := Nat.or_lt_two_pow h1 h2
  omega
theorem rot_amount (k : Int) (_h : I64 k) : (IntKind.u64.wrap k).tmod 64 = ((k % 64).toNat : Nat) := by
  rw [IntKind.wrap_u64, Int.tmod_eq_emod_of_nonneg (by omega)]
  omega
theorem rot_eq (n r : Nat) (h : U64 n) : bits BinOp.or IntKind.u64 (IntKind.u64.wrap ((n : Int) * 2 ^ r)) ((n : Int) / 2 ^ (64 - r)) = (rotl n r : Nat) := by
  have h2 : n / 2 ^ (64 - r) < 2 ^ 64 := Nat.lt_of_le_of_lt (Nat.div_le_self _ _) (by unfold U64 at h; omega)
  have e1 : IntKind.u64.wrap ((n : Int) * 2 ^ r) = ((n * 2 ^ r % 2 ^ 64 : Nat) : Int) := by
    rw [IntKind.wrap_u64]; simp
  have e2 : ((n : Int) / 2 ^ (64 - r)) = ((n / 2 ^ (64 - r) : Nat) : Int) := by simp
  rw [e1, e2, bits_or_u64_nat _ _ (by have := Nat.mod_lt (n * 2 ^ r) (show 0 < 2 ^ 64 by decide); omega) (by omega)]
  rfl

/-- The lowest bits in reverse order. -/
def revF : Nat → Nat → Nat → Nat
  | 0, t, _ => t
  | c + 1, t, n => revF c (t * 2 % 2 ^ 64 ||| n % 2) (n / 2)
def rev (n : Nat) (k : Int) : Nat := revF (min (max k 0) 64).toNat 0 n
theorem revF_u64 (c t n : Nat) (h : U64 t) : U64 (revF c t n) := by
  induction c generalizing t n with
  | zero => exact h
  | succ c ih =>
    apply ih
    have h1 : t * 2 % 2 ^ 64 < 2 ^ 64 := Nat.mod_lt _ (by decide)
    have h2 : n % 2 < 2 ^ 64 := by omega
    have := Nat.or_lt_two_pow h1 h2
    unfold U64; omega
theorem rev_u64 (n : Nat) (k : Int) : U64 (rev n k) := revF_u64 _ _ _ (by unfold U64; omega)
theorem rev_step (t n : Nat) (hn : U64 n) : bits BinOp.or IntKind.u64 (IntKind.u64.wrap ((t : Int) * 2)) (bits BinOp.and IntKind.u64 (n : Int) 1) = ((t * 2 % 2 ^ 64 ||| n % 2 : Nat) : Int) := by
  rw [and_one n hn]
  have e1 : IntKind.u64.wrap ((t : Int) * 2) = ((t * 2 % 2 ^ 64 : Nat) : Int) := by rw [IntKind.wrap_u64]; simp
  rw [e1, bits_or_u64_nat _ _ (by have := Nat.mod_lt (t * 2) (show 0 < 2 ^ 64 by decide); omega) (by omega)]
end Go.Proofs.YtcicclghgbdgnaaDoor

/- Contracts of package bits: the functions that write. -/
namespace Go.Proofs.YtcicclghgbdgnaaDoor
open Go.RowKit
set_option linter.unusedVariables false

/-- The varint of a number: groups of seven bits, the least first. -/
def vintF : Nat → Nat → List UInt8
  | 0, u => [UInt8.ofNat u]
  | f + 1, u => if u < 128 then [UInt8.ofNat u] else UInt8.ofNat (u % 128 + 128) :: vintF f (u / 128)
def vint (u : Nat) : List UInt8 := vintF 9 u
theorem vintF_len (f u : Nat) : (vintF f u).length ≤ f + 1 := by
  induction f generalizing u with
  | zero => simp [vintF]
  | succ f ih => rw [vintF]; split <;> simp; exact ih _
theorem vint_len (u : Nat) : (vint u).length ≤ 10 := vintF_len 9 u

theorem concat2_any (b off cap : Nat) (v1 v2 : Value) (l1 l2 : List UInt8) (w : World) (hc1 : w.cell? ⟨b, off, none⟩ = some v1) (hc2 : w.cell? ⟨b, off + 1, none⟩ = some v2) (h1 : Sl w v1 (bv l1)) (h2 : Sl w v2 (bv l2)) (hlen : l1.length + l2.length ≤ 2199023255552) :
    Calls Tryd.prog 28 #[.slice (some ⟨b, off, none⟩) 2 cap] w fun e w' => (∃ v', e = .returned v' ∧ Own w' w.heap.size 5 v' (bv (l1 ++ l2))) ∧ Below w.heap.size w w' := by
  have h := concat_any b off cap [v1, v2] [l1, l2] w (fun j u hj => by
    match j, hj with
    | 0, hj => simp at hj; subst hj; exact hc1
    | 1, hj => simp at hj; subst hj; exact hc2) ⟨rfl, fun k hk v hv => by
    match k, hk, hv with
    | 0, hk, hv => simp at hv; subst hv; exact h1
    | 1, hk, hv => simp at hv; subst hv; exact h2⟩ (by simp) (by simpa [sumLen] using hlen)
  simpa using h

theorem concat_lit2 (v1 v2 : Value) (l1 l2 : List UInt8) (w : World) (h1 : Sl w v1 (bv l1)) (h2 : Sl w v2 (bv l2)) (hlen : l1.length + l2.length ≤ 2199023255552) (T : TypeId) :
    Calls Tryd.prog 28 #[.slice (some ⟨w.heap.size, 0, none⟩) 2 2] (w.alloc (.cells #[v1, v2] T)) fun e w' => (∃ v', e = .returned v' ∧ Own w' w.heap.size 5 v' (bv (l1 ++ l2))) ∧ Below w.heap.size w w' := by
  have hb : Below w.heap.size w (w.alloc (.cells #[v1, v2] T)) := (Below.refl _ w).alloc (Nat.le_refl _) _
  have hh := heap_alloc_new w (.cells #[v1, v2] T)
  refine (concat2_any w.heap.size 0 2 v1 v2 l1 l2 _ (by unfold World.cell?; rw [hh]; rfl) (by unfold World.cell?; rw [hh]; rfl) (h1.below hb) (h2.below hb) hlen).mono ?_
  rintro e w' ⟨⟨v', rfl, ho⟩, hb'⟩
  exact ⟨⟨v', rfl, ho.base (by simp)⟩, hb.trans (hb'.mono (by simp))⟩

theorem make10 (w : World) : (Instr.makeSlice 27 (.int .i64 0) (.int .i64 10)).run Tryd.prog w =
    .ok (.slice (some ⟨w.heap.size, 0, none⟩) 0 10) (w.alloc (.cells (Array.replicate 10 (.int .u8 0)) 5)) := by kernel_rfl

/-- Where a varint stands: k groups are written, x is left. -/
def VintAt (u k x : Nat) (pre : List UInt8) : Prop := k ≤ 9 ∧ pre.length = k ∧ x < 2 * 128 ^ (9 - k) ∧ pre ++ vintF (9 - k) x = vint u
theorem VintAt.zero {u : Nat} (h : U64 u) : VintAt u 0 u [] := ⟨by omega, rfl, by unfold U64 at h; omega, rfl⟩
theorem VintAt.next {u k x : Nat} {pre : List UInt8} (h : VintAt u k x pre) (hx : 128 ≤ x) : VintAt u (k + 1) (x / 128) (pre ++ [UInt8.ofNat (x % 128 + 128)]) := by
  obtain ⟨h1, h2, h3, h4⟩ := h
  have hk : k < 9 := by
    rcases Nat.lt_or_ge k 9 with h | h
    · exact h
    · have : k = 9 := by omega
      subst this; simp at h3; omega
  have e : 9 - k = (9 - (k + 1)) + 1 := by omega
  refine ⟨by omega, by simp [h2], ?_, ?_⟩
  · rw [e, Nat.pow_succ] at h3
    generalize 128 ^ (9 - (k + 1)) = p at *
    omega
  · rw [← h4, e, vintF, if_neg (by omega)]; simp
theorem VintAt.last {u k x : Nat} {pre : List UInt8} (h : VintAt u k x pre) (hx : x < 128) : pre ++ [UInt8.ofNat x] = vint u := by
  obtain ⟨h1, h2, h3, h4⟩ := h
  rw [← h4]
  congr 1
  cases 9 - k with
  | zero => rfl
  | succ n => rw [vintF, if_pos hx]
theorem VintAt.u64 {u k x : Nat} {pre : List UInt8} (h : VintAt u k x pre) : U64 x := by
  unfold U64
  obtain ⟨h1, h2, h3, h4⟩ := h
  have : 128 ^ (9 - k) ≤ 128 ^ 9 := Nat.pow_le_pow_right (by omega) (by omega)
  omega

/-- A literal of one byte. -/
theorem sl_lit1 (w : World) (z : Int) (c : UInt8) (h : z = c.toNat) (e : TypeId) : Sl (w.alloc (.cells #[.int .u8 z] e)) (.slice (some ⟨w.heap.size, 0, none⟩) 1 1) (bv [c]) := by
  subst h
  have h : Own (w.alloc (.cells #[.int .u8 (c.toNat : Int)] e)) w.heap.size e (.slice (some ⟨w.heap.size, 0, none⟩) 1 1) (bv [c]) :=
    World.ownsRow_lit w #[.int .u8 (c.toNat : Int)] 1 (Nat.le_refl _) (by unfold maxLen; omega) rfl
  exact h.sl
theorem or128 (x : Nat) : bits BinOp.or IntKind.u8 ((x : Int) % 256) 128 = (UInt8.ofNat (x % 128 + 128)).toNat := by
  have h : ∀ a : Nat, a < 256 → bits BinOp.or IntKind.u8 ((a : Nat) : Int) 128 = (UInt8.ofNat (a % 128 + 128)).toNat := by decide +kernel
  have h2 := h (x % 256) (by omega)
  rw [show ((x % 256 : Nat) : Int) = (x : Int) % 256 by omega, show x % 256 % 128 = x % 128 by omega] at h2
  exact h2
theorem small8 (x : Nat) (h : x < 128) : (x : Int) = (UInt8.ofNat x).toNat := by
  rw [UInt8.toNat_ofNat_of_lt' (by show x < 256; omega)]

set_option maxRecDepth 100000 in
theorem varint_any (v : Value) (l : List UInt8) (u : Nat) (w : World) (h : Sl w v (bv l)) (hu : U64 u) (hlen : l.length ≤ 1099511627776) :
    Calls Tryd.prog 29 #[v, .int .u64 u] w fun e w' => (∃ v', e = .returned v' ∧ Own w' w.heap.size 5 v' (bv (l ++ vint u))) ∧ Below w.heap.size w w' := by
  obtain ⟨a0, c0, rfl⟩ := h.len
  generalize (bv l).length = n0 at h
  have H := Lib.hid h
  clear h
  go_enter Tryd.func29, Tryd.ntmps29
  have hmk := make10
  have h0 : Own (w.alloc (.cells (Array.replicate 10 (.int .u8 0)) 5)) w.heap.size 5 (.slice (some ⟨w.heap.size, 0, none⟩) 0 10) (bv []) :=
    World.ownsRow_made w _ 10 (Nat.le_refl _) (by unfold maxLen; omega) (by simp)
  have hb0 : Below w.heap.size w (w.alloc (.cells (Array.replicate 10 (.int .u8 0)) 5)) := (Below.refl _ w).alloc (Nat.le_refl _) _
  generalize hw1 : w.alloc (.cells (Array.replicate 10 (.int .u8 0)) 5) = w1 at *
  go_wp2_with fail
  clear hw1 hmk
  have Hu := Lib.hid hu
  go_loopw [1, 5] (fun c n wr => ∃ (k x : Nat) (pre : List UInt8), VintAt u k x pre ∧ c = .int .u64 x ∧ Own wr w.heap.size 5 n (bv pre) ∧ Below w.heap.size w wr) (fun c _ _ => (intOf c).toNat)
  case atStart => exact ⟨0, u, [], VintAt.zero Hu.out, rfl, h0, hb0⟩
  case round =>
    clear h0 hb0
    obtain ⟨k, x, pre, hv, rfl, ho, hb⟩ := hrel
    have hx : U64 x := hv.u64
    have hpre : pre.length ≤ 9 := by rw [hv.2.1]; exact hv.1
    by_cases hge : 128 ≤ x
    · have h1 := sl_lit1 wr _ _ (or128 x) 5
      have hb1 : Below w.heap.size w (wr.alloc (.cells #[.int .u8 (bits BinOp.or IntKind.u8 ((x : Int) % 256) 128)] 5)) := hb.alloc hb.size _
      obtain ⟨v', w', hr, ho', hg, _⟩ := append8 (ty := 27) (Own.alloc ho _) h1 (by simp; omega) hb1.size
      have hb2 := hb1.grown hg hb1.size (fun g hg' => (ho.lt g hg').1)
      have hv' := hv.next hge
      have Hr := Lib.hid hr
      have Ho := Lib.hid ho'
      clear hr hg h1 hb1 hb ho hv ho'
      go_wp2_with (at_builtin; refine wpList_append_run rfl _ _ _ _ rfl rfl rfl Hr.out ?_)
      go_roundw
      case rel => exact ⟨k + 1, x / 128, _, hv', by simp, Ho.out, hb2⟩
      case measure => simp [intOf]; omega
    · have h1 := sl_lit1 wr _ _ (small8 x (by omega)) 5
      have hb1 : Below w.heap.size w (wr.alloc (.cells #[.int .u8 (x : Int)] 5)) := hb.alloc hb.size _
      obtain ⟨v', w', hr, ho', hg, _⟩ := append8 (ty := 27) (Own.alloc ho _) h1 (by simp; omega) hb1.size
      have hb2 := hb1.grown hg hb1.size (fun g hg' => (ho.lt g hg').1)
      rw [hv.last (by omega)] at ho'
      obtain ⟨a1, c1, rfl⟩ := ho'.sl.len
      generalize (bv (vint u)).length = n1 at *
      have hl2 : l.length + (vint u).length ≤ 2199023255552 := by have := vint_len u; omega
      have Hr := Lib.hid hr
      have Ho := Lib.hid ho'
      clear hr hg h1 hb1 hb ho hv ho'
      go_wp2_with (first | (at_builtin; refine wpList_append_run rfl _ _ _ _ rfl rfl rfl Hr.out ?_) | (go_at_call 28; refine (concat_lit2 _ _ l (vint u) _ (H.out.below hb2) Ho.out.sl hl2 _).mono ?_; rintro e w2 ⟨⟨v2, rfl, ho2⟩, hb3⟩))
      go_ret
      exact ⟨⟨v2, rfl, ho2.base hb2.size⟩, hb2.trans (hb3.mono hb2.size)⟩

theorem zig_any (n : Int) (w : World) (h : I64 n) : Calls Tryd.prog 84 #[.int .i64 n] w fun e w' => e = .returned (.int .u64 (zig n : Nat)) ∧ w = w' := by
  rw [← zig_eq h]
  clear h
  go_enter Tryd.func84, Tryd.ntmps84
  go_wp2
  go_ret
  exact ⟨rfl, rfl⟩

theorem zag_any (u : Nat) (w : World) (h : U64 u) : Calls Tryd.prog 87 #[.int .u64 u] w fun e w' => e = .returned (.int .i64 (zag u)) ∧ w = w' := by
  rw [← zag_eq h]
  clear h
  go_enter Tryd.func87, Tryd.ntmps87
  go_wp2
  go_ret
  exact ⟨rfl, rfl⟩

/-- What Int writes. -/
theorem int_any (v : Value) (l : List UInt8) (n : Int) (w : World) (h : Sl w v (bv l)) (hn : I64 n) (hlen : l.length ≤ 1099511627776) :
    Calls Tryd.prog 53 #[v, .int .i64 n] w fun e w' => (∃ v', e = .returned v' ∧ Own w' w.heap.size 5 v' (bv (l ++ vint (zig n)))) ∧ Below w.heap.size w w' := by
  have H := Lib.hid h
  clear h
  go_enter Tryd.func53, Tryd.ntmps53
  go_wp2_with (first | (go_at_call 84; refine (zig_any _ _ hn).mono ?_; rintro e w1 ⟨rfl, rfl⟩) | (go_at_call 29; refine (varint_any _ l (zig n) _ H.out (zig_u64 hn) hlen).mono ?_; rintro e w1 ⟨⟨v1, rfl, ho1⟩, hb1⟩))
  go_ret
  exact ⟨⟨v1, rfl, ho1⟩, hb1⟩

/-- What Text writes. -/
theorem text_any (v x : Value) (l m : List UInt8) (w : World) (h : Sl w v (bv l)) (hx : Sl w x (bv m)) (hlen : l.length + m.length ≤ 1099511627776) :
    Calls Tryd.prog 52 #[v, x] w fun e w' => (∃ v', e = .returned v' ∧ Own w' w.heap.size 5 v' (bv (l ++ vint m.length ++ m))) ∧ Below w.heap.size w w' := by
  obtain ⟨a0, c0, rfl⟩ := hx.len
  rw [bv_length] at hx
  have H := Lib.hid h
  have Hx := Lib.hid hx
  have hm : U64 m.length := by unfold U64; omega
  have hl2 : (l ++ vint m.length).length + m.length ≤ 2199023255552 := by have := vint_len m.length; simp; omega
  have hl1 : l.length ≤ 1099511627776 := by omega
  have hm1 : m.length ≤ 1099511627776 := by omega
  clear h hx hlen
  rw [bv_length]
  go_enter Tryd.func52, Tryd.ntmps52
  go_wp2_with (go_at_call 29; refine (varint_any _ l m.length _ H.out hm hl1).mono ?_; rintro e w1 ⟨⟨v1, rfl, ho1⟩, hb1⟩; obtain ⟨a1, c1, rfl⟩ := ho1.sl.len)
  refine (concat_lit2 _ _ _ _ _ ho1.sl (Hx.out.below hb1) hl2 _).mono ?_
  rintro e w2 ⟨⟨v2, rfl, ho2⟩, hb2⟩
  go_wp2
  go_ret
  exact ⟨⟨v2, rfl, ho2.base hb1.size⟩, hb1.trans (hb2.mono hb1.size)⟩

def isSize (s : Int) : Bool := s == 8 || s == 16 || s == 32 || s == 64
theorem isSize_yes (s : Int) (w : World) (h : s = 8 ∨ s = 16 ∨ s = 32 ∨ s = 64) : Calls Tryd.prog 70 #[.int .i64 s] w fun e w' => e = .returned (.bool true) ∧ w = w' := by
  rcases h with rfl | rfl | rfl | rfl
  all_goals
    go_enter Tryd.func70, Tryd.ntmps70
    go_wp2
    go_ret
    exact ⟨rfl, rfl⟩
theorem isSize_no (s : Int) (w : World) (h1 : ¬ s = 8) (h2 : ¬ s = 16) (h3 : ¬ s = 32) (h4 : ¬ s = 64) : Calls Tryd.prog 70 #[.int .i64 s] w fun e w' => e = .returned (.bool (isSize s)) ∧ w = w' := by
  go_enter Tryd.func70, Tryd.ntmps70
  go_wp2
  go_ret
  exact ⟨rfl, rfl⟩
theorem isSize_any (s : Int) (w : World) : Calls Tryd.prog 70 #[.int .i64 s] w fun e w' => e = .returned (.bool (isSize s)) ∧ w = w' := by
  by_cases h1 : s = 8
  · rw [show isSize s = true by subst h1; rfl]; exact isSize_yes s w (by omega)
  by_cases h2 : s = 16
  · rw [show isSize s = true by subst h2; rfl]; exact isSize_yes s w (by omega)
  by_cases h3 : s = 32
  · rw [show isSize s = true by subst h3; rfl]; exact isSize_yes s w (by omega)
  by_cases h4 : s = 64
  · rw [show isSize s = true by subst h4; rfl]; exact isSize_yes s w (by omega)
  exact isSize_no s w h1 h2 h3 h4

end Go.Proofs.YtcicclghgbdgnaaDoor

/- Contract of Bring: a number, brought to be from 0 to below n. -/
namespace Go.Proofs.YtcicclghgbdgnaaDoor
open Go.RowKit
set_option linter.unusedVariables false
theorem tmod_neg (i n : Int) (hn : 0 < n) (h : i.tmod n < 0) : i.tmod n + n = i % n := by
  have h1 := Int.tmod_add_mul_tdiv i n
  have h2 := Int.tmod_lt_of_pos i hn
  have h3 := Int.lt_tmod_of_pos i hn
  have h4 := Int.emod_add_mul_ediv i n
  have h5 := Int.emod_nonneg i (show n ≠ 0 by omega)
  have h6 := Int.emod_lt_of_pos i hn
  have e : i.tmod n + n - i % n = n * (i / n - i.tdiv n + 1) := by rw [Int.mul_add, Int.mul_sub]; omega
  have hz : i / n - i.tdiv n + 1 = 0 := by
    have a1 : n * (i / n - i.tdiv n + 1) < n * 1 := by omega
    have a2 : n * (-1) < n * (i / n - i.tdiv n + 1) := by omega
    have := Int.lt_of_mul_lt_mul_left a1 (by omega)
    have := Int.lt_of_mul_lt_mul_left a2 (by omega)
    omega
  rw [hz, Int.mul_zero] at e; omega
theorem tmod_pos (i n : Int) (hn : 0 < n) (h : ¬ i.tmod n < 0) : i.tmod n = i % n := by
  have h1 := Int.tmod_add_mul_tdiv i n
  have h2 := Int.tmod_lt_of_pos i hn
  have h4 := Int.emod_add_mul_ediv i n
  have h5 := Int.emod_nonneg i (show n ≠ 0 by omega)
  have h6 := Int.emod_lt_of_pos i hn
  have e : i.tmod n - i % n = n * (i / n - i.tdiv n) := by rw [Int.mul_sub]; omega
  have hz : i / n - i.tdiv n = 0 := by
    have a1 : n * (i / n - i.tdiv n) < n * 1 := by omega
    have a2 : n * (-1) < n * (i / n - i.tdiv n) := by omega
    have := Int.lt_of_mul_lt_mul_left a1 (by omega)
    have := Int.lt_of_mul_lt_mul_left a2 (by omega)
    omega
  rw [hz, Int.mul_zero] at e; omega
def Sm (n : Int) : Prop := 0 < n ∧ n ≤ 4611686018427387904
theorem bring_any (i n : Int) (w : World) (hn : Sm n) :
    Calls Tryd.prog 41 #[.int .i64 i, .int .i64 n] w fun e w' => e = .returned (.int .i64 (i % n)) ∧ w = w' := by
  have h0 : ¬ n = 0 := by unfold Sm at hn; omega
  have hlt : i.tmod n < n ∧ -n < i.tmod n := ⟨Int.tmod_lt_of_pos i hn.1, Int.lt_tmod_of_pos i hn.1⟩
  have hw : wrap64 (i.tmod n) = i.tmod n := by unfold Sm at hn; unfold wrap64; omega
  have hw2 : i.tmod n < 0 → wrap64 (i.tmod n + n) = i.tmod n + n := by unfold Sm at hn; intro h; unfold wrap64; omega
  by_cases hneg : i.tmod n < 0
  · have hr := tmod_neg i n hn.1 hneg
    have H := Lib.hid (show wrap64 (i.tmod n + n) = i % n by rw [hw2 hneg, hr])
    clear hr hw2 hn hlt hw
    go_enter Tryd.func41, Tryd.ntmps41
    go_wp2
    go_ret
    exact ⟨by rw [← H.out]; rfl, rfl⟩
  · have H := Lib.hid (tmod_pos i n hn.1 hneg)
    clear hw2 hn hlt hw
    go_enter Tryd.func41, Tryd.ntmps41
    go_wp2
    go_ret
    exact ⟨by rw [← H.out]; rfl, rfl⟩
end Go.Proofs.YtcicclghgbdgnaaDoor

/- Slices of integers of one kind that came in, as lists. -/
namespace Go.Proofs.YtcicclghgbdgnaaDoor
open Go.RowKit
set_option linter.unusedVariables false
/-- Integers as values. -/
def iv (k : IntKind) (l : List Int) : List Value := l.map (Value.int k)
theorem iv_length (k : IntKind) (l : List Int) : (iv k l).length = l.length := by simp [iv]
theorem iv_get (k : IntKind) (l : List Int) (j : Nat) (h : j < l.length) : (iv k l)[j]? = some (.int k (l[j])) := by simp [iv, h]
/-- The cell's address has no spot. -/
theorem plain_of_cell {w : World} {x : Addr} {v : Value} (h : w.cell? (x.add 0) = some v) (hs : ∀ b o s, x = ⟨b, o, some s⟩ → False) : ∃ b off, x = ⟨b, off, none⟩ := by
  obtain ⟨b, off, sp⟩ := x
  cases sp with
  | none => exact ⟨b, off, rfl⟩
  | some s => exact (hs b off s rfl).elim
/-- A slice of integers that came in, as the row's shell tells it. -/
theorem sl_of_ints {k : IntKind} {w : World} {a : Option Addr} {len cap : Nat} {zs : List Int}
    (h : (a = none ∧ len = 0 ∧ cap = 0 ∧ zs = []) ∨ ∃ x, a = some x ∧ len ≤ cap ∧ cap ≤ maxLen ∧ zs.length = cap ∧ (∀ i, i < zs.length → w.cell? (x.add i) = some (.int k (zs.getD i 0))) ∧ ∀ n ∈ zs, (Lit.int k n).wf = true) :
    ∃ l : List Int, l.length = len ∧ len ≤ cap ∧ (∀ n ∈ l, (Lit.int k n).wf = true) ∧ Sl w (.slice a l.length cap) (iv k l) := by
  rcases h with ⟨rfl, rfl, rfl, rfl⟩ | ⟨x, rfl, h1, h2, h3, h4, h5⟩
  · exact ⟨[], rfl, Nat.le_refl _, (fun _ h => by cases h), .inl (.inl ⟨rfl, rfl⟩)⟩
  · by_cases h0 : len = 0
    · subst h0
      exact ⟨[], rfl, h1, (fun _ h => by cases h), .inr ⟨x, cap, rfl, rfl⟩⟩
    · have hx : ∃ b off, x = ⟨b, off, none⟩ := by
        have := h4 0 (by omega)
        obtain ⟨b, off, sp⟩ := x
        cases sp with
        | none => exact ⟨b, off, rfl⟩
        | some s => simp [Addr.add, World.cell?] at this; split at this <;> simp at this
      obtain ⟨b, off, rfl⟩ := hx
      have hadd : ∀ j, (⟨b, off, none⟩ : Addr).add j = ⟨b, off + j, none⟩ := fun j => by unfold Addr.add; split <;> simp_all
      have hb : b < w.heap.size := World.block_lt_of_cell? w ⟨b, off, none⟩ (by have := h4 0 (by omega); rw [hadd, Nat.add_zero] at this; exact this)
      have hl : (zs.take len).length = len := by rw [List.length_take]; omega
      refine ⟨zs.take len, hl, h1, fun n hn => h5 n (List.mem_of_mem_take hn), .inl (.inr ⟨b, off, cap, by rw [iv_length], by rw [iv_length, hl]; exact h1, h2, hb, fun j u hj => ?_⟩)⟩
      rw [← hadd]
      have hj' : j < len := by
        rcases Nat.lt_or_ge j len with h | h
        · exact h
        · rw [List.getElem?_eq_none (by rw [iv_length, hl]; exact h)] at hj; cases hj
      have hjz : j < zs.length := by omega
      rw [h4 j hjz, ← hj, iv, List.getElem?_map, List.getElem?_take, if_pos hj', List.getElem?_eq_getElem hjz]
      simp only [List.getD, List.getElem?_eq_getElem hjz, Option.getD_some, Option.map_some]
/-- One of them, read. -/
theorem Sl.at {w : World} {a : Option Addr} {n c : Nat} {xs : List Value} (h : Sl w (.slice a n c) xs) (hn : 0 < n) : ∃ b off, a = some ⟨b, off, none⟩ ∧ n = xs.length ∧ ∀ j u, xs[j]? = some u → w.cell? ⟨b, off + j, none⟩ = some u := by
  rcases h with (⟨hv, hx⟩ | ⟨b, off, cap, hv, _, _, _, hc⟩) | ⟨x, c, hv, hx⟩
  · simp only [Value.slice.injEq] at hv; omega
  · simp only [Value.slice.injEq] at hv
    exact ⟨b, off, hv.1, hv.2.1, hc⟩
  · simp only [Value.slice.injEq] at hv; omega
/-- .. in any world in which what was there is as it was. -/
theorem Sl.cellAt {w : World} {b off n c : Nat} {xs : List Value} (h : Sl w (.slice (some ⟨b, off, none⟩) n c) xs) {j : Nat} {u : Value} (hn : 0 < n) (hj : xs[j]? = some u) {wz : World} (hb : Below w.heap.size w wz) : wz.cell? ⟨b, off + j, none⟩ = some u := by
  obtain ⟨b', off', he, _, hc⟩ := (h.keep hb.size fun b _ hlt => hb.block b hlt).at hn
  simp only [Option.some.injEq, Addr.mk.injEq, and_true] at he
  obtain ⟨rfl, rfl⟩ := he
  exact hc j u hj
end Go.Proofs.YtcicclghgbdgnaaDoor

/- Rotations and reversals, bit by bit: plain mathematics. -/
namespace Go.Proofs.YtcicclghgbdgnaaDoor
open Go.RowKit

theorem u64_bit {n : Nat} (h : U64 n) {j : Nat} (hj : 64 ≤ j) : n.testBit j = false := by
  apply Nat.testBit_lt_two_pow
  have : 2 ^ 64 ≤ 2 ^ j := Nat.pow_le_pow_right (by omega) hj
  unfold U64 at h; omega
theorem eq_of_bits {a b : Nat} (ha : U64 a) (hb : U64 b) (h : ∀ j, j < 64 → a.testBit j = b.testBit j) : a = b := by
  apply Nat.eq_of_testBit_eq
  intro j
  by_cases hj : j < 64
  · exact h j hj
  · rw [u64_bit ha (by omega), u64_bit hb (by omega)]
theorem rotl_bit (n r j : Nat) (hj : j < 64) : (rotl n r).testBit j = (decide (r ≤ j) && n.testBit (j - r) || n.testBit (j + (64 - r))) := by
  unfold rotl
  rw [Nat.testBit_or, Nat.testBit_mod_two_pow, Nat.testBit_mul_two_pow, Nat.testBit_div_two_pow]
  simp [hj]
theorem rotl_at (n r i : Nat) (hn : U64 n) (hr : r < 64) (hi : i < 64) : (rotl n r).testBit ((i + r) % 64) = n.testBit i := by
  rw [rotl_bit n r _ (Nat.mod_lt _ (by omega))]
  by_cases h : i + r < 64
  · rw [Nat.mod_eq_of_lt h]
    simp only [show r ≤ i + r by omega, decide_true, Bool.true_and, Nat.add_sub_cancel]
    rw [u64_bit hn (show 64 ≤ i + r + (64 - r) by omega), Bool.or_false]
  · rw [show (i + r) % 64 = i + r - 64 by omega]
    simp only [show ¬ r ≤ i + r - 64 by omega, decide_false, Bool.false_and, Bool.false_or]
    congr 1; omega
theorem rot_back (n : Nat) (k : Int) (hn : U64 n) : rot (rot n k) (-k) = n := by
  unfold rot
  obtain ⟨r, hr, e⟩ : ∃ r : Nat, r < 64 ∧ (k % 64).toNat = r := ⟨_, by omega, rfl⟩
  have e2 : ((-k) % 64).toNat = (64 - r) % 64 := by omega
  rw [e, e2]
  apply eq_of_bits (rotl_u64 _ _ (rotl_u64 _ _ hn)) hn
  intro j hj
  have h1 := rotl_at (rotl n r) ((64 - r) % 64) ((j + r) % 64) (rotl_u64 _ _ hn) (by omega) (by omega)
  rw [show ((j + r) % 64 + (64 - r) % 64) % 64 = j by omega] at h1
  rw [h1, rotl_at n r j hn hr hj]
theorem rot_64 (n : Nat) (hn : U64 n) : rot n 64 = n := by
  unfold rot rotl
  unfold U64 at hn
  simp
  rw [Nat.mod_eq_of_lt hn, Nat.div_eq_of_lt hn, Nat.or_zero]
theorem revF_bit (c t n i : Nat) (hc : c ≤ 64) (ht : t < 2 ^ (64 - c)) : (revF c t n).testBit i = if i < c then n.testBit (c - 1 - i) else t.testBit (i - c) := by
  induction c generalizing t n with
  | zero => simp [revF]
  | succ c ih =>
    have hp : 2 ^ (64 - c) = 2 ^ (64 - (c + 1)) * 2 := by rw [← Nat.pow_succ]; congr 1; omega
    have hlt : t * 2 ≤ 2 ^ 64 - 2 := by
      have : 2 ^ (64 - (c + 1)) ≤ 2 ^ 63 := Nat.pow_le_pow_right (by omega) (by omega)
      omega
    have e : t * 2 % 2 ^ 64 ||| n % 2 = t * 2 + n % 2 := by
      rw [Nat.mod_eq_of_lt (by omega), Nat.mul_comm]
      exact (Nat.two_pow_add_eq_or_of_lt (i := 1) (b := n % 2) (by omega) t).symm
    rw [revF, e, ih _ _ (by omega) (by omega)]
    by_cases h1 : i < c
    · rw [if_pos h1, if_pos (by omega), Nat.testBit_div_two]
      congr 1; omega
    · rw [if_neg h1]
      by_cases h2 : i = c
      · subst h2
        rw [if_pos (by omega), Nat.sub_self, show i + 1 - 1 - i = 0 by omega]
        simp only [Nat.testBit_zero]
        congr 2; omega
      · rw [if_neg (by omega), show i - c = (i - (c + 1)) + 1 by omega, Nat.testBit_succ]
        congr 1; omega
theorem rev_bit (n w i : Nat) (hw : w ≤ 64) : (rev n w).testBit i = (decide (i < w) && n.testBit (w - 1 - i)) := by
  unfold rev
  rw [show (min (max (w : Int) 0) 64).toNat = w by omega, revF_bit w 0 n i hw (Nat.pow_pos (by decide))]
  by_cases h : i < w
  · rw [if_pos h]; simp [h]
  · rw [if_neg h]; simp [h]
theorem rev_rev (n : Nat) (hn : U64 n) : rev (rev n 64) 64 = n := by
  apply eq_of_bits (rev_u64 _ _) hn
  intro j hj
  have h1 := rev_bit (rev n 64) 64 j (by omega)
  have h2 := rev_bit n 64 (63 - j) (by omega)
  simp only [show j < 64 from hj, show 63 - j < 64 by omega, decide_true, Bool.true_and] at h1 h2
  rw [show ((64 : Nat) : Int) = 64 from rfl] at h1 h2
  rw [h1, show 64 - 1 - j = 63 - j by omega, h2]
  congr 1; omega
/-- Bit i of a number, as the program asks for it. -/
theorem bit_at (n i : Nat) (hn : U64 n) : bits BinOp.and IntKind.u64 ((n : Int) / 2 ^ i) 1 = ((n.testBit i).toNat : Int) := by
  have e : ((n : Int) / 2 ^ i) = ((n / 2 ^ i : Nat) : Int) := by simp
  have h64 : U64 (n / 2 ^ i) := Nat.lt_of_le_of_lt (Nat.div_le_self _ _) hn
  rw [e, and_one _ h64, Nat.testBit_eq_decide_div_mod_eq]
  have : n / 2 ^ i % 2 = 0 ∨ n / 2 ^ i % 2 = 1 := by omega
  rcases this with h | h <;> simp [h]
end Go.Proofs.YtcicclghgbdgnaaDoor
