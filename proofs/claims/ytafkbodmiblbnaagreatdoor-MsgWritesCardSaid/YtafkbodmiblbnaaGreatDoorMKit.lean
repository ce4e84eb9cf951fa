/- Small words of our own over the library: slices that read as lists, and what becomes of them. No statement is proved here. -/
import Derived.Test.YtafkbodmiblbnaaGreatDoorChecked
import Derived.WalkKit
import Derived.ProofKit
import Derived.OpenShut
import Derived.Outline
import Derived.WalkSpells
import Derived.WalkLawsBesides
import Derived.Laws.BytesArg
import Derived.Laws.AppendOwnNone
import Derived.Laws.OwnMore
import Derived.Lib.Hide
namespace Go.Proofs.YtafkbodmiblbnaaGreatDoor
open Go.RowKit

/-- Bytes as values. -/
def bv (l : List UInt8) : List Value := l.map fun c => Value.int .u8 c.toNat
theorem bv_length (l : List UInt8) : (bv l).length = l.length := by simp [bv]
theorem bv_append (a b : List UInt8) : bv (a ++ b) = bv a ++ bv b := by simp [bv]
theorem bv_get (l : List UInt8) (j : Nat) (h : j < l.length) : (bv l)[j]? = some (.int .u8 (l[j]).toNat) := by simp [bv, h]
theorem bv_nil_iff (l : List UInt8) : bv l = [] ↔ l = [] := by simp [bv]

/-- A slice value that reads as a list of one-cell values. -/
def SlS (w : World) (v : Value) (xs : List Value) : Prop :=
  (v = .slice none 0 0 ∧ xs = []) ∨ ∃ b off cap, v = .slice (some ⟨b, off, none⟩) xs.length cap ∧ xs.length ≤ cap ∧ cap ≤ maxLen ∧ b < w.heap.size ∧ ∀ j u, xs[j]? = some u → w.cell? ⟨b, off + j, none⟩ = some u

/-- The same, where an empty one that came in may have whatever address. -/
def Sl (w : World) (v : Value) (xs : List Value) : Prop := SlS w v xs ∨ ∃ x c, v = .slice (some x) 0 c ∧ xs = []

theorem SlS.sl {w : World} {v : Value} {xs : List Value} (h : SlS w v xs) : Sl w v xs := .inl h

/-- Its length as the walk reads it. -/
theorem Sl.len {w : World} {v : Value} {xs : List Value} (h : Sl w v xs) : ∃ a c, v = .slice a xs.length c := by
  rcases h with (⟨rfl, rfl⟩ | ⟨b, off, cap, rfl, _⟩) | ⟨x, c, rfl, rfl⟩
  · exact ⟨none, 0, rfl⟩
  · exact ⟨_, _, rfl⟩
  · exact ⟨_, _, rfl⟩
theorem SlS.len {w : World} {v : Value} {xs : List Value} (h : SlS w v xs) : ∃ a c, v = .slice a xs.length c := h.sl.len

/-- It is read the same where its block is as it was. -/
theorem SlS.keep {w w' : World} {v : Value} {xs : List Value} (h : SlS w v xs) (hs : w.heap.size ≤ w'.heap.size) (hk : ∀ b, v.ownBlock = some b → b < w.heap.size → w'.heap[b]? = w.heap[b]?) : SlS w' v xs := by
  rcases h with h | ⟨b, off, cap, rfl, h1, h2, h3, hc⟩
  · exact .inl h
  · refine .inr ⟨b, off, cap, rfl, h1, h2, by omega, fun j u hj => ?_⟩
    rw [World.cell?_of_block (w := w) (hk b rfl h3)]
    exact hc j u hj
theorem Sl.keep {w w' : World} {v : Value} {xs : List Value} (h : Sl w v xs) (hs : w.heap.size ≤ w'.heap.size) (hk : ∀ b, v.ownBlock = some b → b < w.heap.size → w'.heap[b]? = w.heap[b]?) : Sl w' v xs := by
  rcases h with h | h
  · exact .inl (h.keep hs hk)
  · exact .inr h

theorem SlS.below {w w' : World} {v : Value} {xs : List Value} (h : SlS w v xs) (hb : Below w.heap.size w w') : SlS w' v xs :=
  h.keep hb.size fun b _ hlt => hb.block b hlt
theorem Sl.below {w w' : World} {v : Value} {xs : List Value} (h : Sl w v xs) (hb : Below w.heap.size w w') : Sl w' v xs :=
  h.keep hb.size fun b _ hlt => hb.block b hlt
/-- A slice of the call's own, from block 'base' on. -/
abbrev Own (w : World) (base : Nat) (e : TypeId) (v : Value) (xs : List Value) : Prop := w.ownsRow base e 1 v xs.length xs

theorem Own.sls {w : World} {base : Nat} {e : TypeId} {v : Value} {xs : List Value} (h : Own w base e v xs) : SlS w v xs := by
  rcases h.2 with ⟨rfl, hn⟩ | ⟨g, cap, cur, rfl, hb, hg, hnc, hcm, hcs, ht⟩
  · exact .inl ⟨rfl, List.eq_nil_of_length_eq_zero hn⟩
  · refine .inr ⟨g, 0, cap, rfl, hnc, hcm, (Array.getElem?_eq_some_iff.1 hg).1, fun j u hj => ?_⟩
    have hadd : (⟨g, 0, none⟩ : Addr).add j = ⟨g, 0 + j, none⟩ := by unfold Addr.add; split <;> simp_all
    rw [← hadd]
    exact h.cells (g := g) rfl j u hj

theorem Own.sl {w : World} {base : Nat} {e : TypeId} {v : Value} {xs : List Value} (h : Own w base e v xs) : Sl w v xs := h.sls.sl
theorem Own.base {w : World} {base base' : Nat} {e : TypeId} {v : Value} {xs : List Value} (h : Own w base e v xs) (hb : base' ≤ base) : Own w base' e v xs := by
  refine ⟨h.1, ?_⟩
  rcases h.2 with h2 | ⟨g, cap, cur, hv, hg, r⟩
  · exact .inl h2
  · exact .inr ⟨g, cap, cur, hv, by omega, r⟩

theorem Own.keep {w w' : World} {base : Nat} {e : TypeId} {v : Value} {xs : List Value} (h : Own w base e v xs) (hk : ∀ b, v.ownBlock = some b → b < w.heap.size → w'.heap[b]? = w.heap[b]?) : Own w' base e v xs := by
  refine ⟨h.1, ?_⟩
  rcases h.2 with h2 | ⟨g, cap, cur, rfl, hg, hh, r⟩
  · exact .inl h2
  · exact .inr ⟨g, cap, cur, rfl, hg, by rw [hk g rfl (Array.getElem?_eq_some_iff.1 hh).1]; exact hh, r⟩

theorem Own.below {w w' : World} {base : Nat} {e : TypeId} {v : Value} {xs : List Value} (h : Own w base e v xs) (hb : Below w.heap.size w w') : Own w' base e v xs :=
  h.keep fun b _ hlt => hb.block b hlt

theorem Own.alloc {w : World} {base : Nat} {e : TypeId} {v : Value} {xs : List Value} (h : Own w base e v xs) (o : Obj) : Own (w.alloc o) base e v xs := World.ownsRow.alloc h o

theorem below_grown {w w' : World} {row : Option Nat} {B : Nat} (hg : w.grownBy w' row) (hB : B ≤ w.heap.size) (hr : ∀ k, row = some k → B ≤ k) : Below B w w' := (Below.refl B w).grown hg hB hr

/-- 'append' of what reads as a list onto a slice of the call's own. -/
theorem run_append_sl {P : Program} {w : World} {t ty e : TypeId} {i : TypeInfo} {z : Value} (ht : P.underlying t = some (.slice e)) (hi : P.info? e = some i) (hz : i.zero = some z)
    (hsize : i.size = 1) (hby : i.bytes ≤ 64) (hzs : z.cells.size = 1) {base : Nat} {v x : Value} {xs ys : List Value} (hown : Own w base e v xs) (hx : Sl w x ys) (h1 : ∀ u ∈ ys, u.oneCell' = true)
    (hlen : xs.length + ys.length ≤ 2199023255552) (hbase : base ≤ w.heap.size) :
    ∃ v' w', (Builtin.append_ #[t, t] ty #[v, x]).run P w = .ok v' w' ∧ Own w' base e v' (xs ++ ys) ∧ w.grownBy w' v.ownBlock ∧ (v' = .slice none 0 0 → v = .slice none 0 0) := by
  rcases hx with (⟨rfl, rfl⟩ | ⟨b, off, cap, rfl, h2, h3, h4, hc⟩) | ⟨x, c, rfl, rfl⟩
  rotate_left
  rotate_left
  · obtain ⟨v', w', hr, ho, hg, hn⟩ := run_append_own (P := P) w base t ty e i z 1 i.bytes ht hi hz hsize rfl hzs (by decide) v xs.length xs hown x 0 c [] (by simp) (fun j u hj => by simp at hj) h1
      (by unfold maxLen; simp at hlen; omega) (by
        simp only [List.length_nil, Nat.add_zero] at hlen ⊢
        calc xs.length * i.bytes ≤ 2199023255552 * 64 := Nat.mul_le_mul hlen hby
          _ = 140737488355328 := by omega) hbase
    exact ⟨v', w', hr, by simpa using ho, hg, fun h => (hn.1 h).1⟩
  · refine ⟨v, w, run_append_owned_none (P := P) w base t ty e i 1 ht hi v _ xs hown, by simpa using hown, ⟨rfl, rfl, rfl, Nat.le_refl _, fun _ _ _ => rfl⟩, id⟩
  · have hm : xs.length + ys.length ≤ maxLen := by unfold maxLen; omega
    have hbb : (xs.length + ys.length) * i.bytes ≤ 140737488355328 := by
      calc (xs.length + ys.length) * i.bytes ≤ 2199023255552 * 64 := Nat.mul_le_mul hlen hby
        _ = 140737488355328 := by omega
    obtain ⟨v', w', hr, ho, hg, hn⟩ := run_append_own (P := P) w base t ty e i z 1 i.bytes ht hi hz hsize rfl hzs (by decide) v xs.length xs hown ⟨b, off, none⟩ ys.length cap ys (by simp)
      (fun j u hj => by
        have hadd : (⟨b, off, none⟩ : Addr).add j = ⟨b, off + j, none⟩ := by unfold Addr.add; split <;> simp_all
        rw [hadd]; exact hc j u hj) h1 hm hbb hbase
    refine ⟨v', w', hr, ?_, hg, fun h => (hn.1 h).1⟩
    show w'.ownsRow base e 1 v' (xs ++ ys).length (xs ++ ys)
    rw [List.length_append]
    exact ho

theorem bv_one (l : List UInt8) : ∀ u ∈ bv l, u.oneCell' = true := by
  intro u hu
  obtain ⟨_, _, rfl⟩ := List.mem_map.1 hu
  rfl

/-- Bytes turned into a string. -/
theorem strOfNums_bv (l : List UInt8) : strOfNums (l.map fun c => (c.toNat : Int)) = ⟨l.toArray⟩ := by
  have h : ∀ s : ByteArray, s.data.toList = l → s = ⟨l.toArray⟩ := by
    intro s hs; cases s with | mk d => simp at hs; subst hs; simp
  apply h
  rw [strOfNums_data, List.map_map]
  have : ((fun n : Int => UInt8.ofNat n.toNat) ∘ fun c : UInt8 => (c.toNat : Int)) = id := by
    funext c; simp
  rw [this, List.map_id]

theorem conv_bytes {P : Program} {src e dst : TypeId} (hs : P.underlying src = some (.slice e)) (he : P.underlying e = some (.int .u8)) (hd : P.underlying dst = some .string)
    {w : World} {v : Value} {l : List UInt8} (h : Sl w v (bv l)) : (convert src dst v).run P w = .ok (.string ⟨l.toArray⟩) w := by
  rcases h with (⟨rfl, hx⟩ | ⟨b, off, cap, rfl, h1, h2, _, hc⟩) | ⟨x, c, rfl, hx⟩
  rotate_left
  rotate_left
  · obtain rfl : l = [] := (bv_nil_iff l).1 hx
    have hl : (loadCells x 0).run P w = .ok ((([] : List Int).map (Value.int .u8)).toArray) w := by simp [loadCells, loadCellsFrom]
    rw [run_convert_bytes_string w src dst e _ 0 c hs he hd, run_bytesToString w _ 0 c [] hl, foldl_push_bytes]
    rfl
  · have : l = [] := (bv_nil_iff l).1 hx
    subst this
    exact run_convert_bytes_nil w src e hs he 0 0 dst hd
  · rw [← strOfNums_bv, bv_length]
    exact run_convert_bytes_arg w src e hs he b off l.length cap (l.map fun c => (c.toNat : Int)) (by simp) (fun i hi => by
      rw [hc i (.int .u8 (l[i].toNat)) (bv_get l i hi)]
      simp [List.getD, hi]) dst hd

/-- But for block g, what was there is as it was. -/
structure Upd (g : Nat) (w w' : World) : Prop where
  os : w'.os = w.os
  tape : w'.tape = w.tape
  output : w'.output = w.output
  size : w.heap.size ≤ w'.heap.size
  block : ∀ k, k < w.heap.size → k ≠ g → w'.heap[k]? = w.heap[k]?
theorem Upd.refl (g : Nat) (w : World) : Upd g w w := ⟨rfl, rfl, rfl, Nat.le_refl _, fun _ _ _ => rfl⟩
theorem Upd.trans {g : Nat} {a b c : World} (h : Upd g a b) (k : Upd g b c) : Upd g a c :=
  ⟨k.os.trans h.os, k.tape.trans h.tape, k.output.trans h.output, Nat.le_trans h.size k.size, fun i hi hn => (k.block i (Nat.lt_of_lt_of_le hi h.size) hn).trans (h.block i hi hn)⟩
theorem Upd.drew {g : Nat} {a w : World} (h : Upd g a w) : Upd g a w.drew := ⟨h.os, h.tape, h.output, h.size, h.block⟩
theorem below_upd {w w' : World} (h : Below w.heap.size w w') (g : Nat) : Upd g w w' := ⟨h.os, h.tape, h.output, h.size, fun k hk _ => h.block k hk⟩
theorem Upd.below {g B : Nat} {w w' : World} (h : Upd g w w') (hB : B ≤ g) (hw : B ≤ w.heap.size) : Below B w w' :=
  ⟨h.os, h.tape, h.output, h.size, fun k hk => h.block k (by omega) (by omega)⟩
theorem Upd.setCell {g : Nat} {a w : World} (h : Upd g a w) (o : Nat) (u : Value) : Upd g a (w.setCell ⟨g, o, none⟩ u) :=
  h.trans ⟨rfl, rfl, rfl, by simp [World.setCell], fun _ _ hn => Below.heap_setCell _ _ _ _ (by simpa using hn)⟩
theorem Upd.drewN {g : Nat} {a w : World} (h : Upd g a w) (n : Nat) : Upd g a (w.drewN n) := ⟨h.os, h.tape, h.output, h.size, h.block⟩
theorem Upd.alloc {g : Nat} {a w : World} (h : Upd g a w) (o : Obj) : Upd g a (w.alloc o) :=
  h.trans (below_upd ((Below.refl w.heap.size w).alloc (Nat.le_refl _) o) g)
/-- What is the call's own is no block that was there ahead. -/
theorem Own.ne {w : World} {base g : Nat} {e : TypeId} {v : Value} {xs : List Value} (h : Own w base e v xs) (hg : g < base) : v.ownBlock ≠ some g :=
  fun hb => by have := (h.lt g hb).1; omega

/-- A store into a row of cells. -/
theorem heap_setCell_at {w : World} {g o : Nat} {cur : Array Value} {e : TypeId} {fr : Nat × Nat} (h : w.heap[g]? = some (.cells cur e fr)) (x : Value) :
    (w.setCell ⟨g, o, none⟩ x).heap[g]? = some (.cells (cur.setIfInBounds o x) e fr) := by
  simp only [World.setCell, Array.getElem?_modify, if_true, h]
  rfl

/-- An append whose run is known. -/
theorem wpList_append_run {P : Program} {w : World} {ops : Array Oper} {rest : List Oper} {o : Oper} {a : Act} {Q : Exit → Act → World → Prop} (hgd : o.guard = none) (s x : Operand) (t u : TypeId)
    (ho : o.op = .call { callee := .builtin .append, args := #[s, x], argTypes := #[t, u] }) {v y v' : Value} {w' : World} (hs : a.eval s = v) (hx : a.eval x = y)
    (hr : (Builtin.append_ #[t, u] o.type #[v, y]).run P w = .ok v' w') (h : wpList P ops Q rest (a.put o.dst v') w') : wpList P ops Q (o :: rest) a w := by
  refine wpList_plain hgd fun K hK => ?_
  unfold Oper.wp
  simp [execOp, ho, resolve, invoke, builtin, hs, hx, hr, Result.andThen]
  exact hK _ _ h

end Go.Proofs.YtafkbodmiblbnaaGreatDoor
