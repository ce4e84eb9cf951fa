/- Rows of messages; loads and stores of whole structs. -/
import Derived.Deep.MidRow
import Derived.ArgAppend
import Derived.Test.YtafkbodmiblbnaaGreatDoorMPx2
import Derived.Test.YtafkbodmiblbnaaGreatDoorMZ09
namespace Go.Proofs.YtafkbodmiblbnaaGreatDoor
open Go Go.RowKit
set_option linter.unusedVariables false
set_option linter.unusedSimpArgs false
theorem Sep.frozen {w0 w : World} {g : Nat} {xs : Array Value} {t : TypeId} {L : List Thing} (h : Sep w0 (Cl g xs t :: L) w) (o : Nat) : w.frozen? ⟨g, o, none⟩ = false := by
  unfold World.frozen?; rw [h.blk]; simp
theorem wpList_load_run {P : Program} {ops : Array Oper} {rest : List Oper} {o : Oper} {a : Act} {w : World} {Q : Exit → Act → World → Prop} (hg : o.guard = none) (t : TypeId) (x : Operand) (hop : o.op = .load t x) (p v : Value) (hx : a.eval x = p)
    (hr : (Instr.loadAt t p).run P w = .ok v w) (hK : wpList P ops Q rest (a.put o.dst v) w) : wpList P ops Q (o :: rest) a w := by
  refine wpList_plain hg fun K hK' => ?_
  unfold Oper.wp
  simp [execOp, hop, hx, hr, Result.andThen]
  exact hK' _ _ hK
theorem Sep.loadW {w0 w : World} {b : Nat} {cs : Array Value} {t : TypeId} {L : List Thing} {P : Program} {d : TypeDesc} (h : Sep w0 (Cl b cs t :: L) w) (ty : TypeId) (hu : P.underlying ty = some d) (hd : d.isRow = true) (hi : (P.info? ty).map (·.size) = some cs.size) : (Instr.loadAt ty (.pointer (some ⟨b, 0, none⟩))).run P w = .ok (.agg cs) w := by
  have h1 := run_loadAt_mid (P := P) w b 0 ty cs.toList d (fun j v hj => by rw [Nat.zero_add]; exact h.cell (by simpa using hj)) hu hd (by simpa using hi)
  simpa using h1
/-- Several cells in a row, written. -/
def writeAt (xs : Array Value) : Nat → List Value → Array Value
  | _, [] => xs
  | o, v :: r => writeAt (xs.setIfInBounds o v) (o + 1) r
theorem writeAt_get : ∀ (vs : List Value) (xs : Array Value) (o j : Nat), (writeAt xs o vs)[j]? = if o ≤ j ∧ j < o + vs.length ∧ j < xs.size then vs[j - o]? else xs[j]?
  | [], xs, o, j => by simp only [writeAt, List.length_nil]; rw [if_neg (by omega)]
  | v :: r, xs, o, j => by
    rw [writeAt, writeAt_get r, Array.size_setIfInBounds, Array.getElem?_setIfInBounds, List.length_cons]
    by_cases h1 : o = j
    · subst h1
      rw [if_neg (by omega), if_pos rfl]
      by_cases h2 : o < xs.size
      · rw [if_pos h2, if_pos ⟨Nat.le_refl _, by omega, h2⟩]; simp
      · rw [if_neg h2, if_neg (by omega), Array.getElem?_eq_none (by omega)]
    · rw [if_neg h1]
      by_cases h3 : o + 1 ≤ j ∧ j < o + 1 + r.length ∧ j < xs.size
      · rw [if_pos h3, if_pos (by omega), show j - o = (j - (o + 1)) + 1 by omega, List.getElem?_cons_succ]
      · rw [if_neg h3, if_neg (by omega)]
theorem Sep.setCells {w0 : World} {g : Nat} {t : TypeId} {L : List Thing} : ∀ (vs : List Value) (xs : Array Value) (o : Nat) (w : World), Sep w0 (Cl g xs t :: L) w → Sep w0 (Cl g (writeAt xs o vs) t :: L) (w.setCells g o vs)
  | [], _, _, _, h => h
  | v :: r, xs, o, w, h => Sep.setCells r _ (o + 1) _ (h.setCell o v)
theorem writeAt_all (Z cs : Array Value) (h : Z.size = cs.size) : writeAt Z 0 cs.toList = cs := by
  apply Array.ext_getElem?
  intro j
  rw [writeAt_get, Array.length_toList, h]
  by_cases hj : j < cs.size
  · rw [if_pos ⟨Nat.zero_le _, by omega, hj⟩, Nat.sub_zero, Array.getElem?_toList]
  · rw [if_neg (by omega), Array.getElem?_eq_none (by omega), Array.getElem?_eq_none (by omega)]
theorem Sep.storeW {w0 w : World} {b : Nat} {Z : Array Value} {t : TypeId} {L : List Thing} (h : Sep w0 (Cl b Z t :: L) w) (cs : Array Value) (hZ : Z.size = cs.size) : Sep w0 (Cl b cs t :: L) (w.setCells b 0 cs.toList) := by
  have h1 := Sep.setCells cs.toList Z 0 _ h
  rw [writeAt_all Z cs hZ] at h1
  exact h1
theorem results_cell {P : Program} {fn : Func} {t : Tmp} {ty : TypeId} (h : fn.results = #[.cell t ty]) {tmps : Array Value} {w : World} {ad : Addr} {v : Value} (ht : tmps.getD t undef = .pointer (some ad)) (hl : (loadVar ty ad).run P w = .ok v w) : (results fn tmps).run P w = .ok v w := by
  rw [Array.getD_eq_getD_getElem?] at ht
  simp [results, h, ht, asAddr, hl]
theorem Sep.loadV {w0 w : World} {b : Nat} {cs : Array Value} {t : TypeId} {L : List Thing} {P : Program} {d : TypeDesc} (h : Sep w0 (Cl b cs t :: L) w) (ty : TypeId) (hu : P.underlying ty = some d) (hd : d.isRow = true) (hi : (P.info? ty).map (·.size) = some cs.size) : (loadVar ty ⟨b, 0, none⟩).run P w = .ok (.agg cs) w := by
  have h1 := run_loadVar_mid (P := P) w b 0 ty cs.toList d (fun j v hj => by rw [Nat.zero_add]; exact h.cell (by simpa using hj)) hu hd (by simpa using hi)
  simpa using h1
def StopP (p : Prop) : Prop := p
theorem stopP {p : Prop} (h : StopP p) : p := h
theorem NilL.one {v : Value} (h : NilL v) : v.oneCell' = true := by obtain ⟨a, c, rfl, -⟩ := h; rfl
end Go.Proofs.YtafkbodmiblbnaaGreatDoor
/- Slices of one's own whose elements take several cells, and which may begin anywhere in their block (what 'l = l[1:]' leaves). -/
namespace Go.Proofs.YtafkbodmiblbnaaGreatDoor
open Go Go.RowKit
set_option linter.unusedVariables false
set_option linter.unusedSimpArgs false
end Go.Proofs.YtafkbodmiblbnaaGreatDoor
/- Messages without lists, copied. -/
namespace Go.Proofs.YtafkbodmiblbnaaGreatDoor
open Go Go.RowKit
set_option linter.unusedVariables false
set_option linter.unusedSimpArgs false
theorem Sep.thereAt {w0 w : World} {b : Nat} {Z : Array Value} {t : TypeId} {L : List Thing} (h : Sep w0 (Cl b Z t :: L) w) (o n : Nat) (hZ : o + n ≤ Z.size) : w.there b o n := fun j hj => by
  refine ⟨?_, h.frozen _⟩
  rw [h.cell (o := o + j) (Array.getElem?_eq_getElem (by omega))]
  rfl
end Go.Proofs.YtafkbodmiblbnaaGreatDoor
