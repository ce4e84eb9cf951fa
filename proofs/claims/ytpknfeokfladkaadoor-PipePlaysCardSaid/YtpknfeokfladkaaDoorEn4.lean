/- Package entry: Row. -/
import Derived.Test.YtpknfeokfladkaaDoorEn2
import Derived.Test.YtpknfeokfladkaaDoorBkB
import Derived.Test.YtpknfeokfladkaaDoorBkD
namespace Go.Proofs.YtpknfeokfladkaaDoor
open Go.RowKit
set_option linter.unusedVariables false
set_option linter.unusedSimpArgs false
/-- One entry, as it lies in a row. -/
def En7 (w : World) (b i : Nat) (x : EnM) (v : Value) : Prop := w.cell? ⟨b, i, none⟩ = some (.int .i64 x.c) ∧ w.cell? ⟨b, i + 1, none⟩ = some (.int .i64 x.m) ∧ w.cell? ⟨b, i + 2, none⟩ = some (.int .i64 x.p.k) ∧ w.cell? ⟨b, i + 3, none⟩ = some (.string x.p.s.1) ∧ w.cell? ⟨b, i + 4, none⟩ = some (.int .i64 x.p.o) ∧ w.cell? ⟨b, i + 5, none⟩ = some (.int .i64 x.p.n) ∧ w.cell? ⟨b, i + 6, none⟩ = some v
/-- A slice of entries, read. -/
def EnS (w : World) (v : Value) (xs : List (EnM × Value)) : Prop :=
  (∃ a c, v = .slice a 0 c ∧ xs = []) ∨ ∃ b off c, v = .slice (some ⟨b, off, none⟩) xs.length c ∧ xs.length ≤ c ∧ c ≤ maxLen ∧ b < w.heap.size ∧ ∀ i (hi : i < xs.length), En7 w b (off + i * 7) xs[i].1 xs[i].2 ∧ LnS w xs[i].2 xs[i].1.p.ls
theorem EnS.below {w w' : World} {v : Value} {xs : List (EnM × Value)} (h : EnS w v xs) (hb : Below w.heap.size w w') : EnS w' v xs := by
  rcases h with h | ⟨b, off, c, h1, h2, h3, h4, h5⟩
  · exact .inl h
  · refine .inr ⟨b, off, c, h1, h2, h3, Nat.lt_of_lt_of_le h4 hb.size, fun i hi => ?_⟩
    obtain ⟨⟨a0, a1, a2, a3, a4, a5, a6⟩, h6⟩ := h5 i hi
    have k : ∀ o, w'.cell? ⟨b, o, none⟩ = w.cell? ⟨b, o, none⟩ := fun o => hb.cell (p := ⟨b, o, none⟩) h4
    exact ⟨⟨(k _).trans a0, (k _).trans a1, (k _).trans a2, (k _).trans a3, (k _).trans a4, (k _).trans a5, (k _).trans a6⟩, h6.below hb⟩
theorem EnS.len {w : World} {v : Value} {xs : List (EnM × Value)} (h : EnS w v xs) : ∃ a c, v = .slice a xs.length c := by
  rcases h with ⟨a, c, rfl, rfl⟩ | ⟨b, off, c, h1, _⟩
  · exact ⟨a, c, rfl⟩
  · exact ⟨_, c, h1⟩
theorem EnS.at {w : World} {a : Option Addr} {n c : Nat} {xs : List (EnM × Value)} (h : EnS w (.slice a n c) xs) {i : Nat} (hi : i < xs.length) :
    ∃ b off, a = some ⟨b, off, none⟩ ∧ n = xs.length ∧ n ≤ c ∧ c ≤ maxLen ∧ En7 w b (off + i * 7) xs[i].1 xs[i].2 ∧ LnS w xs[i].2 xs[i].1.p.ls := by
  rcases h with ⟨a, c, h1, rfl⟩ | ⟨b, off, c', h1, h2, h3, h4, h5⟩
  · simp at hi
  · simp only [Value.slice.injEq] at h1
    obtain ⟨rfl, rfl, rfl⟩ := h1
    exact ⟨b, off, rfl, rfl, h2, h3, h5 i hi⟩
def rowTx (x : EnM) : List UInt8 := vint (entBs x).length ++ entBs x
def rowBs (xs : List EnM) : List UInt8 := vint xs.length ++ (xs.map rowTx).flatten
def rowOk (xs : List (EnM × Value)) : Bool := xs.all fun x => x.1.ok
abbrev byP (q : Value × List UInt8) : Thing := By q.1 q.2
theorem Sep.memb {w0 w : World} {A : Thing} {L : List Thing} (h : Sep w0 L w) (hm : A ∈ L) : ∃ M, Sep w0 (A :: M) w := by
  induction L with
  | nil => cases hm
  | cons B L ih =>
    rcases List.mem_cons.1 hm with rfl | hm
    · exact ⟨L, h⟩
    · exact ih h.drop hm
theorem infoB : (Tryd.prog.info? 74).map (fun i => (i.size, decide (i.bytes ≤ 64), i.zero.map (fun z => z.cells.size))) = some (1, true, some 1) := by kernel_rfl
theorem flat400 (l : List (List UInt8)) (h : ∀ x ∈ l, x.length ≤ 400) : l.flatten.length ≤ 400 * l.length := by
  induction l with
  | nil => simp
  | cons x l ih =>
    have h1 := h x (List.mem_cons_self ..)
    have h2 := ih fun y hy => h y (List.mem_cons_of_mem _ hy)
    rw [List.flatten_cons, List.length_append, List.length_cons]
    omega
theorem rowTx_len {x : EnM} (h : x.ok = true) : (rowTx x).length ≤ 400 := by
  have h1 := entBs_len h
  have h2 := vint_len (entBs x).length
  unfold rowTx
  rw [List.length_append]
  omega
end Go.Proofs.YtpknfeokfladkaaDoor
