/- Package choose: Choose and Best, by what is said of the offers. -/
import Derived.Test.YthgndegjiodopaaDoorCho14
namespace Go.Proofs.YthgndegjiodopaaDoor
open Go Go.RowKit
set_option linter.unusedVariables false
set_option linter.unusedSimpArgs false
def BdL (l : List OvM) : Prop := (∀ x ∈ l, IQ x.fr) ∧ ∀ x ∈ l, 0 ≤ x.ba ∧ x.ba ≤ 9007199254740991 ∧ x.ps.length ≤ 24 ∧ ∀ e ∈ x.ps.map (·.1), e.p.ls.length ≤ 1000
theorem oChooseL {w0 w : World} {g b : Nat} {view : Int} {m : Nat} {xs : List OvM} {L : List Thing} (l : List OvM) (h : Sep w0 (OffT g b m view xs :: L) w) (hp : xs.map OvM.pr = l.map OvM.pr) (hm : m ≤ 15) (hl : BdL l) (hne : 0 < (byFr l m).length) (hen : enough m ≤ (l.length : Nat)) :
    Calls Tryd.prog 17 #[.pointer (some ⟨g, 0, none⟩)] w fun e w' => ∃ a c qs, e = .returned (choAns (minO (byFr l m)) (maxCo (byFr l m) (minO (byFr l m)).co) a c) ∧ qs.map (·.1) = (minO (byFr l m)).ps.map (·.1) ∧ Sep w0 (EnT (.slice a (minO (byFr l m)).ps.length c) qs :: OffT g b m view xs :: L) w' := by
  have hb := byFr_pr hp m
  have hmn := minO_pr hb
  have hlen : (byFr xs m).length = (byFr l m).length := pr_length hb
  have h1 := oChoose_ok h hm (pr_frq hp hl.1) (h.offOk hp hl.2) (by rw [hlen]; exact hne) (by rw [pr_length hp]; exact hen)
  refine h1.mono fun e w' ⟨a, c, qs, e1, e2, e3⟩ => ⟨a, c, qs, ?_, ?_, ?_⟩
  · rw [e1, choAns_pr hmn, maxCo_pr _ hb, (pr_parts hmn).2.2.2.1]
  · rw [e2, (pr_parts hmn).2.2.2.2]
  · rw [← pr_len hmn]; exact e3
theorem oBestL {w0 w : World} {g b : Nat} {view : Int} {m : Nat} {xs : List OvM} {L : List Thing} (l : List OvM) (h : Sep w0 (OffT g b m view xs :: L) w) (hp : xs.map OvM.pr = l.map OvM.pr) (hm : m ≤ 15) (hl : BdL l) (hne : 0 < (byFr l m).length) :
    Calls Tryd.prog 13 #[.pointer (some ⟨g, 0, none⟩)] w fun e w' => ∃ a c qs, e = .returned (.tuple #[.agg #[.int .i64 (minO (byFr l m)).fr, .int .i64 (minO (byFr l m)).la, .int .i64 (minO (byFr l m)).ba, .slice none 0 0, .slice a (minO (byFr l m)).ps.length c, .int .i64 (minO (byFr l m)).co], .int .i64 0]) ∧ qs.map (·.1) = (minO (byFr l m)).ps.map (·.1) ∧ Sep w0 (EnT (.slice a (minO (byFr l m)).ps.length c) qs :: OffT g b m view xs :: L) w' := by
  have hb := byFr_pr hp m
  have hmn := minO_pr hb
  have hlen : (byFr xs m).length = (byFr l m).length := pr_length hb
  have h1 := oBest_ok h hm (pr_frq hp hl.1) (h.offOk hp hl.2) (by rw [hlen]; exact hne)
  refine h1.mono fun e w' ⟨a, c, qs, e1, e2, e3⟩ => ⟨a, c, qs, ?_, ?_, ?_⟩
  · rw [e1, (pr_parts hmn).1, (pr_parts hmn).2.1, (pr_parts hmn).2.2.1, (pr_parts hmn).2.2.2.1, pr_len hmn]
  · rw [e2, (pr_parts hmn).2.2.2.2]
  · rw [← pr_len hmn]; exact e3
theorem oChooseFewL {w0 w : World} {g b : Nat} {view : Int} {m : Nat} {xs : List OvM} {L : List Thing} (l : List OvM) (h : Sep w0 (OffT g b m view xs :: L) w) (hp : xs.map OvM.pr = l.map OvM.pr) (hm : m ≤ 15) (hen : ¬ enough m ≤ (l.length : Nat)) :
    Calls Tryd.prog 17 #[.pointer (some ⟨g, 0, none⟩)] w fun e w' => e = .returned (.tuple #[.agg #[.int .i64 0, .slice none 0 0, .slice none 0 0, .int .i64 0], .int .i64 0, .int .i64 110]) ∧ Sep w0 (OffT g b m view xs :: L) w' :=
  oChoose_few h hm (by rw [pr_length hp]; exact hen)
/-- A law's offer, as it is said. -/
def lO (fr la : Int) (k : Nat) (co : Int) : OvM := ⟨fr, la, 0, co, .slice none 0 0, rowP k⟩
theorem worksB : minO (byFr [lO 0 1 3 2, lO 2 1 2 2] 3) = lO 0 1 3 2 := by kernel_rfl
end Go.Proofs.YthgndegjiodopaaDoor
