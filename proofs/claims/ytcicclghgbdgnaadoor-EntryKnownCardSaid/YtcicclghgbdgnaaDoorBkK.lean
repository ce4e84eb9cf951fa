/- Texts of one bundle: RefP1, RefPd. -/
import Derived.Test.YtcicclghgbdgnaaDoorBkE
import Derived.Test.YtcicclghgbdgnaaDoorBkL
import Derived.Test.YtcicclghgbdgnaaDoorItem10
import Derived.Test.YtcicclghgbdgnaaDoorBkJ
import Derived.Test.YtcicclghgbdgnaaDoorRefI3
/- The document's own item: small; what is read, as it is read there. -/
namespace Go.Proofs.YtcicclghgbdgnaaDoor
open Go.RowKit
set_option linter.unusedVariables false
set_option linter.unusedSimpArgs false
def sml (u : Nat) : Int := if 9007199254740991 < u then -1 else (u : Int)
theorem small_any (u : Nat) (w : World) (hu : U64 u) : Calls Tryd.prog 90 #[.int .u64 u] w fun e w' => e = .returned (.int .i64 (sml u)) ∧ w = w' := by
  unfold U64 at hu
  unfold sml
  by_cases h : 9007199254740991 < u
  · rw [if_pos h]
    have h1 : (9007199254740991 : Int) < (u : Int) := by omega
    go_enter Tryd.func90, Tryd.ntmps90
    go_wp2
    go_ret
    exact ⟨rfl, rfl⟩
  · rw [if_neg h]
    have h1 : ¬ (9007199254740991 : Int) < (u : Int) := by omega
    have h2 : wrap64 (u : Int) = u := by unfold wrap64; omega
    go_enter Tryd.func90, Tryd.ntmps90
    go_wp2
    go_ret
    first | exact ⟨rfl, rfl⟩ | (rw [h2]; exact ⟨rfl, rfl⟩)
theorem i64w_val (u : Nat) (hu : U64 u) : i64w u = if u < 9223372036854775808 then (u : Int) else (u : Int) - 18446744073709551616 := by
  unfold U64 at hu
  rw [i64w_eq]; unfold wrap64
  split <;> omega
/-- What may be as a quantity is read alike, both ways. -/
theorem sml_of {u : Nat} (hu : U64 u) (h : qtyB (i64w u) = true ∨ qtyB (sml u) = true) : i64w u = sml u := by
  have h1 := i64w_val u hu
  have hu' := hu
  unfold U64 at hu'
  unfold sml at *
  rcases h with h | h
  · have := qty_of h
    rw [h1] at this ⊢
    split <;> split at this <;> first | rfl | omega
  · have := qty_of h
    rw [h1]
    split at this <;> split <;> first | omega | (split <;> omega)
theorem sml_res {u : Nat} (hu : U64 u) : (0 ≤ i64w u ∧ i64w u ≤ 2147483647 ↔ 0 ≤ sml u ∧ sml u ≤ 2147483647) ∧ (0 ≤ i64w u → i64w u ≤ 2147483647 → i64w u = sml u) := by
  have h1 := i64w_val u hu
  unfold U64 at hu
  unfold sml
  rw [h1]
  split <;> split <;> refine ⟨⟨fun h => ?_, fun h => ?_⟩, fun h1 h2 => ?_⟩ <;> omega
theorem end4 {rest : List UInt8} (hr : ¬ endErr rest 0 = 0) : endErr rest 0 = 4 := by
  unfold endErr at hr ⊢
  by_cases hx : (0 : Int) = 0 ∧ 0 < rest.length
  · rw [if_pos hx]
  · rw [if_neg hx] at hr
    exact absurd rfl hr
/-- What the document's Parse answers of what it has read. -/
def rprsFin (p : OpM) (rest : List UInt8) (e : Int) : OpM × Int := if e ≠ 0 then (OpM.zero, e) else if endErr rest 0 ≠ 0 then (OpM.zero, 4) else if p.ok then (p, 0) else (OpM.zero, 4)
theorem rprsFin_eq {p p' : OpM} {rest : List UInt8} {e : Int} (h1 : p.ok = true → p' = p) (h2 : p'.ok = true → p' = p) : rprsFin p' rest e = prsFin p rest e := by
  unfold rprsFin prsFin
  by_cases he : e = 0
  · subst he
    rw [if_neg (by simp)]
    by_cases hr : endErr rest 0 = 0
    · rw [if_neg (by simp [hr]), if_pos hr]
      cases hp : p.ok with
      | true => rw [h1 hp, hp]
      | false =>
        have : p'.ok = false := by
          cases hp' : p'.ok with
          | false => rfl
          | true => rw [h2 hp', hp] at hp'; cases hp'
        rw [this]; simp
    · rw [if_pos hr, if_neg hr]
      have : endErr rest 0 = 4 := end4 hr
      rw [this]
  · rw [if_pos he]
    have : endErr rest e = e := by unfold endErr; rw [if_neg (by omega)]
    rw [this, if_neg he]
theorem rprsFin_ls {p p' : OpM} {r r' : List UInt8} {e e' : Int} (he : e' = e) (h : e = 0 → r' = r ∧ (p.ok = true → p' = p) ∧ (p'.ok = true → p' = p)) : rprsFin p' r' e' = prsFin p r e := by
  subst he
  by_cases he : e' = 0
  · obtain ⟨rfl, h1, h2⟩ := h he
    exact rprsFin_eq h1 h2
  · unfold rprsFin prsFin
    rw [if_pos he]
    have : endErr r e' = e' := by unfold endErr; rw [if_neg (by omega)]
    rw [this, if_neg he]
/-- The lines, as the document reads them: none behind an error. -/
def rrdLs : Nat → List UInt8 → Int → List Ln × List UInt8 × Int
  | 0, rest, e => ([], rest, e)
  | c + 1, rest, e =>
    if e ≠ 0 then ([], rest, e) else
    let t := rdTe rest e
    let v := rdVe t.2.1 t.2.2
    let r := rrdLs c v.2.1 v.2.2
    ((mkS t.1, sml v.1) :: r.1, r.2)
def rrdL (rest : List UInt8) (e : Int) : List Ln × List UInt8 × Int := rrdLs (min (rdVe rest e).1 5) (rdVe rest e).2.1 (rdVe rest e).2.2
theorem rdLs_err (c : Nat) (rest : List UInt8) (e : Int) (he : e ≠ 0) : (rdLs c rest e).2.2 = e := by
  induction c with
  | zero => rfl
  | succ c ih =>
    have h1 : rdTe rest e = ([], rest, e) := by unfold rdTe; rw [if_neg he]
    have h2 : rdVe rest e = (0, rest, e) := by unfold rdVe; rw [if_neg he]
    unfold rdLs
    rw [h1]
    dsimp only
    rw [h2]
    exact ih
/-- Both ways of reading the lines: the same error; where there is none, the same numbers, but for those that are too great. -/
theorem rrdLs_eq (c : Nat) (rest : List UInt8) (e : Int) : (rrdLs c rest e).2.2 = (rdLs c rest e).2.2 ∧ ((rdLs c rest e).2.2 = 0 → (rrdLs c rest e).2.1 = (rdLs c rest e).2.1 ∧ ∃ raw : List (KS × Nat), (∀ x ∈ raw, U64 x.2) ∧ (rdLs c rest e).1 = raw.map (fun x => (x.1, i64w x.2)) ∧ (rrdLs c rest e).1 = raw.map (fun x => (x.1, sml x.2))) := by
  induction c generalizing rest e with
  | zero => exact ⟨rfl, fun _ => ⟨rfl, [], (fun _ h => nomatch h), rfl, rfl⟩⟩
  | succ c ih =>
    by_cases he : e = 0
    · obtain ⟨h1, h2⟩ := ih (rdVe (rdTe rest e).2.1 (rdTe rest e).2.2).2.1 (rdVe (rdTe rest e).2.1 (rdTe rest e).2.2).2.2
      unfold rrdLs rdLs
      rw [if_neg (by simp [he])]
      refine ⟨h1, fun h => ?_⟩
      obtain ⟨h3, raw, h4, h5, h6⟩ := h2 h
      refine ⟨h3, (mkS (rdTe rest e).1, (rdVe (rdTe rest e).2.1 (rdTe rest e).2.2).1) :: raw, ?_, ?_, ?_⟩
      · intro x hx
        rcases List.mem_cons.1 hx with rfl | hx
        · exact rdVe_u64 _ _
        · exact h4 x hx
      · simp only [List.map_cons]; rw [h5]
      · simp only [List.map_cons]; rw [h6]
    · have h1 := rdLs_err (c + 1) rest e he
      unfold rrdLs
      rw [if_pos he]
      exact ⟨h1.symm, fun h => absurd (h1.symm.trans h) he⟩
theorem raw_eq {raw : List (KS × Nat)} (hu : ∀ x ∈ raw, U64 x.2) (h : linesB (raw.map (fun x => (x.1, i64w x.2))) = true ∨ linesB (raw.map (fun x => (x.1, sml x.2))) = true) : raw.map (fun x => ((x.1, sml x.2) : Ln)) = raw.map (fun x => (x.1, i64w x.2)) := by
  refine List.map_congr_left fun x hx => ?_
  have : i64w x.2 = sml x.2 := by
    refine sml_of (hu x hx) ?_
    rcases h with h | h
    · left
      have := List.all_eq_true.1 (lines_of h).2.2 _ (List.mem_map_of_mem hx)
      unfold lineB at this
      exact (Bool.and_eq_true_iff.1 this).2
    · right
      have := List.all_eq_true.1 (lines_of h).2.2 _ (List.mem_map_of_mem hx)
      unfold lineB at this
      exact (Bool.and_eq_true_iff.1 this).2
  rw [this]
/-- What the document's ParseRes answers. -/
def rprsRes (l : List UInt8) : (Int × Int × Int) × Int :=
  let a := rdNe l 0
  let b := rdVe a.2.1 a.2.2
  let c := rdVe b.2.1 b.2.2
  if c.2.2 ≠ 0 then ((0, 0, 0), c.2.2) else if endErr c.2.1 0 ≠ 0 then ((0, 0, 0), 4) else if resB (a.1 : Nat) (sml b.1) (sml c.1) then (((a.1 : Nat), sml b.1, sml c.1), 0) else ((0, 0, 0), 4)
theorem rprsRes_eq (l : List UInt8) : rprsRes l = prsRes l := by
  unfold rprsRes prsRes
  dsimp only
  have hb1 := rdVe_u64 (rdNe l 0).2.1 (rdNe l 0).2.2
  generalize (rdNe l 0).1 = k
  generalize rdVe (rdNe l 0).2.1 (rdNe l 0).2.2 = b at *
  have hb2 := rdVe_u64 b.2.1 b.2.2
  generalize rdVe b.2.1 b.2.2 = c at *
  obtain ⟨x1, x2⟩ := sml_res hb1
  obtain ⟨y1, y2⟩ := sml_res hb2
  have hres : resB (k : Nat) (sml b.1) (sml c.1) = resB (k : Nat) (i64w b.1) (i64w c.1) := by
    unfold resB
    rw [Bool.eq_iff_iff]
    simp only [decide_eq_true_eq]
    omega
  by_cases he : c.2.2 = 0
  · rw [he, if_neg (by simp)]
    by_cases hr : endErr c.2.1 0 = 0
    · rw [if_neg (by simp [hr]), if_pos hr, hres]
      cases hk : resB (k : Nat) (i64w b.1) (i64w c.1) with
      | false => rfl
      | true =>
        unfold resB at hk
        have := of_decide_eq_true hk
        rw [x2 (by omega) (by omega), y2 (by omega) (by omega)]
    · rw [if_pos hr, if_neg hr]
      have : endErr c.2.1 0 = 4 := end4 hr
      rw [this]
  · rw [if_pos he]
    have : endErr c.2.1 c.2.2 = c.2.2 := by unfold endErr; rw [if_neg (by omega)]
    rw [this, if_neg he]
end Go.Proofs.YtcicclghgbdgnaaDoor

/- The document's own item: Parse (what it answers). -/
namespace Go.Proofs.YtcicclghgbdgnaaDoor
open Go.RowKit
set_option linter.unusedVariables false
set_option linter.unusedSimpArgs false
def rprs0 (k : Nat) (r : List UInt8) (e : Int) : OpM × Int := rprsFin ⟨k, sZ, 0, 0, []⟩ r e
def rprs2 (k : Nat) (r : List UInt8) (e : Int) : OpM × Int := rprsFin ⟨k, sZ, sml (rdVe r e).1, 0, []⟩ (rdVe r e).2.1 (rdVe r e).2.2
def rprs4 (k : Nat) (r : List UInt8) (e : Int) : OpM × Int := rprsFin ⟨k, sZ, 0, sml (rdVe r e).1, []⟩ (rdVe r e).2.1 (rdVe r e).2.2
def rprs1 (k : Nat) (r : List UInt8) (e : Int) : OpM × Int := rprsFin ⟨k, mkS (rdTe r e).1, 0, 0, []⟩ (rdTe r e).2.1 (rdTe r e).2.2
def rprs5 (k : Nat) (r : List UInt8) (e : Int) : OpM × Int := rprsFin ⟨k, mkS (rdTe r e).1, 0, sml (rdVe (rdTe r e).2.1 (rdTe r e).2.2).1, []⟩ (rdVe (rdTe r e).2.1 (rdTe r e).2.2).2.1 (rdVe (rdTe r e).2.1 (rdTe r e).2.2).2.2
def rprs9 (k : Nat) (r : List UInt8) (e : Int) : OpM × Int := rprsFin ⟨k, mkS (rdTe r e).1, 0, zag (rdVe (rdTe r e).2.1 (rdTe r e).2.2).1, []⟩ (rdVe (rdTe r e).2.1 (rdTe r e).2.2).2.1 (rdVe (rdTe r e).2.1 (rdTe r e).2.2).2.2
def rprs22 (k : Nat) (r : List UInt8) (e : Int) : OpM × Int := let a := rdVe r e; let b := rdVe a.2.1 a.2.2; let c := rrdL b.2.1 b.2.2; rprsFin ⟨k, sZ, sml a.1, sml b.1, c.1⟩ c.2.1 c.2.2
/-- What Parse answers. -/
def RPrs (w0 : World) (F : OpM × Int) (r : Ending) (w' : World) : Prop := ∃ (p : OpM) (err : Int) (u : Value), r = .returned (.tuple #[.agg #[.int .i64 p.k, .string p.s.1, .int .i64 p.o, .int .i64 p.n, u], .int .i64 err]) ∧ (p, err) = F ∧ Sep w0 [LnR u p.ls] w'
end Go.Proofs.YtcicclghgbdgnaaDoor
