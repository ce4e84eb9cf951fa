/- Package entry: Parse. -/
import Derived.Test.YtafkbodmiblbnaaGreatDoorMZ16
import Derived.Test.YtafkbodmiblbnaaGreatDoorMItem9
import Derived.Test.YtafkbodmiblbnaaGreatDoorMZ21
import Derived.Test.YtafkbodmiblbnaaGreatDoorMZ17
import Derived.Test.YtafkbodmiblbnaaGreatDoorMZ13
namespace Go.Proofs.YtafkbodmiblbnaaGreatDoor
open Go.RowKit
set_option linter.unusedVariables false
set_option linter.unusedSimpArgs false
def EnM.zero : EnM := ⟨0, 0, OpM.zero⟩
end Go.Proofs.YtafkbodmiblbnaaGreatDoor
/- What Parse of an entry reads: what was written, and nothing else. -/
namespace Go.Proofs.YtafkbodmiblbnaaGreatDoor
open Go.RowKit
set_option linter.unusedVariables false
end Go.Proofs.YtafkbodmiblbnaaGreatDoor
/- What Rows reads: plain mathematics. -/
namespace Go.Proofs.YtafkbodmiblbnaaGreatDoor
open Go.RowKit
set_option linter.unusedVariables false
set_option linter.unusedSimpArgs false
end Go.Proofs.YtafkbodmiblbnaaGreatDoor
/- Package msg: what a message says, without addresses; its bytes. -/
namespace Go.Proofs.YtafkbodmiblbnaaGreatDoor
open Go Go.RowKit
set_option linter.unusedVariables false
set_option linter.unusedSimpArgs false
structure MgX where
  k : Int
  f : Int
  t : Int
  v : Int
  o : Int
  cm : Int
  la : Int
  en : EnM
  rc : Int
  ra : Int
  rb : Int
  s : Bool
  ib : Int
  ck : List UInt8
  es : List EnM
  ic : Int
def MgM.x (g : MgM) : MgX := ⟨g.k, g.f, g.t, g.v, g.o, g.cm, g.la, g.en, g.rc, g.ra, g.rb, g.s, g.ib, g.ck, g.ps.map (·.1), g.ic⟩
def wresB (c a b : Int) (s : Bool) : List UInt8 := vint (resBs c a b).length ++ resBs c a b ++ [if s then 1 else 0]
theorem resBs_len (c a b : Int) : (resBs c a b).length ≤ 21 := by
  unfold resBs
  have := vint_len a.toNat
  have := vint_len b.toNat
  simp
  omega
theorem wresB_len (c a b : Int) (s : Bool) : (wresB c a b s).length ≤ 40 := by
  unfold wresB
  have := vint_len (resBs c a b).length
  have := resBs_len c a b
  simp only [List.length_append, List.length_cons, List.length_nil]
  omega
def imgBs (ib ic : Int) (ck : List UInt8) (es : List EnM) : List UInt8 := vint ib.toNat ++ (vint ic.toNat ++ ((vint ck.length ++ ck) ++ (vint (rowBs es).length ++ rowBs es)))
theorem rowBs_lenM {es : List EnM} (h : ∀ x ∈ es, x.ok = true) : (rowBs es).length ≤ 10 + es.length * 400 := by
  unfold rowBs
  have h1 := vint_len es.length
  have h2 : ∀ l : List EnM, (∀ x ∈ l, x.ok = true) → ((l.map rowTx).flatten).length ≤ l.length * 400 := by
    intro l
    induction l with
    | nil => intro _; simp
    | cons a l ih =>
      intro h
      have h3 := ih fun x hx => h x (List.mem_cons_of_mem _ hx)
      have h4 := rowTx_len (h a (List.mem_cons_self ..))
      simp only [List.map_cons, List.flatten_cons, List.length_append, List.length_cons]
      omega
  have h5 := h2 es h
  rw [List.length_append]
  omega
theorem imgBs_len {ib ic : Int} {ck : List UInt8} {es : List EnM} (h : ∀ x ∈ es, x.ok = true) (hn : es.length ≤ 32) (hc : ck.length ≤ 16384) : (imgBs ib ic ck es).length ≤ 32000 := by
  unfold imgBs
  have h1 := vint_len ib.toNat
  have h2 := vint_len ic.toNat
  have h3 := vint_len ck.length
  have h4 := vint_len (rowBs es).length
  have h5 := rowBs_lenM h
  simp only [List.length_append]
  omega
def numAt (x : MgX) : Nat → Int
  | 0 => x.v
  | 1 => x.o
  | 2 => x.cm
  | _ => x.la
def numsB (has : Int) (x : MgX) : Nat → List UInt8
  | 0 => []
  | i + 1 => numsB has x i ++ if bit has (2 ^ i) then vint (numAt x i).toNat else []
theorem numsB_len (has : Int) (x : MgX) : ∀ i, (numsB has x i).length ≤ i * 10
  | 0 => Nat.le_refl _
  | i + 1 => by
    have h1 := numsB_len has x i
    have h2 := vint_len (numAt x i).toNat
    unfold numsB
    rw [List.length_append]
    split
    · omega
    · simp only [List.length_nil]; omega
def hdBs (x : MgX) : List UInt8 := [UInt8.ofNat x.k.toNat, UInt8.ofNat x.f.toNat, UInt8.ofNat x.t.toNat]
def entB (x : MgX) : List UInt8 := if bit (mfieldsOf x.k) 16 then rowTx x.en else if bit (mfieldsOf x.k) 32 then [UInt8.ofNat x.en.c.toNat] ++ vint x.en.m.toNat else []
def resB' (x : MgX) : List UInt8 := if bit (mfieldsOf x.k) 64 then wresB x.rc x.ra x.rb x.s else []
def imgB' (x : MgX) : List UInt8 := if bit (mfieldsOf x.k) 128 then imgBs x.ib x.ic x.ck x.es else []
def bodyB (x : MgX) : List UInt8 := hdBs x ++ (numsB (mfieldsOf x.k) x 4 ++ (entB x ++ (resB' x ++ imgB' x)))
/-- Which fields there may be together. -/
theorem has_cases (k : Int) : mfieldsOf k = 0 ∨ (1 ≤ k ∧ k ≤ 10 ∧ mfieldsOf k ≠ 0 ∧
    ((bit (mfieldsOf k) 16 = true ∧ bit (mfieldsOf k) 32 = false ∧ bit (mfieldsOf k) 64 = false ∧ bit (mfieldsOf k) 128 = false) ∨
     (bit (mfieldsOf k) 16 = false ∧ bit (mfieldsOf k) 32 = true ∧ bit (mfieldsOf k) 64 = true ∧ bit (mfieldsOf k) 128 = false) ∨
     (bit (mfieldsOf k) 16 = false ∧ bit (mfieldsOf k) 32 = true ∧ bit (mfieldsOf k) 64 = false ∧ bit (mfieldsOf k) 128 = false) ∨
     (bit (mfieldsOf k) 16 = false ∧ bit (mfieldsOf k) 32 = false ∧ bit (mfieldsOf k) 64 = false ∧ bit (mfieldsOf k) 128 = true) ∨
     (bit (mfieldsOf k) 16 = false ∧ bit (mfieldsOf k) 32 = false ∧ bit (mfieldsOf k) 64 = false ∧ bit (mfieldsOf k) 128 = false))) := by
  by_cases h : 0 ≤ k ∧ k ≤ 10
  · have h1 : k = 0 ∨ k = 1 ∨ k = 2 ∨ k = 3 ∨ k = 4 ∨ k = 5 ∨ k = 6 ∨ k = 7 ∨ k = 8 ∨ k = 9 ∨ k = 10 := by omega
    rcases h1 with rfl | rfl | rfl | rfl | rfl | rfl | rfl | rfl | rfl | rfl | rfl
    · exact .inl (by decide)
    · exact .inr ⟨by decide, by decide, by decide, .inl ⟨by decide, by decide, by decide, by decide⟩⟩
    · exact .inr ⟨by decide, by decide, by decide, .inr (.inl ⟨by decide, by decide, by decide, by decide⟩)⟩
    · exact .inr ⟨by decide, by decide, by decide, .inl ⟨by decide, by decide, by decide, by decide⟩⟩
    · exact .inr ⟨by decide, by decide, by decide, .inr (.inr (.inr (.inr ⟨by decide, by decide, by decide, by decide⟩)))⟩
    · exact .inr ⟨by decide, by decide, by decide, .inr (.inr (.inr (.inr ⟨by decide, by decide, by decide, by decide⟩)))⟩
    · exact .inr ⟨by decide, by decide, by decide, .inr (.inr (.inr (.inr ⟨by decide, by decide, by decide, by decide⟩)))⟩
    · exact .inr ⟨by decide, by decide, by decide, .inr (.inr (.inr (.inl ⟨by decide, by decide, by decide, by decide⟩)))⟩
    · exact .inr ⟨by decide, by decide, by decide, .inr (.inr (.inr (.inr ⟨by decide, by decide, by decide, by decide⟩)))⟩
    · exact .inr ⟨by decide, by decide, by decide, .inr (.inr (.inr (.inl ⟨by decide, by decide, by decide, by decide⟩)))⟩
    · exact .inr ⟨by decide, by decide, by decide, .inr (.inr (.inl ⟨by decide, by decide, by decide, by decide⟩))⟩
  · exact .inl (by unfold mfieldsOf; rw [if_neg h])
/-- What Check says of a message. -/
theorem chk_parts {g : MgM} (h : chkB g = true) : mfieldsOf g.k ≠ 0 ∧ 1 ≤ g.k ∧ g.k ≤ 10 ∧ 0 ≤ g.f ∧ g.f < 23 ∧ 0 ≤ g.t ∧ g.t < 23 ∧
    (bit (mfieldsOf g.k) 1 = true → numB g.v = true) ∧ (bit (mfieldsOf g.k) 2 = true → numB g.o = true) ∧ (bit (mfieldsOf g.k) 4 = true → numB g.cm = true) ∧ (bit (mfieldsOf g.k) 8 = true → numB g.la = true) ∧
    fEB (mfieldsOf g.k) g.en = true ∧ fRB (mfieldsOf g.k) g.rc g.ra g.rb g.s = true ∧ fIB (mfieldsOf g.k) g.ib g.ck g.ps g.ic = true := by
  unfold chkB at h
  simp only [Bool.and_eq_true, Bool.not_eq_true', beq_eq_false_iff_ne, ne_eq] at h
  obtain ⟨h1, h2, h3, h4, h5, h6, h7, h8, h9, h10⟩ := h
  have hn : ∀ b n, holdsB b n = true → b = true → numB n = true := by
    intro b n hh hb
    unfold holdsB at hh
    split at hh
    · rename_i h0; subst h0; decide
    · simp only [Bool.and_eq_true] at hh; exact hh.2
  have hp : ∀ n, partB n = true → 0 ≤ n ∧ n < 23 := fun n hh => of_decide_eq_true hh
  rcases has_cases g.k with h0 | ⟨hk1, hk2, -⟩
  · exact absurd h0 h1
  · exact ⟨h1, hk1, hk2, (hp _ h2).1, (hp _ h2).2, (hp _ h3).1, (hp _ h3).2, hn _ _ h4, hn _ _ h5, hn _ _ h6, hn _ _ h7, h8, h9, h10⟩
theorem numB_iff {n : Int} (h : numB n = true) : 0 ≤ n ∧ n ≤ 9007199254740991 := of_decide_eq_true h
theorem img_parts {has ib ic : Int} {l : List UInt8} {xs : List (EnM × Value)} (h : fIB has ib l xs ic = true) (hb : bit has 128 = true) : 0 ≤ ib ∧ ib ≤ 9007199254740991 ∧ l.length ≤ 16384 ∧ xs.length ≤ 32 ∧ rowOk xs = true ∧ (∀ x ∈ xs.map (·.1), x.ok = true) ∧ ib ≤ ic ∧ ic ≤ ib + xs.length := by
  unfold fIB at h
  rw [if_pos hb] at h
  unfold ckI at h
  simp only [Bool.and_eq_true, decide_eq_true_eq] at h
  obtain ⟨⟨⟨⟨h1, h2⟩, h3⟩, h4⟩, h5, h6⟩ := h
  have h7 := numB_iff h1
  refine ⟨h7.1, h7.2, h2, h3, h4, ?_, h5, h6⟩
  intro x hx
  obtain ⟨q, hq, rfl⟩ := List.mem_map.1 hx
  exact List.all_eq_true.1 h4 q hq
theorem body_len {g : MgM} (h : chkB g = true) : (bodyB g.x).length ≤ 65532 := by
  obtain ⟨h0, h1, h2, h3, h4, h5, h6, -, -, -, -, h7, h8, h9⟩ := chk_parts h
  unfold bodyB
  have a1 := numsB_len (mfieldsOf g.x.k) g.x 4
  have a2 : (hdBs g.x).length = 3 := rfl
  have a3 : (entB g.x).length ≤ 500 := by
    unfold entB
    split
    · rename_i hb
      have hb : bit (mfieldsOf g.k) 16 = true := hb
      unfold fEB at h7
      rw [if_pos hb] at h7
      have := rowTx_len h7
      show (rowTx g.en).length ≤ 500
      omega
    · split
      · have := vint_len g.x.en.m.toNat
        simp only [List.length_append, List.length_cons, List.length_nil]
        omega
      · simp
  have a4 : (resB' g.x).length ≤ 40 := by
    unfold resB'
    split
    · exact wresB_len _ _ _ _
    · simp
  have a5 : (imgB' g.x).length ≤ 32000 := by
    unfold imgB'
    split
    · rename_i hb
      obtain ⟨-, -, b1, b2, -, b3, -⟩ := img_parts h9 hb
      exact imgBs_len b3 (by show (g.ps.map (·.1)).length ≤ 32; rw [List.length_map]; exact b2) b1
    · simp
  simp only [List.length_append]
  omega
end Go.Proofs.YtafkbodmiblbnaaGreatDoor
