/- A loop over an iterator whose body is never left, told in things that lie beside each other: the loop's record and the block for its deferred calls are two of them. No statement is proved here. -/
import Derived.RangeFuncNested
import Derived.RangeFuncLeaves
import Derived.Shelf.Abstract
import Derived.WalkKit
import Derived.OwnWalkIn
import Derived.TacticsInMore
import Derived.LoopNIn
import Derived.LoopIn
import Derived.Test.YtcnbmeiielkigaaDoorSepPick
namespace Go.Proofs.YtcnbmeiielkigaaDoor
open Go Go.RowKit
set_option linter.unusedVariables false
/-- A block that is whole is turned. -/
theorem Sep.putObj {w0 w : World} {g : Nat} {o : Obj} {L : List Thing} (h : Sep w0 (Blk g o :: L) w) (o' : Obj) : Sep w0 (Blk g o' :: L) (w.putObj g o') := by
  have hg := h.blk_lt.2
  refine h.change (loc_blk _ _) fun F hF hlt => ⟨F, ⟨World.putObj_heap_same hg, hF.2⟩, fun k hk => ⟨.inl hk, by have := hlt k hk; simpa [World.putObj] using this⟩, ⟨rfl, rfl, rfl, by simp [World.putObj], fun k _ hn => ?_⟩⟩
  exact World.putObj_heap_other (fun e => hn (by rw [e]; exact (hF.2 g).2 rfl))
/-- What an iterator gives: all of xs, one behind the other, to a body that always goes on. -/
def Gives {α : Type} (F : Fence) (n : Nat) (P : Program) (gf : Nat) (fb lb : Array Value) (encs : α → Array Value) (xs : List α) (Pre : World → Prop) : Prop :=
  ∀ (l : Nat) (J : List α → World → Prop), (∀ s W o, J s W → J s (W.alloc o)) → (∀ s W, J s W → J s W.drew) →
    (∀ pre x rest W1, xs = pre ++ x :: rest → J pre W1 → YieldAt F (n - 1) P l (encs x) W1 fun e W' => e = .returned (.bool true) ∧ J (pre ++ [x]) W') →
    ∀ W, Pre W → J [] W → CallsIn F n P gf (fb ++ #[.func (.yield l) #[] #[]] ++ lb) W fun e W' => (∃ v, e = .returned v) ∧ J xs W'
/-- How a round's body is left. -/
def onlyOn (K : World → Prop) : Exit → Act → World → Prop
  | .normal, _, W => K W
  | _, _, _ => False
theorem range_sep {α : Type} {F : Fence} {n : Nat} {P : Program} {g : Operand} {ps : Array Tmp} {assign body : Code} {Q : Exit → Act → World → Prop} {a : Act} {w w0 : World}
    (hro : F.round = none) (h1 : 1 ≤ n) {gf : Nat} {fb lb : Array Value} (hg : a.eval g = .func (.func gf) fb lb) (hFg : F.fn gf) (eg : ∀ args w, (callFunc gf args).run P w = .ok (.enter gf args) w)
    {encs : α → Array Value} (xs : List α) (hps : ∀ x, (encs x).size = ps.size) (M : List α → List Thing) (h0 : Sep w0 (M []) w) {Pre : World → Prop} (hseq : Gives F (n - 1) P gf fb lb encs xs Pre)
    (hpre : ∀ A B W, Sep w0 (A :: B :: M []) W → Pre W) (a₁ : α → Act)
    (hassign : ∀ (l : Nat) (x : α) (W : World) (K : Act → World → Prop), K (a₁ x) W →
      assign.wpIn (F.inRound l) (n - 1 - 1) P (Exit.then K (fun _ _ _ => False)) { tmps := (ps.zip (encs x)).foldl (fun t (p, v) => t.setIfInBounds p v) a.tmps, defers := [] } W)
    (hbody : ∀ (l : Nat) (pre : List α) (x : α) (rest : List α) (A B : Thing) (W : World), xs = pre ++ x :: rest → Sep w0 (A :: B :: M pre) W → body.wpIn (F.inRound l) (n - 1 - 1) P (onlyOn (Sep w0 (A :: B :: M (pre ++ [x])))) (a₁ x) W)
    (hdone : ∀ (D : Nat) (W : World), Sep w0 (Blk D (.deferred (some [])) :: M xs) W → Q .normal { a with defers := { target := .collected D, args := #[] } :: a.defers } W) :
    (Code.rangeFunc g ps assign body).wpIn F n P Q a w := by
  refine wpIn_rangeFunc ?_
  intro fn hfn
  rw [hro]
  have h2 := (h0.alloc (.deferred (some []))).alloc (.loop { state := .ready, pending := none, fn, tmps := a.tmps, params := ps, assign, body, defers := w.heap.size })
  rw [World.size_alloc] at h2
  obtain ⟨W1, hW1⟩ : ∃ W1, (w.alloc (.deferred (some []))).alloc (.loop { state := .ready, pending := none, fn, tmps := a.tmps, params := ps, assign, body, defers := w.heap.size }) = W1 := ⟨_, rfl⟩
  rw [hW1] at h2
  refine ⟨w.heap.size + 1, [{ target := .collected w.heap.size, args := #[] }], W1, { target := .fn (.func gf) lb, args := fb ++ #[.func (.yield (w.heap.size + 1)) #[] #[]] }, W1, gf, fb ++ #[.func (.yield (w.heap.size + 1)) #[] #[]] ++ lb, W1, ?_, ?_, ?_, ?_, fun _ => h1, ?_⟩
  · rw [← hW1]; exact run_enterLoop_outer _ _ _ _ _
  · simp only [resolve, hg]
    simp [go_sem]
  · intro f' hf'
    simp [Target.leads] at hf'
    subst hf'
    exact hFg
  · simp [invoke, go_sem, eg]
  · refine (hseq (w.heap.size + 1) (fun pre W => Sep w0 (Blk (w.heap.size + 1) (.loop { state := .ready, pending := none, fn, tmps := a.tmps, params := ps, assign, body, defers := w.heap.size }) :: Blk w.heap.size (.deferred (some [])) :: M pre) W)
      (fun s W o hs => hs.alloc0 o) (fun s W hs => hs.drew) ?_ _ (hpre _ _ _ h2) h2).mono ?_
    · intro pre x rest W1 hx hs
      have hl := hs.blk
      refine ⟨fn, _, assign, body, run_yield hl (hps x), roundIn_of_wpIn hfn (hassign _ x W1 _ ⟨_, run_beginRound hl rfl, ?_⟩)⟩
      refine wpIn_mono (hbody _ pre x rest _ _ _ hx (hs.putObj _)) ?_
      rintro e a3 W3 hp
      cases e with
      | normal => exact ⟨_, _, run_endRound none (Sep.blk hp), rfl, Sep.putObj hp _⟩
      | ret => exact hp.elim
      | exit id => exact hp.elim
      | goto t => exact hp.elim
      | panic ch => exact hp.elim
      | outgrown => exact hp.elim
    · rintro e W2 ⟨⟨v, rfl⟩, hs⟩
      exact ⟨none, _, run_endLoop hs.blk (by simp), hdone _ _ (hs.putObj _).drop⟩
/-- The same, where the assignment of a round lays blocks (a loop variable in a box). -/
theorem range_sepA {α : Type} {F : Fence} {n : Nat} {P : Program} {g : Operand} {ps : Array Tmp} {assign body : Code} {Q : Exit → Act → World → Prop} {a : Act} {w w0 : World}
    (hro : F.round = none) (h1 : 1 ≤ n) {gf : Nat} {fb lb : Array Value} (hg : a.eval g = .func (.func gf) fb lb) (hFg : F.fn gf) (eg : ∀ args w, (callFunc gf args).run P w = .ok (.enter gf args) w)
    {encs : α → Array Value} (xs : List α) (hps : ∀ x, (encs x).size = ps.size) (M : List α → List Thing) (h0 : Sep w0 (M []) w) {Pre : World → Prop} (hseq : Gives F (n - 1) P gf fb lb encs xs Pre)
    (hpre : ∀ A B W, Sep w0 (A :: B :: M []) W → Pre W) (D : α → Act → List Thing) (Ok : α → Act → Prop)
    (hassign : ∀ (l : Nat) (x : α) (pre : List α) (A B : Thing) (W : World) (K : Act → World → Prop), Sep w0 (A :: B :: M pre) W → (∀ a' W', Ok x a' → Sep w0 (A :: B :: (D x a' ++ M pre)) W' → K a' W') →
      assign.wpIn (F.inRound l) (n - 1 - 1) P (Exit.then K (fun _ _ _ => False)) { tmps := (ps.zip (encs x)).foldl (fun t (p, v) => t.setIfInBounds p v) a.tmps, defers := [] } W)
    (hbody : ∀ (l : Nat) (pre : List α) (x : α) (rest : List α) (A B : Thing) (a' : Act) (W : World), xs = pre ++ x :: rest → Ok x a' → Sep w0 (A :: B :: (D x a' ++ M pre)) W → body.wpIn (F.inRound l) (n - 1 - 1) P (onlyOn (Sep w0 (A :: B :: M (pre ++ [x])))) a' W)
    (hdone : ∀ (D : Nat) (W : World), Sep w0 (Blk D (.deferred (some [])) :: M xs) W → Q .normal { a with defers := { target := .collected D, args := #[] } :: a.defers } W) :
    (Code.rangeFunc g ps assign body).wpIn F n P Q a w := by
  refine wpIn_rangeFunc ?_
  intro fn hfn
  rw [hro]
  have h2 := (h0.alloc (.deferred (some []))).alloc (.loop { state := .ready, pending := none, fn, tmps := a.tmps, params := ps, assign, body, defers := w.heap.size })
  rw [World.size_alloc] at h2
  obtain ⟨W1, hW1⟩ : ∃ W1, (w.alloc (.deferred (some []))).alloc (.loop { state := .ready, pending := none, fn, tmps := a.tmps, params := ps, assign, body, defers := w.heap.size }) = W1 := ⟨_, rfl⟩
  rw [hW1] at h2
  refine ⟨w.heap.size + 1, [{ target := .collected w.heap.size, args := #[] }], W1, { target := .fn (.func gf) lb, args := fb ++ #[.func (.yield (w.heap.size + 1)) #[] #[]] }, W1, gf, fb ++ #[.func (.yield (w.heap.size + 1)) #[] #[]] ++ lb, W1, ?_, ?_, ?_, ?_, fun _ => h1, ?_⟩
  · rw [← hW1]; exact run_enterLoop_outer _ _ _ _ _
  · simp only [resolve, hg]
    simp [go_sem]
  · intro f' hf'
    simp [Target.leads] at hf'
    subst hf'
    exact hFg
  · simp [invoke, go_sem, eg]
  · refine (hseq (w.heap.size + 1) (fun pre W => Sep w0 (Blk (w.heap.size + 1) (.loop { state := .ready, pending := none, fn, tmps := a.tmps, params := ps, assign, body, defers := w.heap.size }) :: Blk w.heap.size (.deferred (some [])) :: M pre) W)
      (fun s W o hs => hs.alloc0 o) (fun s W hs => hs.drew) ?_ _ (hpre _ _ _ h2) h2).mono ?_
    · intro pre x rest W1 hx hs
      have hl := hs.blk
      refine ⟨fn, _, assign, body, run_yield hl (hps x), roundIn_of_wpIn hfn (hassign _ x pre _ _ W1 _ hs fun a' W' ho hs' => ⟨_, run_beginRound hs'.blk rfl, ?_⟩)⟩
      refine wpIn_mono (hbody _ pre x rest _ _ _ _ hx ho (hs'.putObj _)) ?_
      rintro e a3 W3 hp
      cases e with
      | normal => exact ⟨_, _, run_endRound none (Sep.blk hp), rfl, Sep.putObj hp _⟩
      | ret => exact hp.elim
      | exit id => exact hp.elim
      | goto t => exact hp.elim
      | panic ch => exact hp.elim
      | outgrown => exact hp.elim
    · rintro e W2 ⟨⟨v, rfl⟩, hs⟩
      exact ⟨none, _, run_endLoop hs.blk (by simp), hdone _ _ (hs.putObj _).drop⟩
end Go.Proofs.YtcnbmeiielkigaaDoor
