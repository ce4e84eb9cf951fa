/- How many seats there are; Judge. -/
import Derived.Test.YtjjjkfdppleagaaTable5
namespace Go.Proofs.Ytjjjkfdppleagaa
open Go Go.RowKit Go.Shelf
set_option linter.unusedVariables false
set_option linter.unusedSimpArgs false
attribute [local go_sem] Oper.semAt_some
set_option maxRecDepth 100000 in
set_option maxHeartbeats 4000000 in
theorem len_any {w0 w : World} {g : Nat} {T : List SW} {L : List Thing} (h : Sep w0 (TabT g T :: L) w) (hT : T.length = 8) :
    Calls Try.prog 22 #[.pointer (some ⟨g, 0, none⟩)] w fun e w' => e = .returned (.int .i64 (seatsOf T).length) ∧ Sep w0 (TabT g T :: L) w' := by
  have h1 := h.alloc (.cells #[.int .i64 0] 3)
  obtain ⟨b, hb⟩ : ∃ z, z = w.heap.size := ⟨_, rfl⟩
  obtain ⟨w3, hw3⟩ : ∃ z, z = w.alloc (.cells #[.int .i64 0] 3) := ⟨_, rfl⟩
  rw [← hb, ← hw3] at h1
  have hlen : (seatsOf T).length ≤ 8 := by have := List.length_filter_le (·.had) T; unfold seatsOf; omega
  refine (callsIn_wide (n := 4)).1 ?_
  refine callsIn_of_wp_marks Try.func22 rfl trivial ?_ rfl
  simp only [Try.ntmps22, List.size_toArray, List.length_cons, List.length_nil, Nat.reduceAdd, Nat.reduceSub, Array.replicate_succ, Array.replicate_zero, List.push_toArray, List.append_toArray, List.nil_append, List.cons_append]
  gi_wp2
  rw [← hw3, ← hb]
  clear hw3 hb h
  refine range_sep (P := Try.prog) (gf := 41) (fb := #[.pointer (some ⟨g, 0, none⟩)]) (lb := #[]) rfl (by omega) rfl trivial (enters_of Try.func41 (by kernel_rfl) rfl) (seatsOf T) (fun _ => rfl)
    (fun pre => Cl b #[.int .i64 pre.length] 3 :: TabT g T :: L) h1 (each_gives _ g T hT) (fun A B W hs => hs.drop.drop.drop.blk)
    (fun x => { tmps := #[.pointer (some ⟨g, 0, none⟩), undef, .int .i64 0, .pointer (some ⟨b, 0, none⟩), .pointer (some ⟨g, 0, none⟩), .func (.func 41) #[.pointer (some ⟨g, 0, none⟩)] #[], x.val, undef, undef, undef], defers := [] }) ?assign ?body ?done
  case assign =>
    intro l x W K hK
    gi_wp2
    simpa using hK
  case body =>
    intro l pre x rest A B W hx hs
    have c0 := hs.sw3.cell (o := 0) rfl
    have f0 := hs.sw3.frozen 0
    have hp : (pre.length : Int) ≤ 8 := by have := congrArg List.length hx; rw [List.length_append] at this; omega
    have hp0 : (0 : Int) ≤ (pre.length : Int) := by omega
    have hs2 := (hs.sw3.setCell 0 (.int .i64 ((pre.length : Int) + 1))).to3
    have H2 := Lib.hid hs2
    clear hs hs2 hx hlen
    gi_wp2
    show Sep w0 (A :: B :: Cl b #[.int .i64 (((pre ++ [x]).length : Nat) : Int)] 3 :: TabT g T :: L) _
    rw [show (((pre ++ [x]).length : Nat) : Int) = (pre.length : Int) + 1 by simp]
    exact H2.out
  case done =>
    intro D W hs
    have c0 := hs.sw2.cell (o := 0) rfl
    have hK := hs.blk
    have HS := Lib.hid hs
    clear hs
    gi_wp2
    refine ⟨by simp, .inl ⟨_, _, rfl, run_takeDeferred hK, ?_⟩⟩
    exact ⟨_, results_tmp rfl _ _ _, rfl, (HS.out.putObj _).drop.drop⟩
end Go.Proofs.Ytjjjkfdppleagaa
