/- The document's tally: Won. -/
import Derived.Test.YtidbniigfkocpaaRefAdd
import Derived.Test.YtidbniigfkocpaaWon2
namespace Go.Proofs.Ytidbniigfkocpaa
open Go.RowKit
set_option linter.unusedVariables false
set_option linter.unusedSimpArgs false
theorem rwon_cells {w0 w : World} {bq bb g n : Nat} {v u : Value} {x y : Bal} {L : List Thing} (h : Sep w0 (Cl bq (oneCells x u) 69 :: Cl bb (cellsB y) 34 :: RTalC g n v :: L) w) :
    w.cell? ⟨g, 0, none⟩ = some (.int .i64 n) ∧ w.cell? ⟨bq, 0, none⟩ = some (.int .i64 x.1.1) ∧ w.cell? ⟨bq, 1, none⟩ = some (.int .i64 x.1.2.1) ∧ w.cell? ⟨bq, 2, none⟩ = some (.int .i64 x.1.2.2.1) ∧ w.cell? ⟨bq, 3, none⟩ = some (.int .i64 x.1.2.2.2.1) ∧ w.cell? ⟨bq, 4, none⟩ = some (.int .i64 x.1.2.2.2.2) ∧ w.cell? ⟨bq, 5, none⟩ = some u ∧
      w.cell? ⟨bb, 0, none⟩ = some (.int .i64 y.1.1) ∧ w.cell? ⟨bb, 1, none⟩ = some (.int .i64 y.1.2.1) ∧ w.cell? ⟨bb, 2, none⟩ = some (.int .i64 y.1.2.2.1) ∧ w.cell? ⟨bb, 3, none⟩ = some (.int .i64 y.1.2.2.2.1) ∧ w.cell? ⟨bb, 4, none⟩ = some (.int .i64 y.1.2.2.2.2) := by
  obtain ⟨⟨a0, a1, a2, a3, a4, a5⟩, -⟩ := one_facts h
  obtain ⟨b0, b1, b2, b3, b4⟩ := bal_cells h.sw2
  exact ⟨h.sw3.cell rfl, a0, a1, a2, a3, a4, a5, b0, b1, b2, b3, b4⟩
theorem take_keys {S : List (Bal × Nat)} {k : Nat} (hk : k < S.length) {E : Int} {o : Option Bal} (h : BestOk E S (S[k].1 :: (S.take k).map (·.1)) o) : BestOk E S ((S.take (k + 1)).map (·.1)) o := by
  rw [List.take_succ_eq_append_getElem hk, List.map_append]
  refine ⟨fun ho p hp hd => h.1 ho p hp ?_, fun x hx => ⟨(h.2 x hx).1, fun p hp hd => (h.2 x hx).2 p hp ?_⟩⟩
  all_goals
    simp only [List.mem_append, List.map_cons, List.map_nil, List.mem_singleton, List.mem_cons, List.not_mem_nil, or_false] at hd ⊢
    exact hd.symm
set_option maxRecDepth 100000 in
set_option maxHeartbeats 4000000 in
theorem rwon_any {w0 w : World} {g n : Nat} {v : Value} {S : List (Bal × Nat)} {R : List Value} {L : List Thing} (h : Sep w0 (RTalC g n v :: RRows v S R :: WhosT (setsS n S) R :: L) w) (hn : n ≤ 15) (hS : (S.map (·.1)).Nodup) (hl : S.length ≤ 1000) (hF : ∀ p ∈ S, Fit n p.2) :
    Calls Try.prog 15 #[.pointer (some ⟨g, 0, none⟩)] w fun e w' => ∃ o, e = .returned (.tuple #[balV (o.getD balZ), .bool o.isSome]) ∧ WonOk (enough n) S o ∧ Sep w0 (RTalC g n v :: RRows v S R :: WhosT (setsS n S) R :: L) w' := by
  obtain ⟨br, hbr⟩ : ∃ k, k = w.heap.size := ⟨_, rfl⟩
  obtain ⟨wa, hwa⟩ : ∃ k, k = (w.alloc (.cells #[.int .i64 0, .int .i64 0, .int .i64 0, .int .i64 0, .int .i64 0] 34)).alloc (.cells #[.int .i64 0, .int .i64 0, .int .i64 0, .int .i64 0, .int .i64 0] 34) := ⟨_, rfl⟩
  have h00 : Sep w0 (Cl w.heap.size (cellsB balZ) 34 :: RTalC g n v :: RRows v S R :: WhosT (setsS n S) R :: L) (w.alloc (.cells #[.int .i64 0, .int .i64 0, .int .i64 0, .int .i64 0, .int .i64 0] 34)) := h.alloc (.cells (cellsB balZ) 34)
  have h1 := h00.to4.alloc (.cells (cellsB balZ) 34)
  rw [show (w.alloc (.cells #[.int .i64 0, .int .i64 0, .int .i64 0, .int .i64 0, .int .i64 0] 34)).heap.size = w.heap.size + 1 by simp, show (w.alloc (.cells #[.int .i64 0, .int .i64 0, .int .i64 0, .int .i64 0, .int .i64 0] 34)).alloc (.cells (cellsB balZ) 34) = wa from hwa.symm, ← hbr] at h1
  clear h00
  have hE : ∀ wx : World, Calls Try.prog 11 #[.int .i64 n] wx fun e w' => e = .returned (.int .i64 (enough n)) ∧ w' = wx := fun wx => (renough_any n wx (by unfold I64; omega)).mono fun _ _ h => ⟨h.1, h.2.symm⟩
  obtain ⟨av, cv, rfl, -, -, -, -⟩ := h1.sw3.rnForm
  have hR : R.length = S.length := by have := h1.sw4.whos.1; simpa using this
  have HE := Lib.hid hE
  have H1 := Lib.hid h1
  have HX := Lib.hid (show R.length = S.length ∧ (S.map (·.1)).Nodup ∧ (∀ p ∈ S, Fit n p.2) from ⟨hR, hS, hF⟩)
  clear h h1 hE hS hF hR
  generalize enough n = E at *
  go_enter Try.func15, Try.ntmps15
  go_wp2_with fail
  rw [← hwa, ← hbr]
  clear hwa hbr
  generalize hbb : br + 1 = bb at *
  clear hbb
  go_loopw [5, 6] (fun s i wr => ∃ (k : Nat) (o : Option Bal), k ≤ S.length ∧ i = .int .i64 k ∧ s = .bool o.isSome ∧ BestOk E S ((S.take k).map (·.1)) o ∧ Sep w0 (Cl bb (cellsB (o.getD balZ)) 34 :: RTalC g n (.slice av S.length cv) :: RRows (.slice av S.length cv) S R :: WhosT (setsS n S) R :: Cl br (cellsB balZ) 34 :: L) wr) (fun _ i _ => S.length - (intOf i).toNat)
  case atStart => exact ⟨0, none, by omega, rfl, rfl, ⟨(fun _ p _ hp => by simp at hp), (fun x hx => by cases hx)⟩, H1.out⟩
  case round =>
    obtain ⟨k, o, hk, rfl, rfl, hbest, hs⟩ := hrel
    clear H1
    have k0 : (0 : Int) ≤ (k : Int) := by omega
    have k1 : (k : Int) ≤ 1000 := by omega
    have z1 := hs.sw2.cell (o := 1) (x := .slice av S.length cv) rfl
    by_cases hkn : k < S.length
    · have hd : decide (k < S.length) = true := decide_eq_true hkn
      have k2 : (k : Int) < (S.length : Int) := by omega
      obtain ⟨b, c, hv, r1, r2, c0, c1, c2, c3, c4, c5⟩ := hs.sw3.rrowAt HX.out.1 k hkn
      simp only [Value.slice.injEq] at hv
      obtain ⟨rfl, -, rfl⟩ := hv
      obtain ⟨b2, cc, e1, e2, e3, e4, e5⟩ := hs.sw4.whos.2 k (by rw [HX.out.1]; exact hkn) (by simpa using hkn)
      simp only [setsS, List.getElem_map] at e1
      rw [e1] at c5
      have hmem : S[k] ∈ S := List.getElem_mem hkn
      have hpop := whoOf_pop (HX.out.2.2 _ hmem) hn
      have hp15 := whoOf_len S[k].2 n
      have HB0 := Lib.hid (show (BestOk E S ((S.take k).map (·.1)) o) ∧ S[k] ∈ S ∧ (whoOf S[k].2 n).length = popc S[k].2 from ⟨hbest, hmem, hpop⟩)
      have HT : Hid (∀ o', BestOk E S (S[k].1 :: (S.take k).map (·.1)) o' → BestOk E S ((S.take (k + 1)).map (·.1)) o') := Lib.hid fun o' h => take_keys hkn h
      obtain ⟨bq, hbq⟩ : ∃ z, z = wr.heap.size := ⟨_, rfl⟩
      have h3 := hs.alloc (.cells (oneCells S[k].1 (.slice (some ⟨b2, 0, none⟩) (whoOf S[k].2 n).length cc)) 69)
      rw [← hbq] at h3
      obtain ⟨wq, hwq⟩ : ∃ z, z = wr.alloc (.cells (oneCells S[k].1 (.slice (some ⟨b2, 0, none⟩) (whoOf S[k].2 n).length cc)) 69) := ⟨_, rfl⟩
      rw [← hwq] at h3
      have H3 := Lib.hid h3
      clear hs hbest hmem hpop e1 e2 e3 e4 e5 h3
      generalize S[k] = p at *
      clear hkn
      generalize (whoOf p.2 n).length = q at *
      unfold oneCells at hwq
      go_wp2_with fail
      rw [show wr.alloc (.cells #[.int .i64 p.1.1.1, .int .i64 p.1.1.2.1, .int .i64 p.1.1.2.2.1, .int .i64 p.1.1.2.2.2.1, .int .i64 p.1.1.2.2.2.2, .slice (some ⟨b2, 0, none⟩) q cc] 69) = wq from hwq.symm, ← hbq]
      clear hwq hbq c0 c1 c2 c3 c4 c5 z1
      have hS0 := rwon_cells H3.out
      have hqq := HB0.out.2.2
      have hq15 : q ≤ 15 := by omega
      by_cases hEq : E ≤ (q : Int)
      · have hdE : decide (E ≤ (q : Int)) = true := decide_eq_true hEq
        rw [hqq] at hEq
        cases o with
        | none =>
          have HB : Hid (BestOk E S ((S.take (k + 1)).map (·.1)) (some p.1)) := Lib.hid (HT.out _ (best_take HX.out.2.1 HB0.out.1 HB0.out.2.1 hEq (fun x hx => by cases hx)))
          have hn0 : (none : Option Bal).isSome = false := rfl
          rw [hn0]
          obtain ⟨y0, y1, y2, y3, y4, y5, y6, y7, y8, y9, ya, yb⟩ := hS0
          clear hEq hqq
          go_big_quiet ((go_at_call 11; exact Calls.quiet_of_same (HE.out _)))
          clear y0 y1 y2 y3 y4 y5 y6 y7 y8 y9 ya yb
          have h9 := H3.out.drewN nq
          obtain ⟨⟨y0, y1, y2, y3, y4, _⟩, -⟩ := one_facts h9
          have z0 := h9.sw2.frozen 0
          have z1 := h9.sw2.frozen 1
          have z2 := h9.sw2.frozen 2
          have z3 := h9.sw2.frozen 3
          have z4 := h9.sw2.frozen 4
          obtain ⟨z5, z6, z7, z8, z9⟩ := bal_cells h9.sw2
          have H10 := Lib.hid ((bal_store (x := p.1) h9.sw2).sw2.drop)
          clear h9
          go_wp2_with fail
          go_roundw
          case rel => exact ⟨k + 1, some p.1, of_decide_eq_true hd, by go_num, rfl, HB.out, H10.out⟩
          case measure => have hkn := of_decide_eq_true hd; simp [intOf]; omega
        | some x =>
          have hn0 : (some x : Option Bal).isSome = true := rfl
          rw [hn0]
          rw [show (some x : Option Bal).getD balZ = x from rfl] at hS0 H3
          obtain ⟨y0, y1, y2, y3, y4, y5, y6, y7, y8, y9, ya, yb⟩ := hS0
          by_cases hc : cmpB p.1 x < 0
          · have HB : Hid (BestOk E S ((S.take (k + 1)).map (·.1)) (some p.1)) := Lib.hid (HT.out _ (best_take HX.out.2.1 HB0.out.1 HB0.out.2.1 hEq (fun y hy => by cases hy; exact hc)))
            have hdc : decide (cmpB p.1 x < 0) = true := decide_eq_true hc
            clear hEq hqq hc
            go_region_held3 (fun w' => w'.cell? ⟨g, 0, none⟩ = some (.int .i64 n) ∧ w'.cell? ⟨bq, 0, none⟩ = some (.int .i64 p.1.1.1) ∧ w'.cell? ⟨bq, 1, none⟩ = some (.int .i64 p.1.1.2.1) ∧ w'.cell? ⟨bq, 2, none⟩ = some (.int .i64 p.1.1.2.2.1) ∧ w'.cell? ⟨bq, 3, none⟩ = some (.int .i64 p.1.1.2.2.2.1) ∧ w'.cell? ⟨bq, 4, none⟩ = some (.int .i64 p.1.1.2.2.2.2) ∧ w'.cell? ⟨bq, 5, none⟩ = some (.slice (some ⟨b2, 0, none⟩) q cc) ∧ w'.cell? ⟨bb, 0, none⟩ = some (.int .i64 (x).1.1) ∧ w'.cell? ⟨bb, 1, none⟩ = some (.int .i64 (x).1.2.1) ∧ w'.cell? ⟨bb, 2, none⟩ = some (.int .i64 (x).1.2.2.1) ∧ w'.cell? ⟨bb, 3, none⟩ = some (.int .i64 (x).1.2.2.2.1) ∧ w'.cell? ⟨bb, 4, none⟩ = some (.int .i64 (x).1.2.2.2.2)) (first | go_keep | with_reducible exact rwon_cells H9.out) (first | (go_at_call 11; refine Calls.mono (HE.out _) ?_; rintro r9 w9 ⟨rfl, rfl⟩) | (go_at_call 34; refine Calls.mono (less_any p.1 x H3.out.drew) ?_; rintro r9 w9 ⟨rfl, h9⟩; have S9 := rwon_cells h9; obtain ⟨y0, y1, y2, y3, y4, y5, y6, y7, y8, y9, ya, yb⟩ := S9; have H9 := Lib.hid h9; clear h9))
            clear y0 y1 y2 y3 y4 y5 y6 y7 y8 y9 ya yb
            have h9 := H9.out
            obtain ⟨⟨y0, y1, y2, y3, y4, _⟩, -⟩ := one_facts h9
            have z0 := h9.sw2.frozen 0
            have z1 := h9.sw2.frozen 1
            have z2 := h9.sw2.frozen 2
            have z3 := h9.sw2.frozen 3
            have z4 := h9.sw2.frozen 4
            obtain ⟨z5, z6, z7, z8, z9⟩ := bal_cells h9.sw2
            have H10 := Lib.hid ((bal_store (x := p.1) h9.sw2).sw2.drop)
            clear h9
            go_wp2_with fail
            go_roundw
            case rel => exact ⟨k + 1, some p.1, of_decide_eq_true hd, by go_num, rfl, HB.out, H10.out⟩
            case measure => have hkn := of_decide_eq_true hd; simp [intOf]; omega
          · have HB : Hid (BestOk E S ((S.take (k + 1)).map (·.1)) (some x)) := Lib.hid (HT.out _ (best_stay HX.out.2.1 HB0.out.1 HB0.out.2.1 hc))
            have hdc : decide (cmpB p.1 x < 0) = false := decide_eq_false hc
            clear hEq hqq hc
            go_region_held3 (fun w' => w'.cell? ⟨g, 0, none⟩ = some (.int .i64 n) ∧ w'.cell? ⟨bq, 0, none⟩ = some (.int .i64 p.1.1.1) ∧ w'.cell? ⟨bq, 1, none⟩ = some (.int .i64 p.1.1.2.1) ∧ w'.cell? ⟨bq, 2, none⟩ = some (.int .i64 p.1.1.2.2.1) ∧ w'.cell? ⟨bq, 3, none⟩ = some (.int .i64 p.1.1.2.2.2.1) ∧ w'.cell? ⟨bq, 4, none⟩ = some (.int .i64 p.1.1.2.2.2.2) ∧ w'.cell? ⟨bq, 5, none⟩ = some (.slice (some ⟨b2, 0, none⟩) q cc) ∧ w'.cell? ⟨bb, 0, none⟩ = some (.int .i64 (x).1.1) ∧ w'.cell? ⟨bb, 1, none⟩ = some (.int .i64 (x).1.2.1) ∧ w'.cell? ⟨bb, 2, none⟩ = some (.int .i64 (x).1.2.2.1) ∧ w'.cell? ⟨bb, 3, none⟩ = some (.int .i64 (x).1.2.2.2.1) ∧ w'.cell? ⟨bb, 4, none⟩ = some (.int .i64 (x).1.2.2.2.2)) (first | go_keep | with_reducible exact rwon_cells H9.out) (first | (go_at_call 11; refine Calls.mono (HE.out _) ?_; rintro r9 w9 ⟨rfl, rfl⟩) | (go_at_call 34; refine Calls.mono (less_any p.1 x H3.out.drew) ?_; rintro r9 w9 ⟨rfl, h9⟩; have S9 := rwon_cells h9; obtain ⟨y0, y1, y2, y3, y4, y5, y6, y7, y8, y9, ya, yb⟩ := S9; have H9 := Lib.hid h9; clear h9))
            clear y0 y1 y2 y3 y4 y5 y6 y7 y8 y9 ya yb
            have H10 := Lib.hid H9.out.drop
            clear H9
            go_wp2_with fail
            go_roundw
            case rel => exact ⟨k + 1, some x, of_decide_eq_true hd, by go_num, rfl, HB.out, H10.out⟩
            case measure => have hkn := of_decide_eq_true hd; simp [intOf]; omega
      · have hdE : decide (E ≤ (q : Int)) = false := decide_eq_false hEq
        rw [hqq] at hEq
        have HB : Hid (BestOk E S ((S.take (k + 1)).map (·.1)) o) := Lib.hid (HT.out _ (best_skip HX.out.2.1 HB0.out.1 HB0.out.2.1 hEq))
        obtain ⟨y0, y1, y2, y3, y4, y5, y6, y7, y8, y9, ya, yb⟩ := hS0
        clear hEq hqq
        go_big_quiet ((go_at_call 11; exact Calls.quiet_of_same (HE.out _)))
        clear y0 y1 y2 y3 y4 y5 y6 y7 y8 y9 ya yb
        have H10 := Lib.hid (H3.out.drewN nq).drop
        go_wp2_with fail
        go_roundw
        case rel => exact ⟨k + 1, o, of_decide_eq_true hd, by go_num, rfl, HB.out, H10.out⟩
        case measure => have hkn := of_decide_eq_true hd; simp [intOf]; omega
    · have hd : decide (k < S.length) = false := decide_eq_false hkn
      have hkl : k = S.length := by omega
      have HB : Hid (WonOk E S o) := Lib.hid (best_all hbest (fun p hp => by rw [hkl, List.take_length]; exact List.mem_map_of_mem hp))
      obtain ⟨c0, c1, c2, c3, c4⟩ := bal_cells hs
      have f0 := hs.sw5.frozen 0
      have f1 := hs.sw5.frozen 1
      have f2 := hs.sw5.frozen 2
      have f3 := hs.sw5.frozen 3
      have f4 := hs.sw5.frozen 4
      have hz : Sep w0 (Cl br (cellsB (o.getD balZ)) 34 :: _) _ := bal_store (x := o.getD balZ) hs.sw5
      obtain ⟨d0, d1, d2, d3, d4⟩ := bal_cells hs.sw5
      obtain ⟨k0, k1, k2, k3, k4⟩ := bal_cells hz
      have HZ := Lib.hid hz.drop.drop
      clear hs hbest hkl hkn hz
      go_wp2_with fail
      exact bodyPost_ret (v := .tuple #[balV (o.getD balZ), .bool o.isSome]) (by simp [results, Try.results15, go_sem, balV, k0, k1, k2, k3, k4]) rfl ⟨o, rfl, HB.out, HZ.out⟩
end Go.Proofs.Ytidbniigfkocpaa
