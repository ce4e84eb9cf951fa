/- A pipe's From, Cut, Trim. -/
import Derived.Test.YtpknfeokfladkaaDoorPipe2
namespace Go.Proofs.YtpknfeokfladkaaDoor
open Go.RowKit
set_option linter.unusedVariables false
set_option linter.unusedSimpArgs false
theorem ckB_ok {b op : Int} {n : Nat} (h0 : b ≤ op) (h1 : op ≤ b + n) : ckB b op n = 0 := if_pos ⟨h0, h1⟩
theorem ckB_bad {b op : Int} {n : Nat} (h : op < b ∨ b + n < op) : ckB b op n = 9 := if_neg (by omega)
set_option maxRecDepth 100000 in
set_option maxHeartbeats 16000000 in
theorem from_n {w : World} {v : Value} (op : Int) (h : NP w v) : Calls Tryd.prog 26 #[v, .int .i64 op] w fun e w' => e = .returned (.tuple #[.slice none 0 0, .int .i64 1]) ∧ w = w' := by
  have HN := Lib.hid (check_n h op)
  clear h
  go_enter Tryd.func26, Tryd.ntmps26
  go_wp2_with fail
  refine HN.out.mono ?_
  rintro r0 w1 ⟨rfl, rfl⟩
  clear HN
  go_wp2_with fail
  go_ret2
  exact ⟨rfl, rfl⟩
set_option maxRecDepth 100000 in
set_option maxHeartbeats 16000000 in
theorem cut_n {w : World} {v : Value} (op : Int) (h : NP w v) : Calls Tryd.prog 24 #[v, .int .i64 op] w fun e w' => e = .returned (.int .i64 1) ∧ w = w' := by
  have HN := Lib.hid (check_n h op)
  clear h
  go_enter Tryd.func24, Tryd.ntmps24
  go_wp2_with fail
  refine HN.out.mono ?_
  rintro r0 w1 ⟨rfl, rfl⟩
  clear HN
  go_wp2_with fail
  go_ret
  exact ⟨rfl, rfl⟩
set_option maxRecDepth 100000 in
set_option maxHeartbeats 16000000 in
theorem trim_n {w : World} {v : Value} (op : Int) (h : NP w v) : Calls Tryd.prog 25 #[v, .int .i64 op] w fun e w' => e = .returned (.int .i64 1) ∧ w = w' := by
  have HN := Lib.hid (check_n h op)
  clear h
  go_enter Tryd.func25, Tryd.ntmps25
  go_wp2_with fail
  refine HN.out.mono ?_
  rintro r0 w1 ⟨rfl, rfl⟩
  clear HN
  go_wp2_with fail
  go_ret
  exact ⟨rfl, rfl⟩
set_option maxRecDepth 100000 in
set_option maxHeartbeats 16000000 in
theorem from_bad {w0 w : World} {g : Nat} {b : Int} {ps : List (EnM × Value)} {L : List Thing} (op : Int) (hop : op < b ∨ b + ps.length < op) (h : Sep w0 (PipeT g b ps :: L) w) (h0 : 0 ≤ b) (h1 : b ≤ 4611686018427380000) (hl : ps.length ≤ 1000000) :
    Calls Tryd.prog 26 #[.pointer (some ⟨g, 0, none⟩), .int .i64 op] w fun e w' => e = .returned (.tuple #[.slice none 0 0, .int .i64 9]) ∧ Sep w0 (PipeT g b ps :: L) w' := by
  obtain ⟨pv, h2⟩ := h.pipeOpen
  obtain ⟨pa, pc, rfl, hpc, -⟩ := h2.sw2.peForm
  have hc := check_c op h2.pc h0 (by omega) hl
  rw [ckB_bad hop] at hc
  have HC := Lib.hid hc
  have H := Lib.hid h
  clear h h2 hc h0 h1 hl hpc hop
  go_enter Tryd.func26, Tryd.ntmps26
  go_wp2_with fail
  refine HC.out.mono ?_
  rintro r0 w1 ⟨rfl, kk, rfl⟩
  clear HC
  go_wp2_with fail
  go_ret2
  exact ⟨rfl, H.out.drewN _⟩
set_option maxRecDepth 100000 in
set_option maxHeartbeats 16000000 in
theorem cut_bad {w0 w : World} {g : Nat} {b : Int} {ps : List (EnM × Value)} {L : List Thing} (op : Int) (hop : op < b ∨ b + ps.length < op) (h : Sep w0 (PipeT g b ps :: L) w) (h0 : 0 ≤ b) (h1 : b ≤ 4611686018427380000) (hl : ps.length ≤ 1000000) :
    Calls Tryd.prog 24 #[.pointer (some ⟨g, 0, none⟩), .int .i64 op] w fun e w' => e = .returned (.int .i64 9) ∧ Sep w0 (PipeT g b ps :: L) w' := by
  obtain ⟨pv, h2⟩ := h.pipeOpen
  obtain ⟨pa, pc, rfl, hpc, -⟩ := h2.sw2.peForm
  have hc := check_c op h2.pc h0 (by omega) hl
  rw [ckB_bad hop] at hc
  have HC := Lib.hid hc
  have H := Lib.hid h
  clear h h2 hc h0 h1 hl hpc hop
  go_enter Tryd.func24, Tryd.ntmps24
  go_wp2_with fail
  refine HC.out.mono ?_
  rintro r0 w1 ⟨rfl, kk, rfl⟩
  clear HC
  go_wp2_with fail
  go_ret
  exact ⟨rfl, H.out.drewN _⟩
set_option maxRecDepth 100000 in
set_option maxHeartbeats 16000000 in
theorem trim_bad {w0 w : World} {g : Nat} {b : Int} {ps : List (EnM × Value)} {L : List Thing} (op : Int) (hop : op < b ∨ b + ps.length < op) (h : Sep w0 (PipeT g b ps :: L) w) (h0 : 0 ≤ b) (h1 : b ≤ 4611686018427380000) (hl : ps.length ≤ 1000000) :
    Calls Tryd.prog 25 #[.pointer (some ⟨g, 0, none⟩), .int .i64 op] w fun e w' => e = .returned (.int .i64 9) ∧ Sep w0 (PipeT g b ps :: L) w' := by
  obtain ⟨pv, h2⟩ := h.pipeOpen
  obtain ⟨pa, pc, rfl, hpc, -⟩ := h2.sw2.peForm
  have hc := check_c op h2.pc h0 (by omega) hl
  rw [ckB_bad hop] at hc
  have HC := Lib.hid hc
  have H := Lib.hid h
  clear h h2 hc h0 h1 hl hpc hop
  go_enter Tryd.func25, Tryd.ntmps25
  go_wp2_with fail
  refine HC.out.mono ?_
  rintro r0 w1 ⟨rfl, kk, rfl⟩
  clear HC
  go_wp2_with fail
  go_ret
  exact ⟨rfl, H.out.drewN _⟩
set_option maxRecDepth 100000 in
set_option maxHeartbeats 16000000 in
theorem from_ok {w0 w : World} {g : Nat} {b : Int} {ps : List (EnM × Value)} {L : List Thing} (op : Int) (i : Nat) (hi : i ≤ ps.length) (hop : op = b + i) (hls : ∀ q ∈ ps, q.1.p.ls.length ≤ 1000) (h : Sep w0 (PipeT g b ps :: L) w) (h0 : 0 ≤ b) (h1 : b ≤ 4611686018427380000) (hl : ps.length ≤ 1000000) :
    Calls Tryd.prog 26 #[.pointer (some ⟨g, 0, none⟩), .int .i64 op] w fun e w' => ∃ u, e = .returned (.tuple #[u, .int .i64 0]) ∧ ∃ qs : List (EnM × Value), qs.map (·.1) = (ps.drop i).map (·.1) ∧ Sep w0 (EnT u qs :: PipeT g b ps :: L) w' := by
  obtain ⟨pv, h2⟩ := h.pipeOpen
  obtain ⟨pa, pc, rfl, hpc, -⟩ := h2.sw2.peForm
  have hc := check_c op h2.pc h0 (by omega) hl
  rw [ckB_ok (by omega) (by omega)] at hc
  have HC := Lib.hid hc
  have HT : Hid (∀ k, _) := Lib.hid (fun k => top_c (h2.drewN k).pc h0 (by omega) hl)
  have HP : Hid (∀ k, _) := Lib.hid (fun k => part_c i ps.length op (b + ps.length) (h2.drewN k).pc h0 (by omega) hl hi (Nat.le_refl _) hpc hop rfl)
  have hes := (h2.sw2.pePart i ps.length hi (Nat.le_refl _)).peS
  have hsub : (ps.drop i).take (ps.length - i) = ps.drop i := List.take_of_length_le (by simp)
  rw [hsub] at hes
  unfold partV at HP
  obtain ⟨a', ha'⟩ : ∃ z, z = (if ps.length = i then pa else pa.map (·.add (i * 7))) := ⟨_, rfl⟩
  rw [← ha'] at hes HP
  clear ha'
  have HLC : Hid (∀ k, _) := Lib.hid (fun k => lcopy_any a' (ps.length - i) (ps.length - i) (ps.drop i) (h.drewN k) (hes.below (⟨rfl, rfl, rfl, Nat.le_refl _, fun _ _ => rfl⟩)) (by simp) (by omega) (fun x hx => hls x (List.mem_of_mem_drop hx)))
  have H := Lib.hid h
  clear h h2 hc h0 h1 hl hpc hop hi hes hsub hls
  generalize b + (ps.length : Int) = t at *
  generalize ps.length - i = m at *
  go_enter Tryd.func26, Tryd.ntmps26
  go_wp2_with fail
  refine HC.out.mono ?_
  rintro r0 w1 ⟨rfl, k1, rfl⟩
  clear HC
  go_wp2_with fail
  refine (HT.out k1).mono ?_
  rintro r0 w1 ⟨rfl, k2, rfl⟩
  clear HT
  rw [World.drewN_drewN]
  go_wp2_with fail
  refine (HP.out _).mono ?_
  rintro r0 w1 ⟨rfl, k3, rfl⟩
  clear HP
  rw [World.drewN_drewN]
  go_wp2_with fail
  refine (HLC.out _).mono ?_
  rintro r0 w5 ⟨u, qs, rfl, hq, h5⟩
  have HQ := Lib.hid (And.intro hq h5)
  obtain ⟨au, cu, rfl, -⟩ := h5.enForm
  clear HLC hq h5
  go_wp2_with fail
  go_ret2
  exact ⟨_, rfl, qs, HQ.out.1, HQ.out.2⟩
set_option maxRecDepth 100000 in
set_option maxHeartbeats 16000000 in
theorem cut_ok {w0 w : World} {g : Nat} {b : Int} {ps : List (EnM × Value)} {L : List Thing} (op : Int) (j : Nat) (hj : j ≤ ps.length) (hop : op = b + j) (h : Sep w0 (PipeT g b ps :: L) w) (h0 : 0 ≤ b) (h1 : b ≤ 4611686018427380000) (hl : ps.length ≤ 1000000) :
    Calls Tryd.prog 24 #[.pointer (some ⟨g, 0, none⟩), .int .i64 op] w fun e w' => e = .returned (.int .i64 0) ∧ Sep w0 (PipeT g b (ps.take j) :: L) w' := by
  obtain ⟨pv, h2⟩ := h.pipeOpen
  obtain ⟨pa, pc, rfl, hpc, -⟩ := h2.sw2.peForm
  have hc := check_c op h2.pc h0 (by omega) hl
  rw [ckB_ok (by omega) (by omega)] at hc
  have HC := Lib.hid hc
  obtain ⟨a', ha'⟩ : ∃ z, z = (if j = 0 then pa else pa.map (·.add (0 * 7))) := ⟨_, rfl⟩
  have hp := fun k => part_c 0 j b op (h2.drewN k).pc h0 (by omega) hl (Nat.zero_le _) hj hpc (by simp) hop
  have hq := h2.sw2.pePart 0 j (Nat.zero_le _) hj
  unfold partV at hp
  rw [← ha'] at hp hq
  clear ha'
  simp only [Nat.sub_zero, List.drop_zero] at hp hq
  have HP := Lib.hid hp
  have HQ := Lib.hid hq.sw2
  clear h hc h0 h1 hl hpc hop hp hq h2 hj
  go_enter Tryd.func24, Tryd.ntmps24
  go_wp2_with fail
  refine HC.out.mono ?_
  rintro r0 w1 ⟨rfl, k1, rfl⟩
  clear HC
  obtain ⟨c0, c1, c2⟩ := cells3 (HQ.out.drewN k1)
  go_wp2_with fail
  refine (HP.out _).mono ?_
  rintro r0 w1 ⟨rfl, k2, rfl⟩
  clear HP c0 c1 c2
  rw [World.drewN_drewN]
  have h7 := HQ.out.drewN (k1 + k2)
  obtain ⟨c0, c1, c2⟩ := cells3 h7
  obtain ⟨f0, f1, f2, -⟩ := frz7 h7
  have H8 := Lib.hid (Sep.pipeClose (h7.set7 (o := 2) (u := .slice a' j j) rfl))
  clear h7
  go_wp2_with fail
  go_ret
  exact ⟨rfl, H8.out⟩
set_option maxRecDepth 100000 in
set_option maxHeartbeats 16000000 in
theorem trim_ok {w0 w : World} {g : Nat} {b : Int} {ps : List (EnM × Value)} {L : List Thing} (op : Int) (i : Nat) (hi : i ≤ ps.length) (hop : op = b + i) (h : Sep w0 (PipeT g b ps :: L) w) (h0 : 0 ≤ b) (h1 : b ≤ 4611686018427380000) (hl : ps.length ≤ 1000000) :
    Calls Tryd.prog 25 #[.pointer (some ⟨g, 0, none⟩), .int .i64 op] w fun e w' => e = .returned (.int .i64 0) ∧ Sep w0 (PipeT g op (ps.drop i) :: L) w' := by
  obtain ⟨pv, h2⟩ := h.pipeOpen
  obtain ⟨pa, pc, rfl, hpc, -⟩ := h2.sw2.peForm
  have hc := check_c op h2.pc h0 (by omega) hl
  rw [ckB_ok (by omega) (by omega)] at hc
  have HC := Lib.hid hc
  obtain ⟨a', ha'⟩ : ∃ z, z = (if ps.length = i then pa else pa.map (·.add (i * 7))) := ⟨_, rfl⟩
  have ht := fun k => top_c (h2.drewN k).pc h0 (by omega) hl
  have hp := fun k => part_c i ps.length op (b + ps.length) (h2.drewN k).pc h0 (by omega) hl hi (Nat.le_refl _) hpc hop rfl
  have hq := h2.sw2.pePart i ps.length hi (Nat.le_refl _)
  have hsub : (ps.drop i).take (ps.length - i) = ps.drop i := List.take_of_length_le (by simp)
  rw [hsub] at hq
  unfold partV at hp
  rw [← ha'] at hp hq
  clear ha' hsub
  have HP := Lib.hid hp
  have HT := Lib.hid ht
  have HQ := Lib.hid hq.sw2
  clear h hc h0 h1 hl hpc hop hp hq h2 hi ht
  generalize b + (ps.length : Int) = t at *
  go_enter Tryd.func25, Tryd.ntmps25
  go_wp2_with fail
  refine HC.out.mono ?_
  rintro r0 w1 ⟨rfl, k1, rfl⟩
  clear HC
  go_wp2_with fail
  refine (HT.out _).mono ?_
  rintro r0 w1 ⟨rfl, k2, rfl⟩
  clear HT
  rw [World.drewN_drewN]
  go_wp2_with fail
  refine (HP.out _).mono ?_
  rintro r0 w1 ⟨rfl, k3, rfl⟩
  clear HP
  rw [World.drewN_drewN]
  have h7 := HQ.out.drewN (k1 + k2 + k3)
  obtain ⟨c0, c1, c2⟩ := cells3 h7
  obtain ⟨f0, f1, f2, -⟩ := frz7 h7
  have h8 := h7.set7 (o := 2) (u := .slice a' (ps.length - i) (ps.length - i)) rfl
  obtain ⟨d0, d1, d2⟩ := cells3 h8
  obtain ⟨e0, e1, e2, -⟩ := frz7 h8
  have H9 := Lib.hid (Sep.pipeClose (h8.set7 (o := 1) (u := .int .i64 op) rfl))
  clear h7 h8
  go_wp2_with fail
  go_ret
  exact ⟨rfl, H9.out⟩
end Go.Proofs.YtpknfeokfladkaaDoor
