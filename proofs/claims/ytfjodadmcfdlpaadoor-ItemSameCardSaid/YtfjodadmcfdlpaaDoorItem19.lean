/- The statement's own: made: kinds 6 7 8 9. -/
import Derived.Test.YtfjodadmcfdlpaaDoorItem15
namespace Go.Proofs.YtfjodadmcfdlpaaDoor
open Go.RowKit
set_option linter.unusedVariables false
set_option linter.unusedSimpArgs false
set_option maxRecDepth 100000 in
set_option maxHeartbeats 16000000 in
theorem made_6 {w0 w : World} {L : List Thing} (k : Int) (s : KS) (o n : Int) (v : Value) (ls : List Ln) (h : Sep w0 L w) (hv : LnS w v ls) (hk : k % 9 = 5) :
    Calls Tryd.prog 30 #[.agg #[.int .i64 k, .string s.1, .int .i64 o, .int .i64 n, v]] w (MadeP w0 L) := by
  obtain ⟨a, c, rfl⟩ := hv.len
  have HB1 := Lib.hid (fun wx => bring_any k 9 wx (by unfold Sm; omega))
  rw [hk] at HB1
  obtain ⟨wa, hwa⟩ : ∃ z, z = ((w.alloc (.cells (opCells k s o n (.slice a ls.length c)) 24)).alloc (.cells opZ 24)).alloc (.cells #[.int .i64 6, .string ⟨#[]⟩, .int .i64 0, .int .i64 0, .slice none 0 0] 24) := ⟨_, rfl⟩
  have h1 := ((h.alloc (.cells (opCells k s o n (.slice a ls.length c)) 24)).alloc (.cells opZ 24)).alloc (.cells #[.int .i64 6, .string ⟨#[]⟩, .int .i64 0, .int .i64 0, .slice none 0 0] 24)
  rw [← hwa] at h1
  have z1 : (w.alloc (.cells (opCells k s o n (.slice a ls.length c)) 24)).heap.size = w.heap.size + 1 := by simp
  have z2 : ((w.alloc (.cells (opCells k s o n (.slice a ls.length c)) 24)).alloc (.cells opZ 24)).heap.size = w.heap.size + 1 + 1 := by simp
  rw [z1, z2] at h1
  clear z1 z2
  have HO := Lib.hid (fun wx => (bring_any o 2147483647 wx (by unfold Sm; omega)).mono fun _ _ hh => (⟨hh.1, hh.2.symm⟩ : _ ∧ _))
  have HN := Lib.hid (fun wx => (bring_any n 2147483647 wx (by unfold Sm; omega)).mono fun _ _ hh => (⟨hh.1, hh.2.symm⟩ : _ ∧ _))
  have ho : 0 ≤ o % 2147483647 ∧ o % 2147483647 ≤ 2147483646 := by omega
  have hn : 0 ≤ n % 2147483647 ∧ n % 2147483647 ≤ 2147483646 := by omega
  generalize o % 2147483647 = qo at *
  generalize n % 2147483647 = qn at *
  have HQ := Lib.hid (And.intro ho hn)
  have wo := I64q ho
  have wn := I64q hn
  obtain ⟨o0, o1⟩ := ho
  obtain ⟨n0, n1⟩ := hn
  unfold opCells opZ at hwa h1
  clear h hv hk
  go_enter Tryd.func30, Tryd.ntmps30
  go_wp2_with fail
  refine (HB1.out _).mono ?_
  rintro r0 w1 ⟨rfl, rfl⟩
  go_wp2_with fail
  rw [← hwa]
  clear hwa HB1
  generalize w.heap.size = b1 at *
  obtain ⟨b2, hb2⟩ : ∃ z, z = b1 + 1 := ⟨_, rfl⟩
  rw [← hb2] at h1 ⊢
  obtain ⟨b3, hb3⟩ : ∃ z, z = b2 + 1 := ⟨_, rfl⟩
  rw [← hb3] at h1 ⊢
  clear hb2 hb3
  obtain ⟨c0, c1, c2, c3, c4⟩ := cells5 h1
  obtain ⟨d0, d1, d2, d3, d4⟩ := cells5 h1.sw3
  have H1 := Lib.hid h1
  clear h1
  go_big_quiet (first | (go_at_call_of 31 (Value.int .i64 o); exact Calls.quiet_of_same (HO.out _)) | (go_at_call_of 31 (Value.int .i64 n); exact Calls.quiet_of_same (HN.out _)))
  have h2 := H1.out.drewN nq
  generalize wa.drewN nq = wb at *
  clear H1 c0 c1 c2 c3 c4 d0 d1 d2 d3 d4 wo wn HO HN
  obtain ⟨c0, c1, c2, c3, c4⟩ := cells5 h2
  obtain ⟨f0, f1, f2, f3, f4⟩ := frz5 h2
  obtain ⟨d0, d1, d2, d3, d4⟩ := cells5 h2.sw3
  have h4 : Sep w0 (Cl b3 #[.int .i64 6, .string ⟨#[]⟩, .int .i64 (1 + qo), .int .i64 0, (.slice none 0 0)] 24 :: Cl b2 #[.int .i64 0, .string ⟨#[]⟩, .int .i64 0, .int .i64 0, (.slice none 0 0)] 24 :: Cl b1 #[.int .i64 k, .string s.1, .int .i64 o, .int .i64 n, (.slice a ls.length c)] 24 :: L) (wb.setCell ⟨b3, 2, none⟩ (.int .i64 (1 + qo))) := (h2.setCell 2 _)
  clear h2
  obtain ⟨e0, e1, e2, e3, e4⟩ := cells5 h4
  obtain ⟨g0, g1, g2, g3, g4⟩ := frz5 h4.sw2
  obtain ⟨z0, z1, z2, z3, z4⟩ := cells5 h4.sw2
  have h6 := store5 (u0 := .int .i64 6) (u1 := .string ⟨#[]⟩) (u2 := .int .i64 (1 + qo)) (u3 := .int .i64 0) (u4 := (.slice none 0 0)) h4.sw2
  obtain ⟨k0, k1, k2, k3, k4⟩ := cells5 h6
  have H6 := Lib.hid h6.drop.drop.drop
  clear h4 h6
  go_wp2_with fail
  exact bodyPost_ret (v := .agg #[.int .i64 6, .string ⟨#[]⟩, .int .i64 (1 + qo), .int .i64 0, (.slice none 0 0)]) (by simp [results, Tryd.results30, go_sem, k0, k1, k2, k3, k4]) rfl ⟨⟨6, sZ, (1 + qo), 0, []⟩, _, rfl, ok_2 (show fieldsOf 6 = 2 by decide) (qtyB_1 HQ.out.1), H6.out.rnNil 2 39⟩
set_option maxRecDepth 100000 in
set_option maxHeartbeats 16000000 in
theorem made_7 {w0 w : World} {L : List Thing} (k : Int) (s : KS) (o n : Int) (v : Value) (ls : List Ln) (h : Sep w0 L w) (hv : LnS w v ls) (hk : k % 9 = 6) :
    Calls Tryd.prog 30 #[.agg #[.int .i64 k, .string s.1, .int .i64 o, .int .i64 n, v]] w (MadeP w0 L) := by
  obtain ⟨a, c, rfl⟩ := hv.len
  have HB1 := Lib.hid (fun wx => bring_any k 9 wx (by unfold Sm; omega))
  rw [hk] at HB1
  obtain ⟨wa, hwa⟩ : ∃ z, z = ((w.alloc (.cells (opCells k s o n (.slice a ls.length c)) 24)).alloc (.cells opZ 24)).alloc (.cells #[.int .i64 7, .string ⟨#[]⟩, .int .i64 0, .int .i64 0, .slice none 0 0] 24) := ⟨_, rfl⟩
  have h1 := ((h.alloc (.cells (opCells k s o n (.slice a ls.length c)) 24)).alloc (.cells opZ 24)).alloc (.cells #[.int .i64 7, .string ⟨#[]⟩, .int .i64 0, .int .i64 0, .slice none 0 0] 24)
  rw [← hwa] at h1
  have z1 : (w.alloc (.cells (opCells k s o n (.slice a ls.length c)) 24)).heap.size = w.heap.size + 1 := by simp
  have z2 : ((w.alloc (.cells (opCells k s o n (.slice a ls.length c)) 24)).alloc (.cells opZ 24)).heap.size = w.heap.size + 1 + 1 := by simp
  rw [z1, z2] at h1
  clear z1 z2
  have HO := Lib.hid (fun wx => (bring_any o 2147483647 wx (by unfold Sm; omega)).mono fun _ _ hh => (⟨hh.1, hh.2.symm⟩ : _ ∧ _))
  have HN := Lib.hid (fun wx => (bring_any n 2147483647 wx (by unfold Sm; omega)).mono fun _ _ hh => (⟨hh.1, hh.2.symm⟩ : _ ∧ _))
  have ho : 0 ≤ o % 2147483647 ∧ o % 2147483647 ≤ 2147483646 := by omega
  have hn : 0 ≤ n % 2147483647 ∧ n % 2147483647 ≤ 2147483646 := by omega
  generalize o % 2147483647 = qo at *
  generalize n % 2147483647 = qn at *
  have HQ := Lib.hid (And.intro ho hn)
  have wo := I64q ho
  have wn := I64q hn
  obtain ⟨o0, o1⟩ := ho
  obtain ⟨n0, n1⟩ := hn
  unfold opCells opZ at hwa h1
  clear h hv hk
  go_enter Tryd.func30, Tryd.ntmps30
  go_wp2_with fail
  refine (HB1.out _).mono ?_
  rintro r0 w1 ⟨rfl, rfl⟩
  go_wp2_with fail
  rw [← hwa]
  clear hwa HB1
  generalize w.heap.size = b1 at *
  obtain ⟨b2, hb2⟩ : ∃ z, z = b1 + 1 := ⟨_, rfl⟩
  rw [← hb2] at h1 ⊢
  obtain ⟨b3, hb3⟩ : ∃ z, z = b2 + 1 := ⟨_, rfl⟩
  rw [← hb3] at h1 ⊢
  clear hb2 hb3
  obtain ⟨c0, c1, c2, c3, c4⟩ := cells5 h1
  obtain ⟨d0, d1, d2, d3, d4⟩ := cells5 h1.sw3
  have H1 := Lib.hid h1
  clear h1
  go_big_quiet (first | (go_at_call_of 31 (Value.int .i64 o); exact Calls.quiet_of_same (HO.out _)) | (go_at_call_of 31 (Value.int .i64 n); exact Calls.quiet_of_same (HN.out _)))
  have h2 := H1.out.drewN nq
  generalize wa.drewN nq = wb at *
  clear H1 c0 c1 c2 c3 c4 d0 d1 d2 d3 d4 wo wn HO HN
  obtain ⟨c0, c1, c2, c3, c4⟩ := cells5 h2
  obtain ⟨f0, f1, f2, f3, f4⟩ := frz5 h2
  obtain ⟨d0, d1, d2, d3, d4⟩ := cells5 h2.sw3
  have h4 : Sep w0 (Cl b3 #[.int .i64 7, .string ⟨#[]⟩, .int .i64 0, .int .i64 (1 + qn), (.slice none 0 0)] 24 :: Cl b2 #[.int .i64 0, .string ⟨#[]⟩, .int .i64 0, .int .i64 0, (.slice none 0 0)] 24 :: Cl b1 #[.int .i64 k, .string s.1, .int .i64 o, .int .i64 n, (.slice a ls.length c)] 24 :: L) (wb.setCell ⟨b3, 3, none⟩ (.int .i64 (1 + qn))) := (h2.setCell 3 _)
  clear h2
  obtain ⟨e0, e1, e2, e3, e4⟩ := cells5 h4
  obtain ⟨g0, g1, g2, g3, g4⟩ := frz5 h4.sw2
  obtain ⟨z0, z1, z2, z3, z4⟩ := cells5 h4.sw2
  have h6 := store5 (u0 := .int .i64 7) (u1 := .string ⟨#[]⟩) (u2 := .int .i64 0) (u3 := .int .i64 (1 + qn)) (u4 := (.slice none 0 0)) h4.sw2
  obtain ⟨k0, k1, k2, k3, k4⟩ := cells5 h6
  have H6 := Lib.hid h6.drop.drop.drop
  clear h4 h6
  go_wp2_with fail
  exact bodyPost_ret (v := .agg #[.int .i64 7, .string ⟨#[]⟩, .int .i64 0, .int .i64 (1 + qn), (.slice none 0 0)]) (by simp [results, Tryd.results30, go_sem, k0, k1, k2, k3, k4]) rfl ⟨⟨7, sZ, 0, (1 + qn), []⟩, _, rfl, ok_4 (qtyB_1 HQ.out.2), H6.out.rnNil 2 39⟩
set_option maxRecDepth 100000 in
set_option maxHeartbeats 16000000 in
theorem made_8 {w0 w : World} {L : List Thing} (k : Int) (s : KS) (o n : Int) (v : Value) (ls : List Ln) (h : Sep w0 L w) (hv : LnS w v ls) (hk : k % 9 = 7) :
    Calls Tryd.prog 30 #[.agg #[.int .i64 k, .string s.1, .int .i64 o, .int .i64 n, v]] w (MadeP w0 L) := by
  obtain ⟨a, c, rfl⟩ := hv.len
  have HB1 := Lib.hid (fun wx => bring_any k 9 wx (by unfold Sm; omega))
  rw [hk] at HB1
  obtain ⟨wa, hwa⟩ : ∃ z, z = ((w.alloc (.cells (opCells k s o n (.slice a ls.length c)) 24)).alloc (.cells opZ 24)).alloc (.cells #[.int .i64 8, .string ⟨#[]⟩, .int .i64 0, .int .i64 0, .slice none 0 0] 24) := ⟨_, rfl⟩
  have h1 := ((h.alloc (.cells (opCells k s o n (.slice a ls.length c)) 24)).alloc (.cells opZ 24)).alloc (.cells #[.int .i64 8, .string ⟨#[]⟩, .int .i64 0, .int .i64 0, .slice none 0 0] 24)
  rw [← hwa] at h1
  have z1 : (w.alloc (.cells (opCells k s o n (.slice a ls.length c)) 24)).heap.size = w.heap.size + 1 := by simp
  have z2 : ((w.alloc (.cells (opCells k s o n (.slice a ls.length c)) 24)).alloc (.cells opZ 24)).heap.size = w.heap.size + 1 + 1 := by simp
  rw [z1, z2] at h1
  clear z1 z2
  have HO := Lib.hid (fun wx => (bring_any o 2147483647 wx (by unfold Sm; omega)).mono fun _ _ hh => (⟨hh.1, hh.2.symm⟩ : _ ∧ _))
  have HN := Lib.hid (fun wx => (bring_any n 2147483647 wx (by unfold Sm; omega)).mono fun _ _ hh => (⟨hh.1, hh.2.symm⟩ : _ ∧ _))
  have ho : 0 ≤ o % 2147483647 ∧ o % 2147483647 ≤ 2147483646 := by omega
  have hn : 0 ≤ n % 2147483647 ∧ n % 2147483647 ≤ 2147483646 := by omega
  generalize o % 2147483647 = qo at *
  generalize n % 2147483647 = qn at *
  have HQ := Lib.hid (And.intro ho hn)
  have wo := I64q ho
  have wn := I64q hn
  obtain ⟨o0, o1⟩ := ho
  obtain ⟨n0, n1⟩ := hn
  unfold opCells opZ at hwa h1
  clear h hv hk
  go_enter Tryd.func30, Tryd.ntmps30
  go_wp2_with fail
  refine (HB1.out _).mono ?_
  rintro r0 w1 ⟨rfl, rfl⟩
  go_wp2_with fail
  rw [← hwa]
  clear hwa HB1
  generalize w.heap.size = b1 at *
  obtain ⟨b2, hb2⟩ : ∃ z, z = b1 + 1 := ⟨_, rfl⟩
  rw [← hb2] at h1 ⊢
  obtain ⟨b3, hb3⟩ : ∃ z, z = b2 + 1 := ⟨_, rfl⟩
  rw [← hb3] at h1 ⊢
  clear hb2 hb3
  obtain ⟨c0, c1, c2, c3, c4⟩ := cells5 h1
  obtain ⟨d0, d1, d2, d3, d4⟩ := cells5 h1.sw3
  have H1 := Lib.hid h1
  clear h1
  go_big_quiet (first | (go_at_call_of 31 (Value.int .i64 o); exact Calls.quiet_of_same (HO.out _)) | (go_at_call_of 31 (Value.int .i64 n); exact Calls.quiet_of_same (HN.out _)))
  have h2 := H1.out.drewN nq
  generalize wa.drewN nq = wb at *
  clear H1 c0 c1 c2 c3 c4 d0 d1 d2 d3 d4 wo wn HO HN
  obtain ⟨c0, c1, c2, c3, c4⟩ := cells5 h2
  obtain ⟨f0, f1, f2, f3, f4⟩ := frz5 h2
  obtain ⟨d0, d1, d2, d3, d4⟩ := cells5 h2.sw3
  have HS := Lib.hid (sku_any o h2)
  have H2 := Lib.hid h2
  clear h2
  go_wp2_with fail
  refine HS.out.mono ?_
  rintro r0 w2 ⟨t, rfl, ht, h3⟩
  have HT := Lib.hid ht
  clear ht HS H2
  clear c0 c1 c2 c3 c4 f0 f1 f2 f3 f4 d0 d1 d2 d3 d4
  obtain ⟨c0, c1, c2, c3, c4⟩ := cells5 h3
  obtain ⟨f0, f1, f2, f3, f4⟩ := frz5 h3
  obtain ⟨d0, d1, d2, d3, d4⟩ := cells5 h3.sw3
  have h4 : Sep w0 (Cl b3 #[.int .i64 8, .string t.1, .int .i64 0, .int .i64 0, (.slice none 0 0)] 24 :: Cl b2 #[.int .i64 0, .string ⟨#[]⟩, .int .i64 0, .int .i64 0, (.slice none 0 0)] 24 :: Cl b1 #[.int .i64 k, .string s.1, .int .i64 o, .int .i64 n, (.slice a ls.length c)] 24 :: L) (w2.setCell ⟨b3, 1, none⟩ (.string t.1)) := (h3.setCell 1 _)
  clear h3
  obtain ⟨e0, e1, e2, e3, e4⟩ := cells5 h4
  obtain ⟨g0, g1, g2, g3, g4⟩ := frz5 h4.sw2
  obtain ⟨z0, z1, z2, z3, z4⟩ := cells5 h4.sw2
  have h6 := store5 (u0 := .int .i64 8) (u1 := .string t.1) (u2 := .int .i64 0) (u3 := .int .i64 0) (u4 := (.slice none 0 0)) h4.sw2
  obtain ⟨k0, k1, k2, k3, k4⟩ := cells5 h6
  have H6 := Lib.hid h6.drop.drop.drop
  clear h4 h6
  go_wp2_with fail
  exact bodyPost_ret (v := .agg #[.int .i64 8, .string t.1, .int .i64 0, .int .i64 0, (.slice none 0 0)]) (by simp [results, Tryd.results30, go_sem, k0, k1, k2, k3, k4]) rfl ⟨⟨8, t, 0, 0, []⟩, _, rfl, ok_1 HT.out, H6.out.rnNil 2 39⟩
set_option maxRecDepth 100000 in
set_option maxHeartbeats 16000000 in
theorem made_9 {w0 w : World} {L : List Thing} (k : Int) (s : KS) (o n : Int) (v : Value) (ls : List Ln) (h : Sep w0 L w) (hv : LnS w v ls) (hk : k % 9 = 8) :
    Calls Tryd.prog 30 #[.agg #[.int .i64 k, .string s.1, .int .i64 o, .int .i64 n, v]] w (MadeP w0 L) := by
  obtain ⟨a, c, rfl⟩ := hv.len
  have HB1 := Lib.hid (fun wx => bring_any k 9 wx (by unfold Sm; omega))
  rw [hk] at HB1
  obtain ⟨wa, hwa⟩ : ∃ z, z = ((w.alloc (.cells (opCells k s o n (.slice a ls.length c)) 24)).alloc (.cells opZ 24)).alloc (.cells #[.int .i64 9, .string ⟨#[]⟩, .int .i64 0, .int .i64 0, .slice none 0 0] 24) := ⟨_, rfl⟩
  have h1 := ((h.alloc (.cells (opCells k s o n (.slice a ls.length c)) 24)).alloc (.cells opZ 24)).alloc (.cells #[.int .i64 9, .string ⟨#[]⟩, .int .i64 0, .int .i64 0, .slice none 0 0] 24)
  rw [← hwa] at h1
  have z1 : (w.alloc (.cells (opCells k s o n (.slice a ls.length c)) 24)).heap.size = w.heap.size + 1 := by simp
  have z2 : ((w.alloc (.cells (opCells k s o n (.slice a ls.length c)) 24)).alloc (.cells opZ 24)).heap.size = w.heap.size + 1 + 1 := by simp
  rw [z1, z2] at h1
  clear z1 z2
  have HO := Lib.hid (fun wx => (bring_any o 2147483647 wx (by unfold Sm; omega)).mono fun _ _ hh => (⟨hh.1, hh.2.symm⟩ : _ ∧ _))
  have HN := Lib.hid (fun wx => (bring_any n 2147483647 wx (by unfold Sm; omega)).mono fun _ _ hh => (⟨hh.1, hh.2.symm⟩ : _ ∧ _))
  have ho : 0 ≤ o % 2147483647 ∧ o % 2147483647 ≤ 2147483646 := by omega
  have hn : 0 ≤ n % 2147483647 ∧ n % 2147483647 ≤ 2147483646 := by omega
  generalize o % 2147483647 = qo at *
  generalize n % 2147483647 = qn at *
  have HQ := Lib.hid (And.intro ho hn)
  have wo := I64q ho
  have wn := I64q hn
  obtain ⟨o0, o1⟩ := ho
  obtain ⟨n0, n1⟩ := hn
  unfold opCells opZ at hwa h1
  clear h hv hk
  go_enter Tryd.func30, Tryd.ntmps30
  go_wp2_with fail
  refine (HB1.out _).mono ?_
  rintro r0 w1 ⟨rfl, rfl⟩
  go_wp2_with fail
  rw [← hwa]
  clear hwa HB1
  generalize w.heap.size = b1 at *
  obtain ⟨b2, hb2⟩ : ∃ z, z = b1 + 1 := ⟨_, rfl⟩
  rw [← hb2] at h1 ⊢
  obtain ⟨b3, hb3⟩ : ∃ z, z = b2 + 1 := ⟨_, rfl⟩
  rw [← hb3] at h1 ⊢
  clear hb2 hb3
  obtain ⟨c0, c1, c2, c3, c4⟩ := cells5 h1
  obtain ⟨d0, d1, d2, d3, d4⟩ := cells5 h1.sw3
  have H1 := Lib.hid h1
  clear h1
  go_big_quiet (first | (go_at_call_of 31 (Value.int .i64 o); exact Calls.quiet_of_same (HO.out _)) | (go_at_call_of 31 (Value.int .i64 n); exact Calls.quiet_of_same (HN.out _)))
  have h2 := H1.out.drewN nq
  generalize wa.drewN nq = wb at *
  clear H1 c0 c1 c2 c3 c4 d0 d1 d2 d3 d4 wo wn HO HN
  obtain ⟨c0, c1, c2, c3, c4⟩ := cells5 h2
  obtain ⟨f0, f1, f2, f3, f4⟩ := frz5 h2
  obtain ⟨d0, d1, d2, d3, d4⟩ := cells5 h2.sw3
  have h4 : Sep w0 (Cl b3 #[.int .i64 9, .string ⟨#[]⟩, .int .i64 (1 + qo), .int .i64 0, (.slice none 0 0)] 24 :: Cl b2 #[.int .i64 0, .string ⟨#[]⟩, .int .i64 0, .int .i64 0, (.slice none 0 0)] 24 :: Cl b1 #[.int .i64 k, .string s.1, .int .i64 o, .int .i64 n, (.slice a ls.length c)] 24 :: L) (wb.setCell ⟨b3, 2, none⟩ (.int .i64 (1 + qo))) := (h2.setCell 2 _)
  clear h2
  obtain ⟨e0, e1, e2, e3, e4⟩ := cells5 h4
  obtain ⟨g0, g1, g2, g3, g4⟩ := frz5 h4.sw2
  obtain ⟨z0, z1, z2, z3, z4⟩ := cells5 h4.sw2
  have h6 := store5 (u0 := .int .i64 9) (u1 := .string ⟨#[]⟩) (u2 := .int .i64 (1 + qo)) (u3 := .int .i64 0) (u4 := (.slice none 0 0)) h4.sw2
  obtain ⟨k0, k1, k2, k3, k4⟩ := cells5 h6
  have H6 := Lib.hid h6.drop.drop.drop
  clear h4 h6
  go_wp2_with fail
  exact bodyPost_ret (v := .agg #[.int .i64 9, .string ⟨#[]⟩, .int .i64 (1 + qo), .int .i64 0, (.slice none 0 0)]) (by simp [results, Tryd.results30, go_sem, k0, k1, k2, k3, k4]) rfl ⟨⟨9, sZ, (1 + qo), 0, []⟩, _, rfl, ok_2 (show fieldsOf 9 = 2 by decide) (qtyB_1 HQ.out.1), H6.out.rnNil 2 39⟩
end Go.Proofs.YtfjodadmcfdlpaaDoor
