/- works (stage 12). -/
import Derived.Test.YtpknfeokfladkaaDoorPipe7
namespace Go.Proofs.YtpknfeokfladkaaDoor
open Go.RowKit
set_option linter.unusedVariables false
set_option linter.unusedSimpArgs false
theorem three_of {x1 x2 x3 : EnM} {qs : List (EnM × Value)} (h : qs.map (·.1) = [x1, x2, x3]) : ∃ u1 u2 u3, qs = [(x1, u1), (x2, u2), (x3, u3)] := by
  match qs, h with
  | [(a, u1), (b, u2), (c, u3)], h => simp at h; obtain ⟨rfl, rfl, rfl⟩ := h; exact ⟨u1, u2, u3, rfl⟩
theorem one_of {x1 : EnM} {qs : List (EnM × Value)} (h : qs.map (·.1) = [x1]) : ∃ u1, qs = [(x1, u1)] := by
  match qs, h with
  | [(a, u1)], h => simp at h; obtain rfl := h; exact ⟨u1, rfl⟩
theorem map_nil (es : List EnM) : (es.map fun e => ((e, Value.slice none 0 0) : EnM × Value)).map (·.1) = es := by rw [List.map_map]; exact List.map_id es
structure WkF (x1 x2 x3 : EnM) : Prop where
  l1 : x1.p.ls = []
  l2 : x2.p.ls = []
  l3 : x3.p.ls = []
  k1 : x1.ok = true
  k2 : x2.ok = true
  k3 : x3.ok = true
  a1 : agrV 5 [x1, x2, x3] 5 [x1, x3] = 6
  a2 : agrV 5 [x1, x2, x3] 6 [x2, x3, x1] = 8
  a3 : agrV 5 [x1, x2, x3] 3 [x1] = 4
  a4 : agrV 5 [x1, x2, x3] 9 [x3] = 8
theorem wkF : WkF (askE 1) (askE 2) (askE 3) := ⟨rfl, rfl, rfl, askE_ok 1, askE_ok 2, askE_ok 3, by kernel_rfl, by kernel_rfl, by kernel_rfl, by kernel_rfl⟩
theorem WkF.ls {x1 x2 x3 : EnM} (h : WkF x1 x2 x3) {es : List EnM} (hs : ∀ e ∈ es, e = x1 ∨ e = x2 ∨ e = x3) : ∀ e ∈ es, e.p.ls = [] := fun e he => by
  rcases hs e he with rfl | rfl | rfl
  · exact h.l1
  · exact h.l2
  · exact h.l3
set_option maxRecDepth 100000 in
set_option maxHeartbeats 64000000 in
theorem works12_w {w : World} (hk : KindsAt w) :
    Calls Tryd.prog 14 #[] w fun e w' => e = .returned (.bool true) ∧ Sep w [] w' := by
  have HK := Lib.hid hk
  have hf := wkF
  have HA : Hid (∀ n wx, Sep w [] wx → Calls Tryd.prog 23 #[.int .i64 n] wx fun e w' => e = .returned (enV (askE n) (.slice none 0 0)) ∧ Sep w [] w') := Lib.hid fun n wx hx => asks_any n hx
  have HA1 := Lib.hid (HA.out 1)
  have HA2 := Lib.hid (HA.out 2)
  have HA3 := Lib.hid (HA.out 3)
  clear HA hk
  generalize askE 1 = x1 at *
  generalize askE 2 = x2 at *
  generalize askE 3 = x3 at *
  have HW := Lib.hid hf
  clear hf
  unfold enV at HA1 HA2 HA3
  go_enter Tryd.func14, Tryd.ntmps14
  go_wp2_with fail
  refine (HA1.out _ (Sep.start w)).mono ?_
  rintro r0 wa ⟨rfl, ha⟩
  have HX := Lib.hid ha
  clear ha HA1
  go_wp2_with fail
  refine (HA2.out _ HX.out).mono ?_
  rintro r0 wb ⟨rfl, ha⟩
  have HY := Lib.hid ha
  clear ha HA2 HX
  go_wp2_with fail
  refine (HA3.out _ HY.out).mono ?_
  rintro r0 wc ⟨rfl, ha⟩
  clear HA3 HY
  obtain ⟨wd, hwd⟩ : ∃ z, z = ((((wc.alloc (.cells #[.int .i64 x1.c, .int .i64 x1.m, .int .i64 x1.p.k, .string x1.p.s.1, .int .i64 x1.p.o, .int .i64 x1.p.n, (.slice none 0 0)] 34)).alloc (.cells #[.int .i64 x2.c, .int .i64 x2.m, .int .i64 x2.p.k, .string x2.p.s.1, .int .i64 x2.p.o, .int .i64 x2.p.n, (.slice none 0 0)] 34)).alloc (.cells #[.int .i64 x3.c, .int .i64 x3.m, .int .i64 x3.p.k, .string x3.p.s.1, .int .i64 x3.p.o, .int .i64 x3.p.n, (.slice none 0 0)] 34)).alloc (.cells #[.int .i64 x1.c, .int .i64 x1.m, .int .i64 x1.p.k, .string x1.p.s.1, .int .i64 x1.p.o, .int .i64 x1.p.n, (.slice none 0 0), .int .i64 x2.c, .int .i64 x2.m, .int .i64 x2.p.k, .string x2.p.s.1, .int .i64 x2.p.o, .int .i64 x2.p.n, (.slice none 0 0), .int .i64 x3.c, .int .i64 x3.m, .int .i64 x3.p.k, .string x3.p.s.1, .int .i64 x3.p.o, .int .i64 x3.p.n, (.slice none 0 0)] 34)) := ⟨_, rfl⟩
  have h2 : Sep w [Cl (wc.heap.size + 1 + 1 + 1) (enCs (([x1, x2, x3] : List EnM).map fun e => (e, Value.slice none 0 0))).toArray 34, Cl (wc.heap.size + 1 + 1) (enC x3 (.slice none 0 0)) 34, Cl (wc.heap.size + 1) (enC x2 (.slice none 0 0)) 34, Cl wc.heap.size (enC x1 (.slice none 0 0)) 34] wd := by
    have h3 := (((ha.alloc (.cells (enC x1 (.slice none 0 0)) 34)).alloc (.cells (enC x2 (.slice none 0 0)) 34)).alloc (.cells (enC x3 (.slice none 0 0)) 34)).alloc (.cells (enCs (([x1, x2, x3] : List EnM).map fun e => (e, Value.slice none 0 0))).toArray 34)
    simp only [World.size_alloc] at h3
    rw [hwd]; exact h3
  clear ha
  go_wp2_with fail
  rw [← hwd]
  clear hwd
  generalize wc.heap.size = b1 at *
  obtain ⟨b2, hb2⟩ : ∃ z, z = b1 + 1 := ⟨_, rfl⟩
  rw [← hb2] at h2 ⊢
  obtain ⟨b3, hb3⟩ : ∃ z, z = b2 + 1 := ⟨_, rfl⟩
  rw [← hb3] at h2 ⊢
  obtain ⟨b4, hb4⟩ : ∃ z, z = b3 + 1 := ⟨_, rfl⟩
  rw [← hb4] at h2 ⊢
  clear hb2 hb3 hb4
  have hfl := filled_any 5 (some ⟨b4, 0, none⟩) 3 3 (([x1, x2, x3] : List EnM).map fun e => (e, Value.slice none 0 0)) h2 (fun wx hx => hx.clAsk (HW.out.ls (by simp)) rfl (by omega)) rfl (by omega) (by omega) (by omega) (by simp [HW.out.k1, HW.out.k2, HW.out.k3]) HK.out
  rw [map_nil] at hfl
  have HFL := Lib.hid hfl
  clear hfl h2
  refine HFL.out.mono ?_
  rintro r0 we ⟨g, rfl, qs, hqs, he⟩
  obtain ⟨u1, u2, u3, rfl⟩ := three_of hqs
  have he2 := he.pick [0, 2, 3, 4] rfl
  have hg := get_ok 6 0 (by simp) (by omega) (by simp [HW.out.l1]) he2 (by omega) (by omega) (by simp)
  simp only [List.getElem_cons_zero] at hg
  have HG := Lib.hid hg
  have HE := Lib.hid he2
  unfold enV at HG
  clear he he2 hg hqs HFL
  go_wp2_with fail
  refine HG.out.mono ?_
  rintro r0 wf ⟨u, rfl, hf⟩
  obtain ⟨au, ku, rfl, -⟩ := hf.rnForm
  obtain ⟨b5, hb5⟩ : ∃ z, z = wf.heap.size := ⟨_, rfl⟩
  obtain ⟨wg, hwg⟩ : ∃ z, z = wf.alloc (.cells #[.int .i64 x1.c, .int .i64 x1.m, .int .i64 x1.p.k, .string x1.p.s.1, .int .i64 x1.p.o, .int .i64 x1.p.n, (.slice au x1.p.ls.length ku)] 34) := ⟨_, rfl⟩
  have h6 : Sep w [PipeT g 5 [(x1, u1), (x2, u2), (x3, u3)], Cl b5 (enC x1 (.slice au x1.p.ls.length ku)) 34, LnR (.slice au x1.p.ls.length ku) x1.p.ls, Cl b3 (enC x3 (.slice none 0 0)) 34, Cl b2 (enC x2 (.slice none 0 0)) 34, Cl b1 (enC x1 (.slice none 0 0)) 34] wg := by
    have h3 := hf.alloc (.cells (enC x1 (.slice au x1.p.ls.length ku)) 34)
    rw [← hb5] at h3
    rw [hwg]; exact h3.pick [2, 0, 1, 3, 4, 5] rfl
  have HGB := Lib.hid (get_bad 5 (.inl (by omega)) h6 (by omega) (by omega) (by simp))
  clear HG HE hf h6
  go_wp2_with fail
  rw [← hwg, ← hb5]
  clear hwg hb5
  refine HGB.out.mono ?_
  rintro r0 wh ⟨rfl, h7⟩
  clear HGB
  obtain ⟨wi, hwi⟩ : ∃ z, z = wh.alloc (.cells #[.int .i64 0, .int .i64 0, .int .i64 0, .string ⟨#[]⟩, .int .i64 0, .int .i64 0, .slice none 0 0] 34) := ⟨_, rfl⟩
  have h8 : Sep w [PipeT g 5 [(x1, u1), (x2, u2), (x3, u3)], Cl b5 (enC x1 (.slice au x1.p.ls.length ku)) 34, LnR (.slice au x1.p.ls.length ku) x1.p.ls, Cl b3 (enC x3 (.slice none 0 0)) 34, Cl b2 (enC x2 (.slice none 0 0)) 34, Cl b1 (enC x1 (.slice none 0 0)) 34] wi := by rw [hwi]; exact h7.alloc0 _
  have ht := top_any h8 (by omega) (by omega) (by simp)
  rw [show (5 : Int) + (([(x1, u1), (x2, u2), (x3, u3)] : List (EnM × Value)).length : Int) = 8 from rfl] at ht
  have HT := Lib.hid ht
  clear h7 h8 ht
  go_wp2_with fail
  rw [← hwi]
  clear hwi
  refine HT.out.mono ?_
  rintro r0 wj ⟨rfl, h9⟩
  clear HT
  obtain ⟨c0, c1, c2, c3, c4, c5, c6⟩ := cells7 (h9.pick [3] rfl : Sep w [Cl b3 (enC x3 (.slice none 0 0)) 34] _)
  obtain ⟨m0, m1, m2, m3, m4, m5, m6⟩ := cells7 (h9.pick [4] rfl : Sep w [Cl b2 (enC x2 (.slice none 0 0)) 34] _)
  obtain ⟨a0, a1, a2, a3, a4, a5, a6⟩ := cells7 (h9.pick [5] rfl : Sep w [Cl b1 (enC x1 (.slice none 0 0)) 34] _)
  obtain ⟨d0, d1, d2, d3, d4, d5, d6⟩ := cells7 (h9.pick [1] rfl : Sep w [Cl b5 (enC x1 (.slice au x1.p.ls.length ku)) 34] _)
  have hsm := esame_any x1 x1 (.slice au x1.p.ls.length ku) (.slice none 0 0) h9 (Sep.lnS (h9.pick [2] rfl)) (by rw [HW.out.l1]; exact lnK _) (by rw [HW.out.l1]; simp)
  rw [enSame_self] at hsm
  have HS := Lib.hid hsm
  unfold enV at HS
  clear hsm h9
  go_wp2_with fail
  refine HS.out.mono ?_
  rintro r0 wk ⟨rfl, h10⟩
  clear HS d0 d1 d2 d3 d4 d5 d6
  clear c0 c1 c2 c3 c4 c5 c6 m0 m1 m2 m3 m4 m5 m6 a0 a1 a2 a3 a4 a5 a6
  obtain ⟨c0, c1, c2, c3, c4, c5, c6⟩ := cells7 (h10.pick [3] rfl : Sep w [Cl b3 (enC x3 (.slice none 0 0)) 34] _)
  obtain ⟨m0, m1, m2, m3, m4, m5, m6⟩ := cells7 (h10.pick [4] rfl : Sep w [Cl b2 (enC x2 (.slice none 0 0)) 34] _)
  obtain ⟨a0, a1, a2, a3, a4, a5, a6⟩ := cells7 (h10.pick [5] rfl : Sep w [Cl b1 (enC x1 (.slice none 0 0)) 34] _)
  obtain ⟨wl1, hwl⟩ : ∃ z, z = wk.alloc (.cells #[.int .i64 x1.c, .int .i64 x1.m, .int .i64 x1.p.k, .string x1.p.s.1, .int .i64 x1.p.o, .int .i64 x1.p.n, (.slice none 0 0), .int .i64 x3.c, .int .i64 x3.m, .int .i64 x3.p.k, .string x3.p.s.1, .int .i64 x3.p.o, .int .i64 x3.p.n, (.slice none 0 0)] 34) := ⟨_, rfl⟩
  obtain ⟨bl1, hbl⟩ : ∃ z, z = wk.heap.size := ⟨_, rfl⟩
  have hl1 : Sep w [PipeT g 5 [(x1, u1), (x2, u2), (x3, u3)], Cl bl1 (enCs (([x1, x3] : List EnM).map fun e => (e, Value.slice none 0 0))).toArray 34, Cl b5 (enC x1 (.slice au x1.p.ls.length ku)) 34, LnR (.slice au x1.p.ls.length ku) x1.p.ls, Cl b3 (enC x3 (.slice none 0 0)) 34, Cl b2 (enC x2 (.slice none 0 0)) 34, Cl b1 (enC x1 (.slice none 0 0)) 34] wl1 := by
    have h3 := h10.alloc (.cells (enCs (([x1, x3] : List EnM).map fun e => (e, Value.slice none 0 0))).toArray 34)
    rw [← hbl] at h3
    rw [hwl]; exact h3.sw2
  have hag := agree_any 5 (some ⟨bl1, 0, none⟩) 2 2 (([x1, x3] : List EnM).map fun e => (e, Value.slice none 0 0)) hl1 (fun wx hx => hx.clAsk (HW.out.ls (by simp)) rfl (by omega)) rfl (by omega) (by omega) (by simp)
  rw [map_nil] at hag
  simp only [List.map_cons, List.map_nil] at hag
  rw [HW.out.a1] at hag
  have HAG := Lib.hid hag
  clear hag hl1 h10
  go_wp2_with fail
  rw [← hwl, ← hbl]
  clear hwl hbl
  refine HAG.out.mono ?_
  rintro r0 wm ⟨rfl, hx1⟩
  have h11 : Sep w [PipeT g 5 [(x1, u1), (x2, u2), (x3, u3)], Cl b5 (enC x1 (.slice au x1.p.ls.length ku)) 34, LnR (.slice au x1.p.ls.length ku) x1.p.ls, Cl b3 (enC x3 (.slice none 0 0)) 34, Cl b2 (enC x2 (.slice none 0 0)) 34, Cl b1 (enC x1 (.slice none 0 0)) 34] wm := hx1.pick [0, 2, 3, 4, 5, 6] rfl
  clear HAG hx1
  clear c0 c1 c2 c3 c4 c5 c6 m0 m1 m2 m3 m4 m5 m6 a0 a1 a2 a3 a4 a5 a6
  obtain ⟨c0, c1, c2, c3, c4, c5, c6⟩ := cells7 (h11.pick [3] rfl : Sep w [Cl b3 (enC x3 (.slice none 0 0)) 34] _)
  obtain ⟨m0, m1, m2, m3, m4, m5, m6⟩ := cells7 (h11.pick [4] rfl : Sep w [Cl b2 (enC x2 (.slice none 0 0)) 34] _)
  obtain ⟨a0, a1, a2, a3, a4, a5, a6⟩ := cells7 (h11.pick [5] rfl : Sep w [Cl b1 (enC x1 (.slice none 0 0)) 34] _)
  obtain ⟨wl2, hwl⟩ : ∃ z, z = wm.alloc (.cells #[.int .i64 x2.c, .int .i64 x2.m, .int .i64 x2.p.k, .string x2.p.s.1, .int .i64 x2.p.o, .int .i64 x2.p.n, (.slice none 0 0), .int .i64 x3.c, .int .i64 x3.m, .int .i64 x3.p.k, .string x3.p.s.1, .int .i64 x3.p.o, .int .i64 x3.p.n, (.slice none 0 0), .int .i64 x1.c, .int .i64 x1.m, .int .i64 x1.p.k, .string x1.p.s.1, .int .i64 x1.p.o, .int .i64 x1.p.n, (.slice none 0 0)] 34) := ⟨_, rfl⟩
  obtain ⟨bl2, hbl⟩ : ∃ z, z = wm.heap.size := ⟨_, rfl⟩
  have hl2 : Sep w [PipeT g 5 [(x1, u1), (x2, u2), (x3, u3)], Cl bl2 (enCs (([x2, x3, x1] : List EnM).map fun e => (e, Value.slice none 0 0))).toArray 34, Cl b5 (enC x1 (.slice au x1.p.ls.length ku)) 34, LnR (.slice au x1.p.ls.length ku) x1.p.ls, Cl b3 (enC x3 (.slice none 0 0)) 34, Cl b2 (enC x2 (.slice none 0 0)) 34, Cl b1 (enC x1 (.slice none 0 0)) 34] wl2 := by
    have h3 := h11.alloc (.cells (enCs (([x2, x3, x1] : List EnM).map fun e => (e, Value.slice none 0 0))).toArray 34)
    rw [← hbl] at h3
    rw [hwl]; exact h3.sw2
  have hag := agree_any 6 (some ⟨bl2, 0, none⟩) 3 3 (([x2, x3, x1] : List EnM).map fun e => (e, Value.slice none 0 0)) hl2 (fun wx hx => hx.clAsk (HW.out.ls (by simp)) rfl (by omega)) rfl (by omega) (by omega) (by simp)
  rw [map_nil] at hag
  simp only [List.map_cons, List.map_nil] at hag
  rw [HW.out.a2] at hag
  have HAG := Lib.hid hag
  clear hag hl2 h11
  go_wp2_with fail
  rw [← hwl, ← hbl]
  clear hwl hbl
  refine HAG.out.mono ?_
  rintro r0 wn ⟨rfl, hx2⟩
  have h12 : Sep w [PipeT g 5 [(x1, u1), (x2, u2), (x3, u3)], Cl b5 (enC x1 (.slice au x1.p.ls.length ku)) 34, LnR (.slice au x1.p.ls.length ku) x1.p.ls, Cl b3 (enC x3 (.slice none 0 0)) 34, Cl b2 (enC x2 (.slice none 0 0)) 34, Cl b1 (enC x1 (.slice none 0 0)) 34] wn := hx2.pick [0, 2, 3, 4, 5, 6] rfl
  clear HAG hx2
  clear c0 c1 c2 c3 c4 c5 c6 m0 m1 m2 m3 m4 m5 m6 a0 a1 a2 a3 a4 a5 a6
  obtain ⟨c0, c1, c2, c3, c4, c5, c6⟩ := cells7 (h12.pick [3] rfl : Sep w [Cl b3 (enC x3 (.slice none 0 0)) 34] _)
  obtain ⟨m0, m1, m2, m3, m4, m5, m6⟩ := cells7 (h12.pick [4] rfl : Sep w [Cl b2 (enC x2 (.slice none 0 0)) 34] _)
  obtain ⟨a0, a1, a2, a3, a4, a5, a6⟩ := cells7 (h12.pick [5] rfl : Sep w [Cl b1 (enC x1 (.slice none 0 0)) 34] _)
  obtain ⟨wl3, hwl⟩ : ∃ z, z = wn.alloc (.cells #[.int .i64 x1.c, .int .i64 x1.m, .int .i64 x1.p.k, .string x1.p.s.1, .int .i64 x1.p.o, .int .i64 x1.p.n, (.slice none 0 0)] 34) := ⟨_, rfl⟩
  obtain ⟨bl3, hbl⟩ : ∃ z, z = wn.heap.size := ⟨_, rfl⟩
  have hl3 : Sep w [PipeT g 5 [(x1, u1), (x2, u2), (x3, u3)], Cl bl3 (enCs (([x1] : List EnM).map fun e => (e, Value.slice none 0 0))).toArray 34, Cl b5 (enC x1 (.slice au x1.p.ls.length ku)) 34, LnR (.slice au x1.p.ls.length ku) x1.p.ls, Cl b3 (enC x3 (.slice none 0 0)) 34, Cl b2 (enC x2 (.slice none 0 0)) 34, Cl b1 (enC x1 (.slice none 0 0)) 34] wl3 := by
    have h3 := h12.alloc (.cells (enCs (([x1] : List EnM).map fun e => (e, Value.slice none 0 0))).toArray 34)
    rw [← hbl] at h3
    rw [hwl]; exact h3.sw2
  have hag := agree_any 3 (some ⟨bl3, 0, none⟩) 1 1 (([x1] : List EnM).map fun e => (e, Value.slice none 0 0)) hl3 (fun wx hx => hx.clAsk (HW.out.ls (by simp)) rfl (by omega)) rfl (by omega) (by omega) (by simp)
  rw [map_nil] at hag
  simp only [List.map_cons, List.map_nil] at hag
  rw [HW.out.a3] at hag
  have HAG := Lib.hid hag
  clear hag hl3 h12
  go_wp2_with fail
  rw [← hwl, ← hbl]
  clear hwl hbl
  refine HAG.out.mono ?_
  rintro r0 wo ⟨rfl, hx3⟩
  have h13 : Sep w [PipeT g 5 [(x1, u1), (x2, u2), (x3, u3)], Cl b5 (enC x1 (.slice au x1.p.ls.length ku)) 34, LnR (.slice au x1.p.ls.length ku) x1.p.ls, Cl b3 (enC x3 (.slice none 0 0)) 34, Cl b2 (enC x2 (.slice none 0 0)) 34, Cl b1 (enC x1 (.slice none 0 0)) 34] wo := hx3.pick [0, 2, 3, 4, 5, 6] rfl
  clear HAG hx3
  clear c0 c1 c2 c3 c4 c5 c6 m0 m1 m2 m3 m4 m5 m6 a0 a1 a2 a3 a4 a5 a6
  obtain ⟨c0, c1, c2, c3, c4, c5, c6⟩ := cells7 (h13.pick [3] rfl : Sep w [Cl b3 (enC x3 (.slice none 0 0)) 34] _)
  obtain ⟨m0, m1, m2, m3, m4, m5, m6⟩ := cells7 (h13.pick [4] rfl : Sep w [Cl b2 (enC x2 (.slice none 0 0)) 34] _)
  obtain ⟨a0, a1, a2, a3, a4, a5, a6⟩ := cells7 (h13.pick [5] rfl : Sep w [Cl b1 (enC x1 (.slice none 0 0)) 34] _)
  obtain ⟨wl4, hwl⟩ : ∃ z, z = wo.alloc (.cells #[.int .i64 x3.c, .int .i64 x3.m, .int .i64 x3.p.k, .string x3.p.s.1, .int .i64 x3.p.o, .int .i64 x3.p.n, (.slice none 0 0)] 34) := ⟨_, rfl⟩
  obtain ⟨bl4, hbl⟩ : ∃ z, z = wo.heap.size := ⟨_, rfl⟩
  have hl4 : Sep w [PipeT g 5 [(x1, u1), (x2, u2), (x3, u3)], Cl bl4 (enCs (([x3] : List EnM).map fun e => (e, Value.slice none 0 0))).toArray 34, Cl b5 (enC x1 (.slice au x1.p.ls.length ku)) 34, LnR (.slice au x1.p.ls.length ku) x1.p.ls, Cl b3 (enC x3 (.slice none 0 0)) 34, Cl b2 (enC x2 (.slice none 0 0)) 34, Cl b1 (enC x1 (.slice none 0 0)) 34] wl4 := by
    have h3 := h13.alloc (.cells (enCs (([x3] : List EnM).map fun e => (e, Value.slice none 0 0))).toArray 34)
    rw [← hbl] at h3
    rw [hwl]; exact h3.sw2
  have hag := agree_any 9 (some ⟨bl4, 0, none⟩) 1 1 (([x3] : List EnM).map fun e => (e, Value.slice none 0 0)) hl4 (fun wx hx => hx.clAsk (HW.out.ls (by simp)) rfl (by omega)) rfl (by omega) (by omega) (by simp)
  rw [map_nil] at hag
  simp only [List.map_cons, List.map_nil] at hag
  rw [HW.out.a4] at hag
  have HAG := Lib.hid hag
  clear hag hl4 h13
  go_wp2_with fail
  rw [← hwl, ← hbl]
  clear hwl hbl
  refine HAG.out.mono ?_
  rintro r0 wp ⟨rfl, hx4⟩
  have h14 : Sep w [PipeT g 5 [(x1, u1), (x2, u2), (x3, u3)], Cl b5 (enC x1 (.slice au x1.p.ls.length ku)) 34, LnR (.slice au x1.p.ls.length ku) x1.p.ls, Cl b3 (enC x3 (.slice none 0 0)) 34, Cl b2 (enC x2 (.slice none 0 0)) 34, Cl b1 (enC x1 (.slice none 0 0)) 34] wp := hx4.pick [0, 2, 3, 4, 5, 6] rfl
  clear HAG hx4
  clear c0 c1 c2 c3 c4 c5 c6 m0 m1 m2 m3 m4 m5 m6 a0 a1 a2 a3 a4 a5 a6
  obtain ⟨c0, c1, c2, c3, c4, c5, c6⟩ := cells7 (h14.pick [3] rfl : Sep w [Cl b3 (enC x3 (.slice none 0 0)) 34] _)
  obtain ⟨m0, m1, m2, m3, m4, m5, m6⟩ := cells7 (h14.pick [4] rfl : Sep w [Cl b2 (enC x2 (.slice none 0 0)) 34] _)
  obtain ⟨a0, a1, a2, a3, a4, a5, a6⟩ := cells7 (h14.pick [5] rfl : Sep w [Cl b1 (enC x1 (.slice none 0 0)) 34] _)
  have hct := cut_ok 7 2 (by simp) (by omega) h14 (by omega) (by omega) (by simp)
  rw [show ([(x1, u1), (x2, u2), (x3, u3)] : List (EnM × Value)).take 2 = [(x1, u1), (x2, u2)] from rfl] at hct
  have HC := Lib.hid hct
  clear hct h14
  go_wp2_with fail
  refine HC.out.mono ?_
  rintro r0 wq ⟨rfl, h15⟩
  have htr := trim_ok 6 1 (by simp) (by omega) h15 (by omega) (by omega) (by simp)
  rw [show ([(x1, u1), (x2, u2)] : List (EnM × Value)).drop 1 = [(x2, u2)] from rfl] at htr
  have HT := Lib.hid htr
  clear htr h15 HC
  go_wp2_with fail
  refine HT.out.mono ?_
  rintro r0 wr_ ⟨rfl, h16⟩
  have hfr := from_ok 6 0 (by simp) (by omega) (by simp [HW.out.l2]) h16 (by omega) (by omega) (by simp)
  rw [List.drop_zero] at hfr
  have HF := Lib.hid hfr
  clear hfr h16 HT c0 c1 c2 c3 c4 c5 c6 m0 m1 m2 m3 m4 m5 m6 a0 a1 a2 a3 a4 a5 a6
  go_wp2_with fail
  refine HF.out.mono ?_
  rintro r0 ws ⟨uf, rfl, qs, hqs, h17⟩
  obtain ⟨af, cf, rfl, -⟩ := h17.enForm
  have hq1 : qs.length = 1 := by simpa using congrArg List.length hqs
  rw [hq1] at h17 ⊢
  obtain ⟨m0, m1, m2, m3, m4, m5, m6⟩ := cells7 (h17.pick [5] rfl : Sep w [Cl b2 (enC x2 (.slice none 0 0)) 34] _)
  obtain ⟨wt, hwt⟩ : ∃ z, z = ws.alloc (.cells #[.int .i64 x2.c, .int .i64 x2.m, .int .i64 x2.p.k, .string x2.p.s.1, .int .i64 x2.p.o, .int .i64 x2.p.n, (.slice none 0 0)] 34) := ⟨_, rfl⟩
  obtain ⟨bt, hbt⟩ : ∃ z, z = ws.heap.size := ⟨_, rfl⟩
  have h18 : Sep w [Cl bt (enCs (([x2] : List EnM).map fun e => (e, Value.slice none 0 0))).toArray 34, EnT (.slice af 1 cf) qs, PipeT g 6 [(x2, u2)]] wt := by
    have h3 := h17.alloc (.cells (enCs (([x2] : List EnM).map fun e => (e, Value.slice none 0 0))).toArray 34)
    rw [← hbt] at h3
    rw [hwt]; exact h3.pick [0, 1, 2] rfl
  have hsr := samerow12 af (some ⟨bt, 0, none⟩) cf 1 1 qs (([x2] : List EnM).map fun e => (e, Value.slice none 0 0)) h18 (fun wx hx => hx.sw2.enS) (fun wx hx => hx.clAsk (HW.out.ls (by simp)) rfl (by omega)) hq1 (by omega) (by rw [map_nil]; exact hqs.symm)
  have HSR := Lib.hid hsr
  clear hsr h17 h18 hqs hq1 HF
  go_wp2_with fail
  rw [← hwt, ← hbt]
  clear hwt hbt
  refine HSR.out.mono ?_
  rintro r0 wu ⟨rfl, h19⟩
  have HB := Lib.hid (base_any (h19.pick [2] rfl : Sep w [PipeT g 6 [(x2, u2)]] _))
  clear h19 HSR
  go_wp2_with fail
  refine HB.out.mono ?_
  rintro r0 wv ⟨rfl, h20⟩
  have HC := Lib.hid (cut_bad 5 (.inl (by omega)) h20 (by omega) (by omega) (by simp))
  clear h20 HB
  go_wp2_with fail
  refine HC.out.mono ?_
  rintro r0 wx ⟨rfl, h21⟩
  have H21 := Lib.hid h21.drop
  clear h21 HC
  go_wp2_with fail
  go_ret
  exact ⟨rfl, H21.out⟩
theorem works12_any {w0 w : World} {L : List Thing} (h : Sep w0 L w) (hk : KindsAt w) :
    Calls Tryd.prog 14 #[] w fun e w' => e = .returned (.bool true) ∧ Sep w0 L w' :=
  (works12_w hk).mono fun e w' ⟨h1, h2⟩ => ⟨h1, h.below h2.low⟩
end Go.Proofs.YtpknfeokfladkaaDoor
