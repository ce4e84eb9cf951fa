/- A proxy: what it is; isNone, Waits, Num, View, New, Ask. -/
import Derived.Test.YtdemconpdjgimaaDoorPx2
import Derived.Test.YtdemconpdjgimaaDoorTallyP
import Derived.Test.YtdemconpdjgimaaDoorClock
namespace Go.Proofs.YtdemconpdjgimaaDoor
open Go.RowKit
set_option linter.unusedVariables false
set_option linter.unusedSimpArgs false
abbrev CkT (g : Nat) (l p : Int) : Thing := Cl g #[.int .i64 l, .int .i64 p] 84
theorem Sep.ck {w0 w : World} {g : Nat} {l p : Int} {L : List Thing} (h : Sep w0 (CkT g l p :: L) w) : Ck w g l p := h.blk
theorem Sep.ckUpd {w0 w w' : World} {g : Nat} {l p q : Int} {L : List Thing} (h : Sep w0 (CkT g l p :: L) w) (hk : Ck w' g l q) (hu : Upd g w w') : Sep w0 (CkT g l q :: L) w' :=
  h.change (loc_blk _ _) fun F hF hlt => ⟨F, ⟨hk, hF.2⟩, fun k hk => ⟨.inl hk, by have := hlt k hk; have := hu.size; omega⟩, ⟨hu.os, hu.tape, hu.output, hu.size, fun k hk hn => hu.block k hk fun e => hn (by rw [e]; exact (hF.2 g).2 rfl)⟩⟩
theorem ckreset_s {w0 w : World} {g : Nat} {l p : Int} {L : List Thing} (h : Sep w0 (CkT g l p :: L) w) (hl : 1 ≤ l) : Calls Tryd.prog 25 #[.pointer (some ⟨g, 0, none⟩)] w fun e w' => (∃ x, e = .returned x) ∧ Sep w0 (CkT g l 0 :: L) w' :=
  (creset_ok g l p w h.ck hl).mono fun e w' ⟨h1, h2, h3⟩ => ⟨h1, h.ckUpd h2 h3⟩
theorem cktick_s {w0 w : World} {g : Nat} {l p : Int} {L : List Thing} (h : Sep w0 (CkT g l p :: L) w) (hl : 1 ≤ l) (hl2 : l ≤ 1000) (hp : 0 ≤ p) (hp2 : p ≤ l) : Calls Tryd.prog 24 #[.pointer (some ⟨g, 0, none⟩)] w fun e w' => e = .returned (.bool (decide (l ≤ p + 1))) ∧ Sep w0 (CkT g l (min (p + 1) l) :: L) w' :=
  (ctick_ok g l p w h.ck hl hl2 hp hp2).mono fun e w' ⟨h1, h2, h3⟩ => ⟨h1, h.ckUpd h2 h3⟩
theorem cknew_s {w0 w : World} {L : List Thing} (l : Int) (h : Sep w0 L w) (h1 : 1 ≤ l) (h2 : l ≤ 1000) : Calls Tryd.prog 27 #[.int .i64 l] w fun e w' => ∃ g, e = .returned (.tuple #[.pointer (some ⟨g, 0, none⟩), .int .i64 0]) ∧ Sep w0 (CkT g l 0 :: L) w' :=
  (cnew_ok l w h1 h2).mono fun e w' ⟨⟨g, e1, hg, hk⟩, hb⟩ => ⟨g, e1, h.new (loc_blk _ _) hb (F := fun k => k = g) ⟨hk, fun _ => Iff.rfl⟩ fun k hk' => by rw [hk']; exact ⟨hg, hk.lt⟩⟩
/-- A proxy's own block. -/
abbrev PrxC (g gc : Nat) (cl n num view : Int) (wt st : Bool) (k o : Int) (lv tp : Value) : Thing := Cl g #[.pointer (some ⟨gc, 0, none⟩), .int .i64 cl, .int .i64 n, .int .i64 num, .int .i64 view, .bool wt, .bool st, .int .i64 k, .string ⟨#[]⟩, .int .i64 o, .int .i64 0, lv, tp] 70
variable {w0 w : World} {g gc : Nat} {cl n num view : Int} {wt st : Bool} {k o : Int} {lv tp : Value} {L : List Thing}
theorem pxnone_any (h : Sep w0 (PrxC g gc cl n num view wt st k o lv tp :: L) w) : Calls Tryd.prog 20 #[.pointer (some ⟨g, 0, none⟩)] w fun e w' => e = .returned (.bool false) ∧ w = w' := by
  have c0 := h.cell (o := 0) rfl
  clear h
  go_enter Tryd.func20, Tryd.ntmps20
  (try dsimp only); repeat' (first | go_values | go_skip | go_guarded | go_step | go_upon | go_back)
  go_ret
  exact ⟨rfl, rfl⟩
theorem pxnone_nil (w : World) : Calls Tryd.prog 20 #[.pointer none] w fun e w' => e = .returned (.bool true) ∧ w = w' := by
  go_enter Tryd.func20, Tryd.ntmps20
  (try dsimp only); repeat' (first | go_values | go_skip | go_guarded | go_step | go_upon | go_back)
  go_ret
  exact ⟨rfl, rfl⟩
theorem pxwaits_any (h : Sep w0 (PrxC g gc cl n num view wt st k o lv tp :: L) w) : Calls Tryd.prog 12 #[.pointer (some ⟨g, 0, none⟩)] w fun e w' => e = .returned (.bool wt) ∧ w = w' := by
  have HN := Lib.hid (pxnone_any h)
  have c := h.cell (o := 5) rfl
  clear h
  go_enter Tryd.func12, Tryd.ntmps12
  (try dsimp only); repeat' (first | go_values | go_skip | go_guarded | go_step | go_upon | go_back)
  refine HN.out.mono ?_
  rintro r0 w1 ⟨rfl, rfl⟩
  (try dsimp only); repeat' (first | go_values | go_skip | go_guarded | go_step | go_upon | go_back)
  go_ret
  exact ⟨rfl, rfl⟩
theorem pxnum_any (h : Sep w0 (PrxC g gc cl n num view wt st k o lv tp :: L) w) : Calls Tryd.prog 14 #[.pointer (some ⟨g, 0, none⟩)] w fun e w' => e = .returned (.int .i64 num) ∧ w = w' := by
  have HN := Lib.hid (pxnone_any h)
  have c := h.cell (o := 3) rfl
  clear h
  go_enter Tryd.func14, Tryd.ntmps14
  (try dsimp only); repeat' (first | go_values | go_skip | go_guarded | go_step | go_upon | go_back)
  refine HN.out.mono ?_
  rintro r0 w1 ⟨rfl, rfl⟩
  (try dsimp only); repeat' (first | go_values | go_skip | go_guarded | go_step | go_upon | go_back)
  go_ret
  exact ⟨rfl, rfl⟩
theorem pxview_any (h : Sep w0 (PrxC g gc cl n num view wt st k o lv tp :: L) w) : Calls Tryd.prog 13 #[.pointer (some ⟨g, 0, none⟩)] w fun e w' => e = .returned (.int .i64 view) ∧ w = w' := by
  have HN := Lib.hid (pxnone_any h)
  have c := h.cell (o := 4) rfl
  clear h
  go_enter Tryd.func13, Tryd.ntmps13
  (try dsimp only); repeat' (first | go_values | go_skip | go_guarded | go_step | go_upon | go_back)
  refine HN.out.mono ?_
  rintro r0 w1 ⟨rfl, rfl⟩
  (try dsimp only); repeat' (first | go_values | go_skip | go_guarded | go_step | go_upon | go_back)
  go_ret
  exact ⟨rfl, rfl⟩
set_option maxRecDepth 100000 in
theorem pxnew_ok (cl n l : Int) (h : Sep w0 L w) (h0 : 0 ≤ cl) (h1 : cl < 8) (hn : IQ n) (he : enough n ≠ 0) (hl : 1 ≤ l) (hl2 : l ≤ 1000) : Calls Tryd.prog 19 #[.int .i64 cl, .int .i64 n, .int .i64 l] w fun e w' => ∃ g gc, e = .returned (.tuple #[.pointer (some ⟨g, 0, none⟩), .int .i64 0]) ∧ Sep w0 (PrxC g gc cl n 0 0 false false 0 0 (.slice none 0 0) (.pointer none) :: CkT gc l 0 :: L) w' := by
  have HC := Lib.hid (cknew_s l h hl hl2)
  have HE := Lib.hid (fun wx => enough_any n wx hn)
  have d0 : decide (cl < 0) = false := decide_eq_false (by omega)
  have d1 : decide (8 ≤ cl) = false := decide_eq_false (by omega)
  have d2 : (enough n == 0) = false := beq_eq_false_iff_ne.2 he
  generalize enough n = en at *
  clear h h0 h1 hn he hl hl2
  go_enter Tryd.func19, Tryd.ntmps19
  (try dsimp only); repeat' (first | go_values | go_skip | go_guarded | go_step | go_upon | go_back)
  refine HC.out.mono ?_
  rintro r0 w1 ⟨gc, rfl, h1⟩
  have H1 := Lib.hid h1
  clear h1 HC
  (try dsimp only); repeat' (first | go_values | go_skip | go_guarded | go_step | go_upon | go_back)
  refine (HE.out _).mono ?_
  rintro r0 w2 ⟨rfl, rfl⟩
  clear HE
  (try dsimp only); repeat' (first | go_values | go_skip | go_guarded | go_step | go_upon | go_back)
  go_ret2
  exact ⟨_, gc, rfl, H1.out.alloc _⟩
set_option maxRecDepth 100000 in
theorem pxask_state (h : Sep w0 (PrxC g gc cl n num view true st k o lv tp :: L) w) (v : Array Value) (hv : v.size = 5) (k' : Int) (s' : ByteArray) (o' n' : Int) (l' : Value) (hl : NilL l') : Calls Tryd.prog 26 #[.pointer (some ⟨g, 0, none⟩), .agg #[.int .i64 k', .string s', .int .i64 o', .int .i64 n', l']] w fun e w' => e = .returned (.tuple #[.int .i64 0, .int .i64 110]) ∧ Sep w0 (PrxC g gc cl n num view true st k o lv tp :: L) w' := by
  obtain ⟨a, c, rfl, -⟩ := hl
  have h1 := h.alloc (.cells #[.int .i64 k', .string s', .int .i64 o', .int .i64 n', .slice a 0 c] 34)
  have HN := Lib.hid (pxnone_any h1.sw2)
  have H1 := Lib.hid h1.drop
  have c5 := h1.sw2.cell (o := 5) rfl
  clear h h1
  go_enter Tryd.func26, Tryd.ntmps26
  (try dsimp only); repeat' (first | go_values | go_skip | go_guarded | go_step | go_upon | go_back)
  refine HN.out.mono ?_
  rintro r0 w1 ⟨rfl, rfl⟩
  (try dsimp only); repeat' (first | go_values | go_skip | go_guarded | go_step | go_upon | go_back)
  go_ret2
  exact ⟨rfl, H1.out⟩
set_option maxRecDepth 100000 in
set_option maxHeartbeats 16000000 in
theorem pxask_ok {l p : Int} (h : Sep w0 (PrxC g gc cl n num view false st k o lv tp :: CkT gc l p :: L) w) (k' o' : Int) (l' : Value) (hl : NilL l') (hK : KindsAt w) (hok : okB k' zS o' 0 [] = true) (h0 : 0 ≤ num) (h1 : num < 2147483647) (hn : IQ n) (he : enough n ≠ 0) (hl1 : 1 ≤ l) :
    Calls Tryd.prog 26 #[.pointer (some ⟨g, 0, none⟩), .agg #[.int .i64 k', .string ⟨#[]⟩, .int .i64 o', .int .i64 0, l']] w fun e w' => ∃ lv' gt b, NilL lv' ∧ e = .returned (.tuple #[.int .i64 (num + 1), .int .i64 0]) ∧ Sep w0 (PrxC g gc cl n (num + 1) view true false k' o' lv' (.pointer (some ⟨gt, 0, none⟩)) :: CkT gc l 0 :: TalC gt b n :: BalM b [] :: L) w' := by
  obtain ⟨a, c, rfl, -⟩ := id hl
  obtain ⟨bo, hbo⟩ : ∃ z, z = w.heap.size := ⟨_, rfl⟩
  obtain ⟨wa, hwa⟩ : ∃ z, z = w.alloc (.cells #[.int .i64 k', .string ⟨#[]⟩, .int .i64 o', .int .i64 0, .slice a 0 c] 34) := ⟨_, rfl⟩
  have h1a := h.alloc (.cells #[.int .i64 k', .string ⟨#[]⟩, .int .i64 o', .int .i64 0, .slice a 0 c] 34)
  have hKa := hK.below (show Below w.heap.size w wa by rw [hwa]; exact (Below.refl _ w).alloc (Nat.le_refl _) _)
  rw [← hbo, ← hwa] at h1a
  have HN := Lib.hid (pxnone_any h1a.sw2)
  have hck := check_any k' zS o' 0 (.slice a 0 c) [] h1a (hl.ln _) hKa
  rw [hok] at hck
  have HC := Lib.hid hck
  simp only [if_true] at HC
  have HY : Hid (∀ wx M, Sep w0 M wx → Calls Tryd.prog 37 #[.agg #[.int .i64 k', .string ⟨#[]⟩, .int .i64 o', .int .i64 0, .slice a 0 c]] wx fun e w' => ∃ u, e = .returned (.agg #[.int .i64 k', .string ⟨#[]⟩, .int .i64 o', .int .i64 0, u]) ∧ NilL u ∧ Sep w0 M w') := Lib.hid fun wx M hx =>
    (copy_any k' zS o' 0 (.slice a 0 c) [] hx (hl.ln _) (by simp)).mono fun e w' ⟨u, e1, h2⟩ => ⟨u, e1, by
      have h3 := h2.lnS
      rcases h3 with ⟨a, c, e, h4, -⟩ | ⟨b, off, c, e, -⟩
      · exact ⟨a, c, e, h4⟩
      · exact ⟨_, c, e, fun h => by cases h⟩, h2.drop⟩
  have HT : Hid (∀ wx M, Sep w0 M wx → Calls Tryd.prog 41 #[.int .i64 n] wx fun e w' => ∃ gt b, e = .returned (.tuple #[.pointer (some ⟨gt, 0, none⟩), .int .i64 0]) ∧ Sep w0 (TalC gt b n :: BalM b [] :: M) w') := Lib.hid fun wx M hx => newTally_ok n wx hx hn he
  have e1 : decide (2147483647 ≤ num) = false := decide_eq_false (by omega)
  have e2 : IntKind.i64.wrap (num + 1) = num + 1 := IntWalk.i64_in _ (by omega)
  have c5 := h1a.sw2.cell (o := 5) rfl
  have d0 := h1a.cell (o := 0) rfl
  have d1 := h1a.cell (o := 1) rfl
  have d2 := h1a.cell (o := 2) rfl
  have d3 := h1a.cell (o := 3) rfl
  have d4 := h1a.cell (o := 4) rfl
  have HL1 := Lib.hid hl1
  clear h h1a hKa hck hl hK hok h0 h1 hn he hl1
  go_enter Tryd.func26, Tryd.ntmps26
  (try dsimp only); repeat' (first | go_values | go_skip | go_guarded | go_step | go_upon | go_back)
  rw [← hwa, ← hbo]
  clear hwa hbo
  (try dsimp only); repeat' (first | go_values | go_skip | go_guarded | go_step | go_upon | go_back)
  refine HN.out.mono ?_
  rintro r0 w1 ⟨rfl, rfl⟩
  clear HN
  (try dsimp only); repeat' (first | go_values | go_skip | go_guarded | go_step | go_upon | go_back)
  refine HC.out.mono ?_
  rintro r0 w2 ⟨rfl, h2⟩
  have q3 := h2.sw2.cell (o := 3) rfl
  have q3f := h2.sw2.frozen 3
  have h3 := h2.sw2.setCell 3 (.int .i64 (num + 1))
  have h3q : Sep w0 (PrxC g gc cl n (num + 1) view false st k o lv tp :: Cl bo #[.int .i64 k', .string ⟨#[]⟩, .int .i64 o', .int .i64 0, .slice a 0 c] 34 :: CkT gc l p :: L) _ := h3
  have y0 := h3q.sw2.cell (o := 0) rfl
  have y1 := h3q.sw2.cell (o := 1) rfl
  have y2 := h3q.sw2.cell (o := 2) rfl
  have y3 := h3q.sw2.cell (o := 3) rfl
  have y4 := h3q.sw2.cell (o := 4) rfl
  have HQ := Lib.hid (HY.out _ _ h3q)
  clear d0 d1 d2 d3 d4 c5 HC HY h2 h3 h3q
  (try dsimp only); repeat' (first | go_values | go_skip | go_guarded | go_step | go_upon | go_back)
  refine HQ.out.mono ?_
  rintro r0 w3 ⟨u, rfl, ⟨ua, uc, rfl, hu⟩, h4⟩
  have HU := Lib.hid hu
  have h5 := h4.setCell 5 (.bool true)
  have h6 := h5.setCell 6 (.bool false)
  have h7 := ((((h6.setCell 7 (.int .i64 k')).setCell 8 (.string ⟨#[]⟩)).setCell 9 (.int .i64 o')).setCell 10 (.int .i64 0)).setCell 11 (.slice ua 0 uc)
  have h7q : Sep w0 (PrxC g gc cl n (num + 1) view true false k' o' (.slice ua 0 uc) tp :: Cl bo #[.int .i64 k', .string ⟨#[]⟩, .int .i64 o', .int .i64 0, .slice a 0 c] 34 :: CkT gc l p :: L) _ := h7
  have z0 := h4.cell (o := 0) rfl
  have z1 := h4.cell (o := 1) rfl
  have z2 := h4.cell (o := 2) rfl
  have z3 := h4.cell (o := 3) rfl
  have z4 := h4.cell (o := 4) rfl
  have z5 := h4.cell (o := 5) rfl
  have z6 := h4.cell (o := 6) rfl
  have z7 := h4.cell (o := 7) rfl
  have z8 := h4.cell (o := 8) rfl
  have z9 := h4.cell (o := 9) rfl
  have z10 := h4.cell (o := 10) rfl
  have z11 := h4.cell (o := 11) rfl
  have z12 := h4.cell (o := 12) rfl
  have zf0 := h4.frozen 0
  have zf1 := h4.frozen 1
  have zf2 := h4.frozen 2
  have zf3 := h4.frozen 3
  have zf4 := h4.frozen 4
  have zf5 := h4.frozen 5
  have zf6 := h4.frozen 6
  have zf7 := h4.frozen 7
  have zf8 := h4.frozen 8
  have zf9 := h4.frozen 9
  have zf10 := h4.frozen 10
  have zf11 := h4.frozen 11
  have zf12 := h4.frozen 12
  have x2 := h7q.cell (o := 2) rfl
  have HR := Lib.hid (HT.out _ _ h7q)
  clear HQ HT h4 h5 h6 h7 h7q y0 y1 y2 y3 y4 q3 q3f hu
  (try dsimp only); repeat' (first | go_values | go_skip | go_guarded | go_step | go_upon | go_back)
  refine HR.out.mono ?_
  rintro r0 w4 ⟨gt, b, rfl, h8⟩
  have h9 := h8.sw3.setCell 12 (.pointer (some ⟨gt, 0, none⟩))
  have h9q : Sep w0 (CkT gc l p :: PrxC g gc cl n (num + 1) view true false k' o' (.slice ua 0 uc) (.pointer (some ⟨gt, 0, none⟩)) :: TalC gt b n :: BalM b [] :: L) _ := h9.pickL (M := [_, _, _, _, _]) [4, 0, 1, 2] rfl
  have v12 := h8.sw3.cell (o := 12) rfl
  have v12f := h8.sw3.frozen 12
  have u0 := h9q.sw2.cell (o := 0) rfl
  have HS := Lib.hid (ckreset_s h9q HL1.out)
  clear HR h8 h9 h9q x2 z0 z1 z2 z3 z4 z5 z6 z7 z8 z9 z10 z11 z12
  (try dsimp only); repeat' (first | go_values | go_skip | go_guarded | go_step | go_upon | go_back)
  refine HS.out.mono ?_
  rintro r0 w5 ⟨⟨x, rfl⟩, h10⟩
  have t3 := h10.sw2.cell (o := 3) rfl
  have H10 := Lib.hid h10.sw2
  clear HS h10 u0 v12 v12f
  (try dsimp only); repeat' (first | go_values | go_skip | go_guarded | go_step | go_upon | go_back)
  go_ret2
  exact ⟨_, gt, b, ⟨ua, uc, rfl, HU.out⟩, rfl, H10.out⟩
end Go.Proofs.YtdemconpdjgimaaDoor
