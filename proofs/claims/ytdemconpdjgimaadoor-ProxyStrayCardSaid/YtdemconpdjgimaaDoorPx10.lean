/- A proxy of client 2: what it takes in; made. -/
import Derived.Test.YtdemconpdjgimaaDoorPx9
namespace Go.Proofs.YtdemconpdjgimaaDoor
open Go.RowKit
set_option linter.unusedVariables false
set_option linter.unusedSimpArgs false
variable {w0 w : World} {g gc gt b : Nat} {num view : Int} {wt st : Bool} {k o : Int} {lv tp : Value} {S : List (Bal × Nat)} {L : List Thing}
def CntR (w0 : World) (g gc : Nat) (n : Int) (num view : Int) (wt st : Bool) (k o : Int) (lv tp : Value) (m : MsM) (c : Bool) : Prop :=
  ∀ wx M, Sep w0 (PrxC g gc 2 n num view wt st k o lv tp :: M) wx → Calls Tryd.prog 21 #[.pointer (some ⟨g, 0, none⟩), .agg (msC m (.slice none 0 0) (.slice none 0 0) (.slice none 0 0))] wx fun e w' => e = .returned (.bool c) ∧ Sep w0 (PrxC g gc 2 n num view wt st k o lv tp :: M) w'
def chkM (m : MsM) : Bool := if m.k = 2 then chk2 m else if m.k = 10 then chk10 m else chk4 m
def cntM (wt : Bool) (n num : Int) (m : MsM) : Bool := cntsB wt (chkM m) 2 n num m.k m.t m.f m.ec m.em
theorem cnt_2 {n : Int} (hM : MKindsAt w0) (m : MsM) (hk : m.k = 2) : CntR w0 g gc n num view wt st k o lv tp m (cntM wt n num m) := by
  intro wx M hx
  unfold cntM chkM
  rw [if_pos hk]
  obtain ⟨mk, mf, mt, mv, mo, mc, ml, ec, em, rc, ra, rb, ms⟩ := m
  exact pxcounts_any hx (by decide) (by decide) fun wy M' hy => mcheck_2 _ hy nil0 nil0 nil0 (hM.below hy.low) hk
theorem cnt_10 {n : Int} (hM : MKindsAt w0) (m : MsM) (hk : m.k = 10) (hr : m.rc = 0 ∧ m.ra = 0 ∧ m.rb = 0 ∧ m.s = false) : CntR w0 g gc n num view wt st k o lv tp m (cntM wt n num m) := by
  intro wx M hx
  unfold cntM chkM
  rw [if_neg (by omega), if_pos hk]
  obtain ⟨mk, mf, mt, mv, mo, mc, ml, ec, em, rc, ra, rb, ms⟩ := m
  exact pxcounts_any hx (by decide) (by decide) fun wy M' hy => mcheck_10 _ hy nil0 nil0 nil0 (hM.below hy.low) hk hr
theorem cnt_4 {n : Int} (hM : MKindsAt w0) (m : MsM) (hk : m.k = 4) (he : m.ec = 0 ∧ m.em = 0) (hr : m.rc = 0 ∧ m.ra = 0 ∧ m.rb = 0 ∧ m.s = false) : CntR w0 g gc n num view wt st k o lv tp m (cntM wt n num m) := by
  intro wx M hx
  unfold cntM chkM
  rw [if_neg (by omega), if_neg (by omega)]
  obtain ⟨mk, mf, mt, mv, mo, mc, ml, ec, em, rc, ra, rb, ms⟩ := m
  exact pxcounts_any hx (by decide) (by decide) fun wy M' hy => mcheck_4 _ hy nil0 nil0 nil0 (hM.below hy.low) hk he hr
/-- A reply. -/
def rM (who v o a em : Int) (s : Bool) : MsM := ⟨2, who, 17, v, o, 0, 0, 2, em, 0, a, 0, s⟩
structure ROk (n : Int) (who v o a em : Int) : Prop where
  w0 : 0 ≤ who
  w1 : who < n
  nn : n ≤ 15
  v0 : 0 ≤ v
  v1 : v ≤ 9007199254740991
  o0 : 0 ≤ o
  o1 : o ≤ 9007199254740991
  a0 : 0 ≤ a
  a1 : a ≤ 2147483647
  e0 : 1 ≤ em
  e1 : em ≤ 2147483647
theorem holds_t {n : Int} (h0 : 0 ≤ n) (h1 : n ≤ 9007199254740991) : holdsB true n = true := by
  unfold holdsB numB
  split
  · rfl
  · rw [decide_eq_true ⟨h0, h1⟩]; rfl
theorem chk_r {n who v o a em : Int} {s : Bool} (h : ROk n who v o a em) : chkM (rM who v o a em s) = true := by
  unfold chkM
  rw [if_pos (show (rM who v o a em s).k = 2 from rfl)]
  unfold chk2 rM
  dsimp only
  rw [holds_t h.v0 h.v1, holds_t h.o0 h.o1, show partB who = true from decide_eq_true (by have := h.w0; have := h.w1; have := h.nn; omega), show partB 17 = true from rfl, show holdsB false 0 = true from rfl, show hdB 2 em = true from decide_eq_true ⟨by decide, by decide, h.e0, h.e1⟩, show resB 0 a 0 = true from decide_eq_true ⟨by decide, by decide, h.a0, by decide, h.a1, by decide⟩]
  rfl
theorem cnt_r {n who v o a em num : Int} {s : Bool} (h : ROk n who v o a em) : cntM wt n num (rM who v o a em s) = (wt && (em == num)) := by
  unfold cntM
  rw [chk_r h]
  unfold cntsB rM
  dsimp only
  rw [decide_eq_true h.w1]
  simp
theorem iq0 : IQ 0 := by unfold IQ; omega
def rBal (v o a : Int) (hv : IQ v) (ho : IQ o) (ha : IQ a) : Bal := ⟨(v, o, 0, a, 0), hv, ho, iq0, ha, iq0⟩
def zTup : Value := .tuple #[.agg #[.int .i64 0, .int .i64 0, .int .i64 0], .int .i64 0, .bool false, .bool false]
/-- What isn't counted. -/
theorem tk_no {n : Int} (m : MsM) (h : Sep w0 (PrxC g gc 2 n num view wt st k o lv tp :: L) w) (hc : CntR w0 g gc n num view wt st k o lv tp m false) :
    Calls Tryd.prog 11 #[.pointer (some ⟨g, 0, none⟩), .agg (msC m (.slice none 0 0) (.slice none 0 0) (.slice none 0 0))] w fun e w' => e = .returned zTup ∧ Sep w0 (PrxC g gc 2 n num view wt st k o lv tp :: L) w' := by
  obtain ⟨mk, mf, mt, mv, mo, mc, ml, ec, em, rc, ra, rb, ms⟩ := m
  exact pxtake_no h hc
theorem tk_few {n who : Nat} {v q a : Int} (hm : MKindsAt w0) (h : Sep w0 (PrxC g gc 2 n num view true st k o lv (.pointer (some ⟨gt, 0, none⟩)) :: TalC gt b n :: BalM b S :: L) w) (hr : ROk n who v q a num) (hS : Small S) (hv : IQ v) (ho : IQ q) (ha : IQ a)
    (hf : ¬ enough n ≤ (popc ((mget S (rBal v q a hv ho ha)).getD 0 ||| 2 ^ who) : Nat)) :
    Calls Tryd.prog 11 #[.pointer (some ⟨g, 0, none⟩), .agg (msC (rM who v q a num false) (.slice none 0 0) (.slice none 0 0) (.slice none 0 0))] w fun e w' => e = .returned zTup ∧ Sep w0 (PrxC g gc 2 n num (maxI view v) true st k o lv (.pointer (some ⟨gt, 0, none⟩)) :: TalC gt b n :: BalM b (addS S (rBal v q a hv ho ha) who) :: L) w' := by
  have hc := cnt_2 (g := g) (gc := gc) (n := (n : Int)) (num := num) (view := view) (wt := true) (st := st) (k := k) (o := o) (lv := lv) (tp := .pointer (some ⟨gt, 0, none⟩)) hm (rM who v q a num false) rfl
  rw [cnt_r hr, show (true && (num == num)) = true by simp] at hc
  exact pxtake_few h hc (by have := hr.w1; omega) (by have := hr.nn; omega) hS hv ho (by unfold IQ; omega) ha (by unfold IQ; omega) hf
theorem tk_won {n who : Nat} {v q a : Int} (hm : MKindsAt w0) (h : Sep w0 (PrxC g gc 2 n num view true st k o lv (.pointer (some ⟨gt, 0, none⟩)) :: TalC gt b n :: BalM b S :: L) w) (hr : ROk n who v q a num) (hS : Small S) (hv : IQ v) (ho : IQ q) (ha : IQ a)
    (hf : enough n ≤ (popc ((mget S (rBal v q a hv ho ha)).getD 0 ||| 2 ^ who) : Nat)) :
    Calls Tryd.prog 11 #[.pointer (some ⟨g, 0, none⟩), .agg (msC (rM who v q a num false) (.slice none 0 0) (.slice none 0 0) (.slice none 0 0))] w fun e w' => e = .returned (.tuple #[.agg #[.int .i64 0, .int .i64 a, .int .i64 0], .int .i64 q, .bool false, .bool true]) ∧ Sep w0 (PrxC g gc 2 n num (maxI view v) false st 0 0 (.slice none 0 0) (.pointer none) :: L) w' := by
  have hc := cnt_2 (g := g) (gc := gc) (n := (n : Int)) (num := num) (view := view) (wt := true) (st := st) (k := k) (o := o) (lv := lv) (tp := .pointer (some ⟨gt, 0, none⟩)) hm (rM who v q a num false) rfl
  rw [cnt_r hr, show (true && (num == num)) = true by simp] at hc
  exact (pxtake_won h hc (by have := hr.w1; omega) (by have := hr.nn; omega) hS hv ho (by unfold IQ; omega) ha (by unfold IQ; omega) hf).mono fun e w' ⟨h1, h2⟩ => ⟨h1, h2.sw2.drop.sw2.drop⟩
theorem tk_sure {n : Int} {who v q a : Int} (hm : MKindsAt w0) (h : Sep w0 (PrxC g gc 2 n num view true st k o lv tp :: L) w) (hr : ROk n who v q a num) :
    Calls Tryd.prog 11 #[.pointer (some ⟨g, 0, none⟩), .agg (msC (rM who v q a num true) (.slice none 0 0) (.slice none 0 0) (.slice none 0 0))] w fun e w' => e = .returned (.tuple #[.agg #[.int .i64 0, .int .i64 a, .int .i64 0], .int .i64 q, .bool true, .bool true]) ∧ Sep w0 (PrxC g gc 2 n num (maxI view v) false st 0 0 (.slice none 0 0) (.pointer none) :: L) w' := by
  have hc := cnt_2 (g := g) (gc := gc) (n := n) (num := num) (view := view) (wt := true) (st := st) (k := k) (o := o) (lv := lv) (tp := tp) hm (rM who v q a num true) rfl
  rw [cnt_r hr, show (true && (num == num)) = true by simp] at hc
  exact pxtake_sure h hc
theorem tk_off {n : Int} {who v q a em : Int} {s : Bool} (hm : MKindsAt w0) (h : Sep w0 (PrxC g gc 2 n num view wt st k o lv tp :: L) w) (hr : ROk n who v q a em) (hf : (wt && (em == num)) = false) :
    Calls Tryd.prog 11 #[.pointer (some ⟨g, 0, none⟩), .agg (msC (rM who v q a em s) (.slice none 0 0) (.slice none 0 0) (.slice none 0 0))] w fun e w' => e = .returned zTup ∧ Sep w0 (PrxC g gc 2 n num view wt st k o lv tp :: L) w' := by
  have hc := cnt_2 (g := g) (gc := gc) (n := n) (num := num) (view := view) (wt := wt) (st := st) (k := k) (o := o) (lv := lv) (tp := tp) hm (rM who v q a em s) rfl
  rw [cnt_r hr, hf] at hc
  exact tk_no _ h hc
theorem okShip {n : Int} (h0 : 1 ≤ n) (h1 : n ≤ 2147483647) : okB 6 zS n 0 [] = true := by
  have h : okB 6 zS n 0 [] = (true && qtyB n) := by
    unfold okB
    rw [show fieldsOf 6 = 2 by decide]
    unfold skuB ordB cntB linB
    simp [zS]
  rw [h]
  unfold qtyB
  simp [h0, h1]
theorem enough_odd (x : Int) (h0 : 0 ≤ x) (h1 : x < 7) : enough (3 + 2 * x) = x + 2 := by
  unfold enough
  rw [if_pos (by omega)]
  omega
/-- A proxy that waits, and its clock and tally. -/
abbrev WaitL (g gc gt b : Nat) (n : Nat) (num view : Int) (st : Bool) (o : Int) (la : Option Addr) (lc : Nat) (l p : Int) (S : List (Bal × Nat)) (L : List Thing) : List Thing :=
  PrxC g gc 2 n num view true st 6 o (.slice la 0 lc) (.pointer (some ⟨gt, 0, none⟩)) :: CkT gc l p :: TalC gt b n :: BalM b S :: L
theorem ask2_ok {n : Nat} {l p : Int} (h : Sep w0 (PrxC g gc 2 n num view false st k o lv tp :: CkT gc l p :: L) w) (q : Int) (hq0 : 1 ≤ q) (hq1 : q ≤ 2147483647) (hK : KindsAt w0) (h0 : 0 ≤ num) (h1 : num < 2147483647) (hn : n ≤ 15) (he : enough n ≠ 0) (hl1 : 1 ≤ l) :
    Calls Tryd.prog 17 #[.pointer (some ⟨g, 0, none⟩), .agg (shipC q), .int .i64 (num + 1), .int .i64 0] w fun e w' => e = .returned (.bool true) ∧ ∃ la lc gt b, (la = none → lc = 0) ∧ Sep w0 (WaitL g gc gt b n (num + 1) view false q la lc l 0 [] L) w' := by
  have h2 := asks_any (n' := num + 1) (e' := 0) (P := fun w' => ∃ la lc gt b, (la = none → lc = 0) ∧ Sep w0 (WaitL g gc gt b n (num + 1) view false q la lc l 0 [] L) w') (g := g) q (num + 1) 0 h (fun wx hx => (pxask_ok hx 6 q (.slice none 0 0) nil0 (hK.below hx.low) (okShip hq0 hq1) h0 h1 (by unfold IQ; omega) he hl1).mono fun e w' ⟨lv', gt, b, ⟨la, lc, e1, e2⟩, e3, h3⟩ => ⟨e3, la, lc, gt, b, e2, by rw [e1] at h3; exact h3⟩)
  simpa using h2
theorem ask2_no {n : Nat} {l p : Int} (h : Sep w0 (PrxC g gc 2 n num view true st k o lv tp :: L) w) (q : Int) :
    Calls Tryd.prog 17 #[.pointer (some ⟨g, 0, none⟩), .agg (shipC q), .int .i64 0, .int .i64 110] w fun e w' => e = .returned (.bool true) ∧ Sep w0 (PrxC g gc 2 n num view true st k o lv tp :: L) w' := by
  have h2 := asks_any (n' := 0) (e' := 110) (P := fun w' => Sep w0 (PrxC g gc 2 n num view true st k o lv tp :: L) w') (g := g) q 0 110 h (fun wx hx => pxask_state hx #[.bool true, .bool true, .bool true, .bool true, .bool true] rfl 6 ⟨#[]⟩ q 0 (.slice none 0 0) nil0)
  simpa using h2
set_option maxRecDepth 100000 in
set_option maxHeartbeats 16000000 in
theorem made_any (f lim : Int) (h : Sep w0 L w) (hK : KindsAt w0) (n : Nat) (hn : (n : Int) = 3 + 2 * (f % 7)) :
    Calls Tryd.prog 8 #[.int .i64 f, .int .i64 lim] w fun e w' => ∃ g gc gt b la lc, e = .returned (.tuple #[.pointer (some ⟨g, 0, none⟩), .int .i64 n]) ∧ (la = none → lc = 0) ∧ Sep w0 (WaitL g gc gt b n 1 0 false 1 la lc (1 + lim % 30) 0 [] L) w' := by
  have HB7 := Lib.hid (fun wx => bring_any f 7 wx (by unfold Sm; omega))
  have HB30 := Lib.hid (fun wx => bring_any lim 30 wx (by unfold Sm; omega))
  obtain ⟨x, hx⟩ : ∃ x, x = f % 7 := ⟨_, rfl⟩
  obtain ⟨y, hy⟩ : ∃ y, y = lim % 30 := ⟨_, rfl⟩
  rw [← hx] at HB7 hn
  rw [← hy] at HB30 ⊢
  have x0 : 0 ≤ x := by omega
  have x7 : x < 7 := by omega
  have y0 : 0 ≤ y := by omega
  have y30 : y < 30 := by omega
  clear hx hy
  have he : enough n ≠ 0 := by rw [hn, enough_odd x x0 x7]; omega
  have e1 : IntKind.i64.wrap (2 * x) = 2 * x := IntWalk.i64_in _ (by omega)
  have e2 : IntKind.i64.wrap (3 + 2 * x) = (n : Int) := by rw [hn]; exact IntWalk.i64_in _ (by omega)
  have e3 : IntKind.i64.wrap (1 + y) = 1 + y := IntWalk.i64_in _ (by omega)
  have hn15 : n ≤ 15 := by omega
  have HNW := Lib.hid (pxnew_ok 2 n (1 + y) h (by decide) (by decide) (by unfold IQ; omega) he (by omega) (by omega))
  have HA : Hid (∀ g gc wx, Sep w0 (PrxC g gc 2 n 0 0 false false 0 0 (.slice none 0 0) (.pointer none) :: CkT gc (1 + y) 0 :: L) wx → Calls Tryd.prog 17 #[.pointer (some ⟨g, 0, none⟩), .agg (shipC 1), .int .i64 1, .int .i64 0] wx fun e w' => e = .returned (.bool true) ∧ ∃ la lc gt b, (la = none → lc = 0) ∧ Sep w0 (WaitL g gc gt b n 1 0 false 1 la lc (1 + y) 0 [] L) w') := Lib.hid fun g gc wx hx => ask2_ok hx 1 (by decide) (by decide) hK (by decide) (by decide) hn15 he (by omega)
  clear h hK hn he hn15
  go_enter Tryd.func8, Tryd.ntmps8
  (try dsimp only); repeat' (first | go_values | go_skip | go_guarded | go_step | go_upon | go_back)
  refine (HB7.out _).mono ?_
  rintro r0 w1 ⟨rfl, rfl⟩
  clear HB7
  (try dsimp only); repeat' (first | go_values | go_skip | go_guarded | go_step | go_upon | go_back)
  refine (HB30.out _).mono ?_
  rintro r0 w1 ⟨rfl, rfl⟩
  clear HB30
  (try dsimp only); repeat' (first | go_values | go_skip | go_guarded | go_step | go_upon | go_back)
  refine HNW.out.mono ?_
  rintro r0 w2 ⟨g, gc, rfl, h2⟩
  have H2 := Lib.hid h2
  clear h2 HNW
  (try dsimp only); repeat' (first | go_values | go_skip | go_guarded | go_step | go_upon | go_back)
  refine (ship_any 1 H2.out).mono ?_
  rintro r0 w3 ⟨rfl, h3⟩
  have HA3 := Lib.hid (HA.out _ _ _ h3)
  clear H2 h3 HA
  (try dsimp only); repeat' (first | go_values | go_skip | go_guarded | go_step | go_upon | go_back)
  refine HA3.out.mono ?_
  rintro r0 w4 ⟨rfl, la, lc, gt, b, hla, h4⟩
  have H4 := Lib.hid (And.intro hla h4)
  clear HA3 h4 hla
  (try dsimp only); repeat' (first | go_values | go_skip | go_guarded | go_step | go_upon | go_back)
  go_ret2
  exact ⟨g, gc, gt, b, la, lc, rfl, H4.out.1, H4.out.2⟩
end Go.Proofs.YtdemconpdjgimaaDoor
