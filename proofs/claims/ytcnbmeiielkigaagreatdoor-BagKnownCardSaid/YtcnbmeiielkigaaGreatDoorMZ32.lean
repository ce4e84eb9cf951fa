/- Package bag: To. A loop over an iterator that reads the things beside it. -/
import Derived.Test.YtcnbmeiielkigaaGreatDoorMZ08
import Derived.Test.YtcnbmeiielkigaaGreatDoorMZ31
namespace Go.Proofs.YtcnbmeiielkigaaGreatDoor
open Go Go.RowKit Go.Shelf
set_option linter.unusedVariables false
set_option linter.unusedSimpArgs false
attribute [local go_sem] Oper.semAt_some
/-- What an iterator gives that reads on: Pre holds all the way. -/
def GivesR {α : Type} (F : Fence) (n : Nat) (P : Program) (gf : Nat) (fb lb : Array Value) (encs : α → Array Value) (xs : List α) (Pre : World → Prop) : Prop :=
 ∀ (l : Nat) (J : List α → World → Prop), (∀ s W W', Below W.heap.size W W' → J s W → J s W') → (∀ s W, J s W → Pre W) →
  (∀ pre x rest W1, xs = pre ++ x :: rest → J pre W1 → YieldAt F (n - 1) P l (encs x) W1 fun e W' => e = .returned (.bool true) ∧ J (pre ++ [x]) W') →
  ∀ W, J [] W → CallsIn F n P gf (fb ++ #[.func (.yield l) #[] #[]] ++ lb) W fun e W' => (∃ v, e = .returned v) ∧ J xs W'
theorem range_sepR {α : Type} {F : Fence} {n : Nat} {P : Program} {g : Operand} {ps : Array Tmp} {assign body : Code} {Q : Exit → Act → World → Prop} {a : Act} {w w0 : World}
  (hro : F.round = none) (h1 : 1 ≤ n) {gf : Nat} {fb lb : Array Value} (hg : a.eval g = .func (.func gf) fb lb) (hFg : F.fn gf) (eg : ∀ args w, (callFunc gf args).run P w = .ok (.enter gf args) w)
  {encs : α → Array Value} (xs : List α) (hps : ∀ x, (encs x).size = ps.size) (M : List α → List Thing) (h0 : Sep w0 (M []) w) {Pre : World → Prop} (hseq : GivesR F (n - 1) P gf fb lb encs xs Pre)
  (hpre : ∀ s A B W, Sep w0 (A :: B :: M s) W → Pre W) (a₁ : α → Act)
  (hassign : ∀ (l : Nat) (x : α) (W : World) (K : Act → World → Prop), K (a₁ x) W →
   assign.wpIn (F.inRound l) (n - 1 - 1) P (Exit.then K (fun _ _ _ => False)) { tmps := (ps.zip (encs x)).foldl (fun t (p, v) => t.setIfInBounds p v) a.tmps, defers := [] } W)
  (hbody : ∀ (l : Nat) (pre : List α) (x : α) (rest : List α) (A B : Thing) (W : World), xs = pre ++ x :: rest → Sep w0 (A :: B :: M pre) W → body.wpIn (F.inRound l) (n - 1 - 1) P (onlyOn (Sep w0 (A :: B :: M (pre ++ [x])))) (a₁ x) W)
  (hdone : ∀ (D : Nat) (W : World), Sep w0 (Blk D (.deferred (some [])) :: M xs) W → Q .normal { a with defers := { target := .collected D, args := #[] } :: a.defers } W) :
  (Code.rangeFunc g ps assign body).wpIn F n P Q a w := by
 refine wpIn_rangeFunc ?_
 intro fn hfn
 rw [hro]
 have h2 := (h0.alloc (.deferred (some []))).alloc (.loop { state := .ready, pending := none, fn, tmps := a.tmps, params := ps, assign, body, defers := w.heap.size })
 rw [World.size_alloc] at h2
 obtain ⟨W1, hW1⟩ : ∃ W1, (w.alloc (.deferred (some []))).alloc (.loop { state := .ready, pending := none, fn, tmps := a.tmps, params := ps, assign, body, defers := w.heap.size }) = W1 := ⟨_, rfl⟩
 rw [hW1] at h2
 refine ⟨w.heap.size + 1, [{ target := .collected w.heap.size, args := #[] }], W1, { target := .fn (.func gf) lb, args := fb ++ #[.func (.yield (w.heap.size + 1)) #[] #[]] }, W1, gf, fb ++ #[.func (.yield (w.heap.size + 1)) #[] #[]] ++ lb, W1, ?_, ?_, ?_, ?_, fun _ => h1, ?_⟩
 ·rw [← hW1]; exact run_enterLoop_outer _ _ _ _ _
 ·simp only [resolve, hg]
  simp [go_sem]
 ·intro f' hf'
  simp [Target.leads] at hf'
  subst hf'
  exact hFg
 ·simp [invoke, go_sem, eg]
 ·refine (hseq (w.heap.size + 1) (fun pre W => Sep w0 (Blk (w.heap.size + 1) (.loop { state := .ready, pending := none, fn, tmps := a.tmps, params := ps, assign, body, defers := w.heap.size }) :: Blk w.heap.size (.deferred (some [])) :: M pre) W)
   (fun s W W' hb hs => hs.below hb) (fun s W hs => hpre s _ _ W hs) ?_ _ h2).mono ?_
  ·intro pre x rest W1 hx hs
   have hl := hs.blk
   refine ⟨fn, _, assign, body, run_yield hl (hps x), roundIn_of_wpIn hfn (hassign _ x W1 _ ⟨_, run_beginRound hl rfl, ?_⟩)⟩
   refine wpIn_mono (hbody _ pre x rest _ _ _ hx (hs.putObj _)) ?_
   rintro e a3 W3 hp
   cases e with
   | normal => exact ⟨_, _, run_endRound none (Sep.blk hp), rfl, Sep.putObj hp _⟩
   | ret => exact hp.elim
   | exit id => exact hp.elim
   | goto t => exact hp.elim
   | panic ch => exact hp.elim
   | outgrown => exact hp.elim
  ·rintro e W2 ⟨⟨v, rfl⟩, hs⟩
   exact ⟨none, _, run_endLoop hs.blk (by simp), hdone _ _ (hs.putObj _).drop⟩
theorem wpListIn_load_run {F : Fence} {n : Nat} {P : Program} {ops : Array Oper} {rest : List Oper} {o : Oper} {a : Act} {w : World} {Q : Exit → Act → World → Prop} (hg : o.guard = none) (t : TypeId) (x : Operand) (hop : o.op = .load t x) (p v : Value) (hx : a.eval x = p)
  (hr : (Instr.loadAt t p).run P w = .ok v w) (hK : wpListIn F n P ops Q rest (a.put o.dst v) w) : wpListIn F n P ops Q (o :: rest) a w := by
 refine wpListIn_plain hg fun K' hK' => ?_
 unfold Oper.wpIn
 refine ⟨by simp [Oper.about, hop], ?_⟩
 rw [Oper.semAt_plain F _ _ (by rw [hop]; intro c hc; cases hc)]
 simp [execOp, hop, hx, hr, Result.andThen]
 exact hK' _ _ hK
theorem wpListIn_store_mid {F : Fence} {n : Nat} {P : Program} {ops : Array Oper} {rest : List Oper} {op : Oper} {a : Act} {w : World} {Q : Exit → Act → World → Prop} (hg : op.guard = none) (ty : TypeId) (x y : Operand) (ho : op.op = .store ty x y)
  (b o : Nat) (cells : Array Value) (hx : a.eval x = .pointer (some ⟨b, o, none⟩)) (hy : a.eval y = .agg cells)
  (ht : w.there b o cells.size) (hi : (P.info? ty).map (·.size) = some cells.size) (h1 : cells.all (·.oneCell') = true)
  (hK : wpListIn F n P ops Q rest (a.put op.dst undef) (w.setCells b o cells.toList)) : wpListIn F n P ops Q (op :: rest) a w := by
 refine wpListIn_plain hg fun K' hK' => ?_
 unfold Oper.wpIn
 refine ⟨by simp [Oper.about, ho], ?_⟩
 rw [Oper.semAt_plain F _ _ (by rw [ho]; intro c hc; cases hc)]
 unfold execOp
 simp only [ho, hx, hy, Instr.storeAt, Instr.sureAddr, Sem.run_bind, Sem.run_pure, Result.andThen_ok, run_storeVar_mid w b o ty cells ht hi h1]
 exact hK' _ _ hK
theorem wpListIn_append_run {F : Fence} {n : Nat} {P : Program} {w : World} {ops : Array Oper} {rest : List Oper} {o : Oper} {a : Act} {Q : Exit → Act → World → Prop} (hg : o.guard = none) (s x : Operand) (t u : TypeId)
  (hop : o.op = .call { callee := .builtin .append, args := #[s, x], argTypes := #[t, u] }) {v y v' : Value} {w' : World} (hs : a.eval s = v) (hx : a.eval x = y)
  (hr : (Builtin.append_ #[t, u] o.type #[v, y]).run P w = .ok v' w') (hK : wpListIn F n P ops Q rest (a.put o.dst v') w') : wpListIn F n P ops Q (o :: rest) a w := by
 refine wpListIn_plain hg fun K' hK' => ?_
 unfold Oper.wpIn
 refine ⟨?_, ?_⟩
 ·simp [Oper.about, hop, resolve, Target.leads, Sem.run_pure]
 ·rw [Oper.semAt_plain F _ _ (by rw [hop]; intro c hc'; cases hc')]
  simp [execOp, hop, resolve, invoke, builtin, hs, hx, hr, Result.andThen]
  exact hK' _ _ hK
/-- The places of messages to somebody, below k. -/
def posF (p : Nat → Bool) (k : Nat) : List Nat := (List.range k).filter p
theorem posF_hit (p : Nat → Bool) (k : Nat) (h : p k = true) : posF p (k + 1) = posF p k ++ [k] := by unfold posF; rw [List.range_succ, List.filter_append, List.filter_cons_of_pos h]; rfl
theorem posF_miss (p : Nat → Bool) (k : Nat) (h : p k = false) : posF p (k + 1) = posF p k := by unfold posF; rw [List.range_succ, List.filter_append, List.filter_cons_of_neg (by simp [h]), List.filter_nil, List.append_nil]
theorem posF_at (p : Nat → Bool) (k : Nat) (h : p k = true) : ∀ n, k < n → ∃ rest, posF p n = posF p k ++ k :: rest
 | 0, hk => by omega
 | n + 1, hk => by
  by_cases he : k = n
  ·subst he; exact ⟨[], posF_hit p k h⟩
  ·obtain ⟨rest, hr⟩ := posF_at p k h n (by omega)
   cases hp : p n with
   | true => exact ⟨rest ++ [n], by rw [posF_hit p n hp, hr]; simp⟩
   | false => exact ⟨rest, by rw [posF_miss p n hp, hr]⟩
def toP (ms : List MsM) (who : Int) (k : Nat) : Bool := match ms[k]? with | some m => m.t == who | none => false
/-- What the iterator reads. -/
def AdrP (g b2 b3 : Nat) (who : Int) (a : Option Addr) (n c : Nat) (rows : List (Array Value)) (W : World) : Prop :=
 W.cell? ⟨b2, 0, none⟩ = some (.pointer (some ⟨g, 0, none⟩)) ∧ W.cell? ⟨b3, 0, none⟩ = some (.int .i64 who) ∧ W.cell? ⟨g, 1, none⟩ = some (.slice a n c) ∧
  ∀ k (hk : k < rows.length), ∃ b off, a = some ⟨b, off, none⟩ ∧ (Instr.loadAt 40 (.pointer (some ⟨b, off + k * 22, none⟩))).run Tryz.prog W = .ok (.agg rows[k]) W
set_option maxRecDepth 100000 in
set_option maxHeartbeats 16000000 in
theorem adr_gives (N g b2 b3 : Nat) (who : Int) (a : Option Addr) (n c : Nat) (rows : List (Array Value)) (ms : List MsM) (hm : MsgsC rows ms) (hn : rows.length = n) (hl : n ≤ 100000) :
  GivesR Fence.wide N Tryz.prog 57 #[] #[.pointer (some ⟨b2, 0, none⟩), .pointer (some ⟨b3, 0, none⟩)] (fun k : Nat => #[.int .i64 k]) (posF (toP ms who) n) (AdrP g b2 b3 who a n c rows) := by
 intro l J hJb hJP hY W h0
 obtain ⟨x2, x3, x1, -⟩ := hJP _ _ h0
 refine callsIn_of_wp Tryz.func57 rfl trivial ?_ rfl
 simp only [Tryz.ntmps57, List.size_toArray, List.length_cons, List.length_nil, Nat.reduceAdd, Nat.reduceSub, Array.replicate_succ, Array.replicate_zero, List.push_toArray, List.append_toArray, List.nil_append, List.cons_append]
 have HM := Lib.hid (And.intro hm hn)
 have HB := Lib.hid hJb
 have HP := Lib.hid hJP
 have HY := Lib.hid hY
 have n0 : (0 : Int) ≤ (n : Int) := by omega
 clear hm hn hJb hJP hY
 gi_wp2
 gi_loopw [11] (fun i wr => ∃ k : Nat, k ≤ n ∧ i = .int .i64 k ∧ J (posF (toP ms who) k) wr) (fun i _ => n - (intOf i).toNat)
 case atStart => exact ⟨0, Nat.zero_le _, rfl, h0⟩
 case round =>
  obtain ⟨k, hk, rfl, hJs⟩ := hrel
  clear h0 x1 x2 x3
  have k0 : (0 : Int) ≤ (k : Int) := by omega
  have k9 : (k : Int) ≤ 100000 := by omega
  by_cases hkn : k < n
  ·have d0 : decide (k < n) = true := decide_eq_true hkn
   have k1 : (k : Int) < (n : Int) := by omega
   obtain ⟨-, -, -, hld⟩ := HP.out _ _ hJs
   have hkr : k < rows.length := by rw [HM.out.2]; exact hkn
   obtain ⟨b, off, rfl, hl⟩ := hld k hkr
   have hkm : k < ms.length := by rw [← HM.out.1.1]; exact hkr
   have hmc := HM.out.1.2 k hkr hkm
   obtain ⟨m, hmm⟩ : ∃ z, z = ms[k] := ⟨_, rfl⟩
   rw [← hmm] at hmc
   have htp : toP ms who k = (m.t == who) := by unfold toP; rw [List.getElem?_eq_getElem hkm, ← hmm]
   have hHit := posF_hit (toP ms who) k
   have hMiss := posF_miss (toP ms who) k
   have hAt := fun h => posF_at (toP ms who) k h n hkn
   rw [htp] at hHit hMiss hAt
   obtain ⟨cm, hcm⟩ : ∃ z, z = rows[k] := ⟨_, rfl⟩
   rw [← hcm] at hl hmc
   have h4 := (Sep.start wr).alloc (.cells #[.int .i64 0, .int .i64 0, .int .i64 0, .int .i64 0, .int .i64 0, .int .i64 0, .int .i64 0, .int .i64 0, .int .i64 0, .int .i64 0, .string ⟨#[]⟩, .int .i64 0, .int .i64 0, .slice none 0 0, .int .i64 0, .int .i64 0, .int .i64 0, .bool false, .int .i64 0, .slice none 0 0, .slice none 0 0, .int .i64 0] 40)
   have HT := Lib.hid (h4.thereAt 0 22 (by simp))
   have h5 := h4.storeW cm (by rw [hmc.size]; rfl)
   have HTH : Hid ((wr.alloc (.cells #[.int .i64 0, .int .i64 0, .int .i64 0, .int .i64 0, .int .i64 0, .int .i64 0, .int .i64 0, .int .i64 0, .int .i64 0, .int .i64 0, .string ⟨#[]⟩, .int .i64 0, .int .i64 0, .slice none 0 0, .int .i64 0, .int .i64 0, .int .i64 0, .bool false, .int .i64 0, .slice none 0 0, .slice none 0 0, .int .i64 0] 40)).there wr.heap.size 0 cm.size) := Lib.hid (by rw [hmc.size]; exact HT.out)
   have HI : Hid ((Tryz.prog.info? 40).map (·.size) = some cm.size) := Lib.hid (by rw [hmc.size]; kernel_rfl)
   have HO : Hid (cm.all (·.oneCell') = true) := Lib.hid (by have := all_oneCell_toArray hmc.one; simpa using this)
   have hJ5 := HB.out _ _ _ h5.low hJs
   have y2 : World.cell? _ ⟨wr.heap.size, 2, none⟩ = some (.int .i64 m.t) := h5.cell (o := 2) (by obtain ⟨_, _, _, _, _, _, he⟩ := hmc; rw [he]; rfl)
   obtain ⟨-, y3, -, -⟩ := HP.out _ _ hJ5
   obtain ⟨b5, hb5⟩ : ∃ z, z = wr.heap.size := ⟨_, rfl⟩
   obtain ⟨w5, hw5⟩ : ∃ z, z = (wr.alloc (.cells #[.int .i64 0, .int .i64 0, .int .i64 0, .int .i64 0, .int .i64 0, .int .i64 0, .int .i64 0, .int .i64 0, .int .i64 0, .int .i64 0, .string ⟨#[]⟩, .int .i64 0, .int .i64 0, .slice none 0 0, .int .i64 0, .int .i64 0, .int .i64 0, .bool false, .int .i64 0, .slice none 0 0, .slice none 0 0, .int .i64 0] 40)).setCells wr.heap.size 0 cm.toList := ⟨_, rfl⟩
   rw [← hw5] at hJ5 y2 y3
   rw [← hb5] at y2
   have HL := Lib.hid hl
   have HK := Lib.hid hkn
   clear hld hkr hkm hmc hmm hcm h4 h5 HT hJs hl hk hkn htp
   cases he : (m.t == who) with
   | true =>
    obtain ⟨rest, hrest⟩ := hAt he
    obtain ⟨fn, tmps, assign, body, hy, hR⟩ := HY.out _ k _ _ hrest hJ5
    try dsimp only at hy
    have HS := Lib.hid (hHit he)
    clear hAt hHit hMiss hrest hJ5
    gi_wp2_with (first | (refine wpListIn_load_run rfl 40 (.tmp 14) rfl _ _ rfl HL.out ?_) | (refine wpListIn_store_mid rfl 40 (.tmp 5) (.tmp 15) rfl wr.heap.size 0 cm rfl rfl HTH.out HI.out HO.out ?_; rw [← hw5, ← hb5]; clear hw5 hb5 HTH))
    refine ⟨(fun h => (by cases h)), ?_⟩
    refine hR.mono ?_
    rintro e W' ⟨rfl, hJ'⟩
    have HJ := Lib.hid hJ'
    clear hJ' hy hR
    gi_wp2
    go_roundw
    case rel => exact ⟨k + 1, HK.out, by go_num, by rw [HS.out]; exact HJ.out⟩
    case measure => have := HK.out; simp [intOf]; omega
   | false =>
    have HS := Lib.hid (And.intro (hMiss he) hJ5)
    clear hAt hHit hMiss hJ5
    gi_wp2_with (first | (refine wpListIn_load_run rfl 40 (.tmp 14) rfl _ _ rfl HL.out ?_) | (refine wpListIn_store_mid rfl 40 (.tmp 5) (.tmp 15) rfl wr.heap.size 0 cm rfl rfl HTH.out HI.out HO.out ?_; rw [← hw5, ← hb5]; clear hw5 hb5 HTH))
    refine ⟨fun _ h => (by cases h), ?_⟩
    gi_wp2
    go_roundw
    case rel => exact ⟨k + 1, HK.out, by go_num, by rw [HS.out.1]; exact HS.out.2⟩
    case measure => have := HK.out; simp [intOf]; omega
  ·have d0 : decide (k < n) = false := decide_eq_false hkn
   obtain rfl : k = n := by omega
   have HJ := Lib.hid hJs
   clear hJs hk hkn
   gi_wp2
   go_end0
   exact ⟨⟨_, rfl⟩, HJ.out⟩
def ivN (l : List Nat) : List Int := l.map (fun k : Nat => (k : Int))
def BoxI (b : Nat) (l : List Int) : Thing := Ex fun v => Both (Cl b #[v] 56) (Is v l)
theorem loc_boxI0 (b : Nat) (l : List Int) (v : Value) : Loc (Both (Cl b #[v] 56) (Is v l)) := loc_both (loc_blk _ _) (loc_rw _ _ _)
theorem Sep.boxIOpen {w0 w : World} {b : Nat} {l : List Int} {L : List Thing} (h : Sep w0 (BoxI b l :: L) w) : ∃ a n c, n = l.length ∧ Sep w0 (Cl b #[.slice a n c] 56 :: Is (.slice a n c) l :: L) w := by
 obtain ⟨v, h1⟩ := h.ex (loc_boxI0 b l)
 have h2 := h1.both (loc_blk _ _) (loc_rw _ _ _)
 obtain ⟨a, c, hv⟩ := h2.sw2.sl.len
 rw [iv_length] at hv
 subst hv
 exact ⟨a, _, c, rfl, h2⟩
theorem Sep.boxIClose {w0 w : World} {b : Nat} {l : List Int} {v : Value} {L : List Thing} (h : Sep w0 (Cl b #[v] 56 :: Is v l :: L) w) : Sep w0 (BoxI b l :: L) w := Sep.give (A := fun v => Both (Cl b #[v] 56) (Is v l)) v h.join (loc_boxI0 b l)
theorem adr_any {g : Nat} {who : Int} {w w0 : World} {L : List Thing} (h : Sep w0 L w) : Calls Tryz.prog 41 #[.pointer (some ⟨g, 0, none⟩), .int .i64 who] w fun e w' => ∃ b2 b3, e = .returned (.func (.func 57) #[] #[.pointer (some ⟨b2, 0, none⟩), .pointer (some ⟨b3, 0, none⟩)]) ∧ Sep w0 (Cl b2 #[.pointer (some ⟨g, 0, none⟩)] 23 :: Cl b3 #[.int .i64 who] 3 :: L) w' := by
 have h1 := ((h.alloc (.cells #[.pointer (some ⟨g, 0, none⟩)] 23)).alloc (.cells #[.int .i64 who] 3)).sw2
 rw [show (w.alloc (.cells #[.pointer (some ⟨g, 0, none⟩)] 23)).heap.size = w.heap.size + 1 by simp] at h1
 have H1 := Lib.hid h1
 clear h h1
 go_enter Tryz.func41, Tryz.ntmps41
 (try dsimp only); repeat' (first | go_values | go_skip | go_guarded | go_step | go_upon | go_back)
 go_ret
 exact ⟨_, _, rfl, H1.out⟩
theorem posF_le (p : Nat → Bool) (n : Nat) : (posF p n).length ≤ n := by unfold posF; exact Nat.le_trans (List.length_filter_le _ _) (by simp)
set_option maxRecDepth 100000 in
set_option maxHeartbeats 16000000 in
theorem bto_any {g : Nat} {who : Int} {ms : List MsM} {w w0 : World} {L : List Thing} (h : Sep w0 (BagT g ms :: L) w) (hl : ms.length ≤ 100000) :
  Calls Tryz.prog 21 #[.pointer (some ⟨g, 0, none⟩), .int .i64 who] w fun e w' => ∃ a n c, n = (posF (toP ms who) ms.length).length ∧ e = .returned (.slice a n c) ∧ Sep w0 (Is (.slice a n c) (ivN (posF (toP ms who) ms.length)) :: BagT g ms :: L) w' := by
 obtain ⟨a, c, rows, hm, h1⟩ := h.bagOpen
 have h2 := ((h1.rnil 3).alloc (.cells #[.slice none 0 0] 56))
 have hN := bnone_any (h1.cell (o := 0) rfl)
 have hple := posF_le (toP ms who) ms.length
 have hmn := hm.1
 obtain ⟨n, hn⟩ : ∃ z, z = ms.length := ⟨_, rfl⟩
 rw [← hn] at h2 hple hmn hl ⊢
 obtain ⟨b, hb⟩ : ∃ z, z = w.heap.size := ⟨_, rfl⟩
 obtain ⟨w3, hw3⟩ : ∃ z, z = w.alloc (.cells #[.slice none 0 0] 56) := ⟨_, rfl⟩
 rw [← hb, ← hw3] at h2
 have h3 : Sep w0 (BoxI b [] :: Cl g #[.bool true, .slice a n c] 60 :: Ro 22 40 (.slice a n c) n (msCs rows) :: L) w3 := Sep.boxIClose (l := []) h2
 have HA := Lib.hid (adr_any (g := g) (who := who) h3)
 have HN := Lib.hid hN
 have HM := Lib.hid hm
 have HE := Lib.hid hn
 clear h h1 h2 h3 hN hm hn
 refine (callsIn_wide (n := 4)).1 ?_
 refine callsIn_of_wp_marks Tryz.func21 rfl trivial ?_ rfl
 simp only [Tryz.ntmps21, List.size_toArray, List.length_cons, List.length_nil, Nat.reduceAdd, Nat.reduceSub, Array.replicate_succ, Array.replicate_zero, List.push_toArray, List.append_toArray, List.nil_append, List.cons_append]
 gi_wp2
 refine ⟨trivial, ?_⟩
 refine (callsIn_wide.2 HN.out).mono ?_
 rintro r0 w1 ⟨rfl, rfl⟩
 clear HN
 gi_wp2
 rw [← hw3, ← hb]
 clear hw3 hb
 refine ⟨trivial, ?_⟩
 refine (callsIn_wide.2 HA.out).mono ?_
 rintro r0 w4 ⟨b2, b3, rfl, h4⟩
 clear HA
 gi_wp2
 have h5 : Sep w0 (BoxI b [] :: Cl b2 #[.pointer (some ⟨g, 0, none⟩)] 23 :: Cl b3 #[.int .i64 who] 3 :: Cl g #[.bool true, .slice a n c] 60 :: Ro 22 40 (.slice a n c) n (msCs rows) :: L) w4 := h4.pickL (M := [_, _, _, _, _]) [2, 0, 1, 3, 4] rfl
 clear h4
 refine range_sepR (P := Tryz.prog) (gf := 57) (fb := #[]) (lb := #[.pointer (some ⟨b2, 0, none⟩), .pointer (some ⟨b3, 0, none⟩)]) rfl (by omega) rfl trivial (enters_of Tryz.func57 (by kernel_rfl) rfl) (posF (toP ms who) n) (fun _ => rfl)
  (fun pre => BoxI b (ivN pre) :: Cl b2 #[.pointer (some ⟨g, 0, none⟩)] 23 :: Cl b3 #[.int .i64 who] 3 :: Cl g #[.bool true, .slice a n c] 60 :: Ro 22 40 (.slice a n c) n (msCs rows) :: L) h5 (adr_gives _ g b2 b3 who a n c rows ms HM.out hmn hl)
  (fun s A B W hs => ⟨hs.drop.drop.drop.cell (o := 0) rfl, hs.drop.drop.drop.drop.cell (o := 0) rfl, hs.drop.drop.drop.drop.drop.cell (o := 1) rfl, fun k hk => by obtain ⟨b', off, h1, -, h2, -⟩ := hs.drop.drop.drop.drop.drop.drop.roMsg HM.out k hk hmn; exact ⟨b', off, h1, h2⟩⟩)
  (fun x => { tmps := #[.pointer (some ⟨g, 0, none⟩), .int .i64 who, undef, undef, .slice none 0 0, .pointer (some ⟨b, 0, none⟩), .int .i64 (x : Nat), .pointer (some ⟨g, 0, none⟩), .bool false, .pointer (some ⟨g, 0, none⟩), .int .i64 who, .func (.func 57) #[] #[.pointer (some ⟨b2, 0, none⟩), .pointer (some ⟨b3, 0, none⟩)], .int .i64 (x : Nat), undef, undef, undef, undef, undef], defers := [] }) ?assign ?body ?done
 case assign =>
  intro l x W K hK
  gi_wp2
  simpa using hK
 case body =>
  intro l pre x rest A B W hx hs
  have hpl : pre.length ≤ 100000 := by have := congrArg List.length hx; rw [List.length_append] at this; omega
  obtain ⟨ba, bn, bc, hbn, h11⟩ := Sep.boxIOpen (hs.pickL (M := [_, _, _, _, _, _, _]) [2, 0, 1, 3, 4, 5, 6] rfl)
  have x3 := h11.cell (o := 0) rfl
  have h12 := h11.alloc (.cells #[.int .i64 (x : Nat)] 3)
  have h13 := h12.asRow 1 rfl (by decide)
  have hbl : (ivN pre).length = pre.length := by unfold ivN; rw [List.length_map]
  have h13b : Sep w0 (Is (.slice ba bn bc) (ivN pre) :: Cl b #[.slice ba bn bc] 56 :: A :: B :: Cl b2 #[.pointer (some ⟨g, 0, none⟩)] 23 :: Cl b3 #[.int .i64 who] 3 :: Cl g #[.bool true, .slice a n c] 60 :: Ro 22 40 (.slice a n c) n (msCs rows) :: L) _ := h13.pickL (M := [_, _, _]) [2, 1] rfl
  obtain ⟨v9, w9, hr9, h14, -⟩ := appI (ty := 56) (ys := [(x : Int)]) h13b h13.sl (by rw [hbl]; simp; omega)
  have x9 := h14.sw2.cell (o := 0) rfl
  have f9 := h14.sw2.frozen 0
  have h15 := Sep.boxIClose (h14.sw2.setCell 0 v9)
  have h16 : Sep w0 (A :: B :: BoxI b (ivN (pre ++ [x])) :: Cl b2 #[.pointer (some ⟨g, 0, none⟩)] 23 :: Cl b3 #[.int .i64 who] 3 :: Cl g #[.bool true, .slice a n c] 60 :: Ro 22 40 (.slice a n c) n (msCs rows) :: L) (w9.setCell ⟨b, 0, none⟩ v9) := by
   have h9 := h15.pickL (M := [_, _, _, _, _, _, _]) [1, 2, 0, 3, 4, 5, 6] rfl
   rw [show ivN (pre ++ [x]) = ivN pre ++ [(x : Int)] by unfold ivN; rw [List.map_append]; rfl]
   exact h9
  obtain ⟨va, vc, hv9⟩ := h14.sl.len
  subst hv9
  have H15 := Lib.hid h16
  have HR9 := Lib.hid hr9
  clear hs h11 h12 h13 h13b h14 h15 h16 hx hpl hr9 hbl hbn h5
  gi_wp2_with (gi_at_builtin; refine wpListIn_append_run rfl _ _ _ _ rfl rfl rfl HR9.out ?_; clear HR9)
  exact H15.out
 case done =>
  intro D W hs
  obtain ⟨va, vn, vc, hvn, h6⟩ := Sep.boxIOpen hs.sw2
  have c0 := h6.cell (o := 0) rfl
  have hK := hs.blk
  have h7 := (Sep.putObj (h6.pickL (M := [_, _, _, _, _, _, _]) [2, 1, 5, 6] rfl) (.deferred none)).drop
  have h8 : Sep w0 (BagT g ms :: Is (.slice va vn vc) (ivN (posF (toP ms who) n)) :: L) (W.putObj D (.deferred none)) := Sep.bagClose HM.out (by rw [← HE.out]; exact h7.pickL (M := [_, _, _]) [1, 2, 0] rfl)
  have H8 := Lib.hid h8.sw2
  have hvn2 : vn = (posF (toP ms who) n).length := by rw [hvn]; unfold ivN; rw [List.length_map]
  clear hs h6 h7 h8 hvn h5
  subst hvn2
  gi_wp2
  refine ⟨by simp, .inl ⟨_, _, rfl, run_takeDeferred hK, ?_⟩⟩
  first | exact ⟨_, results_tmp rfl _ _ _, _, _, rfl, H8.out⟩ | exact ⟨_, results_tmp rfl _ _ _, _, _, _, rfl, rfl, H8.out⟩
end Go.Proofs.YtcnbmeiielkigaaGreatDoor
/- Rows of messages that have the same; what To tells; a copy of one. -/
namespace Go.Proofs.YtcnbmeiielkigaaGreatDoor
open Go Go.RowKit
set_option linter.unusedVariables false
set_option linter.unusedSimpArgs false
variable {w0 w : World} {b : Nat} {gs : List MgM} {L : List Thing}
def SameL (rs gs : List MgM) : Prop := rs.length = gs.length ∧ ∀ k (h : k < rs.length) (h' : k < gs.length), SameF rs[k] gs[k]
theorem SameL.nil : SameL [] [] := ⟨rfl, fun k h => by simp at h⟩
theorem SameL.refl (gs : List MgM) : SameL gs gs := ⟨rfl, fun k h h' => SameF.refl _⟩
theorem SameL.symm {rs gs : List MgM} (h : SameL rs gs) : SameL gs rs := ⟨h.1.symm, fun k h1 h2 => (h.2 k h2 h1).symm⟩
theorem SameL.trans {rs gs hs : List MgM} (h : SameL rs gs) (h' : SameL gs hs) : SameL rs hs := ⟨h.1.trans h'.1, fun k h1 h2 => (h.2 k h1 (by rw [← h.1]; exact h1)).trans (h'.2 k _ h2)⟩
theorem SameL.snoc {rs gs : List MgM} {r g : MgM} (h : SameL rs gs) (hr : SameF r g) : SameL (rs ++ [r]) (gs ++ [g]) := by
 refine ⟨by rw [List.length_append, List.length_append, h.1]; rfl, fun k h1 h2 => ?_⟩
 by_cases hk : k < rs.length
 ·rw [List.getElem_append_left hk, List.getElem_append_left (by rw [← h.1]; exact hk)]
  exact h.2 k hk _
 ·have hk2 : k = rs.length := by rw [List.length_append, List.length_singleton] at h1; omega
  subst hk2
  rw [List.getElem_append_right (Nat.le_refl _), List.getElem_append_right (by rw [h.1]; exact Nat.le_refl _)]
  simpa using hr
theorem SameL.erase {rs gs : List MgM} (h : SameL rs gs) (i : Nat) : SameL (rs.eraseIdx i) (gs.eraseIdx i) := by
 refine ⟨by rw [List.length_eraseIdx, List.length_eraseIdx, h.1], fun k h1 h2 => ?_⟩
 rw [List.getElem_eraseIdx, List.getElem_eraseIdx]
 by_cases hk : k < i
 ·rw [dif_pos hk, dif_pos hk]; exact h.2 _ _ _
 ·rw [dif_neg hk, dif_neg hk]; exact h.2 _ _ _
/-- A row of messages of one's own. -/
def RowT (v : Value) (gs : List MgM) : Thing := Both (Rn 22 40 v gs.length (msCs (gs.map mgC))) (MTs gs)
theorem Sep.rowOpen {v : Value} (h : Sep w0 (RowT v gs :: L) w) : Sep w0 (Rn 22 40 v gs.length (msCs (gs.map mgC)) :: MTs gs :: L) w := h.both (loc_rn _ _ _ _ _) (loc_mts _)
theorem Sep.rowClose {v : Value} (h : Sep w0 (Rn 22 40 v gs.length (msCs (gs.map mgC)) :: MTs gs :: L) w) : Sep w0 (RowT v gs :: L) w := h.join
/-- Whom a message is for. -/
def toG (ts : List Int) (who : Int) (k : Nat) : Bool := match ts[k]? with | some t => t == who | none => false
def tosG (gs : List MgM) (who : Int) : List Nat := posF (toG (gs.map (·.t)) who) gs.length
theorem tosG_same {rs gs : List MgM} (h : SameL rs gs) (who : Int) : tosG rs who = tosG gs who := by
 have e : rs.map (·.t) = gs.map (·.t) := by
  refine List.ext_getElem (by rw [List.length_map, List.length_map, h.1]) fun k h1 h2 => ?_
  rw [List.length_map] at h1 h2
  rw [List.getElem_map, List.getElem_map]
  exact (h.2 k h1 h2).1.2.2.1
 unfold tosG
 rw [e, h.1]
theorem pcpy_any (m : MgM) (h : Sep w0 L w) (hg : GmS w m) (hk : MOk m) :
  Calls Tryz.prog 36 #[.agg (mgC m)] w fun e w' => ∃ g2, e = .returned (.agg (mgC g2)) ∧ SameF g2 m ∧ Sep w0 (MT g2 :: L) w' :=
 (gcopy_w m hg (by have := hk.2.1; omega) (by have := hk.2.2.1; omega) hk.ls (by have := hk.2.2.2.1; omega)).mono fun e w' ⟨lu, cu, eu, qs, he, hq, h1⟩ =>
  ⟨{ m with lv := lu, cv := cu, ev := eu, ps := qs }, he, sameF_with m lu cu eu qs hq, Sep.mtClose (g := { m with lv := lu, cv := cu, ev := eu, ps := qs }) (h.ontoL h1)⟩
theorem dcpy_any (m : MgM) (h : Sep w0 L w) (hg : GmS w m) (hk : MOk m) :
  Calls Tryz.prog 31 #[.agg (mgC m)] w fun e w' => ∃ g2, e = .returned (.agg (mgC g2)) ∧ SameF g2 m ∧ Sep w0 (MT g2 :: L) w' :=
 (rgcopy_wB m hg (by have := hk.2.1; omega) (by have := hk.2.2.1; omega) (fun x hx => by have := hk.ls x hx; omega) (by have := hk.2.2.2.1; omega)).mono fun e w' ⟨lu, cu, eu, qs, he, hq, h1⟩ =>
  ⟨{ m with lv := lu, cv := cu, ev := eu, ps := qs }, he, sameF_with m lu cu eu qs hq, Sep.mtClose (g := { m with lv := lu, cv := cu, ev := eu, ps := qs }) (h.ontoL h1)⟩
theorem dsame_any (g1 g2 : MgM) (h : Sep w0 L w) (hg1 : GmS w g1) (hg2 : GmS w g2) (hs : SameF g1 g2) (hk : g2.ck.length ≤ 50 ∧ g2.ps.length ≤ 8) :
  Calls Tryz.prog 26 #[.agg (mgC g1), .agg (mgC g2)] w fun e w' => e = .returned (.bool true) ∧ Sep w0 L w' :=
 (rgsame_w g1 g2 hg1 hg2 (by rw [hs.ckl]; omega) (by omega) (by rw [hs.psl]; omega) (by omega)).mono fun e w' ⟨r, he, hr, hq⟩ => ⟨by rw [he, gSame_refl g2 g1 hs.1, hr.2 (sameP_of hs.2)]; rfl, h.below hq.low⟩
end Go.Proofs.YtcnbmeiielkigaaGreatDoor
/- The program's bag of any messages: check, pass, Copy, At, Take, Drop. -/
namespace Go.Proofs.YtcnbmeiielkigaaGreatDoor
open Go Go.RowKit
set_option linter.unusedVariables false
set_option linter.unusedSimpArgs false
variable {w0 w : World} {b : Nat} {gs : List MgM} {L : List Thing}
theorem gbchk_bad {ms : List (Array Value)} (i : Int) (h : Sep w0 (BagG b ms :: L) w) (hi : i < 0 ∨ (ms.length : Int) ≤ i) : Calls Tryz.prog 37 #[.pointer (some ⟨b, 0, none⟩), .int .i64 i] w fun e w' => e = .returned (.int .i64 9) ∧ w = w' := by
 obtain ⟨a, c, rows, hm, h1⟩ := h.gbagOpen
 have HN := Lib.hid (bnone_any (h1.cell (o := 0) rfl))
 have c1 := h1.cell (o := 1) rfl
 clear h h1 hm
 generalize ms.length = n at *
 by_cases hi0 : i < 0
 ·have i2 : decide (i < 0) = true := decide_eq_true hi0
  clear hi
  go_enter Tryz.func37, Tryz.ntmps37
  (try dsimp only); repeat' (first | go_values | go_skip | go_guarded | go_step | go_upon | go_back)
  refine HN.out.mono ?_
  rintro r0 w1 ⟨rfl, rfl⟩
  clear HN
  (try dsimp only); repeat' (first | go_values | go_skip | go_guarded | go_step | go_upon | go_back)
  go_ret
  exact ⟨rfl, rfl⟩
 ·have i2 : decide (i < 0) = false := decide_eq_false hi0
  have i3 : decide ((n : Int) ≤ i) = true := decide_eq_true (by omega)
  clear hi
  go_enter Tryz.func37, Tryz.ntmps37
  (try dsimp only); repeat' (first | go_values | go_skip | go_guarded | go_step | go_upon | go_back)
  refine HN.out.mono ?_
  rintro r0 w1 ⟨rfl, rfl⟩
  clear HN
  (try dsimp only); repeat' (first | go_values | go_skip | go_guarded | go_step | go_upon | go_back)
  go_ret
  exact ⟨rfl, rfl⟩
theorem pput_own {i : Nat} (h : Sep w0 (PB b gs :: L) w) (hi : i < gs.length) (hk : MOk gs[i]) (hK : KindsAt w0 ∧ MKindsAt w0) (hn : gs.length < 2000) :
  Calls Tryz.prog 17 #[.pointer (some ⟨b, 0, none⟩), .agg (mgC gs[i])] w fun e w' => ∃ g2, e = .returned (.int .i64 0) ∧ SameF g2 gs[i] ∧ Sep w0 (PB b (gs ++ [g2]) :: L) w' :=
 (gput_ok gs[i] h.pbOpen (fun wx hx => hx.mtsAt i hi) hK (by have := hk.2.1; omega) (by have := hk.2.2.1; omega) ⟨hk.ls, by have := hk.2.2.2.1; omega⟩ (by rw [List.length_map]; exact hn) hk.1).mono fun e w' ⟨he, lu, cu, eu, qs, hq, h1⟩ =>
  ⟨{ gs[i] with lv := lu, cv := cu, ev := eu, ps := qs }, he, sameF_with gs[i] lu cu eu qs hq, Sep.pbClose (by
   rw [List.map_append]
   exact (Sep.mtsSnoc (g := { gs[i] with lv := lu, cv := cu, ev := eu, ps := qs }) (Sep.mtClose (g := { gs[i] with lv := lu, cv := cu, ev := eu, ps := qs }) h1.to5)).sw2)⟩
set_option maxRecDepth 100000 in
set_option maxHeartbeats 4000000 in
theorem gpass_ok {i : Nat} (h : Sep w0 (PB b gs :: L) w) (hi : i < gs.length) (hk : MOk gs[i]) (hK : KindsAt w0 ∧ MKindsAt w0) (hn : gs.length < 2000) :
  Calls Tryz.prog 40 #[.pointer (some ⟨b, 0, none⟩), .int .i64 i, .func (.func 17) #[.pointer (some ⟨b, 0, none⟩)] #[]] w fun e w' => ∃ g2, e = .returned (.int .i64 0) ∧ SameF g2 gs[i] ∧ Sep w0 (PB b (gs ++ [g2]) :: L) w' := by
 have h0 := h.pbOpen
 have HC := Lib.hid (gbchk_ok i h0 (by rw [List.length_map]; exact hi))
 obtain ⟨a, c, rows, hm, h1⟩ := h0.gbagOpen
 obtain ⟨hi', hmi⟩ := hm.at i (by rw [List.length_map]; exact hi)
 obtain ⟨g, off, rfl, -, hld, -⟩ := h1.sw2.roMsgG hm i hi' hm.1
 have c1 := h1.cell (o := 1) rfl
 rw [hmi.1, List.getElem_map] at hld
 rw [List.length_map] at c1
 have HP := Lib.hid (pput_own h hi hk hK hn)
 have i0 : (0 : Int) ≤ (i : Int) := by omega
 have i1 : (i : Int) < ((gs.length : Nat) : Int) := by omega
 obtain ⟨m, hmm⟩ : ∃ z, z = gs[i] := ⟨_, rfl⟩
 rw [← hmm] at HP hld ⊢
 obtain ⟨u, hu⟩ : ∃ z, z = mgC m := ⟨_, rfl⟩
 rw [← hu] at HP hld
 have HL := Lib.hid hld
 obtain ⟨n, hnn⟩ : ∃ z, z = gs.length := ⟨_, rfl⟩
 rw [← hnn] at c1 i1
 clear h h0 h1 hm hmi hld hk hn hi hi' hmm hnn hu
 go_enter Tryz.func40, Tryz.ntmps40
 (try dsimp only); repeat' (first | go_values | go_skip | go_guarded | go_step | go_upon | go_back)
 refine HC.out.mono ?_
 rintro r0 w1 ⟨rfl, rfl⟩
 clear HC
 (try dsimp only); repeat' (first | (with_reducible show wpList _ _ _ (Oper.mk _ (Op.load 40 _) _ _ _ _ :: _) _ _; refine stopP ?_) | go_values | go_skip | go_guarded | go_step | go_upon | go_back)
 unfold StopP
 have hq_ := HL.out
 refine wpList_load_run rfl 40 _ rfl _ _ rfl hq_ ?_
 clear hq_
 (try dsimp only); repeat' (first | go_values | go_skip | go_guarded | go_step | go_upon | go_back)
 refine HP.out.mono ?_
 rintro r0 w2 ⟨g2, rfl, hs, h2⟩
 have H2 := Lib.hid (And.intro hs h2)
 clear HP h2 hs
 (try dsimp only); repeat' (first | go_values | go_skip | go_guarded | go_step | go_upon | go_back)
 go_ret
 exact ⟨g2, rfl, H2.out.1, H2.out.2⟩
theorem gpass_bad (i : Int) (v : Value) (h : Sep w0 (PB b gs :: L) w) (hi : i < 0 ∨ (gs.length : Int) ≤ i) :
  Calls Tryz.prog 40 #[.pointer (some ⟨b, 0, none⟩), .int .i64 i, v] w fun e w' => e = .returned (.int .i64 9) ∧ w = w' := by
 have HC := Lib.hid (gbchk_bad i h.pbOpen (by rw [List.length_map]; exact hi))
 clear h hi
 go_enter Tryz.func40, Tryz.ntmps40
 (try dsimp only); repeat' (first | go_values | go_skip | go_guarded | go_step | go_upon | go_back)
 refine HC.out.mono ?_
 rintro r0 w1 ⟨rfl, rfl⟩
 clear HC
 (try dsimp only); repeat' (first | go_values | go_skip | go_guarded | go_step | go_upon | go_back)
 go_ret
 exact ⟨rfl, rfl⟩
theorem pcopy_ok {i : Nat} (h : Sep w0 (PB b gs :: L) w) (hi : i < gs.length) (hk : MOk gs[i]) (hK : KindsAt w0 ∧ MKindsAt w0) (hn : gs.length < 2000) :
  Calls Tryz.prog 19 #[.pointer (some ⟨b, 0, none⟩), .int .i64 i] w fun e w' => ∃ g2, e = .returned (.int .i64 0) ∧ SameF g2 gs[i] ∧ Sep w0 (PB b (gs ++ [g2]) :: L) w' := by
 have HP := Lib.hid (gpass_ok h hi hk hK hn)
 generalize gs[i] = m at *
 clear h hi hk hn hK
 go_enter Tryz.func19, Tryz.ntmps19
 (try dsimp only); repeat' (first | go_values | go_skip | go_guarded | go_step | go_upon | go_back)
 refine HP.out.mono ?_
 rintro r0 w2 ⟨g2, rfl, hs, h2⟩
 have H2 := Lib.hid (And.intro hs h2)
 clear HP h2 hs
 (try dsimp only); repeat' (first | go_values | go_skip | go_guarded | go_step | go_upon | go_back)
 go_ret
 exact ⟨g2, rfl, H2.out.1, H2.out.2⟩
theorem pcopy_bad {i : Int} (h : Sep w0 (PB b gs :: L) w) (hi : i < 0 ∨ (gs.length : Int) ≤ i) :
  Calls Tryz.prog 19 #[.pointer (some ⟨b, 0, none⟩), .int .i64 i] w fun e w' => e = .returned (.int .i64 9) ∧ Sep w0 (PB b gs :: L) w' := by
 have HP := Lib.hid (gpass_bad i (.func (.func 17) #[.pointer (some ⟨b, 0, none⟩)] #[]) h hi)
 have HH := Lib.hid h
 clear h hi
 go_enter Tryz.func19, Tryz.ntmps19
 (try dsimp only); repeat' (first | go_values | go_skip | go_guarded | go_step | go_upon | go_back)
 refine HP.out.mono ?_
 rintro r0 w2 ⟨rfl, rfl⟩
 clear HP
 (try dsimp only); repeat' (first | go_values | go_skip | go_guarded | go_step | go_upon | go_back)
 go_ret
 exact ⟨rfl, HH.out⟩
set_option maxRecDepth 100000 in
set_option maxHeartbeats 4000000 in
theorem pat_bad {i : Int} (h : Sep w0 (PB b gs :: L) w) (hi : i < 0 ∨ (gs.length : Int) ≤ i) :
  Calls Tryz.prog 16 #[.pointer (some ⟨b, 0, none⟩), .int .i64 i] w fun e w' => e = .returned (.tuple #[.agg #[.int .i64 0, .int .i64 0, .int .i64 0, .int .i64 0, .int .i64 0, .int .i64 0, .int .i64 0, .int .i64 0, .int .i64 0, .int .i64 0, .string ⟨#[]⟩, .int .i64 0, .int .i64 0, .slice none 0 0, .int .i64 0, .int .i64 0, .int .i64 0, .bool false, .int .i64 0, .slice none 0 0, .slice none 0 0, .int .i64 0], .int .i64 9]) ∧ Sep w0 (PB b gs :: L) w' := by
 have h0 := h.alloc (.cells #[.int .i64 0, .int .i64 0, .int .i64 0, .int .i64 0, .int .i64 0, .int .i64 0, .int .i64 0, .int .i64 0, .int .i64 0, .int .i64 0, .string ⟨#[]⟩, .int .i64 0, .int .i64 0, .slice none 0 0, .int .i64 0, .int .i64 0, .int .i64 0, .bool false, .int .i64 0, .slice none 0 0, .slice none 0 0, .int .i64 0] 40)
 have HC := Lib.hid (gbchk_bad i h0.sw2.pbOpen (by rw [List.length_map]; exact hi))
 obtain ⟨b4, hb4⟩ : ∃ z, z = w.heap.size := ⟨_, rfl⟩
 obtain ⟨w1, hw1⟩ : ∃ z, z = w.alloc (.cells #[.int .i64 0, .int .i64 0, .int .i64 0, .int .i64 0, .int .i64 0, .int .i64 0, .int .i64 0, .int .i64 0, .int .i64 0, .int .i64 0, .string ⟨#[]⟩, .int .i64 0, .int .i64 0, .slice none 0 0, .int .i64 0, .int .i64 0, .int .i64 0, .bool false, .int .i64 0, .slice none 0 0, .slice none 0 0, .int .i64 0] 40) := ⟨_, rfl⟩
 rw [← hw1] at HC h0
 rw [← hb4] at h0
 have HT := Lib.hid (h0.thereAt 0 22 (by simp))
 have h3 := h0.storeW #[.int .i64 0, .int .i64 0, .int .i64 0, .int .i64 0, .int .i64 0, .int .i64 0, .int .i64 0, .int .i64 0, .int .i64 0, .int .i64 0, .string ⟨#[]⟩, .int .i64 0, .int .i64 0, .slice none 0 0, .int .i64 0, .int .i64 0, .int .i64 0, .bool false, .int .i64 0, .slice none 0 0, .slice none 0 0, .int .i64 0] rfl
 have HV := Lib.hid (h3.loadV 40 Tryz.underlying40 rfl (by kernel_rfl))
 have H3 := Lib.hid h3.drop
 clear h h0 h3 hi
 go_enter Tryz.func16, Tryz.ntmps16
 (try dsimp only); repeat' (first | go_values | go_skip | go_guarded | go_step | go_upon | go_back)
 rw [← hw1, ← hb4]
 clear hw1 hb4
 refine HC.out.mono ?_
 rintro r0 wz ⟨rfl, rfl⟩
 clear HC
 (try dsimp only); repeat' (first | (with_reducible show wpList _ _ _ (Oper.mk _ (Op.store 40 _ _) _ _ _ _ :: _) _ _; refine stopP ?_) | go_values | go_skip | go_guarded | go_step | go_upon | go_back)
 unfold StopP
 refine wpList_store_mid rfl 40 (.tmp 4) (.tmp 12) rfl b4 0 #[.int .i64 0, .int .i64 0, .int .i64 0, .int .i64 0, .int .i64 0, .int .i64 0, .int .i64 0, .int .i64 0, .int .i64 0, .int .i64 0, .string ⟨#[]⟩, .int .i64 0, .int .i64 0, .slice none 0 0, .int .i64 0, .int .i64 0, .int .i64 0, .bool false, .int .i64 0, .slice none 0 0, .slice none 0 0, .int .i64 0] rfl rfl HT.out (by kernel_rfl) (by kernel_rfl) ?_
 (try dsimp only); repeat' (first | go_values | go_skip | go_guarded | go_step | go_upon | go_back)
 exact bodyPost_ret (results_cell2 rfl rfl HV.out rfl) rfl ⟨rfl, H3.out⟩
set_option maxRecDepth 100000 in
set_option maxHeartbeats 4000000 in
theorem ptake_bad {i : Int} (h : Sep w0 (PB b gs :: L) w) (hi : i < 0 ∨ (gs.length : Int) ≤ i) :
  Calls Tryz.prog 15 #[.pointer (some ⟨b, 0, none⟩), .int .i64 i] w fun e w' => e = .returned (.tuple #[.agg #[.int .i64 0, .int .i64 0, .int .i64 0, .int .i64 0, .int .i64 0, .int .i64 0, .int .i64 0, .int .i64 0, .int .i64 0, .int .i64 0, .string ⟨#[]⟩, .int .i64 0, .int .i64 0, .slice none 0 0, .int .i64 0, .int .i64 0, .int .i64 0, .bool false, .int .i64 0, .slice none 0 0, .slice none 0 0, .int .i64 0], .int .i64 9]) ∧ Sep w0 (PB b gs :: L) w' := by
 have h0 := h.alloc (.cells #[.int .i64 0, .int .i64 0, .int .i64 0, .int .i64 0, .int .i64 0, .int .i64 0, .int .i64 0, .int .i64 0, .int .i64 0, .int .i64 0, .string ⟨#[]⟩, .int .i64 0, .int .i64 0, .slice none 0 0, .int .i64 0, .int .i64 0, .int .i64 0, .bool false, .int .i64 0, .slice none 0 0, .slice none 0 0, .int .i64 0] 40)
 have HC := Lib.hid (gbchk_bad i h0.sw2.pbOpen (by rw [List.length_map]; exact hi))
 obtain ⟨b4, hb4⟩ : ∃ z, z = w.heap.size := ⟨_, rfl⟩
 obtain ⟨w1, hw1⟩ : ∃ z, z = w.alloc (.cells #[.int .i64 0, .int .i64 0, .int .i64 0, .int .i64 0, .int .i64 0, .int .i64 0, .int .i64 0, .int .i64 0, .int .i64 0, .int .i64 0, .string ⟨#[]⟩, .int .i64 0, .int .i64 0, .slice none 0 0, .int .i64 0, .int .i64 0, .int .i64 0, .bool false, .int .i64 0, .slice none 0 0, .slice none 0 0, .int .i64 0] 40) := ⟨_, rfl⟩
 rw [← hw1] at HC h0
 rw [← hb4] at h0
 have HT := Lib.hid (h0.thereAt 0 22 (by simp))
 have h3 := h0.storeW #[.int .i64 0, .int .i64 0, .int .i64 0, .int .i64 0, .int .i64 0, .int .i64 0, .int .i64 0, .int .i64 0, .int .i64 0, .int .i64 0, .string ⟨#[]⟩, .int .i64 0, .int .i64 0, .slice none 0 0, .int .i64 0, .int .i64 0, .int .i64 0, .bool false, .int .i64 0, .slice none 0 0, .slice none 0 0, .int .i64 0] rfl
 have HV := Lib.hid (h3.loadV 40 Tryz.underlying40 rfl (by kernel_rfl))
 have H3 := Lib.hid h3.drop
 clear h h0 h3 hi
 go_enter Tryz.func15, Tryz.ntmps15
 (try dsimp only); repeat' (first | go_values | go_skip | go_guarded | go_step | go_upon | go_back)
 rw [← hw1, ← hb4]
 clear hw1 hb4
 refine HC.out.mono ?_
 rintro r0 wz ⟨rfl, rfl⟩
 clear HC
 (try dsimp only); repeat' (first | (with_reducible show wpList _ _ _ (Oper.mk _ (Op.store 40 _ _) _ _ _ _ :: _) _ _; refine stopP ?_) | go_values | go_skip | go_guarded | go_step | go_upon | go_back)
 unfold StopP
 refine wpList_store_mid rfl 40 (.tmp 4) (.tmp 12) rfl b4 0 #[.int .i64 0, .int .i64 0, .int .i64 0, .int .i64 0, .int .i64 0, .int .i64 0, .int .i64 0, .int .i64 0, .int .i64 0, .int .i64 0, .string ⟨#[]⟩, .int .i64 0, .int .i64 0, .slice none 0 0, .int .i64 0, .int .i64 0, .int .i64 0, .bool false, .int .i64 0, .slice none 0 0, .slice none 0 0, .int .i64 0] rfl rfl HT.out (by kernel_rfl) (by kernel_rfl) ?_
 (try dsimp only); repeat' (first | go_values | go_skip | go_guarded | go_step | go_upon | go_back)
 exact bodyPost_ret (results_cell2 rfl rfl HV.out rfl) rfl ⟨rfl, H3.out⟩
set_option maxRecDepth 100000 in
set_option maxHeartbeats 4000000 in
theorem pdrop_ok {i : Nat} (h : Sep w0 (PB b gs :: L) w) (hi : i < gs.length) (hn : gs.length ≤ 2000) :
  Calls Tryz.prog 20 #[.pointer (some ⟨b, 0, none⟩), .int .i64 i] w fun e w' => e = .returned (.int .i64 0) ∧ Sep w0 (PB b (gs.eraseIdx i) :: L) w' := by
 have HA := Lib.hid (ptake_ok h hi hn)
 obtain ⟨m, hm⟩ : ∃ z, z = gs[i] := ⟨_, rfl⟩
 rw [← hm] at HA
 obtain ⟨u, hu⟩ : ∃ z, z = mgC m := ⟨_, rfl⟩
 rw [← hu] at HA
 have HU := Lib.hid hu
 clear h hi hn hm hu
 go_enter Tryz.func20, Tryz.ntmps20
 (try dsimp only); repeat' (first | go_values | go_skip | go_guarded | go_step | go_upon | go_back)
 refine HA.out.mono ?_
 rintro r0 w1 ⟨rfl, h1⟩
 have hus : u.size = 22 := by rw [HU.out]; rfl
 have huo : u.all (·.oneCell') = true := by rw [HU.out]; exact gms_one h1.mtGm
 clear HA HU
 have h2 := h1.alloc (.cells #[.int .i64 0, .int .i64 0, .int .i64 0, .int .i64 0, .int .i64 0, .int .i64 0, .int .i64 0, .int .i64 0, .int .i64 0, .int .i64 0, .string ⟨#[]⟩, .int .i64 0, .int .i64 0, .slice none 0 0, .int .i64 0, .int .i64 0, .int .i64 0, .bool false, .int .i64 0, .slice none 0 0, .slice none 0 0, .int .i64 0] 40)
 have HT2 := Lib.hid (h2.thereAt 0 22 (by simp))
 have h3 := h2.storeW u (by rw [hus]; rfl)
 have HI : Hid ((Tryz.prog.info? 40).map (·.size) = some u.size) := Lib.hid (by rw [hus]; kernel_rfl)
 have HO : Hid (u.all (·.oneCell') = true) := Lib.hid huo
 have HTH : Hid ((w1.alloc (.cells #[.int .i64 0, .int .i64 0, .int .i64 0, .int .i64 0, .int .i64 0, .int .i64 0, .int .i64 0, .int .i64 0, .int .i64 0, .int .i64 0, .string ⟨#[]⟩, .int .i64 0, .int .i64 0, .slice none 0 0, .int .i64 0, .int .i64 0, .int .i64 0, .bool false, .int .i64 0, .slice none 0 0, .slice none 0 0, .int .i64 0] 40)).there w1.heap.size 0 u.size) := Lib.hid (by rw [hus]; exact HT2.out)
 obtain ⟨b6, hb6⟩ : ∃ z, z = w1.heap.size := ⟨_, rfl⟩
 obtain ⟨w3, hw3⟩ : ∃ z, z = (w1.alloc (.cells #[.int .i64 0, .int .i64 0, .int .i64 0, .int .i64 0, .int .i64 0, .int .i64 0, .int .i64 0, .int .i64 0, .int .i64 0, .int .i64 0, .string ⟨#[]⟩, .int .i64 0, .int .i64 0, .slice none 0 0, .int .i64 0, .int .i64 0, .int .i64 0, .bool false, .int .i64 0, .slice none 0 0, .slice none 0 0, .int .i64 0] 40)).setCells w1.heap.size 0 u.toList := ⟨_, rfl⟩
 rw [← hw3, ← hb6] at h3
 have HL3 := Lib.hid (h3.loadW 40 Tryz.underlying40 rfl (by rw [hus]; kernel_rfl))
 have H3 := Lib.hid h3
 clear h1 h2 h3 HT2
 (try dsimp only); repeat' (first | (with_reducible show wpList _ _ _ (Oper.mk _ (Op.store 40 _ _) _ _ _ _ :: _) _ _; refine stopP ?_) | go_values | go_skip | go_guarded | go_step | go_upon | go_back)
 unfold StopP
 refine wpList_store_mid rfl 40 (.tmp 5) (.tmp 11) rfl w1.heap.size 0 u rfl rfl HTH.out HI.out HO.out ?_
 rw [← hw3, ← hb6]
 clear hw3 hb6 HTH
 (try dsimp only); repeat' (first | go_values | go_skip | go_guarded | go_step | go_upon | go_back)
 go_ret
 exact ⟨rfl, H3.out.drop.drop⟩
theorem pdrop_bad {i : Int} (h : Sep w0 (PB b gs :: L) w) (hi : i < 0 ∨ (gs.length : Int) ≤ i) :
  Calls Tryz.prog 20 #[.pointer (some ⟨b, 0, none⟩), .int .i64 i] w fun e w' => e = .returned (.int .i64 9) ∧ Sep w0 (PB b gs :: L) w' := by
 have HA := Lib.hid (ptake_bad h hi)
 obtain ⟨u, hu⟩ : ∃ z, z = (#[.int .i64 0, .int .i64 0, .int .i64 0, .int .i64 0, .int .i64 0, .int .i64 0, .int .i64 0, .int .i64 0, .int .i64 0, .int .i64 0, .string ⟨#[]⟩, .int .i64 0, .int .i64 0, .slice none 0 0, .int .i64 0, .int .i64 0, .int .i64 0, .bool false, .int .i64 0, .slice none 0 0, .slice none 0 0, .int .i64 0] : Array Value) := ⟨_, rfl⟩
 have hus : u.size = 22 := by rw [hu]; rfl
 have huo : u.all (·.oneCell') = true := by rw [hu]; exact zone
 rw [← hu] at HA
 clear h hi
 go_enter Tryz.func20, Tryz.ntmps20
 (try dsimp only); repeat' (first | go_values | go_skip | go_guarded | go_step | go_upon | go_back)
 refine HA.out.mono ?_
 rintro r0 w1 ⟨rfl, h1⟩
 clear hu HA
 have h2 := h1.alloc (.cells #[.int .i64 0, .int .i64 0, .int .i64 0, .int .i64 0, .int .i64 0, .int .i64 0, .int .i64 0, .int .i64 0, .int .i64 0, .int .i64 0, .string ⟨#[]⟩, .int .i64 0, .int .i64 0, .slice none 0 0, .int .i64 0, .int .i64 0, .int .i64 0, .bool false, .int .i64 0, .slice none 0 0, .slice none 0 0, .int .i64 0] 40)
 have HT2 := Lib.hid (h2.thereAt 0 22 (by simp))
 have h3 := h2.storeW u (by rw [hus]; rfl)
 have HI : Hid ((Tryz.prog.info? 40).map (·.size) = some u.size) := Lib.hid (by rw [hus]; kernel_rfl)
 have HO : Hid (u.all (·.oneCell') = true) := Lib.hid huo
 have HTH : Hid ((w1.alloc (.cells #[.int .i64 0, .int .i64 0, .int .i64 0, .int .i64 0, .int .i64 0, .int .i64 0, .int .i64 0, .int .i64 0, .int .i64 0, .int .i64 0, .string ⟨#[]⟩, .int .i64 0, .int .i64 0, .slice none 0 0, .int .i64 0, .int .i64 0, .int .i64 0, .bool false, .int .i64 0, .slice none 0 0, .slice none 0 0, .int .i64 0] 40)).there w1.heap.size 0 u.size) := Lib.hid (by rw [hus]; exact HT2.out)
 obtain ⟨b6, hb6⟩ : ∃ z, z = w1.heap.size := ⟨_, rfl⟩
 obtain ⟨w3, hw3⟩ : ∃ z, z = (w1.alloc (.cells #[.int .i64 0, .int .i64 0, .int .i64 0, .int .i64 0, .int .i64 0, .int .i64 0, .int .i64 0, .int .i64 0, .int .i64 0, .int .i64 0, .string ⟨#[]⟩, .int .i64 0, .int .i64 0, .slice none 0 0, .int .i64 0, .int .i64 0, .int .i64 0, .bool false, .int .i64 0, .slice none 0 0, .slice none 0 0, .int .i64 0] 40)).setCells w1.heap.size 0 u.toList := ⟨_, rfl⟩
 rw [← hw3, ← hb6] at h3
 have HL3 := Lib.hid (h3.loadW 40 Tryz.underlying40 rfl (by rw [hus]; kernel_rfl))
 have H3 := Lib.hid h3
 clear h1 h2 h3 HT2
 (try dsimp only); repeat' (first | (with_reducible show wpList _ _ _ (Oper.mk _ (Op.store 40 _ _) _ _ _ _ :: _) _ _; refine stopP ?_) | go_values | go_skip | go_guarded | go_step | go_upon | go_back)
 unfold StopP
 refine wpList_store_mid rfl 40 (.tmp 5) (.tmp 11) rfl w1.heap.size 0 u rfl rfl HTH.out HI.out HO.out ?_
 rw [← hw3, ← hb6]
 clear hw3 hb6 HTH
 (try dsimp only); repeat' (first | go_values | go_skip | go_guarded | go_step | go_upon | go_back)
 go_ret
 exact ⟨rfl, H3.out.drop⟩
end Go.Proofs.YtcnbmeiielkigaaGreatDoor
