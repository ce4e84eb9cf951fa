/- The document's Check. -/
import Derived.Test.YtcnbmeiielkigaaGreatDoorMRm4
namespace Go.Proofs.YtcnbmeiielkigaaGreatDoor
open Go Go.RowKit
set_option linter.unusedVariables false
set_option linter.unusedSimpArgs false
/-- What the calls of Check answer, over the message in its block. -/
structure CkS (w : World) (b1 : Nat) (mc : Array Value) (k f t v o cm la rc ra rb : Int) (s : Bool) (ib ic : Int) (cv ev : Value) (v1 v2 v4 v8 v64 v128 pf pt a1 a2 a4 a8 ae rr ci si : Bool) : Prop where
 c0 : mc[0]? = some (.int .i64 k)
 c1 : mc[1]? = some (.int .i64 f)
 c2 : mc[2]? = some (.int .i64 t)
 c3 : mc[3]? = some (.int .i64 v)
 c4 : mc[4]? = some (.int .i64 o)
 c5 : mc[5]? = some (.int .i64 cm)
 c6 : mc[6]? = some (.int .i64 la)
 c14 : mc[14]? = some (.int .i64 rc)
 c15 : mc[15]? = some (.int .i64 ra)
 c16 : mc[16]? = some (.int .i64 rb)
 c17 : mc[17]? = some (.bool s)
 c18 : mc[18]? = some (.int .i64 ib)
 c19 : mc[19]? = some cv
 c20 : mc[20]? = some ev
 c21 : mc[21]? = some (.int .i64 ic)
 ld : ∀ wx, Sep w [Cl b1 mc 40] wx → (Instr.loadAt 40 (.pointer (some ⟨b1, 0, none⟩))).run Tryz.prog wx = .ok (.agg mc) wx
 hv : ∀ wx, Calls Tryz.prog 69 #[.int .i64 k] wx fun e w' => e = .returned (.bool v1) ∧ wx = w'
 ho : ∀ wx, Sep w [Cl b1 mc 40] wx → Calls Tryz.prog 70 #[.int .i64 k] wx fun e w' => e = .returned (.bool v2) ∧ Sep w [Cl b1 mc 40] w'
 hc : ∀ wx, Sep w [Cl b1 mc 40] wx → Calls Tryz.prog 71 #[.int .i64 k] wx fun e w' => e = .returned (.bool v4) ∧ Sep w [Cl b1 mc 40] w'
 hl : ∀ wx, Calls Tryz.prog 72 #[.int .i64 k] wx fun e w' => e = .returned (.bool v8) ∧ wx = w'
 hr : ∀ wx, Calls Tryz.prog 74 #[.int .i64 k] wx fun e w' => e = .returned (.bool v64) ∧ wx = w'
 hm : ∀ wx, Sep w [Cl b1 mc 40] wx → Calls Tryz.prog 76 #[.int .i64 k] wx fun e w' => e = .returned (.bool v128) ∧ Sep w [Cl b1 mc 40] w'
 o1 : ∀ wx, Calls Tryz.prog 68 #[.bool v1, .int .i64 v] wx fun e w' => e = .returned (.bool a1) ∧ wx = w'
 o2 : ∀ wx, Calls Tryz.prog 68 #[.bool v2, .int .i64 o] wx fun e w' => e = .returned (.bool a2) ∧ wx = w'
 o4 : ∀ wx, Calls Tryz.prog 68 #[.bool v4, .int .i64 cm] wx fun e w' => e = .returned (.bool a4) ∧ wx = w'
 o8 : ∀ wx, Calls Tryz.prog 68 #[.bool v8, .int .i64 la] wx fun e w' => e = .returned (.bool a8) ∧ wx = w'
 sf : ∀ wx, Calls Tryz.prog 67 #[.int .i64 f] wx fun e w' => e = .returned (.bool pf) ∧ wx = w'
 st : ∀ wx, Calls Tryz.prog 67 #[.int .i64 t] wx fun e w' => e = .returned (.bool pt) ∧ wx = w'
 en : ∀ wx, Sep w [Cl b1 mc 40] wx → Calls Tryz.prog 73 #[.agg mc] wx fun e w' => e = .returned (.bool ae) ∧ Sep w [Cl b1 mc 40] w'
 cr : ∀ wx, Sep w [Cl b1 mc 40] wx → Calls Tryz.prog 75 #[.agg #[.int .i64 rc, .int .i64 ra, .int .i64 rb]] wx fun e w' => e = .returned (.int .i64 (eB rr)) ∧ Sep w [Cl b1 mc 40] w'
 ci : ∀ wx, Sep w [Cl b1 mc 40] wx → Calls Tryz.prog 77 #[.agg #[.int .i64 ib, cv, ev, .int .i64 ic]] wx fun e w' => e = .returned (.int .i64 (eB ci)) ∧ Sep w [Cl b1 mc 40] w'
 si : ∀ wx, Sep w [Cl b1 mc 40] wx → Calls Tryz.prog 45 #[.agg #[.int .i64 ib, cv, ev, .int .i64 ic], .agg #[.int .i64 0, .slice none 0 0, .slice none 0 0, .int .i64 0]] wx fun e w' => e = .returned (.bool si) ∧ Sep w [Cl b1 mc 40] w'
/-- All that stands behind a ';' in a piece of code. -/
def seqRestsC : Code → List Code
 | .seq a b => seqRestsC a ++ (b :: seqRestsC b)
 | .block _ c => seqRestsC c
 | .loop c => seqRestsC c
 | .scope c => seqRestsC c
 | .cond _ a b => seqRestsC a ++ seqRestsC b
 | _ => []
def headC (k : Nat) : Code → Bool
 | .region id _ _ => id == k
 | .seq a _ => headC k a
 | _ => false
noncomputable def ckRest4 : Code := (Tryz.f48.body.bind fun c => (seqRestsC c).find? (headC 4)).getD .skip
set_option maxRecDepth 100000 in
set_option maxHeartbeats 16000000 in
theorem rcktail {w w9 : World} {b1 : Nat} {mc : Array Value} {k f t v o cm la rc ra rb : Int} {s : Bool} {ib ic : Int} {cv ev : Value} {v1 v2 v4 v8 v64 v128 pf pt a1 a2 a4 a8 ae rr ci si : Bool} (ok zB : Bool) (R : Int)
  (hs : Hid (CkS w b1 mc k f t v o cm la rc ra rb s ib ic cv ev v1 v2 v4 v8 v64 v128 pf pt a1 a2 a4 a8 ae rr ci si)) (H : Hid (Sep w [Cl b1 mc 40] w9))
  (hz : (rc = 0 ∧ ra = 0 ∧ rb = 0 ∧ zB = true) ∨ (¬ rc = 0 ∧ zB = false) ∨ (rc = 0 ∧ ¬ ra = 0 ∧ zB = false) ∨ (rc = 0 ∧ ra = 0 ∧ ¬ rb = 0 ∧ zB = false))
  (HR : Hid (R = if (ok && ((if v64 = true then rr else zB && !s) && (if v128 = true then ci else si))) = true then 0 else 2)) {K : Act → World → Prop}
  (hK : ∀ a w', Code.wp Tryz.prog ckRest4 (bodyPost Tryz.prog Tryz.f48 fun e w' => e = .returned (.int .i64 R) ∧ Sep w [] w') a w' → K a w') (u5 u6 u7 u8 u9 u10 u11 u12 u13 u14 u15 u16 u17 u18 u19 u20 u21 u22 u23 u24 u25 u26 u27 u28 u29 u30 u31 u32 u33 u34 u35 u36 u37 u38 u39 u40 u41 u42 u43 u44 u45 u46 u47 u48 u49 u50 u51 u52 u53 u54 u55 u56 u57 u58 u59 u60 u61 u62 u63 u64 u65 u66 u67 u68 u69 u70 u71 u72 u73 u74 u75 u76 u77 u78 u79 u80 u81 u82 u83 u84 u85 u86 u87 u88 u89 u90 u91 u92 u93 u94 : Value) :
  K ⟨List.toArray (.agg mc :: .pointer (some ⟨b1, 0, none⟩) :: .int .i64 0 :: .int .i64 k :: .bool ok :: u5 :: u6 :: u7 :: u8 :: u9 :: u10 :: u11 :: u12 :: u13 :: u14 :: u15 :: u16 :: u17 :: u18 :: u19 :: u20 :: u21 :: u22 :: u23 :: u24 :: u25 :: u26 :: u27 :: u28 :: u29 :: u30 :: u31 :: u32 :: u33 :: u34 :: u35 :: u36 :: u37 :: u38 :: u39 :: u40 :: u41 :: u42 :: u43 :: u44 :: u45 :: u46 :: u47 :: u48 :: u49 :: u50 :: u51 :: u52 :: u53 :: u54 :: u55 :: u56 :: u57 :: u58 :: u59 :: u60 :: u61 :: u62 :: u63 :: u64 :: u65 :: u66 :: u67 :: u68 :: u69 :: u70 :: u71 :: u72 :: u73 :: u74 :: u75 :: u76 :: u77 :: u78 :: u79 :: u80 :: u81 :: u82 :: u83 :: u84 :: u85 :: u86 :: u87 :: u88 :: u89 :: u90 :: u91 :: u92 :: u93 :: u94 :: []), []⟩ w9 := by
 refine hK _ _ ?_
 conv => arg 2; whnf
 clear hK
 have q14 := H.out.cell hs.out.c14
 have q15 := H.out.cell hs.out.c15
 have q16 := H.out.cell hs.out.c16
 have q17 := H.out.cell hs.out.c17
 (try dsimp only); repeat' (first | go_values | go_skip | go_guarded | go_step | go_upon | go_back)
 refine (hs.out.hr _).mono ?_
 rintro r0 w10 ⟨rfl, rfl⟩
 cases ok with
 | false =>
  clear hz q14 q15 q16 q17
  cases v64 with
  | true =>
   (try dsimp only); repeat' (first | go_values | go_skip | go_guarded | go_step | go_upon | go_back)
   refine (hs.out.hm _ H.out).mono ?_
   rintro r0 w11 ⟨rfl, h11⟩
   have H11 := Lib.hid h11.drop
   clear h11
   cases v128 with
   | true =>
    (try dsimp only); repeat' (first | go_values | go_skip | go_guarded | go_step | go_upon | go_back)
    go_ret
    exact ⟨by first | (rw [HR.out]; rfl) | rw [HR.out] | (rw [HR.out]; simp), H11.out⟩
   | false =>
    (try dsimp only); repeat' (first | go_values | go_skip | go_guarded | go_step | go_upon | go_back)
    go_ret
    exact ⟨by first | (rw [HR.out]; rfl) | rw [HR.out] | (rw [HR.out]; simp), H11.out⟩
  | false =>
   (try dsimp only); repeat' (first | go_values | go_skip | go_guarded | go_step | go_upon | go_back)
   refine (hs.out.hm _ H.out).mono ?_
   rintro r0 w11 ⟨rfl, h11⟩
   have H11 := Lib.hid h11.drop
   clear h11
   cases v128 with
   | true =>
    (try dsimp only); repeat' (first | go_values | go_skip | go_guarded | go_step | go_upon | go_back)
    go_ret
    exact ⟨by first | (rw [HR.out]; rfl) | rw [HR.out] | (rw [HR.out]; simp), H11.out⟩
   | false =>
    (try dsimp only); repeat' (first | go_values | go_skip | go_guarded | go_step | go_upon | go_back)
    go_ret
    exact ⟨by first | (rw [HR.out]; rfl) | rw [HR.out] | (rw [HR.out]; simp), H11.out⟩
 | true =>
  cases v64 with
  | true =>
   clear hz
   (try dsimp only); repeat' (first | go_values | go_skip | go_guarded | go_step | go_upon | go_back)
   refine (hs.out.cr _ H.out).mono ?_
   rintro r0 w10 ⟨rfl, h10⟩
   have H10 := Lib.hid h10
   clear h10 q14 q15 q16 q17
   cases rr with
   | true =>
    rw [show eB true = 0 from rfl]
    (try dsimp only); repeat' (first | go_values | go_skip | go_guarded | go_step | go_upon | go_back)
    refine (hs.out.hm _ H10.out).mono ?_
    rintro r0 w11 ⟨rfl, h11⟩
    have q18 := h11.cell hs.out.c18
    have q19 := h11.cell hs.out.c19
    have q20 := h11.cell hs.out.c20
    have q21 := h11.cell hs.out.c21
    have H11 := Lib.hid h11
    clear h11
    cases v128 with
    | true =>
     (try dsimp only); repeat' (first | go_values | go_skip | go_guarded | go_step | go_upon | go_back)
     refine (hs.out.ci _ H11.out).mono ?_
     rintro r0 w12 ⟨rfl, h12⟩
     have H12 := Lib.hid h12.drop
     clear h12 q18 q19 q20 q21
     cases ci with
     | true =>
      rw [show eB true = 0 from rfl]
      (try dsimp only); repeat' (first | go_values | go_skip | go_guarded | go_step | go_upon | go_back)
      go_ret
      exact ⟨by first | (rw [HR.out]; rfl) | rw [HR.out] | (rw [HR.out]; simp), H12.out⟩
     | false =>
      rw [show eB false = 2 from rfl]
      (try dsimp only); repeat' (first | go_values | go_skip | go_guarded | go_step | go_upon | go_back)
      go_ret
      exact ⟨by first | (rw [HR.out]; rfl) | rw [HR.out] | (rw [HR.out]; simp), H12.out⟩
    | false =>
     (try dsimp only); repeat' (first | go_values | go_skip | go_guarded | go_step | go_upon | go_back)
     refine (hs.out.si _ H11.out).mono ?_
     rintro r0 w12 ⟨rfl, h12⟩
     have H12 := Lib.hid h12.drop
     clear h12 q18 q19 q20 q21
     cases si with
     | true =>
      (try dsimp only); repeat' (first | go_values | go_skip | go_guarded | go_step | go_upon | go_back)
      go_ret
      exact ⟨by first | (rw [HR.out]; rfl) | rw [HR.out] | (rw [HR.out]; simp), H12.out⟩
     | false =>
      (try dsimp only); repeat' (first | go_values | go_skip | go_guarded | go_step | go_upon | go_back)
      go_ret
      exact ⟨by first | (rw [HR.out]; rfl) | rw [HR.out] | (rw [HR.out]; simp), H12.out⟩
   | false =>
    rw [show eB false = 2 from rfl]
    (try dsimp only); repeat' (first | go_values | go_skip | go_guarded | go_step | go_upon | go_back)
    refine (hs.out.hm _ H10.out).mono ?_
    rintro r0 w11 ⟨rfl, h11⟩
    have H11 := Lib.hid h11.drop
    clear h11
    cases v128 with
    | true =>
     (try dsimp only); repeat' (first | go_values | go_skip | go_guarded | go_step | go_upon | go_back)
     go_ret
     exact ⟨by first | (rw [HR.out]; rfl) | rw [HR.out] | (rw [HR.out]; simp), H11.out⟩
    | false =>
     (try dsimp only); repeat' (first | go_values | go_skip | go_guarded | go_step | go_upon | go_back)
     go_ret
     exact ⟨by first | (rw [HR.out]; rfl) | rw [HR.out] | (rw [HR.out]; simp), H11.out⟩
  | false =>
   rcases hz with ⟨z1, z2, z3, z4⟩ | ⟨z1, z2⟩ | ⟨z1, z2, z3⟩ | ⟨z1, z2, z3, z4⟩
   ·subst z1 z2 z3 z4
    cases s with
    | false =>
     (try dsimp only); repeat' (first | go_values | go_skip | go_guarded | go_step | go_upon | go_back)
     refine (hs.out.hm _ H.out).mono ?_
     rintro r0 w11 ⟨rfl, h11⟩
     have q18 := h11.cell hs.out.c18
     have q19 := h11.cell hs.out.c19
     have q20 := h11.cell hs.out.c20
     have q21 := h11.cell hs.out.c21
     have H11 := Lib.hid h11
     clear h11
     cases v128 with
     | true =>
      (try dsimp only); repeat' (first | go_values | go_skip | go_guarded | go_step | go_upon | go_back)
      refine (hs.out.ci _ H11.out).mono ?_
      rintro r0 w12 ⟨rfl, h12⟩
      have H12 := Lib.hid h12.drop
      clear h12 q18 q19 q20 q21
      cases ci with
      | true =>
       rw [show eB true = 0 from rfl]
       (try dsimp only); repeat' (first | go_values | go_skip | go_guarded | go_step | go_upon | go_back)
       go_ret
       exact ⟨by first | (rw [HR.out]; rfl) | rw [HR.out] | (rw [HR.out]; simp), H12.out⟩
      | false =>
       rw [show eB false = 2 from rfl]
       (try dsimp only); repeat' (first | go_values | go_skip | go_guarded | go_step | go_upon | go_back)
       go_ret
       exact ⟨by first | (rw [HR.out]; rfl) | rw [HR.out] | (rw [HR.out]; simp), H12.out⟩
     | false =>
      (try dsimp only); repeat' (first | go_values | go_skip | go_guarded | go_step | go_upon | go_back)
      refine (hs.out.si _ H11.out).mono ?_
      rintro r0 w12 ⟨rfl, h12⟩
      have H12 := Lib.hid h12.drop
      clear h12 q18 q19 q20 q21
      cases si with
      | true =>
       (try dsimp only); repeat' (first | go_values | go_skip | go_guarded | go_step | go_upon | go_back)
       go_ret
       exact ⟨by first | (rw [HR.out]; rfl) | rw [HR.out] | (rw [HR.out]; simp), H12.out⟩
      | false =>
       (try dsimp only); repeat' (first | go_values | go_skip | go_guarded | go_step | go_upon | go_back)
       go_ret
       exact ⟨by first | (rw [HR.out]; rfl) | rw [HR.out] | (rw [HR.out]; simp), H12.out⟩
    | true =>
     (try dsimp only); repeat' (first | go_values | go_skip | go_guarded | go_step | go_upon | go_back)
     refine (hs.out.hm _ H.out).mono ?_
     rintro r0 w11 ⟨rfl, h11⟩
     have H11 := Lib.hid h11.drop
     clear h11
     cases v128 with
     | true =>
      (try dsimp only); repeat' (first | go_values | go_skip | go_guarded | go_step | go_upon | go_back)
      go_ret
      exact ⟨by first | (rw [HR.out]; rfl) | rw [HR.out] | (rw [HR.out]; simp), H11.out⟩
     | false =>
      (try dsimp only); repeat' (first | go_values | go_skip | go_guarded | go_step | go_upon | go_back)
      go_ret
      exact ⟨by first | (rw [HR.out]; rfl) | rw [HR.out] | (rw [HR.out]; simp), H11.out⟩
   ·subst z2
    (try dsimp only); repeat' (first | go_values | go_skip | go_guarded | go_step | go_upon | go_back)
    refine (hs.out.hm _ H.out).mono ?_
    rintro r0 w11 ⟨rfl, h11⟩
    have H11 := Lib.hid h11.drop
    clear h11
    cases v128 with
    | true =>
     (try dsimp only); repeat' (first | go_values | go_skip | go_guarded | go_step | go_upon | go_back)
     go_ret
     exact ⟨by first | (rw [HR.out]; rfl) | rw [HR.out] | (rw [HR.out]; simp), H11.out⟩
    | false =>
     (try dsimp only); repeat' (first | go_values | go_skip | go_guarded | go_step | go_upon | go_back)
     go_ret
     exact ⟨by first | (rw [HR.out]; rfl) | rw [HR.out] | (rw [HR.out]; simp), H11.out⟩
   ·subst z1 z3
    (try dsimp only); repeat' (first | go_values | go_skip | go_guarded | go_step | go_upon | go_back)
    refine (hs.out.hm _ H.out).mono ?_
    rintro r0 w11 ⟨rfl, h11⟩
    have H11 := Lib.hid h11.drop
    clear h11
    cases v128 with
    | true =>
     (try dsimp only); repeat' (first | go_values | go_skip | go_guarded | go_step | go_upon | go_back)
     go_ret
     exact ⟨by first | (rw [HR.out]; rfl) | rw [HR.out] | (rw [HR.out]; simp), H11.out⟩
    | false =>
     (try dsimp only); repeat' (first | go_values | go_skip | go_guarded | go_step | go_upon | go_back)
     go_ret
     exact ⟨by first | (rw [HR.out]; rfl) | rw [HR.out] | (rw [HR.out]; simp), H11.out⟩
   ·subst z1 z2 z4
    (try dsimp only); repeat' (first | go_values | go_skip | go_guarded | go_step | go_upon | go_back)
    refine (hs.out.hm _ H.out).mono ?_
    rintro r0 w11 ⟨rfl, h11⟩
    have H11 := Lib.hid h11.drop
    clear h11
    cases v128 with
    | true =>
     (try dsimp only); repeat' (first | go_values | go_skip | go_guarded | go_step | go_upon | go_back)
     go_ret
     exact ⟨by first | (rw [HR.out]; rfl) | rw [HR.out] | (rw [HR.out]; simp), H11.out⟩
    | false =>
     (try dsimp only); repeat' (first | go_values | go_skip | go_guarded | go_step | go_upon | go_back)
     go_ret
     exact ⟨by first | (rw [HR.out]; rfl) | rw [HR.out] | (rw [HR.out]; simp), H11.out⟩
theorem yld_load5 {P : Program} {o : Oper} {e : Operand → Value} {t : TypeId} {x : Operand} {p v : Value} {w : World} (hop : o.op = .load t x) (hx : e x = p) (hr : (Instr.loadAt t p).run P w = .ok v w) : (execOp e o).run P w = .ok (.value v) w := by
 simp [execOp, hop, hx, hr]
/-- What region 3 of Check loads. -/
def SC5 (b1 : Nat) (v o cm la : Int) (mc : Array Value) (w : World) : Prop :=
 w.cell? ⟨b1, 3, none⟩ = some (.int .i64 v) ∧ w.cell? ⟨b1, 4, none⟩ = some (.int .i64 o) ∧ w.cell? ⟨b1, 5, none⟩ = some (.int .i64 cm) ∧ w.cell? ⟨b1, 6, none⟩ = some (.int .i64 la) ∧ (Instr.loadAt 40 (.pointer (some ⟨b1, 0, none⟩))).run Tryz.prog w = .ok (.agg mc) w
set_option maxRecDepth 100000 in
set_option maxHeartbeats 64000000 in
theorem rcheckS {w wa : World} {b1 : Nat} {mc : Array Value} {k f t v o cm la rc ra rb : Int} {s : Bool} {ib ic : Int} {cv ev : Value} {v1 v2 v4 v8 v64 v128 pf pt a1 a2 a4 a8 ae rr ci si : Bool} (zB : Bool) (R : Int)
  (hb1 : b1 = w.heap.size) (hwa : wa = w.alloc (.cells mc 40)) (h1 : Sep w [Cl b1 mc 40] wa) (hs : Hid (CkS w b1 mc k f t v o cm la rc ra rb s ib ic cv ev v1 v2 v4 v8 v64 v128 pf pt a1 a2 a4 a8 ae rr ci si))
  (hz : (rc = 0 ∧ ra = 0 ∧ rb = 0 ∧ zB = true) ∨ (¬ rc = 0 ∧ zB = false) ∨ (rc = 0 ∧ ¬ ra = 0 ∧ zB = false) ∨ (rc = 0 ∧ ra = 0 ∧ ¬ rb = 0 ∧ zB = false))
  (HR : Hid (R = if ((decide (1 ≤ k) && decide (k ≤ 10) && pf && pt && a1 && a2 && a4 && a8 && ae) && ((if v64 = true then rr else zB && !s) && (if v128 = true then ci else si))) = true then 0 else 2)) :
  Calls Tryz.prog 48 #[.agg mc] w fun e w' => e = .returned (.int .i64 R) ∧ Sep w [] w' := by
 have HSC : Hid (∀ wx, Sep w [Cl b1 mc 40] wx → SC5 b1 v o cm la mc wx) := Lib.hid fun wx hx => ⟨hx.cell hs.out.c3, hx.cell hs.out.c4, hx.cell hs.out.c5, hx.cell hs.out.c6, hs.out.ld wx hx⟩
 have m0 := hs.out.c0
 have m1 := hs.out.c1
 have m2 := hs.out.c2
 have n1 := h1.cell hs.out.c1
 have n2 := h1.cell hs.out.c2
 have H1 := Lib.hid h1
 have HD := Lib.hid h1.drew
 clear h1
 go_enter Tryz.func48, Tryz.ntmps48
 by_cases hk1 : 1 ≤ k
 ·have d0 : decide (1 ≤ k) = true := decide_eq_true hk1
  by_cases hk2 : k ≤ 10
  ·have d1 : decide (k ≤ 10) = true := decide_eq_true hk2
   (try dsimp only); repeat' (first | go_values | go_skip | go_guarded | go_step | go_upon | go_back)
   (try rw [← hwa])
   (try rw [← hb1])
   clear hwa hb1
   refine (hs.out.sf _).mono ?_
   rintro r0 w2 ⟨rfl, rfl⟩
   cases pf with
   | false =>
    (try dsimp only); repeat' (first | go_values | go_skip | go_guarded | go_step | go_upon | go_back)
    refine wp_region_G (SC5 b1 v o cm la mc) [33] (by kernel_rfl) (HSC.out _ HD.out) (fun hS => ?_)
    try dsimp only at hS
    refine wpAnyG_tk (i := 0) (v := ?v0_1f) rfl (Or.inl ⟨by rfl, ?a_⟩) (HSC.out _ HD.out) ?b_
    case a_ => intro w hSw; (try dsimp only at hSw); go_simp; (try with_reducible rfl)
    case b_ =>
    try simp only [nz0, nz1, nz2, Act.put, nz3, nz4, nz5]
    refine wpAnyG_tk (i := 1) (v := ?v1_2f) rfl (Or.inl ⟨by rfl, ?a_⟩) (HSC.out _ HD.out) ?b_
    case a_ => intro w hSw; (try dsimp only at hSw); go_simp; (try with_reducible rfl)
    case b_ =>
    try simp only [nz0, nz1, nz2, Act.put, nz3, nz4, nz5]
    refine wpAnyG_take' (i := 2) (v := undef) rfl (by kernel_rfl) (by kernel_rfl) (by kernel_rfl) (by kernel_rfl) (fun _ _ _ h => h) (Or.inr ⟨by rfl, rfl⟩) (HSC.out _ HD.out) ?rest2_3f
    case rest2_3f =>
    try simp only [nz0, nz1, nz2, Act.put, nz3, nz4, nz5]
    refine wpAnyG_take' (i := 3) (v := undef) rfl (by kernel_rfl) (by kernel_rfl) (by kernel_rfl) (by kernel_rfl) (fun _ _ _ h => h) (Or.inr ⟨by rfl, rfl⟩) (HSC.out _ HD.out) ?rest3_4f
    case rest3_4f =>
    try simp only [nz0, nz1, nz2, Act.put, nz3, nz4, nz5]
    refine wpAnyG_take' (i := 4) (v := undef) rfl (by kernel_rfl) (by kernel_rfl) (by kernel_rfl) (by kernel_rfl) (fun _ _ _ h => h) (Or.inr ⟨by rfl, rfl⟩) (HSC.out _ HD.out) ?rest4_5f
    case rest4_5f =>
    try simp only [nz0, nz1, nz2, Act.put, nz3, nz4, nz5]
    refine wpAnyG_take' (i := 5) (v := undef) rfl (by kernel_rfl) (by kernel_rfl) (by kernel_rfl) (by kernel_rfl) (fun _ _ _ h => h) (Or.inr ⟨by rfl, rfl⟩) (HSC.out _ HD.out) ?rest5_6f
    case rest5_6f =>
    try simp only [nz0, nz1, nz2, Act.put, nz3, nz4, nz5]
    refine wpAnyG_take' (i := 6) (v := undef) rfl (by kernel_rfl) (by kernel_rfl) (by kernel_rfl) (by kernel_rfl) (fun _ _ _ h => h) (Or.inr ⟨by rfl, rfl⟩) (HSC.out _ HD.out) ?rest6_7f
    case rest6_7f =>
    try simp only [nz0, nz1, nz2, Act.put, nz3, nz4, nz5]
    refine wpAnyG_tk (i := 7) (v := ?v7_8f) rfl (Or.inl ⟨by rfl, ?a_⟩) (HSC.out _ HD.out) ?b_
    case a_ => intro w hSw; (try dsimp only at hSw); go_simp; (try with_reducible rfl)
    case b_ =>
    try simp only [nz0, nz1, nz2, Act.put, nz3, nz4, nz5]
    refine wpAnyG_tk (i := 8) (v := ?v8_9f) rfl (Or.inl ⟨by rfl, ?a_⟩) (HSC.out _ HD.out) ?b_
    case a_ => intro w hSw; (try dsimp only at hSw); go_simp; (try with_reducible rfl)
    case b_ =>
    try simp only [nz0, nz1, nz2, Act.put, nz3, nz4, nz5]
    refine wpAnyG_take' (i := 9) (v := undef) rfl (by kernel_rfl) (by kernel_rfl) (by kernel_rfl) (by kernel_rfl) (fun _ _ _ h => h) (Or.inr ⟨by rfl, rfl⟩) (HSC.out _ HD.out) ?rest9_10f
    case rest9_10f =>
    try simp only [nz0, nz1, nz2, Act.put, nz3, nz4, nz5]
    refine wpAnyG_take' (i := 10) (v := undef) rfl (by kernel_rfl) (by kernel_rfl) (by kernel_rfl) (by kernel_rfl) (fun _ _ _ h => h) (Or.inr ⟨by rfl, rfl⟩) (HSC.out _ HD.out) ?rest10_11f
    case rest10_11f =>
    try simp only [nz0, nz1, nz2, Act.put, nz3, nz4, nz5]
    refine wpAnyG_take' (i := 11) (v := undef) rfl (by kernel_rfl) (by kernel_rfl) (by kernel_rfl) (by kernel_rfl) (fun _ _ _ h => h) (Or.inr ⟨by rfl, rfl⟩) (HSC.out _ HD.out) ?rest11_12f
    case rest11_12f =>
    try simp only [nz0, nz1, nz2, Act.put, nz3, nz4, nz5]
    refine wpAnyG_take' (i := 12) (v := undef) rfl (by kernel_rfl) (by kernel_rfl) (by kernel_rfl) (by kernel_rfl) (fun _ _ _ h => h) (Or.inr ⟨by rfl, rfl⟩) (HSC.out _ HD.out) ?rest12_13f
    case rest12_13f =>
    try simp only [nz0, nz1, nz2, Act.put, nz3, nz4, nz5]
    refine wpAnyG_take' (i := 13) (v := undef) rfl (by kernel_rfl) (by kernel_rfl) (by kernel_rfl) (by kernel_rfl) (fun _ _ _ h => h) (Or.inr ⟨by rfl, rfl⟩) (HSC.out _ HD.out) ?rest13_14f
    case rest13_14f =>
    try simp only [nz0, nz1, nz2, Act.put, nz3, nz4, nz5]
    refine wpAnyG_tk (i := 14) (v := ?v14_15f) rfl (Or.inl ⟨by rfl, ?a_⟩) (HSC.out _ HD.out) ?b_
    case a_ => intro w hSw; (try dsimp only at hSw); go_simp; (try with_reducible rfl)
    case b_ =>
    try simp only [nz0, nz1, nz2, Act.put, nz3, nz4, nz5]
    refine wpAnyG_tk (i := 15) (v := ?v15_16f) rfl (Or.inl ⟨by rfl, ?a_⟩) (HSC.out _ HD.out) ?b_
    case a_ => intro w hSw; (try dsimp only at hSw); go_simp; (try with_reducible rfl)
    case b_ =>
    try simp only [nz0, nz1, nz2, Act.put, nz3, nz4, nz5]
    refine wpAnyG_take' (i := 16) (v := undef) rfl (by kernel_rfl) (by kernel_rfl) (by kernel_rfl) (by kernel_rfl) (fun _ _ _ h => h) (Or.inr ⟨by rfl, rfl⟩) (HSC.out _ HD.out) ?rest16_17f
    case rest16_17f =>
    try simp only [nz0, nz1, nz2, Act.put, nz3, nz4, nz5]
    refine wpAnyG_take' (i := 17) (v := undef) rfl (by kernel_rfl) (by kernel_rfl) (by kernel_rfl) (by kernel_rfl) (fun _ _ _ h => h) (Or.inr ⟨by rfl, rfl⟩) (HSC.out _ HD.out) ?rest17_18f
    case rest17_18f =>
    try simp only [nz0, nz1, nz2, Act.put, nz3, nz4, nz5]
    refine wpAnyG_take' (i := 18) (v := undef) rfl (by kernel_rfl) (by kernel_rfl) (by kernel_rfl) (by kernel_rfl) (fun _ _ _ h => h) (Or.inr ⟨by rfl, rfl⟩) (HSC.out _ HD.out) ?rest18_19f
    case rest18_19f =>
    try simp only [nz0, nz1, nz2, Act.put, nz3, nz4, nz5]
    refine wpAnyG_take' (i := 19) (v := undef) rfl (by kernel_rfl) (by kernel_rfl) (by kernel_rfl) (by kernel_rfl) (fun _ _ _ h => h) (Or.inr ⟨by rfl, rfl⟩) (HSC.out _ HD.out) ?rest19_20f
    case rest19_20f =>
    try simp only [nz0, nz1, nz2, Act.put, nz3, nz4, nz5]
    refine wpAnyG_take' (i := 20) (v := undef) rfl (by kernel_rfl) (by kernel_rfl) (by kernel_rfl) (by kernel_rfl) (fun _ _ _ h => h) (Or.inr ⟨by rfl, rfl⟩) (HSC.out _ HD.out) ?rest20_21f
    case rest20_21f =>
    try simp only [nz0, nz1, nz2, Act.put, nz3, nz4, nz5]
    refine wpAnyG_tk (i := 21) (v := ?v21_22f) rfl (Or.inl ⟨by rfl, ?a_⟩) (HSC.out _ HD.out) ?b_
    case a_ => intro w hSw; (try dsimp only at hSw); go_simp; (try with_reducible rfl)
    case b_ =>
    try simp only [nz0, nz1, nz2, Act.put, nz3, nz4, nz5]
    refine wpAnyG_tk (i := 22) (v := ?v22_23f) rfl (Or.inl ⟨by rfl, ?a_⟩) (HSC.out _ HD.out) ?b_
    case a_ => intro w hSw; (try dsimp only at hSw); go_simp; (try with_reducible rfl)
    case b_ =>
    try simp only [nz0, nz1, nz2, Act.put, nz3, nz4, nz5]
    refine wpAnyG_take' (i := 23) (v := undef) rfl (by kernel_rfl) (by kernel_rfl) (by kernel_rfl) (by kernel_rfl) (fun _ _ _ h => h) (Or.inr ⟨by rfl, rfl⟩) (HSC.out _ HD.out) ?rest23_24f
    case rest23_24f =>
    try simp only [nz0, nz1, nz2, Act.put, nz3, nz4, nz5]
    refine wpAnyG_take' (i := 24) (v := undef) rfl (by kernel_rfl) (by kernel_rfl) (by kernel_rfl) (by kernel_rfl) (fun _ _ _ h => h) (Or.inr ⟨by rfl, rfl⟩) (HSC.out _ HD.out) ?rest24_25f
    case rest24_25f =>
    try simp only [nz0, nz1, nz2, Act.put, nz3, nz4, nz5]
    refine wpAnyG_take' (i := 25) (v := undef) rfl (by kernel_rfl) (by kernel_rfl) (by kernel_rfl) (by kernel_rfl) (fun _ _ _ h => h) (Or.inr ⟨by rfl, rfl⟩) (HSC.out _ HD.out) ?rest25_26f
    case rest25_26f =>
    try simp only [nz0, nz1, nz2, Act.put, nz3, nz4, nz5]
    refine wpAnyG_take' (i := 26) (v := undef) rfl (by kernel_rfl) (by kernel_rfl) (by kernel_rfl) (by kernel_rfl) (fun _ _ _ h => h) (Or.inr ⟨by rfl, rfl⟩) (HSC.out _ HD.out) ?rest26_27f
    case rest26_27f =>
    try simp only [nz0, nz1, nz2, Act.put, nz3, nz4, nz5]
    refine wpAnyG_take' (i := 27) (v := undef) rfl (by kernel_rfl) (by kernel_rfl) (by kernel_rfl) (by kernel_rfl) (fun _ _ _ h => h) (Or.inr ⟨by rfl, rfl⟩) (HSC.out _ HD.out) ?rest27_28f
    case rest27_28f =>
    try simp only [nz0, nz1, nz2, Act.put, nz3, nz4, nz5]
    refine wpAnyG_tk (i := 28) (v := ?v28_29f) rfl (Or.inl ⟨by rfl, ?a_⟩) (HSC.out _ HD.out) ?b_
    case a_ => intro w hSw; (try dsimp only at hSw); go_simp; (try with_reducible rfl)
    case b_ =>
    try simp only [nz0, nz1, nz2, Act.put, nz3, nz4, nz5]
    refine wpAnyG_tk (i := 29) (v := ?v29_30f) rfl (Or.inl ⟨by rfl, ?a_⟩) (HSC.out _ HD.out) ?b_
    case a_ => intro w hSw; (try dsimp only at hSw); go_simp; (try with_reducible rfl)
    case b_ =>
    try simp only [nz0, nz1, nz2, Act.put, nz3, nz4, nz5]
    refine wpAnyG_take' (i := 30) (v := undef) rfl (by kernel_rfl) (by kernel_rfl) (by kernel_rfl) (by kernel_rfl) (fun _ _ _ h => h) (Or.inr ⟨by rfl, rfl⟩) (HSC.out _ HD.out) ?rest30_31f
    case rest30_31f =>
    try simp only [nz0, nz1, nz2, Act.put, nz3, nz4, nz5]
    refine wpAnyG_take' (i := 31) (v := undef) rfl (by kernel_rfl) (by kernel_rfl) (by kernel_rfl) (by kernel_rfl) (fun _ _ _ h => h) (Or.inr ⟨by rfl, rfl⟩) (HSC.out _ HD.out) ?rest31_32f
    case rest31_32f =>
    try simp only [nz0, nz1, nz2, Act.put, nz3, nz4, nz5]
    refine wpAnyG_tk (i := 32) (v := ?v32_33f) rfl (Or.inl ⟨by rfl, ?a_⟩) (HSC.out _ HD.out) ?b_
    case a_ => intro w hSw; (try dsimp only at hSw); go_simp; (try with_reducible rfl)
    case b_ =>
    try simp only [nz0, nz1, nz2, Act.put, nz3, nz4, nz5]
    refine wpAnyG_one (i := 33) (by kernel_rfl) rfl (fun K hK => ?_)
    go_simp
    refine hK.out _ _ (fun hno => by cases hno) ?_
    clear K hK
    try simp only [nz0, nz1, nz2, Act.put, nz3, nz4, nz5]
    refine wpAnyG_done (by kernel_rfl) ?_ _
    try simp only [nz0, nz1, nz2, Act.put, nz3, nz4, nz5]
    refine rcktail false zB R hs HD hz (Lib.hid (by rw [HR.out]; rw [d0, d1]; rfl)) ?_ _ _ _ _ _ _ _ _ _ _ _ _ _ _ _ _ _ _ _ _ _ _ _ _ _ _ _ _ _ _ _ _ _ _ _ _ _ _ _ _ _ _ _ _ _ _ _ _ _ _ _ _ _ _ _ _ _ _ _ _ _ _ _ _ _ _ _ _ _ _ _ _ _ _ _ _ _ _ _ _ _ _ _ _ _ _ _ _ _ _
    assumption
   | true =>
    (try dsimp only); repeat' (first | go_values | go_skip | go_guarded | go_step | go_upon | go_back)
    refine (hs.out.st _).mono ?_
    rintro r0 w3 ⟨rfl, rfl⟩
    cases pt with
    | false =>
     (try dsimp only); repeat' (first | go_values | go_skip | go_guarded | go_step | go_upon | go_back)
     refine wp_region_G (SC5 b1 v o cm la mc) [33] (by kernel_rfl) (HSC.out _ HD.out) (fun hS => ?_)
     try dsimp only at hS
     refine wpAnyG_tk (i := 0) (v := ?v0_1t) rfl (Or.inl ⟨by rfl, ?a_⟩) (HSC.out _ HD.out) ?b_
     case a_ => intro w hSw; (try dsimp only at hSw); go_simp; (try with_reducible rfl)
     case b_ =>
     try simp only [nz0, nz1, nz2, Act.put, nz3, nz4, nz5]
     refine wpAnyG_tk (i := 1) (v := ?v1_2t) rfl (Or.inl ⟨by rfl, ?a_⟩) (HSC.out _ HD.out) ?b_
     case a_ => intro w hSw; (try dsimp only at hSw); go_simp; (try with_reducible rfl)
     case b_ =>
     try simp only [nz0, nz1, nz2, Act.put, nz3, nz4, nz5]
     refine wpAnyG_take' (i := 2) (v := undef) rfl (by kernel_rfl) (by kernel_rfl) (by kernel_rfl) (by kernel_rfl) (fun _ _ _ h => h) (Or.inr ⟨by rfl, rfl⟩) (HSC.out _ HD.out) ?rest2_3t
     case rest2_3t =>
     try simp only [nz0, nz1, nz2, Act.put, nz3, nz4, nz5]
     refine wpAnyG_take' (i := 3) (v := undef) rfl (by kernel_rfl) (by kernel_rfl) (by kernel_rfl) (by kernel_rfl) (fun _ _ _ h => h) (Or.inr ⟨by rfl, rfl⟩) (HSC.out _ HD.out) ?rest3_4t
     case rest3_4t =>
     try simp only [nz0, nz1, nz2, Act.put, nz3, nz4, nz5]
     refine wpAnyG_take' (i := 4) (v := undef) rfl (by kernel_rfl) (by kernel_rfl) (by kernel_rfl) (by kernel_rfl) (fun _ _ _ h => h) (Or.inr ⟨by rfl, rfl⟩) (HSC.out _ HD.out) ?rest4_5t
     case rest4_5t =>
     try simp only [nz0, nz1, nz2, Act.put, nz3, nz4, nz5]
     refine wpAnyG_take' (i := 5) (v := undef) rfl (by kernel_rfl) (by kernel_rfl) (by kernel_rfl) (by kernel_rfl) (fun _ _ _ h => h) (Or.inr ⟨by rfl, rfl⟩) (HSC.out _ HD.out) ?rest5_6t
     case rest5_6t =>
     try simp only [nz0, nz1, nz2, Act.put, nz3, nz4, nz5]
     refine wpAnyG_take' (i := 6) (v := undef) rfl (by kernel_rfl) (by kernel_rfl) (by kernel_rfl) (by kernel_rfl) (fun _ _ _ h => h) (Or.inr ⟨by rfl, rfl⟩) (HSC.out _ HD.out) ?rest6_7t
     case rest6_7t =>
     try simp only [nz0, nz1, nz2, Act.put, nz3, nz4, nz5]
     refine wpAnyG_tk (i := 7) (v := ?v7_8t) rfl (Or.inl ⟨by rfl, ?a_⟩) (HSC.out _ HD.out) ?b_
     case a_ => intro w hSw; (try dsimp only at hSw); go_simp; (try with_reducible rfl)
     case b_ =>
     try simp only [nz0, nz1, nz2, Act.put, nz3, nz4, nz5]
     refine wpAnyG_tk (i := 8) (v := ?v8_9t) rfl (Or.inl ⟨by rfl, ?a_⟩) (HSC.out _ HD.out) ?b_
     case a_ => intro w hSw; (try dsimp only at hSw); go_simp; (try with_reducible rfl)
     case b_ =>
     try simp only [nz0, nz1, nz2, Act.put, nz3, nz4, nz5]
     refine wpAnyG_take' (i := 9) (v := undef) rfl (by kernel_rfl) (by kernel_rfl) (by kernel_rfl) (by kernel_rfl) (fun _ _ _ h => h) (Or.inr ⟨by rfl, rfl⟩) (HSC.out _ HD.out) ?rest9_10t
     case rest9_10t =>
     try simp only [nz0, nz1, nz2, Act.put, nz3, nz4, nz5]
     refine wpAnyG_take' (i := 10) (v := undef) rfl (by kernel_rfl) (by kernel_rfl) (by kernel_rfl) (by kernel_rfl) (fun _ _ _ h => h) (Or.inr ⟨by rfl, rfl⟩) (HSC.out _ HD.out) ?rest10_11t
     case rest10_11t =>
     try simp only [nz0, nz1, nz2, Act.put, nz3, nz4, nz5]
     refine wpAnyG_take' (i := 11) (v := undef) rfl (by kernel_rfl) (by kernel_rfl) (by kernel_rfl) (by kernel_rfl) (fun _ _ _ h => h) (Or.inr ⟨by rfl, rfl⟩) (HSC.out _ HD.out) ?rest11_12t
     case rest11_12t =>
     try simp only [nz0, nz1, nz2, Act.put, nz3, nz4, nz5]
     refine wpAnyG_take' (i := 12) (v := undef) rfl (by kernel_rfl) (by kernel_rfl) (by kernel_rfl) (by kernel_rfl) (fun _ _ _ h => h) (Or.inr ⟨by rfl, rfl⟩) (HSC.out _ HD.out) ?rest12_13t
     case rest12_13t =>
     try simp only [nz0, nz1, nz2, Act.put, nz3, nz4, nz5]
     refine wpAnyG_take' (i := 13) (v := undef) rfl (by kernel_rfl) (by kernel_rfl) (by kernel_rfl) (by kernel_rfl) (fun _ _ _ h => h) (Or.inr ⟨by rfl, rfl⟩) (HSC.out _ HD.out) ?rest13_14t
     case rest13_14t =>
     try simp only [nz0, nz1, nz2, Act.put, nz3, nz4, nz5]
     refine wpAnyG_tk (i := 14) (v := ?v14_15t) rfl (Or.inl ⟨by rfl, ?a_⟩) (HSC.out _ HD.out) ?b_
     case a_ => intro w hSw; (try dsimp only at hSw); go_simp; (try with_reducible rfl)
     case b_ =>
     try simp only [nz0, nz1, nz2, Act.put, nz3, nz4, nz5]
     refine wpAnyG_tk (i := 15) (v := ?v15_16t) rfl (Or.inl ⟨by rfl, ?a_⟩) (HSC.out _ HD.out) ?b_
     case a_ => intro w hSw; (try dsimp only at hSw); go_simp; (try with_reducible rfl)
     case b_ =>
     try simp only [nz0, nz1, nz2, Act.put, nz3, nz4, nz5]
     refine wpAnyG_take' (i := 16) (v := undef) rfl (by kernel_rfl) (by kernel_rfl) (by kernel_rfl) (by kernel_rfl) (fun _ _ _ h => h) (Or.inr ⟨by rfl, rfl⟩) (HSC.out _ HD.out) ?rest16_17t
     case rest16_17t =>
     try simp only [nz0, nz1, nz2, Act.put, nz3, nz4, nz5]
     refine wpAnyG_take' (i := 17) (v := undef) rfl (by kernel_rfl) (by kernel_rfl) (by kernel_rfl) (by kernel_rfl) (fun _ _ _ h => h) (Or.inr ⟨by rfl, rfl⟩) (HSC.out _ HD.out) ?rest17_18t
     case rest17_18t =>
     try simp only [nz0, nz1, nz2, Act.put, nz3, nz4, nz5]
     refine wpAnyG_take' (i := 18) (v := undef) rfl (by kernel_rfl) (by kernel_rfl) (by kernel_rfl) (by kernel_rfl) (fun _ _ _ h => h) (Or.inr ⟨by rfl, rfl⟩) (HSC.out _ HD.out) ?rest18_19t
     case rest18_19t =>
     try simp only [nz0, nz1, nz2, Act.put, nz3, nz4, nz5]
     refine wpAnyG_take' (i := 19) (v := undef) rfl (by kernel_rfl) (by kernel_rfl) (by kernel_rfl) (by kernel_rfl) (fun _ _ _ h => h) (Or.inr ⟨by rfl, rfl⟩) (HSC.out _ HD.out) ?rest19_20t
     case rest19_20t =>
     try simp only [nz0, nz1, nz2, Act.put, nz3, nz4, nz5]
     refine wpAnyG_take' (i := 20) (v := undef) rfl (by kernel_rfl) (by kernel_rfl) (by kernel_rfl) (by kernel_rfl) (fun _ _ _ h => h) (Or.inr ⟨by rfl, rfl⟩) (HSC.out _ HD.out) ?rest20_21t
     case rest20_21t =>
     try simp only [nz0, nz1, nz2, Act.put, nz3, nz4, nz5]
     refine wpAnyG_tk (i := 21) (v := ?v21_22t) rfl (Or.inl ⟨by rfl, ?a_⟩) (HSC.out _ HD.out) ?b_
     case a_ => intro w hSw; (try dsimp only at hSw); go_simp; (try with_reducible rfl)
     case b_ =>
     try simp only [nz0, nz1, nz2, Act.put, nz3, nz4, nz5]
     refine wpAnyG_tk (i := 22) (v := ?v22_23t) rfl (Or.inl ⟨by rfl, ?a_⟩) (HSC.out _ HD.out) ?b_
     case a_ => intro w hSw; (try dsimp only at hSw); go_simp; (try with_reducible rfl)
     case b_ =>
     try simp only [nz0, nz1, nz2, Act.put, nz3, nz4, nz5]
     refine wpAnyG_take' (i := 23) (v := undef) rfl (by kernel_rfl) (by kernel_rfl) (by kernel_rfl) (by kernel_rfl) (fun _ _ _ h => h) (Or.inr ⟨by rfl, rfl⟩) (HSC.out _ HD.out) ?rest23_24t
     case rest23_24t =>
     try simp only [nz0, nz1, nz2, Act.put, nz3, nz4, nz5]
     refine wpAnyG_take' (i := 24) (v := undef) rfl (by kernel_rfl) (by kernel_rfl) (by kernel_rfl) (by kernel_rfl) (fun _ _ _ h => h) (Or.inr ⟨by rfl, rfl⟩) (HSC.out _ HD.out) ?rest24_25t
     case rest24_25t =>
     try simp only [nz0, nz1, nz2, Act.put, nz3, nz4, nz5]
     refine wpAnyG_take' (i := 25) (v := undef) rfl (by kernel_rfl) (by kernel_rfl) (by kernel_rfl) (by kernel_rfl) (fun _ _ _ h => h) (Or.inr ⟨by rfl, rfl⟩) (HSC.out _ HD.out) ?rest25_26t
     case rest25_26t =>
     try simp only [nz0, nz1, nz2, Act.put, nz3, nz4, nz5]
     refine wpAnyG_take' (i := 26) (v := undef) rfl (by kernel_rfl) (by kernel_rfl) (by kernel_rfl) (by kernel_rfl) (fun _ _ _ h => h) (Or.inr ⟨by rfl, rfl⟩) (HSC.out _ HD.out) ?rest26_27t
     case rest26_27t =>
     try simp only [nz0, nz1, nz2, Act.put, nz3, nz4, nz5]
     refine wpAnyG_take' (i := 27) (v := undef) rfl (by kernel_rfl) (by kernel_rfl) (by kernel_rfl) (by kernel_rfl) (fun _ _ _ h => h) (Or.inr ⟨by rfl, rfl⟩) (HSC.out _ HD.out) ?rest27_28t
     case rest27_28t =>
     try simp only [nz0, nz1, nz2, Act.put, nz3, nz4, nz5]
     refine wpAnyG_tk (i := 28) (v := ?v28_29t) rfl (Or.inl ⟨by rfl, ?a_⟩) (HSC.out _ HD.out) ?b_
     case a_ => intro w hSw; (try dsimp only at hSw); go_simp; (try with_reducible rfl)
     case b_ =>
     try simp only [nz0, nz1, nz2, Act.put, nz3, nz4, nz5]
     refine wpAnyG_tk (i := 29) (v := ?v29_30t) rfl (Or.inl ⟨by rfl, ?a_⟩) (HSC.out _ HD.out) ?b_
     case a_ => intro w hSw; (try dsimp only at hSw); go_simp; (try with_reducible rfl)
     case b_ =>
     try simp only [nz0, nz1, nz2, Act.put, nz3, nz4, nz5]
     refine wpAnyG_take' (i := 30) (v := undef) rfl (by kernel_rfl) (by kernel_rfl) (by kernel_rfl) (by kernel_rfl) (fun _ _ _ h => h) (Or.inr ⟨by rfl, rfl⟩) (HSC.out _ HD.out) ?rest30_31t
     case rest30_31t =>
     try simp only [nz0, nz1, nz2, Act.put, nz3, nz4, nz5]
     refine wpAnyG_take' (i := 31) (v := undef) rfl (by kernel_rfl) (by kernel_rfl) (by kernel_rfl) (by kernel_rfl) (fun _ _ _ h => h) (Or.inr ⟨by rfl, rfl⟩) (HSC.out _ HD.out) ?rest31_32t
     case rest31_32t =>
     try simp only [nz0, nz1, nz2, Act.put, nz3, nz4, nz5]
     refine wpAnyG_tk (i := 32) (v := ?v32_33t) rfl (Or.inl ⟨by rfl, ?a_⟩) (HSC.out _ HD.out) ?b_
     case a_ => intro w hSw; (try dsimp only at hSw); go_simp; (try with_reducible rfl)
     case b_ =>
     try simp only [nz0, nz1, nz2, Act.put, nz3, nz4, nz5]
     refine wpAnyG_one (i := 33) (by kernel_rfl) rfl (fun K hK => ?_)
     go_simp
     refine hK.out _ _ (fun hno => by cases hno) ?_
     clear K hK
     try simp only [nz0, nz1, nz2, Act.put, nz3, nz4, nz5]
     refine wpAnyG_done (by kernel_rfl) ?_ _
     try simp only [nz0, nz1, nz2, Act.put, nz3, nz4, nz5]
     refine rcktail false zB R hs HD hz (Lib.hid (by rw [HR.out]; rw [d0, d1]; rfl)) ?_ _ _ _ _ _ _ _ _ _ _ _ _ _ _ _ _ _ _ _ _ _ _ _ _ _ _ _ _ _ _ _ _ _ _ _ _ _ _ _ _ _ _ _ _ _ _ _ _ _ _ _ _ _ _ _ _ _ _ _ _ _ _ _ _ _ _ _ _ _ _ _ _ _ _ _ _ _ _ _ _ _ _ _ _ _ _ _ _ _ _
     assumption
    | true =>
     (try dsimp only); repeat' (first | go_values | go_skip | go_guarded | go_step | go_upon | go_back)
     cases a1 with
     | false =>
      refine wp_region_G (SC5 b1 v o cm la mc) [33] (by kernel_rfl) (HSC.out _ HD.out) (fun hS => ?_)
      try dsimp only at hS
      refine wpAnyG_tk (i := 0) (v := ?v0_1xa1) rfl (Or.inl ⟨by rfl, ?a_⟩) (HSC.out _ HD.out) ?b_
      case a_ => intro w hSw; (try dsimp only at hSw); go_simp; (try with_reducible rfl)
      case b_ =>
      try simp only [nz0, nz1, nz2, Act.put, nz3, nz4, nz5]
      refine wpAnyG_tk (i := 1) (v := ?v1_2xa1) rfl (Or.inl ⟨by rfl, ?a_⟩) (HSC.out _ HD.out) ?b_
      case a_ => intro w hSw; (try dsimp only at hSw); go_simp; (try with_reducible rfl)
      case b_ =>
      try simp only [nz0, nz1, nz2, Act.put, nz3, nz4, nz5]
      refine wpAnyG_tk (i := 2) (v := ?v2_3xa1) rfl (Or.inl ⟨by rfl, ?a_⟩) (HSC.out _ HD.out) ?b_
      case a_ => intro w hSw; (try dsimp only at hSw); go_simp; (try with_reducible rfl)
      case b_ =>
      try simp only [nz0, nz1, nz2, Act.put, nz3, nz4, nz5]
      refine wpAnyG_tk (i := 4) (v := ?v4_4xa1) rfl (Or.inl ⟨by rfl, ?a_⟩) (HSC.out _ HD.out) ?b_
      case a_ => intro w hSw; (try dsimp only at hSw); go_simp; (try with_reducible rfl)
      case b_ =>
      try simp only [nz0, nz1, nz2, Act.put, nz3, nz4, nz5]
      refine wpAnyG_tk (i := 5) (v := .int .i64 v) rfl (Or.inl ⟨by rfl, ?a_⟩) (HSC.out _ HD.out) ?b_
      case a_ => intro w hSw; obtain ⟨s3, s4, s5, s6, -⟩ := hSw; go_simp; (try with_reducible rfl)
      case b_ =>
      try simp only [nz0, nz1, nz2, Act.put, nz3, nz4, nz5]
      refine wpAnyG_one (i := 3) (by kernel_rfl) rfl (fun K hK => ?_)
      go_simp
      refine (hs.out.hv _).mono ?_
      rintro r0 wq50 ⟨rfl, rfl⟩
      refine hK.out _ _ (fun _ => ?hS6xa1) ?rest6xa1
      case hS6xa1 => exact (HSC.out _ HD.out)
      clear K hK
      try simp only [nz0, nz1, nz2, Act.put, nz3, nz4, nz5]
      refine wpAnyG_one (i := 6) (by kernel_rfl) rfl (fun K hK => ?_)
      go_simp
      refine (hs.out.o1 _).mono ?_
      rintro r0 wq60 ⟨rfl, rfl⟩
      refine hK.out _ _ (fun _ => ?hS7xa1) ?rest7xa1
      case hS7xa1 => exact (HSC.out _ HD.out)
      clear K hK
      try simp only [nz0, nz1, nz2, Act.put, nz3, nz4, nz5]
      refine wpAnyG_tk (i := 7) (v := ?v7_8xa1) rfl (Or.inl ⟨by rfl, ?a_⟩) (HSC.out _ HD.out) ?b_
      case a_ => intro w hSw; (try dsimp only at hSw); go_simp; (try with_reducible rfl)
      case b_ =>
      try simp only [nz0, nz1, nz2, Act.put, nz3, nz4, nz5]
      refine wpAnyG_tk (i := 8) (v := ?v8_9xa1) rfl (Or.inl ⟨by rfl, ?a_⟩) (HSC.out _ HD.out) ?b_
      case a_ => intro w hSw; (try dsimp only at hSw); go_simp; (try with_reducible rfl)
      case b_ =>
      try simp only [nz0, nz1, nz2, Act.put, nz3, nz4, nz5]
      refine wpAnyG_take' (i := 9) (v := undef) rfl (by kernel_rfl) (by kernel_rfl) (by kernel_rfl) (by kernel_rfl) (fun _ _ _ h => h) (Or.inr ⟨by rfl, rfl⟩) (HSC.out _ HD.out) ?rest9_10xa1
      case rest9_10xa1 =>
      try simp only [nz0, nz1, nz2, Act.put, nz3, nz4, nz5]
      refine wpAnyG_take' (i := 10) (v := undef) rfl (by kernel_rfl) (by kernel_rfl) (by kernel_rfl) (by kernel_rfl) (fun _ _ _ h => h) (Or.inr ⟨by rfl, rfl⟩) (HSC.out _ HD.out) ?rest10_11xa1
      case rest10_11xa1 =>
      try simp only [nz0, nz1, nz2, Act.put, nz3, nz4, nz5]
      refine wpAnyG_take' (i := 11) (v := undef) rfl (by kernel_rfl) (by kernel_rfl) (by kernel_rfl) (by kernel_rfl) (fun _ _ _ h => h) (Or.inr ⟨by rfl, rfl⟩) (HSC.out _ HD.out) ?rest11_12xa1
      case rest11_12xa1 =>
      try simp only [nz0, nz1, nz2, Act.put, nz3, nz4, nz5]
      refine wpAnyG_take' (i := 12) (v := undef) rfl (by kernel_rfl) (by kernel_rfl) (by kernel_rfl) (by kernel_rfl) (fun _ _ _ h => h) (Or.inr ⟨by rfl, rfl⟩) (HSC.out _ HD.out) ?rest12_13xa1
      case rest12_13xa1 =>
      try simp only [nz0, nz1, nz2, Act.put, nz3, nz4, nz5]
      refine wpAnyG_take' (i := 13) (v := undef) rfl (by kernel_rfl) (by kernel_rfl) (by kernel_rfl) (by kernel_rfl) (fun _ _ _ h => h) (Or.inr ⟨by rfl, rfl⟩) (HSC.out _ HD.out) ?rest13_14xa1
      case rest13_14xa1 =>
      try simp only [nz0, nz1, nz2, Act.put, nz3, nz4, nz5]
      refine wpAnyG_tk (i := 14) (v := ?v14_15xa1) rfl (Or.inl ⟨by rfl, ?a_⟩) (HSC.out _ HD.out) ?b_
      case a_ => intro w hSw; (try dsimp only at hSw); go_simp; (try with_reducible rfl)
      case b_ =>
      try simp only [nz0, nz1, nz2, Act.put, nz3, nz4, nz5]
      refine wpAnyG_tk (i := 15) (v := ?v15_16xa1) rfl (Or.inl ⟨by rfl, ?a_⟩) (HSC.out _ HD.out) ?b_
      case a_ => intro w hSw; (try dsimp only at hSw); go_simp; (try with_reducible rfl)
      case b_ =>
      try simp only [nz0, nz1, nz2, Act.put, nz3, nz4, nz5]
      refine wpAnyG_take' (i := 16) (v := undef) rfl (by kernel_rfl) (by kernel_rfl) (by kernel_rfl) (by kernel_rfl) (fun _ _ _ h => h) (Or.inr ⟨by rfl, rfl⟩) (HSC.out _ HD.out) ?rest16_17xa1
      case rest16_17xa1 =>
      try simp only [nz0, nz1, nz2, Act.put, nz3, nz4, nz5]
      refine wpAnyG_take' (i := 17) (v := undef) rfl (by kernel_rfl) (by kernel_rfl) (by kernel_rfl) (by kernel_rfl) (fun _ _ _ h => h) (Or.inr ⟨by rfl, rfl⟩) (HSC.out _ HD.out) ?rest17_18xa1
      case rest17_18xa1 =>
      try simp only [nz0, nz1, nz2, Act.put, nz3, nz4, nz5]
      refine wpAnyG_take' (i := 18) (v := undef) rfl (by kernel_rfl) (by kernel_rfl) (by kernel_rfl) (by kernel_rfl) (fun _ _ _ h => h) (Or.inr ⟨by rfl, rfl⟩) (HSC.out _ HD.out) ?rest18_19xa1
      case rest18_19xa1 =>
      try simp only [nz0, nz1, nz2, Act.put, nz3, nz4, nz5]
      refine wpAnyG_take' (i := 19) (v := undef) rfl (by kernel_rfl) (by kernel_rfl) (by kernel_rfl) (by kernel_rfl) (fun _ _ _ h => h) (Or.inr ⟨by rfl, rfl⟩) (HSC.out _ HD.out) ?rest19_20xa1
      case rest19_20xa1 =>
      try simp only [nz0, nz1, nz2, Act.put, nz3, nz4, nz5]
      refine wpAnyG_take' (i := 20) (v := undef) rfl (by kernel_rfl) (by kernel_rfl) (by kernel_rfl) (by kernel_rfl) (fun _ _ _ h => h) (Or.inr ⟨by rfl, rfl⟩) (HSC.out _ HD.out) ?rest20_21xa1
      case rest20_21xa1 =>
      try simp only [nz0, nz1, nz2, Act.put, nz3, nz4, nz5]
      refine wpAnyG_tk (i := 21) (v := ?v21_22xa1) rfl (Or.inl ⟨by rfl, ?a_⟩) (HSC.out _ HD.out) ?b_
      case a_ => intro w hSw; (try dsimp only at hSw); go_simp; (try with_reducible rfl)
      case b_ =>
      try simp only [nz0, nz1, nz2, Act.put, nz3, nz4, nz5]
      refine wpAnyG_tk (i := 22) (v := ?v22_23xa1) rfl (Or.inl ⟨by rfl, ?a_⟩) (HSC.out _ HD.out) ?b_
      case a_ => intro w hSw; (try dsimp only at hSw); go_simp; (try with_reducible rfl)
      case b_ =>
      try simp only [nz0, nz1, nz2, Act.put, nz3, nz4, nz5]
      refine wpAnyG_take' (i := 23) (v := undef) rfl (by kernel_rfl) (by kernel_rfl) (by kernel_rfl) (by kernel_rfl) (fun _ _ _ h => h) (Or.inr ⟨by rfl, rfl⟩) (HSC.out _ HD.out) ?rest23_24xa1
      case rest23_24xa1 =>
      try simp only [nz0, nz1, nz2, Act.put, nz3, nz4, nz5]
      refine wpAnyG_take' (i := 24) (v := undef) rfl (by kernel_rfl) (by kernel_rfl) (by kernel_rfl) (by kernel_rfl) (fun _ _ _ h => h) (Or.inr ⟨by rfl, rfl⟩) (HSC.out _ HD.out) ?rest24_25xa1
      case rest24_25xa1 =>
      try simp only [nz0, nz1, nz2, Act.put, nz3, nz4, nz5]
      refine wpAnyG_take' (i := 25) (v := undef) rfl (by kernel_rfl) (by kernel_rfl) (by kernel_rfl) (by kernel_rfl) (fun _ _ _ h => h) (Or.inr ⟨by rfl, rfl⟩) (HSC.out _ HD.out) ?rest25_26xa1
      case rest25_26xa1 =>
      try simp only [nz0, nz1, nz2, Act.put, nz3, nz4, nz5]
      refine wpAnyG_take' (i := 26) (v := undef) rfl (by kernel_rfl) (by kernel_rfl) (by kernel_rfl) (by kernel_rfl) (fun _ _ _ h => h) (Or.inr ⟨by rfl, rfl⟩) (HSC.out _ HD.out) ?rest26_27xa1
      case rest26_27xa1 =>
      try simp only [nz0, nz1, nz2, Act.put, nz3, nz4, nz5]
      refine wpAnyG_take' (i := 27) (v := undef) rfl (by kernel_rfl) (by kernel_rfl) (by kernel_rfl) (by kernel_rfl) (fun _ _ _ h => h) (Or.inr ⟨by rfl, rfl⟩) (HSC.out _ HD.out) ?rest27_28xa1
      case rest27_28xa1 =>
      try simp only [nz0, nz1, nz2, Act.put, nz3, nz4, nz5]
      refine wpAnyG_tk (i := 28) (v := ?v28_29xa1) rfl (Or.inl ⟨by rfl, ?a_⟩) (HSC.out _ HD.out) ?b_
      case a_ => intro w hSw; (try dsimp only at hSw); go_simp; (try with_reducible rfl)
      case b_ =>
      try simp only [nz0, nz1, nz2, Act.put, nz3, nz4, nz5]
      refine wpAnyG_tk (i := 29) (v := ?v29_30xa1) rfl (Or.inl ⟨by rfl, ?a_⟩) (HSC.out _ HD.out) ?b_
      case a_ => intro w hSw; (try dsimp only at hSw); go_simp; (try with_reducible rfl)
      case b_ =>
      try simp only [nz0, nz1, nz2, Act.put, nz3, nz4, nz5]
      refine wpAnyG_take' (i := 30) (v := undef) rfl (by kernel_rfl) (by kernel_rfl) (by kernel_rfl) (by kernel_rfl) (fun _ _ _ h => h) (Or.inr ⟨by rfl, rfl⟩) (HSC.out _ HD.out) ?rest30_31xa1
      case rest30_31xa1 =>
      try simp only [nz0, nz1, nz2, Act.put, nz3, nz4, nz5]
      refine wpAnyG_take' (i := 31) (v := undef) rfl (by kernel_rfl) (by kernel_rfl) (by kernel_rfl) (by kernel_rfl) (fun _ _ _ h => h) (Or.inr ⟨by rfl, rfl⟩) (HSC.out _ HD.out) ?rest31_32xa1
      case rest31_32xa1 =>
      try simp only [nz0, nz1, nz2, Act.put, nz3, nz4, nz5]
      refine wpAnyG_tk (i := 32) (v := ?v32_33xa1) rfl (Or.inl ⟨by rfl, ?a_⟩) (HSC.out _ HD.out) ?b_
      case a_ => intro w hSw; (try dsimp only at hSw); go_simp; (try with_reducible rfl)
      case b_ =>
      try simp only [nz0, nz1, nz2, Act.put, nz3, nz4, nz5]
      refine wpAnyG_one (i := 33) (by kernel_rfl) rfl (fun K hK => ?_)
      go_simp
      refine hK.out _ _ (fun hno => by cases hno) ?_
      clear K hK
      try simp only [nz0, nz1, nz2, Act.put, nz3, nz4, nz5]
      refine wpAnyG_done (by kernel_rfl) ?_ _
      try simp only [nz0, nz1, nz2, Act.put, nz3, nz4, nz5]
      refine rcktail false zB R hs HD hz (Lib.hid (by rw [HR.out]; rw [d0, d1]; rfl)) ?_ _ _ _ _ _ _ _ _ _ _ _ _ _ _ _ _ _ _ _ _ _ _ _ _ _ _ _ _ _ _ _ _ _ _ _ _ _ _ _ _ _ _ _ _ _ _ _ _ _ _ _ _ _ _ _ _ _ _ _ _ _ _ _ _ _ _ _ _ _ _ _ _ _ _ _ _ _ _ _ _ _ _ _ _ _ _ _ _ _ _
      assumption
     | true =>
      cases a2 with
      | false =>
       refine wp_region_G (SC5 b1 v o cm la mc) [33] (by kernel_rfl) (HSC.out _ HD.out) (fun hS => ?_)
       try dsimp only at hS
       refine wpAnyG_tk (i := 0) (v := ?v0_1xa2) rfl (Or.inl ⟨by rfl, ?a_⟩) (HSC.out _ HD.out) ?b_
       case a_ => intro w hSw; (try dsimp only at hSw); go_simp; (try with_reducible rfl)
       case b_ =>
       try simp only [nz0, nz1, nz2, Act.put, nz3, nz4, nz5]
       refine wpAnyG_tk (i := 1) (v := ?v1_2xa2) rfl (Or.inl ⟨by rfl, ?a_⟩) (HSC.out _ HD.out) ?b_
       case a_ => intro w hSw; (try dsimp only at hSw); go_simp; (try with_reducible rfl)
       case b_ =>
       try simp only [nz0, nz1, nz2, Act.put, nz3, nz4, nz5]
       refine wpAnyG_tk (i := 2) (v := ?v2_3xa2) rfl (Or.inl ⟨by rfl, ?a_⟩) (HSC.out _ HD.out) ?b_
       case a_ => intro w hSw; (try dsimp only at hSw); go_simp; (try with_reducible rfl)
       case b_ =>
       try simp only [nz0, nz1, nz2, Act.put, nz3, nz4, nz5]
       refine wpAnyG_tk (i := 4) (v := ?v4_4xa2) rfl (Or.inl ⟨by rfl, ?a_⟩) (HSC.out _ HD.out) ?b_
       case a_ => intro w hSw; (try dsimp only at hSw); go_simp; (try with_reducible rfl)
       case b_ =>
       try simp only [nz0, nz1, nz2, Act.put, nz3, nz4, nz5]
       refine wpAnyG_tk (i := 5) (v := .int .i64 v) rfl (Or.inl ⟨by rfl, ?a_⟩) (HSC.out _ HD.out) ?b_
       case a_ => intro w hSw; obtain ⟨s3, s4, s5, s6, -⟩ := hSw; go_simp; (try with_reducible rfl)
       case b_ =>
       try simp only [nz0, nz1, nz2, Act.put, nz3, nz4, nz5]
       refine wpAnyG_one (i := 3) (by kernel_rfl) rfl (fun K hK => ?_)
       go_simp
       refine (hs.out.hv _).mono ?_
       rintro r0 wq50 ⟨rfl, rfl⟩
       refine hK.out _ _ (fun _ => ?hS6xa2) ?rest6xa2
       case hS6xa2 => exact (HSC.out _ HD.out)
       clear K hK
       try simp only [nz0, nz1, nz2, Act.put, nz3, nz4, nz5]
       refine wpAnyG_one (i := 6) (by kernel_rfl) rfl (fun K hK => ?_)
       go_simp
       refine (hs.out.o1 _).mono ?_
       rintro r0 wq60 ⟨rfl, rfl⟩
       refine hK.out _ _ (fun _ => ?hS7xa2) ?rest7xa2
       case hS7xa2 => exact (HSC.out _ HD.out)
       clear K hK
       try simp only [nz0, nz1, nz2, Act.put, nz3, nz4, nz5]
       refine wpAnyG_tk (i := 7) (v := ?v7_8xa2) rfl (Or.inl ⟨by rfl, ?a_⟩) (HSC.out _ HD.out) ?b_
       case a_ => intro w hSw; (try dsimp only at hSw); go_simp; (try with_reducible rfl)
       case b_ =>
       try simp only [nz0, nz1, nz2, Act.put, nz3, nz4, nz5]
       refine wpAnyG_tk (i := 8) (v := ?v8_9xa2) rfl (Or.inl ⟨by rfl, ?a_⟩) (HSC.out _ HD.out) ?b_
       case a_ => intro w hSw; (try dsimp only at hSw); go_simp; (try with_reducible rfl)
       case b_ =>
       try simp only [nz0, nz1, nz2, Act.put, nz3, nz4, nz5]
       refine wpAnyG_tk (i := 9) (v := ?v9_10xa2) rfl (Or.inl ⟨by rfl, ?a_⟩) (HSC.out _ HD.out) ?b_
       case a_ => intro w hSw; (try dsimp only at hSw); go_simp; (try with_reducible rfl)
       case b_ =>
       try simp only [nz0, nz1, nz2, Act.put, nz3, nz4, nz5]
       refine wpAnyG_tk (i := 11) (v := ?v11_11xa2) rfl (Or.inl ⟨by rfl, ?a_⟩) (HSC.out _ HD.out) ?b_
       case a_ => intro w hSw; (try dsimp only at hSw); go_simp; (try with_reducible rfl)
       case b_ =>
       try simp only [nz0, nz1, nz2, Act.put, nz3, nz4, nz5]
       refine wpAnyG_tk (i := 12) (v := .int .i64 o) rfl (Or.inl ⟨by rfl, ?a_⟩) (HSC.out _ HD.out) ?b_
       case a_ => intro w hSw; obtain ⟨s3, s4, s5, s6, -⟩ := hSw; go_simp; (try with_reducible rfl)
       case b_ =>
       try simp only [nz0, nz1, nz2, Act.put, nz3, nz4, nz5]
       refine wpAnyG_one (i := 10) (by kernel_rfl) rfl (fun K hK => ?_)
       go_simp
       refine (hs.out.ho _ HD.out).mono ?_
       rintro r0 wq1xa2 ⟨rfl, hq1⟩
       have HA1xa2 := Lib.hid hq1
       clear hq1
       refine hK.out _ _ (fun _ => ?hS13xa2) ?rest13xa2
       case hS13xa2 => exact (HSC.out _ HA1xa2.out)
       clear K hK
       try simp only [nz0, nz1, nz2, Act.put, nz3, nz4, nz5]
       refine wpAnyG_one (i := 13) (by kernel_rfl) rfl (fun K hK => ?_)
       go_simp
       refine (hs.out.o2 _).mono ?_
       rintro r0 wq61 ⟨rfl, rfl⟩
       refine hK.out _ _ (fun _ => ?hS14xa2) ?rest14xa2
       case hS14xa2 => exact (HSC.out _ HA1xa2.out)
       clear K hK
       try simp only [nz0, nz1, nz2, Act.put, nz3, nz4, nz5]
       refine wpAnyG_tk (i := 14) (v := ?v14_15xa2) rfl (Or.inl ⟨by rfl, ?a_⟩) (HSC.out _ HA1xa2.out) ?b_
       case a_ => intro w hSw; (try dsimp only at hSw); go_simp; (try with_reducible rfl)
       case b_ =>
       try simp only [nz0, nz1, nz2, Act.put, nz3, nz4, nz5]
       refine wpAnyG_tk (i := 15) (v := ?v15_16xa2) rfl (Or.inl ⟨by rfl, ?a_⟩) (HSC.out _ HA1xa2.out) ?b_
       case a_ => intro w hSw; (try dsimp only at hSw); go_simp; (try with_reducible rfl)
       case b_ =>
       try simp only [nz0, nz1, nz2, Act.put, nz3, nz4, nz5]
       refine wpAnyG_take' (i := 16) (v := undef) rfl (by kernel_rfl) (by kernel_rfl) (by kernel_rfl) (by kernel_rfl) (fun _ _ _ h => h) (Or.inr ⟨by rfl, rfl⟩) (HSC.out _ HA1xa2.out) ?rest16_17xa2
       case rest16_17xa2 =>
       try simp only [nz0, nz1, nz2, Act.put, nz3, nz4, nz5]
       refine wpAnyG_take' (i := 17) (v := undef) rfl (by kernel_rfl) (by kernel_rfl) (by kernel_rfl) (by kernel_rfl) (fun _ _ _ h => h) (Or.inr ⟨by rfl, rfl⟩) (HSC.out _ HA1xa2.out) ?rest17_18xa2
       case rest17_18xa2 =>
       try simp only [nz0, nz1, nz2, Act.put, nz3, nz4, nz5]
       refine wpAnyG_take' (i := 18) (v := undef) rfl (by kernel_rfl) (by kernel_rfl) (by kernel_rfl) (by kernel_rfl) (fun _ _ _ h => h) (Or.inr ⟨by rfl, rfl⟩) (HSC.out _ HA1xa2.out) ?rest18_19xa2
       case rest18_19xa2 =>
       try simp only [nz0, nz1, nz2, Act.put, nz3, nz4, nz5]
       refine wpAnyG_take' (i := 19) (v := undef) rfl (by kernel_rfl) (by kernel_rfl) (by kernel_rfl) (by kernel_rfl) (fun _ _ _ h => h) (Or.inr ⟨by rfl, rfl⟩) (HSC.out _ HA1xa2.out) ?rest19_20xa2
       case rest19_20xa2 =>
       try simp only [nz0, nz1, nz2, Act.put, nz3, nz4, nz5]
       refine wpAnyG_take' (i := 20) (v := undef) rfl (by kernel_rfl) (by kernel_rfl) (by kernel_rfl) (by kernel_rfl) (fun _ _ _ h => h) (Or.inr ⟨by rfl, rfl⟩) (HSC.out _ HA1xa2.out) ?rest20_21xa2
       case rest20_21xa2 =>
       try simp only [nz0, nz1, nz2, Act.put, nz3, nz4, nz5]
       refine wpAnyG_tk (i := 21) (v := ?v21_22xa2) rfl (Or.inl ⟨by rfl, ?a_⟩) (HSC.out _ HA1xa2.out) ?b_
       case a_ => intro w hSw; (try dsimp only at hSw); go_simp; (try with_reducible rfl)
       case b_ =>
       try simp only [nz0, nz1, nz2, Act.put, nz3, nz4, nz5]
       refine wpAnyG_tk (i := 22) (v := ?v22_23xa2) rfl (Or.inl ⟨by rfl, ?a_⟩) (HSC.out _ HA1xa2.out) ?b_
       case a_ => intro w hSw; (try dsimp only at hSw); go_simp; (try with_reducible rfl)
       case b_ =>
       try simp only [nz0, nz1, nz2, Act.put, nz3, nz4, nz5]
       refine wpAnyG_take' (i := 23) (v := undef) rfl (by kernel_rfl) (by kernel_rfl) (by kernel_rfl) (by kernel_rfl) (fun _ _ _ h => h) (Or.inr ⟨by rfl, rfl⟩) (HSC.out _ HA1xa2.out) ?rest23_24xa2
       case rest23_24xa2 =>
       try simp only [nz0, nz1, nz2, Act.put, nz3, nz4, nz5]
       refine wpAnyG_take' (i := 24) (v := undef) rfl (by kernel_rfl) (by kernel_rfl) (by kernel_rfl) (by kernel_rfl) (fun _ _ _ h => h) (Or.inr ⟨by rfl, rfl⟩) (HSC.out _ HA1xa2.out) ?rest24_25xa2
       case rest24_25xa2 =>
       try simp only [nz0, nz1, nz2, Act.put, nz3, nz4, nz5]
       refine wpAnyG_take' (i := 25) (v := undef) rfl (by kernel_rfl) (by kernel_rfl) (by kernel_rfl) (by kernel_rfl) (fun _ _ _ h => h) (Or.inr ⟨by rfl, rfl⟩) (HSC.out _ HA1xa2.out) ?rest25_26xa2
       case rest25_26xa2 =>
       try simp only [nz0, nz1, nz2, Act.put, nz3, nz4, nz5]
       refine wpAnyG_take' (i := 26) (v := undef) rfl (by kernel_rfl) (by kernel_rfl) (by kernel_rfl) (by kernel_rfl) (fun _ _ _ h => h) (Or.inr ⟨by rfl, rfl⟩) (HSC.out _ HA1xa2.out) ?rest26_27xa2
       case rest26_27xa2 =>
       try simp only [nz0, nz1, nz2, Act.put, nz3, nz4, nz5]
       refine wpAnyG_take' (i := 27) (v := undef) rfl (by kernel_rfl) (by kernel_rfl) (by kernel_rfl) (by kernel_rfl) (fun _ _ _ h => h) (Or.inr ⟨by rfl, rfl⟩) (HSC.out _ HA1xa2.out) ?rest27_28xa2
       case rest27_28xa2 =>
       try simp only [nz0, nz1, nz2, Act.put, nz3, nz4, nz5]
       refine wpAnyG_tk (i := 28) (v := ?v28_29xa2) rfl (Or.inl ⟨by rfl, ?a_⟩) (HSC.out _ HA1xa2.out) ?b_
       case a_ => intro w hSw; (try dsimp only at hSw); go_simp; (try with_reducible rfl)
       case b_ =>
       try simp only [nz0, nz1, nz2, Act.put, nz3, nz4, nz5]
       refine wpAnyG_tk (i := 29) (v := ?v29_30xa2) rfl (Or.inl ⟨by rfl, ?a_⟩) (HSC.out _ HA1xa2.out) ?b_
       case a_ => intro w hSw; (try dsimp only at hSw); go_simp; (try with_reducible rfl)
       case b_ =>
       try simp only [nz0, nz1, nz2, Act.put, nz3, nz4, nz5]
       refine wpAnyG_take' (i := 30) (v := undef) rfl (by kernel_rfl) (by kernel_rfl) (by kernel_rfl) (by kernel_rfl) (fun _ _ _ h => h) (Or.inr ⟨by rfl, rfl⟩) (HSC.out _ HA1xa2.out) ?rest30_31xa2
       case rest30_31xa2 =>
       try simp only [nz0, nz1, nz2, Act.put, nz3, nz4, nz5]
       refine wpAnyG_take' (i := 31) (v := undef) rfl (by kernel_rfl) (by kernel_rfl) (by kernel_rfl) (by kernel_rfl) (fun _ _ _ h => h) (Or.inr ⟨by rfl, rfl⟩) (HSC.out _ HA1xa2.out) ?rest31_32xa2
       case rest31_32xa2 =>
       try simp only [nz0, nz1, nz2, Act.put, nz3, nz4, nz5]
       refine wpAnyG_tk (i := 32) (v := ?v32_33xa2) rfl (Or.inl ⟨by rfl, ?a_⟩) (HSC.out _ HA1xa2.out) ?b_
       case a_ => intro w hSw; (try dsimp only at hSw); go_simp; (try with_reducible rfl)
       case b_ =>
       try simp only [nz0, nz1, nz2, Act.put, nz3, nz4, nz5]
       refine wpAnyG_one (i := 33) (by kernel_rfl) rfl (fun K hK => ?_)
       go_simp
       refine hK.out _ _ (fun hno => by cases hno) ?_
       clear K hK
       try simp only [nz0, nz1, nz2, Act.put, nz3, nz4, nz5]
       refine wpAnyG_done (by kernel_rfl) ?_ _
       try simp only [nz0, nz1, nz2, Act.put, nz3, nz4, nz5]
       refine rcktail false zB R hs HA1xa2 hz (Lib.hid (by rw [HR.out]; rw [d0, d1]; rfl)) ?_ _ _ _ _ _ _ _ _ _ _ _ _ _ _ _ _ _ _ _ _ _ _ _ _ _ _ _ _ _ _ _ _ _ _ _ _ _ _ _ _ _ _ _ _ _ _ _ _ _ _ _ _ _ _ _ _ _ _ _ _ _ _ _ _ _ _ _ _ _ _ _ _ _ _ _ _ _ _ _ _ _ _ _ _ _ _ _ _ _ _
       assumption
      | true =>
       cases a4 with
       | false =>
        refine wp_region_G (SC5 b1 v o cm la mc) [33] (by kernel_rfl) (HSC.out _ HD.out) (fun hS => ?_)
        try dsimp only at hS
        refine wpAnyG_tk (i := 0) (v := ?v0_1xa4) rfl (Or.inl ⟨by rfl, ?a_⟩) (HSC.out _ HD.out) ?b_
        case a_ => intro w hSw; (try dsimp only at hSw); go_simp; (try with_reducible rfl)
        case b_ =>
        try simp only [nz0, nz1, nz2, Act.put, nz3, nz4, nz5]
        refine wpAnyG_tk (i := 1) (v := ?v1_2xa4) rfl (Or.inl ⟨by rfl, ?a_⟩) (HSC.out _ HD.out) ?b_
        case a_ => intro w hSw; (try dsimp only at hSw); go_simp; (try with_reducible rfl)
        case b_ =>
        try simp only [nz0, nz1, nz2, Act.put, nz3, nz4, nz5]
        refine wpAnyG_tk (i := 2) (v := ?v2_3xa4) rfl (Or.inl ⟨by rfl, ?a_⟩) (HSC.out _ HD.out) ?b_
        case a_ => intro w hSw; (try dsimp only at hSw); go_simp; (try with_reducible rfl)
        case b_ =>
        try simp only [nz0, nz1, nz2, Act.put, nz3, nz4, nz5]
        refine wpAnyG_tk (i := 4) (v := ?v4_4xa4) rfl (Or.inl ⟨by rfl, ?a_⟩) (HSC.out _ HD.out) ?b_
        case a_ => intro w hSw; (try dsimp only at hSw); go_simp; (try with_reducible rfl)
        case b_ =>
        try simp only [nz0, nz1, nz2, Act.put, nz3, nz4, nz5]
        refine wpAnyG_tk (i := 5) (v := .int .i64 v) rfl (Or.inl ⟨by rfl, ?a_⟩) (HSC.out _ HD.out) ?b_
        case a_ => intro w hSw; obtain ⟨s3, s4, s5, s6, -⟩ := hSw; go_simp; (try with_reducible rfl)
        case b_ =>
        try simp only [nz0, nz1, nz2, Act.put, nz3, nz4, nz5]
        refine wpAnyG_one (i := 3) (by kernel_rfl) rfl (fun K hK => ?_)
        go_simp
        refine (hs.out.hv _).mono ?_
        rintro r0 wq50 ⟨rfl, rfl⟩
        refine hK.out _ _ (fun _ => ?hS6xa4) ?rest6xa4
        case hS6xa4 => exact (HSC.out _ HD.out)
        clear K hK
        try simp only [nz0, nz1, nz2, Act.put, nz3, nz4, nz5]
        refine wpAnyG_one (i := 6) (by kernel_rfl) rfl (fun K hK => ?_)
        go_simp
        refine (hs.out.o1 _).mono ?_
        rintro r0 wq60 ⟨rfl, rfl⟩
        refine hK.out _ _ (fun _ => ?hS7xa4) ?rest7xa4
        case hS7xa4 => exact (HSC.out _ HD.out)
        clear K hK
        try simp only [nz0, nz1, nz2, Act.put, nz3, nz4, nz5]
        refine wpAnyG_tk (i := 7) (v := ?v7_8xa4) rfl (Or.inl ⟨by rfl, ?a_⟩) (HSC.out _ HD.out) ?b_
        case a_ => intro w hSw; (try dsimp only at hSw); go_simp; (try with_reducible rfl)
        case b_ =>
        try simp only [nz0, nz1, nz2, Act.put, nz3, nz4, nz5]
        refine wpAnyG_tk (i := 8) (v := ?v8_9xa4) rfl (Or.inl ⟨by rfl, ?a_⟩) (HSC.out _ HD.out) ?b_
        case a_ => intro w hSw; (try dsimp only at hSw); go_simp; (try with_reducible rfl)
        case b_ =>
        try simp only [nz0, nz1, nz2, Act.put, nz3, nz4, nz5]
        refine wpAnyG_tk (i := 9) (v := ?v9_10xa4) rfl (Or.inl ⟨by rfl, ?a_⟩) (HSC.out _ HD.out) ?b_
        case a_ => intro w hSw; (try dsimp only at hSw); go_simp; (try with_reducible rfl)
        case b_ =>
        try simp only [nz0, nz1, nz2, Act.put, nz3, nz4, nz5]
        refine wpAnyG_tk (i := 11) (v := ?v11_11xa4) rfl (Or.inl ⟨by rfl, ?a_⟩) (HSC.out _ HD.out) ?b_
        case a_ => intro w hSw; (try dsimp only at hSw); go_simp; (try with_reducible rfl)
        case b_ =>
        try simp only [nz0, nz1, nz2, Act.put, nz3, nz4, nz5]
        refine wpAnyG_tk (i := 12) (v := .int .i64 o) rfl (Or.inl ⟨by rfl, ?a_⟩) (HSC.out _ HD.out) ?b_
        case a_ => intro w hSw; obtain ⟨s3, s4, s5, s6, -⟩ := hSw; go_simp; (try with_reducible rfl)
        case b_ =>
        try simp only [nz0, nz1, nz2, Act.put, nz3, nz4, nz5]
        refine wpAnyG_one (i := 10) (by kernel_rfl) rfl (fun K hK => ?_)
        go_simp
        refine (hs.out.ho _ HD.out).mono ?_
        rintro r0 wq1xa4 ⟨rfl, hq1⟩
        have HA1xa4 := Lib.hid hq1
        clear hq1
        refine hK.out _ _ (fun _ => ?hS13xa4) ?rest13xa4
        case hS13xa4 => exact (HSC.out _ HA1xa4.out)
        clear K hK
        try simp only [nz0, nz1, nz2, Act.put, nz3, nz4, nz5]
        refine wpAnyG_one (i := 13) (by kernel_rfl) rfl (fun K hK => ?_)
        go_simp
        refine (hs.out.o2 _).mono ?_
        rintro r0 wq61 ⟨rfl, rfl⟩
        refine hK.out _ _ (fun _ => ?hS14xa4) ?rest14xa4
        case hS14xa4 => exact (HSC.out _ HA1xa4.out)
        clear K hK
        try simp only [nz0, nz1, nz2, Act.put, nz3, nz4, nz5]
        refine wpAnyG_tk (i := 14) (v := ?v14_15xa4) rfl (Or.inl ⟨by rfl, ?a_⟩) (HSC.out _ HA1xa4.out) ?b_
        case a_ => intro w hSw; (try dsimp only at hSw); go_simp; (try with_reducible rfl)
        case b_ =>
        try simp only [nz0, nz1, nz2, Act.put, nz3, nz4, nz5]
        refine wpAnyG_tk (i := 15) (v := ?v15_16xa4) rfl (Or.inl ⟨by rfl, ?a_⟩) (HSC.out _ HA1xa4.out) ?b_
        case a_ => intro w hSw; (try dsimp only at hSw); go_simp; (try with_reducible rfl)
        case b_ =>
        try simp only [nz0, nz1, nz2, Act.put, nz3, nz4, nz5]
        refine wpAnyG_tk (i := 16) (v := ?v16_17xa4) rfl (Or.inl ⟨by rfl, ?a_⟩) (HSC.out _ HA1xa4.out) ?b_
        case a_ => intro w hSw; (try dsimp only at hSw); go_simp; (try with_reducible rfl)
        case b_ =>
        try simp only [nz0, nz1, nz2, Act.put, nz3, nz4, nz5]
        refine wpAnyG_tk (i := 18) (v := ?v18_18xa4) rfl (Or.inl ⟨by rfl, ?a_⟩) (HSC.out _ HA1xa4.out) ?b_
        case a_ => intro w hSw; (try dsimp only at hSw); go_simp; (try with_reducible rfl)
        case b_ =>
        try simp only [nz0, nz1, nz2, Act.put, nz3, nz4, nz5]
        refine wpAnyG_tk (i := 19) (v := .int .i64 cm) rfl (Or.inl ⟨by rfl, ?a_⟩) (HSC.out _ HA1xa4.out) ?b_
        case a_ => intro w hSw; obtain ⟨s3, s4, s5, s6, -⟩ := hSw; go_simp; (try with_reducible rfl)
        case b_ =>
        try simp only [nz0, nz1, nz2, Act.put, nz3, nz4, nz5]
        refine wpAnyG_one (i := 17) (by kernel_rfl) rfl (fun K hK => ?_)
        go_simp
        refine (hs.out.hc _ HA1xa4.out).mono ?_
        rintro r0 wq2xa4 ⟨rfl, hq2⟩
        have HA2xa4 := Lib.hid hq2
        clear hq2
        refine hK.out _ _ (fun _ => ?hS20xa4) ?rest20xa4
        case hS20xa4 => exact (HSC.out _ HA2xa4.out)
        clear K hK
        try simp only [nz0, nz1, nz2, Act.put, nz3, nz4, nz5]
        refine wpAnyG_one (i := 20) (by kernel_rfl) rfl (fun K hK => ?_)
        go_simp
        refine (hs.out.o4 _).mono ?_
        rintro r0 wq62 ⟨rfl, rfl⟩
        refine hK.out _ _ (fun _ => ?hS21xa4) ?rest21xa4
        case hS21xa4 => exact (HSC.out _ HA2xa4.out)
        clear K hK
        try simp only [nz0, nz1, nz2, Act.put, nz3, nz4, nz5]
        refine wpAnyG_tk (i := 21) (v := ?v21_22xa4) rfl (Or.inl ⟨by rfl, ?a_⟩) (HSC.out _ HA2xa4.out) ?b_
        case a_ => intro w hSw; (try dsimp only at hSw); go_simp; (try with_reducible rfl)
        case b_ =>
        try simp only [nz0, nz1, nz2, Act.put, nz3, nz4, nz5]
        refine wpAnyG_tk (i := 22) (v := ?v22_23xa4) rfl (Or.inl ⟨by rfl, ?a_⟩) (HSC.out _ HA2xa4.out) ?b_
        case a_ => intro w hSw; (try dsimp only at hSw); go_simp; (try with_reducible rfl)
        case b_ =>
        try simp only [nz0, nz1, nz2, Act.put, nz3, nz4, nz5]
        refine wpAnyG_take' (i := 23) (v := undef) rfl (by kernel_rfl) (by kernel_rfl) (by kernel_rfl) (by kernel_rfl) (fun _ _ _ h => h) (Or.inr ⟨by rfl, rfl⟩) (HSC.out _ HA2xa4.out) ?rest23_24xa4
        case rest23_24xa4 =>
        try simp only [nz0, nz1, nz2, Act.put, nz3, nz4, nz5]
        refine wpAnyG_take' (i := 24) (v := undef) rfl (by kernel_rfl) (by kernel_rfl) (by kernel_rfl) (by kernel_rfl) (fun _ _ _ h => h) (Or.inr ⟨by rfl, rfl⟩) (HSC.out _ HA2xa4.out) ?rest24_25xa4
        case rest24_25xa4 =>
        try simp only [nz0, nz1, nz2, Act.put, nz3, nz4, nz5]
        refine wpAnyG_take' (i := 25) (v := undef) rfl (by kernel_rfl) (by kernel_rfl) (by kernel_rfl) (by kernel_rfl) (fun _ _ _ h => h) (Or.inr ⟨by rfl, rfl⟩) (HSC.out _ HA2xa4.out) ?rest25_26xa4
        case rest25_26xa4 =>
        try simp only [nz0, nz1, nz2, Act.put, nz3, nz4, nz5]
        refine wpAnyG_take' (i := 26) (v := undef) rfl (by kernel_rfl) (by kernel_rfl) (by kernel_rfl) (by kernel_rfl) (fun _ _ _ h => h) (Or.inr ⟨by rfl, rfl⟩) (HSC.out _ HA2xa4.out) ?rest26_27xa4
        case rest26_27xa4 =>
        try simp only [nz0, nz1, nz2, Act.put, nz3, nz4, nz5]
        refine wpAnyG_take' (i := 27) (v := undef) rfl (by kernel_rfl) (by kernel_rfl) (by kernel_rfl) (by kernel_rfl) (fun _ _ _ h => h) (Or.inr ⟨by rfl, rfl⟩) (HSC.out _ HA2xa4.out) ?rest27_28xa4
        case rest27_28xa4 =>
        try simp only [nz0, nz1, nz2, Act.put, nz3, nz4, nz5]
        refine wpAnyG_tk (i := 28) (v := ?v28_29xa4) rfl (Or.inl ⟨by rfl, ?a_⟩) (HSC.out _ HA2xa4.out) ?b_
        case a_ => intro w hSw; (try dsimp only at hSw); go_simp; (try with_reducible rfl)
        case b_ =>
        try simp only [nz0, nz1, nz2, Act.put, nz3, nz4, nz5]
        refine wpAnyG_tk (i := 29) (v := ?v29_30xa4) rfl (Or.inl ⟨by rfl, ?a_⟩) (HSC.out _ HA2xa4.out) ?b_
        case a_ => intro w hSw; (try dsimp only at hSw); go_simp; (try with_reducible rfl)
        case b_ =>
        try simp only [nz0, nz1, nz2, Act.put, nz3, nz4, nz5]
        refine wpAnyG_take' (i := 30) (v := undef) rfl (by kernel_rfl) (by kernel_rfl) (by kernel_rfl) (by kernel_rfl) (fun _ _ _ h => h) (Or.inr ⟨by rfl, rfl⟩) (HSC.out _ HA2xa4.out) ?rest30_31xa4
        case rest30_31xa4 =>
        try simp only [nz0, nz1, nz2, Act.put, nz3, nz4, nz5]
        refine wpAnyG_take' (i := 31) (v := undef) rfl (by kernel_rfl) (by kernel_rfl) (by kernel_rfl) (by kernel_rfl) (fun _ _ _ h => h) (Or.inr ⟨by rfl, rfl⟩) (HSC.out _ HA2xa4.out) ?rest31_32xa4
        case rest31_32xa4 =>
        try simp only [nz0, nz1, nz2, Act.put, nz3, nz4, nz5]
        refine wpAnyG_tk (i := 32) (v := ?v32_33xa4) rfl (Or.inl ⟨by rfl, ?a_⟩) (HSC.out _ HA2xa4.out) ?b_
        case a_ => intro w hSw; (try dsimp only at hSw); go_simp; (try with_reducible rfl)
        case b_ =>
        try simp only [nz0, nz1, nz2, Act.put, nz3, nz4, nz5]
        refine wpAnyG_one (i := 33) (by kernel_rfl) rfl (fun K hK => ?_)
        go_simp
        refine hK.out _ _ (fun hno => by cases hno) ?_
        clear K hK
        try simp only [nz0, nz1, nz2, Act.put, nz3, nz4, nz5]
        refine wpAnyG_done (by kernel_rfl) ?_ _
        try simp only [nz0, nz1, nz2, Act.put, nz3, nz4, nz5]
        refine rcktail false zB R hs HA2xa4 hz (Lib.hid (by rw [HR.out]; rw [d0, d1]; rfl)) ?_ _ _ _ _ _ _ _ _ _ _ _ _ _ _ _ _ _ _ _ _ _ _ _ _ _ _ _ _ _ _ _ _ _ _ _ _ _ _ _ _ _ _ _ _ _ _ _ _ _ _ _ _ _ _ _ _ _ _ _ _ _ _ _ _ _ _ _ _ _ _ _ _ _ _ _ _ _ _ _ _ _ _ _ _ _ _ _ _ _ _
        assumption
       | true =>
        cases a8 with
        | false =>
         refine wp_region_G (SC5 b1 v o cm la mc) [33] (by kernel_rfl) (HSC.out _ HD.out) (fun hS => ?_)
         try dsimp only at hS
         refine wpAnyG_tk (i := 0) (v := ?v0_1xa8) rfl (Or.inl ⟨by rfl, ?a_⟩) (HSC.out _ HD.out) ?b_
         case a_ => intro w hSw; (try dsimp only at hSw); go_simp; (try with_reducible rfl)
         case b_ =>
         try simp only [nz0, nz1, nz2, Act.put, nz3, nz4, nz5]
         refine wpAnyG_tk (i := 1) (v := ?v1_2xa8) rfl (Or.inl ⟨by rfl, ?a_⟩) (HSC.out _ HD.out) ?b_
         case a_ => intro w hSw; (try dsimp only at hSw); go_simp; (try with_reducible rfl)
         case b_ =>
         try simp only [nz0, nz1, nz2, Act.put, nz3, nz4, nz5]
         refine wpAnyG_tk (i := 2) (v := ?v2_3xa8) rfl (Or.inl ⟨by rfl, ?a_⟩) (HSC.out _ HD.out) ?b_
         case a_ => intro w hSw; (try dsimp only at hSw); go_simp; (try with_reducible rfl)
         case b_ =>
         try simp only [nz0, nz1, nz2, Act.put, nz3, nz4, nz5]
         refine wpAnyG_tk (i := 4) (v := ?v4_4xa8) rfl (Or.inl ⟨by rfl, ?a_⟩) (HSC.out _ HD.out) ?b_
         case a_ => intro w hSw; (try dsimp only at hSw); go_simp; (try with_reducible rfl)
         case b_ =>
         try simp only [nz0, nz1, nz2, Act.put, nz3, nz4, nz5]
         refine wpAnyG_tk (i := 5) (v := .int .i64 v) rfl (Or.inl ⟨by rfl, ?a_⟩) (HSC.out _ HD.out) ?b_
         case a_ => intro w hSw; obtain ⟨s3, s4, s5, s6, -⟩ := hSw; go_simp; (try with_reducible rfl)
         case b_ =>
         try simp only [nz0, nz1, nz2, Act.put, nz3, nz4, nz5]
         refine wpAnyG_one (i := 3) (by kernel_rfl) rfl (fun K hK => ?_)
         go_simp
         refine (hs.out.hv _).mono ?_
         rintro r0 wq50 ⟨rfl, rfl⟩
         refine hK.out _ _ (fun _ => ?hS6xa8) ?rest6xa8
         case hS6xa8 => exact (HSC.out _ HD.out)
         clear K hK
         try simp only [nz0, nz1, nz2, Act.put, nz3, nz4, nz5]
         refine wpAnyG_one (i := 6) (by kernel_rfl) rfl (fun K hK => ?_)
         go_simp
         refine (hs.out.o1 _).mono ?_
         rintro r0 wq60 ⟨rfl, rfl⟩
         refine hK.out _ _ (fun _ => ?hS7xa8) ?rest7xa8
         case hS7xa8 => exact (HSC.out _ HD.out)
         clear K hK
         try simp only [nz0, nz1, nz2, Act.put, nz3, nz4, nz5]
         refine wpAnyG_tk (i := 7) (v := ?v7_8xa8) rfl (Or.inl ⟨by rfl, ?a_⟩) (HSC.out _ HD.out) ?b_
         case a_ => intro w hSw; (try dsimp only at hSw); go_simp; (try with_reducible rfl)
         case b_ =>
         try simp only [nz0, nz1, nz2, Act.put, nz3, nz4, nz5]
         refine wpAnyG_tk (i := 8) (v := ?v8_9xa8) rfl (Or.inl ⟨by rfl, ?a_⟩) (HSC.out _ HD.out) ?b_
         case a_ => intro w hSw; (try dsimp only at hSw); go_simp; (try with_reducible rfl)
         case b_ =>
         try simp only [nz0, nz1, nz2, Act.put, nz3, nz4, nz5]
         refine wpAnyG_tk (i := 9) (v := ?v9_10xa8) rfl (Or.inl ⟨by rfl, ?a_⟩) (HSC.out _ HD.out) ?b_
         case a_ => intro w hSw; (try dsimp only at hSw); go_simp; (try with_reducible rfl)
         case b_ =>
         try simp only [nz0, nz1, nz2, Act.put, nz3, nz4, nz5]
         refine wpAnyG_tk (i := 11) (v := ?v11_11xa8) rfl (Or.inl ⟨by rfl, ?a_⟩) (HSC.out _ HD.out) ?b_
         case a_ => intro w hSw; (try dsimp only at hSw); go_simp; (try with_reducible rfl)
         case b_ =>
         try simp only [nz0, nz1, nz2, Act.put, nz3, nz4, nz5]
         refine wpAnyG_tk (i := 12) (v := .int .i64 o) rfl (Or.inl ⟨by rfl, ?a_⟩) (HSC.out _ HD.out) ?b_
         case a_ => intro w hSw; obtain ⟨s3, s4, s5, s6, -⟩ := hSw; go_simp; (try with_reducible rfl)
         case b_ =>
         try simp only [nz0, nz1, nz2, Act.put, nz3, nz4, nz5]
         refine wpAnyG_one (i := 10) (by kernel_rfl) rfl (fun K hK => ?_)
         go_simp
         refine (hs.out.ho _ HD.out).mono ?_
         rintro r0 wq1xa8 ⟨rfl, hq1⟩
         have HA1xa8 := Lib.hid hq1
         clear hq1
         refine hK.out _ _ (fun _ => ?hS13xa8) ?rest13xa8
         case hS13xa8 => exact (HSC.out _ HA1xa8.out)
         clear K hK
         try simp only [nz0, nz1, nz2, Act.put, nz3, nz4, nz5]
         refine wpAnyG_one (i := 13) (by kernel_rfl) rfl (fun K hK => ?_)
         go_simp
         refine (hs.out.o2 _).mono ?_
         rintro r0 wq61 ⟨rfl, rfl⟩
         refine hK.out _ _ (fun _ => ?hS14xa8) ?rest14xa8
         case hS14xa8 => exact (HSC.out _ HA1xa8.out)
         clear K hK
         try simp only [nz0, nz1, nz2, Act.put, nz3, nz4, nz5]
         refine wpAnyG_tk (i := 14) (v := ?v14_15xa8) rfl (Or.inl ⟨by rfl, ?a_⟩) (HSC.out _ HA1xa8.out) ?b_
         case a_ => intro w hSw; (try dsimp only at hSw); go_simp; (try with_reducible rfl)
         case b_ =>
         try simp only [nz0, nz1, nz2, Act.put, nz3, nz4, nz5]
         refine wpAnyG_tk (i := 15) (v := ?v15_16xa8) rfl (Or.inl ⟨by rfl, ?a_⟩) (HSC.out _ HA1xa8.out) ?b_
         case a_ => intro w hSw; (try dsimp only at hSw); go_simp; (try with_reducible rfl)
         case b_ =>
         try simp only [nz0, nz1, nz2, Act.put, nz3, nz4, nz5]
         refine wpAnyG_tk (i := 16) (v := ?v16_17xa8) rfl (Or.inl ⟨by rfl, ?a_⟩) (HSC.out _ HA1xa8.out) ?b_
         case a_ => intro w hSw; (try dsimp only at hSw); go_simp; (try with_reducible rfl)
         case b_ =>
         try simp only [nz0, nz1, nz2, Act.put, nz3, nz4, nz5]
         refine wpAnyG_tk (i := 18) (v := ?v18_18xa8) rfl (Or.inl ⟨by rfl, ?a_⟩) (HSC.out _ HA1xa8.out) ?b_
         case a_ => intro w hSw; (try dsimp only at hSw); go_simp; (try with_reducible rfl)
         case b_ =>
         try simp only [nz0, nz1, nz2, Act.put, nz3, nz4, nz5]
         refine wpAnyG_tk (i := 19) (v := .int .i64 cm) rfl (Or.inl ⟨by rfl, ?a_⟩) (HSC.out _ HA1xa8.out) ?b_
         case a_ => intro w hSw; obtain ⟨s3, s4, s5, s6, -⟩ := hSw; go_simp; (try with_reducible rfl)
         case b_ =>
         try simp only [nz0, nz1, nz2, Act.put, nz3, nz4, nz5]
         refine wpAnyG_one (i := 17) (by kernel_rfl) rfl (fun K hK => ?_)
         go_simp
         refine (hs.out.hc _ HA1xa8.out).mono ?_
         rintro r0 wq2xa8 ⟨rfl, hq2⟩
         have HA2xa8 := Lib.hid hq2
         clear hq2
         refine hK.out _ _ (fun _ => ?hS20xa8) ?rest20xa8
         case hS20xa8 => exact (HSC.out _ HA2xa8.out)
         clear K hK
         try simp only [nz0, nz1, nz2, Act.put, nz3, nz4, nz5]
         refine wpAnyG_one (i := 20) (by kernel_rfl) rfl (fun K hK => ?_)
         go_simp
         refine (hs.out.o4 _).mono ?_
         rintro r0 wq62 ⟨rfl, rfl⟩
         refine hK.out _ _ (fun _ => ?hS21xa8) ?rest21xa8
         case hS21xa8 => exact (HSC.out _ HA2xa8.out)
         clear K hK
         try simp only [nz0, nz1, nz2, Act.put, nz3, nz4, nz5]
         refine wpAnyG_tk (i := 21) (v := ?v21_22xa8) rfl (Or.inl ⟨by rfl, ?a_⟩) (HSC.out _ HA2xa8.out) ?b_
         case a_ => intro w hSw; (try dsimp only at hSw); go_simp; (try with_reducible rfl)
         case b_ =>
         try simp only [nz0, nz1, nz2, Act.put, nz3, nz4, nz5]
         refine wpAnyG_tk (i := 22) (v := ?v22_23xa8) rfl (Or.inl ⟨by rfl, ?a_⟩) (HSC.out _ HA2xa8.out) ?b_
         case a_ => intro w hSw; (try dsimp only at hSw); go_simp; (try with_reducible rfl)
         case b_ =>
         try simp only [nz0, nz1, nz2, Act.put, nz3, nz4, nz5]
         refine wpAnyG_tk (i := 23) (v := ?v23_24xa8) rfl (Or.inl ⟨by rfl, ?a_⟩) (HSC.out _ HA2xa8.out) ?b_
         case a_ => intro w hSw; (try dsimp only at hSw); go_simp; (try with_reducible rfl)
         case b_ =>
         try simp only [nz0, nz1, nz2, Act.put, nz3, nz4, nz5]
         refine wpAnyG_tk (i := 25) (v := ?v25_25xa8) rfl (Or.inl ⟨by rfl, ?a_⟩) (HSC.out _ HA2xa8.out) ?b_
         case a_ => intro w hSw; (try dsimp only at hSw); go_simp; (try with_reducible rfl)
         case b_ =>
         try simp only [nz0, nz1, nz2, Act.put, nz3, nz4, nz5]
         refine wpAnyG_tk (i := 26) (v := .int .i64 la) rfl (Or.inl ⟨by rfl, ?a_⟩) (HSC.out _ HA2xa8.out) ?b_
         case a_ => intro w hSw; obtain ⟨s3, s4, s5, s6, -⟩ := hSw; go_simp; (try with_reducible rfl)
         case b_ =>
         try simp only [nz0, nz1, nz2, Act.put, nz3, nz4, nz5]
         refine wpAnyG_one (i := 24) (by kernel_rfl) rfl (fun K hK => ?_)
         go_simp
         refine (hs.out.hl _).mono ?_
         rintro r0 wq53 ⟨rfl, rfl⟩
         refine hK.out _ _ (fun _ => ?hS27xa8) ?rest27xa8
         case hS27xa8 => exact (HSC.out _ HA2xa8.out)
         clear K hK
         try simp only [nz0, nz1, nz2, Act.put, nz3, nz4, nz5]
         refine wpAnyG_one (i := 27) (by kernel_rfl) rfl (fun K hK => ?_)
         go_simp
         refine (hs.out.o8 _).mono ?_
         rintro r0 wq63 ⟨rfl, rfl⟩
         refine hK.out _ _ (fun _ => ?hS28xa8) ?rest28xa8
         case hS28xa8 => exact (HSC.out _ HA2xa8.out)
         clear K hK
         try simp only [nz0, nz1, nz2, Act.put, nz3, nz4, nz5]
         refine wpAnyG_tk (i := 28) (v := ?v28_29xa8) rfl (Or.inl ⟨by rfl, ?a_⟩) (HSC.out _ HA2xa8.out) ?b_
         case a_ => intro w hSw; (try dsimp only at hSw); go_simp; (try with_reducible rfl)
         case b_ =>
         try simp only [nz0, nz1, nz2, Act.put, nz3, nz4, nz5]
         refine wpAnyG_tk (i := 29) (v := ?v29_30xa8) rfl (Or.inl ⟨by rfl, ?a_⟩) (HSC.out _ HA2xa8.out) ?b_
         case a_ => intro w hSw; (try dsimp only at hSw); go_simp; (try with_reducible rfl)
         case b_ =>
         try simp only [nz0, nz1, nz2, Act.put, nz3, nz4, nz5]
         refine wpAnyG_take' (i := 30) (v := undef) rfl (by kernel_rfl) (by kernel_rfl) (by kernel_rfl) (by kernel_rfl) (fun _ _ _ h => h) (Or.inr ⟨by rfl, rfl⟩) (HSC.out _ HA2xa8.out) ?rest30_31xa8
         case rest30_31xa8 =>
         try simp only [nz0, nz1, nz2, Act.put, nz3, nz4, nz5]
         refine wpAnyG_take' (i := 31) (v := undef) rfl (by kernel_rfl) (by kernel_rfl) (by kernel_rfl) (by kernel_rfl) (fun _ _ _ h => h) (Or.inr ⟨by rfl, rfl⟩) (HSC.out _ HA2xa8.out) ?rest31_32xa8
         case rest31_32xa8 =>
         try simp only [nz0, nz1, nz2, Act.put, nz3, nz4, nz5]
         refine wpAnyG_tk (i := 32) (v := ?v32_33xa8) rfl (Or.inl ⟨by rfl, ?a_⟩) (HSC.out _ HA2xa8.out) ?b_
         case a_ => intro w hSw; (try dsimp only at hSw); go_simp; (try with_reducible rfl)
         case b_ =>
         try simp only [nz0, nz1, nz2, Act.put, nz3, nz4, nz5]
         refine wpAnyG_one (i := 33) (by kernel_rfl) rfl (fun K hK => ?_)
         go_simp
         refine hK.out _ _ (fun hno => by cases hno) ?_
         clear K hK
         try simp only [nz0, nz1, nz2, Act.put, nz3, nz4, nz5]
         refine wpAnyG_done (by kernel_rfl) ?_ _
         try simp only [nz0, nz1, nz2, Act.put, nz3, nz4, nz5]
         refine rcktail false zB R hs HA2xa8 hz (Lib.hid (by rw [HR.out]; rw [d0, d1]; rfl)) ?_ _ _ _ _ _ _ _ _ _ _ _ _ _ _ _ _ _ _ _ _ _ _ _ _ _ _ _ _ _ _ _ _ _ _ _ _ _ _ _ _ _ _ _ _ _ _ _ _ _ _ _ _ _ _ _ _ _ _ _ _ _ _ _ _ _ _ _ _ _ _ _ _ _ _ _ _ _ _ _ _ _ _ _ _ _ _ _ _ _ _
         assumption
        | true =>
         cases ae with
         | false =>
          refine wp_region_G (SC5 b1 v o cm la mc) [33] (by kernel_rfl) (HSC.out _ HD.out) (fun hS => ?_)
          try dsimp only at hS
          refine wpAnyG_tk (i := 0) (v := ?v0_1xae) rfl (Or.inl ⟨by rfl, ?a_⟩) (HSC.out _ HD.out) ?b_
          case a_ => intro w hSw; (try dsimp only at hSw); go_simp; (try with_reducible rfl)
          case b_ =>
          try simp only [nz0, nz1, nz2, Act.put, nz3, nz4, nz5]
          refine wpAnyG_tk (i := 1) (v := ?v1_2xae) rfl (Or.inl ⟨by rfl, ?a_⟩) (HSC.out _ HD.out) ?b_
          case a_ => intro w hSw; (try dsimp only at hSw); go_simp; (try with_reducible rfl)
          case b_ =>
          try simp only [nz0, nz1, nz2, Act.put, nz3, nz4, nz5]
          refine wpAnyG_tk (i := 2) (v := ?v2_3xae) rfl (Or.inl ⟨by rfl, ?a_⟩) (HSC.out _ HD.out) ?b_
          case a_ => intro w hSw; (try dsimp only at hSw); go_simp; (try with_reducible rfl)
          case b_ =>
          try simp only [nz0, nz1, nz2, Act.put, nz3, nz4, nz5]
          refine wpAnyG_tk (i := 4) (v := ?v4_4xae) rfl (Or.inl ⟨by rfl, ?a_⟩) (HSC.out _ HD.out) ?b_
          case a_ => intro w hSw; (try dsimp only at hSw); go_simp; (try with_reducible rfl)
          case b_ =>
          try simp only [nz0, nz1, nz2, Act.put, nz3, nz4, nz5]
          refine wpAnyG_tk (i := 5) (v := .int .i64 v) rfl (Or.inl ⟨by rfl, ?a_⟩) (HSC.out _ HD.out) ?b_
          case a_ => intro w hSw; obtain ⟨s3, s4, s5, s6, -⟩ := hSw; go_simp; (try with_reducible rfl)
          case b_ =>
          try simp only [nz0, nz1, nz2, Act.put, nz3, nz4, nz5]
          refine wpAnyG_one (i := 3) (by kernel_rfl) rfl (fun K hK => ?_)
          go_simp
          refine (hs.out.hv _).mono ?_
          rintro r0 wq50 ⟨rfl, rfl⟩
          refine hK.out _ _ (fun _ => ?hS6xae) ?rest6xae
          case hS6xae => exact (HSC.out _ HD.out)
          clear K hK
          try simp only [nz0, nz1, nz2, Act.put, nz3, nz4, nz5]
          refine wpAnyG_one (i := 6) (by kernel_rfl) rfl (fun K hK => ?_)
          go_simp
          refine (hs.out.o1 _).mono ?_
          rintro r0 wq60 ⟨rfl, rfl⟩
          refine hK.out _ _ (fun _ => ?hS7xae) ?rest7xae
          case hS7xae => exact (HSC.out _ HD.out)
          clear K hK
          try simp only [nz0, nz1, nz2, Act.put, nz3, nz4, nz5]
          refine wpAnyG_tk (i := 7) (v := ?v7_8xae) rfl (Or.inl ⟨by rfl, ?a_⟩) (HSC.out _ HD.out) ?b_
          case a_ => intro w hSw; (try dsimp only at hSw); go_simp; (try with_reducible rfl)
          case b_ =>
          try simp only [nz0, nz1, nz2, Act.put, nz3, nz4, nz5]
          refine wpAnyG_tk (i := 8) (v := ?v8_9xae) rfl (Or.inl ⟨by rfl, ?a_⟩) (HSC.out _ HD.out) ?b_
          case a_ => intro w hSw; (try dsimp only at hSw); go_simp; (try with_reducible rfl)
          case b_ =>
          try simp only [nz0, nz1, nz2, Act.put, nz3, nz4, nz5]
          refine wpAnyG_tk (i := 9) (v := ?v9_10xae) rfl (Or.inl ⟨by rfl, ?a_⟩) (HSC.out _ HD.out) ?b_
          case a_ => intro w hSw; (try dsimp only at hSw); go_simp; (try with_reducible rfl)
          case b_ =>
          try simp only [nz0, nz1, nz2, Act.put, nz3, nz4, nz5]
          refine wpAnyG_tk (i := 11) (v := ?v11_11xae) rfl (Or.inl ⟨by rfl, ?a_⟩) (HSC.out _ HD.out) ?b_
          case a_ => intro w hSw; (try dsimp only at hSw); go_simp; (try with_reducible rfl)
          case b_ =>
          try simp only [nz0, nz1, nz2, Act.put, nz3, nz4, nz5]
          refine wpAnyG_tk (i := 12) (v := .int .i64 o) rfl (Or.inl ⟨by rfl, ?a_⟩) (HSC.out _ HD.out) ?b_
          case a_ => intro w hSw; obtain ⟨s3, s4, s5, s6, -⟩ := hSw; go_simp; (try with_reducible rfl)
          case b_ =>
          try simp only [nz0, nz1, nz2, Act.put, nz3, nz4, nz5]
          refine wpAnyG_one (i := 10) (by kernel_rfl) rfl (fun K hK => ?_)
          go_simp
          refine (hs.out.ho _ HD.out).mono ?_
          rintro r0 wq1xae ⟨rfl, hq1⟩
          have HA1xae := Lib.hid hq1
          clear hq1
          refine hK.out _ _ (fun _ => ?hS13xae) ?rest13xae
          case hS13xae => exact (HSC.out _ HA1xae.out)
          clear K hK
          try simp only [nz0, nz1, nz2, Act.put, nz3, nz4, nz5]
          refine wpAnyG_one (i := 13) (by kernel_rfl) rfl (fun K hK => ?_)
          go_simp
          refine (hs.out.o2 _).mono ?_
          rintro r0 wq61 ⟨rfl, rfl⟩
          refine hK.out _ _ (fun _ => ?hS14xae) ?rest14xae
          case hS14xae => exact (HSC.out _ HA1xae.out)
          clear K hK
          try simp only [nz0, nz1, nz2, Act.put, nz3, nz4, nz5]
          refine wpAnyG_tk (i := 14) (v := ?v14_15xae) rfl (Or.inl ⟨by rfl, ?a_⟩) (HSC.out _ HA1xae.out) ?b_
          case a_ => intro w hSw; (try dsimp only at hSw); go_simp; (try with_reducible rfl)
          case b_ =>
          try simp only [nz0, nz1, nz2, Act.put, nz3, nz4, nz5]
          refine wpAnyG_tk (i := 15) (v := ?v15_16xae) rfl (Or.inl ⟨by rfl, ?a_⟩) (HSC.out _ HA1xae.out) ?b_
          case a_ => intro w hSw; (try dsimp only at hSw); go_simp; (try with_reducible rfl)
          case b_ =>
          try simp only [nz0, nz1, nz2, Act.put, nz3, nz4, nz5]
          refine wpAnyG_tk (i := 16) (v := ?v16_17xae) rfl (Or.inl ⟨by rfl, ?a_⟩) (HSC.out _ HA1xae.out) ?b_
          case a_ => intro w hSw; (try dsimp only at hSw); go_simp; (try with_reducible rfl)
          case b_ =>
          try simp only [nz0, nz1, nz2, Act.put, nz3, nz4, nz5]
          refine wpAnyG_tk (i := 18) (v := ?v18_18xae) rfl (Or.inl ⟨by rfl, ?a_⟩) (HSC.out _ HA1xae.out) ?b_
          case a_ => intro w hSw; (try dsimp only at hSw); go_simp; (try with_reducible rfl)
          case b_ =>
          try simp only [nz0, nz1, nz2, Act.put, nz3, nz4, nz5]
          refine wpAnyG_tk (i := 19) (v := .int .i64 cm) rfl (Or.inl ⟨by rfl, ?a_⟩) (HSC.out _ HA1xae.out) ?b_
          case a_ => intro w hSw; obtain ⟨s3, s4, s5, s6, -⟩ := hSw; go_simp; (try with_reducible rfl)
          case b_ =>
          try simp only [nz0, nz1, nz2, Act.put, nz3, nz4, nz5]
          refine wpAnyG_one (i := 17) (by kernel_rfl) rfl (fun K hK => ?_)
          go_simp
          refine (hs.out.hc _ HA1xae.out).mono ?_
          rintro r0 wq2xae ⟨rfl, hq2⟩
          have HA2xae := Lib.hid hq2
          clear hq2
          refine hK.out _ _ (fun _ => ?hS20xae) ?rest20xae
          case hS20xae => exact (HSC.out _ HA2xae.out)
          clear K hK
          try simp only [nz0, nz1, nz2, Act.put, nz3, nz4, nz5]
          refine wpAnyG_one (i := 20) (by kernel_rfl) rfl (fun K hK => ?_)
          go_simp
          refine (hs.out.o4 _).mono ?_
          rintro r0 wq62 ⟨rfl, rfl⟩
          refine hK.out _ _ (fun _ => ?hS21xae) ?rest21xae
          case hS21xae => exact (HSC.out _ HA2xae.out)
          clear K hK
          try simp only [nz0, nz1, nz2, Act.put, nz3, nz4, nz5]
          refine wpAnyG_tk (i := 21) (v := ?v21_22xae) rfl (Or.inl ⟨by rfl, ?a_⟩) (HSC.out _ HA2xae.out) ?b_
          case a_ => intro w hSw; (try dsimp only at hSw); go_simp; (try with_reducible rfl)
          case b_ =>
          try simp only [nz0, nz1, nz2, Act.put, nz3, nz4, nz5]
          refine wpAnyG_tk (i := 22) (v := ?v22_23xae) rfl (Or.inl ⟨by rfl, ?a_⟩) (HSC.out _ HA2xae.out) ?b_
          case a_ => intro w hSw; (try dsimp only at hSw); go_simp; (try with_reducible rfl)
          case b_ =>
          try simp only [nz0, nz1, nz2, Act.put, nz3, nz4, nz5]
          refine wpAnyG_tk (i := 23) (v := ?v23_24xae) rfl (Or.inl ⟨by rfl, ?a_⟩) (HSC.out _ HA2xae.out) ?b_
          case a_ => intro w hSw; (try dsimp only at hSw); go_simp; (try with_reducible rfl)
          case b_ =>
          try simp only [nz0, nz1, nz2, Act.put, nz3, nz4, nz5]
          refine wpAnyG_tk (i := 25) (v := ?v25_25xae) rfl (Or.inl ⟨by rfl, ?a_⟩) (HSC.out _ HA2xae.out) ?b_
          case a_ => intro w hSw; (try dsimp only at hSw); go_simp; (try with_reducible rfl)
          case b_ =>
          try simp only [nz0, nz1, nz2, Act.put, nz3, nz4, nz5]
          refine wpAnyG_tk (i := 26) (v := .int .i64 la) rfl (Or.inl ⟨by rfl, ?a_⟩) (HSC.out _ HA2xae.out) ?b_
          case a_ => intro w hSw; obtain ⟨s3, s4, s5, s6, -⟩ := hSw; go_simp; (try with_reducible rfl)
          case b_ =>
          try simp only [nz0, nz1, nz2, Act.put, nz3, nz4, nz5]
          refine wpAnyG_one (i := 24) (by kernel_rfl) rfl (fun K hK => ?_)
          go_simp
          refine (hs.out.hl _).mono ?_
          rintro r0 wq53 ⟨rfl, rfl⟩
          refine hK.out _ _ (fun _ => ?hS27xae) ?rest27xae
          case hS27xae => exact (HSC.out _ HA2xae.out)
          clear K hK
          try simp only [nz0, nz1, nz2, Act.put, nz3, nz4, nz5]
          refine wpAnyG_one (i := 27) (by kernel_rfl) rfl (fun K hK => ?_)
          go_simp
          refine (hs.out.o8 _).mono ?_
          rintro r0 wq63 ⟨rfl, rfl⟩
          refine hK.out _ _ (fun _ => ?hS28xae) ?rest28xae
          case hS28xae => exact (HSC.out _ HA2xae.out)
          clear K hK
          try simp only [nz0, nz1, nz2, Act.put, nz3, nz4, nz5]
          refine wpAnyG_tk (i := 28) (v := ?v28_29xae) rfl (Or.inl ⟨by rfl, ?a_⟩) (HSC.out _ HA2xae.out) ?b_
          case a_ => intro w hSw; (try dsimp only at hSw); go_simp; (try with_reducible rfl)
          case b_ =>
          try simp only [nz0, nz1, nz2, Act.put, nz3, nz4, nz5]
          refine wpAnyG_tk (i := 29) (v := ?v29_30xae) rfl (Or.inl ⟨by rfl, ?a_⟩) (HSC.out _ HA2xae.out) ?b_
          case a_ => intro w hSw; (try dsimp only at hSw); go_simp; (try with_reducible rfl)
          case b_ =>
          try simp only [nz0, nz1, nz2, Act.put, nz3, nz4, nz5]
          refine wpAnyG_tk (i := 30) (v := .agg mc) rfl (Or.inl ⟨by rfl, ?a_⟩) (HSC.out _ HA2xae.out) ?b_
          case a_ => intro w hSw; exact yld_load5 rfl rfl hSw.2.2.2.2
          case b_ =>
          try simp only [nz0, nz1, nz2, Act.put, nz3, nz4, nz5]
          refine wpAnyG_one (i := 31) (by kernel_rfl) rfl (fun K hK => ?_)
          go_simp
          refine (hs.out.en _ HA2xae.out).mono ?_
          rintro r0 wq3xae ⟨rfl, hq3⟩
          have HA3xae := Lib.hid hq3
          clear hq3
          refine hK.out _ _ (fun _ => ?hS32xae) ?rest32xae
          case hS32xae => exact (HSC.out _ HA3xae.out)
          clear K hK
          try simp only [nz0, nz1, nz2, Act.put, nz3, nz4, nz5]
          refine wpAnyG_tk (i := 32) (v := ?v32_33xae) rfl (Or.inl ⟨by rfl, ?a_⟩) (HSC.out _ HA3xae.out) ?b_
          case a_ => intro w hSw; (try dsimp only at hSw); go_simp; (try with_reducible rfl)
          case b_ =>
          try simp only [nz0, nz1, nz2, Act.put, nz3, nz4, nz5]
          refine wpAnyG_one (i := 33) (by kernel_rfl) rfl (fun K hK => ?_)
          go_simp
          refine hK.out _ _ (fun hno => by cases hno) ?_
          clear K hK
          try simp only [nz0, nz1, nz2, Act.put, nz3, nz4, nz5]
          refine wpAnyG_done (by kernel_rfl) ?_ _
          try simp only [nz0, nz1, nz2, Act.put, nz3, nz4, nz5]
          refine rcktail false zB R hs HA3xae hz (Lib.hid (by rw [HR.out]; rw [d0, d1]; rfl)) ?_ _ _ _ _ _ _ _ _ _ _ _ _ _ _ _ _ _ _ _ _ _ _ _ _ _ _ _ _ _ _ _ _ _ _ _ _ _ _ _ _ _ _ _ _ _ _ _ _ _ _ _ _ _ _ _ _ _ _ _ _ _ _ _ _ _ _ _ _ _ _ _ _ _ _ _ _ _ _ _ _ _ _ _ _ _ _ _ _ _ _
          assumption
         | true =>
          refine wp_region_G (SC5 b1 v o cm la mc) [33] (by kernel_rfl) (HSC.out _ HD.out) (fun hS => ?_)
          try dsimp only at hS
          refine wpAnyG_tk (i := 0) (v := ?v0_1xall) rfl (Or.inl ⟨by rfl, ?a_⟩) (HSC.out _ HD.out) ?b_
          case a_ => intro w hSw; (try dsimp only at hSw); go_simp; (try with_reducible rfl)
          case b_ =>
          try simp only [nz0, nz1, nz2, Act.put, nz3, nz4, nz5]
          refine wpAnyG_tk (i := 1) (v := ?v1_2xall) rfl (Or.inl ⟨by rfl, ?a_⟩) (HSC.out _ HD.out) ?b_
          case a_ => intro w hSw; (try dsimp only at hSw); go_simp; (try with_reducible rfl)
          case b_ =>
          try simp only [nz0, nz1, nz2, Act.put, nz3, nz4, nz5]
          refine wpAnyG_tk (i := 2) (v := ?v2_3xall) rfl (Or.inl ⟨by rfl, ?a_⟩) (HSC.out _ HD.out) ?b_
          case a_ => intro w hSw; (try dsimp only at hSw); go_simp; (try with_reducible rfl)
          case b_ =>
          try simp only [nz0, nz1, nz2, Act.put, nz3, nz4, nz5]
          refine wpAnyG_tk (i := 4) (v := ?v4_4xall) rfl (Or.inl ⟨by rfl, ?a_⟩) (HSC.out _ HD.out) ?b_
          case a_ => intro w hSw; (try dsimp only at hSw); go_simp; (try with_reducible rfl)
          case b_ =>
          try simp only [nz0, nz1, nz2, Act.put, nz3, nz4, nz5]
          refine wpAnyG_tk (i := 5) (v := .int .i64 v) rfl (Or.inl ⟨by rfl, ?a_⟩) (HSC.out _ HD.out) ?b_
          case a_ => intro w hSw; obtain ⟨s3, s4, s5, s6, -⟩ := hSw; go_simp; (try with_reducible rfl)
          case b_ =>
          try simp only [nz0, nz1, nz2, Act.put, nz3, nz4, nz5]
          refine wpAnyG_one (i := 3) (by kernel_rfl) rfl (fun K hK => ?_)
          go_simp
          refine (hs.out.hv _).mono ?_
          rintro r0 wq50 ⟨rfl, rfl⟩
          refine hK.out _ _ (fun _ => ?hS6xall) ?rest6xall
          case hS6xall => exact (HSC.out _ HD.out)
          clear K hK
          try simp only [nz0, nz1, nz2, Act.put, nz3, nz4, nz5]
          refine wpAnyG_one (i := 6) (by kernel_rfl) rfl (fun K hK => ?_)
          go_simp
          refine (hs.out.o1 _).mono ?_
          rintro r0 wq60 ⟨rfl, rfl⟩
          refine hK.out _ _ (fun _ => ?hS7xall) ?rest7xall
          case hS7xall => exact (HSC.out _ HD.out)
          clear K hK
          try simp only [nz0, nz1, nz2, Act.put, nz3, nz4, nz5]
          refine wpAnyG_tk (i := 7) (v := ?v7_8xall) rfl (Or.inl ⟨by rfl, ?a_⟩) (HSC.out _ HD.out) ?b_
          case a_ => intro w hSw; (try dsimp only at hSw); go_simp; (try with_reducible rfl)
          case b_ =>
          try simp only [nz0, nz1, nz2, Act.put, nz3, nz4, nz5]
          refine wpAnyG_tk (i := 8) (v := ?v8_9xall) rfl (Or.inl ⟨by rfl, ?a_⟩) (HSC.out _ HD.out) ?b_
          case a_ => intro w hSw; (try dsimp only at hSw); go_simp; (try with_reducible rfl)
          case b_ =>
          try simp only [nz0, nz1, nz2, Act.put, nz3, nz4, nz5]
          refine wpAnyG_tk (i := 9) (v := ?v9_10xall) rfl (Or.inl ⟨by rfl, ?a_⟩) (HSC.out _ HD.out) ?b_
          case a_ => intro w hSw; (try dsimp only at hSw); go_simp; (try with_reducible rfl)
          case b_ =>
          try simp only [nz0, nz1, nz2, Act.put, nz3, nz4, nz5]
          refine wpAnyG_tk (i := 11) (v := ?v11_11xall) rfl (Or.inl ⟨by rfl, ?a_⟩) (HSC.out _ HD.out) ?b_
          case a_ => intro w hSw; (try dsimp only at hSw); go_simp; (try with_reducible rfl)
          case b_ =>
          try simp only [nz0, nz1, nz2, Act.put, nz3, nz4, nz5]
          refine wpAnyG_tk (i := 12) (v := .int .i64 o) rfl (Or.inl ⟨by rfl, ?a_⟩) (HSC.out _ HD.out) ?b_
          case a_ => intro w hSw; obtain ⟨s3, s4, s5, s6, -⟩ := hSw; go_simp; (try with_reducible rfl)
          case b_ =>
          try simp only [nz0, nz1, nz2, Act.put, nz3, nz4, nz5]
          refine wpAnyG_one (i := 10) (by kernel_rfl) rfl (fun K hK => ?_)
          go_simp
          refine (hs.out.ho _ HD.out).mono ?_
          rintro r0 wq1xall ⟨rfl, hq1⟩
          have HA1xall := Lib.hid hq1
          clear hq1
          refine hK.out _ _ (fun _ => ?hS13xall) ?rest13xall
          case hS13xall => exact (HSC.out _ HA1xall.out)
          clear K hK
          try simp only [nz0, nz1, nz2, Act.put, nz3, nz4, nz5]
          refine wpAnyG_one (i := 13) (by kernel_rfl) rfl (fun K hK => ?_)
          go_simp
          refine (hs.out.o2 _).mono ?_
          rintro r0 wq61 ⟨rfl, rfl⟩
          refine hK.out _ _ (fun _ => ?hS14xall) ?rest14xall
          case hS14xall => exact (HSC.out _ HA1xall.out)
          clear K hK
          try simp only [nz0, nz1, nz2, Act.put, nz3, nz4, nz5]
          refine wpAnyG_tk (i := 14) (v := ?v14_15xall) rfl (Or.inl ⟨by rfl, ?a_⟩) (HSC.out _ HA1xall.out) ?b_
          case a_ => intro w hSw; (try dsimp only at hSw); go_simp; (try with_reducible rfl)
          case b_ =>
          try simp only [nz0, nz1, nz2, Act.put, nz3, nz4, nz5]
          refine wpAnyG_tk (i := 15) (v := ?v15_16xall) rfl (Or.inl ⟨by rfl, ?a_⟩) (HSC.out _ HA1xall.out) ?b_
          case a_ => intro w hSw; (try dsimp only at hSw); go_simp; (try with_reducible rfl)
          case b_ =>
          try simp only [nz0, nz1, nz2, Act.put, nz3, nz4, nz5]
          refine wpAnyG_tk (i := 16) (v := ?v16_17xall) rfl (Or.inl ⟨by rfl, ?a_⟩) (HSC.out _ HA1xall.out) ?b_
          case a_ => intro w hSw; (try dsimp only at hSw); go_simp; (try with_reducible rfl)
          case b_ =>
          try simp only [nz0, nz1, nz2, Act.put, nz3, nz4, nz5]
          refine wpAnyG_tk (i := 18) (v := ?v18_18xall) rfl (Or.inl ⟨by rfl, ?a_⟩) (HSC.out _ HA1xall.out) ?b_
          case a_ => intro w hSw; (try dsimp only at hSw); go_simp; (try with_reducible rfl)
          case b_ =>
          try simp only [nz0, nz1, nz2, Act.put, nz3, nz4, nz5]
          refine wpAnyG_tk (i := 19) (v := .int .i64 cm) rfl (Or.inl ⟨by rfl, ?a_⟩) (HSC.out _ HA1xall.out) ?b_
          case a_ => intro w hSw; obtain ⟨s3, s4, s5, s6, -⟩ := hSw; go_simp; (try with_reducible rfl)
          case b_ =>
          try simp only [nz0, nz1, nz2, Act.put, nz3, nz4, nz5]
          refine wpAnyG_one (i := 17) (by kernel_rfl) rfl (fun K hK => ?_)
          go_simp
          refine (hs.out.hc _ HA1xall.out).mono ?_
          rintro r0 wq2xall ⟨rfl, hq2⟩
          have HA2xall := Lib.hid hq2
          clear hq2
          refine hK.out _ _ (fun _ => ?hS20xall) ?rest20xall
          case hS20xall => exact (HSC.out _ HA2xall.out)
          clear K hK
          try simp only [nz0, nz1, nz2, Act.put, nz3, nz4, nz5]
          refine wpAnyG_one (i := 20) (by kernel_rfl) rfl (fun K hK => ?_)
          go_simp
          refine (hs.out.o4 _).mono ?_
          rintro r0 wq62 ⟨rfl, rfl⟩
          refine hK.out _ _ (fun _ => ?hS21xall) ?rest21xall
          case hS21xall => exact (HSC.out _ HA2xall.out)
          clear K hK
          try simp only [nz0, nz1, nz2, Act.put, nz3, nz4, nz5]
          refine wpAnyG_tk (i := 21) (v := ?v21_22xall) rfl (Or.inl ⟨by rfl, ?a_⟩) (HSC.out _ HA2xall.out) ?b_
          case a_ => intro w hSw; (try dsimp only at hSw); go_simp; (try with_reducible rfl)
          case b_ =>
          try simp only [nz0, nz1, nz2, Act.put, nz3, nz4, nz5]
          refine wpAnyG_tk (i := 22) (v := ?v22_23xall) rfl (Or.inl ⟨by rfl, ?a_⟩) (HSC.out _ HA2xall.out) ?b_
          case a_ => intro w hSw; (try dsimp only at hSw); go_simp; (try with_reducible rfl)
          case b_ =>
          try simp only [nz0, nz1, nz2, Act.put, nz3, nz4, nz5]
          refine wpAnyG_tk (i := 23) (v := ?v23_24xall) rfl (Or.inl ⟨by rfl, ?a_⟩) (HSC.out _ HA2xall.out) ?b_
          case a_ => intro w hSw; (try dsimp only at hSw); go_simp; (try with_reducible rfl)
          case b_ =>
          try simp only [nz0, nz1, nz2, Act.put, nz3, nz4, nz5]
          refine wpAnyG_tk (i := 25) (v := ?v25_25xall) rfl (Or.inl ⟨by rfl, ?a_⟩) (HSC.out _ HA2xall.out) ?b_
          case a_ => intro w hSw; (try dsimp only at hSw); go_simp; (try with_reducible rfl)
          case b_ =>
          try simp only [nz0, nz1, nz2, Act.put, nz3, nz4, nz5]
          refine wpAnyG_tk (i := 26) (v := .int .i64 la) rfl (Or.inl ⟨by rfl, ?a_⟩) (HSC.out _ HA2xall.out) ?b_
          case a_ => intro w hSw; obtain ⟨s3, s4, s5, s6, -⟩ := hSw; go_simp; (try with_reducible rfl)
          case b_ =>
          try simp only [nz0, nz1, nz2, Act.put, nz3, nz4, nz5]
          refine wpAnyG_one (i := 24) (by kernel_rfl) rfl (fun K hK => ?_)
          go_simp
          refine (hs.out.hl _).mono ?_
          rintro r0 wq53 ⟨rfl, rfl⟩
          refine hK.out _ _ (fun _ => ?hS27xall) ?rest27xall
          case hS27xall => exact (HSC.out _ HA2xall.out)
          clear K hK
          try simp only [nz0, nz1, nz2, Act.put, nz3, nz4, nz5]
          refine wpAnyG_one (i := 27) (by kernel_rfl) rfl (fun K hK => ?_)
          go_simp
          refine (hs.out.o8 _).mono ?_
          rintro r0 wq63 ⟨rfl, rfl⟩
          refine hK.out _ _ (fun _ => ?hS28xall) ?rest28xall
          case hS28xall => exact (HSC.out _ HA2xall.out)
          clear K hK
          try simp only [nz0, nz1, nz2, Act.put, nz3, nz4, nz5]
          refine wpAnyG_tk (i := 28) (v := ?v28_29xall) rfl (Or.inl ⟨by rfl, ?a_⟩) (HSC.out _ HA2xall.out) ?b_
          case a_ => intro w hSw; (try dsimp only at hSw); go_simp; (try with_reducible rfl)
          case b_ =>
          try simp only [nz0, nz1, nz2, Act.put, nz3, nz4, nz5]
          refine wpAnyG_tk (i := 29) (v := ?v29_30xall) rfl (Or.inl ⟨by rfl, ?a_⟩) (HSC.out _ HA2xall.out) ?b_
          case a_ => intro w hSw; (try dsimp only at hSw); go_simp; (try with_reducible rfl)
          case b_ =>
          try simp only [nz0, nz1, nz2, Act.put, nz3, nz4, nz5]
          refine wpAnyG_tk (i := 30) (v := .agg mc) rfl (Or.inl ⟨by rfl, ?a_⟩) (HSC.out _ HA2xall.out) ?b_
          case a_ => intro w hSw; exact yld_load5 rfl rfl hSw.2.2.2.2
          case b_ =>
          try simp only [nz0, nz1, nz2, Act.put, nz3, nz4, nz5]
          refine wpAnyG_one (i := 31) (by kernel_rfl) rfl (fun K hK => ?_)
          go_simp
          refine (hs.out.en _ HA2xall.out).mono ?_
          rintro r0 wq3xall ⟨rfl, hq3⟩
          have HA3xall := Lib.hid hq3
          clear hq3
          refine hK.out _ _ (fun _ => ?hS32xall) ?rest32xall
          case hS32xall => exact (HSC.out _ HA3xall.out)
          clear K hK
          try simp only [nz0, nz1, nz2, Act.put, nz3, nz4, nz5]
          refine wpAnyG_tk (i := 32) (v := ?v32_33xall) rfl (Or.inl ⟨by rfl, ?a_⟩) (HSC.out _ HA3xall.out) ?b_
          case a_ => intro w hSw; (try dsimp only at hSw); go_simp; (try with_reducible rfl)
          case b_ =>
          try simp only [nz0, nz1, nz2, Act.put, nz3, nz4, nz5]
          refine wpAnyG_one (i := 33) (by kernel_rfl) rfl (fun K hK => ?_)
          go_simp
          refine hK.out _ _ (fun hno => by cases hno) ?_
          clear K hK
          try simp only [nz0, nz1, nz2, Act.put, nz3, nz4, nz5]
          refine wpAnyG_done (by kernel_rfl) ?_ _
          try simp only [nz0, nz1, nz2, Act.put, nz3, nz4, nz5]
          refine rcktail true zB R hs HA3xall hz (Lib.hid (by rw [HR.out]; rw [d0, d1]; rfl)) ?_ _ _ _ _ _ _ _ _ _ _ _ _ _ _ _ _ _ _ _ _ _ _ _ _ _ _ _ _ _ _ _ _ _ _ _ _ _ _ _ _ _ _ _ _ _ _ _ _ _ _ _ _ _ _ _ _ _ _ _ _ _ _ _ _ _ _ _ _ _ _ _ _ _ _ _ _ _ _ _ _ _ _ _ _ _ _ _ _ _ _
          assumption
  ·have d1 : decide (k ≤ 10) = false := decide_eq_false hk2
   subst hwa
   subst hb1
   clear n1 n2
   (try dsimp only); repeat' (first | go_values | go_skip | go_guarded | go_step | go_upon | go_back)
   refine wp_region_G (SC5 w.heap.size v o cm la mc) [33] (by kernel_rfl) (HSC.out _ HD.out) (fun hS => ?_)
   try dsimp only at hS
   refine wpAnyG_tk (i := 0) (v := ?v0_1k2) rfl (Or.inl ⟨by rfl, ?a_⟩) (HSC.out _ HD.out) ?b_
   case a_ => intro w hSw; (try dsimp only at hSw); go_simp; (try with_reducible rfl)
   case b_ =>
   try simp only [nz0, nz1, nz2, Act.put, nz3, nz4, nz5]
   refine wpAnyG_tk (i := 1) (v := ?v1_2k2) rfl (Or.inl ⟨by rfl, ?a_⟩) (HSC.out _ HD.out) ?b_
   case a_ => intro w hSw; (try dsimp only at hSw); go_simp; (try with_reducible rfl)
   case b_ =>
   try simp only [nz0, nz1, nz2, Act.put, nz3, nz4, nz5]
   refine wpAnyG_take' (i := 2) (v := undef) rfl (by kernel_rfl) (by kernel_rfl) (by kernel_rfl) (by kernel_rfl) (fun _ _ _ h => h) (Or.inr ⟨by rfl, rfl⟩) (HSC.out _ HD.out) ?rest2_3k2
   case rest2_3k2 =>
   try simp only [nz0, nz1, nz2, Act.put, nz3, nz4, nz5]
   refine wpAnyG_take' (i := 3) (v := undef) rfl (by kernel_rfl) (by kernel_rfl) (by kernel_rfl) (by kernel_rfl) (fun _ _ _ h => h) (Or.inr ⟨by rfl, rfl⟩) (HSC.out _ HD.out) ?rest3_4k2
   case rest3_4k2 =>
   try simp only [nz0, nz1, nz2, Act.put, nz3, nz4, nz5]
   refine wpAnyG_take' (i := 4) (v := undef) rfl (by kernel_rfl) (by kernel_rfl) (by kernel_rfl) (by kernel_rfl) (fun _ _ _ h => h) (Or.inr ⟨by rfl, rfl⟩) (HSC.out _ HD.out) ?rest4_5k2
   case rest4_5k2 =>
   try simp only [nz0, nz1, nz2, Act.put, nz3, nz4, nz5]
   refine wpAnyG_take' (i := 5) (v := undef) rfl (by kernel_rfl) (by kernel_rfl) (by kernel_rfl) (by kernel_rfl) (fun _ _ _ h => h) (Or.inr ⟨by rfl, rfl⟩) (HSC.out _ HD.out) ?rest5_6k2
   case rest5_6k2 =>
   try simp only [nz0, nz1, nz2, Act.put, nz3, nz4, nz5]
   refine wpAnyG_take' (i := 6) (v := undef) rfl (by kernel_rfl) (by kernel_rfl) (by kernel_rfl) (by kernel_rfl) (fun _ _ _ h => h) (Or.inr ⟨by rfl, rfl⟩) (HSC.out _ HD.out) ?rest6_7k2
   case rest6_7k2 =>
   try simp only [nz0, nz1, nz2, Act.put, nz3, nz4, nz5]
   refine wpAnyG_tk (i := 7) (v := ?v7_8k2) rfl (Or.inl ⟨by rfl, ?a_⟩) (HSC.out _ HD.out) ?b_
   case a_ => intro w hSw; (try dsimp only at hSw); go_simp; (try with_reducible rfl)
   case b_ =>
   try simp only [nz0, nz1, nz2, Act.put, nz3, nz4, nz5]
   refine wpAnyG_tk (i := 8) (v := ?v8_9k2) rfl (Or.inl ⟨by rfl, ?a_⟩) (HSC.out _ HD.out) ?b_
   case a_ => intro w hSw; (try dsimp only at hSw); go_simp; (try with_reducible rfl)
   case b_ =>
   try simp only [nz0, nz1, nz2, Act.put, nz3, nz4, nz5]
   refine wpAnyG_take' (i := 9) (v := undef) rfl (by kernel_rfl) (by kernel_rfl) (by kernel_rfl) (by kernel_rfl) (fun _ _ _ h => h) (Or.inr ⟨by rfl, rfl⟩) (HSC.out _ HD.out) ?rest9_10k2
   case rest9_10k2 =>
   try simp only [nz0, nz1, nz2, Act.put, nz3, nz4, nz5]
   refine wpAnyG_take' (i := 10) (v := undef) rfl (by kernel_rfl) (by kernel_rfl) (by kernel_rfl) (by kernel_rfl) (fun _ _ _ h => h) (Or.inr ⟨by rfl, rfl⟩) (HSC.out _ HD.out) ?rest10_11k2
   case rest10_11k2 =>
   try simp only [nz0, nz1, nz2, Act.put, nz3, nz4, nz5]
   refine wpAnyG_take' (i := 11) (v := undef) rfl (by kernel_rfl) (by kernel_rfl) (by kernel_rfl) (by kernel_rfl) (fun _ _ _ h => h) (Or.inr ⟨by rfl, rfl⟩) (HSC.out _ HD.out) ?rest11_12k2
   case rest11_12k2 =>
   try simp only [nz0, nz1, nz2, Act.put, nz3, nz4, nz5]
   refine wpAnyG_take' (i := 12) (v := undef) rfl (by kernel_rfl) (by kernel_rfl) (by kernel_rfl) (by kernel_rfl) (fun _ _ _ h => h) (Or.inr ⟨by rfl, rfl⟩) (HSC.out _ HD.out) ?rest12_13k2
   case rest12_13k2 =>
   try simp only [nz0, nz1, nz2, Act.put, nz3, nz4, nz5]
   refine wpAnyG_take' (i := 13) (v := undef) rfl (by kernel_rfl) (by kernel_rfl) (by kernel_rfl) (by kernel_rfl) (fun _ _ _ h => h) (Or.inr ⟨by rfl, rfl⟩) (HSC.out _ HD.out) ?rest13_14k2
   case rest13_14k2 =>
   try simp only [nz0, nz1, nz2, Act.put, nz3, nz4, nz5]
   refine wpAnyG_tk (i := 14) (v := ?v14_15k2) rfl (Or.inl ⟨by rfl, ?a_⟩) (HSC.out _ HD.out) ?b_
   case a_ => intro w hSw; (try dsimp only at hSw); go_simp; (try with_reducible rfl)
   case b_ =>
   try simp only [nz0, nz1, nz2, Act.put, nz3, nz4, nz5]
   refine wpAnyG_tk (i := 15) (v := ?v15_16k2) rfl (Or.inl ⟨by rfl, ?a_⟩) (HSC.out _ HD.out) ?b_
   case a_ => intro w hSw; (try dsimp only at hSw); go_simp; (try with_reducible rfl)
   case b_ =>
   try simp only [nz0, nz1, nz2, Act.put, nz3, nz4, nz5]
   refine wpAnyG_take' (i := 16) (v := undef) rfl (by kernel_rfl) (by kernel_rfl) (by kernel_rfl) (by kernel_rfl) (fun _ _ _ h => h) (Or.inr ⟨by rfl, rfl⟩) (HSC.out _ HD.out) ?rest16_17k2
   case rest16_17k2 =>
   try simp only [nz0, nz1, nz2, Act.put, nz3, nz4, nz5]
   refine wpAnyG_take' (i := 17) (v := undef) rfl (by kernel_rfl) (by kernel_rfl) (by kernel_rfl) (by kernel_rfl) (fun _ _ _ h => h) (Or.inr ⟨by rfl, rfl⟩) (HSC.out _ HD.out) ?rest17_18k2
   case rest17_18k2 =>
   try simp only [nz0, nz1, nz2, Act.put, nz3, nz4, nz5]
   refine wpAnyG_take' (i := 18) (v := undef) rfl (by kernel_rfl) (by kernel_rfl) (by kernel_rfl) (by kernel_rfl) (fun _ _ _ h => h) (Or.inr ⟨by rfl, rfl⟩) (HSC.out _ HD.out) ?rest18_19k2
   case rest18_19k2 =>
   try simp only [nz0, nz1, nz2, Act.put, nz3, nz4, nz5]
   refine wpAnyG_take' (i := 19) (v := undef) rfl (by kernel_rfl) (by kernel_rfl) (by kernel_rfl) (by kernel_rfl) (fun _ _ _ h => h) (Or.inr ⟨by rfl, rfl⟩) (HSC.out _ HD.out) ?rest19_20k2
   case rest19_20k2 =>
   try simp only [nz0, nz1, nz2, Act.put, nz3, nz4, nz5]
   refine wpAnyG_take' (i := 20) (v := undef) rfl (by kernel_rfl) (by kernel_rfl) (by kernel_rfl) (by kernel_rfl) (fun _ _ _ h => h) (Or.inr ⟨by rfl, rfl⟩) (HSC.out _ HD.out) ?rest20_21k2
   case rest20_21k2 =>
   try simp only [nz0, nz1, nz2, Act.put, nz3, nz4, nz5]
   refine wpAnyG_tk (i := 21) (v := ?v21_22k2) rfl (Or.inl ⟨by rfl, ?a_⟩) (HSC.out _ HD.out) ?b_
   case a_ => intro w hSw; (try dsimp only at hSw); go_simp; (try with_reducible rfl)
   case b_ =>
   try simp only [nz0, nz1, nz2, Act.put, nz3, nz4, nz5]
   refine wpAnyG_tk (i := 22) (v := ?v22_23k2) rfl (Or.inl ⟨by rfl, ?a_⟩) (HSC.out _ HD.out) ?b_
   case a_ => intro w hSw; (try dsimp only at hSw); go_simp; (try with_reducible rfl)
   case b_ =>
   try simp only [nz0, nz1, nz2, Act.put, nz3, nz4, nz5]
   refine wpAnyG_take' (i := 23) (v := undef) rfl (by kernel_rfl) (by kernel_rfl) (by kernel_rfl) (by kernel_rfl) (fun _ _ _ h => h) (Or.inr ⟨by rfl, rfl⟩) (HSC.out _ HD.out) ?rest23_24k2
   case rest23_24k2 =>
   try simp only [nz0, nz1, nz2, Act.put, nz3, nz4, nz5]
   refine wpAnyG_take' (i := 24) (v := undef) rfl (by kernel_rfl) (by kernel_rfl) (by kernel_rfl) (by kernel_rfl) (fun _ _ _ h => h) (Or.inr ⟨by rfl, rfl⟩) (HSC.out _ HD.out) ?rest24_25k2
   case rest24_25k2 =>
   try simp only [nz0, nz1, nz2, Act.put, nz3, nz4, nz5]
   refine wpAnyG_take' (i := 25) (v := undef) rfl (by kernel_rfl) (by kernel_rfl) (by kernel_rfl) (by kernel_rfl) (fun _ _ _ h => h) (Or.inr ⟨by rfl, rfl⟩) (HSC.out _ HD.out) ?rest25_26k2
   case rest25_26k2 =>
   try simp only [nz0, nz1, nz2, Act.put, nz3, nz4, nz5]
   refine wpAnyG_take' (i := 26) (v := undef) rfl (by kernel_rfl) (by kernel_rfl) (by kernel_rfl) (by kernel_rfl) (fun _ _ _ h => h) (Or.inr ⟨by rfl, rfl⟩) (HSC.out _ HD.out) ?rest26_27k2
   case rest26_27k2 =>
   try simp only [nz0, nz1, nz2, Act.put, nz3, nz4, nz5]
   refine wpAnyG_take' (i := 27) (v := undef) rfl (by kernel_rfl) (by kernel_rfl) (by kernel_rfl) (by kernel_rfl) (fun _ _ _ h => h) (Or.inr ⟨by rfl, rfl⟩) (HSC.out _ HD.out) ?rest27_28k2
   case rest27_28k2 =>
   try simp only [nz0, nz1, nz2, Act.put, nz3, nz4, nz5]
   refine wpAnyG_tk (i := 28) (v := ?v28_29k2) rfl (Or.inl ⟨by rfl, ?a_⟩) (HSC.out _ HD.out) ?b_
   case a_ => intro w hSw; (try dsimp only at hSw); go_simp; (try with_reducible rfl)
   case b_ =>
   try simp only [nz0, nz1, nz2, Act.put, nz3, nz4, nz5]
   refine wpAnyG_tk (i := 29) (v := ?v29_30k2) rfl (Or.inl ⟨by rfl, ?a_⟩) (HSC.out _ HD.out) ?b_
   case a_ => intro w hSw; (try dsimp only at hSw); go_simp; (try with_reducible rfl)
   case b_ =>
   try simp only [nz0, nz1, nz2, Act.put, nz3, nz4, nz5]
   refine wpAnyG_take' (i := 30) (v := undef) rfl (by kernel_rfl) (by kernel_rfl) (by kernel_rfl) (by kernel_rfl) (fun _ _ _ h => h) (Or.inr ⟨by rfl, rfl⟩) (HSC.out _ HD.out) ?rest30_31k2
   case rest30_31k2 =>
   try simp only [nz0, nz1, nz2, Act.put, nz3, nz4, nz5]
   refine wpAnyG_take' (i := 31) (v := undef) rfl (by kernel_rfl) (by kernel_rfl) (by kernel_rfl) (by kernel_rfl) (fun _ _ _ h => h) (Or.inr ⟨by rfl, rfl⟩) (HSC.out _ HD.out) ?rest31_32k2
   case rest31_32k2 =>
   try simp only [nz0, nz1, nz2, Act.put, nz3, nz4, nz5]
   refine wpAnyG_tk (i := 32) (v := ?v32_33k2) rfl (Or.inl ⟨by rfl, ?a_⟩) (HSC.out _ HD.out) ?b_
   case a_ => intro w hSw; (try dsimp only at hSw); go_simp; (try with_reducible rfl)
   case b_ =>
   try simp only [nz0, nz1, nz2, Act.put, nz3, nz4, nz5]
   refine wpAnyG_one (i := 33) (by kernel_rfl) rfl (fun K hK => ?_)
   go_simp
   refine hK.out _ _ (fun hno => by cases hno) ?_
   clear K hK
   try simp only [nz0, nz1, nz2, Act.put, nz3, nz4, nz5]
   refine wpAnyG_done (by kernel_rfl) ?_ _
   try simp only [nz0, nz1, nz2, Act.put, nz3, nz4, nz5]
   refine rcktail false zB R hs HD hz (Lib.hid (by rw [HR.out]; rw [d0, d1]; rfl)) ?_ _ _ _ _ _ _ _ _ _ _ _ _ _ _ _ _ _ _ _ _ _ _ _ _ _ _ _ _ _ _ _ _ _ _ _ _ _ _ _ _ _ _ _ _ _ _ _ _ _ _ _ _ _ _ _ _ _ _ _ _ _ _ _ _ _ _ _ _ _ _ _ _ _ _ _ _ _ _ _ _ _ _ _ _ _ _ _ _ _ _
   assumption
 ·have d0 : decide (1 ≤ k) = false := decide_eq_false hk1
  subst hwa
  subst hb1
  clear n1 n2
  (try dsimp only); repeat' (first | go_values | go_skip | go_guarded | go_step | go_upon | go_back)
  refine wp_region_G (SC5 w.heap.size v o cm la mc) [33] (by kernel_rfl) (HSC.out _ HD.out) (fun hS => ?_)
  try dsimp only at hS
  refine wpAnyG_tk (i := 0) (v := ?v0_1k1) rfl (Or.inl ⟨by rfl, ?a_⟩) (HSC.out _ HD.out) ?b_
  case a_ => intro w hSw; (try dsimp only at hSw); go_simp; (try with_reducible rfl)
  case b_ =>
  try simp only [nz0, nz1, nz2, Act.put, nz3, nz4, nz5]
  refine wpAnyG_tk (i := 1) (v := ?v1_2k1) rfl (Or.inl ⟨by rfl, ?a_⟩) (HSC.out _ HD.out) ?b_
  case a_ => intro w hSw; (try dsimp only at hSw); go_simp; (try with_reducible rfl)
  case b_ =>
  try simp only [nz0, nz1, nz2, Act.put, nz3, nz4, nz5]
  refine wpAnyG_take' (i := 2) (v := undef) rfl (by kernel_rfl) (by kernel_rfl) (by kernel_rfl) (by kernel_rfl) (fun _ _ _ h => h) (Or.inr ⟨by rfl, rfl⟩) (HSC.out _ HD.out) ?rest2_3k1
  case rest2_3k1 =>
  try simp only [nz0, nz1, nz2, Act.put, nz3, nz4, nz5]
  refine wpAnyG_take' (i := 3) (v := undef) rfl (by kernel_rfl) (by kernel_rfl) (by kernel_rfl) (by kernel_rfl) (fun _ _ _ h => h) (Or.inr ⟨by rfl, rfl⟩) (HSC.out _ HD.out) ?rest3_4k1
  case rest3_4k1 =>
  try simp only [nz0, nz1, nz2, Act.put, nz3, nz4, nz5]
  refine wpAnyG_take' (i := 4) (v := undef) rfl (by kernel_rfl) (by kernel_rfl) (by kernel_rfl) (by kernel_rfl) (fun _ _ _ h => h) (Or.inr ⟨by rfl, rfl⟩) (HSC.out _ HD.out) ?rest4_5k1
  case rest4_5k1 =>
  try simp only [nz0, nz1, nz2, Act.put, nz3, nz4, nz5]
  refine wpAnyG_take' (i := 5) (v := undef) rfl (by kernel_rfl) (by kernel_rfl) (by kernel_rfl) (by kernel_rfl) (fun _ _ _ h => h) (Or.inr ⟨by rfl, rfl⟩) (HSC.out _ HD.out) ?rest5_6k1
  case rest5_6k1 =>
  try simp only [nz0, nz1, nz2, Act.put, nz3, nz4, nz5]
  refine wpAnyG_take' (i := 6) (v := undef) rfl (by kernel_rfl) (by kernel_rfl) (by kernel_rfl) (by kernel_rfl) (fun _ _ _ h => h) (Or.inr ⟨by rfl, rfl⟩) (HSC.out _ HD.out) ?rest6_7k1
  case rest6_7k1 =>
  try simp only [nz0, nz1, nz2, Act.put, nz3, nz4, nz5]
  refine wpAnyG_tk (i := 7) (v := ?v7_8k1) rfl (Or.inl ⟨by rfl, ?a_⟩) (HSC.out _ HD.out) ?b_
  case a_ => intro w hSw; (try dsimp only at hSw); go_simp; (try with_reducible rfl)
  case b_ =>
  try simp only [nz0, nz1, nz2, Act.put, nz3, nz4, nz5]
  refine wpAnyG_tk (i := 8) (v := ?v8_9k1) rfl (Or.inl ⟨by rfl, ?a_⟩) (HSC.out _ HD.out) ?b_
  case a_ => intro w hSw; (try dsimp only at hSw); go_simp; (try with_reducible rfl)
  case b_ =>
  try simp only [nz0, nz1, nz2, Act.put, nz3, nz4, nz5]
  refine wpAnyG_take' (i := 9) (v := undef) rfl (by kernel_rfl) (by kernel_rfl) (by kernel_rfl) (by kernel_rfl) (fun _ _ _ h => h) (Or.inr ⟨by rfl, rfl⟩) (HSC.out _ HD.out) ?rest9_10k1
  case rest9_10k1 =>
  try simp only [nz0, nz1, nz2, Act.put, nz3, nz4, nz5]
  refine wpAnyG_take' (i := 10) (v := undef) rfl (by kernel_rfl) (by kernel_rfl) (by kernel_rfl) (by kernel_rfl) (fun _ _ _ h => h) (Or.inr ⟨by rfl, rfl⟩) (HSC.out _ HD.out) ?rest10_11k1
  case rest10_11k1 =>
  try simp only [nz0, nz1, nz2, Act.put, nz3, nz4, nz5]
  refine wpAnyG_take' (i := 11) (v := undef) rfl (by kernel_rfl) (by kernel_rfl) (by kernel_rfl) (by kernel_rfl) (fun _ _ _ h => h) (Or.inr ⟨by rfl, rfl⟩) (HSC.out _ HD.out) ?rest11_12k1
  case rest11_12k1 =>
  try simp only [nz0, nz1, nz2, Act.put, nz3, nz4, nz5]
  refine wpAnyG_take' (i := 12) (v := undef) rfl (by kernel_rfl) (by kernel_rfl) (by kernel_rfl) (by kernel_rfl) (fun _ _ _ h => h) (Or.inr ⟨by rfl, rfl⟩) (HSC.out _ HD.out) ?rest12_13k1
  case rest12_13k1 =>
  try simp only [nz0, nz1, nz2, Act.put, nz3, nz4, nz5]
  refine wpAnyG_take' (i := 13) (v := undef) rfl (by kernel_rfl) (by kernel_rfl) (by kernel_rfl) (by kernel_rfl) (fun _ _ _ h => h) (Or.inr ⟨by rfl, rfl⟩) (HSC.out _ HD.out) ?rest13_14k1
  case rest13_14k1 =>
  try simp only [nz0, nz1, nz2, Act.put, nz3, nz4, nz5]
  refine wpAnyG_tk (i := 14) (v := ?v14_15k1) rfl (Or.inl ⟨by rfl, ?a_⟩) (HSC.out _ HD.out) ?b_
  case a_ => intro w hSw; (try dsimp only at hSw); go_simp; (try with_reducible rfl)
  case b_ =>
  try simp only [nz0, nz1, nz2, Act.put, nz3, nz4, nz5]
  refine wpAnyG_tk (i := 15) (v := ?v15_16k1) rfl (Or.inl ⟨by rfl, ?a_⟩) (HSC.out _ HD.out) ?b_
  case a_ => intro w hSw; (try dsimp only at hSw); go_simp; (try with_reducible rfl)
  case b_ =>
  try simp only [nz0, nz1, nz2, Act.put, nz3, nz4, nz5]
  refine wpAnyG_take' (i := 16) (v := undef) rfl (by kernel_rfl) (by kernel_rfl) (by kernel_rfl) (by kernel_rfl) (fun _ _ _ h => h) (Or.inr ⟨by rfl, rfl⟩) (HSC.out _ HD.out) ?rest16_17k1
  case rest16_17k1 =>
  try simp only [nz0, nz1, nz2, Act.put, nz3, nz4, nz5]
  refine wpAnyG_take' (i := 17) (v := undef) rfl (by kernel_rfl) (by kernel_rfl) (by kernel_rfl) (by kernel_rfl) (fun _ _ _ h => h) (Or.inr ⟨by rfl, rfl⟩) (HSC.out _ HD.out) ?rest17_18k1
  case rest17_18k1 =>
  try simp only [nz0, nz1, nz2, Act.put, nz3, nz4, nz5]
  refine wpAnyG_take' (i := 18) (v := undef) rfl (by kernel_rfl) (by kernel_rfl) (by kernel_rfl) (by kernel_rfl) (fun _ _ _ h => h) (Or.inr ⟨by rfl, rfl⟩) (HSC.out _ HD.out) ?rest18_19k1
  case rest18_19k1 =>
  try simp only [nz0, nz1, nz2, Act.put, nz3, nz4, nz5]
  refine wpAnyG_take' (i := 19) (v := undef) rfl (by kernel_rfl) (by kernel_rfl) (by kernel_rfl) (by kernel_rfl) (fun _ _ _ h => h) (Or.inr ⟨by rfl, rfl⟩) (HSC.out _ HD.out) ?rest19_20k1
  case rest19_20k1 =>
  try simp only [nz0, nz1, nz2, Act.put, nz3, nz4, nz5]
  refine wpAnyG_take' (i := 20) (v := undef) rfl (by kernel_rfl) (by kernel_rfl) (by kernel_rfl) (by kernel_rfl) (fun _ _ _ h => h) (Or.inr ⟨by rfl, rfl⟩) (HSC.out _ HD.out) ?rest20_21k1
  case rest20_21k1 =>
  try simp only [nz0, nz1, nz2, Act.put, nz3, nz4, nz5]
  refine wpAnyG_tk (i := 21) (v := ?v21_22k1) rfl (Or.inl ⟨by rfl, ?a_⟩) (HSC.out _ HD.out) ?b_
  case a_ => intro w hSw; (try dsimp only at hSw); go_simp; (try with_reducible rfl)
  case b_ =>
  try simp only [nz0, nz1, nz2, Act.put, nz3, nz4, nz5]
  refine wpAnyG_tk (i := 22) (v := ?v22_23k1) rfl (Or.inl ⟨by rfl, ?a_⟩) (HSC.out _ HD.out) ?b_
  case a_ => intro w hSw; (try dsimp only at hSw); go_simp; (try with_reducible rfl)
  case b_ =>
  try simp only [nz0, nz1, nz2, Act.put, nz3, nz4, nz5]
  refine wpAnyG_take' (i := 23) (v := undef) rfl (by kernel_rfl) (by kernel_rfl) (by kernel_rfl) (by kernel_rfl) (fun _ _ _ h => h) (Or.inr ⟨by rfl, rfl⟩) (HSC.out _ HD.out) ?rest23_24k1
  case rest23_24k1 =>
  try simp only [nz0, nz1, nz2, Act.put, nz3, nz4, nz5]
  refine wpAnyG_take' (i := 24) (v := undef) rfl (by kernel_rfl) (by kernel_rfl) (by kernel_rfl) (by kernel_rfl) (fun _ _ _ h => h) (Or.inr ⟨by rfl, rfl⟩) (HSC.out _ HD.out) ?rest24_25k1
  case rest24_25k1 =>
  try simp only [nz0, nz1, nz2, Act.put, nz3, nz4, nz5]
  refine wpAnyG_take' (i := 25) (v := undef) rfl (by kernel_rfl) (by kernel_rfl) (by kernel_rfl) (by kernel_rfl) (fun _ _ _ h => h) (Or.inr ⟨by rfl, rfl⟩) (HSC.out _ HD.out) ?rest25_26k1
  case rest25_26k1 =>
  try simp only [nz0, nz1, nz2, Act.put, nz3, nz4, nz5]
  refine wpAnyG_take' (i := 26) (v := undef) rfl (by kernel_rfl) (by kernel_rfl) (by kernel_rfl) (by kernel_rfl) (fun _ _ _ h => h) (Or.inr ⟨by rfl, rfl⟩) (HSC.out _ HD.out) ?rest26_27k1
  case rest26_27k1 =>
  try simp only [nz0, nz1, nz2, Act.put, nz3, nz4, nz5]
  refine wpAnyG_take' (i := 27) (v := undef) rfl (by kernel_rfl) (by kernel_rfl) (by kernel_rfl) (by kernel_rfl) (fun _ _ _ h => h) (Or.inr ⟨by rfl, rfl⟩) (HSC.out _ HD.out) ?rest27_28k1
  case rest27_28k1 =>
  try simp only [nz0, nz1, nz2, Act.put, nz3, nz4, nz5]
  refine wpAnyG_tk (i := 28) (v := ?v28_29k1) rfl (Or.inl ⟨by rfl, ?a_⟩) (HSC.out _ HD.out) ?b_
  case a_ => intro w hSw; (try dsimp only at hSw); go_simp; (try with_reducible rfl)
  case b_ =>
  try simp only [nz0, nz1, nz2, Act.put, nz3, nz4, nz5]
  refine wpAnyG_tk (i := 29) (v := ?v29_30k1) rfl (Or.inl ⟨by rfl, ?a_⟩) (HSC.out _ HD.out) ?b_
  case a_ => intro w hSw; (try dsimp only at hSw); go_simp; (try with_reducible rfl)
  case b_ =>
  try simp only [nz0, nz1, nz2, Act.put, nz3, nz4, nz5]
  refine wpAnyG_take' (i := 30) (v := undef) rfl (by kernel_rfl) (by kernel_rfl) (by kernel_rfl) (by kernel_rfl) (fun _ _ _ h => h) (Or.inr ⟨by rfl, rfl⟩) (HSC.out _ HD.out) ?rest30_31k1
  case rest30_31k1 =>
  try simp only [nz0, nz1, nz2, Act.put, nz3, nz4, nz5]
  refine wpAnyG_take' (i := 31) (v := undef) rfl (by kernel_rfl) (by kernel_rfl) (by kernel_rfl) (by kernel_rfl) (fun _ _ _ h => h) (Or.inr ⟨by rfl, rfl⟩) (HSC.out _ HD.out) ?rest31_32k1
  case rest31_32k1 =>
  try simp only [nz0, nz1, nz2, Act.put, nz3, nz4, nz5]
  refine wpAnyG_tk (i := 32) (v := ?v32_33k1) rfl (Or.inl ⟨by rfl, ?a_⟩) (HSC.out _ HD.out) ?b_
  case a_ => intro w hSw; (try dsimp only at hSw); go_simp; (try with_reducible rfl)
  case b_ =>
  try simp only [nz0, nz1, nz2, Act.put, nz3, nz4, nz5]
  refine wpAnyG_one (i := 33) (by kernel_rfl) rfl (fun K hK => ?_)
  go_simp
  refine hK.out _ _ (fun hno => by cases hno) ?_
  clear K hK
  try simp only [nz0, nz1, nz2, Act.put, nz3, nz4, nz5]
  refine wpAnyG_done (by kernel_rfl) ?_ _
  try simp only [nz0, nz1, nz2, Act.put, nz3, nz4, nz5]
  refine rcktail false zB R hs HD hz (Lib.hid (by rw [HR.out]; rw [d0]; rfl)) ?_ _ _ _ _ _ _ _ _ _ _ _ _ _ _ _ _ _ _ _ _ _ _ _ _ _ _ _ _ _ _ _ _ _ _ _ _ _ _ _ _ _ _ _ _ _ _ _ _ _ _ _ _ _ _ _ _ _ _ _ _ _ _ _ _ _ _ _ _ _ _ _ _ _ _ _ _ _ _ _ _ _ _ _ _ _ _ _ _ _ _
  assumption
end Go.Proofs.YtcnbmeiielkigaaGreatDoor
