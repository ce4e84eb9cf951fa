/- Package choose: offers as things; isNone, New, Len, View, Enough. -/
import Derived.Test.YthgndegjiodopaaDoorCho2
namespace Go.Proofs.YthgndegjiodopaaDoor
open Go.RowKit
set_option linter.unusedVariables false
set_option linter.unusedSimpArgs false
theorem iq0 : IQ 0 := by decide
def rk (n i : Int) : Rk := if h : IQ n ∧ IQ i then ⟨(n, i), h⟩ else ⟨(0, 0), iq0, iq0⟩
theorem rk_eq {n i : Int} (hn : IQ n) (hi : IQ i) : rk n i = ⟨(n, i), hn, hi⟩ := dif_pos ⟨hn, hi⟩
theorem rkV_rk {n i : Int} (hn : IQ n) (hi : IQ i) : rkV (rk n i) = .agg #[.int .i64 n, .int .i64 i] := by rw [rk_eq hn hi]; rfl
theorem rk_inj {n i j : Int} (hn : IQ n) (hi : IQ i) (hj : IQ j) : rk n i = rk n j ↔ i = j := by
  rw [rk_eq hn hi, rk_eq hn hj]
  constructor
  · intro h
    have := congrArg (fun x : Rk => x.1.2) h
    exact this
  · rintro rfl; rfl
def offS (n : Int) (xs : List OvM) : List (Rk × OvM) := xs.map fun x => (rk n x.fr, x)
def getO (xs : List OvM) (i : Int) : Option OvM := xs.find? fun x => decide (x.fr = i)
def FrQ (xs : List OvM) : Prop := ∀ x ∈ xs, IQ x.fr
theorem mget_off {n i : Int} (hn : IQ n) (hi : IQ i) : ∀ {xs : List OvM}, FrQ xs → mget (offS n xs) (rk n i) = getO xs i
  | [], _ => rfl
  | x :: xs, h => by
    have ih := mget_off hn hi (xs := xs) fun y hy => h y (List.mem_cons_of_mem _ hy)
    have hx := h x (List.mem_cons_self ..)
    unfold mget offS getO at *
    rw [List.map_cons, List.find?_cons, List.find?_cons]
    by_cases e : x.fr = i
    · rw [show decide (rk n x.fr = rk n i) = true from decide_eq_true ((rk_inj hn hx hi).2 e), show decide (x.fr = i) = true from decide_eq_true e]; rfl
    · rw [show decide (rk n x.fr = rk n i) = false from decide_eq_false (fun h => e ((rk_inj hn hx hi).1 h)), show decide (x.fr = i) = false from decide_eq_false e]
      exact ih
abbrev enP (x : OvM) : Thing := EnT x.v x.ps
abbrev OcT (g b : Nat) (n view : Int) : Thing := Cl g #[.int .i64 n, .int .i64 view, .map (some b)] 61
/-- Offers. -/
def OffT (g b : Nat) (n view : Int) (xs : List OvM) : Thing := Grp (OcT g b n view :: OvT b (offS n xs) :: xs.map enP)
theorem loc_off (g b : Nat) (n view : Int) (xs : List OvM) : ∀ A ∈ OcT g b n view :: OvT b (offS n xs) :: xs.map enP, Loc A := by
  intro A hA
  rcases List.mem_cons.1 hA with rfl | hA
  · exact loc_blk _ _
  rcases List.mem_cons.1 hA with rfl | hA
  · exact loc_map _ _
  obtain ⟨x, -, rfl⟩ := List.mem_map.1 hA
  exact loc_enT _ _
theorem Sep.offOpen {w0 w : World} {g b : Nat} {n view : Int} {xs : List OvM} {L : List Thing} (h : Sep w0 (OffT g b n view xs :: L) w) : Sep w0 (OcT g b n view :: OvT b (offS n xs) :: (xs.map enP ++ L)) w := h.open_ (loc_off g b n view xs)
theorem Sep.offClose {w0 w : World} {g b : Nat} {n view : Int} {xs : List OvM} {L : List Thing} (h : Sep w0 (OcT g b n view :: OvT b (offS n xs) :: (xs.map enP ++ L)) w) : Sep w0 (OffT g b n view xs :: L) w := Sep.close (M := OcT g b n view :: OvT b (offS n xs) :: xs.map enP) h
theorem Sep.offEn {w0 w : World} {g b : Nat} {n view : Int} {xs : List OvM} {L : List Thing} (h : Sep w0 (OffT g b n view xs :: L) w) {x : OvM} (hx : x ∈ xs) : EnS w x.v x.ps := by
  obtain ⟨M, hM⟩ := h.offOpen.memT (A := enP x) (List.mem_cons_of_mem _ (List.mem_cons_of_mem _ (List.mem_append_left _ (List.mem_map_of_mem hx))))
  exact hM.enS
theorem onone_any {w0 w : World} {g b : Nat} {n view : Int} {L : List Thing} (h : Sep w0 (OcT g b n view :: L) w) :
    Calls Tryd.prog 22 #[.pointer (some ⟨g, 0, none⟩)] w fun e w' => e = .returned (.bool false) ∧ w = w' := by
  have c0 := h.cell (o := 2) (x := .map (some b)) rfl
  have hq := run_eql_map_nil w Tryd.underlying59 b
  clear h
  go_enter Tryd.func22, Tryd.ntmps22
  go_wp2
  go_ret
  exact ⟨rfl, rfl⟩
set_option maxRecDepth 100000 in
theorem onew_ok {w0 w : World} {L : List Thing} (n view : Int) (hs : Sep w0 L w) (hn : IQ n) (h : enough n ≠ 0) (h1 : 1 ≤ view) (h2 : view ≤ 9007199254740991) :
    Calls Tryd.prog 18 #[.int .i64 n, .int .i64 view] w fun e w' => ∃ g b, e = .returned (.tuple #[.pointer (some ⟨g, 0, none⟩), .int .i64 0]) ∧ Sep w0 (OffT g b n view [] :: L) w' := by
  have he := enough_any n w hn
  have hz : (enough n == 0) = false := beq_eq_false_iff_ne.2 h
  have HE := Lib.hid he
  have h3 := (hs.newMap (kv := rkV) (vv := ovV)).alloc (.cells #[.int .i64 n, .int .i64 view, .map (some w.heap.size)] 61)
  rw [show (w.alloc (.map #[] 0)).heap.size = w.heap.size + 1 by simp] at h3
  have H1 := Lib.hid (Sep.offClose (xs := []) h3)
  have d1 : decide (view < 1) = false := decide_eq_false (by omega)
  have d2 : decide ((9007199254740991 : Int) < view) = false := decide_eq_false (by omega)
  have hmm := @run_makeMap Tryd.prog
  clear he h hn h3 hs h1 h2
  go_enter Tryd.func18, Tryd.ntmps18
  go_wp2_with fail
  refine HE.out.mono ?_
  rintro r0 w1 ⟨rfl, rfl⟩
  go_wp2_with fail
  go_ret2
  exact ⟨_, _, rfl, H1.out⟩
theorem olen_any {w0 w : World} {g b : Nat} {n view : Int} {S : List (Rk × OvM)} {L : List Thing} (h : Sep w0 (OcT g b n view :: OvT b S :: L) w) :
    Calls Tryd.prog 20 #[.pointer (some ⟨g, 0, none⟩)] w fun e w' => e = .returned (.int .i64 (S.length : Nat)) ∧ w = w' := by
  have HN := Lib.hid (onone_any h)
  have c2 := h.cell (o := 2) (x := .map (some b)) rfl
  have HL := fun ty => map_len (P := Tryd.prog) (t := 59) Tryd.underlying59 h.sw2 ty
  clear h
  go_enter Tryd.func20, Tryd.ntmps20
  (try dsimp only); repeat' (first | go_values | go_skip | go_guarded | go_step | go_upon | go_back)
  refine HN.out.mono ?_
  rintro r0 w1 ⟨rfl, rfl⟩
  clear HN
  (try dsimp only); repeat' (first | go_values | go_skip | go_guarded | go_step | go_upon | go_back)
  first | (rw [HL]; (try dsimp only); repeat' (first | go_values | go_skip | go_guarded | go_step | go_upon | go_back)) | skip
  go_ret
  exact ⟨rfl, rfl⟩
theorem oview_any {w0 w : World} {g b : Nat} {n view : Int} {L : List Thing} (h : Sep w0 (OcT g b n view :: L) w) :
    Calls Tryd.prog 21 #[.pointer (some ⟨g, 0, none⟩)] w fun e w' => e = .returned (.int .i64 view) ∧ w = w' := by
  have HN := Lib.hid (onone_any h)
  have c2 := h.cell (o := 1) (x := .int .i64 view) rfl
  clear h
  go_enter Tryd.func21, Tryd.ntmps21
  (try dsimp only); repeat' (first | go_values | go_skip | go_guarded | go_step | go_upon | go_back)
  refine HN.out.mono ?_
  rintro r0 w1 ⟨rfl, rfl⟩
  clear HN
  (try dsimp only); repeat' (first | go_values | go_skip | go_guarded | go_step | go_upon | go_back)
  go_ret
  exact ⟨rfl, rfl⟩
end Go.Proofs.YthgndegjiodopaaDoor
