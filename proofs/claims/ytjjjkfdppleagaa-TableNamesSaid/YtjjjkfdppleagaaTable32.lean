/- Package table: what a table that is none answers. -/
import Derived.Test.YtjjjkfdppleagaaTable30
namespace Go.Proofs.Ytjjjkfdppleagaa
open Go Go.RowKit Go.Shelf
set_option linter.unusedVariables false
set_option linter.unusedSimpArgs false
attribute [local go_sem] Oper.semAt_some
/-- p is none, beside the things of L. -/
def NoneP (w0 : World) (p : Option Addr) (L : List Thing) : Prop := ∀ (M : List Thing) (wx : World), Sep w0 (M ++ L) wx → Calls Try.prog 32 #[.pointer p] wx fun e w' => e = .returned (.bool true) ∧ wx = w'
def Z57 : Array Value := (Value.bool false :: seatCells T0).toArray
theorem none_nil (w : World) : Calls Try.prog 32 #[.pointer none] w fun e w' => e = .returned (.bool true) ∧ w = w' := by
  go_enter Try.func32, Try.ntmps32
  go_wp2
  go_ret
  exact ⟨rfl, rfl⟩
theorem none_not {w : World} {g : Nat} (c0 : w.cell? ⟨g, 0, none⟩ = some (.bool false)) :
    Calls Try.prog 32 #[.pointer (some ⟨g, 0, none⟩)] w fun e w' => e = .returned (.bool true) ∧ w = w' := by
  go_enter Try.func32, Try.ntmps32
  go_wp2
  go_ret
  exact ⟨rfl, rfl⟩
theorem NoneP.nil (w0 : World) (L : List Thing) : NoneP w0 none L := fun M wx _ => none_nil wx
theorem Sep.dropAll {w0 w : World} {L : List Thing} : ∀ (M : List Thing), Sep w0 (M ++ L) w → Sep w0 L w
  | [], h => h
  | A :: M, h => Sep.dropAll M (Sep.drop h)
theorem NoneP.not (w0 : World) (g : Nat) (L : List Thing) : NoneP w0 (some ⟨g, 0, none⟩) (Cl g Z57 73 :: L) := fun M wx h =>
  none_not ((h.dropAll M).cell (o := 0) (by simp [Z57]))
theorem NoneP.on {w0 : World} {p : Option Addr} {L : List Thing} (h : NoneP w0 p L) (A : Thing) : NoneP w0 p (A :: L) := fun M wx hx => h (M ++ [A]) wx (by simpa using hx)

set_option maxRecDepth 100000 in
theorem judge_none {w0 w : World} {p : Option Addr} {L : List Thing} (c n : Int) (hn : NoneP w0 p L) (h : Sep w0 L w) :
    Calls Try.prog 16 #[.pointer p, .int .i64 c, .int .i64 n] w fun e w' => e = .returned (.int .i64 0) ∧ Sep w0 L w' := by
  have HN := Lib.hid (hn [] w h)
  have H1 := Lib.hid h
  clear h hn
  go_enter Try.func16, Try.ntmps16
  (try dsimp only); repeat' (first | go_values | go_skip | go_guarded | go_step | go_upon | go_back)
  refine HN.out.mono ?_
  rintro r0 w1 ⟨rfl, rfl⟩
  (try dsimp only); repeat' (first | go_values | go_skip | go_guarded | go_step | go_upon | go_back)
  go_ret
  exact ⟨rfl, H1.out⟩

set_option maxRecDepth 100000 in
theorem copy_none {w0 w : World} {p : Option Addr} {L : List Thing} (hn : NoneP w0 p L) (h : Sep w0 L w) :
    Calls Try.prog 26 #[.pointer p] w fun e w' => e = .returned (.pointer none) ∧ Sep w0 L w' := by
  have HN := Lib.hid (hn [] w h)
  have H1 := Lib.hid h
  clear h hn
  go_enter Try.func26, Try.ntmps26
  (try dsimp only); repeat' (first | go_values | go_skip | go_guarded | go_step | go_upon | go_back)
  refine HN.out.mono ?_
  rintro r0 w1 ⟨rfl, rfl⟩
  (try dsimp only); repeat' (first | go_values | go_skip | go_guarded | go_step | go_upon | go_back)
  go_ret
  exact ⟨rfl, H1.out⟩

set_option maxRecDepth 100000 in
theorem bytes_none {w0 w : World} {p : Option Addr} {L : List Thing} (hn : NoneP w0 p L) (h : Sep w0 L w) :
    Calls Try.prog 24 #[.pointer p] w fun e w' => e = .returned (.slice none 0 0) ∧ Sep w0 L w' := by
  have HN := Lib.hid (hn [] w h)
  have H1 := Lib.hid h
  clear h hn
  go_enter Try.func24, Try.ntmps24
  (try dsimp only); repeat' (first | go_values | go_skip | go_guarded | go_step | go_upon | go_back)
  refine HN.out.mono ?_
  rintro r0 w1 ⟨rfl, rfl⟩
  (try dsimp only); repeat' (first | go_values | go_skip | go_guarded | go_step | go_upon | go_back)
  go_ret
  exact ⟨rfl, H1.out⟩

set_option maxRecDepth 100000 in
theorem back_nil {w0 w : World} {p : Option Addr} {L : List Thing} (c : Int) (u : SW) (hn : NoneP w0 p L) (h : Sep w0 L w) :
    Calls Try.prog 12 #[.pointer p, .int .i64 c, .agg #[.bool u.had, .int .i64 u.c, .int .i64 u.n, .int .i64 u.o, .int .i64 u.k, .int .i64 u.a, .int .i64 u.b]] w fun e w' => e = .returned (.int .i64 1) ∧ Sep w0 L w' := by
  have h1 := h.alloc (.cells #[.bool u.had, .int .i64 u.c, .int .i64 u.n, .int .i64 u.o, .int .i64 u.k, .int .i64 u.a, .int .i64 u.b] 33)
  have HN := Lib.hid (hn [_] _ h1)
  have H1 := Lib.hid h1.drop
  clear h hn h1
  go_enter Try.func12, Try.ntmps12
  (try dsimp only); repeat' (first | go_values | go_skip | go_guarded | go_step | go_upon | go_back)
  refine HN.out.mono ?_
  rintro r0 w1 ⟨rfl, rfl⟩
  (try dsimp only); repeat' (first | go_values | go_skip | go_guarded | go_step | go_upon | go_back)
  go_ret
  exact ⟨rfl, H1.out⟩

theorem store6z {w0 w : World} {g : Nat} {v0 v1 v2 v3 v4 v5 : Value} {t : TypeId} {L : List Thing} (h : Sep w0 (Cl g #[v0, v1, v2, v3, v4, v5] t :: L) w) (u0 u1 u2 u3 u4 u5 : Value) :
    Sep w0 (Cl g #[u0, u1, u2, u3, u4, u5] t :: L) ((((((w.setCell ⟨g, 0, none⟩ u0).setCell ⟨g, 1, none⟩ u1).setCell ⟨g, 2, none⟩ u2).setCell ⟨g, 3, none⟩ u3).setCell ⟨g, 4, none⟩ u4).setCell ⟨g, 5, none⟩ u5) := by
  have h7 := ((((((h.setCell 0 u0).setCell 1 u1).setCell 2 u2).setCell 3 u3).setCell 4 u4).setCell 5 u5)
  simp only [List.setIfInBounds_toArray, List.set_cons_zero, List.set_cons_succ] at h7
  exact h7
set_option maxRecDepth 100000 in
theorem find_none {w0 w : World} {p : Option Addr} {L : List Thing} (c : Int) (hn : NoneP w0 p L) (h : Sep w0 L w) :
    Calls Try.prog 14 #[.pointer p, .int .i64 c] w fun e w' => e = .returned (.tuple #[.agg #[.int .i64 0, .int .i64 0, .int .i64 0, .int .i64 0, .int .i64 0, .int .i64 0], .bool false]) ∧ Sep w0 L w' := by
  have h1 := h.alloc (.cells #[.int .i64 0, .int .i64 0, .int .i64 0, .int .i64 0, .int .i64 0, .int .i64 0] 31)
  obtain ⟨bz, hbz⟩ : ∃ z, z = w.heap.size := ⟨_, rfl⟩
  obtain ⟨w3, hw3⟩ : ∃ z, z = w.alloc (.cells #[.int .i64 0, .int .i64 0, .int .i64 0, .int .i64 0, .int .i64 0, .int .i64 0] 31) := ⟨_, rfl⟩
  rw [← hbz, ← hw3] at h1
  have HN := Lib.hid (hn [_] _ h1)
  have H1 := Lib.hid h1
  clear h h1 hn
  go_enter Try.func14, Try.ntmps14
  (try dsimp only); repeat' (first | go_values | go_skip | go_guarded | go_step | go_upon | go_back)
  rw [← hw3]
  refine HN.out.mono ?_
  rintro r0 w4 ⟨rfl, rfl⟩
  rw [← hbz]
  clear HN hw3 hbz
  obtain ⟨z0, z1, z2, z3, z4, z5⟩ := cells6z H1.out
  have f0 := H1.out.frozen 0
  have f1 := H1.out.frozen 1
  have f2 := H1.out.frozen 2
  have f3 := H1.out.frozen 3
  have f4 := H1.out.frozen 4
  have f5 := H1.out.frozen 5
  (try dsimp only); repeat' (first | go_values | go_skip | go_guarded | go_step | go_upon | go_back)
  have hz := store6z H1.out (.int .i64 0) (.int .i64 0) (.int .i64 0) (.int .i64 0) (.int .i64 0) (.int .i64 0)
  obtain ⟨y0, y1, y2, y3, y4, y5⟩ := cells6z hz
  have H5 := Lib.hid hz.drop
  exact bodyPost_ret (v := .tuple #[.agg #[.int .i64 0, .int .i64 0, .int .i64 0, .int .i64 0, .int .i64 0, .int .i64 0], .bool false]) (by simp [results, Try.results14, go_sem, y0, y1, y2, y3, y4, y5]) rfl ⟨rfl, H5.out⟩
set_option maxRecDepth 100000 in
set_option maxHeartbeats 16000000 in
theorem put_none {w0 w : World} {p : Option Addr} {L : List Thing} (c n o k a b : Int) (hn : NoneP w0 p L) (h : Sep w0 L w) :
    Calls Try.prog 18 #[.pointer p, .agg #[.int .i64 c, .int .i64 n, .int .i64 o, .int .i64 k, .int .i64 a, .int .i64 b]] w fun e w' => e = .returned (.tuple #[.agg #[.bool false, .int .i64 0, .int .i64 0, .int .i64 0, .int .i64 0, .int .i64 0, .int .i64 0], .int .i64 1]) ∧ Sep w0 L w' := by
  have h1 := (h.alloc (.cells #[.int .i64 c, .int .i64 n, .int .i64 o, .int .i64 k, .int .i64 a, .int .i64 b] 31)).alloc (.cells #[.bool false, .int .i64 0, .int .i64 0, .int .i64 0, .int .i64 0, .int .i64 0, .int .i64 0] 33)
  rw [World.size_alloc] at h1
  obtain ⟨bs, hbs⟩ : ∃ z, z = w.heap.size := ⟨_, rfl⟩
  obtain ⟨bz, hbz⟩ : ∃ z, z = w.heap.size + 1 := ⟨_, rfl⟩
  obtain ⟨w3, hw3⟩ : ∃ z, z = (w.alloc (.cells #[.int .i64 c, .int .i64 n, .int .i64 o, .int .i64 k, .int .i64 a, .int .i64 b] 31)).alloc (.cells #[.bool false, .int .i64 0, .int .i64 0, .int .i64 0, .int .i64 0, .int .i64 0, .int .i64 0] 33) := ⟨_, rfl⟩
  rw [← hbz, ← hbs, ← hw3] at h1
  have HN := Lib.hid (hn [_, _] _ h1)
  have HF9 := Lib.hid h1
  clear h h1 hn
  go_enter Try.func18, Try.ntmps18
  (try dsimp only); repeat' (first | go_values | go_skip | go_guarded | go_step | go_upon | go_back)
  rw [← hw3]
  refine HN.out.mono ?_
  rintro r0 w4 ⟨rfl, rfl⟩
  rw [← hbz, ← hbs]
  clear HN hw3 hbs hbz
  obtain ⟨z0, z1, z2, z3, z4, z5, z6⟩ := cells7z HF9.out
  have f0 := HF9.out.frozen 0
  have f1 := HF9.out.frozen 1
  have f2 := HF9.out.frozen 2
  have f3 := HF9.out.frozen 3
  have f4 := HF9.out.frozen 4
  have f5 := HF9.out.frozen 5
  have f6 := HF9.out.frozen 6
  (try dsimp only); repeat' (first | go_values | go_skip | go_guarded | go_step | go_upon | go_back)
  have hz := store7z HF9.out (.bool false) (.int .i64 0) (.int .i64 0) (.int .i64 0) (.int .i64 0) (.int .i64 0) (.int .i64 0)
  obtain ⟨y0, y1, y2, y3, y4, y5, y6⟩ := cells7z hz
  have H5 := Lib.hid hz.drop.drop
  exact bodyPost_ret (v := .tuple #[.agg #[.bool false, .int .i64 0, .int .i64 0, .int .i64 0, .int .i64 0, .int .i64 0, .int .i64 0], .int .i64 1]) (by simp [results, Try.results18, go_sem, y0, y1, y2, y3, y4, y5, y6]) rfl ⟨rfl, H5.out⟩
/-- each of a table that is none gives nothing. -/
theorem each_none (n : Nat) (p : Option Addr) : Gives Fence.wide n Try.prog 41 #[.pointer p] #[] (fun s : SW => #[s.val]) [] (fun W => Calls Try.prog 32 #[.pointer p] W fun e w' => e = .returned (.bool true) ∧ W = w') := by
  intro l J hJa hJd hY W hb h0
  have HN := Lib.hid hb
  clear hb
  refine callsIn_of_wp Try.func41 rfl trivial ?_ rfl
  simp only [Try.ntmps41, List.size_toArray, List.length_cons, List.length_nil, Nat.reduceAdd, Nat.reduceSub, Array.replicate_succ, Array.replicate_zero, List.push_toArray, List.append_toArray, List.nil_append, List.cons_append]
  gi_wp2
  refine ⟨trivial, (fun h => (by cases h)), ?_⟩
  refine (callsIn_wide.2 HN.out).mono ?_
  rintro r0 w1 ⟨rfl, rfl⟩
  clear HN
  gi_wp2
  exact bodyPost_ret (results_none rfl _ _ _) rfl ⟨⟨_, rfl⟩, h0⟩
set_option maxRecDepth 100000 in
set_option maxHeartbeats 4000000 in
theorem len_none {w0 w : World} {p : Option Addr} {L : List Thing} (hn : NoneP w0 p L) (h : Sep w0 L w) :
    Calls Try.prog 22 #[.pointer p] w fun e w' => e = .returned (.int .i64 0) ∧ Sep w0 L w' := by
  have h1 := h.alloc (.cells #[.int .i64 0] 3)
  obtain ⟨b, hb⟩ : ∃ z, z = w.heap.size := ⟨_, rfl⟩
  obtain ⟨w3, hw3⟩ : ∃ z, z = w.alloc (.cells #[.int .i64 0] 3) := ⟨_, rfl⟩
  rw [← hb, ← hw3] at h1
  refine (callsIn_wide (n := 4)).1 ?_
  refine callsIn_of_wp_marks Try.func22 rfl trivial ?_ rfl
  simp only [Try.ntmps22, List.size_toArray, List.length_cons, List.length_nil, Nat.reduceAdd, Nat.reduceSub, Array.replicate_succ, Array.replicate_zero, List.push_toArray, List.append_toArray, List.nil_append, List.cons_append]
  gi_wp2
  rw [← hw3, ← hb]
  clear hw3 hb h
  refine range_sep (P := Try.prog) (gf := 41) (fb := #[.pointer p]) (lb := #[]) rfl (by omega) rfl trivial (enters_of Try.func41 (by kernel_rfl) rfl) [] (fun _ => rfl)
    (fun pre => Cl b #[.int .i64 0] 3 :: L) h1 (each_none _ p) (fun A B W hs => hn [_, _, _] _ hs)
    (fun x => { tmps := #[.pointer p, undef, .int .i64 0, .pointer (some ⟨b, 0, none⟩), .pointer p, .func (.func 41) #[.pointer p] #[], x.val, undef, undef, undef], defers := [] }) ?assign ?body ?done
  case assign =>
    intro l x W K hK
    gi_wp2
    simpa using hK
  case body =>
    intro l pre x rest A B W hx hs
    simp at hx
  case done =>
    intro D W hs
    have c0 := hs.sw2.cell (o := 0) rfl
    have hK := hs.blk
    have HS := Lib.hid hs
    clear hs hn h1
    gi_wp2
    refine ⟨by simp, .inl ⟨_, _, rfl, run_takeDeferred hK, ?_⟩⟩
    exact ⟨_, results_tmp rfl _ _ _, rfl, (HS.out.putObj _).drop.drop⟩
set_option maxRecDepth 100000 in
set_option maxHeartbeats 4000000 in
theorem collect_none {w0 w : World} {p : Option Addr} {L : List Thing} (hn : NoneP w0 p L) (h : Sep w0 L w) :
    Calls Try.prog 40 #[.func (.func 41) #[.pointer p] #[]] w fun e w' => e = .returned (.slice none 0 0) ∧ Sep w0 L w' := by
  have h2 := h.alloc (.cells #[.slice none 0 0] 45)
  obtain ⟨b, hb⟩ : ∃ z, z = w.heap.size := ⟨_, rfl⟩
  obtain ⟨w3, hw3⟩ : ∃ z, z = w.alloc (.cells #[.slice none 0 0] 45) := ⟨_, rfl⟩
  rw [← hb, ← hw3] at h2
  clear h
  refine (callsIn_wide (n := 4)).1 ?_
  refine callsIn_of_wp_marks Try.func40 rfl trivial ?_ rfl
  simp only [Try.ntmps40, List.size_toArray, List.length_cons, List.length_nil, Nat.reduceAdd, Nat.reduceSub, Array.replicate_succ, Array.replicate_zero, List.push_toArray, List.append_toArray, List.nil_append, List.cons_append]
  gi_wp2
  rw [← hw3, ← hb]
  clear hw3 hb
  refine range_sepA (P := Try.prog) (gf := 41) (fb := #[.pointer p]) (lb := #[]) rfl (by omega) rfl trivial (enters_of Try.func41 (by kernel_rfl) rfl) ([] : List SW) (fun _ => rfl)
    (fun pre => Cl b #[.slice none 0 0] 45 :: L) h2 (each_none _ p) (fun A B W hs => hn [_, _, _] _ hs)
    (fun x a' => []) (fun _ _ => True) ?assign ?body ?done
  case assign =>
    intro l x pre A B W K hs hK
    have h8 := hs.alloc (.cells #[.int .i64 x.c, .int .i64 x.n, .int .i64 x.o, .int .i64 x.k, .int .i64 x.a, .int .i64 x.b] 31)
    have H8 := Lib.hid h8.drop
    clear hs h8 h2
    simp only [SW.val, List.zip_toArray, List.zip_cons_cons, List.zip_nil_right, List.foldl_toArray, List.foldl_cons, List.foldl_nil, List.setIfInBounds_toArray, List.set_cons_zero, List.set_cons_succ]
    gi_wp2
    exact hK _ _ trivial H8.out
  case body =>
    intro l pre x rest A B a' W hx _ hs
    simp at hx
  case done =>
    intro D W hs
    have c0 := hs.sw2.cell (o := 0) rfl
    have hK := hs.blk
    have HS := Lib.hid hs
    clear hs hn h2
    gi_wp2
    refine ⟨by simp, .inl ⟨_, _, rfl, run_takeDeferred hK, ?_⟩⟩
    exact ⟨_, results_tmp rfl _ _ _, rfl, (HS.out.putObj (.deferred none)).drop.drop⟩
theorem list_none {w0 w : World} {p : Option Addr} {L : List Thing} (hn : NoneP w0 p L) (h : Sep w0 L w) :
    Calls Try.prog 20 #[.pointer p] w fun e w' => e = .returned (.slice none 0 0) ∧ Sep w0 L w' := by
  have HC := Lib.hid (collect_none hn h)
  clear h hn
  go_enter Try.func20, Try.ntmps20
  (try dsimp only); repeat' (first | go_values | go_skip | go_guarded | go_step | go_upon | go_back)
  refine HC.out.mono ?_
  rintro r0 w1 ⟨rfl, h1⟩
  have H1 := Lib.hid h1
  clear HC h1
  (try dsimp only); repeat' (first | go_values | go_skip | go_guarded | go_step | go_upon | go_back)
  go_ret
  exact ⟨rfl, H1.out⟩

end Go.Proofs.Ytjjjkfdppleagaa