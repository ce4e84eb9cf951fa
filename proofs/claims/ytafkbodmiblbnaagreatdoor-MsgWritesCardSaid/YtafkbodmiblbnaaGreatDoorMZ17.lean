/- Package entry: Row. -/
import Derived.Test.YtafkbodmiblbnaaGreatDoorMZ01
import Derived.Test.YtafkbodmiblbnaaGreatDoorMZ16
import Derived.Test.YtafkbodmiblbnaaGreatDoorMZ03
import Derived.Test.YtafkbodmiblbnaaGreatDoorMZ06
import Derived.Test.YtafkbodmiblbnaaGreatDoorMItem9
import Derived.Test.YtafkbodmiblbnaaGreatDoorMZ09
import Derived.Test.YtafkbodmiblbnaaGreatDoorMZ14
namespace Go.Proofs.YtafkbodmiblbnaaGreatDoor
open Go.RowKit
set_option linter.unusedVariables false
set_option linter.unusedSimpArgs false
/-- One entry, as it lies in a row. -/
def En7 (w : World) (b i : Nat) (x : EnM) (v : Value) : Prop := w.cell? ⟨b, i, none⟩ = some (.int .i64 x.c) ∧ w.cell? ⟨b, i + 1, none⟩ = some (.int .i64 x.m) ∧ w.cell? ⟨b, i + 2, none⟩ = some (.int .i64 x.p.k) ∧ w.cell? ⟨b, i + 3, none⟩ = some (.string x.p.s.1) ∧ w.cell? ⟨b, i + 4, none⟩ = some (.int .i64 x.p.o) ∧ w.cell? ⟨b, i + 5, none⟩ = some (.int .i64 x.p.n) ∧ w.cell? ⟨b, i + 6, none⟩ = some v
/-- A slice of entries, read. -/
def EnS (w : World) (v : Value) (xs : List (EnM × Value)) : Prop :=
  (∃ a c, v = .slice a 0 c ∧ xs = []) ∨ ∃ b off c, v = .slice (some ⟨b, off, none⟩) xs.length c ∧ xs.length ≤ c ∧ c ≤ maxLen ∧ b < w.heap.size ∧ ∀ i (hi : i < xs.length), En7 w b (off + i * 7) xs[i].1 xs[i].2 ∧ LnS w xs[i].2 xs[i].1.p.ls
theorem EnS.below {w w' : World} {v : Value} {xs : List (EnM × Value)} (h : EnS w v xs) (hb : Below w.heap.size w w') : EnS w' v xs := by
  rcases h with h | ⟨b, off, c, h1, h2, h3, h4, h5⟩
  · exact .inl h
  · refine .inr ⟨b, off, c, h1, h2, h3, Nat.lt_of_lt_of_le h4 hb.size, fun i hi => ?_⟩
    obtain ⟨⟨a0, a1, a2, a3, a4, a5, a6⟩, h6⟩ := h5 i hi
    have k : ∀ o, w'.cell? ⟨b, o, none⟩ = w.cell? ⟨b, o, none⟩ := fun o => hb.cell (p := ⟨b, o, none⟩) h4
    exact ⟨⟨(k _).trans a0, (k _).trans a1, (k _).trans a2, (k _).trans a3, (k _).trans a4, (k _).trans a5, (k _).trans a6⟩, h6.below hb⟩
theorem EnS.len {w : World} {v : Value} {xs : List (EnM × Value)} (h : EnS w v xs) : ∃ a c, v = .slice a xs.length c := by
  rcases h with ⟨a, c, rfl, rfl⟩ | ⟨b, off, c, h1, _⟩
  · exact ⟨a, c, rfl⟩
  · exact ⟨_, c, h1⟩
theorem EnS.at {w : World} {a : Option Addr} {n c : Nat} {xs : List (EnM × Value)} (h : EnS w (.slice a n c) xs) {i : Nat} (hi : i < xs.length) :
    ∃ b off, a = some ⟨b, off, none⟩ ∧ n = xs.length ∧ n ≤ c ∧ c ≤ maxLen ∧ En7 w b (off + i * 7) xs[i].1 xs[i].2 ∧ LnS w xs[i].2 xs[i].1.p.ls := by
  rcases h with ⟨a, c, h1, rfl⟩ | ⟨b, off, c', h1, h2, h3, h4, h5⟩
  · simp at hi
  · simp only [Value.slice.injEq] at h1
    obtain ⟨rfl, rfl, rfl⟩ := h1
    exact ⟨b, off, rfl, rfl, h2, h3, h5 i hi⟩
def rowTx (x : EnM) : List UInt8 := vint (entBs x).length ++ entBs x
def rowBs (xs : List EnM) : List UInt8 := vint xs.length ++ (xs.map rowTx).flatten
def rowOk (xs : List (EnM × Value)) : Bool := xs.all fun x => x.1.ok
abbrev byP (q : Value × List UInt8) : Thing := By q.1 q.2
theorem Sep.memb {w0 w : World} {A : Thing} {L : List Thing} (h : Sep w0 L w) (hm : A ∈ L) : ∃ M, Sep w0 (A :: M) w := by
  induction L with
  | nil => cases hm
  | cons B L ih =>
    rcases List.mem_cons.1 hm with rfl | hm
    · exact ⟨L, h⟩
    · exact ih h.drop hm
theorem infoB : (Tryz.prog.info? 29).map (fun i => (i.size, decide (i.bytes ≤ 64), i.zero.map (fun z => z.cells.size))) = some (1, true, some 1) := by kernel_rfl
theorem flat400 (l : List (List UInt8)) (h : ∀ x ∈ l, x.length ≤ 400) : l.flatten.length ≤ 400 * l.length := by
  induction l with
  | nil => simp
  | cons x l ih =>
    have h1 := h x (List.mem_cons_self ..)
    have h2 := ih fun y hy => h y (List.mem_cons_of_mem _ hy)
    rw [List.flatten_cons, List.length_append, List.length_cons]
    omega
theorem rowTx_len {x : EnM} (h : x.ok = true) : (rowTx x).length ≤ 400 := by
  have h1 := entBs_len h
  have h2 := vint_len (entBs x).length
  unfold rowTx
  rw [List.length_append]
  omega
/-- 'append' of one slice of bytes onto the parts. -/
theorem app_part {w0 w : World} {v u : Value} {ps : List Value} {L : List Thing} {ty : TypeId} {b : Nat} (h : Sep w0 (Rw 29 v ps :: L) w) (hx : Sl w (.slice (some ⟨b, 0, none⟩) 1 1) [u]) (hu : u.oneCell' = true) (hl : ps.length ≤ 1000) :
    ∃ b' c' w', (Builtin.append_ #[110, 110] ty #[v, .slice (some ⟨b, 0, none⟩) 1 1]).run Tryz.prog w = .ok (.slice (some ⟨b', 0, none⟩) (ps.length + 1) c') w' ∧ Sep w0 (Rw 29 (.slice (some ⟨b', 0, none⟩) (ps.length + 1) c') (ps ++ [u]) :: L) w' := by
  obtain ⟨i, hi, he⟩ := Option.map_eq_some_iff.1 infoB
  simp only [Prod.mk.injEq, decide_eq_true_eq] at he
  obtain ⟨z, hz, hz2⟩ := Option.map_eq_some_iff.1 he.2.2
  obtain ⟨v', w', hr, h2, -⟩ := append_sep (P := Tryz.prog) (ty := ty) Tryz.underlying110 hi hz he.1 he.2.1 hz2 h hx (fun y hy => by rw [List.mem_singleton.1 hy]; exact hu) (by simp; omega)
  obtain ⟨b', c', rfl, -⟩ := h2.rowForm (by simp)
  rw [List.length_append, List.length_singleton] at hr h2
  exact ⟨b', c', w', hr, h2⟩
set_option maxRecDepth 100000 in
set_option maxHeartbeats 16000000 in
theorem encode_w {w : World} (a : Option Addr) (c : Nat) (xs : List (EnM × Value)) (hv : EnS w (.slice a xs.length c) xs) (hk : KindsAt w) (hl : xs.length ≤ 900) :
    Calls Tryz.prog 114 #[.slice a xs.length c, .func (.func 30) #[] #[]] w (BysE w [] (rowOk xs) (rowBs (xs.map (·.1)))) := by
  have HV := Lib.hid (varint_sep (w0 := w) (L := []) (.slice none 0 0) [] xs.length w (Sep.start w) (sl_nil _) (by unfold U64; omega) (by simp))
  have HX := Lib.hid hv
  have HK := Lib.hid hk
  have HL := Lib.hid hl
  have n0 : (xs.length : Int) ≤ 900 := by omega
  clear hv hk hl
  obtain ⟨n, hn⟩ : ∃ n, n = xs.length := ⟨_, rfl⟩
  rw [← hn] at HV HX n0 ⊢
  have HN := Lib.hid hn
  clear hn
  go_enter Tryz.func114, Tryz.ntmps114
  go_wp2_with fail
  refine HV.out.mono ?_
  rintro r0 w1 ⟨v1, rfl, h1⟩
  rw [List.nil_append] at h1
  obtain ⟨a1, c1, rfl⟩ := h1.sl.len
  have h2 := (h1.alloc (.cells #[.slice a1 (bv (vint n)).length c1] 29)).asRow 1 rfl (by unfold maxLen; omega)
  have H2 : Hid (∃ ps : List (Value × List UInt8), ps.length = 1 ∧ ps.map (·.2) = [vint n] ∧ Sep w (Rw 29 (.slice (some ⟨w1.heap.size, 0, none⟩) 1 1) (ps.map (·.1)) :: ps.reverse.map byP) (w1.alloc (.cells #[.slice a1 (bv (vint n)).length c1] 29))) := Lib.hid ⟨[(_, vint n)], rfl, rfl, h2⟩
  clear h1 h2 HV
  go_wp2_with fail
  generalize w1.alloc (.cells #[.slice a1 (bv (vint n)).length c1] 29) = w2 at *
  go_loopw [6, 18] (fun pv i wr => ∃ (k : Nat) (ps : List (Value × List UInt8)) (b : Nat) (cv : Nat), k ≤ n ∧ pv = .slice (some ⟨b, 0, none⟩) (k + 1) cv ∧ i = .int .i64 k ∧ ps.length = k + 1 ∧ ps.map (·.2) = vint n :: (xs.take k).map (fun x => rowTx x.1) ∧ rowOk (xs.take k) = true ∧ Sep w (Rw 29 pv (ps.map (·.1)) :: ps.reverse.map byP) wr) (fun _ i _ => n - (intOf i).toNat)
  case atStart => obtain ⟨ps, h1, h2, h3⟩ := H2.out; exact ⟨0, ps, _, _, Nat.zero_le _, rfl, rfl, h1, h2, rfl, h3⟩
  case round =>
    obtain ⟨k, ps, b, cv, hk, rfl, rfl, hpl, hps, hall, hs⟩ := hrel
    clear H2
    have k0 : (0 : Int) ≤ (k : Int) := by omega
    by_cases hkn : k < n
    · have hkx : k < xs.length := by have := HN.out; omega
      have hd : decide (k < n) = true := decide_eq_true hkn
      have k1 : (k : Int) < (n : Int) := by omega
      obtain ⟨bx, off, rfl, -, hnc, -, ⟨e0, e1, e2, e3, e4, e5, e6⟩, hln⟩ := (HX.out.below hs.low).at hkx
      obtain ⟨⟨x, v⟩, hxv⟩ : ∃ z, z = xs[k] := ⟨_, rfl⟩
      rw [← hxv] at e0 e1 e2 e3 e4 e5 e6 hln
      dsimp only at e0 e1 e2 e3 e4 e5 e6 hln
      obtain ⟨av, kv, rfl⟩ := hln.len
      have h4 := hs.alloc (.cells (enC x (.slice av x.p.ls.length kv)) 26)
      have hlow : Below wr.heap.size wr (wr.alloc (.cells (enC x (.slice av x.p.ls.length kv)) 26)) := (Below.refl _ wr).alloc (Nat.le_refl _) _
      have HB := Lib.hid (ebytes_u x (.slice av x.p.ls.length kv) h4 (hln.below hlow) (HK.out.below h4.low))
      unfold enV enC at HB
      unfold enC at h4
      obtain ⟨d0, d1, d2, d3, d4, d5, d6⟩ := cells7 h4
      have HXV := Lib.hid (And.intro hxv (And.intro hkx hkn))
      have HPS := Lib.hid (And.intro hpl (And.intro hps hall))
      clear hs h4 hlow hln hxv hpl hps hall hk hkn
      cases hok : x.ok with
      | true =>
        rw [hok] at HB
        have HOK := Lib.hid hok
        unfold BysE eB at HB
        clear hok
        go_wp2_with fail
        refine HB.out.mono ?_
        rintro r0 w5 ⟨u, rfl, h5⟩
        simp only [if_true] at h5
        obtain ⟨a5, c5, rfl⟩ := h5.sl.len
        have HT := Lib.hid (text_sep (.slice none 0 0) _ [] (entBs x) w5 h5 (sl_nil _) h5.sl (by have := entBs_len HOK.out; simp; omega))
        clear HB h5 d0 d1 d2 d3 d4 d5 d6 e0 e1 e2 e3 e4 e5 e6
        go_wp2_with fail
        refine HT.out.mono ?_
        rintro r0 w6 ⟨v6, rfl, h6⟩
        rw [List.nil_append] at h6
        obtain ⟨a6, c6, rfl⟩ := h6.sl.len
        have h7 := h6.alloc (.cells #[.slice a6 (bv (vint (entBs x).length ++ entBs x)).length c6] 29)
        have hsl : Sl _ (.slice (some ⟨w6.heap.size, 0, none⟩) 1 1) [.slice a6 (bv (vint (entBs x).length ++ entBs x)).length c6] := (h7.asRow 1 rfl (by unfold maxLen; omega)).sl
        obtain ⟨b8, c8, w8, hr, h8⟩ := app_part (ty := 110) h7.sw5 hsl rfl (by rw [List.length_map, HPS.out.1]; have := HXV.out.2.2; omega)
        rw [List.length_map, HPS.out.1] at hr h8
        have HR := Lib.hid hr
        have HF : Hid (Sep w (Rw 29 (.slice (some ⟨b8, 0, none⟩) (k + 1 + 1) c8) ((ps ++ [((Value.slice a6 (bv (vint (entBs x).length ++ entBs x)).length c6, rowTx x) : Value × List UInt8)]).map (·.1)) :: (ps ++ [((Value.slice a6 (bv (vint (entBs x).length ++ entBs x)).length c6, rowTx x) : Value × List UInt8)]).reverse.map byP) w8) := Lib.hid (by
          have := h8.pickL (M := [_, _, _, _, _]) [0, 2] rfl
          simpa [rowTx, byP] using this)
        clear h6 h7 hsl hr h8 HT
        go_wp2_with (at_builtin; refine wpList_append_run rfl _ _ _ _ rfl rfl rfl HR.out ?_)
        go_roundw
        case rel =>
          refine ⟨k + 1, ps ++ [((Value.slice a6 (bv (vint (entBs x).length ++ entBs x)).length c6, rowTx x) : Value × List UInt8)], b8, c8, HXV.out.2.2, rfl, by go_num, by rw [List.length_append, HPS.out.1, List.length_singleton], ?_, ?_, HF.out⟩
          · rw [List.map_append, HPS.out.2.1, List.take_succ_eq_append_getElem HXV.out.2.1, ← HXV.out.1]; simp
          · have h1 := HPS.out.2.2
            unfold rowOk at h1 ⊢
            rw [List.take_succ_eq_append_getElem HXV.out.2.1, ← HXV.out.1, List.all_append, h1]; simp [HOK.out]
        case measure => have := HXV.out.2.2; simp [intOf]; omega
      | false =>
        rw [hok] at HB
        have HBAD : Hid (rowOk xs = false) := Lib.hid (by
          unfold rowOk
          rw [List.all_eq_false]
          exact ⟨xs[k]'HXV.out.2.1, List.getElem_mem _, by rw [← HXV.out.1]; simp [hok]⟩)
        unfold BysE eB at HB
        clear hok
        go_wp2_with fail
        refine HB.out.mono ?_
        rintro r0 w5 ⟨u, rfl, h5⟩
        have HE := Lib.hid (Sep.nil h5.low)
        clear HB h5
        go_wp2_with fail
        rw [HBAD.out]
        go_ret2
        exact ⟨_, rfl, HE.out.rnil _⟩
    · have hd : decide (k < n) = false := decide_eq_false hkn
      have hn := HN.out
      have hkx : xs.take k = xs := List.take_of_length_le (by omega)
      rw [hkx] at hps hall
      have hflat : (ps.map (·.2)).flatten = rowBs (xs.map (·.1)) := by
        rw [hps]
        unfold rowBs
        rw [List.flatten_cons, List.length_map, ← hn, List.map_map]
        rfl
      obtain ⟨b', c', hv', hc1, hc2, hcell, -, -⟩ := hs.rowForm (by rw [List.length_map]; omega)
      simp only [Value.slice.injEq, Option.some.injEq, Addr.mk.injEq, and_true] at hv'
      obtain ⟨rfl, -, rfl⟩ := hv'
      have hlen : (ps.map (·.2)).length = k + 1 := by rw [List.length_map, hpl]
      have hsum : sumLen (ps.map (·.2)) ≤ 2199023255552 := by
        unfold sumLen
        have := flat400 (ps.map (·.2)) (by
          rw [hps]
          intro y hy
          rcases List.mem_cons.1 hy with rfl | hy
          · have := vint_len n; omega
          · obtain ⟨z, hz, rfl⟩ := List.mem_map.1 hy
            exact rowTx_len (List.all_eq_true.1 hall z hz))
        rw [hlen] at this
        have := HL.out
        omega
      have hq := concat_any b 0 cv (ps.map (·.1)) (ps.map (·.2)) wr (fun j u hj => by
        rw [Nat.zero_add]
        obtain ⟨h1, h2⟩ := List.getElem?_eq_some_iff.1 hj
        rw [← h2]; exact hcell j h1) ⟨by simp, fun j hj v hvj => by
        rw [List.getElem?_map] at hvj
        obtain ⟨q, hq1, rfl⟩ := Option.map_eq_some_iff.1 hvj
        obtain ⟨h1, h2⟩ := List.getElem?_eq_some_iff.1 hq1
        obtain ⟨M, hM⟩ := hs.memb (A := byP q) (List.mem_cons_of_mem _ (List.mem_map_of_mem (List.mem_reverse.2 (h2 ▸ List.getElem_mem h1))))
        rw [List.getElem_map, h2]
        exact Sep.sl hM⟩ (by have := HL.out; omega) hsum
      rw [hlen, hflat] at hq
      have HQ := Lib.hid hq
      have HE := Lib.hid (Sep.nil hs.low)
      have HOK : Hid (rowOk xs = true) := Lib.hid hall
      clear hs hpl hps hall hk hkn hkx hflat hc1 hc2 hcell hlen hsum hq hn
      go_wp2_with fail
      refine HQ.out.mono ?_
      rintro r0 w5 ⟨⟨v', rfl, ho⟩, hb⟩
      have HF := Lib.hid (HE.out.row hb ho)
      clear HQ HE ho hb
      go_wp2_with fail
      rw [HOK.out]
      go_ret2
      exact ⟨_, rfl, HF.out⟩
theorem row_any {w0 w : World} {L : List Thing} (a : Option Addr) (c n : Nat) (xs : List (EnM × Value)) (h : Sep w0 L w) (hv : EnS w (.slice a n c) xs) (hk : KindsAt w) (hn : xs.length = n) (hl : n ≤ 900) :
    Calls Tryz.prog 82 #[.slice a n c] w (BysE w0 L (rowOk xs) (rowBs (xs.map (·.1)))) := by
  subst hn
  have HC := Lib.hid (encode_w a c xs hv hk hl)
  have H := Lib.hid h
  clear h hv hk
  generalize rowOk xs = ok at *
  go_enter Tryz.func82, Tryz.ntmps82
  go_wp2_with fail
  refine HC.out.mono ?_
  rintro r0 w1 ⟨u, rfl, h1⟩
  have HF := Lib.hid (H.out.row h1.low (Sep.rw_ h1))
  clear h1 HC H
  go_wp2_with fail
  go_ret2
  exact ⟨_, rfl, HF.out⟩
end Go.Proofs.YtafkbodmiblbnaaGreatDoor
/- Entries of one's own: a row of them, the lines of each in blocks of their own. -/
namespace Go.Proofs.YtafkbodmiblbnaaGreatDoor
open Go.RowKit
set_option linter.unusedVariables false
set_option linter.unusedSimpArgs false
abbrev lnP (q : EnM × Value) : Thing := LnR q.2 q.1.p.ls
def enCs (ps : List (EnM × Value)) : List Value := ps.flatMap fun q => (enC q.1 q.2).toList
theorem enCs_len : ∀ ps : List (EnM × Value), (enCs ps).length = ps.length * 7
  | [] => rfl
  | q :: ps => by
    have := enCs_len ps
    unfold enCs at this ⊢
    rw [List.flatMap_cons, List.length_append, this, List.length_cons]
    simp [enC]
    omega
theorem enCs_at : ∀ (ps : List (EnM × Value)) (i : Nat) (hi : i < ps.length) (j : Nat), j < 7 → (enCs ps)[i * 7 + j]? = (enC ps[i].1 ps[i].2).toList[j]?
  | q :: ps, 0, _, j, hj => by
    unfold enCs
    rw [List.flatMap_cons, Nat.zero_mul, Nat.zero_add, List.getElem?_append_left (by simpa [enC] using hj)]
    rfl
  | q :: ps, i + 1, hi, j, hj => by
    have := enCs_at ps i (by simpa using hi) j hj
    unfold enCs at this ⊢
    rw [List.flatMap_cons, List.getElem?_append_right (by simp [enC]; omega)]
    rw [show (i + 1) * 7 + j - (enC q.1 q.2).toList.length = i * 7 + j by simp [enC]; omega, this]
    rfl
theorem enCs_app (a b : List (EnM × Value)) : enCs (a ++ b) = enCs a ++ enCs b := by simp [enCs]
theorem enCs_one (q : EnM × Value) : enCs [q] = (enC q.1 q.2).toList := by simp [enCs]
abbrev EnR (v : Value) (ps : List (EnM × Value)) : Thing := Rn 7 26 v ps.length (enCs ps)
/-- Entries of one's own. -/
def EnT (v : Value) (ps : List (EnM × Value)) : Thing := Grp (EnR v ps :: ps.map lnP)
theorem loc_enR (v : Value) (ps : List (EnM × Value)) : ∀ A ∈ EnR v ps :: ps.map lnP, Loc A := by
  intro A hA
  rcases List.mem_cons.1 hA with rfl | hA
  · exact loc_rn _ _ _ _ _
  · obtain ⟨q, _, rfl⟩ := List.mem_map.1 hA; exact loc_rn _ _ _ _ _
theorem Sep.enOpen {w0 w : World} {v : Value} {ps : List (EnM × Value)} {L : List Thing} (h : Sep w0 (EnT v ps :: L) w) : Sep w0 (EnR v ps :: (ps.map lnP ++ L)) w := h.open_ (loc_enR v ps)
theorem Sep.enClose {w0 w : World} {v : Value} {ps : List (EnM × Value)} {L : List Thing} (h : Sep w0 (EnR v ps :: (ps.map lnP ++ L)) w) : Sep w0 (EnT v ps :: L) w := Sep.close (M := EnR v ps :: ps.map lnP) h
theorem Sep.enNil {w0 w : World} {L : List Thing} (h : Sep w0 L w) : Sep w0 (EnT (.slice none 0 0) [] :: L) w := Sep.enClose (ps := []) (h.rnNil 7 26)
theorem Sep.enForm {w0 w : World} {v : Value} {ps : List (EnM × Value)} {L : List Thing} (h : Sep w0 (EnT v ps :: L) w) : ∃ a c, v = .slice a ps.length c ∧ ps.length ≤ c ∧ c ≤ maxLen := by
  obtain ⟨a, c, h1, h2, h3, -⟩ := h.enOpen.rnForm
  exact ⟨a, c, h1, h2, h3⟩
theorem Sep.memT {w0 w : World} {A : Thing} {L : List Thing} (h : Sep w0 L w) (hm : A ∈ L) : ∃ M, Sep w0 (A :: M) w := Sep.memb h hm
theorem Sep.enS {w0 w : World} {v : Value} {ps : List (EnM × Value)} {L : List Thing} (h : Sep w0 (EnT v ps :: L) w) : EnS w v ps := by
  have h1 := h.enOpen
  obtain ⟨a, c, rfl, h2, h3, h4, h5⟩ := h1.rnForm
  by_cases h0 : 0 < ps.length
  · obtain ⟨b, rfl, hb, hc⟩ := h5 h0
    refine .inr ⟨b, 0, c, rfl, h2, h3, hb, fun i hi => ?_⟩
    have k : ∀ j u, j < 7 → (enC ps[i].1 ps[i].2).toList[j]? = some u → w.cell? ⟨b, 0 + i * 7 + j, none⟩ = some u := fun j u hj hu => by
      have h6 := enCs_at ps i hi j hj
      rw [hu] at h6
      obtain ⟨h7, h8⟩ := List.getElem?_eq_some_iff.1 h6
      rw [Nat.zero_add, hc _ h7, h8]
    refine ⟨⟨k 0 _ (by omega) rfl, k 1 _ (by omega) rfl, k 2 _ (by omega) rfl, k 3 _ (by omega) rfl, k 4 _ (by omega) rfl, k 5 _ (by omega) rfl, k 6 _ (by omega) rfl⟩, ?_⟩
    obtain ⟨M, hM⟩ := h1.memT (A := lnP ps[i]) (List.mem_cons_of_mem _ (List.mem_append_left _ (List.mem_map_of_mem (List.getElem_mem hi))))
    exact Sep.lnS hM
  · exact .inl ⟨a, c, by rw [show ps.length = 0 by omega], List.eq_nil_of_length_eq_zero (by omega)⟩
theorem infoEn : (Tryz.prog.info? 26).map (fun i => (i.size, decide (i.bytes ≤ 256), i.zero.map (fun z => z.cells.size))) = some (7, true, some 7) := by kernel_rfl
/-- 'append' of one entry, that lies in a block of its own, onto them. -/
theorem append_en {w0 w : World} {v : Value} {ps : List (EnM × Value)} {x : EnM} {u : Value} {b : Nat} {L : List Thing} (ty : TypeId) (h : Sep w0 (Cl b (enC x u) 26 :: EnT v ps :: LnR u x.p.ls :: L) w) (hu : u.oneCell' = true) (hl : ps.length ≤ 10000000) :
    ∃ a c w', (Builtin.append_ #[30, 30] ty #[v, .slice (some ⟨b, 0, none⟩) 1 1]).run Tryz.prog w = .ok (.slice a (ps.length + 1) c) w' ∧ Sep w0 (EnT (.slice a (ps.length + 1) c) (ps ++ [(x, u)]) :: L) w' := by
  obtain ⟨i, hi, he⟩ := Option.map_eq_some_iff.1 infoEn
  simp only [Prod.mk.injEq, decide_eq_true_eq] at he
  obtain ⟨z, hz, hz2⟩ := Option.map_eq_some_iff.1 he.2.2
  have h1 := h.sw2.enOpen
  have hc : ∀ j u', (enC x u).toList[j]? = some u' → w.cell? ⟨b, 0 + j, none⟩ = some u' := fun j u' hj => by
    rw [Nat.zero_add]
    exact h.cell (by simpa using hj)
  obtain ⟨v', w', hr, h2⟩ := append_rn (P := Tryz.prog) (ty := ty) (m := 1) (c := 1) Tryz.underlying30 hi hz he.1 he.2.1 hz2 (by decide) h1 (news := (enC x u).toList) (by simp [enC]) hc (by
    intro y hy
    simp only [enC, List.mem_cons, List.not_mem_nil, or_false] at hy
    rcases hy with rfl | rfl | rfl | rfl | rfl | rfl | rfl <;> first | rfl | exact hu) (by omega)
  obtain ⟨a, c, rfl, -⟩ := h2.rnForm
  refine ⟨a, c, w', hr, ?_⟩
  have e : enCs ps ++ (enC x u).toList = enCs (ps ++ [(x, u)]) := by rw [enCs_app, enCs_one]
  rw [e] at h2
  have h3 : Sep w0 ((EnR (.slice a (ps.length + 1) c) (ps ++ [(x, u)]) :: ps.map lnP) ++ (Cl b (enC x u) 26 :: LnR u x.p.ls :: L)) w' := by
    show Sep w0 (Rn 7 26 (.slice a (ps.length + 1) c) (ps ++ [(x, u)]).length (enCs (ps ++ [(x, u)])) :: _) w'
    rw [List.length_append, List.length_singleton]
    exact h2
  have h4 : Sep w0 ((EnR (.slice a (ps.length + 1) c) (ps ++ [(x, u)]) :: ps.map lnP) ++ (LnR u x.p.ls :: L)) w' := by
    have hp : ((EnR (.slice a (ps.length + 1) c) (ps ++ [(x, u)]) :: ps.map lnP) ++ (Cl b (enC x u) 26 :: LnR u x.p.ls :: L)).Perm (Cl b (enC x u) 26 :: ((EnR (.slice a (ps.length + 1) c) (ps ++ [(x, u)]) :: ps.map lnP) ++ (LnR u x.p.ls :: L))) := List.perm_middle
    exact (h3.perm hp).drop
  refine Sep.enClose ?_
  rw [List.map_append, List.append_assoc]
  exact h4
end Go.Proofs.YtafkbodmiblbnaaGreatDoor
/- In place of EnP where the seat has entries' own texts (fill.py ALT=EnP=EnPF): En1, En4, En11, Item9, Item25, and what EnP has besides. -/
namespace Go.Proofs.YtafkbodmiblbnaaGreatDoor
open Go.RowKit
set_option linter.unusedVariables false
set_option linter.unusedSimpArgs false
theorem below_gr0 {w w' : World} (h : w.grownBy w' none) : Below w.heap.size w w' := ⟨h.os, h.tape, h.output, h.size, fun k hk => h.block k hk (by simp)⟩
end Go.Proofs.YtafkbodmiblbnaaGreatDoor
/- A region that draws its order, walked by number: a call that changes nothing is taken first, wherever it may come up. -/
namespace Go.Proofs.YtafkbodmiblbnaaGreatDoor
open Go
set_option linter.unusedVariables false
section
variable {P : Program} {ops : Array Oper} {Q : Exit → Act → World → Prop} {md : Region.Mode} {S : World → Prop} {T : List Nat}
/-- A call that answers v in every world that meets S, and changes nothing. -/
def AnswersIf (P : Program) (ops : Array Oper) (S : World → Prop) (o : Oper) (v : Value) (a : Act) : Prop :=
  Region.wanted o (yielded ops a.tmps) = true ∧ ∀ w, S w → ∃ f args, (execOp a.eval o).run P w = .ok (.enter f args) w ∧ Calls P f args w fun e w' => e = .returned v ∧ w' = w
theorem AnswersIf.run {i : Nat} {o : Oper} {v : Value} {a : Act} (hi : ops[i]? = some o) (hy : AnswersIf P ops S o v a) {K : Act → World → Prop} {w : World} (hS : S w) (h : K (a.put o.dst v) w) : wpOp P ops Q i K a w := by
  obtain ⟨hw, hc⟩ := hy
  obtain ⟨f, args, hr, hcl⟩ := hc w hS
  unfold Go.wpOp
  rw [hi]
  simp only [hw, if_true]
  left
  unfold Oper.wp
  rw [hr]
  refine Calls.mono hcl ?_
  rintro e w' ⟨rfl, rfl⟩
  exact h
end
end Go.Proofs.YtafkbodmiblbnaaGreatDoor
