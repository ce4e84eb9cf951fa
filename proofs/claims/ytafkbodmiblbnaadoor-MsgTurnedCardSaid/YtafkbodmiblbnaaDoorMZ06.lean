/- The document's own item: lines, sameness. -/
import Derived.Lib.ConvBytes
import Derived.Lib.AppendZeros
import Derived.Test.YtafkbodmiblbnaaDoorMZ04
import Derived.Test.YtafkbodmiblbnaaDoorMZ05
import Derived.Test.YtafkbodmiblbnaaDoorMZ01
import Derived.Test.YtafkbodmiblbnaaDoorMKit
namespace Go.Proofs.YtafkbodmiblbnaaDoor
open Go.RowKit
set_option linter.unusedVariables false
set_option linter.unusedSimpArgs false
theorem linesB_eq (ls : List Ln) : linesB ls = (wthB (ls.length : Int) 1 4 && ls.all lineB && decide ((ls.map (·.1)).Nodup)) := by
  unfold linesB wthB
  have a1 : decide ((1 : Int) ≤ (ls.length : Int)) = decide (1 ≤ ls.length) := by rw [decide_eq_decide]; omega
  have a2 : decide ((ls.length : Int) ≤ 4) = decide (ls.length ≤ 4) := by rw [decide_eq_decide]; omega
  rw [a1, a2]
theorem ks_ne {a b : KS} (h : ¬ a = b) : (a.1.toList == b.1.toList) = false := str_ne fun e => h (Subtype.ext e)
theorem take_nd {ls : List Ln} {k : Nat} (hk : k < ls.length) (h : ((ls.take k).map (·.1)).Nodup) (hn : ∀ i (hi : i < k), ls[i].1 ≠ ls[k].1) : ((ls.take (k + 1)).map (·.1)).Nodup := by
  rw [List.take_succ_eq_append_getElem hk, List.map_append, List.nodup_append]
  refine ⟨h, by simp, fun a ha b hb => ?_⟩
  simp at hb
  subst hb
  obtain ⟨l, hl, rfl⟩ := List.mem_map.1 ha
  obtain ⟨i, hi, rfl⟩ := List.getElem_of_mem hl
  have hi2 : i < k := by rw [List.length_take] at hi; omega
  rw [List.getElem_take]
  exact hn i hi2
theorem not_nd {ls : List Ln} {i k : Nat} (hik : i < k) (hk : k < ls.length) (h : ls[i].1 = ls[k].1) : ¬ (ls.map (·.1)).Nodup := by
  intro hn
  rw [List.nodup_iff_pairwise_ne, List.pairwise_iff_getElem] at hn
  exact hn i k (by simp; omega) (by simp; omega) hik (by simpa using h)
end Go.Proofs.YtafkbodmiblbnaaDoor
/- Texts turned into bytes. -/
namespace Go.Proofs.YtafkbodmiblbnaaDoor
open Go.RowKit
set_option linter.unusedVariables false
theorem conv_str (w : World) (s : ByteArray) (hs : s.size ≤ maxLen) : ∃ (b c : Nat) (w' : World), (convert 9 24 (.string s)).run Tryd.prog w = .ok (.slice (some ⟨b, 0, none⟩) s.size c) w' ∧ Below w.heap.size w w' ∧ Sl w' (.slice (some ⟨b, 0, none⟩) s.size c) (bv s.data.toList) := by
  have hsz : s.data.toList.length = s.size := rfl
  refine ⟨_, _, _, Lib.run_convert_string_bytes (P := Tryd.prog) w _ _ 5 s Tryd.underlying9 Tryd.underlying24 Tryd.underlying5, ⟨rfl, rfl, rfl, ?_, fun k hk => Lib.bytesWorld_at_old w _ s k hk⟩, .inl (.inr ⟨_, 0, _, by rw [bv_length, hsz], ?_, grownCap_le_maxLen _ _ _ _ hs, ?_, fun j u hj => ?_⟩)⟩
  · rw [Lib.bytesWorld_size]; omega
  · rw [bv_length, hsz]; exact grownCap_ge _ _ _ _
  · rw [Lib.bytesWorld_size]; omega
  · have hj2 : j < s.size := by
      rcases Nat.lt_or_ge j s.size with h | h
      · exact h
      · rw [List.getElem?_eq_none (by rw [bv_length, hsz]; exact h)] at hj; cases hj
    rw [Nat.zero_add, Lib.bytesWorld_cell w _ s j hj2, ← hj, bv_get _ j (by rw [hsz]; exact hj2)]
    simp [List.getD, hj2]
end Go.Proofs.YtafkbodmiblbnaaDoor
/- Contracts of the small functions on bytes: EqBytes, CopyBytes, slices.Grow, slices.Concat, slices.Clone. -/
namespace Go.Proofs.YtafkbodmiblbnaaDoor
open Go.RowKit
set_option linter.unusedVariables false

theorem info8 : (Tryd.prog.info? 5).map (fun i => (i.zero, i.size, i.bytes)) = some (some (.int .u8 0), 1, 1) := by kernel_rfl

theorem eqBytes_any (a b : Value) (la lb : List UInt8) (w : World) (ha : Sl w a (bv la)) (hb : Sl w b (bv lb)) :
    Calls Tryd.prog 17 #[a, b] w fun e w' => e = .returned (.bool (la == lb)) ∧ w = w' := by
  have ca := conv_bytes (P := Tryd.prog) Tryd.underlying24 Tryd.underlying5 Tryd.underlying9 ha
  have cb := conv_bytes (P := Tryd.prog) Tryd.underlying24 Tryd.underlying5 Tryd.underlying9 hb
  clear ha hb
  go_enter Tryd.func17, Tryd.ntmps17
  go_wp2
  go_ret
  exact ⟨rfl, rfl⟩

/-- One append of what reads as bytes. -/
theorem append8 {w : World} {ty : TypeId} {base : Nat} {v x : Value} {xs ys : List UInt8} (hown : Own w base 5 v (bv xs)) (hx : Sl w x (bv ys)) (hlen : xs.length + ys.length ≤ 2199023255552) (hbase : base ≤ w.heap.size) :
    ∃ v' w', (Builtin.append_ #[24, 24] ty #[v, x]).run Tryd.prog w = .ok v' w' ∧ Own w' base 5 v' (bv (xs ++ ys)) ∧ w.grownBy w' v.ownBlock ∧ (v' = .slice none 0 0 → v = .slice none 0 0) := by
  obtain ⟨i0, hi, hz0, hz1, hz2⟩ := info_parts info8
  rw [bv_append]
  exact run_append_sl (P := Tryd.prog) Tryd.underlying24 hi hz0 hz1 (by omega) rfl hown hx (bv_one ys) (by rw [bv_length, bv_length]; exact hlen) hbase

theorem own_nil (w : World) (base : Nat) : Own w base 5 (.slice none 0 0) (bv []) := World.ownsRow_nil w base 5 1

theorem copyBytes_any (v : Value) (l : List UInt8) (w : World) (h : Sl w v (bv l)) (hlen : l.length ≤ 2199023255552) :
    Calls Tryd.prog 51 #[v] w fun e w' => (∃ v', e = .returned v' ∧ Own w' w.heap.size 5 v' (bv l)) ∧ Below w.heap.size w w' := by
  obtain ⟨v', w', hr, ho, hg, _⟩ := append8 (ty := 24) (own_nil w w.heap.size) h (by simpa using hlen) (Nat.le_refl _)
  have hb := below_grown hg (Nat.le_refl _) (by intro k hk; cases hk)
  rw [List.nil_append] at ho
  have Hr := Lib.hid hr
  clear h hg hr
  go_enter Tryd.func51, Tryd.ntmps51
  go_wp2_with (at_builtin; refine wpList_append_run rfl _ _ _ _ rfl rfl rfl Hr.out ?_)
  go_ret
  exact ⟨⟨v', rfl, ho⟩, hb⟩

theorem clone_any (v : Value) (l : List UInt8) (w : World) (h : Sl w v (bv l)) (hlen : l.length ≤ 2199023255552) :
    Calls Tryd.prog 45 #[v] w fun e w' => (∃ v', e = .returned v' ∧ Own w' w.heap.size 5 v' (bv l)) ∧ Below w.heap.size w w' := by
  have h' := Lib.hid h
  have hL := h.len
  rw [bv_length] at hL
  obtain ⟨a, c, rfl⟩ := hL
  cases a with
  | none =>
    have hx : l = [] ∧ c = 0 := by
      rcases h with (⟨hv, hx⟩ | ⟨b, off, cap, hv, _⟩) | ⟨x, c, hv, hx⟩
      · simp only [Value.slice.injEq] at hv
        exact ⟨(bv_nil_iff l).1 hx, hv.2.2⟩
      · simp at hv
      · simp at hv
    obtain ⟨rfl, rfl⟩ := hx
    rw [List.length_nil]
    have e1 := fun w => Lib.run_eql_slice_nil (P := Tryd.prog) w 24 5 none 0 0 0 0 Tryd.underlying24
    go_enter Tryd.func45, Tryd.ntmps45
    go_wp2
    go_ret
    exact ⟨⟨_, rfl, own_nil w _⟩, Below.refl _ _⟩
  | some x =>
    have e1 := fun w => Lib.run_eql_slice_nil (P := Tryd.prog) w 24 5 (some x) l.length c 0 0 Tryd.underlying24
    clear h
    have h0 : Own (w.alloc (.cells #[] 5)) w.heap.size 5 (.slice (some ⟨w.heap.size, 0, none⟩) 0 0) (bv []) := World.ownsRow_lit w #[] 0 (Nat.le_refl _) (by simp) rfl
    obtain ⟨v', w', hr, ho, hg, _⟩ := append8 (ty := 24) h0 (h'.out.below ((Below.refl w.heap.size w).alloc (Nat.le_refl _) _)) (by simpa using hlen) (by simp)
    have hb : Below w.heap.size w w' := ((Below.refl w.heap.size w).alloc (Nat.le_refl _) _).trans (below_grown hg (by simp) (by intro k hk; simp [Value.ownBlock] at hk; omega))
    rw [List.nil_append] at ho
    have H1 := Lib.hid hr
    clear hr hg h' h0
    go_enter Tryd.func45, Tryd.ntmps45
    go_wp2_with (at_builtin; refine wpList_append_run rfl _ _ _ _ rfl rfl rfl H1.out ?_)
    go_ret
    exact ⟨⟨v', rfl, ho⟩, hb⟩

end Go.Proofs.YtafkbodmiblbnaaDoor
/- Contract of slices.Grow at bytes. -/
namespace Go.Proofs.YtafkbodmiblbnaaDoor
open Go.RowKit
set_option linter.unusedVariables false
theorem grow_zero (w : World) :
    Calls Tryd.prog 67 #[.slice none 0 0, .int .i64 0] w fun e w' => (∃ v', e = .returned v' ∧ Own w' w.heap.size 5 v' (bv [])) ∧ Below w.heap.size w w' := by
  go_enter Tryd.func67, Tryd.ntmps67
  go_wp2
  go_ret
  exact ⟨⟨_, rfl, own_nil w _⟩, Below.refl _ _⟩

theorem own_grown (w : World) (n : Nat) (hn : n ≤ 2199023255552) :
    Own (w.drew.alloc (.cells (Builtin.zeroCells (Value.int .u8 0).cells n ++ Builtin.zeroCells (Value.int .u8 0).cells (grownCap w n 0 5 - n)) 5)) w.heap.size 5
      (.slice (some ⟨w.heap.size, 0, none⟩) 0 (grownCap w n 0 5)) (bv []) := by
  have hge := grownCap_ge w n 0 5
  have hcm := grownCap_le_maxLen w n 0 5 (by unfold maxLen; omega)
  refine World.ownsRow_made w.drew _ _ (Nat.le_refl _) hcm ?_
  simp only [Array.size_append, size_zeroCells]
  show n * 1 + _ * 1 = _
  omega

set_option maxRecDepth 100000 in
theorem grow_pos (n : Nat) (h0 : 0 < n) (hn : n ≤ 2199023255552) (w : World) :
    Calls Tryd.prog 67 #[.slice none 0 0, .int .i64 n] w fun e w' => (∃ v', e = .returned v' ∧ Own w' w.heap.size 5 v' (bv [])) ∧ Below w.heap.size w w' := by
  obtain ⟨i0, hi, hz0, hz1, hz2⟩ := info_parts info8
  have hr := Lib.run_append_nil_zeros (P := Tryd.prog) w 24 3 24 5 i0 _ .i64 .i64 Tryd.underlying24 Tryd.underlying3 hi hz0 n h0 (by omega) (by omega) (by rw [hz2]; omega)
  have ho := own_grown w n hn
  have hb : Below w.heap.size w (w.drew.alloc (.cells (Builtin.zeroCells (Value.int .u8 0).cells n ++ Builtin.zeroCells (Value.int .u8 0).cells (grownCap w n 0 5 - n)) 5)) := ((Below.refl _ w).drew).alloc (Nat.le_refl _) _
  generalize (w.drew.alloc (.cells (Builtin.zeroCells (Value.int .u8 0).cells n ++ Builtin.zeroCells (Value.int .u8 0).cells (grownCap w n 0 5 - n)) 5)) = w1 at *
  have hge := grownCap_ge w n 0 5
  generalize grownCap w n 0 5 = cap at *
  have H := Lib.hid hr
  clear hi hz0 hz1 hz2 hr
  go_enter Tryd.func67, Tryd.ntmps67
  go_wp2_with (at_builtin; refine wpList_append_run rfl _ _ _ _ rfl rfl rfl H.out ?_)
  go_ret
  exact ⟨⟨_, rfl, ho⟩, hb⟩

theorem grow_any (n : Nat) (hn : n ≤ 2199023255552) (w : World) :
    Calls Tryd.prog 67 #[.slice none 0 0, .int .i64 n] w fun e w' => (∃ v', e = .returned v' ∧ Own w' w.heap.size 5 v' (bv [])) ∧ Below w.heap.size w w' := by
  by_cases h : n = 0
  · subst h; exact grow_zero w
  · exact grow_pos n (by omega) hn w
end Go.Proofs.YtafkbodmiblbnaaDoor
/- Contract of slices.Concat at []byte: the bytes of all of its arguments, one behind the other, in new memory. -/
namespace Go.Proofs.YtafkbodmiblbnaaDoor
open Go.RowKit
set_option linter.unusedVariables false

/-- How many bytes the first k have. -/
def sumLen (ls : List (List UInt8)) : Nat := ls.flatten.length
theorem take_succ_flat (ls : List (List UInt8)) (k : Nat) (h : k < ls.length) : (ls.take (k + 1)).flatten = (ls.take k).flatten ++ ls[k] := by
  rw [List.take_succ_eq_append_getElem h, List.flatten_append]; simp
theorem sumLen_succ (ls : List (List UInt8)) (k : Nat) (h : k < ls.length) : sumLen (ls.take (k + 1)) = sumLen (ls.take k) + ls[k].length := by
  unfold sumLen; rw [take_succ_flat ls k h, List.length_append]
theorem sumLen_take (ls : List (List UInt8)) (k : Nat) : sumLen (ls.take k) ≤ sumLen ls := by
  unfold sumLen
  conv => rhs; rw [← List.take_append_drop k ls, List.flatten_append, List.length_append]
  omega

/-- The slices, each of which reads as bytes. -/
def Sls (w : World) (vs : List Value) (ls : List (List UInt8)) : Prop := vs.length = ls.length ∧ ∀ k (h : k < ls.length) v, vs[k]? = some v → Sl w v (bv ls[k])

set_option maxHeartbeats 400000 in
theorem concat_any (b off cap : Nat) (vs : List Value) (ls : List (List UInt8)) (w : World) (hc : ∀ j u, vs[j]? = some u → w.cell? ⟨b, off + j, none⟩ = some u) (hs : Sls w vs ls) (hn : ls.length ≤ 1000) (hlen : sumLen ls ≤ 2199023255552) :
    Calls Tryd.prog 47 #[.slice (some ⟨b, off, none⟩) ls.length cap] w fun e w' => (∃ v', e = .returned v' ∧ Own w' w.heap.size 5 v' (bv ls.flatten)) ∧ Below w.heap.size w w' := by
  obtain ⟨hvl, hsl⟩ := hs
  have Hc := Lib.hid hc
  have Hs := Lib.hid hsl
  have Hvl := Lib.hid hvl
  have Hlen := Lib.hid hlen
  clear hc hsl hvl hlen
  go_enter Tryd.func47, Tryd.ntmps47
  go_wp2_with fail
  go_loop [3, 11] (fun s i => ∃ k : Nat, k ≤ ls.length ∧ i = .int .i64 k ∧ s = .int .i64 (sumLen (ls.take k) : Nat)) (fun _ i => ls.length - (intOf i).toNat)
  case atStart => exact ⟨0, Nat.zero_le _, rfl, rfl⟩
  case round =>
    obtain ⟨k, hk, rfl, rfl⟩ := hrel
    by_cases hlt : k < ls.length
    · obtain ⟨u, hu⟩ : ∃ u, vs[k]? = some u := ⟨_, List.getElem?_eq_getElem (by rw [Hvl.out]; exact hlt)⟩
      have hcell := Hc.out k u hu
      obtain ⟨a, c, rfl⟩ := (Hs.out k hlt u hu).len
      clear hu
      have h1 := sumLen_succ ls k hlt
      have h2 := sumLen_take ls (k + 1)
      have h3 := Hlen.out
      rw [bv_length] at hcell
      generalize ls[k].length = m at *
      have HS := Lib.hid h1
      have hb1 : sumLen (ls.take k) + m ≤ 2199023255552 := by omega
      clear h1 h2 h3
      generalize sumLen (ls.take k) = s at *
      go_wp2
      go_round
      case rel => exact ⟨k + 1, by omega, by go_num, by rw [HS.out]; go_num⟩
      case measure => simp [intOf]; omega
    · have hs0 : sumLen (ls.take k) ≤ 2199023255552 := Nat.le_trans (sumLen_take ls k) Hlen.out
      generalize sumLen (ls.take k) = s at *
      go_wp2_with (go_at_call 67; refine (grow_any s hs0 _).mono ?_; rintro e w1 ⟨⟨v1, rfl, ho1⟩, hb1⟩)
      go_loopw [6, 27] (fun v i wr => ∃ k : Nat, k ≤ ls.length ∧ i = .int .i64 k ∧ Own wr w.heap.size 5 v (bv (ls.take k).flatten) ∧ Below w.heap.size w wr) (fun _ i _ => ls.length - (intOf i).toNat)
      case atStart => exact ⟨0, Nat.zero_le _, rfl, ho1, hb1⟩
      case round =>
        clear ho1 hb1
        obtain ⟨k, hk, rfl, ho, hbl⟩ := hrel
        by_cases hlt : k < ls.length
        · obtain ⟨u, hu⟩ : ∃ u, vs[k]? = some u := ⟨_, List.getElem?_eq_getElem (by rw [Hvl.out]; exact hlt)⟩
          have hcell := cell_later hbl (Hc.out k u hu)
          have hsl := (Hs.out k hlt u hu).below hbl
          have h1 := take_succ_flat ls k hlt
          have h2 : (ls.take k).flatten.length + ls[k].length ≤ 2199023255552 := by
            have := sumLen_succ ls k hlt
            have := sumLen_take ls (k + 1)
            have := Hlen.out
            unfold sumLen at *; omega
          obtain ⟨v', w', hr, ho', hg, _⟩ := append8 (ty := 24) ho hsl h2 hbl.size
          have hbl' := hbl.grown hg hbl.size (fun g hg' => (ho.lt g hg').1)
          rw [← h1] at ho'
          have H := Lib.hid hr
          clear hr hg h1 h2 hsl ho hbl hu
          go_wp2_with (at_builtin; refine wpList_append_run rfl _ _ _ _ rfl rfl rfl H.out ?_)
          go_roundw
          case rel => exact ⟨k + 1, by omega, by go_num, ho', hbl'⟩
          case measure => simp [intOf]; omega
        · have : k = ls.length := by omega
          rw [List.take_of_length_le (by omega)] at ho
          clear this
          go_wp2
          go_ret
          exact ⟨⟨_, rfl, ho⟩, hbl⟩
end Go.Proofs.YtafkbodmiblbnaaDoor
