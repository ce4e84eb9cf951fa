/- Contract of slices.Concat at []byte: the bytes of all of its arguments, one behind the other, in new memory. -/
import Derived.Test.YtfjodadmcfdlpaaDoorSlices
import Derived.Test.YtfjodadmcfdlpaaDoorGrow
namespace Go.Proofs.YtfjodadmcfdlpaaDoor
open Go.RowKit
set_option linter.unusedVariables false

/-- How many bytes the first k have. -/
def sumLen (ls : List (List UInt8)) : Nat := ls.flatten.length
theorem take_succ_flat (ls : List (List UInt8)) (k : Nat) (h : k < ls.length) : (ls.take (k + 1)).flatten = (ls.take k).flatten ++ ls[k] := by
  rw [List.take_succ_eq_append_getElem h, List.flatten_append]; simp
theorem sumLen_succ (ls : List (List UInt8)) (k : Nat) (h : k < ls.length) : sumLen (ls.take (k + 1)) = sumLen (ls.take k) + ls[k].length := by
  unfold sumLen; rw [take_succ_flat ls k h, List.length_append]
theorem sumLen_take (ls : List (List UInt8)) (k : Nat) : sumLen (ls.take k) ≤ sumLen ls := by
  unfold sumLen
  conv => rhs; rw [← List.take_append_drop k ls, List.flatten_append, List.length_append]
  omega

/-- The slices, each of which reads as bytes. -/
def Sls (w : World) (vs : List Value) (ls : List (List UInt8)) : Prop := vs.length = ls.length ∧ ∀ k (h : k < ls.length) v, vs[k]? = some v → Sl w v (bv ls[k])

set_option maxHeartbeats 400000 in
theorem concat_any (b off cap : Nat) (vs : List Value) (ls : List (List UInt8)) (w : World) (hc : ∀ j u, vs[j]? = some u → w.cell? ⟨b, off + j, none⟩ = some u) (hs : Sls w vs ls) (hn : ls.length ≤ 1000) (hlen : sumLen ls ≤ 2199023255552) :
    Calls Tryd.prog 66 #[.slice (some ⟨b, off, none⟩) ls.length cap] w fun e w' => (∃ v', e = .returned v' ∧ Own w' w.heap.size 5 v' (bv ls.flatten)) ∧ Below w.heap.size w w' := by
  obtain ⟨hvl, hsl⟩ := hs
  have Hc := Lib.hid hc
  have Hs := Lib.hid hsl
  have Hvl := Lib.hid hvl
  have Hlen := Lib.hid hlen
  clear hc hsl hvl hlen
  go_enter Tryd.func66, Tryd.ntmps66
  go_wp2_with fail
  go_loop [3, 11] (fun s i => ∃ k : Nat, k ≤ ls.length ∧ i = .int .i64 k ∧ s = .int .i64 (sumLen (ls.take k) : Nat)) (fun _ i => ls.length - (intOf i).toNat)
  case atStart => exact ⟨0, Nat.zero_le _, rfl, rfl⟩
  case round =>
    obtain ⟨k, hk, rfl, rfl⟩ := hrel
    by_cases hlt : k < ls.length
    · obtain ⟨u, hu⟩ : ∃ u, vs[k]? = some u := ⟨_, List.getElem?_eq_getElem (by rw [Hvl.out]; exact hlt)⟩
      have hcell := Hc.out k u hu
      obtain ⟨a, c, rfl⟩ := (Hs.out k hlt u hu).len
      clear hu
      have h1 := sumLen_succ ls k hlt
      have h2 := sumLen_take ls (k + 1)
      have h3 := Hlen.out
      rw [bv_length] at hcell
      generalize ls[k].length = m at *
      have HS := Lib.hid h1
      have hb1 : sumLen (ls.take k) + m ≤ 2199023255552 := by omega
      clear h1 h2 h3
      generalize sumLen (ls.take k) = s at *
      go_wp2
      go_round
      case rel => exact ⟨k + 1, by omega, by go_num, by rw [HS.out]; go_num⟩
      case measure => simp [intOf]; omega
    · have hs0 : sumLen (ls.take k) ≤ 2199023255552 := Nat.le_trans (sumLen_take ls k) Hlen.out
      generalize sumLen (ls.take k) = s at *
      go_wp2_with (go_at_call 81; refine (grow_any s hs0 _).mono ?_; rintro e w1 ⟨⟨v1, rfl, ho1⟩, hb1⟩)
      go_loopw [6, 27] (fun v i wr => ∃ k : Nat, k ≤ ls.length ∧ i = .int .i64 k ∧ Own wr w.heap.size 5 v (bv (ls.take k).flatten) ∧ Below w.heap.size w wr) (fun _ i _ => ls.length - (intOf i).toNat)
      case atStart => exact ⟨0, Nat.zero_le _, rfl, ho1, hb1⟩
      case round =>
        clear ho1 hb1
        obtain ⟨k, hk, rfl, ho, hbl⟩ := hrel
        by_cases hlt : k < ls.length
        · obtain ⟨u, hu⟩ : ∃ u, vs[k]? = some u := ⟨_, List.getElem?_eq_getElem (by rw [Hvl.out]; exact hlt)⟩
          have hcell := cell_later hbl (Hc.out k u hu)
          have hsl := (Hs.out k hlt u hu).below hbl
          have h1 := take_succ_flat ls k hlt
          have h2 : (ls.take k).flatten.length + ls[k].length ≤ 2199023255552 := by
            have := sumLen_succ ls k hlt
            have := sumLen_take ls (k + 1)
            have := Hlen.out
            unfold sumLen at *; omega
          obtain ⟨v', w', hr, ho', hg, _⟩ := append8 (ty := 28) ho hsl h2 hbl.size
          have hbl' := hbl.grown hg hbl.size (fun g hg' => (ho.lt g hg').1)
          rw [← h1] at ho'
          have H := Lib.hid hr
          clear hr hg h1 h2 hsl ho hbl hu
          go_wp2_with (at_builtin; refine wpList_append_run rfl _ _ _ _ rfl rfl rfl H.out ?_)
          go_roundw
          case rel => exact ⟨k + 1, by omega, by go_num, ho', hbl'⟩
          case measure => simp [intOf]; omega
        · have : k = ls.length := by omega
          rw [List.take_of_length_le (by omega)] at ho
          clear this
          go_wp2
          go_ret
          exact ⟨⟨_, rfl, ho⟩, hbl⟩
end Go.Proofs.YtfjodadmcfdlpaaDoor
