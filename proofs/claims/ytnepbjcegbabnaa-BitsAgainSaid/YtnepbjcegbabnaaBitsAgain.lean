/- The walk of BitsAgain: what can be read as a varint has just these bytes. -/
import Derived.Test.YtnepbjcegbabnaaVint
import Derived.Test.YtnepbjcegbabnaaWorks
namespace Go.Proofs.Ytnepbjcegbabnaa
open Go.RowKit
set_option linter.unusedVariables false

set_option maxHeartbeats 1000000 in
theorem again_walk (a : Option Addr) (c : Nat) (l : List UInt8) (w : World) (h : Sl w (.slice a l.length c) (bv l)) (hlc : l.length ≤ c) (hl : l.length ≤ 20) :
    Calls Try.prog 6 #[.slice a l.length c] w fun e w' => e = .returned (.bool true) ∧ Below w.heap.size w w' := by
  have H := Lib.hid h
  clear h
  go_enter Try.func6, Try.ntmps6
  go_wp2_with fail
  refine (read_any _ l _ H.out (by omega)).mono ?_
  rintro r0 w1 ⟨⟨g, rfl, hg, hr⟩, hb1⟩
  have Hr := Lib.hid hr
  clear hr
  go_wp2_with fail
  refine (rvarint_ok g l _ Hr.out).mono ?_
  rintro r0 w2 ⟨rfl, hr2, hu2⟩
  have herr := rdV_err l
  have hok := rdV_vint l
  have hu64 := rdV_u64 l
  have hbw2 : Below w.heap.size w w2 := hb1.trans (hu2.below hg hb1.size)
  generalize rdV l = q at *
  obtain ⟨u, l', e⟩ := q
  dsimp only at *
  have H2 := Lib.hid hr2
  clear hr2 Hr hb1 hu2
  by_cases he : e = 0
  · subst he
    have hl := hok l' u rfl
    clear herr hok
    have Hl := Lib.hid hl
    have hvl : (vint u).length ≤ (l).length := by rw [hl, List.length_append]; omega
    have hll : l'.length = (l).length - (vint u).length := by rw [hl, List.length_append]; omega
    have htk : (l).take (vint u).length = vint u := by rw [hl, List.take_left]
    have Hll := Lib.hid hll
    clear hl
    go_wp2_with (go_at_call 34; refine (err_any _ _ _ _ H2.out).mono ?_; rintro r0 w3 ⟨rfl, rfl⟩)
    refine (varint_any _ [] u _ (sl_nil _) hu64 (by decide)).mono ?_
    rintro r0 w4 ⟨⟨v4, rfl, ho4⟩, hb4⟩
    rw [List.nil_append] at ho4
    obtain ⟨a4, c4, rfl⟩ := ho4.sl.len
    rw [bv_length] at ho4 ⊢
    have Ho4 := Lib.hid ho4.sl
    have H4 := Lib.hid (H2.out.keep hb4)
    have hbw4 := below_step hbw2 hb4
    have hbt : (((l'.length : Nat) : Int) == ((l.length : Nat) : Int) - (((vint u).length : Nat) : Int)) = true := by rw [beq_iff_eq]; omega
    clear ho4 hb4 H2 hll
    have Hcmp := eqBytes_any (.slice a4 (vint u).length c4) (.slice a (vint u).length c) (vint u) (l.take (vint u).length) w4 Ho4.out ((sl_pre H.out hvl).keep hbw4.size (fun b _ hlt => hbw4.block b hlt))
    rw [htk, show (vint u == vint u) = true from beq_self_eq_true _] at Hcmp
    have HC := Lib.hid Hcmp
    clear Hcmp htk
    have hvc : (vint u).length ≤ c := by omega
    go_wp2_with (first | (go_at_call 33; refine (left_any _ _ _ _ H4.out).mono ?_; rintro r0 w5 ⟨rfl, rfl⟩) | (go_at_call 12; refine HC.out.mono ?_; rintro r0 w5 ⟨rfl, rfl⟩) | (go_at_call 27; refine (works_any _).mono ?_; rintro r0 w5 ⟨rfl, hb5⟩))
    go_ret
    exact ⟨rfl, below_step hbw4 hb5⟩
  · have he' : (e != 0) = true := by rw [bne_iff_ne]; exact he
    obtain ⟨rfl, rfl⟩ := herr he
    have hee : endErr [] e = e := by unfold endErr; simp
    have Hee := Lib.hid hee
    clear hok hee
    go_wp2_with (go_at_call 34; refine (err_any _ _ _ _ H2.out).mono ?_; rintro r0 w3 ⟨rfl, rfl⟩)
    go_wp2_with (first | (go_at_call 33; refine (left_any _ _ _ _ H2.out).mono ?_; rintro r0 w5 ⟨rfl, rfl⟩) | (go_at_call 34; refine (err_any _ _ _ _ H2.out).mono ?_; rintro r0 w5 ⟨rfl, rfl⟩) | (go_at_call 35; refine (end_any _ _ _ _ H2.out).mono ?_; rw [Hee.out]; rintro r0 w5 ⟨rfl, rfl⟩) | (go_at_call 27; refine (works_any _).mono ?_; rintro r0 w5 ⟨rfl, hb5⟩))
    go_ret
    exact ⟨rfl, below_step hbw2 hb5⟩
set_option maxHeartbeats 1000000 in
theorem again_walk20 (a : Option Addr) (c : Nat) (l : List UInt8) (w : World) (h : Sl w (.slice a l.length c) (bv l)) (hlc : l.length ≤ c) (hl : 20 < l.length) :
    Calls Try.prog 6 #[.slice a l.length c] w fun e w' => e = .returned (.bool true) ∧ Below w.heap.size w w' := by
  obtain ⟨m, hm, hs⟩ : ∃ m : List UInt8, m.length = 20 ∧ Sl w (.slice a 20 c) (bv m) := ⟨l.take 20, by rw [List.length_take]; omega, sl_pre h (by omega)⟩
  have H := Lib.hid hs
  have Hm := Lib.hid hm
  clear h hs hm
  go_enter Try.func6, Try.ntmps6
  go_wp2_with fail
  refine (read_any _ m _ H.out (by rw [Hm.out]; omega)).mono ?_
  rintro r0 w1 ⟨⟨g, rfl, hg, hr⟩, hb1⟩
  have Hr := Lib.hid hr
  clear hr
  go_wp2_with fail
  refine (rvarint_ok g m _ Hr.out).mono ?_
  rintro r0 w2 ⟨rfl, hr2, hu2⟩
  have herr := rdV_err m
  have hok := rdV_vint m
  have hu64 := rdV_u64 m
  have hbw2 : Below w.heap.size w w2 := hb1.trans (hu2.below hg hb1.size)
  generalize rdV m = q at *
  obtain ⟨u, l', e⟩ := q
  dsimp only at *
  have H2 := Lib.hid hr2
  clear hr2 Hr hb1 hu2
  by_cases he : e = 0
  · subst he
    have hl2 := hok l' u rfl
    clear herr hok
    have Hl := Lib.hid hl2
    have hvl : (vint u).length ≤ 20 := by rw [← Hm.out, hl2, List.length_append]; omega
    have hll : l'.length = 20 - (vint u).length := by rw [← Hm.out, hl2, List.length_append]; omega
    have htk : (m).take (vint u).length = vint u := by rw [hl2, List.take_left]
    have Hll := Lib.hid hll
    clear hl2
    go_wp2_with (go_at_call 34; refine (err_any _ _ _ _ H2.out).mono ?_; rintro r0 w3 ⟨rfl, rfl⟩)
    refine (varint_any _ [] u _ (sl_nil _) hu64 (by decide)).mono ?_
    rintro r0 w4 ⟨⟨v4, rfl, ho4⟩, hb4⟩
    rw [List.nil_append] at ho4
    obtain ⟨a4, c4, rfl⟩ := ho4.sl.len
    rw [bv_length] at ho4 ⊢
    have Ho4 := Lib.hid ho4.sl
    have H4 := Lib.hid (H2.out.keep hb4)
    have hbw4 := below_step hbw2 hb4
    have hbt : (((l'.length : Nat) : Int) == 20 - (((vint u).length : Nat) : Int)) = true := by rw [beq_iff_eq]; omega
    clear ho4 hb4 H2 hll
    have Hcmp := eqBytes_any (.slice a4 (vint u).length c4) (.slice a (vint u).length c) (vint u) (m.take (vint u).length) w4 Ho4.out ((sl_pre (by rw [Hm.out]; exact H.out) (by rw [Hm.out]; exact hvl)).keep hbw4.size (fun b _ hlt => hbw4.block b hlt))
    rw [htk, show (vint u == vint u) = true from beq_self_eq_true _] at Hcmp
    have HC := Lib.hid Hcmp
    clear Hcmp htk
    have hvc : (vint u).length ≤ c := by omega
    go_wp2_with (first | (go_at_call 33; refine (left_any _ _ _ _ H4.out).mono ?_; rintro r0 w5 ⟨rfl, rfl⟩) | (go_at_call 12; refine HC.out.mono ?_; rintro r0 w5 ⟨rfl, rfl⟩) | (go_at_call 27; refine (works_any _).mono ?_; rintro r0 w5 ⟨rfl, hb5⟩))
    go_ret
    exact ⟨rfl, below_step hbw4 hb5⟩
  · have he' : (e != 0) = true := by rw [bne_iff_ne]; exact he
    obtain ⟨rfl, rfl⟩ := herr he
    have hee : endErr [] e = e := by unfold endErr; simp
    have Hee := Lib.hid hee
    clear hok hee
    go_wp2_with (go_at_call 34; refine (err_any _ _ _ _ H2.out).mono ?_; rintro r0 w3 ⟨rfl, rfl⟩)
    go_wp2_with (first | (go_at_call 33; refine (left_any _ _ _ _ H2.out).mono ?_; rintro r0 w5 ⟨rfl, rfl⟩) | (go_at_call 34; refine (err_any _ _ _ _ H2.out).mono ?_; rintro r0 w5 ⟨rfl, rfl⟩) | (go_at_call 35; refine (end_any _ _ _ _ H2.out).mono ?_; rw [Hee.out]; rintro r0 w5 ⟨rfl, rfl⟩) | (go_at_call 27; refine (works_any _).mono ?_; rintro r0 w5 ⟨rfl, hb5⟩))
    go_ret
    exact ⟨rfl, below_step hbw2 hb5⟩

theorem again_all (a : Option Addr) (c : Nat) (l : List UInt8) (w : World) (h : Sl w (.slice a l.length c) (bv l)) (hlc : l.length ≤ c) :
    Calls Try.prog 6 #[.slice a l.length c] w fun e w' => e = .returned (.bool true) ∧ Below w.heap.size w w' := by
  by_cases hl : l.length ≤ 20
  · exact again_walk a c l w h hlc hl
  · exact again_walk20 a c l w h hlc (by omega)
end Go.Proofs.Ytnepbjcegbabnaa
