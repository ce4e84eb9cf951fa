/- Contracts of the document's answer for the reader: Int and Text. -/
import Derived.Test.YtlfccpmjlgcjpaaRefVarint
namespace Go.Proofs.Ytlfccpmjlgcjpaa
open Go.RowKit
set_option linter.unusedVariables false
theorem rrvarint_any (g : Nat) (rest : List UInt8) (e : Int) (w : World) (h : Rr w g rest e) :
    Calls Try.prog 46 #[.pointer (some ⟨g, 0, none⟩)] w fun r w' => r = .returned (.int .u64 (rdVe rest e).1) ∧ Rr w' g (rdVe rest e).2.1 (rdVe rest e).2.2 ∧ Upd g w w' := by
  unfold rdVe
  by_cases he : e = 0
  · subst he; exact rrvarint_ok g rest w h
  · rw [if_neg he]
    refine (rrvarint_err g rest e w h he).mono ?_
    rintro r w' ⟨rfl, rfl⟩
    exact ⟨rfl, h, Upd.refl _ _⟩
theorem rrint_any (g : Nat) (rest : List UInt8) (e : Int) (w : World) (h : Rr w g rest e) :
    Calls Try.prog 47 #[.pointer (some ⟨g, 0, none⟩)] w fun r w' => r = .returned (.int .i64 (zag (rdVe rest e).1)) ∧ Rr w' g (rdVe rest e).2.1 (rdVe rest e).2.2 ∧ Upd g w w' := by
  have hu : U64 (rdVe rest e).1 := by unfold rdVe; split; exact rdV_u64 _; exact Nat.zero_lt_succ _
  have H := Lib.hid h
  clear h
  go_enter Try.func47, Try.ntmps47
  go_wp2_with fail
  refine (rrvarint_any g rest e _ H.out).mono ?_
  rintro r w1 ⟨rfl, hr1, hu1⟩
  go_wp2_with fail
  refine (rzag_any _ _ hu).mono ?_
  rintro r w2 ⟨rfl, rfl⟩
  go_wp2
  go_ret
  exact ⟨rfl, hr1, hu1⟩
theorem Rr.len {w : World} {g : Nat} {rest : List UInt8} {e : Int} (h : Rr w g rest e) :
    ∃ a c, w.cell? ⟨g, 0, none⟩ = some (.slice a rest.length c) ∧ w.cell? ⟨g, 1, none⟩ = some (.int .i64 e) ∧ w.frozen? ⟨g, 0, none⟩ = false ∧ w.frozen? ⟨g, 1, none⟩ = false ∧ SlS w (.slice a rest.length c) (bv rest) ∧ (∀ n c' b, (Value.slice a n c').ownBlock = some b → b < g) := by
  obtain ⟨v, c0, c1, f0, f1, hs, hne⟩ := h.cells
  obtain ⟨a, c, rfl⟩ := hs.len
  rw [bv_length] at c0 hs
  refine ⟨a, c, c0, c1, f0, f1, hs, fun n c' => ?_⟩
  cases a with
  | none => simp [Value.ownBlock]
  | some a => simpa [Value.ownBlock] using hne
set_option maxRecDepth 100000 in
theorem rrtext_ok (g : Nat) (rest : List UInt8) (w : World) (h : Rr w g rest 0) (hlen : rest.length ≤ 1099511627776) :
    Calls Try.prog 48 #[.pointer (some ⟨g, 0, none⟩)] w fun r w' => (∃ v', r = .returned v' ∧ Own w' w.heap.size 5 v' (bv (rdT rest).1)) ∧ Rr w' g (rdT rest).2.1 (rdT rest).2.2 ∧ Upd g w w' := by
  have H := Lib.hid h
  have hlt := h.lt
  have hT : rdT rest = if (rdV rest).2.2 ≠ 0 then ([], (rdV rest).2.1, (rdV rest).2.2)
    else if (rdV rest).2.1.length < (rdV rest).1 then ([], [], 3)
    else ((rdV rest).2.1.take (rdV rest).1, (rdV rest).2.1.drop (rdV rest).1, 0) := rfl
  clear h
  go_enter Try.func48, Try.ntmps48
  go_wp2_with fail
  refine (rrvarint_ok g rest _ H.out).mono ?_
  rintro r w1 ⟨rfl, hr1, hu1⟩
  have hl2 : (rdV rest).2.1.length ≤ rest.length := rdV_len _
  have hu : U64 (rdV rest).1 := rdV_u64 _
  generalize rdV rest = q at *
  obtain ⟨u, l, e⟩ := q
  dsimp only at *
  have H1 := Lib.hid hr1
  clear hr1
  by_cases he : e = 0
  · subst he
    rw [if_neg (by simp)] at hT
    obtain ⟨a, c, c0, c1, f0, f1, hs, hne⟩ := H1.out.len
    have Hs := Lib.hid hs
    clear hs
    by_cases hul : l.length < u
    · rw [if_pos hul] at hT
      have HT := Lib.hid hT
      clear hT
      go_wp2_with fail
      refine (rrfail_any g l 3 _ H1.out).mono ?_
      rintro e w2 ⟨⟨x, rfl⟩, hr2, hu2⟩
      clear c0 c1 f0 f1
      obtain ⟨v2, c0, c1, _⟩ := hr2.cells
      have H2 := Lib.hid hr2
      clear hr2
      go_wp2
      go_ret
      rw [HT.out]
      exact ⟨⟨_, rfl, own_nil _ _⟩, H2.out, hu1.trans hu2⟩
    · rw [if_neg hul] at hT
      have HT := Lib.hid hT
      clear hT
      rcases sl_form Hs.out with ⟨rfl, rfl, rfl⟩ | ⟨b, off, rfl, hle⟩
      · obtain rfl : u = 0 := by simp at hul; omega
        clear hul
        go_wp2_with fail
        refine (copyBytes_any _ [] _ (sl_nil _) (by simp)).mono ?_
        rintro e w2 ⟨⟨v2, rfl, ho2⟩, hb2⟩
        have hg1 := H1.out.lt
        have c0' := (hb2.cell (p := ⟨g, 0, none⟩) hg1).trans c0
        have f0' := (hb2.frozen (p := ⟨g, 0, none⟩) hg1).trans f0
        have H2 := Lib.hid (H1.out.keep hb2)
        clear c0 f0 c1 f1
        have hsl := sls_nil w2
        go_wp2
        go_ret
        rw [HT.out]
        exact ⟨⟨v2, rfl, (ho2.base hu1.size).upd ((Upd.refl g w2).setCell 0 _) (ho2.ne hg1)⟩, H2.out.set0 hsl (hne 0 0), hu1.trans ((below_upd hb2 g).setCell 0 _)⟩
      · go_wp2_with fail
        refine (copyBytes_any _ (l.take u) _ (sl_take Hs.out (by omega)).sl (by simp; omega)).mono ?_
        rintro e w2 ⟨⟨v2, rfl, ho2⟩, hb2⟩
        have hg1 := H1.out.lt
        have c0' := (hb2.cell (p := ⟨g, 0, none⟩) hg1).trans c0
        have f0' := (hb2.frozen (p := ⟨g, 0, none⟩) hg1).trans f0
        have H2 := Lib.hid (H1.out.keep hb2)
        clear c0 f0 c1 f1
        by_cases hcap : c = u
        · have hsl := sl_from_cap (Hs.out.below hb2) hcap (show u ≤ l.length by omega)
          have Hsl := Lib.hid hsl
          have Hcap := Lib.hid hcap
          clear hsl
          go_wp2
          go_ret
          rw [HT.out]
          exact ⟨⟨v2, rfl, (ho2.base hu1.size).upd ((Upd.refl g w2).setCell 0 _) (ho2.ne hg1)⟩, H2.out.set0 Hsl.out (hne 0 0), hu1.trans ((below_upd hb2 g).setCell 0 _)⟩
        · have hsl := sl_from (Hs.out.below hb2) (show u ≤ l.length by omega) hcap
          go_wp2
          go_ret
          rw [HT.out]
          exact ⟨⟨v2, rfl, (ho2.base hu1.size).upd ((Upd.refl g w2).setCell 0 _) (ho2.ne hg1)⟩, H2.out.set0 hsl (hne 0 0), hu1.trans ((below_upd hb2 g).setCell 0 _)⟩
  · rw [if_pos he] at hT
    have HT := Lib.hid hT
    have he1 : (e == 0) = false := beq_eq_false_iff_ne.2 he
    have he' : (e != 0) = true := by rw [bne_iff_ne]; exact he
    obtain ⟨v1, c0, c1, _⟩ := H1.out.cells
    clear hT
    go_wp2
    go_ret
    rw [HT.out]
    exact ⟨⟨_, rfl, own_nil _ _⟩, H1.out, hu1⟩
theorem rrtext_err (g : Nat) (rest : List UInt8) (e : Int) (w : World) (h : Rr w g rest e) (he : ¬ e = 0) :
    Calls Try.prog 48 #[.pointer (some ⟨g, 0, none⟩)] w fun r w' => r = .returned (.slice none 0 0) ∧ Rr w' g rest e ∧ Upd g w w' := by
  have H := Lib.hid h
  have he1 : (e == 0) = false := beq_eq_false_iff_ne.2 he
  have he' : (e != 0) = true := by rw [bne_iff_ne]; exact he
  obtain ⟨v1, c0, c1, _⟩ := h.cells
  have He := Lib.hid he
  clear h he
  go_enter Try.func48, Try.ntmps48
  go_wp2_with (go_at_call 46; refine (rrvarint_err _ _ _ _ H.out He.out).mono ?_; rintro r w1 ⟨rfl, rfl⟩)
  go_ret
  exact ⟨rfl, H.out, Upd.refl _ _⟩
theorem rrtext_any (g : Nat) (rest : List UInt8) (e : Int) (w : World) (h : Rr w g rest e) (hlen : rest.length ≤ 1099511627776) :
    Calls Try.prog 48 #[.pointer (some ⟨g, 0, none⟩)] w fun r w' => (∃ v', r = .returned v' ∧ Own w' w.heap.size 5 v' (bv (rdTe rest e).1)) ∧ Rr w' g (rdTe rest e).2.1 (rdTe rest e).2.2 ∧ Upd g w w' := by
  unfold rdTe
  by_cases he : e = 0
  · subst he; exact rrtext_ok g rest w h hlen
  · rw [if_neg he]
    refine (rrtext_err g rest e w h he).mono ?_
    rintro r w' ⟨rfl, h1, h2⟩
    exact ⟨⟨_, rfl, own_nil _ _⟩, h1, h2⟩
end Go.Proofs.Ytlfccpmjlgcjpaa
