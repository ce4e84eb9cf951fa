/- Contracts of package bits: the reader's Text and Num. -/
import Derived.Test.YtfjodadmcfdlpaaDoorRdr
namespace Go.Proofs.YtfjodadmcfdlpaaDoor
open Go.RowKit
set_option linter.unusedVariables false
variable {Q : Nat → Prop}

/-- What a reader's Text makes of what is left. -/
def rdT (l : List UInt8) : List UInt8 × List UInt8 × Int :=
  if (rdV l).2.2 ≠ 0 then ([], (rdV l).2.1, (rdV l).2.2)
  else if (rdV l).2.1.length < (rdV l).1 then ([], [], 3)
  else ((rdV l).2.1.take (rdV l).1, (rdV l).2.1.drop (rdV l).1, 0)

theorem RdQ.len {w : World} {g : Nat} {rest : List UInt8} {e : Int} (h : RdQ Q w g rest e) :
    ∃ a c, w.cell? ⟨g, 0, none⟩ = some (.slice a rest.length c) ∧ w.cell? ⟨g, 1, none⟩ = some (.int .i64 e) ∧ w.frozen? ⟨g, 0, none⟩ = false ∧ w.frozen? ⟨g, 1, none⟩ = false ∧ SlS w (.slice a rest.length c) (bv rest) ∧ (∀ n c' b, (Value.slice a n c').ownBlock = some b → b < g ∧ Q b) := by
  obtain ⟨v, c0, c1, f0, f1, hs, hne⟩ := h.cells
  obtain ⟨a, c, rfl⟩ := hs.len
  rw [bv_length] at c0 hs
  refine ⟨a, c, c0, c1, f0, f1, hs, fun n c' => ?_⟩
  cases a with
  | none => simp [Value.ownBlock]
  | some a => simpa [Value.ownBlock] using hne

theorem sl_form {w : World} {a : Option Addr} {l : List UInt8} {c : Nat} (h : SlS w (.slice a l.length c) (bv l)) :
    (a = none ∧ l = [] ∧ c = 0) ∨ ∃ b off, a = some ⟨b, off, none⟩ ∧ l.length ≤ c := by
  rcases h with ⟨h, h2⟩ | ⟨b, off, cap, h, h1, _⟩
  · simp only [Value.slice.injEq] at h
    exact .inl ⟨h.1, (bv_nil_iff l).1 h2, h.2.2⟩
  · simp only [Value.slice.injEq] at h
    obtain ⟨rfl, _, rfl⟩ := h
    exact .inr ⟨b, off, rfl, by rw [bv_length] at h1; exact h1⟩

theorem sl_take {w : World} {b off c : Nat} {l : List UInt8} {u : Nat} (h : SlS w (.slice (some ⟨b, off, none⟩) l.length c) (bv l)) (hu : u ≤ l.length) :
    SlS w (.slice (some ⟨b, off, none⟩) u c) (bv (l.take u)) := by
  rcases h with ⟨h, _⟩ | ⟨b', off', cap, h, h1, h2, h3, h4⟩
  · simp at h
  · simp only [Value.slice.injEq, Option.some.injEq, Addr.mk.injEq, and_true] at h
    obtain ⟨⟨rfl, rfl⟩, _, rfl⟩ := h
    rw [bv_length] at h1
    refine .inr ⟨b, off, c, by rw [bv_length, List.length_take, Nat.min_eq_left hu], by rw [bv_length, List.length_take]; omega, h2, h3, fun j u' hj => h4 j u' ?_⟩
    rw [bv, List.map_take, List.getElem?_take] at hj
    split at hj
    · exact hj
    · cases hj

theorem sl_pre {w : World} {a : Option Addr} {c : Nat} {l : List UInt8} {u : Nat} (h : Sl w (.slice a l.length c) (bv l)) (hu : u ≤ l.length) : Sl w (.slice a u c) (bv (l.take u)) := by
  rcases h with h | ⟨x, c', hv, hx⟩
  · rcases sl_form h with ⟨rfl, rfl, rfl⟩ | ⟨b, off, rfl, _⟩
    · obtain rfl : u = 0 := by simpa using hu
      exact sl_nil w
    · exact (sl_take h hu).sl
  · obtain rfl := (bv_nil_iff l).1 hx
    obtain rfl : u = 0 := by simpa using hu
    exact .inr ⟨x, c', hv, by simp [bv]⟩

set_option maxRecDepth 100000 in
theorem rtext_ok (g : Nat) (rest : List UInt8) (w : World) (h : RdQ Q w g rest 0) (hlen : rest.length ≤ 1099511627776) :
    Calls Tryd.prog 52 #[.pointer (some ⟨g, 0, none⟩)] w fun r w' => (∃ v', r = .returned v' ∧ Own w' w.heap.size 5 v' (bv (rdT rest).1)) ∧ RdQ Q w' g (rdT rest).2.1 (rdT rest).2.2 ∧ Upd g w w' := by
  have H := Lib.hid h
  have hlt := h.lt
  have hT : rdT rest = if (rdV rest).2.2 ≠ 0 then ([], (rdV rest).2.1, (rdV rest).2.2)
    else if (rdV rest).2.1.length < (rdV rest).1 then ([], [], 3)
    else ((rdV rest).2.1.take (rdV rest).1, (rdV rest).2.1.drop (rdV rest).1, 0) := rfl
  clear h
  go_enter Tryd.func52, Tryd.ntmps52
  go_wp2_with fail
  refine (rvarint_ok g rest _ H.out).mono ?_
  rintro r w1 ⟨rfl, hr1, hu1⟩
  have hl2 : (rdV rest).2.1.length ≤ rest.length := rdV_len _
  have hu : U64 (rdV rest).1 := rdV_u64 _
  generalize rdV rest = q at *
  obtain ⟨u, l, e⟩ := q
  dsimp only at *
  have H1 := Lib.hid hr1
  clear hr1
  by_cases he : e = 0
  · subst he
    rw [if_neg (by simp)] at hT
    obtain ⟨a, c, c0, c1, f0, f1, hs, hne⟩ := H1.out.len
    have Hs := Lib.hid hs
    clear hs
    by_cases hul : l.length < u
    · rw [if_pos hul] at hT
      have HT := Lib.hid hT
      clear hT
      go_wp2_with (first | (go_at_call 72; refine (broken_any _ _ _ _ H1.out).mono ?_; rw [show ((0 : Int) != 0) = false from rfl]; rintro e w2 ⟨rfl, rfl⟩) | (go_at_call 74; refine (fail_any g l 0 3 _ H1.out).mono ?_; rintro e w2 ⟨⟨x, rfl⟩, hr2, hu2⟩))
      go_ret
      rw [HT.out]
      exact ⟨⟨_, rfl, own_nil _ _⟩, hr2, hu1.trans hu2⟩
    · rw [if_neg hul] at hT
      have HT := Lib.hid hT
      clear hT
      rcases sl_form Hs.out with ⟨rfl, rfl, rfl⟩ | ⟨b, off, rfl, hle⟩
      · obtain rfl : u = 0 := by simp at hul; omega
        clear hul
        go_wp2_with (go_at_call 72; refine (broken_any _ _ _ _ H1.out).mono ?_; rw [show ((0 : Int) != 0) = false from rfl]; rintro e w2 ⟨rfl, rfl⟩)
        refine (clone_any _ [] _ (sl_nil _) (by simp)).mono ?_
        rintro e w2 ⟨⟨v2, rfl, ho2⟩, hb2⟩
        have hg1 := H1.out.lt
        have c0' := (hb2.cell (p := ⟨g, 0, none⟩) hg1).trans c0
        have f0' := (hb2.frozen (p := ⟨g, 0, none⟩) hg1).trans f0
        have H2 := Lib.hid (H1.out.keep hb2)
        clear c0 f0 c1 f1
        have hsl := sls_nil w2
        go_wp2
        go_ret
        rw [HT.out]
        exact ⟨⟨v2, rfl, (ho2.base hu1.size).upd ((Upd.refl g w2).setCell 0 _) (ho2.ne hg1)⟩, H2.out.set0 hsl (hne 0 0), hu1.trans ((below_upd hb2 g).setCell 0 _)⟩
      · go_wp2_with (go_at_call 72; refine (broken_any _ _ _ _ H1.out).mono ?_; rw [show ((0 : Int) != 0) = false from rfl]; rintro e w2 ⟨rfl, rfl⟩)
        refine (clone_any _ (l.take u) _ (sl_take Hs.out (by omega)).sl (by simp; omega)).mono ?_
        rintro e w2 ⟨⟨v2, rfl, ho2⟩, hb2⟩
        have hg1 := H1.out.lt
        have c0' := (hb2.cell (p := ⟨g, 0, none⟩) hg1).trans c0
        have f0' := (hb2.frozen (p := ⟨g, 0, none⟩) hg1).trans f0
        have H2 := Lib.hid (H1.out.keep hb2)
        clear c0 f0 c1 f1
        by_cases hcap : c = u
        · have hsl := sl_from_cap (Hs.out.below hb2) hcap (show u ≤ l.length by omega)
          have Hsl := Lib.hid hsl
          have Hcap := Lib.hid hcap
          clear hsl
          go_wp2
          go_ret
          rw [HT.out]
          exact ⟨⟨v2, rfl, (ho2.base hu1.size).upd ((Upd.refl g w2).setCell 0 _) (ho2.ne hg1)⟩, H2.out.set0 Hsl.out (hne 0 0), hu1.trans ((below_upd hb2 g).setCell 0 _)⟩
        · have hsl := sl_from (Hs.out.below hb2) (show u ≤ l.length by omega) hcap
          go_wp2
          go_ret
          rw [HT.out]
          exact ⟨⟨v2, rfl, (ho2.base hu1.size).upd ((Upd.refl g w2).setCell 0 _) (ho2.ne hg1)⟩, H2.out.set0 hsl (hne 0 0), hu1.trans ((below_upd hb2 g).setCell 0 _)⟩
  · rw [if_pos he] at hT
    have HT := Lib.hid hT
    have he' : (e != 0) = true := by rw [bne_iff_ne]; exact he
    clear hT
    go_wp2_with (go_at_call 72; refine (broken_any _ _ _ _ H1.out).mono ?_; rw [he']; rintro e w2 ⟨rfl, rfl⟩)
    go_ret
    rw [HT.out]
    exact ⟨⟨_, rfl, own_nil _ _⟩, H1.out, hu1⟩

/-- The reader's Text, whatever its error. -/
def rdTe (rest : List UInt8) (e : Int) : List UInt8 × List UInt8 × Int := if e = 0 then rdT rest else ([], rest, e)
theorem rtext_err (g : Nat) (rest : List UInt8) (e : Int) (w : World) (h : RdQ Q w g rest e) (he : ¬ e = 0) :
    Calls Tryd.prog 52 #[.pointer (some ⟨g, 0, none⟩)] w fun r w' => r = .returned (.slice none 0 0) ∧ RdQ Q w' g rest e ∧ Upd g w w' := by
  have H := Lib.hid h
  have h1 : (e != 0) = true := by rw [bne_iff_ne]; exact he
  clear h
  go_enter Tryd.func52, Tryd.ntmps52
  go_wp2_with (first | (go_at_call 53; refine (rvarint_err _ _ _ _ H.out he).mono ?_; rintro r w1 ⟨rfl, rfl⟩) | (go_at_call 72; refine (broken_any _ _ _ _ H.out).mono ?_; rw [h1]; rintro r w1 ⟨rfl, rfl⟩))
  go_ret
  exact ⟨rfl, H.out, Upd.refl _ _⟩
theorem rtext_any (g : Nat) (rest : List UInt8) (e : Int) (w : World) (h : RdQ Q w g rest e) (hlen : rest.length ≤ 1099511627776) :
    Calls Tryd.prog 52 #[.pointer (some ⟨g, 0, none⟩)] w fun r w' => (∃ v', r = .returned v' ∧ Own w' w.heap.size 5 v' (bv (rdTe rest e).1)) ∧ RdQ Q w' g (rdTe rest e).2.1 (rdTe rest e).2.2 ∧ Upd g w w' := by
  unfold rdTe
  by_cases he : e = 0
  · subst he; exact rtext_ok g rest w h hlen
  · rw [if_neg he]
    refine (rtext_err g rest e w h he).mono ?_
    rintro r w' ⟨rfl, h1, h2⟩
    exact ⟨⟨_, rfl, own_nil _ _⟩, h1, h2⟩

/-- What a reader's Num makes of what is left. -/
def beVal (l : List UInt8) : Nat := l.foldl (fun x c => x * 256 + c.toNat) 0
theorem beVal_snoc (l : List UInt8) (c : UInt8) : beVal (l ++ [c]) = beVal l * 256 + c.toNat := by simp [beVal]
theorem beVal_lt (l : List UInt8) : beVal l < 256 ^ l.length := by
  have h : ∀ (n : Nat) (l : List UInt8), l.length = n → beVal l < 256 ^ n := by
    intro n
    induction n with
    | zero => intro l h; rw [List.eq_nil_of_length_eq_zero h]; simp [beVal]
    | succ n ih =>
      intro l h
      have hne : l ≠ [] := by intro e; simp [e] at h
      rw [← List.dropLast_concat_getLast hne, beVal_snoc, Nat.pow_succ]
      have h1 := ih l.dropLast (by simp [h])
      have := (l.getLast hne).toNat_lt
      omega
  exact h _ l rfl
theorem num_step (x m : Nat) (hx : x < 256 ^ 7) (hm : m < 256) : bits BinOp.or IntKind.u64 (IntKind.u64.wrap ((x : Int) * 256)) (m : Int) = ((x * 256 + m : Nat) : Int) := by
  have e1 : IntKind.u64.wrap ((x : Int) * 256) = ((x * 256 : Nat) : Int) := by rw [IntKind.wrap_u64]; omega
  rw [e1, bits_or_u64_nat _ _ (by omega) (by omega)]
  have := Nat.two_pow_add_eq_or_of_lt (i := 8) (b := m) (by omega) x
  rw [show x * 256 = 2 ^ 8 * x by omega, ← this]
def rdN (c : Nat) (l : List UInt8) : Nat × List UInt8 × Int := if l.length < c then (0, [], 3) else (beVal (l.take c), l.drop c, 0)

theorem rnum_err (g : Nat) (s : Int) (rest : List UInt8) (e : Int) (w : World) (h : RdQ Q w g rest e) (he : ¬ e = 0) :
    Calls Tryd.prog 51 #[.pointer (some ⟨g, 0, none⟩), .int .i64 s] w fun r w' => r = .returned (.int .u64 0) ∧ RdQ Q w' g rest e ∧ Upd g w w' := by
  have H := Lib.hid h
  have h1 : (e != 0) = true := by rw [bne_iff_ne]; exact he
  clear h
  go_enter Tryd.func51, Tryd.ntmps51
  go_wp2_with (go_at_call 72; refine (broken_any _ _ _ _ H.out).mono ?_; rw [h1]; rintro r w1 ⟨rfl, rfl⟩)
  go_ret
  exact ⟨rfl, H.out, Upd.refl _ _⟩
theorem rnum_arg (g : Nat) (s : Int) (rest : List UInt8) (w : World) (h : RdQ Q w g rest 0) (hs : isSize s = false) :
    Calls Tryd.prog 51 #[.pointer (some ⟨g, 0, none⟩), .int .i64 s] w fun r w' => r = .returned (.int .u64 0) ∧ RdQ Q w' g [] 2 ∧ Upd g w w' := by
  have H := Lib.hid h
  clear h
  go_enter Tryd.func51, Tryd.ntmps51
  go_wp2_with (first | (go_at_call 72; refine (broken_any _ _ _ _ H.out).mono ?_; rw [show ((0 : Int) != 0) = false from rfl]; rintro r w1 ⟨rfl, rfl⟩) | (go_at_call 73; refine (isSize_any _ _).mono ?_; rw [hs]; rintro e w1 ⟨rfl, rfl⟩) | (go_at_call 74; refine (fail_any g rest 0 2 _ H.out).mono ?_; rintro r w1 ⟨⟨x, rfl⟩, hr1, hu1⟩))
  go_ret
  exact ⟨rfl, hr1, hu1⟩

set_option maxRecDepth 100000 in
theorem rnum1 (g : Nat) (rest : List UInt8) (w : World) (h : RdQ Q w g rest 0) :
    Calls Tryd.prog 51 #[.pointer (some ⟨g, 0, none⟩), .int .i64 8] w fun r w' => r = .returned (.int .u64 (rdN 1 rest).1) ∧ RdQ Q w' g (rdN 1 rest).2.1 (rdN 1 rest).2.2 ∧ Upd g w w' := by
  have H := Lib.hid h
  obtain ⟨a, c, c0, c1, f0, f1, hs, hne⟩ := h.len
  have Hs := Lib.hid hs
  clear h hs
  by_cases hlt : rest.length < 1
  · have HT := Lib.hid (show rdN 1 rest = (0, [], 3) from if_pos hlt)
    go_enter Tryd.func51, Tryd.ntmps51
    go_wp2_with (first | (go_at_call 72; refine (broken_any _ _ _ _ H.out).mono ?_; rw [show ((0 : Int) != 0) = false from rfl]; rintro r w1 ⟨rfl, rfl⟩) | (go_at_call 73; refine (isSize_any _ _).mono ?_; rw [show isSize 8 = true from rfl]; rintro e w1 ⟨rfl, rfl⟩) | (go_at_call 74; refine (fail_any g rest 0 3 _ H.out).mono ?_; rintro r w1 ⟨⟨x, rfl⟩, hr1, hu1⟩))
    go_ret
    rw [HT.out]
    exact ⟨rfl, hr1, hu1⟩
  · have HT := Lib.hid (show rdN 1 rest = (beVal (rest.take 1), rest.drop 1, 0) from if_neg hlt)
    rcases sl_form Hs.out with ⟨rfl, rfl, rfl⟩ | ⟨b, off, rfl, hle⟩
    · simp at hlt
    go_enter Tryd.func51, Tryd.ntmps51
    go_wp2_with (first | (go_at_call 72; refine (broken_any _ _ _ _ H.out).mono ?_; rw [show ((0 : Int) != 0) = false from rfl]; rintro r w1 ⟨rfl, rfl⟩) | (go_at_call 73; refine (isSize_any _ _).mono ?_; rw [show isSize 8 = true from rfl]; rintro e w1 ⟨rfl, rfl⟩))
    go_loop [6, 27] (fun n i => ∃ (j : Nat), j ≤ 1 ∧ i = .int .i64 j ∧ n = .int .u64 (beVal (rest.take j) : Nat)) (fun _ i => 1 - (intOf i).toNat)
    case atStart => exact ⟨0, by omega, rfl, rfl⟩
    case round =>
      obtain ⟨j, hj, rfl, rfl⟩ := hrel
      by_cases hjc : j < 1
      · have hjl : j < rest.length := by omega
        have hcell : w.cell? ⟨b, off + j, none⟩ = some (.int .u8 (rest[j].toNat : Nat)) := by
          rcases Hs.out with ⟨h2, _⟩ | ⟨b', off', cap, h2, _, _, _, h3⟩
          · simp at h2
          · simp only [Value.slice.injEq, Option.some.injEq, Addr.mk.injEq, and_true] at h2
            obtain ⟨⟨rfl, rfl⟩, _, _⟩ := h2
            exact h3 j _ (bv_get rest j hjl)
        have hm : rest[j].toNat < 256 := rest[j].toNat_lt
        have hx : beVal (rest.take j) < 256 ^ 7 := by
          have h1 := beVal_lt (rest.take j)
          have h2 : 256 ^ (rest.take j).length ≤ 256 ^ 7 := Nat.pow_le_pow_right (by omega) (by rw [List.length_take]; omega)
          omega
        have hstep := num_step _ _ hx hm
        rw [← beVal_snoc, ← List.take_succ_eq_append_getElem hjl] at hstep
        have Hstep := Lib.hid hstep
        clear hstep hx
        generalize rest[j].toNat = m at *
        generalize beVal (rest.take j) = x at *
        go_wp2
        go_round
        case rel => exact ⟨j + 1, by omega, by go_num, congrArg (Value.int .u64) Hstep.out⟩
        case measure => simp [intOf]; omega
      · obtain rfl : j = 1 := by omega
        by_cases hcap : c = 1
        · have hsl := sl_from_cap Hs.out hcap (show 1 ≤ rest.length by omega)
          have Hcap := Lib.hid hcap
          go_wp2
          go_ret
          rw [HT.out]
          exact ⟨rfl, H.out.set0 hsl (hne 0 0), (Upd.refl g w).setCell 0 _⟩
        · have hsl := sl_from Hs.out (show 1 ≤ rest.length by omega) hcap
          go_wp2
          go_ret
          rw [HT.out]
          exact ⟨rfl, H.out.set0 hsl (hne 0 0), (Upd.refl g w).setCell 0 _⟩

end Go.Proofs.YtfjodadmcfdlpaaDoor
