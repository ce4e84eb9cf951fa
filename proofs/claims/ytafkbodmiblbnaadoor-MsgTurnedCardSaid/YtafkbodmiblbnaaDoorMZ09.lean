/- Contracts of package bits: the reader's Text and Num. -/
import Derived.Test.YtafkbodmiblbnaaDoorMRdr
import Derived.Test.YtafkbodmiblbnaaDoorMZ01
import Derived.Test.YtafkbodmiblbnaaDoorMZ06
namespace Go.Proofs.YtafkbodmiblbnaaDoor
open Go.RowKit
set_option linter.unusedVariables false
variable {Q : Nat → Prop}

/-- What a reader's Text makes of what is left. -/
def rdT (l : List UInt8) : List UInt8 × List UInt8 × Int :=
  if (rdV l).2.2 ≠ 0 then ([], (rdV l).2.1, (rdV l).2.2)
  else if (rdV l).2.1.length < (rdV l).1 then ([], [], 3)
  else ((rdV l).2.1.take (rdV l).1, (rdV l).2.1.drop (rdV l).1, 0)

theorem RdQ.len {w : World} {g : Nat} {rest : List UInt8} {e : Int} (h : RdQ Q w g rest e) :
    ∃ a c, w.cell? ⟨g, 0, none⟩ = some (.slice a rest.length c) ∧ w.cell? ⟨g, 1, none⟩ = some (.int .i64 e) ∧ w.frozen? ⟨g, 0, none⟩ = false ∧ w.frozen? ⟨g, 1, none⟩ = false ∧ SlS w (.slice a rest.length c) (bv rest) ∧ (∀ n c' b, (Value.slice a n c').ownBlock = some b → b < g ∧ Q b) := by
  obtain ⟨v, c0, c1, f0, f1, hs, hne⟩ := h.cells
  obtain ⟨a, c, rfl⟩ := hs.len
  rw [bv_length] at c0 hs
  refine ⟨a, c, c0, c1, f0, f1, hs, fun n c' => ?_⟩
  cases a with
  | none => simp [Value.ownBlock]
  | some a => simpa [Value.ownBlock] using hne

theorem sl_form {w : World} {a : Option Addr} {l : List UInt8} {c : Nat} (h : SlS w (.slice a l.length c) (bv l)) :
    (a = none ∧ l = [] ∧ c = 0) ∨ ∃ b off, a = some ⟨b, off, none⟩ ∧ l.length ≤ c := by
  rcases h with ⟨h, h2⟩ | ⟨b, off, cap, h, h1, _⟩
  · simp only [Value.slice.injEq] at h
    exact .inl ⟨h.1, (bv_nil_iff l).1 h2, h.2.2⟩
  · simp only [Value.slice.injEq] at h
    obtain ⟨rfl, _, rfl⟩ := h
    exact .inr ⟨b, off, rfl, by rw [bv_length] at h1; exact h1⟩

theorem sl_take {w : World} {b off c : Nat} {l : List UInt8} {u : Nat} (h : SlS w (.slice (some ⟨b, off, none⟩) l.length c) (bv l)) (hu : u ≤ l.length) :
    SlS w (.slice (some ⟨b, off, none⟩) u c) (bv (l.take u)) := by
  rcases h with ⟨h, _⟩ | ⟨b', off', cap, h, h1, h2, h3, h4⟩
  · simp at h
  · simp only [Value.slice.injEq, Option.some.injEq, Addr.mk.injEq, and_true] at h
    obtain ⟨⟨rfl, rfl⟩, _, rfl⟩ := h
    rw [bv_length] at h1
    refine .inr ⟨b, off, c, by rw [bv_length, List.length_take, Nat.min_eq_left hu], by rw [bv_length, List.length_take]; omega, h2, h3, fun j u' hj => h4 j u' ?_⟩
    rw [bv, List.map_take, List.getElem?_take] at hj
    split at hj
    · exact hj
    · cases hj

theorem sl_pre {w : World} {a : Option Addr} {c : Nat} {l : List UInt8} {u : Nat} (h : Sl w (.slice a l.length c) (bv l)) (hu : u ≤ l.length) : Sl w (.slice a u c) (bv (l.take u)) := by
  rcases h with h | ⟨x, c', hv, hx⟩
  · rcases sl_form h with ⟨rfl, rfl, rfl⟩ | ⟨b, off, rfl, _⟩
    · obtain rfl : u = 0 := by simpa using hu
      exact sl_nil w
    · exact (sl_take h hu).sl
  · obtain rfl := (bv_nil_iff l).1 hx
    obtain rfl : u = 0 := by simpa using hu
    exact .inr ⟨x, c', hv, by simp [bv]⟩

set_option maxRecDepth 100000 in
theorem rtext_ok (g : Nat) (rest : List UInt8) (w : World) (h : RdQ Q w g rest 0) (hlen : rest.length ≤ 1099511627776) :
    Calls Tryd.prog 58 #[.pointer (some ⟨g, 0, none⟩)] w fun r w' => (∃ v', r = .returned v' ∧ Own w' w.heap.size 5 v' (bv (rdT rest).1)) ∧ RdQ Q w' g (rdT rest).2.1 (rdT rest).2.2 ∧ Upd g w w' := by
  have H := Lib.hid h
  have hlt := h.lt
  have hT : rdT rest = if (rdV rest).2.2 ≠ 0 then ([], (rdV rest).2.1, (rdV rest).2.2)
    else if (rdV rest).2.1.length < (rdV rest).1 then ([], [], 3)
    else ((rdV rest).2.1.take (rdV rest).1, (rdV rest).2.1.drop (rdV rest).1, 0) := rfl
  clear h
  go_enter Tryd.func58, Tryd.ntmps58
  go_wp2_with fail
  refine (rvarint_ok g rest _ H.out).mono ?_
  rintro r w1 ⟨rfl, hr1, hu1⟩
  have hl2 : (rdV rest).2.1.length ≤ rest.length := rdV_len _
  have hu : U64 (rdV rest).1 := rdV_u64 _
  generalize rdV rest = q at *
  obtain ⟨u, l, e⟩ := q
  dsimp only at *
  have H1 := Lib.hid hr1
  clear hr1
  by_cases he : e = 0
  · subst he
    rw [if_neg (by simp)] at hT
    obtain ⟨a, c, c0, c1, f0, f1, hs, hne⟩ := H1.out.len
    have Hs := Lib.hid hs
    clear hs
    by_cases hul : l.length < u
    · rw [if_pos hul] at hT
      have HT := Lib.hid hT
      clear hT
      go_wp2_with (first | (go_at_call 75; refine (broken_any _ _ _ _ H1.out).mono ?_; rw [show ((0 : Int) != 0) = false from rfl]; rintro e w2 ⟨rfl, rfl⟩) | (go_at_call 77; refine (fail_any g l 0 3 _ H1.out).mono ?_; rintro e w2 ⟨⟨x, rfl⟩, hr2, hu2⟩))
      go_ret
      rw [HT.out]
      exact ⟨⟨_, rfl, own_nil _ _⟩, hr2, hu1.trans hu2⟩
    · rw [if_neg hul] at hT
      have HT := Lib.hid hT
      clear hT
      rcases sl_form Hs.out with ⟨rfl, rfl, rfl⟩ | ⟨b, off, rfl, hle⟩
      · obtain rfl : u = 0 := by simp at hul; omega
        clear hul
        go_wp2_with (go_at_call 75; refine (broken_any _ _ _ _ H1.out).mono ?_; rw [show ((0 : Int) != 0) = false from rfl]; rintro e w2 ⟨rfl, rfl⟩)
        refine (clone_any _ [] _ (sl_nil _) (by simp)).mono ?_
        rintro e w2 ⟨⟨v2, rfl, ho2⟩, hb2⟩
        have hg1 := H1.out.lt
        have c0' := (hb2.cell (p := ⟨g, 0, none⟩) hg1).trans c0
        have f0' := (hb2.frozen (p := ⟨g, 0, none⟩) hg1).trans f0
        have H2 := Lib.hid (H1.out.keep hb2)
        clear c0 f0 c1 f1
        have hsl := sls_nil w2
        go_wp2
        go_ret
        rw [HT.out]
        exact ⟨⟨v2, rfl, (ho2.base hu1.size).upd ((Upd.refl g w2).setCell 0 _) (ho2.ne hg1)⟩, H2.out.set0 hsl (hne 0 0), hu1.trans ((below_upd hb2 g).setCell 0 _)⟩
      · go_wp2_with (go_at_call 75; refine (broken_any _ _ _ _ H1.out).mono ?_; rw [show ((0 : Int) != 0) = false from rfl]; rintro e w2 ⟨rfl, rfl⟩)
        refine (clone_any _ (l.take u) _ (sl_take Hs.out (by omega)).sl (by simp; omega)).mono ?_
        rintro e w2 ⟨⟨v2, rfl, ho2⟩, hb2⟩
        have hg1 := H1.out.lt
        have c0' := (hb2.cell (p := ⟨g, 0, none⟩) hg1).trans c0
        have f0' := (hb2.frozen (p := ⟨g, 0, none⟩) hg1).trans f0
        have H2 := Lib.hid (H1.out.keep hb2)
        clear c0 f0 c1 f1
        by_cases hcap : c = u
        · have hsl := sl_from_cap (Hs.out.below hb2) hcap (show u ≤ l.length by omega)
          have Hsl := Lib.hid hsl
          have Hcap := Lib.hid hcap
          clear hsl
          go_wp2
          go_ret
          rw [HT.out]
          exact ⟨⟨v2, rfl, (ho2.base hu1.size).upd ((Upd.refl g w2).setCell 0 _) (ho2.ne hg1)⟩, H2.out.set0 Hsl.out (hne 0 0), hu1.trans ((below_upd hb2 g).setCell 0 _)⟩
        · have hsl := sl_from (Hs.out.below hb2) (show u ≤ l.length by omega) hcap
          go_wp2
          go_ret
          rw [HT.out]
          exact ⟨⟨v2, rfl, (ho2.base hu1.size).upd ((Upd.refl g w2).setCell 0 _) (ho2.ne hg1)⟩, H2.out.set0 hsl (hne 0 0), hu1.trans ((below_upd hb2 g).setCell 0 _)⟩
  · rw [if_pos he] at hT
    have HT := Lib.hid hT
    have he' : (e != 0) = true := by rw [bne_iff_ne]; exact he
    clear hT
    go_wp2_with (go_at_call 75; refine (broken_any _ _ _ _ H1.out).mono ?_; rw [he']; rintro e w2 ⟨rfl, rfl⟩)
    go_ret
    rw [HT.out]
    exact ⟨⟨_, rfl, own_nil _ _⟩, H1.out, hu1⟩

/-- The reader's Text, whatever its error. -/
def rdTe (rest : List UInt8) (e : Int) : List UInt8 × List UInt8 × Int := if e = 0 then rdT rest else ([], rest, e)
theorem rtext_err (g : Nat) (rest : List UInt8) (e : Int) (w : World) (h : RdQ Q w g rest e) (he : ¬ e = 0) :
    Calls Tryd.prog 58 #[.pointer (some ⟨g, 0, none⟩)] w fun r w' => r = .returned (.slice none 0 0) ∧ RdQ Q w' g rest e ∧ Upd g w w' := by
  have H := Lib.hid h
  have h1 : (e != 0) = true := by rw [bne_iff_ne]; exact he
  clear h
  go_enter Tryd.func58, Tryd.ntmps58
  go_wp2_with (first | (go_at_call 57; refine (rvarint_err _ _ _ _ H.out he).mono ?_; rintro r w1 ⟨rfl, rfl⟩) | (go_at_call 75; refine (broken_any _ _ _ _ H.out).mono ?_; rw [h1]; rintro r w1 ⟨rfl, rfl⟩))
  go_ret
  exact ⟨rfl, H.out, Upd.refl _ _⟩
theorem rtext_any (g : Nat) (rest : List UInt8) (e : Int) (w : World) (h : RdQ Q w g rest e) (hlen : rest.length ≤ 1099511627776) :
    Calls Tryd.prog 58 #[.pointer (some ⟨g, 0, none⟩)] w fun r w' => (∃ v', r = .returned v' ∧ Own w' w.heap.size 5 v' (bv (rdTe rest e).1)) ∧ RdQ Q w' g (rdTe rest e).2.1 (rdTe rest e).2.2 ∧ Upd g w w' := by
  unfold rdTe
  by_cases he : e = 0
  · subst he; exact rtext_ok g rest w h hlen
  · rw [if_neg he]
    refine (rtext_err g rest e w h he).mono ?_
    rintro r w' ⟨rfl, h1, h2⟩
    exact ⟨⟨_, rfl, own_nil _ _⟩, h1, h2⟩

/-- What a reader's Num makes of what is left. -/
def beVal (l : List UInt8) : Nat := l.foldl (fun x c => x * 256 + c.toNat) 0
theorem beVal_snoc (l : List UInt8) (c : UInt8) : beVal (l ++ [c]) = beVal l * 256 + c.toNat := by simp [beVal]
theorem beVal_lt (l : List UInt8) : beVal l < 256 ^ l.length := by
  have h : ∀ (n : Nat) (l : List UInt8), l.length = n → beVal l < 256 ^ n := by
    intro n
    induction n with
    | zero => intro l h; rw [List.eq_nil_of_length_eq_zero h]; simp [beVal]
    | succ n ih =>
      intro l h
      have hne : l ≠ [] := by intro e; simp [e] at h
      rw [← List.dropLast_concat_getLast hne, beVal_snoc, Nat.pow_succ]
      have h1 := ih l.dropLast (by simp [h])
      have := (l.getLast hne).toNat_lt
      omega
  exact h _ l rfl
theorem num_step (x m : Nat) (hx : x < 256 ^ 7) (hm : m < 256) : bits BinOp.or IntKind.u64 (IntKind.u64.wrap ((x : Int) * 256)) (m : Int) = ((x * 256 + m : Nat) : Int) := by
  have e1 : IntKind.u64.wrap ((x : Int) * 256) = ((x * 256 : Nat) : Int) := by rw [IntKind.wrap_u64]; omega
  rw [e1, bits_or_u64_nat _ _ (by omega) (by omega)]
  have := Nat.two_pow_add_eq_or_of_lt (i := 8) (b := m) (by omega) x
  rw [show x * 256 = 2 ^ 8 * x by omega, ← this]
def rdN (c : Nat) (l : List UInt8) : Nat × List UInt8 × Int := if l.length < c then (0, [], 3) else (beVal (l.take c), l.drop c, 0)

theorem rnum_err (g : Nat) (s : Int) (rest : List UInt8) (e : Int) (w : World) (h : RdQ Q w g rest e) (he : ¬ e = 0) :
    Calls Tryd.prog 55 #[.pointer (some ⟨g, 0, none⟩), .int .i64 s] w fun r w' => r = .returned (.int .u64 0) ∧ RdQ Q w' g rest e ∧ Upd g w w' := by
  have H := Lib.hid h
  have h1 : (e != 0) = true := by rw [bne_iff_ne]; exact he
  clear h
  go_enter Tryd.func55, Tryd.ntmps55
  go_wp2_with (go_at_call 75; refine (broken_any _ _ _ _ H.out).mono ?_; rw [h1]; rintro r w1 ⟨rfl, rfl⟩)
  go_ret
  exact ⟨rfl, H.out, Upd.refl _ _⟩
theorem rnum_arg (g : Nat) (s : Int) (rest : List UInt8) (w : World) (h : RdQ Q w g rest 0) (hs : isSize s = false) :
    Calls Tryd.prog 55 #[.pointer (some ⟨g, 0, none⟩), .int .i64 s] w fun r w' => r = .returned (.int .u64 0) ∧ RdQ Q w' g [] 2 ∧ Upd g w w' := by
  have H := Lib.hid h
  clear h
  go_enter Tryd.func55, Tryd.ntmps55
  go_wp2_with (first | (go_at_call 75; refine (broken_any _ _ _ _ H.out).mono ?_; rw [show ((0 : Int) != 0) = false from rfl]; rintro r w1 ⟨rfl, rfl⟩) | (go_at_call 76; refine (isSize_any _ _).mono ?_; rw [hs]; rintro e w1 ⟨rfl, rfl⟩) | (go_at_call 77; refine (fail_any g rest 0 2 _ H.out).mono ?_; rintro r w1 ⟨⟨x, rfl⟩, hr1, hu1⟩))
  go_ret
  exact ⟨rfl, hr1, hu1⟩

set_option maxRecDepth 100000 in
theorem rnum1 (g : Nat) (rest : List UInt8) (w : World) (h : RdQ Q w g rest 0) :
    Calls Tryd.prog 55 #[.pointer (some ⟨g, 0, none⟩), .int .i64 8] w fun r w' => r = .returned (.int .u64 (rdN 1 rest).1) ∧ RdQ Q w' g (rdN 1 rest).2.1 (rdN 1 rest).2.2 ∧ Upd g w w' := by
  have H := Lib.hid h
  obtain ⟨a, c, c0, c1, f0, f1, hs, hne⟩ := h.len
  have Hs := Lib.hid hs
  clear h hs
  by_cases hlt : rest.length < 1
  · have HT := Lib.hid (show rdN 1 rest = (0, [], 3) from if_pos hlt)
    go_enter Tryd.func55, Tryd.ntmps55
    go_wp2_with (first | (go_at_call 75; refine (broken_any _ _ _ _ H.out).mono ?_; rw [show ((0 : Int) != 0) = false from rfl]; rintro r w1 ⟨rfl, rfl⟩) | (go_at_call 76; refine (isSize_any _ _).mono ?_; rw [show isSize 8 = true from rfl]; rintro e w1 ⟨rfl, rfl⟩) | (go_at_call 77; refine (fail_any g rest 0 3 _ H.out).mono ?_; rintro r w1 ⟨⟨x, rfl⟩, hr1, hu1⟩))
    go_ret
    rw [HT.out]
    exact ⟨rfl, hr1, hu1⟩
  · have HT := Lib.hid (show rdN 1 rest = (beVal (rest.take 1), rest.drop 1, 0) from if_neg hlt)
    rcases sl_form Hs.out with ⟨rfl, rfl, rfl⟩ | ⟨b, off, rfl, hle⟩
    · simp at hlt
    go_enter Tryd.func55, Tryd.ntmps55
    go_wp2_with (first | (go_at_call 75; refine (broken_any _ _ _ _ H.out).mono ?_; rw [show ((0 : Int) != 0) = false from rfl]; rintro r w1 ⟨rfl, rfl⟩) | (go_at_call 76; refine (isSize_any _ _).mono ?_; rw [show isSize 8 = true from rfl]; rintro e w1 ⟨rfl, rfl⟩))
    go_loop [6, 27] (fun n i => ∃ (j : Nat), j ≤ 1 ∧ i = .int .i64 j ∧ n = .int .u64 (beVal (rest.take j) : Nat)) (fun _ i => 1 - (intOf i).toNat)
    case atStart => exact ⟨0, by omega, rfl, rfl⟩
    case round =>
      obtain ⟨j, hj, rfl, rfl⟩ := hrel
      by_cases hjc : j < 1
      · have hjl : j < rest.length := by omega
        have hcell : w.cell? ⟨b, off + j, none⟩ = some (.int .u8 (rest[j].toNat : Nat)) := by
          rcases Hs.out with ⟨h2, _⟩ | ⟨b', off', cap, h2, _, _, _, h3⟩
          · simp at h2
          · simp only [Value.slice.injEq, Option.some.injEq, Addr.mk.injEq, and_true] at h2
            obtain ⟨⟨rfl, rfl⟩, _, _⟩ := h2
            exact h3 j _ (bv_get rest j hjl)
        have hm : rest[j].toNat < 256 := rest[j].toNat_lt
        have hx : beVal (rest.take j) < 256 ^ 7 := by
          have h1 := beVal_lt (rest.take j)
          have h2 : 256 ^ (rest.take j).length ≤ 256 ^ 7 := Nat.pow_le_pow_right (by omega) (by rw [List.length_take]; omega)
          omega
        have hstep := num_step _ _ hx hm
        rw [← beVal_snoc, ← List.take_succ_eq_append_getElem hjl] at hstep
        have Hstep := Lib.hid hstep
        clear hstep hx
        generalize rest[j].toNat = m at *
        generalize beVal (rest.take j) = x at *
        go_wp2
        go_round
        case rel => exact ⟨j + 1, by omega, by go_num, congrArg (Value.int .u64) Hstep.out⟩
        case measure => simp [intOf]; omega
      · obtain rfl : j = 1 := by omega
        by_cases hcap : c = 1
        · have hsl := sl_from_cap Hs.out hcap (show 1 ≤ rest.length by omega)
          have Hcap := Lib.hid hcap
          go_wp2
          go_ret
          rw [HT.out]
          exact ⟨rfl, H.out.set0 hsl (hne 0 0), (Upd.refl g w).setCell 0 _⟩
        · have hsl := sl_from Hs.out (show 1 ≤ rest.length by omega) hcap
          go_wp2
          go_ret
          rw [HT.out]
          exact ⟨rfl, H.out.set0 hsl (hne 0 0), (Upd.refl g w).setCell 0 _⟩

end Go.Proofs.YtafkbodmiblbnaaDoor
/- Contracts of the small functions on bytes, for things that lie beside each other. -/
namespace Go.Proofs.YtafkbodmiblbnaaDoor
open Go.RowKit
set_option linter.unusedVariables false
abbrev By (v : Value) (l : List UInt8) : Thing := Rw 5 v (bv l)
theorem copy_sep {w0 : World} {L : List Thing} (v : Value) (l : List UInt8) (w : World) (h : Sep w0 L w) (hv : Sl w v (bv l)) (hlen : l.length ≤ 2199023255552) :
    Calls Tryd.prog 51 #[v] w fun e w' => ∃ v', e = .returned v' ∧ Sep w0 (By v' l :: L) w' :=
  (copyBytes_any v l w hv hlen).mono fun e w' ⟨⟨v', he, ho⟩, hb⟩ => ⟨v', he, h.row hb ho⟩
theorem clone_sep {w0 : World} {L : List Thing} (v : Value) (l : List UInt8) (w : World) (h : Sep w0 L w) (hv : Sl w v (bv l)) (hlen : l.length ≤ 2199023255552) :
    Calls Tryd.prog 45 #[v] w fun e w' => ∃ v', e = .returned v' ∧ Sep w0 (By v' l :: L) w' :=
  (clone_any v l w hv hlen).mono fun e w' ⟨⟨v', he, ho⟩, hb⟩ => ⟨v', he, h.row hb ho⟩
theorem app8 {w0 w : World} {L : List Thing} {ty : TypeId} {v x : Value} {xs ys : List UInt8} (h : Sep w0 (By v xs :: L) w) (hx : Sl w x (bv ys)) (hlen : xs.length + ys.length ≤ 2199023255552) :
    ∃ v' w', (Builtin.append_ #[24, 24] ty #[v, x]).run Tryd.prog w = .ok v' w' ∧ Sep w0 (By v' (xs ++ ys) :: L) w' ∧ (v' = .slice none 0 0 → v = .slice none 0 0) := by
  obtain ⟨i0, hi, hz0, hz1, hz2⟩ := info_parts info8
  unfold By
  rw [bv_append]
  exact append_sep (P := Tryd.prog) Tryd.underlying24 hi hz0 hz1 (by omega) rfl h hx (bv_one ys) (by rw [bv_length, bv_length]; exact hlen)
end Go.Proofs.YtafkbodmiblbnaaDoor
/- Package bits, for things that lie beside each other: what is written, the reader. -/
namespace Go.Proofs.YtafkbodmiblbnaaDoor
open Go.RowKit
set_option linter.unusedVariables false
theorem varint_sep {w0 : World} {L : List Thing} (v : Value) (l : List UInt8) (u : Nat) (w : World) (h : Sep w0 L w) (hv : Sl w v (bv l)) (hu : U64 u) (hlen : l.length ≤ 1099511627776) :
    Calls Tryd.prog 24 #[v, .int .u64 u] w fun e w' => ∃ v', e = .returned v' ∧ Sep w0 (By v' (l ++ vint u) :: L) w' :=
  (varint_any v l u w hv hu hlen).mono fun e w' ⟨⟨v', he, ho⟩, hb⟩ => ⟨v', he, h.row hb ho⟩
theorem text_sep {w0 : World} {L : List Thing} (v x : Value) (l m : List UInt8) (w : World) (h : Sep w0 L w) (hv : Sl w v (bv l)) (hx : Sl w x (bv m)) (hlen : l.length + m.length ≤ 1099511627776) :
    Calls Tryd.prog 26 #[v, x] w fun e w' => ∃ v', e = .returned v' ∧ Sep w0 (By v' (l ++ vint m.length ++ m) :: L) w' :=
  (text_any v x l m w hv hx hlen).mono fun e w' ⟨⟨v', he, ho⟩, hb⟩ => ⟨v', he, h.row hb ho⟩
/-- A reader at block g, with what is left and its first error; what is left lies in blocks of its own. -/
def RdrT (g : Nat) (rest : List UInt8) (e : Int) : Thing := fun w F => F g ∧ RdQ F w g rest e
theorem loc_rdr (g : Nat) (rest : List UInt8) (e : Int) : Loc (RdrT g rest e) := by
  intro w w' F ⟨hg, v, h1, h2, h3⟩ hs hk
  exact ⟨hg, v, by rw [hk g hg]; exact h1, h2.keep hs fun b hb _ => hk b (h3 b hb).2, h3⟩
theorem Sep.rdr {w0 w : World} {g : Nat} {rest : List UInt8} {e : Int} {L : List Thing} (h : Sep w0 (RdrT g rest e :: L) w) :
    ∃ F : Nat → Prop, RdQ F w g rest e ∧ (∀ w' rest' e', RdQ F w' g rest' e' → Upd g w w' → Sep w0 (RdrT g rest' e' :: L) w') ∧
      ∀ w' rest' e' v' xs T, RdQ F w' g rest' e' → Upd g w w' → Own w' w.heap.size T v' xs → Sep w0 (Rw T v' xs :: RdrT g rest' e' :: L) w' := by
  obtain ⟨F, ⟨hg, hr⟩, hF⟩ := h.head
  have hall := h.all
  obtain ⟨F, ⟨hg, hr⟩, hF, hrest⟩ := hall
  refine ⟨F, hr, fun w' rest' e' hr' hu => ?_, fun w' rest' e' v' xs T hr' hu ho => ?_⟩
  · have hch : Chg F w w' := ⟨hu.os, hu.tape, hu.output, hu.size, fun k hk hn => hu.block k hk fun e => hn (e ▸ hg)⟩
    refine ⟨⟨hch.os.trans h.low.os, hch.tape.trans h.low.tape, hch.output.trans h.low.output, Nat.le_trans h.low.size hch.size, fun k hk => ?_⟩, ?_, F, ⟨hg, hr'⟩, fun k hk => ⟨(hF k hk).1, Nat.lt_of_lt_of_le (hF k hk).2.1 hch.size, id⟩, ?_⟩
    · rw [hch.block k (Nat.lt_of_lt_of_le hk h.low.size) (fun hk' => by have := (hF k hk').1; omega)]
      exact h.low.block k hk
    · intro X hX
      rcases List.mem_cons.1 hX with rfl | hX
      · exact loc_rdr _ _ _
      · exact h.loc X (List.mem_cons_of_mem _ hX)
    · exact hrest.keep (fun X hX => h.loc X (List.mem_cons_of_mem _ hX)) hch.size (fun k _ h2 h3 => hch.block k h2 fun hk => h3 (.inr hk)) fun k hk => .inl hk
  · have hch : Chg F w w' := ⟨hu.os, hu.tape, hu.output, hu.size, fun k hk hn => hu.block k hk fun e => hn (e ▸ hg)⟩
    have hlt : ∀ k, v'.ownBlock = some k → w.heap.size ≤ k ∧ k < w'.heap.size := fun k hk => ho.lt k hk
    have h1 : Sep w0 (RdrT g rest' e' :: L) w' := by
      refine ⟨⟨hch.os.trans h.low.os, hch.tape.trans h.low.tape, hch.output.trans h.low.output, Nat.le_trans h.low.size hch.size, fun k hk => ?_⟩, ?_, F, ⟨hg, hr'⟩, fun k hk => ⟨(hF k hk).1, Nat.lt_of_lt_of_le (hF k hk).2.1 hch.size, id⟩, ?_⟩
      · rw [hch.block k (Nat.lt_of_lt_of_le hk h.low.size) (fun hk' => by have := (hF k hk').1; omega)]
        exact h.low.block k hk
      · intro X hX
        rcases List.mem_cons.1 hX with rfl | hX
        · exact loc_rdr _ _ _
        · exact h.loc X (List.mem_cons_of_mem _ hX)
      · exact hrest.keep (fun X hX => h.loc X (List.mem_cons_of_mem _ hX)) hch.size (fun k _ h2 h3 => hch.block k h2 fun hk => h3 (.inr hk)) fun k hk => .inl hk
    have hsz := h.low.size
    refine ⟨h1.low, ?_, fun k => v'.ownBlock = some k, ⟨⟨_, ho⟩, fun _ => Iff.rfl⟩, fun k hk => ⟨by have := hlt k hk; omega, (hlt k hk).2, id⟩, F, ⟨hg, hr'⟩, fun k hk => ⟨(hF k hk).1, Nat.lt_of_lt_of_le (hF k hk).2.1 hch.size, fun hn => ?_⟩, ?_⟩
    · intro X hX
      rcases List.mem_cons.1 hX with rfl | hX
      · exact loc_rw _ _ _
      · exact h1.loc X hX
    · rcases hn with hn | hn
      · exact hn
      · have a1 := hlt k hn; have a2 := (hF k hk).2.1; omega
    · refine hrest.keep (fun X hX => h.loc X (List.mem_cons_of_mem _ hX)) hch.size (fun k _ h2 h3 => hch.block k h2 fun hk => h3 (.inr hk)) fun k hk => ?_
      rcases hk with (h2 | h2) | h2
      · exact h2.elim
      · exact .inr (hlt k h2).1
      · exact .inl (.inr h2)
theorem read_sep {w0 : World} {L : List Thing} (v : Value) (l : List UInt8) (w : World) (hs : Sep w0 L w) (h : Sl w v (bv l)) (hlen : l.length ≤ 2199023255552) :
    Calls Tryd.prog 29 #[v] w fun e w' => ∃ g, e = .returned (.pointer (some ⟨g, 0, none⟩)) ∧ Sep w0 (RdrT g l 0 :: L) w' := by
  have H := Lib.hid h
  have HS := Lib.hid hs
  clear h hs
  go_enter Tryd.func29, Tryd.ntmps29
  go_wp2_with fail
  refine (clone_sep v l _ HS.out H.out hlen).mono ?_
  rintro e w1 ⟨v1, rfl, h1⟩
  obtain ⟨a1, c1, rfl⟩ := h1.sl.len
  have H1 := Lib.hid h1
  clear h1
  go_wp2_with fail
  go_ret
  have h2 := ((H1.out.alloc (.cells #[.slice a1 (bv l).length c1, .int .i64 0] 94))).join
  refine ⟨_, rfl, h2.imp (loc_rdr _ _ _) fun F ⟨Fa, Fb, ha, hb, hab, hF⟩ => ?_⟩
  obtain ⟨⟨bs, ho⟩, hfb⟩ := hb
  refine ⟨(hF _).2 (.inl ((ha.2 _).2 rfl)), _, ha.1, ho.sls, fun b hb' => ⟨?_, (hF b).2 (.inr ((hfb b).2 hb'))⟩⟩
  have h3 := (H1.out.rw_.lt b hb').2
  exact h3
theorem rvarint_sep {w0 w : World} {L : List Thing} {g : Nat} {rest : List UInt8} {e : Int} (h : Sep w0 (RdrT g rest e :: L) w) :
    Calls Tryd.prog 57 #[.pointer (some ⟨g, 0, none⟩)] w fun r w' => r = .returned (.int .u64 (rdVe rest e).1) ∧ Sep w0 (RdrT g (rdVe rest e).2.1 (rdVe rest e).2.2 :: L) w' := by
  obtain ⟨F, hr, hk, _⟩ := h.rdr
  exact (rvarint_any g rest e w hr).mono fun r w' ⟨h1, h2, h3⟩ => ⟨h1, hk _ _ _ h2 h3⟩
theorem rtext_sep {w0 w : World} {L : List Thing} {g : Nat} {rest : List UInt8} {e : Int} (h : Sep w0 (RdrT g rest e :: L) w) (hlen : rest.length ≤ 1099511627776) :
    Calls Tryd.prog 58 #[.pointer (some ⟨g, 0, none⟩)] w fun r w' => ∃ v', r = .returned v' ∧ Sep w0 (By v' (rdTe rest e).1 :: RdrT g (rdTe rest e).2.1 (rdTe rest e).2.2 :: L) w' := by
  obtain ⟨F, hr, _, hk⟩ := h.rdr
  exact (rtext_any g rest e w hr hlen).mono fun r w' ⟨⟨v', h1, ho⟩, h2, h3⟩ => ⟨v', h1, hk _ _ _ _ _ _ h2 h3 ho⟩
/-- The reader's Num of 8 bits, whatever its error. -/
def rdNe (rest : List UInt8) (e : Int) : Nat × List UInt8 × Int := if e = 0 then rdN 1 rest else (0, rest, e)
theorem rnum_sep {w0 w : World} {L : List Thing} {g : Nat} {rest : List UInt8} {e : Int} (h : Sep w0 (RdrT g rest e :: L) w) :
    Calls Tryd.prog 55 #[.pointer (some ⟨g, 0, none⟩), .int .i64 8] w fun r w' => r = .returned (.int .u64 (rdNe rest e).1) ∧ Sep w0 (RdrT g (rdNe rest e).2.1 (rdNe rest e).2.2 :: L) w' := by
  obtain ⟨F, hr, hk, _⟩ := h.rdr
  unfold rdNe
  by_cases he : e = 0
  · subst he
    exact (rnum1 g rest w hr).mono fun r w' ⟨h1, h2, h3⟩ => ⟨h1, hk _ _ _ h2 h3⟩
  · rw [if_neg he]
    exact (rnum_err g 8 rest e w hr he).mono fun r w' ⟨h1, h2, h3⟩ => ⟨h1, hk _ _ _ h2 h3⟩
theorem rerr_sep {w0 w : World} {L : List Thing} {g : Nat} {rest : List UInt8} {e : Int} (h : Sep w0 (RdrT g rest e :: L) w) :
    Calls Tryd.prog 56 #[.pointer (some ⟨g, 0, none⟩)] w fun r w' => r = .returned (.int .i64 e) ∧ w = w' := by
  obtain ⟨F, hr, _⟩ := h.rdr
  exact err_any g rest e w hr
theorem rend_sep {w0 w : World} {L : List Thing} {g : Nat} {rest : List UInt8} {e : Int} (h : Sep w0 (RdrT g rest e :: L) w) :
    Calls Tryd.prog 35 #[.pointer (some ⟨g, 0, none⟩)] w fun r w' => r = .returned (.int .i64 (endErr rest e)) ∧ w = w' := by
  obtain ⟨F, hr, _⟩ := h.rdr
  exact end_any g rest e w hr
end Go.Proofs.YtafkbodmiblbnaaDoor
