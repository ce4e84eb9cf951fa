/- Package bits, for things that lie beside each other: what is written, the reader. -/
import Derived.Test.YtfjodadmcfdlpaaDoorRdr2
import Derived.Test.YtfjodadmcfdlpaaDoorBytesSep
namespace Go.Proofs.YtfjodadmcfdlpaaDoor
open Go.RowKit
set_option linter.unusedVariables false
theorem varint_sep {w0 : World} {L : List Thing} (v : Value) (l : List UInt8) (u : Nat) (w : World) (h : Sep w0 L w) (hv : Sl w v (bv l)) (hu : U64 u) (hlen : l.length ≤ 1099511627776) :
    Calls Tryd.prog 34 #[v, .int .u64 u] w fun e w' => ∃ v', e = .returned v' ∧ Sep w0 (By v' (l ++ vint u) :: L) w' :=
  (varint_any v l u w hv hu hlen).mono fun e w' ⟨⟨v', he, ho⟩, hb⟩ => ⟨v', he, h.row hb ho⟩
theorem text_sep {w0 : World} {L : List Thing} (v x : Value) (l m : List UInt8) (w : World) (h : Sep w0 L w) (hv : Sl w v (bv l)) (hx : Sl w x (bv m)) (hlen : l.length + m.length ≤ 1099511627776) :
    Calls Tryd.prog 33 #[v, x] w fun e w' => ∃ v', e = .returned v' ∧ Sep w0 (By v' (l ++ vint m.length ++ m) :: L) w' :=
  (text_any v x l m w hv hx hlen).mono fun e w' ⟨⟨v', he, ho⟩, hb⟩ => ⟨v', he, h.row hb ho⟩
/-- A reader at block g, with what is left and its first error; what is left lies in blocks of its own. -/
def RdrT (g : Nat) (rest : List UInt8) (e : Int) : Thing := fun w F => F g ∧ RdQ F w g rest e
theorem loc_rdr (g : Nat) (rest : List UInt8) (e : Int) : Loc (RdrT g rest e) := by
  intro w w' F ⟨hg, v, h1, h2, h3⟩ hs hk
  exact ⟨hg, v, by rw [hk g hg]; exact h1, h2.keep hs fun b hb _ => hk b (h3 b hb).2, h3⟩
theorem Sep.rdr {w0 w : World} {g : Nat} {rest : List UInt8} {e : Int} {L : List Thing} (h : Sep w0 (RdrT g rest e :: L) w) :
    ∃ F : Nat → Prop, RdQ F w g rest e ∧ (∀ w' rest' e', RdQ F w' g rest' e' → Upd g w w' → Sep w0 (RdrT g rest' e' :: L) w') ∧
      ∀ w' rest' e' v' xs T, RdQ F w' g rest' e' → Upd g w w' → Own w' w.heap.size T v' xs → Sep w0 (Rw T v' xs :: RdrT g rest' e' :: L) w' := by
  obtain ⟨F, ⟨hg, hr⟩, hF⟩ := h.head
  have hall := h.all
  obtain ⟨F, ⟨hg, hr⟩, hF, hrest⟩ := hall
  refine ⟨F, hr, fun w' rest' e' hr' hu => ?_, fun w' rest' e' v' xs T hr' hu ho => ?_⟩
  · have hch : Chg F w w' := ⟨hu.os, hu.tape, hu.output, hu.size, fun k hk hn => hu.block k hk fun e => hn (e ▸ hg)⟩
    refine ⟨⟨hch.os.trans h.low.os, hch.tape.trans h.low.tape, hch.output.trans h.low.output, Nat.le_trans h.low.size hch.size, fun k hk => ?_⟩, ?_, F, ⟨hg, hr'⟩, fun k hk => ⟨(hF k hk).1, Nat.lt_of_lt_of_le (hF k hk).2.1 hch.size, id⟩, ?_⟩
    · rw [hch.block k (Nat.lt_of_lt_of_le hk h.low.size) (fun hk' => by have := (hF k hk').1; omega)]
      exact h.low.block k hk
    · intro X hX
      rcases List.mem_cons.1 hX with rfl | hX
      · exact loc_rdr _ _ _
      · exact h.loc X (List.mem_cons_of_mem _ hX)
    · exact hrest.keep (fun X hX => h.loc X (List.mem_cons_of_mem _ hX)) hch.size (fun k _ h2 h3 => hch.block k h2 fun hk => h3 (.inr hk)) fun k hk => .inl hk
  · have hch : Chg F w w' := ⟨hu.os, hu.tape, hu.output, hu.size, fun k hk hn => hu.block k hk fun e => hn (e ▸ hg)⟩
    have hlt : ∀ k, v'.ownBlock = some k → w.heap.size ≤ k ∧ k < w'.heap.size := fun k hk => ho.lt k hk
    have h1 : Sep w0 (RdrT g rest' e' :: L) w' := by
      refine ⟨⟨hch.os.trans h.low.os, hch.tape.trans h.low.tape, hch.output.trans h.low.output, Nat.le_trans h.low.size hch.size, fun k hk => ?_⟩, ?_, F, ⟨hg, hr'⟩, fun k hk => ⟨(hF k hk).1, Nat.lt_of_lt_of_le (hF k hk).2.1 hch.size, id⟩, ?_⟩
      · rw [hch.block k (Nat.lt_of_lt_of_le hk h.low.size) (fun hk' => by have := (hF k hk').1; omega)]
        exact h.low.block k hk
      · intro X hX
        rcases List.mem_cons.1 hX with rfl | hX
        · exact loc_rdr _ _ _
        · exact h.loc X (List.mem_cons_of_mem _ hX)
      · exact hrest.keep (fun X hX => h.loc X (List.mem_cons_of_mem _ hX)) hch.size (fun k _ h2 h3 => hch.block k h2 fun hk => h3 (.inr hk)) fun k hk => .inl hk
    have hsz := h.low.size
    refine ⟨h1.low, ?_, fun k => v'.ownBlock = some k, ⟨⟨_, ho⟩, fun _ => Iff.rfl⟩, fun k hk => ⟨by have := hlt k hk; omega, (hlt k hk).2, id⟩, F, ⟨hg, hr'⟩, fun k hk => ⟨(hF k hk).1, Nat.lt_of_lt_of_le (hF k hk).2.1 hch.size, fun hn => ?_⟩, ?_⟩
    · intro X hX
      rcases List.mem_cons.1 hX with rfl | hX
      · exact loc_rw _ _ _
      · exact h1.loc X hX
    · rcases hn with hn | hn
      · exact hn
      · have a1 := hlt k hn; have a2 := (hF k hk).2.1; omega
    · refine hrest.keep (fun X hX => h.loc X (List.mem_cons_of_mem _ hX)) hch.size (fun k _ h2 h3 => hch.block k h2 fun hk => h3 (.inr hk)) fun k hk => ?_
      rcases hk with (h2 | h2) | h2
      · exact h2.elim
      · exact .inr (hlt k h2).1
      · exact .inl (.inr h2)
theorem read_sep {w0 : World} {L : List Thing} (v : Value) (l : List UInt8) (w : World) (hs : Sep w0 L w) (h : Sl w v (bv l)) (hlen : l.length ≤ 2199023255552) :
    Calls Tryd.prog 50 #[v] w fun e w' => ∃ g, e = .returned (.pointer (some ⟨g, 0, none⟩)) ∧ Sep w0 (RdrT g l 0 :: L) w' := by
  have H := Lib.hid h
  have HS := Lib.hid hs
  clear h hs
  go_enter Tryd.func50, Tryd.ntmps50
  go_wp2_with fail
  refine (clone_sep v l _ HS.out H.out hlen).mono ?_
  rintro e w1 ⟨v1, rfl, h1⟩
  obtain ⟨a1, c1, rfl⟩ := h1.sl.len
  have H1 := Lib.hid h1
  clear h1
  go_wp2_with fail
  go_ret
  have h2 := ((H1.out.alloc (.cells #[.slice a1 (bv l).length c1, .int .i64 0] 85))).join
  refine ⟨_, rfl, h2.imp (loc_rdr _ _ _) fun F ⟨Fa, Fb, ha, hb, hab, hF⟩ => ?_⟩
  obtain ⟨⟨bs, ho⟩, hfb⟩ := hb
  refine ⟨(hF _).2 (.inl ((ha.2 _).2 rfl)), _, ha.1, ho.sls, fun b hb' => ⟨?_, (hF b).2 (.inr ((hfb b).2 hb'))⟩⟩
  have h3 := (H1.out.rw_.lt b hb').2
  exact h3
theorem rvarint_sep {w0 w : World} {L : List Thing} {g : Nat} {rest : List UInt8} {e : Int} (h : Sep w0 (RdrT g rest e :: L) w) :
    Calls Tryd.prog 53 #[.pointer (some ⟨g, 0, none⟩)] w fun r w' => r = .returned (.int .u64 (rdVe rest e).1) ∧ Sep w0 (RdrT g (rdVe rest e).2.1 (rdVe rest e).2.2 :: L) w' := by
  obtain ⟨F, hr, hk, _⟩ := h.rdr
  exact (rvarint_any g rest e w hr).mono fun r w' ⟨h1, h2, h3⟩ => ⟨h1, hk _ _ _ h2 h3⟩
theorem rtext_sep {w0 w : World} {L : List Thing} {g : Nat} {rest : List UInt8} {e : Int} (h : Sep w0 (RdrT g rest e :: L) w) (hlen : rest.length ≤ 1099511627776) :
    Calls Tryd.prog 52 #[.pointer (some ⟨g, 0, none⟩)] w fun r w' => ∃ v', r = .returned v' ∧ Sep w0 (By v' (rdTe rest e).1 :: RdrT g (rdTe rest e).2.1 (rdTe rest e).2.2 :: L) w' := by
  obtain ⟨F, hr, _, hk⟩ := h.rdr
  exact (rtext_any g rest e w hr hlen).mono fun r w' ⟨⟨v', h1, ho⟩, h2, h3⟩ => ⟨v', h1, hk _ _ _ _ _ _ h2 h3 ho⟩
/-- The reader's Num of 8 bits, whatever its error. -/
def rdNe (rest : List UInt8) (e : Int) : Nat × List UInt8 × Int := if e = 0 then rdN 1 rest else (0, rest, e)
theorem rnum_sep {w0 w : World} {L : List Thing} {g : Nat} {rest : List UInt8} {e : Int} (h : Sep w0 (RdrT g rest e :: L) w) :
    Calls Tryd.prog 51 #[.pointer (some ⟨g, 0, none⟩), .int .i64 8] w fun r w' => r = .returned (.int .u64 (rdNe rest e).1) ∧ Sep w0 (RdrT g (rdNe rest e).2.1 (rdNe rest e).2.2 :: L) w' := by
  obtain ⟨F, hr, hk, _⟩ := h.rdr
  unfold rdNe
  by_cases he : e = 0
  · subst he
    exact (rnum1 g rest w hr).mono fun r w' ⟨h1, h2, h3⟩ => ⟨h1, hk _ _ _ h2 h3⟩
  · rw [if_neg he]
    exact (rnum_err g 8 rest e w hr he).mono fun r w' ⟨h1, h2, h3⟩ => ⟨h1, hk _ _ _ h2 h3⟩
theorem rerr_sep {w0 w : World} {L : List Thing} {g : Nat} {rest : List UInt8} {e : Int} (h : Sep w0 (RdrT g rest e :: L) w) :
    Calls Tryd.prog 76 #[.pointer (some ⟨g, 0, none⟩)] w fun r w' => r = .returned (.int .i64 e) ∧ w = w' := by
  obtain ⟨F, hr, _⟩ := h.rdr
  exact err_any g rest e w hr
theorem rend_sep {w0 w : World} {L : List Thing} {g : Nat} {rest : List UInt8} {e : Int} (h : Sep w0 (RdrT g rest e :: L) w) :
    Calls Tryd.prog 56 #[.pointer (some ⟨g, 0, none⟩)] w fun r w' => r = .returned (.int .i64 (endErr rest e)) ∧ w = w' := by
  obtain ⟨F, hr, _⟩ := h.rdr
  exact end_any g rest e w hr
end Go.Proofs.YtfjodadmcfdlpaaDoor
