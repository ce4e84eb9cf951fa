/- Contracts of the document's answer for the reader: Num. -/
import Derived.Test.YtlfccpmjlgcjpaaRefText
namespace Go.Proofs.Ytlfccpmjlgcjpaa
open Go.RowKit
set_option linter.unusedVariables false
theorem rrnum_err (g : Nat) (s : Int) (rest : List UInt8) (e : Int) (w : World) (h : Rr w g rest e) (he : ¬ e = 0) :
    Calls Try.prog 49 #[.pointer (some ⟨g, 0, none⟩), .int .i64 s] w fun r w' => r = .returned (.int .u64 0) ∧ Rr w' g rest e ∧ Upd g w w' := by
  have H := Lib.hid h
  have he1 : (e == 0) = false := beq_eq_false_iff_ne.2 he
  obtain ⟨v1, c0, c1, _⟩ := h.cells
  clear h he
  go_enter Try.func49, Try.ntmps49
  go_wp2_with fail
  go_loopw [5, 6] (fun n i wr => n = .int .u64 0 ∧ i = .int .i64 0 ∧ wr = w) (fun _ _ _ => 0)
  case atStart => exact ⟨rfl, rfl, rfl⟩
  case round =>
    obtain ⟨rfl, rfl, rfl⟩ := hrel
    go_wp2
    all_goals
      go_ret
      exact ⟨rfl, H.out, Upd.refl _ _⟩
theorem rrnum_arg (g : Nat) (s : Int) (rest : List UInt8) (w : World) (h : Rr w g rest 0) (hs : isSize s = false) :
    Calls Try.prog 49 #[.pointer (some ⟨g, 0, none⟩), .int .i64 s] w fun r w' => r = .returned (.int .u64 0) ∧ Rr w' g [] 2 ∧ Upd g w w' := by
  have H := Lib.hid h
  obtain ⟨v1, c0, c1, _⟩ := h.cells
  clear h
  go_enter Try.func49, Try.ntmps49
  go_wp2_with fail
  refine (rsized_any _ _).mono ?_
  rw [hs]
  rintro e w1 ⟨rfl, rfl⟩
  clear hs
  go_wp2_with fail
  refine (rrfail_any g rest 2 _ H.out).mono ?_
  rintro r w1 ⟨⟨x, rfl⟩, hr1, hu1⟩
  clear c0 c1
  obtain ⟨v2, c0, c1, _⟩ := hr1.cells
  have H1 := Lib.hid hr1
  clear hr1
  go_wp2_with fail
  go_loopw [5, 6] (fun n i wr => n = .int .u64 0 ∧ i = .int .i64 0 ∧ wr = w1) (fun _ _ _ => 0)
  case atStart => exact ⟨rfl, rfl, rfl⟩
  case round =>
    obtain ⟨rfl, rfl, rfl⟩ := hrel
    go_wp2
    all_goals
      go_ret
      exact ⟨rfl, H1.out, hu1⟩
theorem nsum (x m : Nat) (hx : x < 256 ^ 7) (hm : m < 256) : IntKind.u64.wrap (IntKind.u64.wrap ((x : Int) * 256) + (m : Int)) = ((x * 256 + m : Nat) : Int) := by
  have e1 : IntKind.u64.wrap ((x : Int) * 256) = ((x * 256 : Nat) : Int) := by rw [IntKind.wrap_u64]; omega
  rw [e1, IntKind.wrap_u64]; omega
set_option maxHeartbeats 1000000 in
set_option maxRecDepth 4000 in
theorem rrnum_ok (g : Nat) (s : Int) (c : Nat) (rest : List UInt8) (w : World) (h : Rr w g rest 0) (hs : isSize s = true) (hq : IntKind.i64.wrap (s.tdiv 8) = (c : Nat)) (hc8 : c ≤ 8) (hc1 : 1 ≤ c) :
    Calls Try.prog 49 #[.pointer (some ⟨g, 0, none⟩), .int .i64 s] w fun r w' => r = .returned (.int .u64 (rdN c rest).1) ∧ Rr w' g (rdN c rest).2.1 (rdN c rest).2.2 ∧ Upd g w w' := by
  have H := Lib.hid h
  obtain ⟨a, cp, c0, c1, f0, f1, hsl, hne⟩ := h.len
  have Hs := Lib.hid hsl
  clear h hsl
  by_cases hlt : rest.length < c
  · have HT := Lib.hid (show rdN c rest = (0, [], 3) from if_pos hlt)
    go_enter Try.func49, Try.ntmps49
    go_wp2_with fail
    refine (rsized_any _ _).mono ?_
    rw [hs]
    rintro e w1 ⟨rfl, rfl⟩
    clear hs
    go_wp2_with fail
    refine (rrfail_any g rest 3 _ H.out).mono ?_
    rintro r w1 ⟨⟨x, rfl⟩, hr1, hu1⟩
    clear c0 c1 f0 f1
    obtain ⟨v2, c0, c1, _⟩ := hr1.cells
    have H1 := Lib.hid hr1
    clear hr1
    go_wp2_with fail
    go_loopw [5, 6] (fun n i wr => n = .int .u64 0 ∧ i = .int .i64 0 ∧ wr = w1) (fun _ _ _ => 0)
    case atStart => exact ⟨rfl, rfl, rfl⟩
    case round =>
      obtain ⟨rfl, rfl, rfl⟩ := hrel
      go_wp2
      go_ret
      rw [HT.out]
      exact ⟨rfl, H1.out, hu1⟩
  · have HT := Lib.hid (show rdN c rest = (beVal (rest.take c), rest.drop c, 0) from if_neg hlt)
    go_enter Try.func49, Try.ntmps49
    go_wp2_with fail
    refine (rsized_any _ _).mono ?_
    rw [hs]
    rintro e w1 ⟨rfl, rfl⟩
    clear hs
    go_wp2_with fail
    go_loopw [5, 6] (fun n i wr => ∃ j : Nat, j ≤ c ∧ i = .int .i64 j ∧ n = .int .u64 (beVal (rest.take j) : Nat) ∧ Rr wr g (rest.drop j) 0 ∧ Upd g w wr) (fun _ i _ => c - (intOf i).toNat)
    case atStart => exact ⟨0, by omega, rfl, rfl, H.out, Upd.refl _ _⟩
    case round =>
      obtain ⟨j, hj, rfl, rfl, hrr, hu⟩ := hrel
      clear c0 c1 f0 f1 hne Hs
      obtain ⟨v, c0, c1, f0, f1, hs, hne⟩ := hrr.cells
      obtain ⟨a', cq, rfl⟩ := hs.len
      rw [bv_length] at c0 hs hne
      by_cases hjc : j < c
      · have hjl : j < rest.length := by omega
        have hdl : rest.drop j = rest[j] :: rest.drop (j + 1) := List.drop_eq_getElem_cons hjl
        have hm : rest[j].toNat < 256 := rest[j].toNat_lt
        have hx : beVal (rest.take j) < 256 ^ 7 := by
          have h1 := beVal_lt (rest.take j)
          have h2 : 256 ^ (rest.take j).length ≤ 256 ^ 7 := Nat.pow_le_pow_right (by omega) (by rw [List.length_take]; omega)
          omega
        have hstep := nsum _ _ hx hm
        rw [← beVal_snoc, ← List.take_succ_eq_append_getElem hjl] at hstep
        have Hstep := Lib.hid hstep
        rw [hdl] at hrr c0 hs hne
        have Hl : Hid (True ∧ rest.drop (j + 1) = rest.drop (j + 1)) := Lib.hid ⟨trivial, rfl⟩
        clear hstep hx hdl
        obtain ⟨l', hl'⟩ : ∃ l', l' = rest.drop (j + 1) := ⟨_, rfl⟩
        rw [← hl'] at hrr c0 hs hne
        obtain ⟨m', hm'⟩ : ∃ m', m' = rest[j] := ⟨_, rfl⟩
        rw [← hm'] at hrr c0 hs hne
        have Hl : Hid (True ∧ rest.drop (j + 1) = l') := Lib.hid ⟨trivial, hl'.symm⟩
        clear hl'
        have HR := Lib.hid hrr
        have Hs := Lib.hid hs
        have Hne := Lib.hid hne
        clear hrr hs hne
        obtain ⟨b, off, rfl, hcc⟩ : ∃ b off, a' = some ⟨b, off, none⟩ ∧ wr.cell? ⟨b, off, none⟩ = some (.int .u8 (m'.toNat : Nat)) := by
          rcases Hs.out with ⟨_, h2⟩ | ⟨b, off, cap, h2, _, _, _, h3⟩
          · rw [bv_nil_iff] at h2; cases h2
          · simp only [Value.slice.injEq] at h2
            exact ⟨b, off, h2.1, h3 0 _ (bv_get (m' :: l') 0 (by simp))⟩
        have hbg : b < g := Hne.out b rfl
        have hl1 : 1 ≤ (m' :: l').length := by simp
        have hl0 : ¬ (m' :: l').length = 0 := by simp
        have hT : Hid ((¬ cq = 1 → SlS wr (.slice (some ⟨b, off + 1, none⟩) ((m' :: l').length - 1) (cq - 1)) (bv l')) ∧ (cq = 1 → SlS wr (.slice (some ⟨b, off, none⟩) ((m' :: l').length - 1) 0) (bv l'))) := Lib.hid ⟨fun h => tail_sls Hs.out h, fun h => tail_sls_cap Hs.out h⟩
        have hcl : (m' :: l').length ≤ cq := by
          rcases Hs.out with ⟨_, h2⟩ | ⟨b, off, cap, h2, h3, _⟩
          · rw [bv_nil_iff] at h2; cases h2
          · simp only [Value.slice.injEq, bv_length] at h2 h3; omega
        generalize (m' :: l').length = n at *
        rw [hm'] at hcc
        clear hm' Hs
        generalize rest[j].toNat = m at *
        generalize beVal (rest.take j) = x at *
        by_cases hcap : cq = 1
        · have hsl := hT.out.2 hcap
          have hne2 : ∀ b', (Value.slice (some ⟨b, off, none⟩) (n - 1) (0)).ownBlock = some b' → b' < g := by simpa [Value.ownBlock] using hbg
          have hR2 : Hid (Rr (wr.setCell ⟨g, 0, none⟩ (.slice (some ⟨b, off, none⟩) (n - 1) (0))) g l' 0) := Lib.hid (HR.out.set0 hsl hne2)
          have hU2 : Hid (Upd g w (wr.setCell ⟨g, 0, none⟩ (.slice (some ⟨b, off, none⟩) (n - 1) (0)))) := Lib.hid (hu.setCell 0 _)
          clear hsl hne2 hu
          go_wp2
          go_roundw
          case rel => exact ⟨j + 1, by omega, by go_num, congrArg (Value.int .u64) Hstep.out, by rw [Hl.out.2]; exact hR2.out, hU2.out⟩
          case measure => simp [intOf]; omega
        · have hsl := hT.out.1 hcap
          have hne2 : ∀ b', (Value.slice (some ⟨b, off + 1, none⟩) (n - 1) (cq - 1)).ownBlock = some b' → b' < g := by simpa [Value.ownBlock] using hbg
          have hR2 : Hid (Rr (wr.setCell ⟨g, 0, none⟩ (.slice (some ⟨b, off + 1, none⟩) (n - 1) (cq - 1))) g l' 0) := Lib.hid (HR.out.set0 hsl hne2)
          have hU2 : Hid (Upd g w (wr.setCell ⟨g, 0, none⟩ (.slice (some ⟨b, off + 1, none⟩) (n - 1) (cq - 1)))) := Lib.hid (hu.setCell 0 _)
          clear hsl hne2 hu
          go_wp2
          go_roundw
          case rel => exact ⟨j + 1, by omega, by go_num, congrArg (Value.int .u64) Hstep.out, by rw [Hl.out.2]; exact hR2.out, hU2.out⟩
          case measure => simp [intOf]; omega
      · obtain rfl : j = c := by omega
        have HR := Lib.hid hrr
        clear hrr hs hne
        go_wp2
        go_ret
        rw [HT.out]
        exact ⟨rfl, HR.out, hu⟩
/-- Num, whatever the size and the error. -/
def rdNe (s : Int) (rest : List UInt8) (e : Int) : Nat × List UInt8 × Int := if e = 0 then (if isSize s then rdN (s / 8).toNat rest else (0, [], 2)) else (0, rest, e)
theorem isSize_or {s : Int} (h : isSize s = true) : s = 8 ∨ s = 16 ∨ s = 32 ∨ s = 64 := by
  unfold isSize at h
  simp at h
  omega
theorem rrnum_any (g : Nat) (s : Int) (rest : List UInt8) (e : Int) (w : World) (h : Rr w g rest e) :
    Calls Try.prog 49 #[.pointer (some ⟨g, 0, none⟩), .int .i64 s] w fun r w' => r = .returned (.int .u64 (rdNe s rest e).1) ∧ Rr w' g (rdNe s rest e).2.1 (rdNe s rest e).2.2 ∧ Upd g w w' := by
  unfold rdNe
  by_cases he : e = 0
  · subst he
    rw [if_pos rfl]
    by_cases hs : isSize s = true
    · rw [if_pos hs]
      rcases isSize_or hs with rfl | rfl | rfl | rfl
      · exact rrnum_ok g 8 1 rest w h rfl (by decide) (by omega) (by omega)
      · exact rrnum_ok g 16 2 rest w h rfl (by decide) (by omega) (by omega)
      · exact rrnum_ok g 32 4 rest w h rfl (by decide) (by omega) (by omega)
      · exact rrnum_ok g 64 8 rest w h rfl (by decide) (by omega) (by omega)
    · rw [if_neg hs]
      exact rrnum_arg g s rest w h (by simpa using hs)
  · rw [if_neg he]
    exact rrnum_err g s rest e w h he
theorem rnum_any (g : Nat) (s : Int) (rest : List UInt8) (e : Int) (w : World) (h : Rd w g rest e) :
    Calls Try.prog 29 #[.pointer (some ⟨g, 0, none⟩), .int .i64 s] w fun r w' => r = .returned (.int .u64 (rdNe s rest e).1) ∧ Rd w' g (rdNe s rest e).2.1 (rdNe s rest e).2.2 ∧ Upd g w w' := by
  unfold rdNe
  by_cases he : e = 0
  · subst he
    rw [if_pos rfl]
    by_cases hs : isSize s = true
    · rw [if_pos hs]
      rcases isSize_or hs with rfl | rfl | rfl | rfl
      · exact rnum1 g rest w h
      · exact rnum2 g rest w h
      · exact rnum4 g rest w h
      · exact rnum8 g rest w h
    · rw [if_neg hs]
      exact rnum_arg g s rest w h (by simpa using hs)
  · rw [if_neg he]
    exact rnum_err g s rest e w h he
end Go.Proofs.Ytlfccpmjlgcjpaa
