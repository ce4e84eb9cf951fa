/- The document's put: a number among others, rising, once. -/
import Derived.Test.YtidbniigfkocpaaWho
namespace Go.Proofs.Ytidbniigfkocpaa
open Go.RowKit
set_option linter.unusedVariables false
set_option linter.unusedSimpArgs false
/-- What a call has made anew lies beside what was there. -/
theorem Sep.onto {w0 w w' : World} {A : Thing} {L : List Thing} (h : Sep w0 L w) (h' : Sep w [A] w') : Sep w0 (A :: L) w' := by
  obtain ⟨F, ha, hF⟩ := h'.head
  exact h.new (h'.loc A (List.mem_cons_self ..)) h'.low ha hF
theorem slI_part {w : World} {b c : Nat} {l : List Int} {m : Nat} (hb : b < w.heap.size) (hl : l.length = m) (hmc : m ≤ c) (hcm : c ≤ maxLen) (hc : ∀ j (hj : j < l.length), w.cell? ⟨b, j, none⟩ = some (.int .i64 l[j])) (i : Nat) (hi : i ≤ m) :
    Sl w (.slice (if c = i then some ⟨b, 0, none⟩ else some ⟨b, i, none⟩) (m - i) (c - i)) (iv .i64 (l.drop i)) := by
  subst hl
  by_cases hc' : c = i
  · rw [if_pos hc']
    have e : l.drop i = [] := List.drop_eq_nil_of_le (by omega)
    rw [e]
    exact .inr ⟨_, _, by rw [show l.length - i = 0 by omega], rfl⟩
  · rw [if_neg hc']
    refine .inl (.inr ⟨b, i, c - i, by simp [iv_length], by rw [iv_length, List.length_drop]; omega, by omega, hb, fun k u hk => ?_⟩)
    have hk2 : k < l.length - i := by
      rcases Nat.lt_or_ge k (l.length - i) with h | h
      · exact h
      · rw [List.getElem?_eq_none (by rw [iv_length, List.length_drop]; exact h)] at hk; cases hk
    have h2 := hc (i + k) (by omega)
    rw [h2, ← hk]
    simp [iv, List.getElem?_drop]
    rw [List.getElem?_eq_getElem (by omega)]
    rfl
/-- What put makes of a list. -/
def PutOk (l : List Int) (n : Int) (r : List Int) : Prop := ∃ k k' : Nat, k ≤ l.length ∧ r = l.take k ++ n :: l.drop k' ∧ (∀ x ∈ l.take k, x < n) ∧ ((k' = k ∧ ∀ h : k < l.length, n < l[k]) ∨ (k' = k + 1 ∧ ∃ h : k < l.length, l[k] = n))
set_option maxRecDepth 100000 in
set_option maxHeartbeats 600000 in
theorem put_any (b m c : Nat) (l : List Int) (n : Int) (w : World) (hc : ∀ j (hj : j < l.length), w.cell? ⟨b, j, none⟩ = some (.int .i64 l[j])) (hb : b < w.heap.size) (hl : l.length = m) (hmc : m ≤ c) (hcm : c ≤ maxLen) (hm : m ≤ 1000) :
    Calls Try.prog 32 #[.slice (some ⟨b, 0, none⟩) m c, .int .i64 n] w fun e w' => ∃ v r, e = .returned v ∧ PutOk l n r ∧ Sep w [Is v r] w' := by
  have HC := Lib.hid hc
  have HB := Lib.hid hb
  have HL := Lib.hid hl
  have H0 := Lib.hid ((Sep.start w).rnil 3)
  have HM := Lib.hid hmc
  have HCM := Lib.hid hcm
  clear hc hb hl hcm
  go_enter Try.func32, Try.ntmps32
  go_wp2_with fail
  go_loopw [5, 6] (fun v i wr => ∃ k : Nat, k ≤ m ∧ i = .int .i64 k ∧ (∀ x ∈ l.take k, x < n) ∧ Sep w [Is v (l.take k)] wr) (fun _ i _ => m - (intOf i).toNat)
  case atStart => exact ⟨0, by omega, rfl, (fun x hx => by simp at hx), H0.out⟩
  case round =>
    obtain ⟨k, hk, rfl, hlt, hs⟩ := hrel
    clear H0
    have k0 : (0 : Int) ≤ (k : Int) := by omega
    have k1 : (k : Int) ≤ 1000 := by omega
    have HLT := Lib.hid hlt
    have HS := Lib.hid hs
    clear hlt hs
    have fin : Hid (∀ (k' : Nat) (wa : World) (v1 : Value), k' ≤ m → Sep w [Is v1 (l.take k ++ [n])] wa → ∃ v2 w2, (Builtin.append_ #[41, 41] 41 #[v1, .slice (if c = k' then some ⟨b, 0, none⟩ else some ⟨b, k', none⟩) (m - k') (c - k')]).run Try.prog wa = .ok v2 w2 ∧ Sep w [Is v2 (l.take k ++ n :: l.drop k')] w2) := Lib.hid (by
      intro k' wa v1 hk' h1
      have hx := slI_part (w := wa) (Nat.lt_of_lt_of_le HB.out h1.low.size) HL.out HM.out HCM.out (fun j hj => (h1.low.cell (p := ⟨b, j, none⟩) HB.out).trans (HC.out j hj)) k' hk'
      obtain ⟨v2, w2, hr, h2, _⟩ := appI (ty := 41) h1 hx (by have := HL.out; simp; omega)
      rw [List.append_assoc, List.singleton_append] at h2
      exact ⟨v2, w2, hr, h2⟩)
    by_cases hkm : k < m
    · have hd : decide (k < m) = true := decide_eq_true hkm
      have hkl : k < l.length := by rw [HL.out]; exact hkm
      have k2 : (k : Int) < (m : Int) := by omega
      have c0 := (HS.out.low.cell (p := ⟨b, k, none⟩) HB.out).trans (HC.out k hkl)
      have htk := List.take_succ_eq_append_getElem hkl
      by_cases hx : l[k] < n
      · have hlt2 : ∀ x ∈ l.take (k + 1), x < n := by
          rw [htk]
          intro x hx'
          rcases List.mem_append.1 hx' with h | h
          · exact HLT.out x h
          · rw [List.mem_singleton.1 h]; exact hx
        have hxx := (HS.out.alloc (.cells #[.int .i64 l[k]] 3)).asRow 1 rfl (by unfold maxLen; omega)
        obtain ⟨v', w', hr, h4, _⟩ := appI (ty := 41) (ys := [l[k]]) hxx.sw2 hxx.sl (by rw [List.length_take]; simp; omega)
        rw [← htk] at h4
        have H4 := Lib.hid h4.sw2.drop
        have Hr := Lib.hid hr
        have HLT2 := Lib.hid hlt2
        clear hxx hr h4 htk hlt2
        generalize l[k] = z at *
        clear hkl HS HLT fin hkm
        go_wp2_with (at_builtin; refine wpList_append_run rfl _ _ _ _ rfl rfl rfl Hr.out ?_)
        go_roundw
        case rel => exact ⟨k + 1, of_decide_eq_true hd, by go_num, HLT2.out, H4.out⟩
        case measure => have hkn := of_decide_eq_true hd; simp [intOf]; omega
      · have hxx := (HS.out.alloc (.cells #[.int .i64 n] 3)).asRow 1 rfl (by unfold maxLen; omega)
        obtain ⟨v', w', hr, h4, _⟩ := appI (ty := 41) (ys := [n]) hxx.sw2 hxx.sl (by rw [List.length_take]; simp; omega)
        have h5 := h4.sw2.drop
        have c1 := (h5.low.cell (p := ⟨b, k, none⟩) HB.out).trans (HC.out k hkl)
        have Hr := Lib.hid hr
        by_cases he : l[k] = n
        · obtain ⟨v2, w2, hr2, h6⟩ := fin.out (k + 1) w' v' (by omega) h5
          have HF : Hid (PutOk l n (l.take k ++ n :: l.drop (k + 1))) := Lib.hid ⟨k, k + 1, by omega, rfl, HLT.out, .inr ⟨rfl, hkl, he⟩⟩
          have H6 := Lib.hid h6
          have hq : (l[k] == n) = true := by rw [beq_iff_eq]; exact he
          have j1 : decide (k + 1 ≤ m) = true := decide_eq_true (by omega)
          have j2 : (k : Int) + 1 ≤ (m : Int) := by omega
          by_cases hck : c = k + 1
          · rw [if_pos hck] at hr2
            subst hck
            rw [Nat.sub_self, show m - (k + 1) = 0 by omega] at hr2
            have Hr2 := Lib.hid hr2
            clear hxx hr h4 h5 h6 htk he hr2
            generalize l[k] = z at *
            clear hkl HS HLT fin
            go_wp2_with (at_builtin; first | (refine wpList_append_run rfl _ _ _ _ rfl rfl rfl Hr.out ?_; clear Hr) | (refine wpList_append_run rfl _ _ _ _ rfl rfl rfl Hr2.out ?_; clear Hr2))
            go_ret
            first | exact ⟨_, _, rfl, HF.out, H6.out⟩ | exact ⟨_, rfl, _, HF.out, H6.out⟩
          · rw [if_neg hck] at hr2
            have Hr2 := Lib.hid hr2
            clear hxx hr h4 h5 h6 htk he hr2
            generalize l[k] = z at *
            clear hkl HS HLT fin
            go_wp2_with (at_builtin; first | (refine wpList_append_run rfl _ _ _ _ rfl rfl rfl Hr.out ?_; clear Hr) | (refine wpList_append_run rfl _ _ _ _ rfl rfl rfl Hr2.out ?_; clear Hr2))
            go_ret
            first | exact ⟨_, _, rfl, HF.out, H6.out⟩ | exact ⟨_, rfl, _, HF.out, H6.out⟩
        · obtain ⟨v2, w2, hr2, h6⟩ := fin.out k w' v' (by omega) h5
          have HF : Hid (PutOk l n (l.take k ++ n :: l.drop k)) := Lib.hid ⟨k, k, by omega, rfl, HLT.out, .inl ⟨rfl, fun _ => by omega⟩⟩
          have H6 := Lib.hid h6
          have hq : (l[k] == n) = false := by rw [beq_eq_false_iff_ne]; exact he
          by_cases hck : c = k
          · exact absurd hkm (by omega)
          · rw [if_neg hck] at hr2
            have Hr2 := Lib.hid hr2
            clear hxx hr h4 h5 h6 htk he hr2
            generalize l[k] = z at *
            clear hkl HS HLT fin
            go_wp2_with (at_builtin; first | (refine wpList_append_run rfl _ _ _ _ rfl rfl rfl Hr.out ?_; clear Hr) | (refine wpList_append_run rfl _ _ _ _ rfl rfl rfl Hr2.out ?_; clear Hr2))
            go_ret
            first | exact ⟨_, _, rfl, HF.out, H6.out⟩ | exact ⟨_, rfl, _, HF.out, H6.out⟩
    · have hd : decide (k < m) = false := decide_eq_false hkm
      obtain rfl : k = m := by omega
      have hxx := (HS.out.alloc (.cells #[.int .i64 n] 3)).asRow 1 rfl (by unfold maxLen; omega)
      obtain ⟨v', w', hr, h4, _⟩ := appI (ty := 41) (ys := [n]) hxx.sw2 hxx.sl (by rw [List.length_take]; simp; omega)
      have h5 := h4.sw2.drop
      have Hr := Lib.hid hr
      obtain ⟨v2, w2, hr2, h6⟩ := fin.out k w' v' (by omega) h5
      have HF : Hid (PutOk l n (l.take k ++ n :: l.drop k)) := Lib.hid ⟨k, k, by have := HL.out; omega, rfl, HLT.out, .inl ⟨rfl, fun h => by have := HL.out; omega⟩⟩
      have H6 := Lib.hid h6
      by_cases hck : c = k
      · rw [if_pos hck] at hr2
        subst hck
        rw [Nat.sub_self] at hr2
        have Hr2 := Lib.hid hr2
        clear hxx hr h4 h5 h6 hr2 HS HLT fin
        go_wp2_with (at_builtin; first | (refine wpList_append_run rfl _ _ _ _ rfl rfl rfl Hr.out ?_; clear Hr) | (refine wpList_append_run rfl _ _ _ _ rfl rfl rfl Hr2.out ?_; clear Hr2))
        go_ret
        first | exact ⟨_, _, rfl, HF.out, H6.out⟩ | exact ⟨_, rfl, _, HF.out, H6.out⟩
      · rw [if_neg hck, Nat.sub_self] at hr2
        have Hr2 := Lib.hid hr2
        clear hxx hr h4 h5 h6 hr2 HS HLT fin
        go_wp2_with (at_builtin; first | (refine wpList_append_run rfl _ _ _ _ rfl rfl rfl Hr.out ?_; clear Hr) | (refine wpList_append_run rfl _ _ _ _ rfl rfl rfl Hr2.out ?_; clear Hr2))
        go_ret
        first | exact ⟨_, _, rfl, HF.out, H6.out⟩ | exact ⟨_, rfl, _, HF.out, H6.out⟩
end Go.Proofs.Ytidbniigfkocpaa
