/- Texts of one bundle: RefI1, RefI2, RefI4, RefI5. -/
import Derived.Test.YtcicclghgbdgnaaDoorBkG
import Derived.Test.YtcicclghgbdgnaaDoorBkH
import Derived.Test.YtcicclghgbdgnaaDoorItem5
import Derived.Test.YtcicclghgbdgnaaDoorItem10
import Derived.Test.YtcicclghgbdgnaaDoorBkB
/- The document's own item: names, kinds. -/
namespace Go.Proofs.YtcicclghgbdgnaaDoor
open Go.RowKit
set_option linter.unusedVariables false
set_option linter.unusedSimpArgs false
def wthB (n a b : Int) : Bool := decide (a ≤ n) && decide (n ≤ b)
theorem within_any (n a b : Int) (w : World) : Calls Tryd.prog 64 #[.int .i64 n, .int .i64 a, .int .i64 b] w fun e w' => e = .returned (.bool (wthB n a b)) ∧ w = w' := by
  by_cases h1 : a ≤ n
  · by_cases h2 : n ≤ b
    · rw [show wthB n a b = true by simp [wthB, h1, h2]]
      go_enter Tryd.func64, Tryd.ntmps64
      go_wp2
      go_ret
      exact ⟨rfl, rfl⟩
    · rw [show wthB n a b = false by simp [wthB, h2]]
      go_enter Tryd.func64, Tryd.ntmps64
      go_wp2
      go_ret
      exact ⟨rfl, rfl⟩
  · rw [show wthB n a b = false by simp [wthB, h1]]
    go_enter Tryd.func64, Tryd.ntmps64
    go_wp2
    go_ret
    exact ⟨rfl, rfl⟩
theorem wthB_qty (n : Int) : wthB n 1 2147483647 = qtyB n := rfl
def skuK (k : Int) : Bool := (k == 1) || (k == 2) || (k == 8)
def ordK (k : Int) : Bool := (decide (3 ≤ k) && decide (k ≤ 6)) || (k == 9)
def numK (k : Int) : Bool := (decide (1 ≤ k) && decide (k ≤ 3)) || (k == 7)
theorem hasSku_any (k : Int) (w : World) : Calls Tryd.prog 55 #[.int .i64 k] w fun e w' => e = .returned (.bool (skuK k)) ∧ w = w' := by
  by_cases h1 : k = 1
  · subst h1
    go_enter Tryd.func55, Tryd.ntmps55
    go_wp2
    go_ret
    exact ⟨rfl, rfl⟩
  · by_cases h2 : k = 2
    · subst h2
      go_enter Tryd.func55, Tryd.ntmps55
      go_wp2
      go_ret
      exact ⟨rfl, rfl⟩
    · have e1 : (k == 1) = false := by rw [beq_eq_false_iff_ne]; exact h1
      have e2 : (k == 2) = false := by rw [beq_eq_false_iff_ne]; exact h2
      rw [show skuK k = (k == 8) by simp [skuK, e1, e2]]
      clear h1 h2
      go_enter Tryd.func55, Tryd.ntmps55
      go_wp2
      go_ret
      exact ⟨rfl, rfl⟩
theorem hasOrder_any (k : Int) (w : World) : Calls Tryd.prog 56 #[.int .i64 k] w fun e w' => e = .returned (.bool (ordK k)) ∧ w = w' := by
  by_cases h1 : 3 ≤ k
  · by_cases h2 : k ≤ 6
    · rw [show ordK k = true by simp [ordK, h1, h2]]
      go_enter Tryd.func56, Tryd.ntmps56
      go_wp2
      go_ret
      exact ⟨rfl, rfl⟩
    · rw [show ordK k = (k == 9) by simp [ordK, h2]]
      go_enter Tryd.func56, Tryd.ntmps56
      go_wp2
      go_ret
      exact ⟨rfl, rfl⟩
  · rw [show ordK k = (k == 9) by simp [ordK, h1]]
    go_enter Tryd.func56, Tryd.ntmps56
    go_wp2
    go_ret
    exact ⟨rfl, rfl⟩
theorem hasN_any (k : Int) (w : World) : Calls Tryd.prog 58 #[.int .i64 k] w fun e w' => e = .returned (.bool (numK k)) ∧ w = w' := by
  by_cases h1 : 1 ≤ k
  · by_cases h2 : k ≤ 3
    · rw [show numK k = true by simp [numK, h1, h2]]
      go_enter Tryd.func58, Tryd.ntmps58
      go_wp2
      go_ret
      exact ⟨rfl, rfl⟩
    · rw [show numK k = (k == 7) by simp [numK, h2]]
      go_enter Tryd.func58, Tryd.ntmps58
      go_wp2
      go_ret
      exact ⟨rfl, rfl⟩
  · rw [show numK k = (k == 7) by simp [numK, h1]]
    go_enter Tryd.func58, Tryd.ntmps58
    go_wp2
    go_ret
    exact ⟨rfl, rfl⟩
set_option maxHeartbeats 1000000 in
theorem rname_any (s : ByteArray) (w : World) (hs : s.size ≤ maxLen) : Calls Tryd.prog 65 #[.string s] w fun e w' => e = .returned (.bool (nameB s)) ∧ w = w' := by
  unfold maxLen at hs
  obtain ⟨r, hr⟩ : ∃ r, r = nameB s := ⟨_, rfl⟩
  rw [← hr]
  have HR : Hid (r = (decide (1 ≤ s.size) && decide (s.size ≤ 8) && s.data.toList.all goodC)) := Lib.hid hr
  clear hr
  go_enter Tryd.func65, Tryd.ntmps65
  go_wp2
  go_loop [3] (fun i => ∃ k : Nat, k ≤ s.size ∧ i = .int .i64 k ∧ (s.data.toList.take k).all goodC = true) (fun i => s.size - (intOf i).toNat)
  case atStart => exact ⟨0, Nat.zero_le _, rfl, by simp⟩
  case round =>
    obtain ⟨k, hk, rfl, ht⟩ := hrel
    have k0 : (0 : Int) ≤ (k : Int) := by omega
    by_cases hlt : k < s.size
    · have hd : decide (k < s.size) = true := decide_eq_true hlt
      have hts := take_snoc s k hlt
      have hb8 : s[k].toNat < 256 := s[k].toNat_lt
      cases hg : goodC s[k] with
      | true =>
        have HT : Hid ((s.data.toList.take (k + 1)).all goodC = true) := Lib.hid (by rw [hts, List.all_append, ht]; simp [hg])
        have hok := goodC_ok hg
        clear hg hts ht
        by_cases a1 : 97 ≤ (s[k].toNat : Int)
        · by_cases a2 : (s[k].toNat : Int) ≤ 122
          · clear hok
            go_wp2
            go_round
            case rel => exact ⟨k + 1, hlt, by go_num, HT.out⟩
            case measure => simp [intOf]; omega
          · exfalso; omega
        · have a3 : 48 ≤ (s[k].toNat : Int) := by omega
          have a4 : (s[k].toNat : Int) ≤ 57 := by omega
          clear hok
          go_wp2
          go_round
          case rel => exact ⟨k + 1, hlt, by go_num, HT.out⟩
          case measure => simp [intOf]; omega
      | false =>
        have HF : Hid (r = false) := Lib.hid (by
          rw [HR.out]
          rw [Bool.and_eq_false_iff]
          right
          rw [List.all_eq_false]
          exact ⟨s[k], by
            have : s[k] ∈ s.data.toList := by simp [ByteArray.getElem_eq_getElem_data]
            exact this, by rw [hg]; simp⟩)
        have hbad := goodC_bad hg
        clear hg hts ht HR
        obtain ⟨b1, b2⟩ := hbad
        rcases b1 with b1 | b1 <;> rcases b2 with b2 | b2
        all_goals first | (exfalso; omega) | skip
        all_goals
          try have p1 : (48 : Int) ≤ (s[k].toNat : Int) := by omega
          try have p3 : decide ((s[k].toNat : Int) ≤ 57) = false := decide_eq_false (by omega)
          try have p4 : decide ((s[k].toNat : Int) ≤ 122) = false := decide_eq_false (by omega)
          try have p2 : (97 : Int) ≤ (s[k].toNat : Int) := by omega
          go_wp2
          go_ret
          first | exact ⟨congrArg (fun z => Ending.returned (.bool z)) HF.out.symm, rfl⟩ | (rw [HF.out]; exact ⟨rfl, rfl⟩)
    · have hd : decide (k < s.size) = false := decide_eq_false hlt
      have hall : s.data.toList.all goodC = true := by rw [← ht, List.take_of_length_le (by simp; omega)]
      have HF : Hid (r = (decide (1 ≤ s.size) && decide (s.size ≤ 8))) := Lib.hid (by rw [HR.out, hall, Bool.and_true])
      clear ht HR hall
      by_cases h1 : 1 ≤ s.size
      · by_cases h2 : s.size ≤ 8
        · have g1 : (1 : Int) ≤ (s.size : Int) := by omega
          have g2 : (s.size : Int) ≤ 8 := by omega
          go_wp2
          go_ret
          rw [HF.out]
          simp [h1, h2]
        · have g1 : (1 : Int) ≤ (s.size : Int) := by omega
          have g2 : ¬ (s.size : Int) ≤ 8 := by omega
          go_wp2
          go_ret
          rw [HF.out]
          simp [h1, h2]
      · have g1 : ¬ (1 : Int) ≤ (s.size : Int) := by omega
        go_wp2
        go_ret
        rw [HF.out]
        simp [h1]
end Go.Proofs.YtcicclghgbdgnaaDoor

/- The document's own item: lines, sameness. -/
namespace Go.Proofs.YtcicclghgbdgnaaDoor
open Go.RowKit
set_option linter.unusedVariables false
set_option linter.unusedSimpArgs false
theorem linesB_eq (ls : List Ln) : linesB ls = (wthB (ls.length : Int) 1 4 && ls.all lineB && decide ((ls.map (·.1)).Nodup)) := by
  unfold linesB wthB
  have a1 : decide ((1 : Int) ≤ (ls.length : Int)) = decide (1 ≤ ls.length) := by rw [decide_eq_decide]; omega
  have a2 : decide ((ls.length : Int) ≤ 4) = decide (ls.length ≤ 4) := by rw [decide_eq_decide]; omega
  rw [a1, a2]
theorem ks_ne {a b : KS} (h : ¬ a = b) : (a.1.toList == b.1.toList) = false := str_ne fun e => h (Subtype.ext e)
theorem take_nd {ls : List Ln} {k : Nat} (hk : k < ls.length) (h : ((ls.take k).map (·.1)).Nodup) (hn : ∀ i (hi : i < k), ls[i].1 ≠ ls[k].1) : ((ls.take (k + 1)).map (·.1)).Nodup := by
  rw [List.take_succ_eq_append_getElem hk, List.map_append, List.nodup_append]
  refine ⟨h, by simp, fun a ha b hb => ?_⟩
  simp at hb
  subst hb
  obtain ⟨l, hl, rfl⟩ := List.mem_map.1 ha
  obtain ⟨i, hi, rfl⟩ := List.getElem_of_mem hl
  have hi2 : i < k := by rw [List.length_take] at hi; omega
  rw [List.getElem_take]
  exact hn i hi2
theorem not_nd {ls : List Ln} {i k : Nat} (hik : i < k) (hk : k < ls.length) (h : ls[i].1 = ls[k].1) : ¬ (ls.map (·.1)).Nodup := by
  intro hn
  rw [List.nodup_iff_pairwise_ne, List.pairwise_iff_getElem] at hn
  exact hn i k (by simp; omega) (by simp; omega) hik (by simpa using h)
set_option maxRecDepth 100000 in
set_option maxHeartbeats 16000000 in
theorem rlines_any {w0 w : World} {L : List Thing} (v : Value) (ls : List Ln) (hs : Sep w0 L w) (hv : LnS w v ls) (hl : ls.length ≤ 9223372036854775807) :
    Calls Tryd.prog 66 #[v] w fun e w' => e = .returned (.bool (linesB ls)) ∧ Sep w0 L w' := by
  obtain ⟨a, c, rfl⟩ := hv.len
  have HV := Lib.hid hv
  have HS := Lib.hid hs
  obtain ⟨r, hr⟩ : ∃ r : Bool, r = linesB ls := ⟨_, rfl⟩
  rw [← hr]
  have HR : Hid (r = (wthB (ls.length : Int) 1 4 && ls.all lineB && decide ((ls.map (·.1)).Nodup))) := Lib.hid (hr.trans (linesB_eq ls))
  clear hv hs hr
  go_enter Tryd.func66, Tryd.ntmps66
  go_wp2_with fail
  go_loopw [3] (fun i wr => ∃ k m : Nat, k ≤ ls.length ∧ i = .int .i64 k ∧ (ls.take k).all lineB = true ∧ ((ls.take k).map (·.1)).Nodup ∧ wr = w.drewN m) (fun i _ => ls.length - (intOf i).toNat)
  case atStart => exact ⟨0, 0, by omega, rfl, by simp, by simp, rfl⟩
  case round =>
    obtain ⟨k, m, hk, rfl, ht, hnd, rfl⟩ := hrel
    have k0 : (0 : Int) ≤ (k : Int) := by omega
    have kb : (k : Int) ≤ 9223372036854775807 := by omega
    have HT := Lib.hid ht
    have HND := Lib.hid hnd
    clear ht hnd
    by_cases hkn : k < ls.length
    · have hd : decide (k < ls.length) = true := decide_eq_true hkn
      have k1 : (k : Int) < (ls.length : Int) := by omega
      obtain ⟨-, -, -, b1, o1, rfl, -, hc1⟩ := HV.out.at hkn
      obtain ⟨c0, c1⟩ := hc1 w (Below.refl _ w)
      obtain ⟨z, hz⟩ : ∃ z, z = ls[k] := ⟨_, rfl⟩
      rw [← hz] at c0 c1
      have HZ : Hid (∀ h : k < ls.length, z = ls[k]'h) := Lib.hid (fun _ => hz)
      have HN := Lib.hid (fun wx => rname_any z.1.1 wx z.1.2)
      have HW := Lib.hid (fun wx => within_any z.2 1 2147483647 wx)
      have HK := Lib.hid hkn
      cases h1 : nameB z.1.1 with
      | false =>
        have HF : Hid (r = false) := Lib.hid (by
          rw [HR.out]
          have : ls.all lineB = false := by
            rw [List.all_eq_false]
            exact ⟨z, by rw [hz]; exact List.getElem_mem hkn, by unfold lineB; rw [h1]; simp⟩
          rw [this]; simp)
        rw [h1] at HN
        clear h1 HW hz hc1 hkn
        go_wp2_with (refine (HN.out _).mono ?_; rintro r9 w9 ⟨rfl, rfl⟩)
        go_ret
        rw [HF.out]
        exact ⟨rfl, HS.out.drewN m⟩
      | true =>
        cases h2 : qtyB z.2 with
        | false =>
          have HF : Hid (r = false) := Lib.hid (by
            rw [HR.out]
            have : ls.all lineB = false := by
              rw [List.all_eq_false]
              exact ⟨z, by rw [hz]; exact List.getElem_mem hkn, by unfold lineB; rw [h2]; simp⟩
            rw [this]; simp)
          rw [h1] at HN
          rw [wthB_qty, h2] at HW
          clear h1 h2 hz hc1 hkn
          go_wp2_with (first | (refine (HN.out _).mono ?_; rintro r9 w9 ⟨rfl, rfl⟩) | (refine (HW.out _).mono ?_; rintro r9 w9 ⟨rfl, rfl⟩))
          go_ret
          rw [HF.out]
          exact ⟨rfl, HS.out.drewN m⟩
        | true =>
          have HT2 : Hid ((ls.take (k + 1)).all lineB = true) := Lib.hid (by rw [List.take_succ_eq_append_getElem hkn, List.all_append, HT.out, ← hz]; simp [lineB, h1, h2])
          rw [h1] at HN
          rw [wthB_qty, h2] at HW
          clear h1 h2 hz hc1 hkn
          go_wp2_with (first | (refine (HN.out _).mono ?_; rintro r9 w9 ⟨rfl, rfl⟩) | (refine (HW.out _).mono ?_; rintro r9 w9 ⟨rfl, rfl⟩))
          clear HN HW
          go_loopw [4] (fun i wr => ∃ j q : Nat, j ≤ k ∧ i = .int .i64 j ∧ (∀ i (hi : i < j) (hk : k < ls.length) (hik : i < ls.length), ls[i].1 ≠ ls[k].1) ∧ wr = w.drewN q) (fun i _ => k - (intOf i).toNat)
          case atStart => exact ⟨0, m, by omega, rfl, fun i hi => by omega, rfl⟩
          case round =>
            obtain ⟨j, q, hj, rfl, hdiff, rfl⟩ := hrel
            have j0 : (0 : Int) ≤ (j : Int) := by omega
            have HD := Lib.hid hdiff
            clear hdiff
            by_cases hjk : j < k
            · have hd2 : decide (j < k) = true := decide_eq_true hjk
              have hjl : j < ls.length := by have := HK.out; omega
              have j1 : (j : Int) < (ls.length : Int) := by omega
              obtain ⟨-, -, -, b2, o2, he, -, hc2⟩ := HV.out.at hjl
              simp only [Option.some.injEq, Addr.mk.injEq, and_true] at he
              obtain ⟨rfl, rfl⟩ := he
              obtain ⟨d0, d1⟩ := hc2 w (Below.refl _ w)
              by_cases he : ls[j].1 = z.1
              · have HF : Hid (r = false) := Lib.hid (by
                  rw [HR.out, decide_eq_false (not_nd hjk HK.out (by rw [he, HZ.out HK.out])), Bool.and_false])
                have d0' : w.cell? ⟨b1, o1 + j * 2, none⟩ = some (.string z.1.1) := by rw [d0, he]
                clear d0 d1 hc2 he hjk hjl
                go_wp2_with fail
                go_quiet (fail)
                go_wp2_with fail
                go_ret
                rw [HF.out]
                exact ⟨rfl, (HS.out.drewN q).drewN nq⟩
              · have e3 : (ls[j].1.1.toList == z.1.1.toList) = false := ks_ne he
                have HD2 : Hid (∀ i (hi : i < j + 1) (hk : k < ls.length) (hik : i < ls.length), ls[i].1 ≠ ls[k].1) := Lib.hid (fun i hi hk hik => by
                  rcases Nat.lt_or_ge i j with h | h
                  · exact HD.out i h hk hik
                  · obtain rfl : i = j := by omega
                    intro e
                    exact he (by rw [e, HZ.out HK.out]))
                generalize ls[j] = y at *
                clear hc2 he hjk hjl
                go_wp2_with fail
                go_quiet (fail)
                go_wp2_with fail
                go_roundw
                case rel => exact ⟨j + 1, q + nq, of_decide_eq_true hd2, by go_num, HD2.out, by simp [World.drewN, Nat.add_assoc]⟩
                case measure => have := of_decide_eq_true hd2; simp [intOf]; omega
            · have hd2 : decide (j < k) = false := decide_eq_false hjk
              have HND2 : Hid (((ls.take (k + 1)).map (·.1)).Nodup) := Lib.hid (take_nd HK.out HND.out fun i hi => HD.out i (by omega) HK.out (by have := HK.out; omega))
              clear hjk
              go_wp2_with fail
              go_roundw
              case rel => exact ⟨k + 1, q, HK.out, by go_num, HT2.out, HND2.out, rfl⟩
              case measure => have := HK.out; simp [intOf]; omega
    · have hd : decide (k < ls.length) = false := decide_eq_false hkn
      have HF : Hid (r = wthB (ls.length : Int) 1 4) := Lib.hid (by
        have hkl : k = ls.length := by omega
        have h1 := HT.out
        have h2 := HND.out
        rw [hkl, List.take_length] at h1 h2
        rw [HR.out, h1, decide_eq_true h2, Bool.and_true, Bool.and_true])
      have HW := Lib.hid (within_any (ls.length : Int) 1 4 (w.drewN m))
      rw [← HF.out] at HW
      clear hkn
      go_wp2_with (refine HW.out.mono ?_; rintro r9 w9 ⟨rfl, rfl⟩)
      go_ret
      exact ⟨rfl, HS.out.drewN m⟩
end Go.Proofs.YtcicclghgbdgnaaDoor

/- The document's own item: Same. -/
namespace Go.Proofs.YtcicclghgbdgnaaDoor
open Go.RowKit
set_option linter.unusedVariables false
set_option linter.unusedSimpArgs false
theorem sameB_split (k : Int) (s : KS) (o n : Int) (ls : List Ln) (k' : Int) (s' : KS) (o' n' : Int) (ls' : List Ln) :
    (k ≠ k' ∧ sameB k s o n ls k' s' o' n' ls' = false) ∨ (k = k' ∧ s.1 ≠ s'.1 ∧ sameB k s o n ls k' s' o' n' ls' = false) ∨ (k = k' ∧ s.1 = s'.1 ∧ o ≠ o' ∧ sameB k s o n ls k' s' o' n' ls' = false) ∨
    (k = k' ∧ s.1 = s'.1 ∧ o = o' ∧ n ≠ n' ∧ sameB k s o n ls k' s' o' n' ls' = false) ∨ (k = k' ∧ s.1 = s'.1 ∧ o = o' ∧ n = n' ∧ ls.length ≠ ls'.length ∧ sameB k s o n ls k' s' o' n' ls' = false) ∨
    (k = k' ∧ s.1 = s'.1 ∧ o = o' ∧ n = n' ∧ ls.length = ls'.length ∧ sameB k s o n ls k' s' o' n' ls' = decide (ls = ls')) := by
  by_cases h1 : k = k'
  · by_cases h2 : s.1 = s'.1
    · by_cases h3 : o = o'
      · by_cases h4 : n = n'
        · by_cases h5 : ls.length = ls'.length
          · exact .inr (.inr (.inr (.inr (.inr ⟨h1, h2, h3, h4, h5, by simp [sameB, h1, h2, h3, h4]⟩))))
          · exact .inr (.inr (.inr (.inr (.inl ⟨h1, h2, h3, h4, h5, by
              have : decide (ls = ls') = false := decide_eq_false fun e => h5 (by rw [e])
              unfold sameB; rw [this]; simp⟩))))
        · exact .inr (.inr (.inr (.inl ⟨h1, h2, h3, h4, by simp [sameB, h4]⟩)))
      · exact .inr (.inr (.inl ⟨h1, h2, h3, by simp [sameB, h3]⟩))
    · exact .inr (.inl ⟨h1, h2, by simp [sameB, h2]⟩)
  · exact .inl ⟨h1, by simp [sameB, h1]⟩
set_option maxRecDepth 100000 in
set_option maxHeartbeats 16000000 in
theorem rsame_any {w0 w : World} {L : List Thing} (k : Int) (s : KS) (o n : Int) (v : Value) (la : List Ln) (k' : Int) (s' : KS) (o' n' : Int) (v' : Value) (lb : List Ln) (h : Sep w0 L w) (ha : LnS w v la) (hb : LnS w v' lb) (hl : la.length ≤ 9223372036854775807) :
    Calls Tryd.prog 36 #[.agg #[.int .i64 k, .string s.1, .int .i64 o, .int .i64 n, v], .agg #[.int .i64 k', .string s'.1, .int .i64 o', .int .i64 n', v']] w fun e w' => e = .returned (.bool (sameB k s o n la k' s' o' n' lb)) ∧ Sep w0 L w' := by
  suffices hh : Calls Tryd.prog 36 #[.agg #[.int .i64 k, .string s.1, .int .i64 o, .int .i64 n, v], .agg #[.int .i64 k', .string s'.1, .int .i64 o', .int .i64 n', v']] w fun e w' => e = .returned (.bool (sameB k s o n la k' s' o' n' lb)) ∧ Sep w [] w' from hh.mono fun e w' ⟨h1, h2⟩ => ⟨h1, h.below h2.low⟩
  clear h
  obtain ⟨aa, ca, rfl⟩ := ha.len
  obtain ⟨ab, cb, rfl⟩ := hb.len
  obtain ⟨wa, hwa⟩ : ∃ z, z = (w.alloc (.cells (opCells k s o n (.slice aa la.length ca)) 24)).alloc (.cells (opCells k' s' o' n' (.slice ab lb.length cb)) 24) := ⟨_, rfl⟩
  have h1 := ((Sep.start w).alloc (.cells (opCells k s o n (.slice aa la.length ca)) 24)).alloc (.cells (opCells k' s' o' n' (.slice ab lb.length cb)) 24)
  rw [← hwa] at h1
  rw [show (w.alloc (.cells (opCells k s o n (.slice aa la.length ca)) 24)).heap.size = w.heap.size + 1 by simp] at h1
  obtain ⟨b1, hb1⟩ : ∃ z, z = w.heap.size := ⟨_, rfl⟩
  obtain ⟨b2, hb2⟩ : ∃ z, z = w.heap.size + 1 := ⟨_, rfl⟩
  rw [← hb2, ← hb1] at h1
  have HA := Lib.hid (ha.below h1.low)
  have HB := Lib.hid (hb.below h1.low)
  have HS := Lib.hid h1
  obtain ⟨p0, p1, p2, p3, p4⟩ := op_cells h1.sw2
  obtain ⟨q0, q1, q2, q3, q4⟩ := op_cells h1
  unfold opCells at hwa
  clear ha hb h1
  rcases sameB_split k s o n la k' s' o' n' lb with ⟨e1, er⟩ | ⟨rfl, e1, er⟩ | ⟨rfl, e2, e1, er⟩ | ⟨rfl, e2, rfl, e1, er⟩ | ⟨rfl, e2, rfl, rfl, e1, er⟩ | ⟨rfl, e2, rfl, rfl, hne, er⟩
  · rw [er]
    have x1 : (k != k') = true := by rw [bne_iff_ne]; exact e1
    clear er e1
    go_enter Tryd.func36, Tryd.ntmps36
    go_wp2_with fail
    go_ret
    exact ⟨rfl, by first | exact .nil HS.out.low | (rw [← hwa]; exact .nil HS.out.low)⟩
  · rw [er]
    have x1 : (s.1.toList != s'.1.toList) = true := by rw [bne, str_ne e1]; rfl
    have x0 : (s.1.toList == s'.1.toList) = false := str_ne e1
    clear er e1
    go_enter Tryd.func36, Tryd.ntmps36
    go_wp2_with fail
    go_ret
    exact ⟨rfl, by first | exact .nil HS.out.low | (rw [← hwa]; exact .nil HS.out.low)⟩
  · rw [er]
    have x1 : (o != o') = true := by rw [bne_iff_ne]; exact e1
    obtain rfl : s = s' := Subtype.ext e2
    clear er e1 e2
    go_enter Tryd.func36, Tryd.ntmps36
    go_wp2_with fail
    go_ret
    exact ⟨rfl, by first | exact .nil HS.out.low | (rw [← hwa]; exact .nil HS.out.low)⟩
  · rw [er]
    have x1 : (n != n') = true := by rw [bne_iff_ne]; exact e1
    obtain rfl : s = s' := Subtype.ext e2
    clear er e1 e2
    go_enter Tryd.func36, Tryd.ntmps36
    go_wp2_with fail
    go_ret
    exact ⟨rfl, by first | exact .nil HS.out.low | (rw [← hwa]; exact .nil HS.out.low)⟩
  · rw [er]
    have x1 : (((la.length : Nat) : Int) != ((lb.length : Nat) : Int)) = true := by rw [bne_iff_ne]; omega
    have x2 : (la.length != lb.length) = true := by rw [bne_iff_ne]; exact e1
    obtain rfl : s = s' := Subtype.ext e2
    clear er e1 e2
    go_enter Tryd.func36, Tryd.ntmps36
    go_wp2_with fail
    go_ret
    exact ⟨rfl, by first | exact .nil HS.out.low | (rw [← hwa]; exact .nil HS.out.low)⟩
  · rw [er]
    clear er
    obtain rfl : s = s' := Subtype.ext e2
    have hn : (((la.length : Nat) : Int) != ((lb.length : Nat) : Int)) = false := by simp [hne]
    have hn' : (la.length != lb.length) = false := by simp [hne]
    have HN := Lib.hid hne
    obtain ⟨r, hr⟩ : ∃ r : Bool, r = decide (la = lb) := ⟨_, rfl⟩
    rw [← hr]
    have HR := Lib.hid hr
    clear hne hr
    go_enter Tryd.func36, Tryd.ntmps36
    go_wp2_with fail
    rw [← hwa]
    rw [← hb2]
    rw [← hb1]
    clear hwa hb1 hb2
    go_wp2_with fail
    go_loopw [5] (fun i wr => ∃ k m : Nat, k ≤ la.length ∧ i = .int .i64 k ∧ la.take k = lb.take k ∧ wr = wa.drewN m) (fun i _ => la.length - (intOf i).toNat)
    case atStart => exact ⟨0, 0, by omega, rfl, rfl, rfl⟩
    case round =>
      obtain ⟨j, m, hk, rfl, ht, rfl⟩ := hrel
      have k0 : (0 : Int) ≤ (j : Int) := by omega
      have kb : (j : Int) ≤ 9223372036854775807 := by omega
      by_cases hkn : j < la.length
      · have hd : decide (j < la.length) = true := decide_eq_true hkn
        have hkb : j < lb.length := by have := HN.out; omega
        have k1 : (j : Int) < (la.length : Int) := by omega
        have k2 : (j : Int) < (lb.length : Int) := by omega
        obtain ⟨-, -, -, b3, o3, rfl, -, hc1⟩ := HA.out.at hkn
        obtain ⟨-, -, -, b4, o4, rfl, -, hc2⟩ := HB.out.at hkb
        obtain ⟨c0, c1⟩ := hc1 wa (Below.refl _ wa)
        obtain ⟨d0, d1⟩ := hc2 wa (Below.refl _ wa)
        by_cases he : la[j] = lb[j]
        · have HT := Lib.hid (takeL_succ ht hkn hkb he)
          rw [← he] at d0 d1
          generalize la[j] = z at *
          clear ht hc1 hc2 hkn hkb he
          go_wp2_with fail
          go_quiet (fail)
          go_wp2_with fail
          go_roundw
          case rel => exact ⟨j + 1, m + nq, of_decide_eq_true hd, by go_num, HT.out, by simp [World.drewN, Nat.add_assoc]⟩
          case measure => have hkn := of_decide_eq_true hd; simp [intOf]; omega
        · have HF : Hid (r = false) := Lib.hid (by
            rw [HR.out]
            exact decide_eq_false fun e => by subst e; exact he rfl)
          generalize la[j] = z at *
          generalize lb[j] = z' at *
          by_cases hs : z.1.1 = z'.1.1
          · have e2 : (z.2 == z'.2) = false := by
              rw [beq_eq_false_iff_ne]
              exact fun h => he (Prod.ext (Subtype.ext hs) h)
            rw [← hs] at d0
            clear ht hc1 hc2 hkn hkb he hs
            go_wp2_with fail
            go_quiet (fail)
            go_wp2_with fail
            go_ret
            rw [HF.out]
            exact ⟨rfl, .nil ((HS.out.drewN m).drewN nq).low⟩
          · have e3 : (z.1.1.toList == z'.1.1.toList) = false := str_ne hs
            have e4 : (z.1.1.toList != z'.1.1.toList) = true := by rw [bne, e3]; rfl
            clear ht hc1 hc2 hkn hkb he hs
            go_wp2_with fail
            go_quiet (fail)
            go_wp2_with fail
            go_ret
            rw [HF.out]
            exact ⟨rfl, .nil ((HS.out.drewN m).drewN nq).low⟩
      · have hd : decide (j < la.length) = false := decide_eq_false hkn
        have HF : Hid (r = true) := Lib.hid (by
          rw [HR.out]
          have hkl : j = la.length := by omega
          rw [hkl, List.take_length, HN.out, List.take_length] at ht
          exact decide_eq_true ht)
        clear ht hkn
        go_wp2_with fail
        go_ret
        rw [HF.out]
        exact ⟨rfl, .nil (HS.out.drewN m).low⟩
end Go.Proofs.YtcicclghgbdgnaaDoor

/- The document's own item: Copy, CheckRes. -/
namespace Go.Proofs.YtcicclghgbdgnaaDoor
open Go.RowKit
set_option linter.unusedVariables false
set_option linter.unusedSimpArgs false
set_option maxRecDepth 100000 in
set_option maxHeartbeats 4000000 in
theorem rcopy_any {w0 w : World} {L : List Thing} (k : Int) (s : KS) (o n : Int) (v : Value) (ls : List Ln) (h : Sep w0 L w) (hv : LnS w v ls) (hl : ls.length ≤ 1000) :
    Calls Tryd.prog 37 #[.agg #[.int .i64 k, .string s.1, .int .i64 o, .int .i64 n, v]] w fun e w' => ∃ u, e = .returned (.agg #[.int .i64 k, .string s.1, .int .i64 o, .int .i64 n, u]) ∧ Sep w0 (LnR u ls :: L) w' := by
  obtain ⟨a, c, rfl⟩ := hv.len
  have h1 := (h.alloc (.cells (opCells k s o n (.slice a ls.length c)) 24)).alloc (.cells opZ 24)
  have hlow : Below w.heap.size w ((w.alloc (.cells (opCells k s o n (.slice a ls.length c)) 24)).alloc (.cells opZ 24)) := ((Below.refl _ w).alloc (Nat.le_refl _) _).alloc (by simp) _
  rw [show (w.alloc (.cells (opCells k s o n (.slice a ls.length c)) 24)).heap.size = w.heap.size + 1 by simp] at h1
  obtain ⟨v', w1, hr, h2, -⟩ := append_ln 22 (h1.rnNil 2 36 (w0 := w0)) (ls := []) (hv.below hlow) (by simp; omega)
  rw [List.nil_append] at h2
  obtain ⟨a2, c2, rfl, -⟩ := h2.rnForm
  unfold opCells opZ at *
  have HR := Lib.hid hr
  have f4 := (frz5 h2.sw3).2.2.2.2
  have b4 := (cells5 h2.sw3).2.2.2.2
  have h3 : Sep w0 (Cl w.heap.size #[.int .i64 k, .string s.1, .int .i64 o, .int .i64 n, .slice a2 ls.length c2] 24 :: LnR (.slice a2 ls.length c2) ls :: Cl (w.heap.size + 1) #[.int .i64 0, .string ⟨#[]⟩, .int .i64 0, .int .i64 0, .slice none 0 0] 24 :: L) (w1.setCell ⟨w.heap.size, 4, none⟩ (.slice a2 ls.length c2)) := h2.sw3.setCell 4 _
  obtain ⟨c0, c1, c2', c3, c4⟩ := cells5 h3
  obtain ⟨g0, g1, g2, g3, g4⟩ := frz5 h3.sw3
  obtain ⟨z0, z1, z2, z3, z4⟩ := cells5 h3.sw3
  have h4 := store5 (u0 := .int .i64 k) (u1 := .string s.1) (u2 := .int .i64 o) (u3 := .int .i64 n) (u4 := .slice a2 ls.length c2) h3.sw3
  obtain ⟨k0, k1, k2, k3, k4⟩ := cells5 h4
  have H4 := Lib.hid h4.drop.drop
  clear h h1 h2 h3 h4 hv hlow hr
  go_enter Tryd.func37, Tryd.ntmps37
  go_wp2_with (at_builtin; refine wpList_append_run rfl _ _ _ _ rfl rfl rfl HR.out ?_)
  exact bodyPost_ret (v := .agg #[.int .i64 k, .string s.1, .int .i64 o, .int .i64 n, .slice a2 ls.length c2]) (by simp [results, Tryd.results37, go_sem, k0, k1, k2, k3, k4]) rfl ⟨_, rfl, H4.out⟩
theorem resB_eq (k a b : Int) : resB k a b = (wthB k 0 6 && wthB a 0 2147483647 && wthB b 0 2147483647) := by
  unfold resB wthB
  rw [Bool.eq_iff_iff]
  simp only [decide_eq_true_eq, Bool.and_eq_true]
  omega
end Go.Proofs.YtcicclghgbdgnaaDoor
