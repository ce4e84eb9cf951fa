/- The statement's own: bytes. -/
import Derived.Test.YtfjodadmcfdlpaaDoorItem12
import Derived.Test.YtfjodadmcfdlpaaDoorItem6
namespace Go.Proofs.YtfjodadmcfdlpaaDoor
open Go.RowKit
set_option linter.unusedVariables false
set_option linter.unusedSimpArgs false
theorem same_self (k : Int) (s : KS) (o n : Int) (ls : List Ln) : sameB k s o n ls k s o n ls = true := by simp [sameB]
theorem ok_len {k : Int} {s : KS} {o n : Int} {ls : List Ln} (h : okB k s o n ls = true) : ls.length ≤ 4 := by
  obtain ⟨_, hp⟩ := ok_parts h
  rcases hp with ⟨e, h1, h2, h3, h4⟩ | ⟨e, h1, h2, h3, h4⟩ | ⟨e, h1, h2, h3, h4⟩ | ⟨e, h1, h2, h3, h4⟩ | ⟨e, h1, h2, h3, h4⟩ | ⟨e, h1, h2, h3, h4⟩
  all_goals first | (have := lines_of h4; omega) | (rw [h4]; simp)
theorem txtB_len (s : KS) (h : s.1.size ≤ 8) : (txtB s).length ≤ 18 := by
  unfold txtB
  rw [List.length_append, show s.1.data.toList.length = s.1.size from rfl]
  have := vint_len s.1.size
  omega
theorem lines_len : ∀ (ls : List Ln), ls.all lineB = true → (ls.flatMap lineBs).length ≤ ls.length * 28
  | [], _ => Nat.le_refl _
  | l :: ls, h => by
    simp only [List.all_cons, Bool.and_eq_true] at h
    have ih := lines_len ls h.2
    have h1 := h.1
    unfold lineB at h1
    simp only [Bool.and_eq_true] at h1
    have hn := (name_of h1.1).2
    have t := txtB_len l.1 hn
    have hv := vint_len l.2.toNat
    have t2 : (lineBs l).length = (txtB l.1).length + (vint l.2.toNat).length := by unfold lineBs; rw [List.length_append]
    rw [List.flatMap_cons, List.length_append, List.length_cons]
    omega
theorem opBs_len {k : Int} {s : KS} {o n : Int} {ls : List Ln} (h : okB k s o n ls = true) : (opBs k s o n ls).length ≤ 200 := by
  obtain ⟨_, hp⟩ := ok_parts h
  have v1 := vint_len o.toNat
  have v2 := vint_len n.toNat
  have v3 := vint_len (zig n)
  have v4 := vint_len ls.length
  rcases hp with ⟨e, h1, h2, h3, h4⟩ | ⟨e, h1, h2, h3, h4⟩ | ⟨e, h1, h2, h3, h4⟩ | ⟨e, h1, h2, h3, h4⟩ | ⟨e, h1, h2, h3, h4⟩ | ⟨e, h1, h2, h3, h4⟩
  · have t := txtB_len s (name_of h1).2
    rw [h4]; unfold opBs cntBs; rw [e]; simp; omega
  · have t := txtB_len s (name_of h1).2
    rw [h4]; unfold opBs cntBs; rw [e]; simp; omega
  · obtain ⟨l1, l4, hall⟩ := lines_of h4
    have t := lines_len ls hall
    unfold opBs cntBs; rw [e]; rw [if_neg (by decide), if_pos (by decide), if_pos (by decide), if_pos (by decide)]; simp only [List.length_append, List.length_singleton, List.length_nil]; omega
  · rw [h4]; unfold opBs cntBs; rw [e]; simp; omega
  · rw [h4]; unfold opBs cntBs; rw [e]; simp; omega
  · have t := txtB_len s (name_of h1).2
    rw [h4]; unfold opBs cntBs; rw [e]; simp; omega
set_option maxRecDepth 100000 in
set_option maxHeartbeats 8000000 in
theorem lawBytes_any {w0 w : World} {L : List Thing} (k : Int) (s : KS) (o n : Int) (v vw : Value) (ls : List Ln) (wl : List UInt8) (h : Sep w0 L w) (hv : LnS w v ls) (hk : KindsAt w) (hb : okB k s o n ls = true) (hw : Sl w vw (bv wl)) (he : opBs k s o n ls = wl) :
    Calls Tryd.prog 49 #[.agg #[.int .i64 k, .string s.1, .int .i64 o, .int .i64 n, v], vw] w fun e w' => e = .returned (.bool true) ∧ Sep w0 L w' := by
  suffices hs : Calls Tryd.prog 49 #[.agg #[.int .i64 k, .string s.1, .int .i64 o, .int .i64 n, v], vw] w fun e w' => e = .returned (.bool true) ∧ Sep w [] w' from hs.mono fun e w' ⟨h1, h2⟩ => ⟨h1, h.below h2.low⟩
  clear h
  obtain ⟨a, c, rfl⟩ := hv.len
  have hln := ok_len hb
  have hbl := opBs_len hb
  have hbk := prs_back hb
  have h1 := (Sep.start w).alloc (.cells (opCells k s o n (.slice a ls.length c)) 24)
  have HB := Lib.hid (bytes_ok k s o n _ ls h1 (hv.below h1.low) (hk.below h1.low) hb)
  obtain ⟨c0, c1, c2, c3, c4⟩ := op_cells h1
  have HV := Lib.hid hv
  have HK := Lib.hid hk
  have HW := Lib.hid hw
  have HE := Lib.hid he
  clear hv hk hw he
  unfold opCells at *
  generalize opBs k s o n ls = bl at *
  obtain ⟨ba, hba⟩ : ∃ z, z = w.heap.size := ⟨_, rfl⟩
  obtain ⟨wa, hwa⟩ : ∃ z, z = w.alloc (.cells #[.int .i64 k, .string s.1, .int .i64 o, .int .i64 n, .slice a ls.length c] 24) := ⟨_, rfl⟩
  rw [← hwa] at HB
  rw [← hba] at HB
  have HLN := Lib.hid hln
  have HBL := Lib.hid hbl
  have HBK := Lib.hid hbk
  have HBO := Lib.hid hb
  clear h1 hln hbl hbk hb
  go_enter Tryd.func49, Tryd.ntmps49
  go_wp2_with fail
  rw [← hwa, ← hba]
  refine HB.out.mono ?_
  rintro r0 w1 ⟨u, rfl, h2⟩
  have HP := Lib.hid (parse_any u bl h2 h2.sl (HK.out.below h2.low) (by have := HBL.out; omega))
  clear h2 HB c0 c1 c2 c3 c4 hwa hba
  go_wp2_with fail
  refine HP.out.mono ?_
  rintro r0 w2 ⟨p, err, u2, rfl, hp, h3⟩
  rw [HBK.out] at hp
  obtain ⟨rfl, rfl⟩ := Prod.mk.inj hp
  dsimp only at *
  obtain ⟨a2, c2, rfl⟩ := (Sep.lnS h3).len
  have h4 := h3.alloc (.cells #[.int .i64 k, .string s.1, .int .i64 o, .int .i64 n, .slice a2 ls.length c2] 24)
  obtain ⟨d0, d1, d2, d3, d4⟩ := cells5 h4
  obtain ⟨e0, e1, e2, e3, e4⟩ := cells5 h4.sw4
  have HQ := Lib.hid (eqBytes_any u vw bl wl _ h4.sw3.sl (HW.out.below h4.low))
  rw [show (bl == wl) = true by rw [HE.out]; exact beq_self_eq_true _] at HQ
  have HS := Lib.hid (same_any k s o n _ ls k s o n _ ls h4 (HV.out.below h4.low) (Sep.lnS h4.sw2) (by have := HLN.out; omega))
  rw [same_self] at HS
  clear hp HP h3
  have H4 := Lib.hid h4
  clear h4
  go_wp2_with (first | (refine HQ.out.mono ?_; rintro r0 w3 ⟨rfl, rfl⟩) | (refine HS.out.mono ?_; rintro r0 w3 ⟨rfl, h5⟩))
  go_ret
  exact ⟨rfl, .nil h5.low⟩
end Go.Proofs.YtfjodadmcfdlpaaDoor
