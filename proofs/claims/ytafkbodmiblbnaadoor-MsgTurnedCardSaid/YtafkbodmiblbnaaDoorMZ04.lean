/- Package item: lines. -/
import Derived.StringKeys
import Derived.Test.YtafkbodmiblbnaaDoorMZ02
import Derived.Test.YtafkbodmiblbnaaDoorMMap
namespace Go.Proofs.YtafkbodmiblbnaaDoor
open Go.RowKit
set_option linter.unusedVariables false
set_option linter.unusedSimpArgs false
/-- Texts. -/
abbrev KS := { s : ByteArray // s.size ≤ maxLen }
abbrev Ln := KS × Int
def ksV (s : KS) : Value := .string s.1
def unV (_ : Unit) : Value := .agg #[]
theorem ksOk : KeyOk Tryd.prog 9 ksV where
  law := Go.Maps.string_keyed Tryd.underlying9
  key := fun s => ⟨_, WideMaps.keyOf_string_mk Tryd.underlying9 s.2⟩
  inj := by
    rintro ⟨a, ha⟩ ⟨b, hb⟩ h
    simp only [ksV, Value.string.injEq] at h
    exact Subtype.ext h
/-- A slice of lines that is read. -/
def LnS (w : World) (v : Value) (ls : List Ln) : Prop :=
  (∃ a c, v = .slice a 0 c ∧ (a = none → c = 0) ∧ ls = []) ∨ ∃ b off c, v = .slice (some ⟨b, off, none⟩) ls.length c ∧ ls.length ≤ c ∧ c ≤ maxLen ∧ b < w.heap.size ∧ ∀ i (hi : i < ls.length), w.cell? ⟨b, off + i * 2, none⟩ = some (.string ls[i].1.1) ∧ w.cell? ⟨b, off + i * 2 + 1, none⟩ = some (.int .i64 ls[i].2)
theorem LnS.len {w : World} {v : Value} {ls : List Ln} (h : LnS w v ls) : ∃ a c, v = .slice a ls.length c := by
  rcases h with ⟨a, c, rfl, _, rfl⟩ | ⟨b, off, c, rfl, _⟩
  · exact ⟨a, c, rfl⟩
  · exact ⟨_, c, rfl⟩
theorem LnS.below {w w' : World} {v : Value} {ls : List Ln} (h : LnS w v ls) (hb : Below w.heap.size w w') : LnS w' v ls := by
  rcases h with h | ⟨b, off, c, rfl, h1, h2, h3, h4⟩
  · exact .inl h
  · refine .inr ⟨b, off, c, rfl, h1, h2, by have := hb.size; omega, fun i hi => ?_⟩
    rw [hb.cell (p := ⟨b, off + i * 2, none⟩) h3, hb.cell (p := ⟨b, off + i * 2 + 1, none⟩) h3]
    exact h4 i hi
theorem LnS.at {w : World} {a : Option Addr} {n c : Nat} {ls : List Ln} (h : LnS w (.slice a n c) ls) {i : Nat} (hi : i < ls.length) : n = ls.length ∧ n ≤ c ∧ c ≤ maxLen ∧ ∃ b off, a = some ⟨b, off, none⟩ ∧ b < w.heap.size ∧
    ∀ wz, Below w.heap.size w wz → wz.cell? ⟨b, off + i * 2, none⟩ = some (.string ls[i].1.1) ∧ wz.cell? ⟨b, off + i * 2 + 1, none⟩ = some (.int .i64 ls[i].2) := by
  rcases h with ⟨a', c', _, _, rfl⟩ | ⟨b, off, c', hv, h1, h2, h3, h4⟩
  · simp at hi
  · simp only [Value.slice.injEq] at hv
    obtain ⟨rfl, rfl, rfl⟩ := hv
    refine ⟨rfl, h1, h2, b, off, rfl, h3, fun wz hb => ?_⟩
    rw [hb.cell (p := ⟨b, off + i * 2, none⟩) h3, hb.cell (p := ⟨b, off + i * 2 + 1, none⟩) h3]
    exact h4 i hi
def lineB (l : Ln) : Bool := nameB l.1.1 && qtyB l.2
def linesB (ls : List Ln) : Bool := decide (1 ≤ ls.length) && decide (ls.length ≤ 4) && ls.all lineB && decide ((ls.map (·.1)).Nodup)
def namS (ls : List Ln) : List (KS × Unit) := ls.map fun l => (l.1, ())
theorem namS_keys (ls : List Ln) : (namS ls).map (·.1) = ls.map (·.1) := by simp [namS]
def memB (s : KS) (ls : List Ln) : Bool := ls.any fun l => decide (l.1 = s)
theorem memB_iff {s : KS} {ls : List Ln} : memB s ls = true ↔ s ∈ ls.map (·.1) := by
  unfold memB
  rw [List.any_eq_true]
  constructor
  · rintro ⟨l, hl, h⟩
    exact List.mem_map.2 ⟨l, hl, of_decide_eq_true h⟩
  · intro h
    obtain ⟨l, hl, rfl⟩ := List.mem_map.1 h
    exact ⟨l, hl, decide_eq_true rfl⟩
theorem namS_get (ls : List Ln) (s : KS) : (mget (namS ls) s).isSome = memB s ls := by
  cases hb : memB s ls with
  | true =>
    cases hm : mget (namS ls) s with
    | some _ => rfl
    | none =>
      obtain ⟨l, hl, rfl⟩ := List.mem_map.1 (memB_iff.1 hb)
      unfold mget at hm
      rw [Option.map_eq_none_iff, List.find?_eq_none] at hm
      have := hm (l.1, ()) (List.mem_map.2 ⟨l, hl, rfl⟩)
      simp at this
  | false =>
    rw [mget_none]
    · rfl
    · intro p hp he
      obtain ⟨l, hl, rfl⟩ := List.mem_map.1 hp
      have := memB_iff.2 (List.mem_map.2 ⟨l, hl, he⟩)
      rw [hb] at this
      cases this
theorem namS_put {ls : List Ln} {l : Ln} (h : memB l.1 ls = false) : mset (mens (namS ls) l.1 ()) l.1 () = namS (ls ++ [l]) := by
  have h1 := namS_get ls l.1
  rw [h] at h1
  unfold mens
  rw [h1]
  simp only [Bool.false_eq_true, if_false]
  unfold mset namS
  rw [List.map_append, List.map_append]
  congr 1
  · rw [List.map_map]
    apply List.map_congr_left
    intro x hx
    simp only [Function.comp]
    split
    · rename_i he; rw [he]
    · rfl
  · simp
theorem Sep.mapKeys' {α β : Type} [DecidableEq α] {kv : α → Value} {vv : β → Value} {w0 w : World} {b : Nat} {S : List (α × β)} {L : List Thing} (h : Sep w0 (MapT kv vv b S :: L) w) : (S.map (·.1)).Nodup := by
  obtain ⟨F, ⟨⟨es, c, hb, M⟩, _⟩, _⟩ := h.head
  exact M.keys
theorem lines_bad_line {ls : List Ln} {k : Nat} (hk : k < ls.length) (h : lineB ls[k] = false) : linesB ls = false := by
  have : ls.all lineB = false := by
    rw [List.all_eq_false]
    exact ⟨ls[k], List.getElem_mem hk, by rw [h]; simp⟩
  simp [linesB, this]
theorem lines_twice {ls : List Ln} {k : Nat} (hk : k < ls.length) (h : ls[k].1 ∈ (ls.take k).map (·.1)) : linesB ls = false := by
  have : ¬ (ls.map (·.1)).Nodup := by
    intro hn
    rw [← List.take_append_drop k ls, List.map_append, List.nodup_append] at hn
    exact hn.2.2 _ h _ (List.mem_map.2 ⟨ls[k], by rw [List.drop_eq_getElem_cons hk]; exact List.mem_cons_self .., rfl⟩) rfl
  simp [linesB, this]
theorem zeroUn (w : World) : (zeroValue 132).run Tryd.prog w = .ok (unV ()) w := by kernel_rfl
set_option maxRecDepth 100000 in
set_option maxHeartbeats 2000000 in
theorem areLines_any {w0 w : World} {L : List Thing} (v : Value) (ls : List Ln) (h : Sep w0 L w) (hv : LnS w v ls) : Calls Tryd.prog 85 #[v] w fun e w' => e = .returned (.bool (linesB ls)) ∧ Sep w0 L w' := by
  suffices hs : Calls Tryd.prog 85 #[v] w fun e w' => e = .returned (.bool (linesB ls)) ∧ Sep w [] w' from hs.mono fun e w' ⟨h1, h2⟩ => ⟨h1, h.below h2.low⟩
  obtain ⟨a, c, rfl⟩ := hv.len
  have HV := Lib.hid hv
  clear h hv
  obtain ⟨r, hr⟩ : ∃ r, r = linesB ls := ⟨_, rfl⟩
  rw [← hr]
  have HR := Lib.hid hr
  clear hr
  have hmm := @run_makeMap Tryd.prog
  have hSt := Lib.hid (Sep.start w)
  by_cases h1 : 1 ≤ ls.length
  · by_cases h4 : ls.length ≤ 4
    · have d1 : ¬ (ls.length : Int) < 1 := by omega
      have d2 : ¬ (4 : Int) < (ls.length : Int) := by omega
      have d3 : 1 ≤ (ls.length : Int) := by omega
      have H0 := Lib.hid (hSt.out.newMap (kv := ksV) (vv := unV))
      go_enter Tryd.func85, Tryd.ntmps85
      go_wp2_with fail
      clear hmm
      generalize w.heap.size = b at *
      go_loopw [19] (fun i wr => ∃ k : Nat, k ≤ ls.length ∧ i = .int .i64 k ∧ (ls.take k).all lineB = true ∧ Sep w [MapT ksV unV b (namS (ls.take k))] wr) (fun i _ => ls.length - (intOf i).toNat)
      case atStart => exact ⟨0, by omega, rfl, rfl, H0.out⟩
      case round =>
        obtain ⟨k, hk, rfl, hall, hs⟩ := hrel
        clear H0
        have k0 : (0 : Int) ≤ (k : Int) := by omega
        have k9 : (k : Int) ≤ 4 := by omega
        by_cases hkl : k < ls.length
        · have hd : decide (k < ls.length) = true := decide_eq_true hkl
          have kl : (k : Int) < (ls.length : Int) := by omega
          obtain ⟨-, -, -, bl, off, rfl, hbl, hcell⟩ := HV.out.at hkl
          obtain ⟨c0, c1⟩ := hcell wr hs.low
          have hmk := namS_get (ls.take k) ls[k].1
          obtain ⟨bq, hbq⟩ : ∃ z, z = wr.heap.size := ⟨_, rfl⟩
          obtain ⟨wq, hwq⟩ : ∃ z, z = wr.alloc (.cells #[.string ls[k].1.1, .int .i64 ls[k].2] 117) := ⟨_, rfl⟩
          have h3 := hs.alloc (.cells #[.string ls[k].1.1, .int .i64 ls[k].2] 117)
          rw [← hbq, ← hwq] at h3
          have q0 := h3.cell (o := 0) (x := .string ls[k].1.1) rfl
          have hlook := map_look (t := 131) ksOk Tryd.underlying131 (zeroUn _) h3.sw2 ls[k].1 true
          rw [hmk] at hlook
          have hv0 : ((mget (namS (ls.take k)) ls[k].1).map unV).getD (unV ()) = .agg #[] := by cases mget (namS (ls.take k)) ls[k].1 <;> rfl
          rw [hv0] at hlook
          unfold ksV at hlook
          simp only [if_true] at hlook
          have h4 := h3.alloc0 (.cells #[] 132)
          obtain ⟨wz, hwz⟩ : ∃ z, z = wq.alloc (.cells #[] 132) := ⟨_, rfl⟩
          rw [← hwz] at h4
          have HN := Lib.hid (name_any ls[k].1.1 wz ls[k].1.2)
          have HQ := Lib.hid (isQty_any ls[k].2 wz)
          have q1 := h4.cell (o := 0) (x := .string ls[k].1.1) rfl
          have q2 := h4.cell (o := 1) (x := .int .i64 ls[k].2) rfl
          rw [hwz] at q1 q2
          rw [hwq] at q0 q1 q2 hlook
          have h5 := h4.drop
          rw [hwz, hwq] at h5
          have HN := Lib.hid (fun wx => name_any ls[k].1.1 wx ls[k].1.2)
          have HQ := Lib.hid (fun wx => isQty_any ls[k].2 wx)
          cases hm : memB ls[k].1 (ls.take k) with
          | true =>
            have HF : Hid (r = false) := Lib.hid (by rw [HR.out]; exact lines_twice hkl (memB_iff.1 hm))
            rw [hm] at hlook
            have H5 := Lib.hid h5.drop
            clear hs hall hcell h3 h4 h5 hmk hm hwz hwq hv0 HR q1 q2
            go_wp2_with fail
            go_ret
            rw [HF.out]
            exact ⟨rfl, H5.out⟩
          | false =>
            rw [hm] at hlook
            cases hl : lineB ls[k] with
            | false =>
              have HF : Hid (r = false) := Lib.hid (by rw [HR.out]; exact lines_bad_line hkl hl)
              have H5 := Lib.hid h5.drop
              cases hn : nameB ls[k].1.1 with
              | false =>
                rw [hn] at HN
                clear hs hall hcell h3 h4 h5 hmk hm hwz hwq hv0 HR hl hn
                go_wp2_with fail
                refine (HN.out _).mono ?_
                rintro r0 w1 ⟨rfl, rfl⟩
                go_wp2_with fail
                go_ret
                rw [HF.out]
                exact ⟨rfl, H5.out⟩
              | true =>
                have hq : qtyB ls[k].2 = false := by simpa [lineB, hn] using hl
                rw [hn] at HN
                rw [hq] at HQ
                clear hs hall hcell h3 h4 h5 hmk hm hwz hwq hv0 HR hl hn hq
                go_wp2_with fail
                refine (HN.out _).mono ?_
                rintro r0 w1 ⟨rfl, rfl⟩
                go_wp2_with fail
                refine (HQ.out _).mono ?_
                rintro r0 w1 ⟨rfl, rfl⟩
                go_wp2_with fail
                go_ret
                rw [HF.out]
                exact ⟨rfl, H5.out⟩
            | true =>
              have hn : nameB ls[k].1.1 = true := by simp [lineB] at hl; exact hl.1
              have hq : qtyB ls[k].2 = true := by simp [lineB] at hl; exact hl.2
              rw [hn] at HN
              rw [hq] at HQ
              obtain ⟨w', hupd, h6⟩ := map_update (t := 131) ksOk Tryd.underlying131 h5 ls[k].1 ()
              rw [namS_put hm, ← List.take_succ_eq_append_getElem hkl] at h6
              unfold ksV unV at hupd
              have H6 := Lib.hid h6
              have HA : Hid ((ls.take (k + 1)).all lineB = true) := Lib.hid (by rw [List.take_succ_eq_append_getElem hkl, List.all_append, hall]; simp [hl])
              clear hs hall hcell h3 h4 h5 h6 hmk hm hwz hwq hv0 HR hl hn hq
              go_wp2_with fail
              refine (HN.out _).mono ?_
              rintro r0 w1 ⟨rfl, rfl⟩
              go_wp2_with fail
              refine (HQ.out _).mono ?_
              rintro r0 w1 ⟨rfl, rfl⟩
              go_wp2_with fail
              go_roundw
              case rel => exact ⟨k + 1, of_decide_eq_true hd, by go_num, HA.out, H6.out⟩
              case measure => have hkn := of_decide_eq_true hd; simp [intOf]; omega
        · have hd : decide (k < ls.length) = false := decide_eq_false hkl
          have hkn : ls.take k = ls := List.take_of_length_le (by omega)
          have hnd := hs.mapKeys'
          rw [hkn] at hall hnd
          rw [namS_keys] at hnd
          have HF : Hid (r = true) := Lib.hid (by rw [HR.out]; simp [linesB, h1, h4, hall, hnd])
          have HS := Lib.hid hs.drop
          clear hs hall hnd hkn HR
          go_wp2_with fail
          go_ret
          rw [HF.out]
          exact ⟨rfl, HS.out⟩
    · have HF : Hid (r = false) := Lib.hid (by rw [HR.out]; simp [linesB, h4])
      have d1 : ¬ (ls.length : Int) < 1 := by omega
      have d2 : (4 : Int) < (ls.length : Int) := by omega
      clear hmm
      go_enter Tryd.func85, Tryd.ntmps85
      go_wp2_with fail
      go_ret
      rw [HF.out]
      exact ⟨rfl, hSt.out⟩
  · have HF : Hid (r = false) := Lib.hid (by rw [HR.out]; simp [linesB, h1])
    have d1 : (ls.length : Int) < 1 := by omega
    clear hmm
    go_enter Tryd.func85, Tryd.ntmps85
    go_wp2_with fail
    go_ret
    rw [HF.out]
    exact ⟨rfl, hSt.out⟩
end Go.Proofs.YtafkbodmiblbnaaDoor
/- Package item: fields, Check, CheckRes. -/
namespace Go.Proofs.YtafkbodmiblbnaaDoor
open Go.RowKit
set_option linter.unusedVariables false
set_option linter.unusedSimpArgs false
def kindsL : List Int := [0, 5, 9, 22, 2, 2, 2, 4, 1, 2]
/-- The table of kinds lies where start-up laid it. -/
def KindsAt (w : World) : Prop := 1 < w.heap.size ∧ ∀ k (hk : k < kindsL.length), w.cell? ⟨1, k, none⟩ = some (.int .i64 kindsL[k])
theorem KindsAt.below {w w' : World} (h : KindsAt w) (hb : Below w.heap.size w w') : KindsAt w' :=
  ⟨by have := hb.size; have := h.1; omega, fun k hk => by rw [hb.cell (p := ⟨1, k, none⟩) h.1]; exact h.2 k hk⟩
def fieldsOf (k : Int) : Int := if 0 ≤ k ∧ k ≤ 9 then kindsL.getD k.toNat 0 else 0
theorem fields_any (k : Int) (w : World) (h : KindsAt w) : Calls Tryd.prog 72 #[.int .i64 k] w fun e w' => e = .returned (.int .i64 (fieldsOf k)) ∧ w = w' := by
  by_cases h0 : 0 ≤ k
  · by_cases h9 : k ≤ 9
    · obtain ⟨j, rfl⟩ : ∃ j : Nat, k = j := ⟨k.toNat, by omega⟩
      have hj : j < kindsL.length := by simp [kindsL]; omega
      have hf : fieldsOf j = kindsL[j] := by
        unfold fieldsOf
        rw [if_pos ⟨h0, h9⟩, Int.toNat_natCast, List.getD_eq_getElem?_getD, List.getElem?_eq_getElem hj]
        rfl
      rw [hf]
      have c0 := h.2 j hj
      have d1 : ¬ (j : Int) < 0 := by omega
      have d2 : ¬ (9 : Int) < (j : Int) := by omega
      have d3 : (j : Int) < 10 := by omega
      generalize kindsL[j] = z at *
      clear h hj hf
      go_enter Tryd.func72, Tryd.ntmps72
      go_wp2
      go_ret
      exact ⟨rfl, rfl⟩
    · have hf : fieldsOf k = 0 := by unfold fieldsOf; rw [if_neg (by omega)]
      rw [hf]
      clear h
      go_enter Tryd.func72, Tryd.ntmps72
      go_wp2
      go_ret
      exact ⟨rfl, rfl⟩
  · have hf : fieldsOf k = 0 := by unfold fieldsOf; rw [if_neg (by omega)]
    rw [hf]
    clear h
    go_enter Tryd.func72, Tryd.ntmps72
    go_wp2
    go_ret
    exact ⟨rfl, rfl⟩
/-- The classes of kinds by what they have. -/
def Cls (h : Int) : Prop := h = 5 ∨ h = 9 ∨ h = 22 ∨ h = 2 ∨ h = 4 ∨ h = 1
def cntB (h n : Int) : Bool := if h = 5 ∨ h = 22 ∨ h = 4 then qtyB n else if h = 9 then chgB n else decide (n = 0)
theorem isCount_any (h n : Int) (w : World) (hc : Cls h) : Calls Tryd.prog 86 #[.int .i64 h, .int .i64 n] w fun e w' => e = .returned (.bool (cntB h n)) ∧ w = w' := by
  have HQ := Lib.hid (isQty_any n w)
  have HC := Lib.hid (isChange_any n w)
  rcases hc with rfl | rfl | rfl | rfl | rfl | rfl
  · rw [show cntB 5 n = qtyB n from rfl]
    go_enter Tryd.func86, Tryd.ntmps86
    go_wp2_with fail
    refine HQ.out.mono ?_
    rintro r0 w1 ⟨rfl, rfl⟩
    go_wp2_with fail
    go_ret
    exact ⟨rfl, rfl⟩
  · rw [show cntB 9 n = chgB n from rfl]
    go_enter Tryd.func86, Tryd.ntmps86
    go_wp2_with fail
    refine HC.out.mono ?_
    rintro r0 w1 ⟨rfl, rfl⟩
    go_wp2_with fail
    go_ret
    exact ⟨rfl, rfl⟩
  · rw [show cntB 22 n = qtyB n from rfl]
    go_enter Tryd.func86, Tryd.ntmps86
    go_wp2_with fail
    refine HQ.out.mono ?_
    rintro r0 w1 ⟨rfl, rfl⟩
    go_wp2_with fail
    go_ret
    exact ⟨rfl, rfl⟩
  · have hz : cntB 2 n = (n == 0) := by simp [cntB]; rfl
    rw [hz]
    go_enter Tryd.func86, Tryd.ntmps86
    go_wp2_with fail
    go_ret
    exact ⟨rfl, rfl⟩
  · rw [show cntB 4 n = qtyB n from rfl]
    go_enter Tryd.func86, Tryd.ntmps86
    go_wp2_with fail
    refine HQ.out.mono ?_
    rintro r0 w1 ⟨rfl, rfl⟩
    go_wp2_with fail
    go_ret
    exact ⟨rfl, rfl⟩
  · have hz : cntB 1 n = (n == 0) := by simp [cntB]; rfl
    rw [hz]
    go_enter Tryd.func86, Tryd.ntmps86
    go_wp2_with fail
    go_ret
    exact ⟨rfl, rfl⟩
end Go.Proofs.YtafkbodmiblbnaaDoor
/- The document's own item: names, kinds. -/
namespace Go.Proofs.YtafkbodmiblbnaaDoor
open Go.RowKit
set_option linter.unusedVariables false
set_option linter.unusedSimpArgs false
def wthB (n a b : Int) : Bool := decide (a ≤ n) && decide (n ≤ b)
theorem wthB_qty (n : Int) : wthB n 1 2147483647 = qtyB n := rfl
def skuK (k : Int) : Bool := (k == 1) || (k == 2) || (k == 8)
def ordK (k : Int) : Bool := (decide (3 ≤ k) && decide (k ≤ 6)) || (k == 9)
def numK (k : Int) : Bool := (decide (1 ≤ k) && decide (k ≤ 3)) || (k == 7)
end Go.Proofs.YtafkbodmiblbnaaDoor
