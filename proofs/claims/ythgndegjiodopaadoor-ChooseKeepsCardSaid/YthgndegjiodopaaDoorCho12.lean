/- Stage 18's laws: offers. -/
import Derived.Test.YthgndegjiodopaaDoorCho11
namespace Go.Proofs.YthgndegjiodopaaDoor
open Go Go.RowKit
set_option linter.unusedVariables false
set_option linter.unusedSimpArgs false
/-- What is said of an offer, wherever its entries lie. -/
def OvM.pr (x : OvM) : Int × Int × Int × Int × List EnM := (x.fr, x.la, x.ba, x.co, x.ps.map (·.1))
theorem pr_fr {xs l : List OvM} (h : xs.map OvM.pr = l.map OvM.pr) : xs.map (·.fr) = l.map (·.fr) := by
  have := congrArg (List.map (·.1)) h
  rwa [List.map_map, List.map_map] at this
theorem getO_none {xs : List OvM} {i : Int} (h : i ∉ xs.map (·.fr)) : getO xs i = none := by
  unfold getO
  rw [List.find?_eq_none]
  intro x hx e
  exact h (List.mem_map.2 ⟨x, hx, of_decide_eq_true e⟩)
theorem pr_frq {xs l : List OvM} (h : xs.map OvM.pr = l.map OvM.pr) (hl : ∀ x ∈ l, IQ x.fr) : FrQ xs := by
  intro x hx
  have h1 : x.fr ∈ l.map (·.fr) := by rw [← pr_fr h]; exact List.mem_map_of_mem hx
  obtain ⟨y, hy, e⟩ := List.mem_map.1 h1
  rw [← e]; exact hl y hy
set_option maxRecDepth 100000 in
set_option maxHeartbeats 8000000 in
theorem offers_any {w0 w : World} {L : List Thing} (m : Nat) (view : Int) (a : Option Addr) (n c : Nat) (l : List OvM) (h : Sep w0 L w) (hm : m ≤ 15) (he : enough m ≠ 0) (hv1 : 1 ≤ view) (hv2 : view ≤ 9007199254740991) (hn : l.length = n)
    (hrd : ∀ i (hi : i < l.length), ∃ g1 off, a = some ⟨g1, off, none⟩ ∧ ∀ wx, Sep w0 L wx → (Instr.loadAt 33 (.pointer (some ⟨g1, off + i * 6, none⟩))).run Tryd.prog wx = .ok (.agg (ovC l[i])) wx)
    (hnc : n ≤ 1000) (hen : ∀ wx, Sep w0 L wx → ∀ x ∈ l, EnS wx x.v x.ps) (hadd : ∀ x ∈ l, AddO m view x) (hnd : (l.map (·.fr)).Nodup) (hk : KindsAt w0) :
    Calls Tryd.prog 11 #[.int .i64 m, .int .i64 view, .slice a n c] w fun e w' => ∃ g b xs, e = .returned (.pointer (some ⟨g, 0, none⟩)) ∧ xs.map OvM.pr = l.map OvM.pr ∧ Sep w0 (OffT g b m view xs :: L) w' := by
  have HN := Lib.hid (onew_ok m view h ⟨by omega, by omega⟩ he hv1 hv2)
  have HR := Lib.hid hrd
  have HE := Lib.hid hen
  have HA := Lib.hid hadd
  have HND := Lib.hid hnd
  have HL := Lib.hid hn
  have HM := Lib.hid (And.intro hm (And.intro hv2 hk))
  have n1 : (n : Int) ≤ 1000 := by omega
  clear h hrd hen hadd hnd hn he hv1 hv2 hm hk
  go_enter Tryd.func11, Tryd.ntmps11
  (try dsimp only); repeat' (first | go_values | go_skip | go_guarded | go_step | go_upon | go_back)
  refine HN.out.mono ?_
  rintro r0 w1 ⟨g, b, rfl, h2⟩
  have H2 := Lib.hid h2
  clear HN h2
  (try dsimp only); repeat' (first | go_values | go_skip | go_guarded | go_step | go_upon | go_back)
  go_loopw [9] (fun i wr => ∃ (k : Nat) (xs : List OvM), k ≤ n ∧ i = .int .i64 k ∧ xs.map OvM.pr = (l.take k).map OvM.pr ∧ Sep w0 (OffT g b m view xs :: L) wr) (fun i _ => n - (intOf i).toNat)
  case atStart => exact ⟨0, [], by omega, rfl, rfl, H2.out⟩
  case round =>
    obtain ⟨k, xs, hk, rfl, hpr, hs⟩ := hrel
    clear H2
    have k0 : (0 : Int) ≤ (k : Int) := by omega
    by_cases hkn : k < n
    · have hkx : k < l.length := by have := HL.out; omega
      have hd : decide (k < n) = true := decide_eq_true hkn
      have hkc : (k : Int) < (n : Int) := by omega
      obtain ⟨g1, off, rfl, hld⟩ := HR.out k hkx
      have hxa := HA.out _ (List.getElem_mem hkx)
      have hxe := fun wx hx => HE.out wx hx _ (List.getElem_mem hkx)
      have hfrq : FrQ xs := pr_frq hpr fun x hx => by
        have := HA.out x (List.mem_of_mem_take hx)
        have := HM.out.1
        exact ⟨by have := this; have h9 := (HA.out x (List.mem_of_mem_take hx)).2.1; omega, by have h9 := (HA.out x (List.mem_of_mem_take hx)).2.2.1; omega⟩
      have hnone : getO xs l[k].fr = none := getO_none (by
        rw [pr_fr hpr]
        have h9 := HND.out
        intro hmem
        rw [← List.take_append_drop k l, List.map_append] at h9
        have h10 := (List.nodup_append.1 h9).2.2 _ hmem (l[k].fr) (List.mem_map.2 ⟨l[k], by rw [List.drop_eq_getElem_cons hkx]; exact List.mem_cons_self .., rfl⟩)
        exact h10 rfl)
      have hlk : List.take (k + 1) l = l.take k ++ [l[k]] := List.take_succ_eq_append_getElem hkx
      obtain ⟨x, hx⟩ : ∃ x, x = l[k] := ⟨_, rfl⟩
      rw [← hx] at hld hxa hxe hnone hlk
      have HLD := Lib.hid (hld _ hs.drop)
      have HAD := Lib.hid (oadd_ok x hs HM.out.1 hfrq hxa hnone HM.out.2.1 hxe HM.out.2.2)
      have HPR := Lib.hid (And.intro hpr (And.intro hlk hkn))
      clear hs hld hxa hxe hnone hfrq hpr hlk hk hkn hkx hx
      unfold ovV at HAD
      (try dsimp only); repeat' (first | (with_reducible show wpList _ _ _ (Oper.mk _ (Op.load 33 _) _ _ _ _ :: _) _ _; refine stopP ?_) | go_values | go_skip | go_guarded | go_step | go_upon | go_back)
      unfold StopP
      have hq_ := HLD.out
      refine wpList_load_run rfl 33 _ rfl _ _ rfl hq_ ?_
      clear hq_ HLD
      (try dsimp only); repeat' (first | go_values | go_skip | go_guarded | go_step | go_upon | go_back)
      refine HAD.out.mono ?_
      rintro r0 w2 ⟨a', c', qs, rfl, hqs, h3⟩
      have H3 := Lib.hid h3
      have HQ := Lib.hid hqs
      clear HAD h3 hqs
      (try dsimp only); repeat' (first | go_values | go_skip | go_guarded | go_step | go_upon | go_back)
      go_roundw
      case rel => exact ⟨k + 1, _, by have := HPR.out.2.2; omega, by go_num, by rw [HPR.out.2.1, List.map_append, List.map_append, HPR.out.1]; simp [OvM.pr, HQ.out], H3.out⟩
      case measure => have := HPR.out.2.2; simp [intOf]; omega
    · have hd : decide (k < n) = false := decide_eq_false hkn
      have hkn' : k = n := by omega
      rw [hkn', List.take_of_length_le (by have := HL.out; omega)] at hpr
      have HF := Lib.hid (And.intro hpr hs)
      clear hs hpr hk hkn hkn'
      (try dsimp only); repeat' (first | go_values | go_skip | go_guarded | go_step | go_upon | go_back)
      go_ret
      exact ⟨g, b, xs, rfl, HF.out.1, HF.out.2⟩
end Go.Proofs.YthgndegjiodopaaDoor
