/- Package table: List, Copy. The document's table as a row of seats: New, at, Find, List, Same. -/
import Derived.Test.YtjjjkfdppleagaaTable22
import Derived.Deep.MidRow
namespace Go.Proofs.Ytjjjkfdppleagaa
open Go Go.RowKit
set_option linter.unusedVariables false
set_option linter.unusedSimpArgs false
theorem tlist_any {w0 w : World} {g : Nat} {T : List SW} {L : List Thing} (h : Sep w0 (TabT g T :: L) w) (hT : T.length = 8) :
    Calls Try.prog 20 #[.pointer (some ⟨g, 0, none⟩)] w fun e w' => ∃ a c, e = .returned (.slice a (seatsOf T).length c) ∧ Sep w0 (SsT (.slice a (seatsOf T).length c) (seatsOf T) :: TabT g T :: L) w' := by
  have HC := Lib.hid (collect_any h hT)
  clear h
  go_enter Try.func20, Try.ntmps20
  (try dsimp only); repeat' (first | go_values | go_skip | go_guarded | go_step | go_upon | go_back)
  refine HC.out.mono ?_
  rintro r0 w1 ⟨a, c, rfl, h1⟩
  have H1 := Lib.hid h1
  clear HC h1
  (try dsimp only); repeat' (first | go_values | go_skip | go_guarded | go_step | go_upon | go_back)
  go_ret
  exact ⟨a, c, rfl, H1.out⟩
theorem wpList_load_run {P : Program} {ops : Array Oper} {rest : List Oper} {o : Oper} {a : Act} {w : World} {Q : Exit → Act → World → Prop} (hg : o.guard = none) (t : TypeId) (x : Operand) (hop : o.op = .load t x) (p v : Value) (hx : a.eval x = p)
    (hr : (Instr.loadAt t p).run P w = .ok v w) (hK : wpList P ops Q rest (a.put o.dst v) w) : wpList P ops Q (o :: rest) a w := by
  refine wpList_plain hg fun K hK' => ?_
  unfold Oper.wp
  simp [execOp, hop, hx, hr, Result.andThen]
  exact hK' _ _ hK
theorem tab_load {w0 w : World} {g : Nat} {T : List SW} {L : List Thing} (h : Sep w0 (TabT g T :: L) w) (hT : T.length = 8) : (Instr.loadAt 73 (.pointer (some ⟨g, 0, none⟩))).run Try.prog w = .ok (.agg (tabCells T)) w := by
  refine run_loadAt_mid w g 0 _ (Value.bool true :: seatCells T) _ ?_ Try.underlying73 rfl ?_
  · intro j v hj
    refine h.cell ?_
    unfold tabCells
    rw [List.getElem?_toArray, Nat.zero_add]
    exact hj
  · rw [List.length_cons, seatCells_len, hT]; kernel_rfl
theorem Sep.allocStore {w0 w : World} {L : List Thing} (h : Sep w0 L w) (Z cs : Array Value) (t : TypeId) (hZ : Z.size = cs.size) : Sep w0 (Cl w.heap.size cs t :: L) ((w.alloc (.cells Z t)).setCells w.heap.size 0 cs.toList) := by
  have h1 := Sep.setCells cs.toList Z 0 _ (h.alloc (.cells Z t))
  rw [show writeAt Z 0 cs.toList = cs from by
    apply Array.ext_getElem?
    intro j
    rw [writeAt_get, Array.length_toList, hZ]
    by_cases hj : j < cs.size
    · rw [if_pos ⟨Nat.zero_le _, by omega, hj⟩, Nat.sub_zero, Array.getElem?_toList]
    · rw [if_neg (by omega), Array.getElem?_eq_none (by omega), Array.getElem?_eq_none (by omega)]] at h1
  exact h1
theorem Sep.allocThere {w0 w : World} {L : List Thing} (h : Sep w0 L w) (Z : Array Value) (t : TypeId) (n : Nat) (hZ : Z.size = n) : (w.alloc (.cells Z t)).there w.heap.size 0 n := fun j hj => by
  have h1 := h.alloc (.cells Z t)
  refine ⟨?_, h1.frozen _⟩
  rw [h1.cell (o := 0 + j) (Array.getElem?_eq_getElem (by omega))]
  rfl
theorem seatCells_one (T : List SW) : ∀ v ∈ seatCells T, v.oneCell' = true := by
  intro v hv
  obtain ⟨s, _, hs⟩ := List.mem_flatMap.1 hv
  simp only [SW.cells, List.mem_cons, List.not_mem_nil, or_false] at hs
  rcases hs with rfl | rfl | rfl | rfl | rfl | rfl | rfl <;> rfl
set_option maxRecDepth 100000 in
theorem tcopy_any {w0 w : World} {g : Nat} {T : List SW} {L : List Thing} (h : Sep w0 (TabT g T :: L) w) (hT : T.length = 8) :
    Calls Try.prog 26 #[.pointer (some ⟨g, 0, none⟩)] w fun e w' => ∃ g', e = .returned (.pointer (some ⟨g', 0, none⟩)) ∧ Sep w0 (TabT g' T :: TabT g T :: L) w' := by
  have HN := Lib.hid (tnone_c h.made)
  have HL := Lib.hid (tab_load h hT)
  obtain ⟨cs, hcs⟩ : ∃ z, z = tabCells T := ⟨_, rfl⟩
  have hsz : cs.size = 57 := by rw [hcs, tab_size, hT]
  have H1 : Hid (∀ Z : Array Value, Z.size = 57 → Sep w0 (Cl w.heap.size cs 73 :: TabT g T :: L) ((w.alloc (.cells Z 73)).setCells w.heap.size 0 cs.toList)) := Lib.hid fun Z hZ => h.allocStore Z cs _ (by rw [hZ, hsz])
  have HTH : Hid (∀ Z : Array Value, Z.size = 57 → (w.alloc (.cells Z 73)).there w.heap.size 0 cs.size) := Lib.hid fun Z hZ => by rw [hsz]; exact h.allocThere Z _ 57 hZ
  have HI : Hid ((Try.prog.info? 73).map (·.size) = some cs.size) := Lib.hid (by rw [hsz]; kernel_rfl)
  have HO : Hid (cs.all (·.oneCell') = true) := Lib.hid (by
    rw [hcs]
    unfold tabCells
    exact all_oneCell_toArray fun v hv => by
      rcases List.mem_cons.1 hv with rfl | hv
      · rfl
      · exact seatCells_one T v hv)
  rw [← hcs] at HL
  have HCS := Lib.hid hcs
  clear h hcs hT hsz
  go_enter Try.func26, Try.ntmps26
  (try dsimp only); repeat' (first | go_values | go_skip | go_guarded | go_step | go_upon | go_back)
  refine HN.out.mono ?_
  rintro r0 w1 ⟨rfl, rfl⟩
  clear HN
  (try dsimp only); repeat' (first | (refine wpList_load_run rfl 73 _ rfl _ _ rfl HL.out ?_; clear HL) | (refine wpList_store_mid rfl 73 (.tmp 3) (.tmp 8) rfl _ 0 cs rfl rfl (HTH.out _ rfl) HI.out HO.out ?_) | go_values | go_skip | go_guarded | go_step | go_upon | go_back)
  go_ret
  refine ⟨_, rfl, ?_⟩
  show Sep w0 (Cl w.heap.size (tabCells T) 73 :: TabT g T :: L) _
  rw [← HCS.out]
  refine H1.out _ ?_
  rfl
/-- The document's table. -/
def DocT (g : Nat) (F : List SW) : Thing := Ex fun v => Both (Cl g #[v] 49) (SsT v F)
theorem loc_doc0 (g : Nat) (F : List SW) (v : Value) : Loc (Both (Cl g #[v] 49) (SsT v F)) := loc_both (loc_blk _ _) (loc_ss _ _)
theorem loc_doc (g : Nat) (F : List SW) : Loc (DocT g F) := loc_ex fun v => loc_doc0 g F v
theorem Sep.docOpen {w0 w : World} {g : Nat} {F : List SW} {L : List Thing} (h : Sep w0 (DocT g F :: L) w) : ∃ a c, Sep w0 (Cl g #[.slice a F.length c] 49 :: SsT (.slice a F.length c) F :: L) w := by
  obtain ⟨v, h1⟩ := h.ex (loc_doc0 g F)
  have h2 := h1.both (loc_blk _ _) (loc_ss _ _)
  obtain ⟨a, c, rfl, -⟩ := Sep.rnForm (h2.sw2 : Sep w0 (Rn 6 31 v F.length (sixes F) :: _) w)
  exact ⟨a, c, h2⟩
theorem Sep.docClose {w0 w : World} {g : Nat} {F : List SW} {v : Value} {L : List Thing} (h : Sep w0 (Cl g #[v] 49 :: SsT v F :: L) w) : Sep w0 (DocT g F :: L) w := Sep.give (A := fun v => Both (Cl g #[v] 49) (SsT v F)) v h.join (loc_doc0 g F)
/-- One of a row of seats, read. -/
theorem Sep.ssAt {w0 w : World} {a : Option Addr} {n c : Nat} {F : List SW} {L : List Thing} (h : Sep w0 (SsT (.slice a n c) F :: L) w) (k : Nat) (hk : k < F.length) : n = F.length ∧ ∃ b, a = some ⟨b, 0, none⟩ ∧ b < w.heap.size ∧
    w.cell? ⟨b, k * 6, none⟩ = some (.int .i64 F[k].c) ∧ w.cell? ⟨b, k * 6 + 1, none⟩ = some (.int .i64 F[k].n) ∧ w.cell? ⟨b, k * 6 + 2, none⟩ = some (.int .i64 F[k].o) ∧ w.cell? ⟨b, k * 6 + 3, none⟩ = some (.int .i64 F[k].k) ∧ w.cell? ⟨b, k * 6 + 4, none⟩ = some (.int .i64 F[k].a) ∧ w.cell? ⟨b, k * 6 + 5, none⟩ = some (.int .i64 F[k].b) := by
  obtain ⟨a', c', hv, -, -, hl, hy⟩ := Sep.rnForm (h : Sep w0 (Rn 6 31 (.slice a n c) F.length (sixes F) :: _) w)
  simp only [Value.slice.injEq] at hv
  obtain ⟨rfl, rfl, rfl⟩ := hv
  obtain ⟨b, rfl, hb, hc⟩ := hy (by omega)
  have q : ∀ j v, j < 6 → (F[k]).six[j]? = some v → w.cell? ⟨b, k * 6 + j, none⟩ = some v := fun j v hj hv => by
    have h9 := sixes_get F k hk j hj
    rw [hv] at h9
    obtain ⟨h7, h8⟩ := List.getElem?_eq_some_iff.1 h9
    rw [hc _ h7, h8]
  exact ⟨rfl, b, rfl, hb, q 0 _ (by omega) rfl, q 1 _ (by omega) rfl, q 2 _ (by omega) rfl, q 3 _ (by omega) rfl, q 4 _ (by omega) rfl, q 5 _ (by omega) rfl⟩
theorem dnew_any {w0 w : World} {L : List Thing} (h : Sep w0 L w) : Calls Try.prog 10 #[] w fun e w' => ∃ g, e = .returned (.pointer (some ⟨g, 0, none⟩)) ∧ Sep w0 (DocT g [] :: L) w' := by
  have h1 := (h.rnNil 6 31).alloc (.cells #[.slice none 0 0] 49)
  have h2 : Sep w0 (DocT _ [] :: L) _ := Sep.docClose (F := []) h1
  have H1 := Lib.hid h2
  clear h h1 h2
  go_enter Try.func10, Try.ntmps10
  (try dsimp only); repeat' (first | go_values | go_skip | go_guarded | go_step | go_upon | go_back)
  go_ret
  exact ⟨_, rfl, H1.out⟩
/-- Where a client's seat is. -/
def idx (F : List SW) (c : Int) : Option Nat := F.findIdx? (fun s => s.c == c)
theorem idx_none {F : List SW} {c : Int} (h : ∀ k (hk : k < F.length), F[k].c ≠ c) : idx F c = none := by
  unfold idx
  rw [List.findIdx?_eq_none_iff]
  intro s hs
  obtain ⟨k, hk, rfl⟩ := List.getElem_of_mem hs
  exact beq_eq_false_iff_ne.2 (h k hk)
theorem idx_some {F : List SW} {c : Int} {k : Nat} (hk : k < F.length) (h : ∀ j (hj : j < k), F[j].c ≠ c) (he : F[k].c = c) : idx F c = some k := by
  unfold idx
  rw [List.findIdx?_eq_some_iff_getElem]
  exact ⟨hk, beq_iff_eq.2 he, fun j hj => by simpa using h j hj⟩
def idxV (F : List SW) (c : Int) : Int := match idx F c with | none => -1 | some k => (k : Int)
set_option maxRecDepth 100000 in
set_option maxHeartbeats 4000000 in
theorem dat_any {w0 w : World} {g : Nat} {F : List SW} {L : List Thing} (c : Int) (h : Sep w0 (DocT g F :: L) w) (hF : F.length ≤ 1000) :
    Calls Try.prog 38 #[.pointer (some ⟨g, 0, none⟩), .int .i64 c] w fun e w' => e = .returned (.int .i64 (idxV F c)) ∧ w = w' := by
  obtain ⟨a, cc, h1⟩ := h.docOpen
  have x0 := h1.cell (o := 0) rfl
  obtain ⟨n, hn⟩ : ∃ z, z = F.length := ⟨_, rfl⟩
  rw [← hn] at x0
  have HA : Hid (∀ k (hk : k < F.length), ∃ b, a = some ⟨b, 0, none⟩ ∧ w.cell? ⟨b, k * 6, none⟩ = some (.int .i64 F[k].c)) := Lib.hid fun k hk => by obtain ⟨-, b, h2, -, h3, -⟩ := h1.sw2.ssAt k hk; exact ⟨b, h2, h3⟩
  have HN := Lib.hid (And.intro hn hF)
  have n0 : (0 : Int) ≤ (n : Int) := by omega
  have n9 : (n : Int) ≤ 1000 := by omega
  clear h h1 hn hF
  go_enter Try.func38, Try.ntmps38
  (try dsimp only); repeat' (first | go_values | go_skip | go_guarded | go_step | go_upon | go_back)
  go_loopw [5] (fun i wr => ∃ k : Nat, k ≤ n ∧ i = .int .i64 k ∧ wr = w ∧ ∀ j (hj : j < F.length), j < k → F[j].c ≠ c) (fun i _ => n - (intOf i).toNat)
  case atStart => exact ⟨0, Nat.zero_le _, rfl, rfl, fun j hj h => by omega⟩
  case round =>
    obtain ⟨k, hk, rfl, hw, hno⟩ := hrel
    subst hw
    have k0 : (0 : Int) ≤ (k : Int) := by omega
    have k9 : (k : Int) ≤ 1000 := by omega
    have HNO := Lib.hid hno
    clear hno
    by_cases hkn : k < n
    · have d0 : decide (k < n) = true := decide_eq_true hkn
      have d1 : decide ((k : Int) < (n : Int)) = true := decide_eq_true (by omega)
      have k1 : (k : Int) < (n : Int) := by omega
      have HK : Hid (k < F.length) := Lib.hid (by rw [← HN.out.1]; exact hkn)
      obtain ⟨b, rfl, hc⟩ := HA.out k HK.out
      have HC : Hid (∃ z, z = F[k]'HK.out) := Lib.hid ⟨_, rfl⟩
      obtain ⟨s, hs⟩ := HC.out
      rw [← hs] at hc
      have HS := Lib.hid hs
      clear hk hkn HC hs
      by_cases he : s.c = c
      · have e0 : (s.c == c) = true := beq_iff_eq.2 he
        have HE : Hid (idxV F c = (k : Int)) := Lib.hid (by unfold idxV; rw [idx_some HK.out (fun j hj => HNO.out j (by have := HK.out; omega) hj) (by rw [← HS.out]; exact he)])
        clear he
        (try dsimp only); repeat' (first | go_values | go_skip | go_guarded | go_step | go_upon | go_back)
        go_ret
        exact ⟨by rw [HE.out]; rfl, by trivial⟩
      · have e0 : (s.c == c) = false := beq_eq_false_iff_ne.2 he
        have HE := Lib.hid he
        clear he
        (try dsimp only); repeat' (first | go_values | go_skip | go_guarded | go_step | go_upon | go_back)
        go_roundw
        case rel => exact ⟨k + 1, by omega, by go_num, by trivial, fun j hj hlt => by
          rcases Nat.lt_or_ge j k with h2 | h2
          · exact HNO.out j hj h2
          · obtain rfl : j = k := by omega
            rw [← HS.out]; exact HE.out⟩
        case measure => simp [intOf]; omega
    · have d0 : decide (k < n) = false := decide_eq_false hkn
      have d1 : decide ((k : Int) < (n : Int)) = false := decide_eq_false (by omega)
      have HE : Hid (idxV F c = -1) := Lib.hid (by unfold idxV; rw [idx_none fun j hj => HNO.out j hj (by have := HN.out.1; omega)])
      clear hk hkn
      (try dsimp only); repeat' (first | go_values | go_skip | go_guarded | go_step | go_upon | go_back)
      go_ret
      exact ⟨by rw [HE.out]; rfl, by trivial⟩
end Go.Proofs.Ytjjjkfdppleagaa
