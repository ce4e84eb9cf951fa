/- Bags of any messages, as rows of cells. -/
import Derived.Test.YtcnbmeiielkigaaGreatDoorMZ08
import Derived.Test.YtcnbmeiielkigaaGreatDoorMZ21
namespace Go.Proofs.YtcnbmeiielkigaaGreatDoor
open Go Go.RowKit
set_option linter.unusedVariables false
set_option linter.unusedSimpArgs false
variable {w0 w : World} {g : Nat} {ms : List (Array Value)} {L : List Thing}
/-- A message's cells, as they are. -/
def MsgG (c m : Array Value) : Prop := c = m ∧ c.size = 22 ∧ ∀ u ∈ c.toList, u.oneCell' = true
theorem MsgG.size {c m : Array Value} (h : MsgG c m) : c.size = 22 := h.2.1
theorem MsgG.one {c m : Array Value} (h : MsgG c m) : ∀ u ∈ c.toList, u.oneCell' = true := h.2.2
/-- Rows of cells, as messages. -/
def MsgsG (rows : List (Array Value)) (ms : List (Array Value)) : Prop := rows.length = ms.length ∧ ∀ k (h : k < rows.length) (h' : k < ms.length), MsgG rows[k] ms[k]
theorem MsgsG.nil : MsgsG [] [] := ⟨rfl, fun k h => by simp at h⟩
theorem MsgsG.r22 {rows : List (Array Value)} {ms : List (Array Value)} (h : MsgsG rows ms) : Rows22 rows := by
 intro c hc
 obtain ⟨k, hk, rfl⟩ := List.getElem_of_mem hc
 exact (h.2 k hk (by rw [← h.1]; exact hk)).size
theorem MsgsG.snoc {rows : List (Array Value)} {ms : List (Array Value)} {c : Array Value} {m : (Array Value)} (h : MsgsG rows ms) (hc : MsgG c m) : MsgsG (rows ++ [c]) (ms ++ [m]) := by
 refine ⟨by rw [List.length_append, List.length_append, h.1]; rfl, fun k h1 h2 => ?_⟩
 by_cases hk : k < rows.length
 ·rw [List.getElem_append_left hk, List.getElem_append_left (by rw [← h.1]; exact hk)]
  exact h.2 k hk _
 ·have hk2 : k = rows.length := by rw [List.length_append, List.length_singleton] at h1; omega
  subst hk2
  rw [List.getElem_append_right (Nat.le_refl _), List.getElem_append_right (by rw [h.1]; exact Nat.le_refl _)]
  simpa using hc
def BagBG (g : Nat) (ms : List (Array Value)) (p : Value × List (Array Value)) : Thing := Both (Fact (MsgsG p.2 ms)) (Both (Cl g #[.bool true, p.1] 60) (Ro 22 40 p.1 ms.length (msCs p.2)))
theorem loc_bagBG (g : Nat) (ms : List (Array Value)) (p : Value × List (Array Value)) : Loc (BagBG g ms p) := loc_both (loc_fact _) (loc_both (loc_blk _ _) (loc_ro _ _ _ _ _))
/-- A bag with such messages. -/
def BagG (g : Nat) (ms : List (Array Value)) : Thing := Ex (BagBG g ms)
theorem Sep.gbagOpen {w0 w : World} {g : Nat} {ms : List (Array Value)} {L : List Thing} (h : Sep w0 (BagG g ms :: L) w) : ∃ a c rows, MsgsG rows ms ∧ Sep w0 (Cl g #[.bool true, .slice a ms.length c] 60 :: Ro 22 40 (.slice a ms.length c) ms.length (msCs rows) :: L) w := by
 obtain ⟨⟨v, rows⟩, h1⟩ := h.ex (loc_bagBG g ms)
 have h2 := Sep.both h1 (loc_fact _) (loc_both (loc_blk _ _) (loc_ro _ _ _ _ _))
 have hm := h2.fact
 have h3 := Sep.both h2.drop (loc_blk _ _) (loc_ro _ _ _ _ _)
 obtain ⟨a, c, hv, -⟩ := h3.sw2.roForm
 dsimp only at hm hv h3
 subst hv
 exact ⟨a, c, rows, hm, h3⟩
theorem Sep.gbagClose {w0 w : World} {g : Nat} {v : Value} {ms : List (Array Value)} {rows : List (Array Value)} {L : List Thing} (hm : MsgsG rows ms) (h : Sep w0 (Cl g #[.bool true, v] 60 :: Ro 22 40 v ms.length (msCs rows) :: L) w) : Sep w0 (BagG g ms :: L) w :=
 Sep.give (A := BagBG g ms) (v, rows) (h.join.say hm).join (loc_bagBG g ms)
theorem gbnew_any {w0 w : World} {L : List Thing} (h : Sep w0 L w) : Calls Tryz.prog 5 #[] w fun e w' => ∃ g, e = .returned (.pointer (some ⟨g, 0, none⟩)) ∧ Sep w0 (BagG g [] :: L) w' := by
 have h1 : Sep w0 (Cl w.heap.size #[.bool true, .slice none 0 0] 60 :: Ro 22 40 (.slice none 0 0) 0 (msCs []) :: L) _ := ((h.rnNil 22 40).roOf).alloc (.cells #[.bool true, .slice none 0 0] 60)
 have H1 := Lib.hid (Sep.gbagClose (ms := []) (rows := []) MsgsG.nil h1)
 clear h h1
 go_enter Tryz.func5, Tryz.ntmps5
 (try dsimp only); repeat' (first | go_values | go_skip | go_guarded | go_step | go_upon | go_back)
 go_ret
 exact ⟨_, rfl, H1.out⟩
theorem gblen_any {w0 w : World} {g : Nat} {ms : List (Array Value)} {L : List Thing} (h : Sep w0 (BagG g ms :: L) w) : Calls Tryz.prog 8 #[.pointer (some ⟨g, 0, none⟩)] w fun e w' => e = .returned (.int .i64 (ms.length : Nat)) ∧ w = w' := by
 obtain ⟨a, c, rows, hm, h1⟩ := h.gbagOpen
 have HN := Lib.hid (bnone_any (h1.cell (o := 0) rfl))
 have c1 := h1.cell (o := 1) rfl
 clear h h1 hm
 generalize ms.length = n at *
 go_enter Tryz.func8, Tryz.ntmps8
 (try dsimp only); repeat' (first | go_values | go_skip | go_guarded | go_step | go_upon | go_back)
 refine HN.out.mono ?_
 rintro r0 w1 ⟨rfl, rfl⟩
 clear HN
 (try dsimp only); repeat' (first | go_values | go_skip | go_guarded | go_step | go_upon | go_back)
 go_ret
 exact ⟨rfl, rfl⟩
theorem gbchk_ok {w0 w : World} {g : Nat} {ms : List (Array Value)} {L : List Thing} (i : Nat) (h : Sep w0 (BagG g ms :: L) w) (hi : i < ms.length) : Calls Tryz.prog 37 #[.pointer (some ⟨g, 0, none⟩), .int .i64 i] w fun e w' => e = .returned (.int .i64 0) ∧ w = w' := by
 obtain ⟨a, c, rows, hm, h1⟩ := h.gbagOpen
 have HN := Lib.hid (bnone_any (h1.cell (o := 0) rfl))
 have c1 := h1.cell (o := 1) rfl
 clear h h1 hm
 generalize ms.length = n at *
 have i0 : decide ((i : Int) < 0) = false := decide_eq_false (by omega)
 have i1 : decide ((n : Int) ≤ (i : Int)) = false := decide_eq_false (by omega)
 have i2 : decide (n ≤ i) = false := decide_eq_false (by omega)
 clear hi
 go_enter Tryz.func37, Tryz.ntmps37
 (try dsimp only); repeat' (first | go_values | go_skip | go_guarded | go_step | go_upon | go_back)
 refine HN.out.mono ?_
 rintro r0 w1 ⟨rfl, rfl⟩
 clear HN
 (try dsimp only); repeat' (first | go_values | go_skip | go_guarded | go_step | go_upon | go_back)
 go_ret
 exact ⟨rfl, rfl⟩
/-- One of a row of messages, read. -/
theorem Sep.roMsgG {w0 w : World} {a : Option Addr} {n c : Nat} {rows : List (Array Value)} {ms : List (Array Value)} {L : List Thing} (h : Sep w0 (Ro 22 40 (.slice a n c) n (msCs rows) :: L) w) (hm : MsgsG rows ms) (i : Nat) (hi : i < rows.length) (hn : rows.length = n) :
  ∃ b off, a = some ⟨b, off, none⟩ ∧ b < w.heap.size ∧ (Instr.loadAt 40 (.pointer (some ⟨b, off + i * 22, none⟩))).run Tryz.prog w = .ok (.agg rows[i]) w ∧ w.rangeAt b (off + i * 22) (rows[i]).toList := by
 obtain ⟨a', c', hv, hnc, -, hl, hcell⟩ := h.roForm
 simp only [Value.slice.injEq] at hv
 obtain ⟨rfl, -, rfl⟩ := hv
 obtain ⟨b, off, rfl, hb, hc⟩ := hcell (by omega)
 have h22 := hm.r22
 have hsz : (rows[i]).size = 22 := h22 _ (List.getElem_mem hi)
 have hr : w.rangeAt b (off + i * 22) (rows[i]).toList := fun j v hj => by
  have hj2 : j < 22 := by
   obtain ⟨h1, -⟩ := List.getElem?_eq_some_iff.1 hj
   simpa [hsz] using h1
  have h3 := msCs_at h22 i hi j hj2
  rw [← Array.getElem?_toList, hj] at h3
  obtain ⟨h4, h5⟩ := List.getElem?_eq_some_iff.1 h3
  rw [Nat.add_assoc, hc _ h4, h5]
 refine ⟨b, off, rfl, hb, ?_, hr⟩
 have h1 := run_loadAt_mid (P := Tryz.prog) w b (off + i * 22) 40 (rows[i]).toList _ hr Tryz.underlying40 rfl (by rw [Array.length_toList, hsz]; kernel_rfl)
 simpa using h1
theorem MsgsG.at {rows : List (Array Value)} {ms : List (Array Value)} (h : MsgsG rows ms) (i : Nat) (hi : i < ms.length) : ∃ hi' : i < rows.length, MsgG (rows[i]'hi') (ms[i]'hi) := ⟨by rw [h.1]; exact hi, h.2 i _ _⟩
theorem MsgsG.erase {rows : List (Array Value)} {ms : List (Array Value)} (h : MsgsG rows ms) (i : Nat) (hi : i < ms.length) : MsgsG (rows.eraseIdx i) (ms.eraseIdx i) := by
 refine ⟨by rw [List.length_eraseIdx, List.length_eraseIdx, h.1], fun k h1 h2 => ?_⟩
 rw [List.getElem_eraseIdx, List.getElem_eraseIdx]
 by_cases hk : k < i
 ·rw [dif_pos hk, dif_pos hk]; exact h.2 _ _ _
 ·rw [dif_neg hk, dif_neg hk]; exact h.2 _ _ _
theorem gerase_len {rows : List (Array Value)} {ms : List (Array Value)} (h : MsgsG rows ms) (i : Nat) (hi : i < ms.length) : (msCs (rows.eraseIdx i)).length = (ms.eraseIdx i).length * 22 := by
 rw [msCs_len (h.erase i hi).r22, (h.erase i hi).1]
set_option maxRecDepth 100000 in
set_option maxHeartbeats 16000000 in
theorem gbtakeN_any (i : Nat) (h : Sep w0 (BagG g ms :: L) w) (hi : i < ms.length) (hmx : ms.length ≤ 100000) (hi0 : 0 < i) :
  Calls Tryz.prog 15 #[.pointer (some ⟨g, 0, none⟩), .int .i64 i] w fun e w' => ∃ u, MsgG u ms[i] ∧ e = .returned (.tuple #[.agg u, .int .i64 0]) ∧ Sep w0 (BagG g (ms.eraseIdx i) :: L) w' := by
 have h0 := h.alloc (.cells #[.int .i64 0, .int .i64 0, .int .i64 0, .int .i64 0, .int .i64 0, .int .i64 0, .int .i64 0, .int .i64 0, .int .i64 0, .int .i64 0, .string ⟨#[]⟩, .int .i64 0, .int .i64 0, .slice none 0 0, .int .i64 0, .int .i64 0, .int .i64 0, .bool false, .int .i64 0, .slice none 0 0, .slice none 0 0, .int .i64 0] 40)
 have HC := Lib.hid (gbchk_ok i h0.sw2 hi)
 obtain ⟨a, c, rows, hm, h1⟩ := h0.sw2.gbagOpen
 obtain ⟨hi', hmi⟩ := hm.at i hi
 obtain ⟨b, off, rfl, -, hld, -⟩ := h1.sw2.roMsgG hm i hi' hm.1
 have c1 := h1.cell (o := 1) rfl
 have HL := Lib.hid hld
 obtain ⟨m, hmm⟩ : ∃ z, z = ms[i] := ⟨_, rfl⟩
 rw [← hmm] at hmi ⊢
 have i0 : (0 : Int) ≤ (i : Int) := by omega
 have i1 : (i : Int) < ((ms.length : Nat) : Int) := by omega
 generalize rows[i] = cm at *
 obtain ⟨n, hn⟩ : ∃ z, z = ms.length := ⟨_, rfl⟩
 rw [← hn] at c1 i1 h1
 have hmn := hm.1
 rw [← hn] at hmn
 obtain ⟨b4, hb4⟩ : ∃ z, z = w.heap.size := ⟨_, rfl⟩
 obtain ⟨w1, hw1⟩ : ∃ z, z = w.alloc (.cells #[.int .i64 0, .int .i64 0, .int .i64 0, .int .i64 0, .int .i64 0, .int .i64 0, .int .i64 0, .int .i64 0, .int .i64 0, .int .i64 0, .string ⟨#[]⟩, .int .i64 0, .int .i64 0, .slice none 0 0, .int .i64 0, .int .i64 0, .int .i64 0, .bool false, .int .i64 0, .slice none 0 0, .slice none 0 0, .int .i64 0] 40) := ⟨_, rfl⟩
 rw [← hw1] at HC HL c1 h1
 rw [← hb4] at h1
 have h2 : Sep w0 (Cl b4 #[.int .i64 0, .int .i64 0, .int .i64 0, .int .i64 0, .int .i64 0, .int .i64 0, .int .i64 0, .int .i64 0, .int .i64 0, .int .i64 0, .string ⟨#[]⟩, .int .i64 0, .int .i64 0, .slice none 0 0, .int .i64 0, .int .i64 0, .int .i64 0, .bool false, .int .i64 0, .slice none 0 0, .slice none 0 0, .int .i64 0] 40 :: Cl g #[.bool true, .slice (some ⟨b, off, none⟩) n c] 60 :: Ro 22 40 (.slice (some ⟨b, off, none⟩) n c) n (msCs rows) :: L) w1 := h1.pickL (M := [_, _, _]) [2, 0, 1] rfl
 have HT := Lib.hid (h2.thereAt 0 22 (by simp))
 have h3 := h2.storeW cm (by rw [hmi.size]; rfl)
 have HI : Hid ((Tryz.prog.info? 40).map (·.size) = some cm.size) := Lib.hid (by rw [hmi.size]; kernel_rfl)
 have HO : Hid (cm.all (·.oneCell') = true) := Lib.hid (by have := all_oneCell_toArray hmi.one; simpa using this)
 have HTH : Hid (w1.there b4 0 cm.size) := Lib.hid (by rw [hmi.size]; exact HT.out)
 obtain ⟨w2, hw2⟩ : ∃ z, z = w1.setCells b4 0 cm.toList := ⟨_, rfl⟩
 rw [← hw2] at h3
 have k1 := h3.sw2.cell (o := 1) rfl
 have kf := h3.sw2.frozen 1
 have hers := hm.erase i hi
 have herl := gerase_len hm i hi
 have herc := fun j hj => msCs_erase hm.r22 i hi' j hj
 have hel : (ms.eraseIdx i).length = n - 1 := by rw [List.length_eraseIdx, if_pos hi, hn]
 rw [hel] at herl
 rw [hmn] at herc
 have hxl := h3.sw3.roLen
 have hin : i < n := by omega
 have hcm : ∀ u ∈ msCs rows, u.oneCell' = true := fun u hu => by
  obtain ⟨cc, hcc, hu2⟩ := List.mem_flatMap.1 hu
  obtain ⟨k, hk, rfl⟩ := List.getElem_of_mem hcc
  exact (hm.2 k hk (by rw [← hm.1]; exact hk)).one u hu2
 have HMI := Lib.hid hmi
 rcases h3.sw3.roOpen with ⟨a9, e9, -, -⟩ | ⟨g9, o9, c9, cur, e9, hnc, hc0, hcmx, hsz, hcur, h4⟩
 ·simp only [Value.slice.injEq] at e9; omega
 simp only [Value.slice.injEq, Option.some.injEq, Addr.mk.injEq, and_true, true_and] at e9
 obtain ⟨⟨rfl, rfl⟩, rfl⟩ := e9
 obtain ⟨p, hp⟩ : ∃ p, p + 1 = n := ⟨n - 1, by omega⟩
 obtain ⟨k, hk⟩ : ∃ k, i + 1 = k := ⟨_, rfl⟩
 have hkI : (i : Int) + 1 = (k : Int) := by omega
 have k0 : (0 : Int) ≤ (k : Int) := by omega
 have k9 : (k : Int) ≤ 100001 := by omega
 have i01 : ((i : Int) == 0) = false := beq_eq_false_iff_ne.2 (by omega)
 have HD := Lib.hid (del_any (i := i) h4 hp (by omega) hk hnc hcmx hsz (fun j hj u hu => by
  rw [hcur j hj] at hu
  exact hcm u (List.mem_of_getElem? hu)))
 have HCL : Hid (∀ (cur' : Array Value) (wx : World), Taken cur cur' off n i → Sep w0 (Cl b cur' 40 :: Cl b4 cm 40 :: Cl g #[.bool true, .slice (some ⟨b, off, none⟩) n c] 60 :: L) wx → Sep w0 (Cl b4 cm 40 :: BagG g (ms.eraseIdx i) :: L) (wx.setCell ⟨g, 1, none⟩ (.slice (some ⟨b, off, none⟩) p c))) := Lib.hid fun cur' wx ht hx => by
  have h5 : Sep w0 (Cl g #[.bool true, .slice (some ⟨b, off, none⟩) p c] 60 :: Cl b cur' 40 :: Cl b4 cm 40 :: L) (wx.setCell ⟨g, 1, none⟩ (.slice (some ⟨b, off, none⟩) p c)) := (hx.sw3).setCell 1 (.slice (some ⟨b, off, none⟩) p c)
  have h6 := h5.pickL (M := [_, _, _]) [1, 0, 2] rfl
  have h7 := h6.roClose (xs := msCs (rows.eraseIdx i)) (n := p) (off := off) (c := c) (by rw [herl]; congr 1; omega) (by omega) hc0 hcmx (by rw [ht.1]; exact hsz) (fun j hj => by
   rw [ht.2 j (by rw [show n - 1 = p by omega]; exact hj), herc j (by rw [show n - 1 = p by omega]; exact hj)]
   have hnp : n * 22 = p * 22 + 22 := by omega
   by_cases hji : j < i * 22
   ·rw [if_pos hji, if_pos hji]; exact hcur j (by omega)
   ·rw [if_neg hji, if_neg hji, Nat.add_assoc]; exact hcur (j + 22) (by omega))
  have hpl : p = (ms.eraseIdx i).length := by rw [hel]; omega
  have h8 : Sep w0 (BagG g (ms.eraseIdx i) :: Cl b4 cm 40 :: L) _ := Sep.gbagClose hers (by rw [← hpl]; exact h7.sw2)
  exact h8.sw2
 clear h h0 h1 h2 h3 hm hmx hmi hld hi hi' hmm HT hers herl herc hel hxl hmn hcm hcur h4 hk hp hc0 hcmx hsz hnc hi0 hin hn
 go_enter Tryz.func15, Tryz.ntmps15
 (try dsimp only); repeat' (first | go_values | go_skip | go_guarded | go_step | go_upon | go_back)
 rw [← hw1, ← hb4]
 clear hw1 hb4
 refine HC.out.mono ?_
 rintro r0 wz ⟨rfl, rfl⟩
 clear HC
 (try dsimp only); repeat' (first | (with_reducible show wpList _ _ _ (Oper.mk _ (Op.load 40 _) _ _ _ _ :: _) _ _; refine stopP ?_) | go_values | go_skip | go_guarded | go_step | go_upon | go_back)
 unfold StopP
 have hq_ := HL.out
 refine wpList_load_run rfl 40 _ rfl _ _ rfl hq_ ?_
 clear hq_
 (try dsimp only); repeat' (first | (with_reducible show wpList _ _ _ (Oper.mk _ (Op.store 40 _ _) _ _ _ _ :: _) _ _; refine stopP ?_) | go_values | go_skip | go_guarded | go_step | go_upon | go_back)
 unfold StopP
 refine wpList_store_mid rfl 40 (.tmp 4) (.tmp 20) rfl b4 0 cm rfl rfl HTH.out HI.out HO.out ?_
 rw [← hw2]
 clear hw2 HTH c1
 (try dsimp only); repeat' (first | go_values | go_skip | go_guarded | go_step | go_upon | go_back)
 refine HD.out.mono ?_
 rintro r0 w5 ⟨rfl, cur', htk, h5⟩
 clear HD k1 kf
 have h5 : Sep w0 (Cl b cur' 40 :: Cl b4 cm 40 :: Cl g #[.bool true, .slice (some ⟨b, off, none⟩) n c] 60 :: L) w5 := h5
 have g1 := h5.sw3.cell (o := 1) rfl
 have gf := h5.sw3.frozen 1
 have hz := HCL.out _ _ htk h5
 have HLF := Lib.hid (hz.loadW 40 Tryz.underlying40 rfl (by rw [HMI.out.size]; kernel_rfl))
 have HTF := Lib.hid (show World.there _ b4 0 cm.size from hz.thereAt 0 cm.size (by omega))
 have hz2 := hz.storeW cm rfl
 have HVF := Lib.hid (hz2.loadV 40 Tryz.underlying40 rfl (by rw [HMI.out.size]; kernel_rfl))
 have HF := Lib.hid hz2.drop
 clear h5 hz hz2 HCL htk
 (try dsimp only); repeat' (first | (with_reducible show wpList _ _ _ (Oper.mk _ (Op.load 40 _) _ _ _ _ :: _) _ _; refine stopP ?_) | go_values | go_skip | go_guarded | go_step | go_upon | go_back)
 unfold StopP
 have hq_ := HLF.out
 refine wpList_load_run rfl 40 _ rfl _ _ rfl hq_ ?_
 clear hq_
 (try dsimp only); repeat' (first | (with_reducible show wpList _ _ _ (Oper.mk _ (Op.store 40 _ _) _ _ _ _ :: _) _ _; refine stopP ?_) | go_values | go_skip | go_guarded | go_step | go_upon | go_back)
 unfold StopP
 refine wpList_store_mid rfl 40 (.tmp 4) (.tmp 48) rfl b4 0 cm rfl rfl HTF.out HI.out HO.out ?_
 (try dsimp only); repeat' (first | go_values | go_skip | go_guarded | go_step | go_upon | go_back)
 exact bodyPost_ret (results_cell2 rfl rfl HVF.out rfl) rfl ⟨cm, HMI.out, rfl, HF.out⟩
set_option maxRecDepth 100000 in
set_option maxHeartbeats 16000000 in
theorem gbtake0_any (i : Nat) (h : Sep w0 (BagG g ms :: L) w) (hi : i < ms.length) (hmx : ms.length ≤ 100000) (hi0 : i = 0) :
  Calls Tryz.prog 15 #[.pointer (some ⟨g, 0, none⟩), .int .i64 i] w fun e w' => ∃ u, MsgG u ms[i] ∧ e = .returned (.tuple #[.agg u, .int .i64 0]) ∧ Sep w0 (BagG g (ms.eraseIdx i) :: L) w' := by
 have h0 := h.alloc (.cells #[.int .i64 0, .int .i64 0, .int .i64 0, .int .i64 0, .int .i64 0, .int .i64 0, .int .i64 0, .int .i64 0, .int .i64 0, .int .i64 0, .string ⟨#[]⟩, .int .i64 0, .int .i64 0, .slice none 0 0, .int .i64 0, .int .i64 0, .int .i64 0, .bool false, .int .i64 0, .slice none 0 0, .slice none 0 0, .int .i64 0] 40)
 have HC := Lib.hid (gbchk_ok i h0.sw2 hi)
 obtain ⟨a, c, rows, hm, h1⟩ := h0.sw2.gbagOpen
 obtain ⟨hi', hmi⟩ := hm.at i hi
 obtain ⟨b, off, rfl, -, hld, -⟩ := h1.sw2.roMsgG hm i hi' hm.1
 have c1 := h1.cell (o := 1) rfl
 have HL := Lib.hid hld
 obtain ⟨m, hmm⟩ : ∃ z, z = ms[i] := ⟨_, rfl⟩
 rw [← hmm] at hmi ⊢
 have i0 : (0 : Int) ≤ (i : Int) := by omega
 have i1 : (i : Int) < ((ms.length : Nat) : Int) := by omega
 generalize rows[i] = cm at *
 obtain ⟨n, hn⟩ : ∃ z, z = ms.length := ⟨_, rfl⟩
 rw [← hn] at c1 i1 h1
 have hmn := hm.1
 rw [← hn] at hmn
 obtain ⟨b4, hb4⟩ : ∃ z, z = w.heap.size := ⟨_, rfl⟩
 obtain ⟨w1, hw1⟩ : ∃ z, z = w.alloc (.cells #[.int .i64 0, .int .i64 0, .int .i64 0, .int .i64 0, .int .i64 0, .int .i64 0, .int .i64 0, .int .i64 0, .int .i64 0, .int .i64 0, .string ⟨#[]⟩, .int .i64 0, .int .i64 0, .slice none 0 0, .int .i64 0, .int .i64 0, .int .i64 0, .bool false, .int .i64 0, .slice none 0 0, .slice none 0 0, .int .i64 0] 40) := ⟨_, rfl⟩
 rw [← hw1] at HC HL c1 h1
 rw [← hb4] at h1
 have h2 : Sep w0 (Cl b4 #[.int .i64 0, .int .i64 0, .int .i64 0, .int .i64 0, .int .i64 0, .int .i64 0, .int .i64 0, .int .i64 0, .int .i64 0, .int .i64 0, .string ⟨#[]⟩, .int .i64 0, .int .i64 0, .slice none 0 0, .int .i64 0, .int .i64 0, .int .i64 0, .bool false, .int .i64 0, .slice none 0 0, .slice none 0 0, .int .i64 0] 40 :: Cl g #[.bool true, .slice (some ⟨b, off, none⟩) n c] 60 :: Ro 22 40 (.slice (some ⟨b, off, none⟩) n c) n (msCs rows) :: L) w1 := h1.pickL (M := [_, _, _]) [2, 0, 1] rfl
 have HT := Lib.hid (h2.thereAt 0 22 (by simp))
 have h3 := h2.storeW cm (by rw [hmi.size]; rfl)
 have HI : Hid ((Tryz.prog.info? 40).map (·.size) = some cm.size) := Lib.hid (by rw [hmi.size]; kernel_rfl)
 have HO : Hid (cm.all (·.oneCell') = true) := Lib.hid (by have := all_oneCell_toArray hmi.one; simpa using this)
 have HTH : Hid (w1.there b4 0 cm.size) := Lib.hid (by rw [hmi.size]; exact HT.out)
 obtain ⟨w2, hw2⟩ : ∃ z, z = w1.setCells b4 0 cm.toList := ⟨_, rfl⟩
 rw [← hw2] at h3
 have k1 := h3.sw2.cell (o := 1) rfl
 have kf := h3.sw2.frozen 1
 have hers := hm.erase i hi
 have herl := gerase_len hm i hi
 have herc := fun j hj => msCs_erase hm.r22 i hi' j hj
 have hel : (ms.eraseIdx i).length = n - 1 := by rw [List.length_eraseIdx, if_pos hi, hn]
 rw [hel] at herl
 rw [hmn] at herc
 have hxl := h3.sw3.roLen
 have hin : i < n := by omega
 have hcm : ∀ u ∈ msCs rows, u.oneCell' = true := fun u hu => by
  obtain ⟨cc, hcc, hu2⟩ := List.mem_flatMap.1 hu
  obtain ⟨k, hk, rfl⟩ := List.getElem_of_mem hcc
  exact (hm.2 k hk (by rw [← hm.1]; exact hk)).one u hu2
 have HMI := Lib.hid hmi
 rcases h3.sw3.roOpen with ⟨a9, e9, -, -⟩ | ⟨g9, o9, c9, cur, e9, hnc, hc0, hcmx, hsz, hcur, h4⟩
 ·simp only [Value.slice.injEq] at e9; omega
 simp only [Value.slice.injEq, Option.some.injEq, Addr.mk.injEq, and_true, true_and] at e9
 obtain ⟨⟨rfl, rfl⟩, rfl⟩ := e9
 have i01 : ((i : Int) == 0) = true := beq_iff_eq.2 (by omega)
 obtain ⟨p, hp⟩ : ∃ p, p + 1 = n := ⟨n - 1, by omega⟩
 have n0 : (0 : Int) < (n : Int) := by omega
 have n1 : (1 : Int) ≤ (n : Int) := by omega
 have nc : (n : Int) ≤ (c : Int) := by omega
 have hc22 : 22 ≤ c * 22 := by omega
 have HTB := Lib.hid (show World.there w2 b off 22 from h4.thereAt off 22 (by omega))
 have h5 := Sep.setCells (#[.int .i64 0, .int .i64 0, .int .i64 0, .int .i64 0, .int .i64 0, .int .i64 0, .int .i64 0, .int .i64 0, .int .i64 0, .int .i64 0, .string ⟨#[]⟩, .int .i64 0, .int .i64 0, .slice none 0 0, .int .i64 0, .int .i64 0, .int .i64 0, .bool false, .int .i64 0, .slice none 0 0, .slice none 0 0, .int .i64 0]).toList cur off w2 h4
 obtain ⟨w5, hw5⟩ : ∃ z, z = w2.setCells b off (#[.int .i64 0, .int .i64 0, .int .i64 0, .int .i64 0, .int .i64 0, .int .i64 0, .int .i64 0, .int .i64 0, .int .i64 0, .int .i64 0, .string ⟨#[]⟩, .int .i64 0, .int .i64 0, .slice none 0 0, .int .i64 0, .int .i64 0, .int .i64 0, .bool false, .int .i64 0, .slice none 0 0, .slice none 0 0, .int .i64 0]).toList := ⟨_, rfl⟩
 rw [← hw5] at h5
 have h5 : Sep w0 (Cl b (writeAt cur off (#[.int .i64 0, .int .i64 0, .int .i64 0, .int .i64 0, .int .i64 0, .int .i64 0, .int .i64 0, .int .i64 0, .int .i64 0, .int .i64 0, .string ⟨#[]⟩, .int .i64 0, .int .i64 0, .slice none 0 0, .int .i64 0, .int .i64 0, .int .i64 0, .bool false, .int .i64 0, .slice none 0 0, .slice none 0 0, .int .i64 0]).toList) 40 :: Cl b4 cm 40 :: Cl g #[.bool true, .slice (some ⟨b, off, none⟩) n c] 60 :: L) w5 := h5
 have g1 := h5.sw3.cell (o := 1) rfl
 have gf := h5.sw3.frozen 1
 have hpl : p = (ms.eraseIdx i).length := by rw [hel]; omega
 have hnp : n * 22 = p * 22 + 22 := by omega
 have hcur2 : ∀ j, j < p * 22 → (writeAt cur off (#[.int .i64 0, .int .i64 0, .int .i64 0, .int .i64 0, .int .i64 0, .int .i64 0, .int .i64 0, .int .i64 0, .int .i64 0, .int .i64 0, .string ⟨#[]⟩, .int .i64 0, .int .i64 0, .slice none 0 0, .int .i64 0, .int .i64 0, .int .i64 0, .bool false, .int .i64 0, .slice none 0 0, .slice none 0 0, .int .i64 0]).toList)[off + 22 + j]? = (msCs (rows.eraseIdx i))[j]? := fun j hj => by
  rw [writeAt_get, if_neg (by simp only [Array.length_toList, List.size_toArray, List.length_cons, List.length_nil]; omega), herc j (by rw [show n - 1 = p by omega]; exact hj), if_neg (by omega), Nat.add_assoc, Nat.add_comm 22 j]
  exact hcur (j + 22) (by omega)
 clear h h0 h1 h2 h3 hm hmx hmi hld hi hi' hmm HT herc hel hxl hmn hcur h4 hi0 hc22 hcm hn hin
 go_enter Tryz.func15, Tryz.ntmps15
 (try dsimp only); repeat' (first | go_values | go_skip | go_guarded | go_step | go_upon | go_back)
 rw [← hw1, ← hb4]
 clear hw1 hb4
 refine HC.out.mono ?_
 rintro r0 wz ⟨rfl, rfl⟩
 clear HC
 (try dsimp only); repeat' (first | (with_reducible show wpList _ _ _ (Oper.mk _ (Op.load 40 _) _ _ _ _ :: _) _ _; refine stopP ?_) | go_values | go_skip | go_guarded | go_step | go_upon | go_back)
 unfold StopP
 have hq_ := HL.out
 refine wpList_load_run rfl 40 _ rfl _ _ rfl hq_ ?_
 clear hq_
 (try dsimp only); repeat' (first | (with_reducible show wpList _ _ _ (Oper.mk _ (Op.store 40 _ _) _ _ _ _ :: _) _ _; refine stopP ?_) | go_values | go_skip | go_guarded | go_step | go_upon | go_back)
 unfold StopP
 refine wpList_store_mid rfl 40 (.tmp 4) (.tmp 20) rfl b4 0 cm rfl rfl HTH.out HI.out HO.out ?_
 rw [← hw2]
 clear hw2 HTH c1
 (try dsimp only); repeat' (first | (with_reducible show wpList _ _ _ (Oper.mk _ (Op.store 40 _ _) _ _ _ _ :: _) _ _; refine stopP ?_) | go_values | go_skip | go_guarded | go_step | go_upon | go_back)
 unfold StopP
 refine wpList_store_mid rfl 40 (.tmp 28) (.tmp 27) rfl b off #[.int .i64 0, .int .i64 0, .int .i64 0, .int .i64 0, .int .i64 0, .int .i64 0, .int .i64 0, .int .i64 0, .int .i64 0, .int .i64 0, .string ⟨#[]⟩, .int .i64 0, .int .i64 0, .slice none 0 0, .int .i64 0, .int .i64 0, .int .i64 0, .bool false, .int .i64 0, .slice none 0 0, .slice none 0 0, .int .i64 0] rfl rfl HTB.out (by kernel_rfl) (by kernel_rfl) ?_
 rw [← hw5]
 clear hw5 HTB k1 kf
 have HH := Lib.hid h5
 have HE := Lib.hid (And.intro hpl (And.intro hcur2 (And.intro hers herl)))
 have HN := Lib.hid (And.intro hp (And.intro hnp (And.intro hc0 (And.intro hcmx (And.intro hsz hnc)))))
 have hn1 : n - 1 = p := by omega
 clear h5 hpl hcur2 hers herl hnp hcmx hsz
 by_cases hc1 : c = 1
 ·obtain rfl : p = 0 := by omega
  clear hp hc0
  have hz : Sep w0 (Cl b4 cm 40 :: BagG g (ms.eraseIdx i) :: L) (w5.setCell ⟨g, 1, none⟩ (.slice (some ⟨b, off, none⟩) 0 0)) := by
   have h6 : Sep w0 (Cl g #[.bool true, .slice (some ⟨b, off, none⟩) 0 0] 60 :: Cl b (writeAt cur off (#[.int .i64 0, .int .i64 0, .int .i64 0, .int .i64 0, .int .i64 0, .int .i64 0, .int .i64 0, .int .i64 0, .int .i64 0, .int .i64 0, .string ⟨#[]⟩, .int .i64 0, .int .i64 0, .slice none 0 0, .int .i64 0, .int .i64 0, .int .i64 0, .bool false, .int .i64 0, .slice none 0 0, .slice none 0 0, .int .i64 0]).toList) 40 :: Cl b4 cm 40 :: L) (w5.setCell ⟨g, 1, none⟩ (.slice (some ⟨b, off, none⟩) 0 0)) := (HH.out.sw3).setCell 1 (.slice (some ⟨b, off, none⟩) 0 0)
   have h7 : Sep w0 (Ro 22 40 (.slice (some ⟨b, off, none⟩) 0 0) 0 [] :: Cl g #[.bool true, .slice (some ⟨b, off, none⟩) 0 0] 60 :: Cl b4 cm 40 :: L) _ := (h6.pickL (M := [_, _, _]) [1, 0, 2] rfl).roNone
   have h8 : Sep w0 (BagG g (ms.eraseIdx i) :: Cl b4 cm 40 :: L) _ := Sep.gbagClose HE.out.2.2.1 (by rw [← HE.out.1, show msCs (rows.eraseIdx i) = [] from List.eq_nil_of_length_eq_zero (by rw [HE.out.2.2.2]; omega)]; exact h7.sw2)
   exact h8.sw2
  have HLF := Lib.hid (hz.loadW 40 Tryz.underlying40 rfl (by rw [HMI.out.size]; kernel_rfl))
  have HTF := Lib.hid (show World.there _ b4 0 cm.size from hz.thereAt 0 cm.size (by omega))
  have hz2 := hz.storeW cm rfl
  have HVF := Lib.hid (hz2.loadV 40 Tryz.underlying40 rfl (by rw [HMI.out.size]; kernel_rfl))
  have HF := Lib.hid hz2.drop
  clear hz hz2 HH HE
  subst hc1
  (try dsimp only); repeat' (first | (with_reducible show wpList _ _ _ (Oper.mk _ (Op.load 40 _) _ _ _ _ :: _) _ _; refine stopP ?_) | go_values | go_skip | go_guarded | go_step | go_upon | go_back)
  unfold StopP
  have hq_ := HLF.out
  refine wpList_load_run rfl 40 _ rfl _ _ rfl hq_ ?_
  clear hq_
  (try dsimp only); repeat' (first | (with_reducible show wpList _ _ _ (Oper.mk _ (Op.store 40 _ _) _ _ _ _ :: _) _ _; refine stopP ?_) | go_values | go_skip | go_guarded | go_step | go_upon | go_back)
  unfold StopP
  refine wpList_store_mid rfl 40 (.tmp 4) (.tmp 48) rfl b4 0 cm rfl rfl HTF.out HI.out HO.out ?_
  (try dsimp only); repeat' (first | go_values | go_skip | go_guarded | go_step | go_upon | go_back)
  exact bodyPost_ret (results_cell2 rfl rfl HVF.out rfl) rfl ⟨cm, HMI.out, rfl, HF.out⟩
 ·have hc2 : (2 : Int) ≤ (c : Int) := by omega
  have hz : Sep w0 (Cl b4 cm 40 :: BagG g (ms.eraseIdx i) :: L) (w5.setCell ⟨g, 1, none⟩ (.slice (some ⟨b, off + 22, none⟩) p (c - 1))) := by
   have h6 : Sep w0 (Cl g #[.bool true, .slice (some ⟨b, off + 22, none⟩) p (c - 1)] 60 :: Cl b (writeAt cur off (#[.int .i64 0, .int .i64 0, .int .i64 0, .int .i64 0, .int .i64 0, .int .i64 0, .int .i64 0, .int .i64 0, .int .i64 0, .int .i64 0, .string ⟨#[]⟩, .int .i64 0, .int .i64 0, .slice none 0 0, .int .i64 0, .int .i64 0, .int .i64 0, .bool false, .int .i64 0, .slice none 0 0, .slice none 0 0, .int .i64 0]).toList) 40 :: Cl b4 cm 40 :: L) (w5.setCell ⟨g, 1, none⟩ (.slice (some ⟨b, off + 22, none⟩) p (c - 1))) := (HH.out.sw3).setCell 1 (.slice (some ⟨b, off + 22, none⟩) p (c - 1))
   have hx := HN.out
   have h7 := (h6.pickL (M := [_, _, _]) [1, 0, 2] rfl).roClose (sz := 22) (xs := msCs (rows.eraseIdx i)) (n := p) (off := off + 22) (c := c - 1) (by rw [HE.out.2.2.2]; congr 1) (by omega) (by omega) (by omega) (by rw [writeAt_size]; omega) (fun j hj => HE.out.2.1 j hj)
   have h8 : Sep w0 (BagG g (ms.eraseIdx i) :: Cl b4 cm 40 :: L) _ := Sep.gbagClose HE.out.2.2.1 (by rw [← HE.out.1]; exact h7.sw2)
   exact h8.sw2
  clear hp hc0
  have HLF := Lib.hid (hz.loadW 40 Tryz.underlying40 rfl (by rw [HMI.out.size]; kernel_rfl))
  have HTF := Lib.hid (show World.there _ b4 0 cm.size from hz.thereAt 0 cm.size (by omega))
  have hz2 := hz.storeW cm rfl
  have HVF := Lib.hid (hz2.loadV 40 Tryz.underlying40 rfl (by rw [HMI.out.size]; kernel_rfl))
  have HF := Lib.hid hz2.drop
  clear hz hz2 HH HE
  (try dsimp only); repeat' (first | (with_reducible show wpList _ _ _ (Oper.mk _ (Op.load 40 _) _ _ _ _ :: _) _ _; refine stopP ?_) | go_values | go_skip | go_guarded | go_step | go_upon | go_back)
  unfold StopP
  have hq_ := HLF.out
  refine wpList_load_run rfl 40 _ rfl _ _ rfl hq_ ?_
  clear hq_
  (try dsimp only); repeat' (first | (with_reducible show wpList _ _ _ (Oper.mk _ (Op.store 40 _ _) _ _ _ _ :: _) _ _; refine stopP ?_) | go_values | go_skip | go_guarded | go_step | go_upon | go_back)
  unfold StopP
  refine wpList_store_mid rfl 40 (.tmp 4) (.tmp 48) rfl b4 0 cm rfl rfl HTF.out HI.out HO.out ?_
  (try dsimp only); repeat' (first | go_values | go_skip | go_guarded | go_step | go_upon | go_back)
  exact bodyPost_ret (results_cell2 rfl rfl HVF.out rfl) rfl ⟨cm, HMI.out, rfl, HF.out⟩
theorem gbtake_any (i : Nat) (h : Sep w0 (BagG g ms :: L) w) (hi : i < ms.length) (hmx : ms.length ≤ 100000) :
  Calls Tryz.prog 15 #[.pointer (some ⟨g, 0, none⟩), .int .i64 i] w fun e w' => ∃ u, MsgG u ms[i] ∧ e = .returned (.tuple #[.agg u, .int .i64 0]) ∧ Sep w0 (BagG g (ms.eraseIdx i) :: L) w' := by
 by_cases h0 : i = 0
 ·exact gbtake0_any i h hi hmx h0
 ·exact gbtakeN_any i h hi hmx (by omega)
theorem Sep.ontoL {w0 w w' : World} {M L : List Thing} (h : Sep w0 L w) (h' : Sep w M w') : Sep w0 (M ++ L) w' :=
 (h.onto1 (Sep.close (M := M) (by rw [List.append_nil]; exact h'))).open_ h'.loc
end Go.Proofs.YtcnbmeiielkigaaGreatDoor
/- Bags of any messages: Put, At. -/
namespace Go.Proofs.YtcnbmeiielkigaaGreatDoor
open Go Go.RowKit
set_option linter.unusedVariables false
set_option linter.unusedSimpArgs false
set_option maxRecDepth 100000 in
set_option maxHeartbeats 16000000 in
theorem gput_ok {w0 w : World} {g : Nat} {ms : List (Array Value)} {L : List Thing} (m : MgM) (h : Sep w0 (BagG g ms :: L) w) (hg : ∀ wx, Sep w0 L wx → GmS wx m) (hK : KindsAt w0 ∧ MKindsAt w0) (hl : m.ck.length ≤ 1000000000) (hx : m.ps.length ≤ 1000000) (hls : (∀ x ∈ m.ps, x.1.p.ls.length ≤ 1000) ∧ m.en.p.ls.length ≤ 1000) (hnl : ms.length < 2000) (hchk : chkB m = true) :
  Calls Tryz.prog 17 #[.pointer (some ⟨g, 0, none⟩), .agg (mgC m)] w fun e w' => e = .returned (.int .i64 0) ∧ ∃ lu cu eu qs, qs.map (·.1) = m.ps.map (·.1) ∧ Sep w0 (BagG g (ms ++ [mgC { m with lv := lu, cv := cu, ev := eu, ps := qs }]) :: LnR lu m.en.p.ls :: By cu m.ck :: EnT eu qs :: L) w' := by
 obtain ⟨a, c, rows, hm, h1⟩ := h.gbagOpen
 have hsz : (mgC m).size = 22 := rfl
 have h2 := h1.alloc (.cells (mgC m) 40)
 have HN := Lib.hid (bnone_any (h2.sw2.cell (o := 0) rfl))
 have HL := Lib.hid (h2.loadW 40 Tryz.underlying40 rfl (by rw [hsz]; kernel_rfl))
 have hgp := hg _ (h2.drop.drop.drop)
 have hck := gcheck_w m hgp (hK.1.below h2.low) (hK.2.below h2.low) hl hx
 rw [hchk, if_pos rfl] at hck
 have HCK := Lib.hid (hck.mono fun e w' hh => And.intro hh.1 (h2.below hh.2.low))
 obtain ⟨b3, hb3⟩ : ∃ z, z = w.heap.size := ⟨_, rfl⟩
 obtain ⟨w1, hw1⟩ : ∃ z, z = w.alloc (.cells (mgC m) 40) := ⟨_, rfl⟩
 rw [← hw1] at HN HL HCK
 rw [← hb3] at HL HCK
 obtain ⟨n, hn⟩ : ∃ z, z = ms.length := ⟨_, rfl⟩
 have HM := Lib.hid (And.intro hm hn)
 rw [← hn] at HCK
 have n0 : (0 : Int) ≤ (n : Int) := by omega
 have n1 : ¬ (2000 : Int) ≤ (n : Int) := by omega
 have n2 : decide ((2000 : Int) ≤ (n : Int)) = false := decide_eq_false n1
 have n3 : decide (2000 ≤ n) = false := decide_eq_false (by omega)
 have HNL := Lib.hid (show n < 2000 by omega)
 have HG := Lib.hid (And.intro hg (And.intro hl (And.intro hx hls)))
 obtain ⟨mc, hmc⟩ : ∃ z, z = mgC m := ⟨_, rfl⟩
 rw [← hmc] at HL HCK hw1 hsz ⊢
 have HMC := Lib.hid (And.intro hmc hsz)
 clear h h1 h2 hgp hck hg hl hx hls hm hn hK hchk hmc hsz
 go_enter Tryz.func17, Tryz.ntmps17
 (try dsimp only); repeat' (first | go_values | go_skip | go_guarded | go_step | go_upon | go_back)
 rw [← hw1, ← hb3]
 clear hw1 hb3
 refine HN.out.mono ?_
 rintro r0 w2 ⟨rfl, rfl⟩
 clear HN
 (try dsimp only); repeat' (first | (with_reducible show wpList _ _ _ (Oper.mk _ (Op.load 40 _) _ _ _ _ :: _) _ _; refine stopP ?_) | go_values | go_skip | go_guarded | go_step | go_upon | go_back)
 unfold StopP
 have hq_ := HL.out
 refine wpList_load_run rfl 40 _ rfl _ _ rfl hq_ ?_
 clear hq_
 (try dsimp only); repeat' (first | go_values | go_skip | go_guarded | go_step | go_upon | go_back)
 refine HCK.out.mono ?_
 rintro r0 w2 ⟨rfl, h3⟩
 have c1 := h3.sw2.cell (o := 1) rfl
 have HCP := Lib.hid (gcopy_w (w := w2.drew) m (HG.out.1 _ h3.drew.drop.drop.drop) HG.out.2.1 (by have := HG.out.2.2.1; omega) HG.out.2.2.2.1 HG.out.2.2.2.2)
 have hld := h3.drew.loadW 40 Tryz.underlying40 rfl (by rw [HMC.out.2]; kernel_rfl)
 have H3 := Lib.hid h3.drew
 clear HCK h3
 (try dsimp only); repeat' (first | go_values | go_skip | go_guarded | go_step | go_upon | go_back)
 refine wp_region_G (fun w' => w'.cell? ⟨g, 1, none⟩ = some (.slice a n c)) [11] (by kernel_rfl) c1 (fun hS => ?_)
 try dsimp only at hS
 refine wpAnyG_tk (i := 0) (v := ?v0_1gp) rfl (Or.inl ⟨by rfl, ?a_⟩) hS ?b_
 case a_ => intro w hSw; (try dsimp only at hSw); go_simp; (try with_reducible rfl)
 case b_ =>
 try simp only [nz0, nz1, nz2, Act.put, nz3, nz4, nz5]
 refine wpAnyG_tk (i := 1) (v := ?v1_2gp) rfl (Or.inl ⟨by rfl, ?a_⟩) hS ?b_
 case a_ => intro w hSw; (try dsimp only at hSw); go_simp; (try with_reducible rfl)
 case b_ =>
 try simp only [nz0, nz1, nz2, Act.put, nz3, nz4, nz5]
 refine wpAnyG_tk (i := 2) (v := ?v2_3gp) rfl (Or.inl ⟨by rfl, ?a_⟩) hS ?b_
 case a_ => intro w hSw; (try dsimp only at hSw); go_simp; (try with_reducible rfl)
 case b_ =>
 try simp only [nz0, nz1, nz2, Act.put, nz3, nz4, nz5]
 refine wpAnyG_tk (i := 3) (v := ?v3_4gp) rfl (Or.inl ⟨by rfl, ?a_⟩) hS ?b_
 case a_ => intro w hSw; (try dsimp only at hSw); go_simp; (try with_reducible rfl)
 case b_ =>
 try simp only [nz0, nz1, nz2, Act.put, nz3, nz4, nz5]
 refine wpAnyG_tk (i := 4) (v := ?v4_5gp) rfl (Or.inl ⟨by rfl, ?a_⟩) hS ?b_
 case a_ => intro w hSw; (try dsimp only at hSw); go_simp; (try with_reducible rfl)
 case b_ =>
 try simp only [nz0, nz1, nz2, Act.put, nz3, nz4, nz5]
 refine wpAnyG_one (i := 5) (by kernel_rfl) rfl (fun K hK => ?_)
 refine step_load_run (by rfl) 40 _ (by rfl) _ _ (by rfl) hld ?_
 clear hld
 refine hK.out _ _ (fun _ => ?hS6gp) ?rest6gp
 case hS6gp => exact c1
 clear K hK
 try simp only [nz0, nz1, nz2, Act.put, nz3, nz4, nz5]
 refine wpAnyG_one (i := 6) (by kernel_rfl) rfl (fun K hK => ?_)
 go_simp
 rw [HMC.out.1]
 refine Calls.mono HCP.out ?_
 rintro r6 w6 ⟨lu, cu, eu, qs, rfl, hqs, h6⟩
 have h6a := H3.out.ontoL h6
 obtain ⟨uc, huc⟩ : ∃ z, z = mgC { m with lv := lu, cv := cu, ev := eu, ps := qs } := ⟨_, rfl⟩
 have hus : uc.size = 22 := by rw [huc]; rfl
 have huo : ∀ u ∈ uc.toList, u.oneCell' = true := by
  rw [huc]
  have h61 := h6a.rnForm
  have h62 := bv_form h6a.sw2.sl
  have h63 := h6a.sw3.enForm
  obtain ⟨a61, c61, e61, -⟩ := h61
  obtain ⟨a62, c62, e62⟩ := h62
  obtain ⟨a63, c63, e63, -⟩ := h63
  have := mgC_one { m with lv := lu, cv := cu, ev := eu, ps := qs } (by rw [e61]; rfl) (by rw [e62]; rfl) (by rw [e63]; rfl)
  rw [Array.all_eq_true_iff_forall_mem] at this
  exact fun u hu => this u (by simpa using hu)
 rw [← huc]
 have h6b : Sep w0 (Cl b3 mc 40 :: Cl g #[.bool true, .slice a n c] 60 :: Ro 22 40 (.slice a n c) n (msCs rows) :: ([LnR lu m.en.p.ls, By cu m.ck, EnT eu qs] ++ L)) w6 := h6a.perm (List.perm_append_comm (l₁ := [LnR lu m.en.p.ls, By cu m.ck, EnT eu qs]) (l₂ := [Cl b3 mc 40, Cl g #[.bool true, .slice a n c] 60, Ro 22 40 (.slice a n c) n (msCs rows)]) |>.append_right L)
 have k1 := h6b.sw2.cell (o := 1) rfl
 have h7 := h6b.alloc (.cells uc 40)
 have k2 := h7.sw3.cell (o := 1) rfl
 obtain ⟨a8, c8, w8, hr, h8⟩ := append_mo (ty := 44) (h7.pickL (M := [_, _, _, _]) [0, 3, 2] rfl) hus huo (by have := HNL.out; omega)
 have k3 := h8.sw2.cell (o := 1) rfl
 have kf := h8.sw2.frozen 1
 have h9 : Sep w0 (Cl g #[.bool true, .slice a8 (n + 1) c8] 60 :: Ro 22 40 (.slice a8 (n + 1) c8) (n + 1) (msCs (rows ++ [uc])) :: ([LnR lu m.en.p.ls, By cu m.ck, EnT eu qs] ++ L)) (w8.setCell ⟨g, 1, none⟩ (.slice a8 (n + 1) c8)) := h8.sw2.setCell 1 (.slice a8 (n + 1) c8)
 have hms := HM.out.1.snoc (c := uc) (m := uc) ⟨rfl, hus, huo⟩
 have hnn : n + 1 = (ms ++ [uc]).length := by rw [List.length_append, ← HM.out.2]; rfl
 have h10 : Sep w0 (BagG g (ms ++ [uc]) :: ([LnR lu m.en.p.ls, By cu m.ck, EnT eu qs] ++ L)) (w8.setCell ⟨g, 1, none⟩ (.slice a8 (n + 1) c8)) := Sep.gbagClose hms (by rw [← hnn]; exact h9)
 have H9 : Hid (∃ lu cu eu qs, qs.map (·.1) = m.ps.map (·.1) ∧ Sep w0 (BagG g (ms ++ [mgC { m with lv := lu, cv := cu, ev := eu, ps := qs }]) :: LnR lu m.en.p.ls :: By cu m.ck :: EnT eu qs :: L) (w8.setCell ⟨g, 1, none⟩ (.slice a8 (n + 1) c8))) := Lib.hid ⟨lu, cu, eu, qs, hqs, by rw [← huc]; exact h10⟩
 have HR := Lib.hid hr
 have HUS := Lib.hid hus
 clear h6 h6a h6b h7 h8 h9 h10 hr hqs hus huo huc hms hnn HCP HM H3
 (try dsimp only); repeat' (first | go_values | go_skip | go_guarded | go_step | go_upon | go_back)
 refine hK.out _ _ (fun _ => ?hS7gp) ?rest7gp
 case hS7gp => exact k1
 clear K hK
 try simp only [nz0, nz1, nz2, Act.put, nz3, nz4, nz5]
 refine wpAnyG_one (i := 7) (by kernel_rfl) rfl (fun K hK => ?_)
 refine step_buildM (by rfl) _ (by rfl) HUS.out (by rfl) ?_
 refine hK.out _ _ (fun _ => ?hS8gp) ?rest8gp
 case hS8gp => exact k2
 clear K hK
 try simp only [nz0, nz1, nz2, Act.put, nz3, nz4, nz5]
 refine wpAnyG_one (i := 8) (by kernel_rfl) rfl (fun K hK => ?_)
 refine step_append_run (by rfl) (.tmp 23) (.tmp 26) 44 44 (by rfl) _ _ (by rfl) (by rfl) HR.out ?_
 refine hK.out _ _ (fun _ => ?hS9gp) ?rest9gp
 case hS9gp => exact k3
 clear K hK
 try simp only [nz0, nz1, nz2, Act.put, nz3, nz4, nz5]
 refine wpAnyG_tk (i := 9) (v := ?v9_10gp) rfl (Or.inl ⟨by rfl, ?a_⟩) k3 ?b_
 case a_ => intro w hSw; (try dsimp only at hSw); go_simp; (try with_reducible rfl)
 case b_ =>
 try simp only [nz0, nz1, nz2, Act.put, nz3, nz4, nz5]
 refine wpAnyG_tk (i := 10) (v := ?v10_11gp) rfl (Or.inl ⟨by rfl, ?a_⟩) k3 ?b_
 case a_ => intro w hSw; (try dsimp only at hSw); go_simp; (try with_reducible rfl)
 case b_ =>
 try simp only [nz0, nz1, nz2, Act.put, nz3, nz4, nz5]
 refine wpAnyG_one (i := 11) (by kernel_rfl) rfl (fun K hK => ?_)
 go_simp
 refine hK.out _ _ (fun hno => by cases hno) ?_
 clear K hK
 try simp only [nz0, nz1, nz2, Act.put, nz3, nz4, nz5]
 refine wpAnyG_done (by kernel_rfl) ?_ _
 try simp only [nz0, nz1, nz2, Act.put, nz3, nz4, nz5]
 clear hS
 (try dsimp only); repeat' (first | go_values | go_skip | go_guarded | go_step | go_upon | go_back)
 go_ret
 exact ⟨rfl, H9.out⟩
set_option maxRecDepth 100000 in
set_option maxHeartbeats 16000000 in
theorem gput_bad {w0 w : World} {g : Nat} {ms : List (Array Value)} {L : List Thing} (m : MgM) (h : Sep w0 (BagG g ms :: L) w) (hg : ∀ wx, Sep w0 L wx → GmS wx m) (hK : KindsAt w0 ∧ MKindsAt w0) (hl : m.ck.length ≤ 1000000000) (hx : m.ps.length ≤ 1000000) (hnl : ms.length < 2000) (hchk : chkB m = false) :
  Calls Tryz.prog 17 #[.pointer (some ⟨g, 0, none⟩), .agg (mgC m)] w fun e w' => e = .returned (.int .i64 2) ∧ Sep w0 (BagG g ms :: L) w' := by
 obtain ⟨a, c, rows, hm, h1⟩ := h.gbagOpen
 have hsz : (mgC m).size = 22 := rfl
 have h2 := h1.alloc (.cells (mgC m) 40)
 have HN := Lib.hid (bnone_any (h2.sw2.cell (o := 0) rfl))
 have HL := Lib.hid (h2.loadW 40 Tryz.underlying40 rfl (by rw [hsz]; kernel_rfl))
 have hgp := hg _ (h2.drop.drop.drop)
 have hck := gcheck_w m hgp (hK.1.below h2.low) (hK.2.below h2.low) hl hx
 rw [hchk, if_neg (by simp)] at hck
 have HCK := Lib.hid (hck.mono fun e w' hh => And.intro hh.1 (h2.below hh.2.low))
 obtain ⟨b3, hb3⟩ : ∃ z, z = w.heap.size := ⟨_, rfl⟩
 obtain ⟨w1, hw1⟩ : ∃ z, z = w.alloc (.cells (mgC m) 40) := ⟨_, rfl⟩
 rw [← hw1] at HN HL HCK
 rw [← hb3] at HL HCK
 obtain ⟨n, hn⟩ : ∃ z, z = ms.length := ⟨_, rfl⟩
 have HM := Lib.hid (And.intro hm hn)
 rw [← hn] at HCK
 have n0 : (0 : Int) ≤ (n : Int) := by omega
 have n1 : ¬ (2000 : Int) ≤ (n : Int) := by omega
 have n2 : decide ((2000 : Int) ≤ (n : Int)) = false := decide_eq_false n1
 have n3 : decide (2000 ≤ n) = false := decide_eq_false (by omega)
 have HNL := Lib.hid (show n < 2000 by omega)
 obtain ⟨mc, hmc⟩ : ∃ z, z = mgC m := ⟨_, rfl⟩
 rw [← hmc] at HL HCK hw1 hsz ⊢
 have HMC := Lib.hid (And.intro hmc hsz)
 clear h h1 h2 hgp hck hg hl hx hm hn hK hchk hmc hsz
 go_enter Tryz.func17, Tryz.ntmps17
 (try dsimp only); repeat' (first | go_values | go_skip | go_guarded | go_step | go_upon | go_back)
 rw [← hw1, ← hb3]
 clear hw1 hb3
 refine HN.out.mono ?_
 rintro r0 w2 ⟨rfl, rfl⟩
 clear HN
 (try dsimp only); repeat' (first | (with_reducible show wpList _ _ _ (Oper.mk _ (Op.load 40 _) _ _ _ _ :: _) _ _; refine stopP ?_) | go_values | go_skip | go_guarded | go_step | go_upon | go_back)
 unfold StopP
 have hq_ := HL.out
 refine wpList_load_run rfl 40 _ rfl _ _ rfl hq_ ?_
 clear hq_
 (try dsimp only); repeat' (first | go_values | go_skip | go_guarded | go_step | go_upon | go_back)
 refine HCK.out.mono ?_
 rintro r0 w2 ⟨rfl, h3⟩
 have HF := Lib.hid (Sep.gbagClose (ms := ms) HM.out.1 (by rw [← HM.out.2]; exact h3.drop))
 clear HCK h3
 (try dsimp only); repeat' (first | go_values | go_skip | go_guarded | go_step | go_upon | go_back)
 go_ret
 exact ⟨rfl, HF.out⟩
set_option maxRecDepth 100000 in
set_option maxHeartbeats 8000000 in
theorem gat_any {w0 w : World} {g : Nat} {ms : List (Array Value)} {L : List Thing} (i : Nat) (m : MgM) (h : Sep w0 (BagG g ms :: L) w) (hi : i < ms.length) (hmi : ms[i] = mgC m) (hg : ∀ wx, Sep w0 L wx → GmS wx m) (hl : m.ck.length ≤ 1000000000) (hx : m.ps.length ≤ 1000000) (hls : (∀ x ∈ m.ps, x.1.p.ls.length ≤ 1000) ∧ m.en.p.ls.length ≤ 1000) :
  Calls Tryz.prog 16 #[.pointer (some ⟨g, 0, none⟩), .int .i64 i] w fun e w' => ∃ lu cu eu qs, e = .returned (.tuple #[.agg (mgC { m with lv := lu, cv := cu, ev := eu, ps := qs }), .int .i64 0]) ∧ qs.map (·.1) = m.ps.map (·.1) ∧ Sep w0 (BagG g ms :: LnR lu m.en.p.ls :: By cu m.ck :: EnT eu qs :: L) w' := by
 have h0 := h.alloc (.cells #[.int .i64 0, .int .i64 0, .int .i64 0, .int .i64 0, .int .i64 0, .int .i64 0, .int .i64 0, .int .i64 0, .int .i64 0, .int .i64 0, .string ⟨#[]⟩, .int .i64 0, .int .i64 0, .slice none 0 0, .int .i64 0, .int .i64 0, .int .i64 0, .bool false, .int .i64 0, .slice none 0 0, .slice none 0 0, .int .i64 0] 40)
 have HC := Lib.hid (gbchk_ok i h0.sw2 hi)
 obtain ⟨a, c, rows, hm, h1⟩ := h0.sw2.gbagOpen
 obtain ⟨hi', hmi'⟩ := hm.at i hi
 obtain ⟨b, off, rfl, -, hld, -⟩ := h1.sw2.roMsgG hm i hi' hm.1
 have c1 := h1.cell (o := 1) rfl
 have hcp := gcopy_w m (hg _ h0.drop.drop) hl (by omega) hls.1 hls.2
 have HP := Lib.hid hcp
 rw [hmi'.1, hmi] at hld
 have HL := Lib.hid hld
 have i0 : (0 : Int) ≤ (i : Int) := by omega
 have i1 : (i : Int) < ((ms.length : Nat) : Int) := by omega
 obtain ⟨n, hn⟩ : ∃ z, z = ms.length := ⟨_, rfl⟩
 rw [← hn] at c1 i1
 obtain ⟨b4, hb4⟩ : ∃ z, z = w.heap.size := ⟨_, rfl⟩
 obtain ⟨w1, hw1⟩ : ∃ z, z = w.alloc (.cells #[.int .i64 0, .int .i64 0, .int .i64 0, .int .i64 0, .int .i64 0, .int .i64 0, .int .i64 0, .int .i64 0, .int .i64 0, .int .i64 0, .string ⟨#[]⟩, .int .i64 0, .int .i64 0, .slice none 0 0, .int .i64 0, .int .i64 0, .int .i64 0, .bool false, .int .i64 0, .slice none 0 0, .slice none 0 0, .int .i64 0] 40) := ⟨_, rfl⟩
 rw [← hw1, ← hb4] at h0
 rw [← hw1] at HC HL HP c1
 have H0 := Lib.hid h0
 obtain ⟨mc, hmc⟩ : ∃ z, z = mgC m := ⟨_, rfl⟩
 rw [← hmc] at HL
 have HMC := Lib.hid hmc
 clear h h0 h1 hm hmi hmi' hld hi hi' hn hcp hg hl hx hls hmc
 go_enter Tryz.func16, Tryz.ntmps16
 (try dsimp only); repeat' (first | go_values | go_skip | go_guarded | go_step | go_upon | go_back)
 rw [← hw1, ← hb4]
 clear hw1 hb4
 refine HC.out.mono ?_
 rintro r0 w2 ⟨rfl, rfl⟩
 clear HC
 (try dsimp only); repeat' (first | (with_reducible show wpList _ _ _ (Oper.mk _ (Op.load 40 _) _ _ _ _ :: _) _ _; refine stopP ?_) | go_values | go_skip | go_guarded | go_step | go_upon | go_back)
 unfold StopP
 have hq_ := HL.out
 refine wpList_load_run rfl 40 _ rfl _ _ rfl hq_ ?_
 clear hq_
 (try dsimp only); repeat' (first | go_values | go_skip | go_guarded | go_step | go_upon | go_back)
 rw [HMC.out]
 refine HP.out.mono ?_
 rintro r0 w2 ⟨lu, cu, eu, qs, rfl, hqs, h6⟩
 have h2 := H0.out.ontoL h6
 obtain ⟨a61, c61, e61, -⟩ := h2.rnForm
 obtain ⟨a62, c62, e62⟩ := bv_form h2.sw2.sl
 obtain ⟨a63, c63, e63, -⟩ := h2.sw3.enForm
 obtain ⟨u, hu⟩ : ∃ z, z = mgC { m with lv := lu, cv := cu, ev := eu, ps := qs } := ⟨_, rfl⟩
 have hus : u.size = 22 := by rw [hu]; rfl
 have huo : u.all (·.oneCell') = true := by rw [hu]; exact mgC_one { m with lv := lu, cv := cu, ev := eu, ps := qs } (by rw [e61]; rfl) (by rw [e62]; rfl) (by rw [e63]; rfl)
 rw [← hu]
 have h2' : Sep w0 (Cl b4 #[.int .i64 0, .int .i64 0, .int .i64 0, .int .i64 0, .int .i64 0, .int .i64 0, .int .i64 0, .int .i64 0, .int .i64 0, .int .i64 0, .string ⟨#[]⟩, .int .i64 0, .int .i64 0, .slice none 0 0, .int .i64 0, .int .i64 0, .int .i64 0, .bool false, .int .i64 0, .slice none 0 0, .slice none 0 0, .int .i64 0] 40 :: BagG g ms :: ([LnR lu m.en.p.ls, By cu m.ck, EnT eu qs] ++ L)) w2 := h2.perm (List.perm_append_comm (l₁ := [LnR lu m.en.p.ls, By cu m.ck, EnT eu qs]) (l₂ := [Cl b4 #[.int .i64 0, .int .i64 0, .int .i64 0, .int .i64 0, .int .i64 0, .int .i64 0, .int .i64 0, .int .i64 0, .int .i64 0, .int .i64 0, .string ⟨#[]⟩, .int .i64 0, .int .i64 0, .slice none 0 0, .int .i64 0, .int .i64 0, .int .i64 0, .bool false, .int .i64 0, .slice none 0 0, .slice none 0 0, .int .i64 0] 40, BagG g ms]) |>.append_right L)
 have HT := Lib.hid (h2'.thereAt 0 22 (by simp))
 have h3 := h2'.storeW u (by rw [hus]; rfl)
 have HV := Lib.hid (h3.loadV 40 Tryz.underlying40 rfl (by rw [hus]; kernel_rfl))
 have H3 := Lib.hid h3.drop
 have HU := Lib.hid (And.intro hu hqs)
 have HI : Hid ((Tryz.prog.info? 40).map (·.size) = some u.size) := Lib.hid (by rw [hus]; kernel_rfl)
 have HO : Hid (u.all (·.oneCell') = true) := Lib.hid huo
 have HTH : Hid (w2.there b4 0 u.size) := Lib.hid (by rw [hus]; exact HT.out)
 clear HP h2 h2' h3 hu hus huo HT h6 hqs e61 e62 e63 H0 HMC
 (try dsimp only); repeat' (first | (with_reducible show wpList _ _ _ (Oper.mk _ (Op.store 40 _ _) _ _ _ _ :: _) _ _; refine stopP ?_) | go_values | go_skip | go_guarded | go_step | go_upon | go_back)
 unfold StopP
 refine wpList_store_mid rfl 40 (.tmp 4) (.tmp 21) rfl b4 0 u rfl rfl HTH.out HI.out HO.out ?_
 (try dsimp only); repeat' (first | go_values | go_skip | go_guarded | go_step | go_upon | go_back)
 exact bodyPost_ret (results_cell2 rfl rfl HV.out rfl) rfl ⟨lu, cu, eu, qs, by rw [← HU.out.1]; rfl, HU.out.2, H3.out⟩
end Go.Proofs.YtcnbmeiielkigaaGreatDoor
