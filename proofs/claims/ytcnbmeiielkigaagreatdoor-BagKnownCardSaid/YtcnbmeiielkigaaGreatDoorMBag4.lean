/- Package bag: pass, Copy, At, Take, Drop. -/
import Derived.Test.YtcnbmeiielkigaaGreatDoorMZ06
namespace Go.Proofs.YtcnbmeiielkigaaGreatDoor
open Go Go.RowKit
set_option linter.unusedVariables false
set_option linter.unusedSimpArgs false
theorem results_cell2 {P : Program} {fn : Func} {t u : Tmp} {ty : TypeId} (h : fn.results = #[.cell t ty, .tmp u]) {tmps : Array Value} {w : World} {ad : Addr} {v x : Value} (ht : tmps.getD t undef = .pointer (some ad)) (hl : (loadVar ty ad).run P w = .ok v w) (hu : tmps.getD u undef = x) : (results fn tmps).run P w = .ok (.tuple #[v, x]) w := by
 rw [Array.getD_eq_getD_getElem?] at ht hu
 simp [results, h, ht, hu, asAddr, hl]
/-- One of a row of messages, read. -/
theorem Sep.roMsg {w0 w : World} {a : Option Addr} {n c : Nat} {rows : List (Array Value)} {ms : List MsM} {L : List Thing} (h : Sep w0 (Ro 22 40 (.slice a n c) n (msCs rows) :: L) w) (hm : MsgsC rows ms) (i : Nat) (hi : i < rows.length) (hn : rows.length = n) :
  ∃ b off, a = some ⟨b, off, none⟩ ∧ b < w.heap.size ∧ (Instr.loadAt 40 (.pointer (some ⟨b, off + i * 22, none⟩))).run Tryz.prog w = .ok (.agg rows[i]) w ∧ w.rangeAt b (off + i * 22) (rows[i]).toList := by
 obtain ⟨a', c', hv, hnc, -, hl, hcell⟩ := h.roForm
 simp only [Value.slice.injEq] at hv
 obtain ⟨rfl, -, rfl⟩ := hv
 obtain ⟨b, off, rfl, hb, hc⟩ := hcell (by omega)
 have h22 := hm.r22
 have hsz : (rows[i]).size = 22 := h22 _ (List.getElem_mem hi)
 have hr : w.rangeAt b (off + i * 22) (rows[i]).toList := fun j v hj => by
  have hj2 : j < 22 := by
   obtain ⟨h1, -⟩ := List.getElem?_eq_some_iff.1 hj
   simpa [hsz] using h1
  have h3 := msCs_at h22 i hi j hj2
  rw [← Array.getElem?_toList, hj] at h3
  obtain ⟨h4, h5⟩ := List.getElem?_eq_some_iff.1 h3
  rw [Nat.add_assoc, hc _ h4, h5]
 refine ⟨b, off, rfl, hb, ?_, hr⟩
 have h1 := run_loadAt_mid (P := Tryz.prog) w b (off + i * 22) 40 (rows[i]).toList _ hr Tryz.underlying40 rfl (by rw [Array.length_toList, hsz]; kernel_rfl)
 simpa using h1
theorem MsgsC.at {rows : List (Array Value)} {ms : List MsM} (h : MsgsC rows ms) (i : Nat) (hi : i < ms.length) : ∃ hi' : i < rows.length, MsgC (rows[i]'hi') (ms[i]'hi) := ⟨by rw [h.1]; exact hi, h.2 i _ _⟩
variable {w0 w : World} {g : Nat} {ms : List MsM} {L : List Thing}
set_option maxRecDepth 100000 in
set_option maxHeartbeats 4000000 in
theorem bpass_any (i : Nat) (h : Sep w0 (BagT g ms :: L) w) (hi : i < ms.length) (hk : ChkOk w0 ms[i]) (hl : ms.length < 2000) :
  Calls Tryz.prog 40 #[.pointer (some ⟨g, 0, none⟩), .int .i64 i, .func (.func 17) #[.pointer (some ⟨g, 0, none⟩)] #[]] w fun e w' => e = .returned (.int .i64 0) ∧ Sep w0 (BagT g (ms ++ [ms[i]]) :: L) w' := by
 have HC := Lib.hid (bchk_ok i h hi)
 obtain ⟨a, c, rows, hm, h1⟩ := h.bagOpen
 obtain ⟨hi', hmi⟩ := hm.at i hi
 obtain ⟨b, off, rfl, -, hld, -⟩ := h1.sw2.roMsg hm i hi' hm.1
 have c1 := h1.cell (o := 1) rfl
 have HP := Lib.hid (bput_any ms[i] h hmi hk hl)
 have HL := Lib.hid hld
 obtain ⟨m, hmm⟩ : ∃ z, z = ms[i] := ⟨_, rfl⟩
 rw [← hmm] at HP ⊢
 have i0 : (0 : Int) ≤ (i : Int) := by omega
 have i1 : (i : Int) < ((ms.length : Nat) : Int) := by omega
 generalize rows[i] = cm at *
 obtain ⟨n, hn⟩ : ∃ z, z = ms.length := ⟨_, rfl⟩
 rw [← hn] at c1 i1
 clear h h1 hm hmi hld hk hl hi hi' hmm hn
 go_enter Tryz.func40, Tryz.ntmps40
 (try dsimp only); repeat' (first | go_values | go_skip | go_guarded | go_step | go_upon | go_back)
 refine HC.out.mono ?_
 rintro r0 w1 ⟨rfl, rfl⟩
 clear HC
 (try dsimp only); repeat' (first | (with_reducible show wpList _ _ _ (Oper.mk _ (Op.load 40 _) _ _ _ _ :: _) _ _; refine stopP ?_) | go_values | go_skip | go_guarded | go_step | go_upon | go_back)
 unfold StopP
 have hq_ := HL.out
 refine wpList_load_run rfl 40 _ rfl _ _ rfl hq_ ?_
 clear hq_
 (try dsimp only); repeat' (first | go_values | go_skip | go_guarded | go_step | go_upon | go_back)
 refine HP.out.mono ?_
 rintro r0 w2 ⟨rfl, h2⟩
 have H2 := Lib.hid h2
 clear HP h2
 (try dsimp only); repeat' (first | go_values | go_skip | go_guarded | go_step | go_upon | go_back)
 go_ret
 exact ⟨rfl, H2.out⟩
theorem bcopy_any (i : Nat) (h : Sep w0 (BagT g ms :: L) w) (hi : i < ms.length) (hk : ChkOk w0 ms[i]) (hl : ms.length < 2000) :
  Calls Tryz.prog 19 #[.pointer (some ⟨g, 0, none⟩), .int .i64 i] w fun e w' => e = .returned (.int .i64 0) ∧ Sep w0 (BagT g (ms ++ [ms[i]]) :: L) w' := by
 have HP := Lib.hid (bpass_any i h hi hk hl)
 generalize ms[i] = m at *
 clear h hi hk hl
 go_enter Tryz.func19, Tryz.ntmps19
 (try dsimp only); repeat' (first | go_values | go_skip | go_guarded | go_step | go_upon | go_back)
 refine HP.out.mono ?_
 rintro r0 w2 ⟨rfl, h2⟩
 have H2 := Lib.hid h2
 clear HP h2
 (try dsimp only); repeat' (first | go_values | go_skip | go_guarded | go_step | go_upon | go_back)
 go_ret
 exact ⟨rfl, H2.out⟩
/-- One element less. -/
theorem msCs_erase {rows : List (Array Value)} (h : Rows22 rows) (i : Nat) (hi : i < rows.length) (j : Nat) (hj : j < (rows.length - 1) * 22) : (msCs (rows.eraseIdx i))[j]? = if j < i * 22 then (msCs rows)[j]? else (msCs rows)[j + 22]? := by
 have e1 : rows = rows.take i ++ rows[i] :: rows.drop (i + 1) := by rw [← List.drop_eq_getElem_cons hi, List.take_append_drop]
 have e2 : rows.eraseIdx i = rows.take i ++ rows.drop (i + 1) := List.eraseIdx_eq_take_drop_succ rows i
 have h1 : Rows22 (rows.take i) := fun c hc => h c (List.mem_of_mem_take hc)
 have l1 : (msCs (rows.take i)).length = i * 22 := by rw [msCs_len h1, List.length_take, Nat.min_eq_left (by omega)]
 have l2 : (msCs [rows[i]]).length = 22 := by rw [msCs_len (fun c hc => by rw [List.mem_singleton.1 hc]; exact h _ (List.getElem_mem hi))]; rfl
 have e3 : msCs rows = msCs (rows.take i) ++ (msCs [rows[i]] ++ msCs (rows.drop (i + 1))) := by
  conv => lhs; rw [e1]
  rw [msCs_app, show rows[i] :: rows.drop (i + 1) = [rows[i]] ++ rows.drop (i + 1) from rfl, msCs_app]
 rw [e2, msCs_app, e3]
 by_cases hji : j < i * 22
 ·rw [if_pos hji, List.getElem?_append_left (by omega), List.getElem?_append_left (by omega)]
 ·rw [if_neg hji, List.getElem?_append_right (by omega), List.getElem?_append_right (by omega), List.getElem?_append_right (by omega), l1, l2]
  congr 1
  omega
theorem MsgsC.erase {rows : List (Array Value)} {ms : List MsM} (h : MsgsC rows ms) (i : Nat) (hi : i < ms.length) : MsgsC (rows.eraseIdx i) (ms.eraseIdx i) := by
 refine ⟨by rw [List.length_eraseIdx, List.length_eraseIdx, h.1], fun k h1 h2 => ?_⟩
 rw [List.getElem_eraseIdx, List.getElem_eraseIdx]
 by_cases hk : k < i
 ·rw [dif_pos hk, dif_pos hk]; exact h.2 _ _ _
 ·rw [dif_neg hk, dif_neg hk]; exact h.2 _ _ _
theorem erase_len {rows : List (Array Value)} {ms : List MsM} (h : MsgsC rows ms) (i : Nat) (hi : i < ms.length) : (msCs (rows.eraseIdx i)).length = (ms.eraseIdx i).length * 22 := by
 rw [msCs_len (h.erase i hi).r22, (h.erase i hi).1]
set_option maxRecDepth 100000 in
set_option maxHeartbeats 16000000 in
theorem btakeN_any (i : Nat) (h : Sep w0 (BagT g ms :: L) w) (hi : i < ms.length) (hmx : ms.length ≤ 100000) (hi0 : 0 < i) :
  Calls Tryz.prog 15 #[.pointer (some ⟨g, 0, none⟩), .int .i64 i] w fun e w' => ∃ u, MsgC u ms[i] ∧ e = .returned (.tuple #[.agg u, .int .i64 0]) ∧ Sep w0 (BagT g (ms.eraseIdx i) :: L) w' := by
 have h0 := h.alloc (.cells #[.int .i64 0, .int .i64 0, .int .i64 0, .int .i64 0, .int .i64 0, .int .i64 0, .int .i64 0, .int .i64 0, .int .i64 0, .int .i64 0, .string ⟨#[]⟩, .int .i64 0, .int .i64 0, .slice none 0 0, .int .i64 0, .int .i64 0, .int .i64 0, .bool false, .int .i64 0, .slice none 0 0, .slice none 0 0, .int .i64 0] 40)
 have HC := Lib.hid (bchk_ok i h0.sw2 hi)
 obtain ⟨a, c, rows, hm, h1⟩ := h0.sw2.bagOpen
 obtain ⟨hi', hmi⟩ := hm.at i hi
 obtain ⟨b, off, rfl, -, hld, -⟩ := h1.sw2.roMsg hm i hi' hm.1
 have c1 := h1.cell (o := 1) rfl
 have HL := Lib.hid hld
 obtain ⟨m, hmm⟩ : ∃ z, z = ms[i] := ⟨_, rfl⟩
 rw [← hmm] at hmi ⊢
 have i0 : (0 : Int) ≤ (i : Int) := by omega
 have i1 : (i : Int) < ((ms.length : Nat) : Int) := by omega
 generalize rows[i] = cm at *
 obtain ⟨n, hn⟩ : ∃ z, z = ms.length := ⟨_, rfl⟩
 rw [← hn] at c1 i1 h1
 have hmn := hm.1
 rw [← hn] at hmn
 obtain ⟨b4, hb4⟩ : ∃ z, z = w.heap.size := ⟨_, rfl⟩
 obtain ⟨w1, hw1⟩ : ∃ z, z = w.alloc (.cells #[.int .i64 0, .int .i64 0, .int .i64 0, .int .i64 0, .int .i64 0, .int .i64 0, .int .i64 0, .int .i64 0, .int .i64 0, .int .i64 0, .string ⟨#[]⟩, .int .i64 0, .int .i64 0, .slice none 0 0, .int .i64 0, .int .i64 0, .int .i64 0, .bool false, .int .i64 0, .slice none 0 0, .slice none 0 0, .int .i64 0] 40) := ⟨_, rfl⟩
 rw [← hw1] at HC HL c1 h1
 rw [← hb4] at h1
 have h2 : Sep w0 (Cl b4 #[.int .i64 0, .int .i64 0, .int .i64 0, .int .i64 0, .int .i64 0, .int .i64 0, .int .i64 0, .int .i64 0, .int .i64 0, .int .i64 0, .string ⟨#[]⟩, .int .i64 0, .int .i64 0, .slice none 0 0, .int .i64 0, .int .i64 0, .int .i64 0, .bool false, .int .i64 0, .slice none 0 0, .slice none 0 0, .int .i64 0] 40 :: Cl g #[.bool true, .slice (some ⟨b, off, none⟩) n c] 60 :: Ro 22 40 (.slice (some ⟨b, off, none⟩) n c) n (msCs rows) :: L) w1 := h1.pickL (M := [_, _, _]) [2, 0, 1] rfl
 have HT := Lib.hid (h2.thereAt 0 22 (by simp))
 have h3 := h2.storeW cm (by rw [hmi.size]; rfl)
 have HI : Hid ((Tryz.prog.info? 40).map (·.size) = some cm.size) := Lib.hid (by rw [hmi.size]; kernel_rfl)
 have HO : Hid (cm.all (·.oneCell') = true) := Lib.hid (by have := all_oneCell_toArray hmi.one; simpa using this)
 have HTH : Hid (w1.there b4 0 cm.size) := Lib.hid (by rw [hmi.size]; exact HT.out)
 obtain ⟨w2, hw2⟩ : ∃ z, z = w1.setCells b4 0 cm.toList := ⟨_, rfl⟩
 rw [← hw2] at h3
 have k1 := h3.sw2.cell (o := 1) rfl
 have kf := h3.sw2.frozen 1
 have hers := hm.erase i hi
 have herl := erase_len hm i hi
 have herc := fun j hj => msCs_erase hm.r22 i hi' j hj
 have hel : (ms.eraseIdx i).length = n - 1 := by rw [List.length_eraseIdx, if_pos hi, hn]
 rw [hel] at herl
 rw [hmn] at herc
 have hxl := h3.sw3.roLen
 have hin : i < n := by omega
 have hcm : ∀ u ∈ msCs rows, u.oneCell' = true := fun u hu => by
  obtain ⟨cc, hcc, hu2⟩ := List.mem_flatMap.1 hu
  obtain ⟨k, hk, rfl⟩ := List.getElem_of_mem hcc
  exact (hm.2 k hk (by rw [← hm.1]; exact hk)).one u hu2
 have HMI := Lib.hid hmi
 rcases h3.sw3.roOpen with ⟨a9, e9, -, -⟩ | ⟨g9, o9, c9, cur, e9, hnc, hc0, hcmx, hsz, hcur, h4⟩
 ·simp only [Value.slice.injEq] at e9; omega
 simp only [Value.slice.injEq, Option.some.injEq, Addr.mk.injEq, and_true, true_and] at e9
 obtain ⟨⟨rfl, rfl⟩, rfl⟩ := e9
 obtain ⟨p, hp⟩ : ∃ p, p + 1 = n := ⟨n - 1, by omega⟩
 obtain ⟨k, hk⟩ : ∃ k, i + 1 = k := ⟨_, rfl⟩
 have hkI : (i : Int) + 1 = (k : Int) := by omega
 have k0 : (0 : Int) ≤ (k : Int) := by omega
 have k9 : (k : Int) ≤ 100001 := by omega
 have i01 : ((i : Int) == 0) = false := beq_eq_false_iff_ne.2 (by omega)
 have HD := Lib.hid (del_any (i := i) h4 hp (by omega) hk hnc hcmx hsz (fun j hj u hu => by
  rw [hcur j hj] at hu
  exact hcm u (List.mem_of_getElem? hu)))
 have HCL : Hid (∀ (cur' : Array Value) (wx : World), Taken cur cur' off n i → Sep w0 (Cl b cur' 40 :: Cl b4 cm 40 :: Cl g #[.bool true, .slice (some ⟨b, off, none⟩) n c] 60 :: L) wx → Sep w0 (Cl b4 cm 40 :: BagT g (ms.eraseIdx i) :: L) (wx.setCell ⟨g, 1, none⟩ (.slice (some ⟨b, off, none⟩) p c))) := Lib.hid fun cur' wx ht hx => by
  have h5 : Sep w0 (Cl g #[.bool true, .slice (some ⟨b, off, none⟩) p c] 60 :: Cl b cur' 40 :: Cl b4 cm 40 :: L) (wx.setCell ⟨g, 1, none⟩ (.slice (some ⟨b, off, none⟩) p c)) := (hx.sw3).setCell 1 (.slice (some ⟨b, off, none⟩) p c)
  have h6 := h5.pickL (M := [_, _, _]) [1, 0, 2] rfl
  have h7 := h6.roClose (xs := msCs (rows.eraseIdx i)) (n := p) (off := off) (c := c) (by rw [herl]; congr 1; omega) (by omega) hc0 hcmx (by rw [ht.1]; exact hsz) (fun j hj => by
   rw [ht.2 j (by rw [show n - 1 = p by omega]; exact hj), herc j (by rw [show n - 1 = p by omega]; exact hj)]
   have hnp : n * 22 = p * 22 + 22 := by omega
   by_cases hji : j < i * 22
   ·rw [if_pos hji, if_pos hji]; exact hcur j (by omega)
   ·rw [if_neg hji, if_neg hji, Nat.add_assoc]; exact hcur (j + 22) (by omega))
  have hpl : p = (ms.eraseIdx i).length := by rw [hel]; omega
  have h8 : Sep w0 (BagT g (ms.eraseIdx i) :: Cl b4 cm 40 :: L) _ := Sep.bagClose hers (by rw [← hpl]; exact h7.sw2)
  exact h8.sw2
 clear h h0 h1 h2 h3 hm hmx hmi hld hi hi' hmm HT hers herl herc hel hxl hmn hcm hcur h4 hk hp hc0 hcmx hsz hnc hi0 hin hn
 go_enter Tryz.func15, Tryz.ntmps15
 (try dsimp only); repeat' (first | go_values | go_skip | go_guarded | go_step | go_upon | go_back)
 rw [← hw1, ← hb4]
 clear hw1 hb4
 refine HC.out.mono ?_
 rintro r0 wz ⟨rfl, rfl⟩
 clear HC
 (try dsimp only); repeat' (first | (with_reducible show wpList _ _ _ (Oper.mk _ (Op.load 40 _) _ _ _ _ :: _) _ _; refine stopP ?_) | go_values | go_skip | go_guarded | go_step | go_upon | go_back)
 unfold StopP
 have hq_ := HL.out
 refine wpList_load_run rfl 40 _ rfl _ _ rfl hq_ ?_
 clear hq_
 (try dsimp only); repeat' (first | (with_reducible show wpList _ _ _ (Oper.mk _ (Op.store 40 _ _) _ _ _ _ :: _) _ _; refine stopP ?_) | go_values | go_skip | go_guarded | go_step | go_upon | go_back)
 unfold StopP
 refine wpList_store_mid rfl 40 (.tmp 4) (.tmp 20) rfl b4 0 cm rfl rfl HTH.out HI.out HO.out ?_
 rw [← hw2]
 clear hw2 HTH c1
 (try dsimp only); repeat' (first | go_values | go_skip | go_guarded | go_step | go_upon | go_back)
 refine HD.out.mono ?_
 rintro r0 w5 ⟨rfl, cur', htk, h5⟩
 clear HD k1 kf
 have h5 : Sep w0 (Cl b cur' 40 :: Cl b4 cm 40 :: Cl g #[.bool true, .slice (some ⟨b, off, none⟩) n c] 60 :: L) w5 := h5
 have g1 := h5.sw3.cell (o := 1) rfl
 have gf := h5.sw3.frozen 1
 have hz := HCL.out _ _ htk h5
 have HLF := Lib.hid (hz.loadW 40 Tryz.underlying40 rfl (by rw [HMI.out.size]; kernel_rfl))
 have HTF := Lib.hid (show World.there _ b4 0 cm.size from hz.thereAt 0 cm.size (by omega))
 have hz2 := hz.storeW cm rfl
 have HVF := Lib.hid (hz2.loadV 40 Tryz.underlying40 rfl (by rw [HMI.out.size]; kernel_rfl))
 have HF := Lib.hid hz2.drop
 clear h5 hz hz2 HCL htk
 (try dsimp only); repeat' (first | (with_reducible show wpList _ _ _ (Oper.mk _ (Op.load 40 _) _ _ _ _ :: _) _ _; refine stopP ?_) | go_values | go_skip | go_guarded | go_step | go_upon | go_back)
 unfold StopP
 have hq_ := HLF.out
 refine wpList_load_run rfl 40 _ rfl _ _ rfl hq_ ?_
 clear hq_
 (try dsimp only); repeat' (first | (with_reducible show wpList _ _ _ (Oper.mk _ (Op.store 40 _ _) _ _ _ _ :: _) _ _; refine stopP ?_) | go_values | go_skip | go_guarded | go_step | go_upon | go_back)
 unfold StopP
 refine wpList_store_mid rfl 40 (.tmp 4) (.tmp 48) rfl b4 0 cm rfl rfl HTF.out HI.out HO.out ?_
 (try dsimp only); repeat' (first | go_values | go_skip | go_guarded | go_step | go_upon | go_back)
 exact bodyPost_ret (results_cell2 rfl rfl HVF.out rfl) rfl ⟨cm, HMI.out, rfl, HF.out⟩
set_option maxRecDepth 100000 in
set_option maxHeartbeats 16000000 in
theorem btake0_any (i : Nat) (h : Sep w0 (BagT g ms :: L) w) (hi : i < ms.length) (hmx : ms.length ≤ 100000) (hi0 : i = 0) :
  Calls Tryz.prog 15 #[.pointer (some ⟨g, 0, none⟩), .int .i64 i] w fun e w' => ∃ u, MsgC u ms[i] ∧ e = .returned (.tuple #[.agg u, .int .i64 0]) ∧ Sep w0 (BagT g (ms.eraseIdx i) :: L) w' := by
 have h0 := h.alloc (.cells #[.int .i64 0, .int .i64 0, .int .i64 0, .int .i64 0, .int .i64 0, .int .i64 0, .int .i64 0, .int .i64 0, .int .i64 0, .int .i64 0, .string ⟨#[]⟩, .int .i64 0, .int .i64 0, .slice none 0 0, .int .i64 0, .int .i64 0, .int .i64 0, .bool false, .int .i64 0, .slice none 0 0, .slice none 0 0, .int .i64 0] 40)
 have HC := Lib.hid (bchk_ok i h0.sw2 hi)
 obtain ⟨a, c, rows, hm, h1⟩ := h0.sw2.bagOpen
 obtain ⟨hi', hmi⟩ := hm.at i hi
 obtain ⟨b, off, rfl, -, hld, -⟩ := h1.sw2.roMsg hm i hi' hm.1
 have c1 := h1.cell (o := 1) rfl
 have HL := Lib.hid hld
 obtain ⟨m, hmm⟩ : ∃ z, z = ms[i] := ⟨_, rfl⟩
 rw [← hmm] at hmi ⊢
 have i0 : (0 : Int) ≤ (i : Int) := by omega
 have i1 : (i : Int) < ((ms.length : Nat) : Int) := by omega
 generalize rows[i] = cm at *
 obtain ⟨n, hn⟩ : ∃ z, z = ms.length := ⟨_, rfl⟩
 rw [← hn] at c1 i1 h1
 have hmn := hm.1
 rw [← hn] at hmn
 obtain ⟨b4, hb4⟩ : ∃ z, z = w.heap.size := ⟨_, rfl⟩
 obtain ⟨w1, hw1⟩ : ∃ z, z = w.alloc (.cells #[.int .i64 0, .int .i64 0, .int .i64 0, .int .i64 0, .int .i64 0, .int .i64 0, .int .i64 0, .int .i64 0, .int .i64 0, .int .i64 0, .string ⟨#[]⟩, .int .i64 0, .int .i64 0, .slice none 0 0, .int .i64 0, .int .i64 0, .int .i64 0, .bool false, .int .i64 0, .slice none 0 0, .slice none 0 0, .int .i64 0] 40) := ⟨_, rfl⟩
 rw [← hw1] at HC HL c1 h1
 rw [← hb4] at h1
 have h2 : Sep w0 (Cl b4 #[.int .i64 0, .int .i64 0, .int .i64 0, .int .i64 0, .int .i64 0, .int .i64 0, .int .i64 0, .int .i64 0, .int .i64 0, .int .i64 0, .string ⟨#[]⟩, .int .i64 0, .int .i64 0, .slice none 0 0, .int .i64 0, .int .i64 0, .int .i64 0, .bool false, .int .i64 0, .slice none 0 0, .slice none 0 0, .int .i64 0] 40 :: Cl g #[.bool true, .slice (some ⟨b, off, none⟩) n c] 60 :: Ro 22 40 (.slice (some ⟨b, off, none⟩) n c) n (msCs rows) :: L) w1 := h1.pickL (M := [_, _, _]) [2, 0, 1] rfl
 have HT := Lib.hid (h2.thereAt 0 22 (by simp))
 have h3 := h2.storeW cm (by rw [hmi.size]; rfl)
 have HI : Hid ((Tryz.prog.info? 40).map (·.size) = some cm.size) := Lib.hid (by rw [hmi.size]; kernel_rfl)
 have HO : Hid (cm.all (·.oneCell') = true) := Lib.hid (by have := all_oneCell_toArray hmi.one; simpa using this)
 have HTH : Hid (w1.there b4 0 cm.size) := Lib.hid (by rw [hmi.size]; exact HT.out)
 obtain ⟨w2, hw2⟩ : ∃ z, z = w1.setCells b4 0 cm.toList := ⟨_, rfl⟩
 rw [← hw2] at h3
 have k1 := h3.sw2.cell (o := 1) rfl
 have kf := h3.sw2.frozen 1
 have hers := hm.erase i hi
 have herl := erase_len hm i hi
 have herc := fun j hj => msCs_erase hm.r22 i hi' j hj
 have hel : (ms.eraseIdx i).length = n - 1 := by rw [List.length_eraseIdx, if_pos hi, hn]
 rw [hel] at herl
 rw [hmn] at herc
 have hxl := h3.sw3.roLen
 have hin : i < n := by omega
 have hcm : ∀ u ∈ msCs rows, u.oneCell' = true := fun u hu => by
  obtain ⟨cc, hcc, hu2⟩ := List.mem_flatMap.1 hu
  obtain ⟨k, hk, rfl⟩ := List.getElem_of_mem hcc
  exact (hm.2 k hk (by rw [← hm.1]; exact hk)).one u hu2
 have HMI := Lib.hid hmi
 rcases h3.sw3.roOpen with ⟨a9, e9, -, -⟩ | ⟨g9, o9, c9, cur, e9, hnc, hc0, hcmx, hsz, hcur, h4⟩
 ·simp only [Value.slice.injEq] at e9; omega
 simp only [Value.slice.injEq, Option.some.injEq, Addr.mk.injEq, and_true, true_and] at e9
 obtain ⟨⟨rfl, rfl⟩, rfl⟩ := e9
 have i01 : ((i : Int) == 0) = true := beq_iff_eq.2 (by omega)
 obtain ⟨p, hp⟩ : ∃ p, p + 1 = n := ⟨n - 1, by omega⟩
 have n0 : (0 : Int) < (n : Int) := by omega
 have n1 : (1 : Int) ≤ (n : Int) := by omega
 have nc : (n : Int) ≤ (c : Int) := by omega
 have hc22 : 22 ≤ c * 22 := by omega
 have HTB := Lib.hid (show World.there w2 b off 22 from h4.thereAt off 22 (by omega))
 have h5 := Sep.setCells (#[.int .i64 0, .int .i64 0, .int .i64 0, .int .i64 0, .int .i64 0, .int .i64 0, .int .i64 0, .int .i64 0, .int .i64 0, .int .i64 0, .string ⟨#[]⟩, .int .i64 0, .int .i64 0, .slice none 0 0, .int .i64 0, .int .i64 0, .int .i64 0, .bool false, .int .i64 0, .slice none 0 0, .slice none 0 0, .int .i64 0]).toList cur off w2 h4
 obtain ⟨w5, hw5⟩ : ∃ z, z = w2.setCells b off (#[.int .i64 0, .int .i64 0, .int .i64 0, .int .i64 0, .int .i64 0, .int .i64 0, .int .i64 0, .int .i64 0, .int .i64 0, .int .i64 0, .string ⟨#[]⟩, .int .i64 0, .int .i64 0, .slice none 0 0, .int .i64 0, .int .i64 0, .int .i64 0, .bool false, .int .i64 0, .slice none 0 0, .slice none 0 0, .int .i64 0]).toList := ⟨_, rfl⟩
 rw [← hw5] at h5
 have h5 : Sep w0 (Cl b (writeAt cur off (#[.int .i64 0, .int .i64 0, .int .i64 0, .int .i64 0, .int .i64 0, .int .i64 0, .int .i64 0, .int .i64 0, .int .i64 0, .int .i64 0, .string ⟨#[]⟩, .int .i64 0, .int .i64 0, .slice none 0 0, .int .i64 0, .int .i64 0, .int .i64 0, .bool false, .int .i64 0, .slice none 0 0, .slice none 0 0, .int .i64 0]).toList) 40 :: Cl b4 cm 40 :: Cl g #[.bool true, .slice (some ⟨b, off, none⟩) n c] 60 :: L) w5 := h5
 have g1 := h5.sw3.cell (o := 1) rfl
 have gf := h5.sw3.frozen 1
 have hpl : p = (ms.eraseIdx i).length := by rw [hel]; omega
 have hnp : n * 22 = p * 22 + 22 := by omega
 have hcur2 : ∀ j, j < p * 22 → (writeAt cur off (#[.int .i64 0, .int .i64 0, .int .i64 0, .int .i64 0, .int .i64 0, .int .i64 0, .int .i64 0, .int .i64 0, .int .i64 0, .int .i64 0, .string ⟨#[]⟩, .int .i64 0, .int .i64 0, .slice none 0 0, .int .i64 0, .int .i64 0, .int .i64 0, .bool false, .int .i64 0, .slice none 0 0, .slice none 0 0, .int .i64 0]).toList)[off + 22 + j]? = (msCs (rows.eraseIdx i))[j]? := fun j hj => by
  rw [writeAt_get, if_neg (by simp only [Array.length_toList, List.size_toArray, List.length_cons, List.length_nil]; omega), herc j (by rw [show n - 1 = p by omega]; exact hj), if_neg (by omega), Nat.add_assoc, Nat.add_comm 22 j]
  exact hcur (j + 22) (by omega)
 clear h h0 h1 h2 h3 hm hmx hmi hld hi hi' hmm HT herc hel hxl hmn hcur h4 hi0 hc22 hcm hn hin
 go_enter Tryz.func15, Tryz.ntmps15
 (try dsimp only); repeat' (first | go_values | go_skip | go_guarded | go_step | go_upon | go_back)
 rw [← hw1, ← hb4]
 clear hw1 hb4
 refine HC.out.mono ?_
 rintro r0 wz ⟨rfl, rfl⟩
 clear HC
 (try dsimp only); repeat' (first | (with_reducible show wpList _ _ _ (Oper.mk _ (Op.load 40 _) _ _ _ _ :: _) _ _; refine stopP ?_) | go_values | go_skip | go_guarded | go_step | go_upon | go_back)
 unfold StopP
 have hq_ := HL.out
 refine wpList_load_run rfl 40 _ rfl _ _ rfl hq_ ?_
 clear hq_
 (try dsimp only); repeat' (first | (with_reducible show wpList _ _ _ (Oper.mk _ (Op.store 40 _ _) _ _ _ _ :: _) _ _; refine stopP ?_) | go_values | go_skip | go_guarded | go_step | go_upon | go_back)
 unfold StopP
 refine wpList_store_mid rfl 40 (.tmp 4) (.tmp 20) rfl b4 0 cm rfl rfl HTH.out HI.out HO.out ?_
 rw [← hw2]
 clear hw2 HTH c1
 (try dsimp only); repeat' (first | (with_reducible show wpList _ _ _ (Oper.mk _ (Op.store 40 _ _) _ _ _ _ :: _) _ _; refine stopP ?_) | go_values | go_skip | go_guarded | go_step | go_upon | go_back)
 unfold StopP
 refine wpList_store_mid rfl 40 (.tmp 28) (.tmp 27) rfl b off #[.int .i64 0, .int .i64 0, .int .i64 0, .int .i64 0, .int .i64 0, .int .i64 0, .int .i64 0, .int .i64 0, .int .i64 0, .int .i64 0, .string ⟨#[]⟩, .int .i64 0, .int .i64 0, .slice none 0 0, .int .i64 0, .int .i64 0, .int .i64 0, .bool false, .int .i64 0, .slice none 0 0, .slice none 0 0, .int .i64 0] rfl rfl HTB.out (by kernel_rfl) (by kernel_rfl) ?_
 rw [← hw5]
 clear hw5 HTB k1 kf
 have HH := Lib.hid h5
 have HE := Lib.hid (And.intro hpl (And.intro hcur2 (And.intro hers herl)))
 have HN := Lib.hid (And.intro hp (And.intro hnp (And.intro hc0 (And.intro hcmx (And.intro hsz hnc)))))
 have hn1 : n - 1 = p := by omega
 clear h5 hpl hcur2 hers herl hnp hcmx hsz
 by_cases hc1 : c = 1
 ·obtain rfl : p = 0 := by omega
  clear hp hc0
  have hz : Sep w0 (Cl b4 cm 40 :: BagT g (ms.eraseIdx i) :: L) (w5.setCell ⟨g, 1, none⟩ (.slice (some ⟨b, off, none⟩) 0 0)) := by
   have h6 : Sep w0 (Cl g #[.bool true, .slice (some ⟨b, off, none⟩) 0 0] 60 :: Cl b (writeAt cur off (#[.int .i64 0, .int .i64 0, .int .i64 0, .int .i64 0, .int .i64 0, .int .i64 0, .int .i64 0, .int .i64 0, .int .i64 0, .int .i64 0, .string ⟨#[]⟩, .int .i64 0, .int .i64 0, .slice none 0 0, .int .i64 0, .int .i64 0, .int .i64 0, .bool false, .int .i64 0, .slice none 0 0, .slice none 0 0, .int .i64 0]).toList) 40 :: Cl b4 cm 40 :: L) (w5.setCell ⟨g, 1, none⟩ (.slice (some ⟨b, off, none⟩) 0 0)) := (HH.out.sw3).setCell 1 (.slice (some ⟨b, off, none⟩) 0 0)
   have h7 : Sep w0 (Ro 22 40 (.slice (some ⟨b, off, none⟩) 0 0) 0 [] :: Cl g #[.bool true, .slice (some ⟨b, off, none⟩) 0 0] 60 :: Cl b4 cm 40 :: L) _ := (h6.pickL (M := [_, _, _]) [1, 0, 2] rfl).roNone
   have h8 : Sep w0 (BagT g (ms.eraseIdx i) :: Cl b4 cm 40 :: L) _ := Sep.bagClose HE.out.2.2.1 (by rw [← HE.out.1, show msCs (rows.eraseIdx i) = [] from List.eq_nil_of_length_eq_zero (by rw [HE.out.2.2.2]; omega)]; exact h7.sw2)
   exact h8.sw2
  have HLF := Lib.hid (hz.loadW 40 Tryz.underlying40 rfl (by rw [HMI.out.size]; kernel_rfl))
  have HTF := Lib.hid (show World.there _ b4 0 cm.size from hz.thereAt 0 cm.size (by omega))
  have hz2 := hz.storeW cm rfl
  have HVF := Lib.hid (hz2.loadV 40 Tryz.underlying40 rfl (by rw [HMI.out.size]; kernel_rfl))
  have HF := Lib.hid hz2.drop
  clear hz hz2 HH HE
  subst hc1
  (try dsimp only); repeat' (first | (with_reducible show wpList _ _ _ (Oper.mk _ (Op.load 40 _) _ _ _ _ :: _) _ _; refine stopP ?_) | go_values | go_skip | go_guarded | go_step | go_upon | go_back)
  unfold StopP
  have hq_ := HLF.out
  refine wpList_load_run rfl 40 _ rfl _ _ rfl hq_ ?_
  clear hq_
  (try dsimp only); repeat' (first | (with_reducible show wpList _ _ _ (Oper.mk _ (Op.store 40 _ _) _ _ _ _ :: _) _ _; refine stopP ?_) | go_values | go_skip | go_guarded | go_step | go_upon | go_back)
  unfold StopP
  refine wpList_store_mid rfl 40 (.tmp 4) (.tmp 48) rfl b4 0 cm rfl rfl HTF.out HI.out HO.out ?_
  (try dsimp only); repeat' (first | go_values | go_skip | go_guarded | go_step | go_upon | go_back)
  exact bodyPost_ret (results_cell2 rfl rfl HVF.out rfl) rfl ⟨cm, HMI.out, rfl, HF.out⟩
 ·have hc2 : (2 : Int) ≤ (c : Int) := by omega
  have hz : Sep w0 (Cl b4 cm 40 :: BagT g (ms.eraseIdx i) :: L) (w5.setCell ⟨g, 1, none⟩ (.slice (some ⟨b, off + 22, none⟩) p (c - 1))) := by
   have h6 : Sep w0 (Cl g #[.bool true, .slice (some ⟨b, off + 22, none⟩) p (c - 1)] 60 :: Cl b (writeAt cur off (#[.int .i64 0, .int .i64 0, .int .i64 0, .int .i64 0, .int .i64 0, .int .i64 0, .int .i64 0, .int .i64 0, .int .i64 0, .int .i64 0, .string ⟨#[]⟩, .int .i64 0, .int .i64 0, .slice none 0 0, .int .i64 0, .int .i64 0, .int .i64 0, .bool false, .int .i64 0, .slice none 0 0, .slice none 0 0, .int .i64 0]).toList) 40 :: Cl b4 cm 40 :: L) (w5.setCell ⟨g, 1, none⟩ (.slice (some ⟨b, off + 22, none⟩) p (c - 1))) := (HH.out.sw3).setCell 1 (.slice (some ⟨b, off + 22, none⟩) p (c - 1))
   have hx := HN.out
   have h7 := (h6.pickL (M := [_, _, _]) [1, 0, 2] rfl).roClose (sz := 22) (xs := msCs (rows.eraseIdx i)) (n := p) (off := off + 22) (c := c - 1) (by rw [HE.out.2.2.2]; congr 1) (by omega) (by omega) (by omega) (by rw [writeAt_size]; omega) (fun j hj => HE.out.2.1 j hj)
   have h8 : Sep w0 (BagT g (ms.eraseIdx i) :: Cl b4 cm 40 :: L) _ := Sep.bagClose HE.out.2.2.1 (by rw [← HE.out.1]; exact h7.sw2)
   exact h8.sw2
  clear hp hc0
  have HLF := Lib.hid (hz.loadW 40 Tryz.underlying40 rfl (by rw [HMI.out.size]; kernel_rfl))
  have HTF := Lib.hid (show World.there _ b4 0 cm.size from hz.thereAt 0 cm.size (by omega))
  have hz2 := hz.storeW cm rfl
  have HVF := Lib.hid (hz2.loadV 40 Tryz.underlying40 rfl (by rw [HMI.out.size]; kernel_rfl))
  have HF := Lib.hid hz2.drop
  clear hz hz2 HH HE
  (try dsimp only); repeat' (first | (with_reducible show wpList _ _ _ (Oper.mk _ (Op.load 40 _) _ _ _ _ :: _) _ _; refine stopP ?_) | go_values | go_skip | go_guarded | go_step | go_upon | go_back)
  unfold StopP
  have hq_ := HLF.out
  refine wpList_load_run rfl 40 _ rfl _ _ rfl hq_ ?_
  clear hq_
  (try dsimp only); repeat' (first | (with_reducible show wpList _ _ _ (Oper.mk _ (Op.store 40 _ _) _ _ _ _ :: _) _ _; refine stopP ?_) | go_values | go_skip | go_guarded | go_step | go_upon | go_back)
  unfold StopP
  refine wpList_store_mid rfl 40 (.tmp 4) (.tmp 48) rfl b4 0 cm rfl rfl HTF.out HI.out HO.out ?_
  (try dsimp only); repeat' (first | go_values | go_skip | go_guarded | go_step | go_upon | go_back)
  exact bodyPost_ret (results_cell2 rfl rfl HVF.out rfl) rfl ⟨cm, HMI.out, rfl, HF.out⟩
end Go.Proofs.YtcnbmeiielkigaaGreatDoor
