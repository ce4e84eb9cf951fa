/- Package bag: Take, Drop, List. -/
import Derived.Test.YtcnbmeiielkigaaDoorBag4
namespace Go.Proofs.YtcnbmeiielkigaaDoor
open Go Go.RowKit
set_option linter.unusedVariables false
set_option linter.unusedSimpArgs false
variable {w0 w : World} {g : Nat} {ms : List MsM} {L : List Thing}
theorem btake_any (i : Nat) (h : Sep w0 (BagT g ms :: L) w) (hi : i < ms.length) (hmx : ms.length ≤ 100000) :
    Calls Tryd.prog 13 #[.pointer (some ⟨g, 0, none⟩), .int .i64 i] w fun e w' => ∃ u, MsgC u ms[i] ∧ e = .returned (.tuple #[.agg u, .int .i64 0]) ∧ Sep w0 (BagT g (ms.eraseIdx i) :: L) w' := by
  by_cases h0 : i = 0
  · exact btake0_any i h hi hmx h0
  · exact btakeN_any i h hi hmx (by omega)
set_option maxRecDepth 100000 in
set_option maxHeartbeats 4000000 in
theorem btake_bad (i : Nat) (h : Sep w0 (BagT g ms :: L) w) (hi : ms.length ≤ i) :
    Calls Tryd.prog 13 #[.pointer (some ⟨g, 0, none⟩), .int .i64 i] w fun e w' => ∃ u : Array Value, (u.size = 22 ∧ ∀ x ∈ u.toList, x.oneCell' = true) ∧ e = .returned (.tuple #[.agg u, .int .i64 9]) ∧ Sep w0 (BagT g ms :: L) w' := by
  have h0 := h.alloc (.cells #[.int .i64 0, .int .i64 0, .int .i64 0, .int .i64 0, .int .i64 0, .int .i64 0, .int .i64 0, .int .i64 0, .int .i64 0, .int .i64 0, .string ⟨#[]⟩, .int .i64 0, .int .i64 0, .slice none 0 0, .int .i64 0, .int .i64 0, .int .i64 0, .bool false, .int .i64 0, .slice none 0 0, .slice none 0 0, .int .i64 0] 43)
  have HC := Lib.hid (bchk_bad i h0.sw2 hi)
  obtain ⟨b4, hb4⟩ : ∃ z, z = w.heap.size := ⟨_, rfl⟩
  obtain ⟨w1, hw1⟩ : ∃ z, z = w.alloc (.cells #[.int .i64 0, .int .i64 0, .int .i64 0, .int .i64 0, .int .i64 0, .int .i64 0, .int .i64 0, .int .i64 0, .int .i64 0, .int .i64 0, .string ⟨#[]⟩, .int .i64 0, .int .i64 0, .slice none 0 0, .int .i64 0, .int .i64 0, .int .i64 0, .bool false, .int .i64 0, .slice none 0 0, .slice none 0 0, .int .i64 0] 43) := ⟨_, rfl⟩
  rw [← hw1] at HC h0
  rw [← hb4] at h0
  have HT := Lib.hid (h0.thereAt 0 22 (by simp))
  have h3 := h0.storeW #[.int .i64 0, .int .i64 0, .int .i64 0, .int .i64 0, .int .i64 0, .int .i64 0, .int .i64 0, .int .i64 0, .int .i64 0, .int .i64 0, .string ⟨#[]⟩, .int .i64 0, .int .i64 0, .slice none 0 0, .int .i64 0, .int .i64 0, .int .i64 0, .bool false, .int .i64 0, .slice none 0 0, .slice none 0 0, .int .i64 0] rfl
  have HV := Lib.hid (h3.loadV 43 Tryd.underlying43 rfl (by kernel_rfl))
  have H3 := Lib.hid h3.drop
  clear h h0 h3 hi
  go_enter Tryd.func13, Tryd.ntmps13
  (try dsimp only); repeat' (first | go_values | go_skip | go_guarded | go_step | go_upon | go_back)
  rw [← hw1, ← hb4]
  clear hw1 hb4
  refine HC.out.mono ?_
  rintro r0 wz ⟨rfl, rfl⟩
  clear HC
  (try dsimp only); repeat' (first | (with_reducible show wpList _ _ _ (Oper.mk _ (Op.store 43 _ _) _ _ _ _ :: _) _ _; refine stopP ?_) | go_values | go_skip | go_guarded | go_step | go_upon | go_back)
  unfold StopP
  refine wpList_store_mid rfl 43 (.tmp 4) (.tmp 12) rfl b4 0 #[.int .i64 0, .int .i64 0, .int .i64 0, .int .i64 0, .int .i64 0, .int .i64 0, .int .i64 0, .int .i64 0, .int .i64 0, .int .i64 0, .string ⟨#[]⟩, .int .i64 0, .int .i64 0, .slice none 0 0, .int .i64 0, .int .i64 0, .int .i64 0, .bool false, .int .i64 0, .slice none 0 0, .slice none 0 0, .int .i64 0] rfl rfl HT.out (by kernel_rfl) (by kernel_rfl) ?_
  (try dsimp only); repeat' (first | go_values | go_skip | go_guarded | go_step | go_upon | go_back)
  exact bodyPost_ret (results_cell2 rfl rfl HV.out rfl) rfl ⟨_, ⟨rfl, by intro x hx; simp only [List.mem_cons, List.not_mem_nil, or_false] at hx; rcases hx with rfl | rfl | rfl | rfl | rfl | rfl | rfl | rfl | rfl | rfl | rfl | rfl | rfl | rfl | rfl | rfl | rfl | rfl | rfl | rfl | rfl | rfl <;> rfl⟩, rfl, H3.out⟩
set_option maxRecDepth 100000 in
theorem bdrop_any (i : Nat) (h : Sep w0 (BagT g ms :: L) w) (hi : i < ms.length) (hmx : ms.length ≤ 100000) :
    Calls Tryd.prog 14 #[.pointer (some ⟨g, 0, none⟩), .int .i64 i] w fun e w' => e = .returned (.int .i64 0) ∧ Sep w0 (BagT g (ms.eraseIdx i) :: L) w' := by
  have HT := Lib.hid (btake_any i h hi hmx)
  generalize ms[i] = m at *
  clear h hi hmx
  go_enter Tryd.func14, Tryd.ntmps14
  (try dsimp only); repeat' (first | go_values | go_skip | go_guarded | go_step | go_upon | go_back)
  refine HT.out.mono ?_
  rintro r0 w1 ⟨u, hu0, rfl, h1⟩
  have hu := And.intro hu0.size hu0.one
  clear hu0
  have h2 := h1.alloc (.cells #[.int .i64 0, .int .i64 0, .int .i64 0, .int .i64 0, .int .i64 0, .int .i64 0, .int .i64 0, .int .i64 0, .int .i64 0, .int .i64 0, .string ⟨#[]⟩, .int .i64 0, .int .i64 0, .slice none 0 0, .int .i64 0, .int .i64 0, .int .i64 0, .bool false, .int .i64 0, .slice none 0 0, .slice none 0 0, .int .i64 0] 43)
  have HT2 := Lib.hid (h2.thereAt 0 22 (by simp))
  have HI : Hid ((Tryd.prog.info? 43).map (·.size) = some u.size) := Lib.hid (by rw [hu.1]; kernel_rfl)
  have HO : Hid (u.all (·.oneCell') = true) := Lib.hid (by have := all_oneCell_toArray hu.2; simpa using this)
  have HTH : Hid ((w1.alloc (.cells #[.int .i64 0, .int .i64 0, .int .i64 0, .int .i64 0, .int .i64 0, .int .i64 0, .int .i64 0, .int .i64 0, .int .i64 0, .int .i64 0, .string ⟨#[]⟩, .int .i64 0, .int .i64 0, .slice none 0 0, .int .i64 0, .int .i64 0, .int .i64 0, .bool false, .int .i64 0, .slice none 0 0, .slice none 0 0, .int .i64 0] 43)).there w1.heap.size 0 u.size) := Lib.hid (by rw [hu.1]; exact HT2.out)
  have H1 := Lib.hid ((h2.storeW u (by rw [hu.1]; rfl)).drop)
  clear HT h1 h2 HT2 hu
  (try dsimp only); repeat' (first | (with_reducible show wpList _ _ _ (Oper.mk _ (Op.store 43 _ _) _ _ _ _ :: _) _ _; refine stopP ?_) | go_values | go_skip | go_guarded | go_step | go_upon | go_back)
  unfold StopP
  refine wpList_store_mid rfl 43 (.tmp 5) (.tmp 11) rfl w1.heap.size 0 u rfl rfl HTH.out HI.out HO.out ?_
  (try dsimp only); repeat' (first | go_values | go_skip | go_guarded | go_step | go_upon | go_back)
  go_ret
  exact ⟨rfl, H1.out⟩
set_option maxRecDepth 100000 in
theorem bdrop_bad (i : Nat) (h : Sep w0 (BagT g ms :: L) w) (hi : ms.length ≤ i) :
    Calls Tryd.prog 14 #[.pointer (some ⟨g, 0, none⟩), .int .i64 i] w fun e w' => e = .returned (.int .i64 9) ∧ Sep w0 (BagT g ms :: L) w' := by
  have HT := Lib.hid (btake_bad i h hi)
  clear h hi
  go_enter Tryd.func14, Tryd.ntmps14
  (try dsimp only); repeat' (first | go_values | go_skip | go_guarded | go_step | go_upon | go_back)
  refine HT.out.mono ?_
  rintro r0 w1 ⟨u, hu, rfl, h1⟩
  have h2 := h1.alloc (.cells #[.int .i64 0, .int .i64 0, .int .i64 0, .int .i64 0, .int .i64 0, .int .i64 0, .int .i64 0, .int .i64 0, .int .i64 0, .int .i64 0, .string ⟨#[]⟩, .int .i64 0, .int .i64 0, .slice none 0 0, .int .i64 0, .int .i64 0, .int .i64 0, .bool false, .int .i64 0, .slice none 0 0, .slice none 0 0, .int .i64 0] 43)
  have HT2 := Lib.hid (h2.thereAt 0 22 (by simp))
  have HI : Hid ((Tryd.prog.info? 43).map (·.size) = some u.size) := Lib.hid (by rw [hu.1]; kernel_rfl)
  have HO : Hid (u.all (·.oneCell') = true) := Lib.hid (by have := all_oneCell_toArray hu.2; simpa using this)
  have HTH : Hid ((w1.alloc (.cells #[.int .i64 0, .int .i64 0, .int .i64 0, .int .i64 0, .int .i64 0, .int .i64 0, .int .i64 0, .int .i64 0, .int .i64 0, .int .i64 0, .string ⟨#[]⟩, .int .i64 0, .int .i64 0, .slice none 0 0, .int .i64 0, .int .i64 0, .int .i64 0, .bool false, .int .i64 0, .slice none 0 0, .slice none 0 0, .int .i64 0] 43)).there w1.heap.size 0 u.size) := Lib.hid (by rw [hu.1]; exact HT2.out)
  have H1 := Lib.hid ((h2.storeW u (by rw [hu.1]; rfl)).drop)
  clear HT h1 h2 HT2 hu
  (try dsimp only); repeat' (first | (with_reducible show wpList _ _ _ (Oper.mk _ (Op.store 43 _ _) _ _ _ _ :: _) _ _; refine stopP ?_) | go_values | go_skip | go_guarded | go_step | go_upon | go_back)
  unfold StopP
  refine wpList_store_mid rfl 43 (.tmp 5) (.tmp 11) rfl w1.heap.size 0 u rfl rfl HTH.out HI.out HO.out ?_
  (try dsimp only); repeat' (first | go_values | go_skip | go_guarded | go_step | go_upon | go_back)
  go_ret
  exact ⟨rfl, H1.out⟩
set_option maxRecDepth 100000 in
set_option maxHeartbeats 16000000 in
theorem lcopym_any {a : Option Addr} {n c : Nat} {rows : List (Array Value)} (h : Sep w0 (Ro 22 43 (.slice a n c) n (msCs rows) :: L) w) (hm : MsgsC rows ms) (hn : rows.length = n) (hl : n ≤ 100000) :
    Calls Tryd.prog 38 #[.slice a n c, .func (.func 25) #[] #[]] w fun e w' => ∃ a' c' rows', e = .returned (.slice a' n c') ∧ MsgsC rows' ms ∧ Sep w0 (Rn 22 43 (.slice a' n c') n (msCs rows') :: Ro 22 43 (.slice a n c) n (msCs rows) :: L) w' := by
  obtain ⟨i, hi, he⟩ := Option.map_eq_some_iff.1 infoMs
  simp only [Prod.mk.injEq, decide_eq_true_eq] at he
  obtain ⟨z, hz, hz2⟩ := Option.map_eq_some_iff.1 he.2.2
  obtain ⟨w1, hmk, hown, hgr⟩ := run_make_own (P := Tryd.prog) w w.heap.size 58 43 i z 22 Tryd.underlying58 hi hz he.1 .i64 .i64 n (by
    calc i.bytes * n ≤ 256 * 100000 := Nat.mul_le_mul he.2.1 hl
      _ ≤ 281474976710656 := by omega) (by unfold maxLen; omega) (Nat.le_refl _)
  have h1 : Sep w0 (Rn 22 43 (.slice (some ⟨w.heap.size, 0, none⟩) 0 n) 0 (msCs []) :: Ro 22 43 (.slice a n c) n (msCs rows) :: L) w1 := h.new (loc_rn _ _ _ _ _) ⟨hgr.os, hgr.tape, hgr.output, hgr.size, fun k hk => hgr.block k hk (by simp)⟩ (F := fun k => (Value.slice (some ⟨w.heap.size, 0, none⟩) 0 n).ownBlock = some k) ⟨⟨_, hown⟩, fun _ => Iff.rfl⟩ fun k hk => ownsRow_lt hown k hk
  have HM := Lib.hid hmk
  have H1 := Lib.hid h1
  have HX := Lib.hid (And.intro hm (And.intro hn hl))
  have n0 : (0 : Int) ≤ (n : Int) := by omega
  have n9 : (n : Int) ≤ 100000 := by omega
  clear h h1 hm hn hl hi he hz hz2 hmk hown hgr
  go_enter Tryd.func38, Tryd.ntmps38
  (try dsimp only); repeat' (first | go_values | go_skip | go_guarded | go_step | go_upon | go_back)
  rw [HM.out]
  clear HM
  (try dsimp only); repeat' (first | go_values | go_skip | go_guarded | go_step | go_upon | go_back)
  go_loopw [5, 13] (fun pv i wr => ∃ (k : Nat) (rs : List (Array Value)) (av : Option Addr) (cv : Nat), k ≤ n ∧ pv = .slice av k cv ∧ i = .int .i64 k ∧ MsgsC rs (ms.take k) ∧ Sep w0 (Rn 22 43 (.slice av k cv) k (msCs rs) :: Ro 22 43 (.slice a n c) n (msCs rows) :: L) wr) (fun _ i _ => n - (intOf i).toNat)
  case atStart => exact ⟨0, [], _, _, Nat.zero_le _, rfl, rfl, MsgsC.nil, H1.out⟩
  case round =>
    obtain ⟨k, rs, av, cv, hk, rfl, rfl, hrs, hs⟩ := hrel
    clear H1
    have k0 : (0 : Int) ≤ (k : Int) := by omega
    have k9 : (k : Int) ≤ 100000 := by omega
    have hml : ms.length = n := by rw [← HX.out.1.1]; exact HX.out.2.1
    by_cases hkn : k < n
    · have hd : decide (k < n) = true := decide_eq_true hkn
      have k1 : (k : Int) < (n : Int) := by omega
      obtain ⟨hi', hmi⟩ := HX.out.1.at k (by omega)
      obtain ⟨b, off, rfl, -, hld, -⟩ := hs.sw2.roMsg HX.out.1 k hi' HX.out.2.1
      have HL := Lib.hid hld
      have h4 := hs.alloc (.cells #[.int .i64 0, .int .i64 0, .int .i64 0, .int .i64 0, .int .i64 0, .int .i64 0, .int .i64 0, .int .i64 0, .int .i64 0, .int .i64 0, .string ⟨#[]⟩, .int .i64 0, .int .i64 0, .slice none 0 0, .int .i64 0, .int .i64 0, .int .i64 0, .bool false, .int .i64 0, .slice none 0 0, .slice none 0 0, .int .i64 0] 43)
      have HT := Lib.hid (h4.thereAt 0 22 (by simp))
      have h5 := h4.storeW rows[k] (by rw [hmi.size]; rfl)
      obtain ⟨m, hmm⟩ : ∃ z, z = ms[k]'(by omega) := ⟨_, rfl⟩
      rw [← hmm] at hmi
      generalize rows[k] = cm at *
      have HI : Hid ((Tryd.prog.info? 43).map (·.size) = some cm.size) := Lib.hid (by rw [hmi.size]; kernel_rfl)
      have HO : Hid (cm.all (·.oneCell') = true) := Lib.hid (by have := all_oneCell_toArray hmi.one; simpa using this)
      have HTH : Hid ((wr.alloc (.cells #[.int .i64 0, .int .i64 0, .int .i64 0, .int .i64 0, .int .i64 0, .int .i64 0, .int .i64 0, .int .i64 0, .int .i64 0, .int .i64 0, .string ⟨#[]⟩, .int .i64 0, .int .i64 0, .slice none 0 0, .int .i64 0, .int .i64 0, .int .i64 0, .bool false, .int .i64 0, .slice none 0 0, .slice none 0 0, .int .i64 0] 43)).there wr.heap.size 0 cm.size) := Lib.hid (by rw [hmi.size]; exact HT.out)
      obtain ⟨b7, hb7⟩ : ∃ z, z = wr.heap.size := ⟨_, rfl⟩
      obtain ⟨w5, hw5⟩ : ∃ z, z = (wr.alloc (.cells #[.int .i64 0, .int .i64 0, .int .i64 0, .int .i64 0, .int .i64 0, .int .i64 0, .int .i64 0, .int .i64 0, .int .i64 0, .int .i64 0, .string ⟨#[]⟩, .int .i64 0, .int .i64 0, .slice none 0 0, .int .i64 0, .int .i64 0, .int .i64 0, .bool false, .int .i64 0, .slice none 0 0, .slice none 0 0, .int .i64 0] 43)).setCells wr.heap.size 0 cm.toList := ⟨_, rfl⟩
      rw [← hw5, ← hb7] at h5
      have HL2 := Lib.hid (h5.loadW 43 Tryd.underlying43 rfl (by rw [hmi.size]; kernel_rfl))
      have HC := Lib.hid (mcopyz_any m h5 hmi)
      have htk : ms.take (k + 1) = ms.take k ++ [m] := by rw [hmm, List.take_append_getElem]
      have HQ := Lib.hid (And.intro hkn (And.intro hrs htk))
      clear hs h4 h5 HT hmi hld hi' hrs hkn hmm hml htk hk
      (try dsimp only); repeat' (first | (with_reducible show wpList _ _ _ (Oper.mk _ (Op.load 43 _) _ _ _ _ :: _) _ _; refine stopP ?_) | go_values | go_skip | go_guarded | go_step | go_upon | go_back)
      unfold StopP
      have hq_ := HL.out
      refine wpList_load_run rfl 43 _ rfl _ _ rfl hq_ ?_
      clear hq_
      (try dsimp only); repeat' (first | (with_reducible show wpList _ _ _ (Oper.mk _ (Op.store 43 _ _) _ _ _ _ :: _) _ _; refine stopP ?_) | go_values | go_skip | go_guarded | go_step | go_upon | go_back)
      unfold StopP
      refine wpList_store_mid rfl 43 (.tmp 7) (.tmp 16) rfl wr.heap.size 0 cm rfl rfl HTH.out HI.out HO.out ?_
      rw [← hw5, ← hb7]
      clear hw5 hb7 HTH
      (try dsimp only); repeat' (first | (with_reducible show wpList _ _ _ (Oper.mk _ (Op.load 43 _) _ _ _ _ :: _) _ _; refine stopP ?_) | go_values | go_skip | go_guarded | go_step | go_upon | go_back)
      unfold StopP
      have hq_ := HL2.out
      refine wpList_load_run rfl 43 _ rfl _ _ rfl hq_ ?_
      clear hq_
      (try dsimp only); repeat' (first | go_values | go_skip | go_guarded | go_step | go_upon | go_back)
      refine HC.out.mono ?_
      rintro r0 w6 ⟨u, hu, rfl, h6⟩
      have h7 := h6.alloc (.cells u 43)
      have hrl : rs.length = k := by rw [HQ.out.2.1.1, List.length_take]; have := HQ.out.1; have := HX.out.1.1; have := HX.out.2.1; omega
      obtain ⟨a8, c8, w8, hr, h8⟩ := append_ms (rows := rs) (c := u) (b := w6.heap.size) (v := .slice av k cv) (L := Ro 22 43 (.slice (some ⟨b, off, none⟩) n c) n (msCs rows) :: L) 58 (show Sep w0 (Cl w6.heap.size u 43 :: Rn 22 43 (.slice av k cv) rs.length (msCs rs) :: Ro 22 43 (.slice (some ⟨b, off, none⟩) n c) n (msCs rows) :: L) (w6.alloc (.cells u 43)) from by rw [hrl]; exact h7.pickL (M := [_, _, _, _]) [0, 2, 3] rfl) hu.size hu.one (by omega)
      rw [hrl] at hr
      have HR := Lib.hid hr
      have hrs2 := HQ.out.2.1.snoc hu
      rw [← HQ.out.2.2] at hrs2
      have h9 : Sep w0 (Rn 22 43 (.slice a8 (k + 1) c8) (k + 1) (msCs (rs ++ [u])) :: Ro 22 43 (.slice (some ⟨b, off, none⟩) n c) n (msCs rows) :: L) w8 := by
        have h9 : Sep w0 (Rn 22 43 (.slice a8 (rs.length + 1) c8) (rs ++ [u]).length (msCs (rs ++ [u])) :: Ro 22 43 (.slice (some ⟨b, off, none⟩) n c) n (msCs rows) :: L) w8 := h8
        rw [List.length_append, hrl] at h9
        exact h9
      have H9 := Lib.hid (And.intro hrs2 h9)
      have HU := Lib.hid hu.size
      clear HC h6 h7 h8 h9 hr hrl hrs2 hu
      (try dsimp only); repeat' (first | (with_reducible show wpList _ _ _ (Oper.mk _ (Op.buildSlice _ _ _) _ _ _ _ :: _) _ _; refine stopP ?_) | go_values | go_skip | go_guarded | go_step | go_upon | go_back)
      unfold StopP
      refine wpList_buildM rfl _ rfl HU.out rfl ?_
      (try dsimp only); repeat' (first | (at_builtin; refine stopP ?_) | go_values | go_skip | go_guarded | go_step | go_upon | go_back)
      unfold StopP
      refine wpList_append_r rfl _ _ _ _ rfl rfl rfl HR.out ?_
      (try dsimp only); repeat' (first | go_values | go_skip | go_guarded | go_step | go_upon | go_back)
      go_roundw
      case rel => exact ⟨k + 1, rs ++ [u], a8, c8, by have := HQ.out.1; omega, rfl, by go_num, H9.out.1, H9.out.2⟩
      case measure => have := HQ.out.1; simp [intOf]; omega
    · have hd : decide (k < n) = false := decide_eq_false hkn
      obtain rfl : k = n := by omega
      rw [List.take_of_length_le (by omega)] at hrs
      have HS := Lib.hid (And.intro hrs hs)
      clear hs hrs hkn hk hml
      (try dsimp only); repeat' (first | go_values | go_skip | go_guarded | go_step | go_upon | go_back)
      go_ret
      exact ⟨_, _, _, rfl, HS.out.1, HS.out.2⟩
theorem blist_any (h : Sep w0 (BagT g ms :: L) w) (hl : ms.length ≤ 100000) :
    Calls Tryd.prog 23 #[.pointer (some ⟨g, 0, none⟩)] w fun e w' => ∃ a c rows, e = .returned (.slice a ms.length c) ∧ MsgsC rows ms ∧ Sep w0 (Rn 22 43 (.slice a ms.length c) ms.length (msCs rows) :: BagT g ms :: L) w' := by
  obtain ⟨a, c, rows, hm, h1⟩ := h.bagOpen
  have HN := Lib.hid (bnone_any (h1.cell (o := 0) rfl))
  have c1 := h1.cell (o := 1) rfl
  have HC := Lib.hid (lcopym_any h1.sw2 hm hm.1 hl)
  have HM := Lib.hid hm
  obtain ⟨n, hn⟩ : ∃ z, z = ms.length := ⟨_, rfl⟩
  rw [← hn] at HC c1 ⊢
  have HE := Lib.hid hn
  clear h h1 hm hl hn
  go_enter Tryd.func23, Tryd.ntmps23
  (try dsimp only); repeat' (first | go_values | go_skip | go_guarded | go_step | go_upon | go_back)
  refine HN.out.mono ?_
  rintro r0 w1 ⟨rfl, rfl⟩
  clear HN
  (try dsimp only); repeat' (first | go_values | go_skip | go_guarded | go_step | go_upon | go_back)
  refine HC.out.mono ?_
  rintro r0 w2 ⟨a', c', rows', rfl, hm2, h2⟩
  have h3 : Sep w0 (BagT g ms :: _ :: L) w2 := Sep.bagClose HM.out (by rw [← HE.out]; exact h2.pickL (M := [_, _, _]) [2, 1, 0] rfl)
  have H3 := Lib.hid (And.intro hm2 h3.sw2)
  clear HC h2 h3 hm2
  (try dsimp only); repeat' (first | go_values | go_skip | go_guarded | go_step | go_upon | go_back)
  go_ret
  exact ⟨_, _, _, rfl, H3.out.1, H3.out.2⟩
end Go.Proofs.YtcnbmeiielkigaaDoor
