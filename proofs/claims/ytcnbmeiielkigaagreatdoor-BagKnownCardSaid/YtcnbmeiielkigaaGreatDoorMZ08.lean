/- Package bag: Take, Drop, List. -/
import Derived.Lib.ConvBytes
import Derived.Lib.AppendZeros
import Derived.Test.YtcnbmeiielkigaaGreatDoorMBag4
import Derived.Test.YtcnbmeiielkigaaGreatDoorMZ00
import Derived.Test.YtcnbmeiielkigaaGreatDoorMZ01
import Derived.Test.YtcnbmeiielkigaaGreatDoorMZ02
namespace Go.Proofs.YtcnbmeiielkigaaGreatDoor
open Go Go.RowKit
set_option linter.unusedVariables false
set_option linter.unusedSimpArgs false
variable {w0 w : World} {g : Nat} {ms : List MsM} {L : List Thing}
theorem btake_any (i : Nat) (h : Sep w0 (BagT g ms :: L) w) (hi : i < ms.length) (hmx : ms.length ≤ 100000) :
  Calls Tryz.prog 15 #[.pointer (some ⟨g, 0, none⟩), .int .i64 i] w fun e w' => ∃ u, MsgC u ms[i] ∧ e = .returned (.tuple #[.agg u, .int .i64 0]) ∧ Sep w0 (BagT g (ms.eraseIdx i) :: L) w' := by
 by_cases h0 : i = 0
 ·exact btake0_any i h hi hmx h0
 ·exact btakeN_any i h hi hmx (by omega)
set_option maxRecDepth 100000 in
set_option maxHeartbeats 4000000 in
theorem btake_bad (i : Nat) (h : Sep w0 (BagT g ms :: L) w) (hi : ms.length ≤ i) :
  Calls Tryz.prog 15 #[.pointer (some ⟨g, 0, none⟩), .int .i64 i] w fun e w' => ∃ u : Array Value, (u.size = 22 ∧ ∀ x ∈ u.toList, x.oneCell' = true) ∧ e = .returned (.tuple #[.agg u, .int .i64 9]) ∧ Sep w0 (BagT g ms :: L) w' := by
 have h0 := h.alloc (.cells #[.int .i64 0, .int .i64 0, .int .i64 0, .int .i64 0, .int .i64 0, .int .i64 0, .int .i64 0, .int .i64 0, .int .i64 0, .int .i64 0, .string ⟨#[]⟩, .int .i64 0, .int .i64 0, .slice none 0 0, .int .i64 0, .int .i64 0, .int .i64 0, .bool false, .int .i64 0, .slice none 0 0, .slice none 0 0, .int .i64 0] 40)
 have HC := Lib.hid (bchk_bad i h0.sw2 hi)
 obtain ⟨b4, hb4⟩ : ∃ z, z = w.heap.size := ⟨_, rfl⟩
 obtain ⟨w1, hw1⟩ : ∃ z, z = w.alloc (.cells #[.int .i64 0, .int .i64 0, .int .i64 0, .int .i64 0, .int .i64 0, .int .i64 0, .int .i64 0, .int .i64 0, .int .i64 0, .int .i64 0, .string ⟨#[]⟩, .int .i64 0, .int .i64 0, .slice none 0 0, .int .i64 0, .int .i64 0, .int .i64 0, .bool false, .int .i64 0, .slice none 0 0, .slice none 0 0, .int .i64 0] 40) := ⟨_, rfl⟩
 rw [← hw1] at HC h0
 rw [← hb4] at h0
 have HT := Lib.hid (h0.thereAt 0 22 (by simp))
 have h3 := h0.storeW #[.int .i64 0, .int .i64 0, .int .i64 0, .int .i64 0, .int .i64 0, .int .i64 0, .int .i64 0, .int .i64 0, .int .i64 0, .int .i64 0, .string ⟨#[]⟩, .int .i64 0, .int .i64 0, .slice none 0 0, .int .i64 0, .int .i64 0, .int .i64 0, .bool false, .int .i64 0, .slice none 0 0, .slice none 0 0, .int .i64 0] rfl
 have HV := Lib.hid (h3.loadV 40 Tryz.underlying40 rfl (by kernel_rfl))
 have H3 := Lib.hid h3.drop
 clear h h0 h3 hi
 go_enter Tryz.func15, Tryz.ntmps15
 (try dsimp only); repeat' (first | go_values | go_skip | go_guarded | go_step | go_upon | go_back)
 rw [← hw1, ← hb4]
 clear hw1 hb4
 refine HC.out.mono ?_
 rintro r0 wz ⟨rfl, rfl⟩
 clear HC
 (try dsimp only); repeat' (first | (with_reducible show wpList _ _ _ (Oper.mk _ (Op.store 40 _ _) _ _ _ _ :: _) _ _; refine stopP ?_) | go_values | go_skip | go_guarded | go_step | go_upon | go_back)
 unfold StopP
 refine wpList_store_mid rfl 40 (.tmp 4) (.tmp 12) rfl b4 0 #[.int .i64 0, .int .i64 0, .int .i64 0, .int .i64 0, .int .i64 0, .int .i64 0, .int .i64 0, .int .i64 0, .int .i64 0, .int .i64 0, .string ⟨#[]⟩, .int .i64 0, .int .i64 0, .slice none 0 0, .int .i64 0, .int .i64 0, .int .i64 0, .bool false, .int .i64 0, .slice none 0 0, .slice none 0 0, .int .i64 0] rfl rfl HT.out (by kernel_rfl) (by kernel_rfl) ?_
 (try dsimp only); repeat' (first | go_values | go_skip | go_guarded | go_step | go_upon | go_back)
 exact bodyPost_ret (results_cell2 rfl rfl HV.out rfl) rfl ⟨_, ⟨rfl, by intro x hx; simp only [List.mem_cons, List.not_mem_nil, or_false] at hx; rcases hx with rfl | rfl | rfl | rfl | rfl | rfl | rfl | rfl | rfl | rfl | rfl | rfl | rfl | rfl | rfl | rfl | rfl | rfl | rfl | rfl | rfl | rfl <;> rfl⟩, rfl, H3.out⟩
set_option maxRecDepth 100000 in
theorem bdrop_any (i : Nat) (h : Sep w0 (BagT g ms :: L) w) (hi : i < ms.length) (hmx : ms.length ≤ 100000) :
  Calls Tryz.prog 20 #[.pointer (some ⟨g, 0, none⟩), .int .i64 i] w fun e w' => e = .returned (.int .i64 0) ∧ Sep w0 (BagT g (ms.eraseIdx i) :: L) w' := by
 have HT := Lib.hid (btake_any i h hi hmx)
 generalize ms[i] = m at *
 clear h hi hmx
 go_enter Tryz.func20, Tryz.ntmps20
 (try dsimp only); repeat' (first | go_values | go_skip | go_guarded | go_step | go_upon | go_back)
 refine HT.out.mono ?_
 rintro r0 w1 ⟨u, hu0, rfl, h1⟩
 have hu := And.intro hu0.size hu0.one
 clear hu0
 have h2 := h1.alloc (.cells #[.int .i64 0, .int .i64 0, .int .i64 0, .int .i64 0, .int .i64 0, .int .i64 0, .int .i64 0, .int .i64 0, .int .i64 0, .int .i64 0, .string ⟨#[]⟩, .int .i64 0, .int .i64 0, .slice none 0 0, .int .i64 0, .int .i64 0, .int .i64 0, .bool false, .int .i64 0, .slice none 0 0, .slice none 0 0, .int .i64 0] 40)
 have HT2 := Lib.hid (h2.thereAt 0 22 (by simp))
 have HI : Hid ((Tryz.prog.info? 40).map (·.size) = some u.size) := Lib.hid (by rw [hu.1]; kernel_rfl)
 have HO : Hid (u.all (·.oneCell') = true) := Lib.hid (by have := all_oneCell_toArray hu.2; simpa using this)
 have HTH : Hid ((w1.alloc (.cells #[.int .i64 0, .int .i64 0, .int .i64 0, .int .i64 0, .int .i64 0, .int .i64 0, .int .i64 0, .int .i64 0, .int .i64 0, .int .i64 0, .string ⟨#[]⟩, .int .i64 0, .int .i64 0, .slice none 0 0, .int .i64 0, .int .i64 0, .int .i64 0, .bool false, .int .i64 0, .slice none 0 0, .slice none 0 0, .int .i64 0] 40)).there w1.heap.size 0 u.size) := Lib.hid (by rw [hu.1]; exact HT2.out)
 have H1 := Lib.hid ((h2.storeW u (by rw [hu.1]; rfl)).drop)
 clear HT h1 h2 HT2 hu
 (try dsimp only); repeat' (first | (with_reducible show wpList _ _ _ (Oper.mk _ (Op.store 40 _ _) _ _ _ _ :: _) _ _; refine stopP ?_) | go_values | go_skip | go_guarded | go_step | go_upon | go_back)
 unfold StopP
 refine wpList_store_mid rfl 40 (.tmp 5) (.tmp 11) rfl w1.heap.size 0 u rfl rfl HTH.out HI.out HO.out ?_
 (try dsimp only); repeat' (first | go_values | go_skip | go_guarded | go_step | go_upon | go_back)
 go_ret
 exact ⟨rfl, H1.out⟩
set_option maxRecDepth 100000 in
theorem bdrop_bad (i : Nat) (h : Sep w0 (BagT g ms :: L) w) (hi : ms.length ≤ i) :
  Calls Tryz.prog 20 #[.pointer (some ⟨g, 0, none⟩), .int .i64 i] w fun e w' => e = .returned (.int .i64 9) ∧ Sep w0 (BagT g ms :: L) w' := by
 have HT := Lib.hid (btake_bad i h hi)
 clear h hi
 go_enter Tryz.func20, Tryz.ntmps20
 (try dsimp only); repeat' (first | go_values | go_skip | go_guarded | go_step | go_upon | go_back)
 refine HT.out.mono ?_
 rintro r0 w1 ⟨u, hu, rfl, h1⟩
 have h2 := h1.alloc (.cells #[.int .i64 0, .int .i64 0, .int .i64 0, .int .i64 0, .int .i64 0, .int .i64 0, .int .i64 0, .int .i64 0, .int .i64 0, .int .i64 0, .string ⟨#[]⟩, .int .i64 0, .int .i64 0, .slice none 0 0, .int .i64 0, .int .i64 0, .int .i64 0, .bool false, .int .i64 0, .slice none 0 0, .slice none 0 0, .int .i64 0] 40)
 have HT2 := Lib.hid (h2.thereAt 0 22 (by simp))
 have HI : Hid ((Tryz.prog.info? 40).map (·.size) = some u.size) := Lib.hid (by rw [hu.1]; kernel_rfl)
 have HO : Hid (u.all (·.oneCell') = true) := Lib.hid (by have := all_oneCell_toArray hu.2; simpa using this)
 have HTH : Hid ((w1.alloc (.cells #[.int .i64 0, .int .i64 0, .int .i64 0, .int .i64 0, .int .i64 0, .int .i64 0, .int .i64 0, .int .i64 0, .int .i64 0, .int .i64 0, .string ⟨#[]⟩, .int .i64 0, .int .i64 0, .slice none 0 0, .int .i64 0, .int .i64 0, .int .i64 0, .bool false, .int .i64 0, .slice none 0 0, .slice none 0 0, .int .i64 0] 40)).there w1.heap.size 0 u.size) := Lib.hid (by rw [hu.1]; exact HT2.out)
 have H1 := Lib.hid ((h2.storeW u (by rw [hu.1]; rfl)).drop)
 clear HT h1 h2 HT2 hu
 (try dsimp only); repeat' (first | (with_reducible show wpList _ _ _ (Oper.mk _ (Op.store 40 _ _) _ _ _ _ :: _) _ _; refine stopP ?_) | go_values | go_skip | go_guarded | go_step | go_upon | go_back)
 unfold StopP
 refine wpList_store_mid rfl 40 (.tmp 5) (.tmp 11) rfl w1.heap.size 0 u rfl rfl HTH.out HI.out HO.out ?_
 (try dsimp only); repeat' (first | go_values | go_skip | go_guarded | go_step | go_upon | go_back)
 go_ret
 exact ⟨rfl, H1.out⟩
set_option maxRecDepth 100000 in
set_option maxHeartbeats 16000000 in
theorem lcopym_any {a : Option Addr} {n c : Nat} {rows : List (Array Value)} (h : Sep w0 (Ro 22 40 (.slice a n c) n (msCs rows) :: L) w) (hm : MsgsC rows ms) (hn : rows.length = n) (hl : n ≤ 100000) :
  Calls Tryz.prog 35 #[.slice a n c, .func (.func 36) #[] #[]] w fun e w' => ∃ a' c' rows', e = .returned (.slice a' n c') ∧ MsgsC rows' ms ∧ Sep w0 (Rn 22 40 (.slice a' n c') n (msCs rows') :: Ro 22 40 (.slice a n c) n (msCs rows) :: L) w' := by
 obtain ⟨i, hi, he⟩ := Option.map_eq_some_iff.1 infoMs
 simp only [Prod.mk.injEq, decide_eq_true_eq] at he
 obtain ⟨z, hz, hz2⟩ := Option.map_eq_some_iff.1 he.2.2
 obtain ⟨w1, hmk, hown, hgr⟩ := run_make_own (P := Tryz.prog) w w.heap.size 44 40 i z 22 Tryz.underlying44 hi hz he.1 .i64 .i64 n (by
  calc i.bytes * n ≤ 256 * 100000 := Nat.mul_le_mul he.2.1 hl
   _ ≤ 281474976710656 := by omega) (by unfold maxLen; omega) (Nat.le_refl _)
 have h1 : Sep w0 (Rn 22 40 (.slice (some ⟨w.heap.size, 0, none⟩) 0 n) 0 (msCs []) :: Ro 22 40 (.slice a n c) n (msCs rows) :: L) w1 := h.new (loc_rn _ _ _ _ _) ⟨hgr.os, hgr.tape, hgr.output, hgr.size, fun k hk => hgr.block k hk (by simp)⟩ (F := fun k => (Value.slice (some ⟨w.heap.size, 0, none⟩) 0 n).ownBlock = some k) ⟨⟨_, hown⟩, fun _ => Iff.rfl⟩ fun k hk => ownsRow_lt hown k hk
 have HM := Lib.hid hmk
 have H1 := Lib.hid h1
 have HX := Lib.hid (And.intro hm (And.intro hn hl))
 have n0 : (0 : Int) ≤ (n : Int) := by omega
 have n9 : (n : Int) ≤ 100000 := by omega
 clear h h1 hm hn hl hi he hz hz2 hmk hown hgr
 go_enter Tryz.func35, Tryz.ntmps35
 (try dsimp only); repeat' (first | go_values | go_skip | go_guarded | go_step | go_upon | go_back)
 rw [HM.out]
 clear HM
 (try dsimp only); repeat' (first | go_values | go_skip | go_guarded | go_step | go_upon | go_back)
 go_loopw [5, 13] (fun pv i wr => ∃ (k : Nat) (rs : List (Array Value)) (av : Option Addr) (cv : Nat), k ≤ n ∧ pv = .slice av k cv ∧ i = .int .i64 k ∧ MsgsC rs (ms.take k) ∧ Sep w0 (Rn 22 40 (.slice av k cv) k (msCs rs) :: Ro 22 40 (.slice a n c) n (msCs rows) :: L) wr) (fun _ i _ => n - (intOf i).toNat)
 case atStart => exact ⟨0, [], _, _, Nat.zero_le _, rfl, rfl, MsgsC.nil, H1.out⟩
 case round =>
  obtain ⟨k, rs, av, cv, hk, rfl, rfl, hrs, hs⟩ := hrel
  clear H1
  have k0 : (0 : Int) ≤ (k : Int) := by omega
  have k9 : (k : Int) ≤ 100000 := by omega
  have hml : ms.length = n := by rw [← HX.out.1.1]; exact HX.out.2.1
  by_cases hkn : k < n
  ·have hd : decide (k < n) = true := decide_eq_true hkn
   have k1 : (k : Int) < (n : Int) := by omega
   obtain ⟨hi', hmi⟩ := HX.out.1.at k (by omega)
   obtain ⟨b, off, rfl, -, hld, -⟩ := hs.sw2.roMsg HX.out.1 k hi' HX.out.2.1
   have HL := Lib.hid hld
   have h4 := hs.alloc (.cells #[.int .i64 0, .int .i64 0, .int .i64 0, .int .i64 0, .int .i64 0, .int .i64 0, .int .i64 0, .int .i64 0, .int .i64 0, .int .i64 0, .string ⟨#[]⟩, .int .i64 0, .int .i64 0, .slice none 0 0, .int .i64 0, .int .i64 0, .int .i64 0, .bool false, .int .i64 0, .slice none 0 0, .slice none 0 0, .int .i64 0] 40)
   have HT := Lib.hid (h4.thereAt 0 22 (by simp))
   have h5 := h4.storeW rows[k] (by rw [hmi.size]; rfl)
   obtain ⟨m, hmm⟩ : ∃ z, z = ms[k]'(by omega) := ⟨_, rfl⟩
   rw [← hmm] at hmi
   generalize rows[k] = cm at *
   have HI : Hid ((Tryz.prog.info? 40).map (·.size) = some cm.size) := Lib.hid (by rw [hmi.size]; kernel_rfl)
   have HO : Hid (cm.all (·.oneCell') = true) := Lib.hid (by have := all_oneCell_toArray hmi.one; simpa using this)
   have HTH : Hid ((wr.alloc (.cells #[.int .i64 0, .int .i64 0, .int .i64 0, .int .i64 0, .int .i64 0, .int .i64 0, .int .i64 0, .int .i64 0, .int .i64 0, .int .i64 0, .string ⟨#[]⟩, .int .i64 0, .int .i64 0, .slice none 0 0, .int .i64 0, .int .i64 0, .int .i64 0, .bool false, .int .i64 0, .slice none 0 0, .slice none 0 0, .int .i64 0] 40)).there wr.heap.size 0 cm.size) := Lib.hid (by rw [hmi.size]; exact HT.out)
   obtain ⟨b7, hb7⟩ : ∃ z, z = wr.heap.size := ⟨_, rfl⟩
   obtain ⟨w5, hw5⟩ : ∃ z, z = (wr.alloc (.cells #[.int .i64 0, .int .i64 0, .int .i64 0, .int .i64 0, .int .i64 0, .int .i64 0, .int .i64 0, .int .i64 0, .int .i64 0, .int .i64 0, .string ⟨#[]⟩, .int .i64 0, .int .i64 0, .slice none 0 0, .int .i64 0, .int .i64 0, .int .i64 0, .bool false, .int .i64 0, .slice none 0 0, .slice none 0 0, .int .i64 0] 40)).setCells wr.heap.size 0 cm.toList := ⟨_, rfl⟩
   rw [← hw5, ← hb7] at h5
   have HL2 := Lib.hid (h5.loadW 40 Tryz.underlying40 rfl (by rw [hmi.size]; kernel_rfl))
   have HC := Lib.hid (mcopyz_any m h5 hmi)
   have htk : ms.take (k + 1) = ms.take k ++ [m] := by rw [hmm, List.take_append_getElem]
   have HQ := Lib.hid (And.intro hkn (And.intro hrs htk))
   clear hs h4 h5 HT hmi hld hi' hrs hkn hmm hml htk hk
   (try dsimp only); repeat' (first | (with_reducible show wpList _ _ _ (Oper.mk _ (Op.load 40 _) _ _ _ _ :: _) _ _; refine stopP ?_) | go_values | go_skip | go_guarded | go_step | go_upon | go_back)
   unfold StopP
   have hq_ := HL.out
   refine wpList_load_run rfl 40 _ rfl _ _ rfl hq_ ?_
   clear hq_
   (try dsimp only); repeat' (first | (with_reducible show wpList _ _ _ (Oper.mk _ (Op.store 40 _ _) _ _ _ _ :: _) _ _; refine stopP ?_) | go_values | go_skip | go_guarded | go_step | go_upon | go_back)
   unfold StopP
   refine wpList_store_mid rfl 40 (.tmp 7) (.tmp 16) rfl wr.heap.size 0 cm rfl rfl HTH.out HI.out HO.out ?_
   rw [← hw5, ← hb7]
   clear hw5 hb7 HTH
   (try dsimp only); repeat' (first | (with_reducible show wpList _ _ _ (Oper.mk _ (Op.load 40 _) _ _ _ _ :: _) _ _; refine stopP ?_) | go_values | go_skip | go_guarded | go_step | go_upon | go_back)
   unfold StopP
   have hq_ := HL2.out
   refine wpList_load_run rfl 40 _ rfl _ _ rfl hq_ ?_
   clear hq_
   (try dsimp only); repeat' (first | go_values | go_skip | go_guarded | go_step | go_upon | go_back)
   refine HC.out.mono ?_
   rintro r0 w6 ⟨u, hu, rfl, h6⟩
   have h7 := h6.alloc (.cells u 40)
   have hrl : rs.length = k := by rw [HQ.out.2.1.1, List.length_take]; have := HQ.out.1; have := HX.out.1.1; have := HX.out.2.1; omega
   obtain ⟨a8, c8, w8, hr, h8⟩ := append_ms (rows := rs) (c := u) (b := w6.heap.size) (v := .slice av k cv) (L := Ro 22 40 (.slice (some ⟨b, off, none⟩) n c) n (msCs rows) :: L) 44 (show Sep w0 (Cl w6.heap.size u 40 :: Rn 22 40 (.slice av k cv) rs.length (msCs rs) :: Ro 22 40 (.slice (some ⟨b, off, none⟩) n c) n (msCs rows) :: L) (w6.alloc (.cells u 40)) from by rw [hrl]; exact h7.pickL (M := [_, _, _, _]) [0, 2, 3] rfl) hu.size hu.one (by omega)
   rw [hrl] at hr
   have HR := Lib.hid hr
   have hrs2 := HQ.out.2.1.snoc hu
   rw [← HQ.out.2.2] at hrs2
   have h9 : Sep w0 (Rn 22 40 (.slice a8 (k + 1) c8) (k + 1) (msCs (rs ++ [u])) :: Ro 22 40 (.slice (some ⟨b, off, none⟩) n c) n (msCs rows) :: L) w8 := by
    have h9 : Sep w0 (Rn 22 40 (.slice a8 (rs.length + 1) c8) (rs ++ [u]).length (msCs (rs ++ [u])) :: Ro 22 40 (.slice (some ⟨b, off, none⟩) n c) n (msCs rows) :: L) w8 := h8
    rw [List.length_append, hrl] at h9
    exact h9
   have H9 := Lib.hid (And.intro hrs2 h9)
   have HU := Lib.hid hu.size
   clear HC h6 h7 h8 h9 hr hrl hrs2 hu
   (try dsimp only); repeat' (first | (with_reducible show wpList _ _ _ (Oper.mk _ (Op.buildSlice _ _ _) _ _ _ _ :: _) _ _; refine stopP ?_) | go_values | go_skip | go_guarded | go_step | go_upon | go_back)
   unfold StopP
   refine wpList_buildM rfl _ rfl HU.out rfl ?_
   (try dsimp only); repeat' (first | (at_builtin; refine stopP ?_) | go_values | go_skip | go_guarded | go_step | go_upon | go_back)
   unfold StopP
   refine wpList_append_r rfl _ _ _ _ rfl rfl rfl HR.out ?_
   (try dsimp only); repeat' (first | go_values | go_skip | go_guarded | go_step | go_upon | go_back)
   go_roundw
   case rel => exact ⟨k + 1, rs ++ [u], a8, c8, by have := HQ.out.1; omega, rfl, by go_num, H9.out.1, H9.out.2⟩
   case measure => have := HQ.out.1; simp [intOf]; omega
  ·have hd : decide (k < n) = false := decide_eq_false hkn
   obtain rfl : k = n := by omega
   rw [List.take_of_length_le (by omega)] at hrs
   have HS := Lib.hid (And.intro hrs hs)
   clear hs hrs hkn hk hml
   (try dsimp only); repeat' (first | go_values | go_skip | go_guarded | go_step | go_upon | go_back)
   go_ret
   exact ⟨_, _, _, rfl, HS.out.1, HS.out.2⟩
theorem blist_any (h : Sep w0 (BagT g ms :: L) w) (hl : ms.length ≤ 100000) :
  Calls Tryz.prog 10 #[.pointer (some ⟨g, 0, none⟩)] w fun e w' => ∃ a c rows, e = .returned (.slice a ms.length c) ∧ MsgsC rows ms ∧ Sep w0 (Rn 22 40 (.slice a ms.length c) ms.length (msCs rows) :: BagT g ms :: L) w' := by
 obtain ⟨a, c, rows, hm, h1⟩ := h.bagOpen
 have HN := Lib.hid (bnone_any (h1.cell (o := 0) rfl))
 have c1 := h1.cell (o := 1) rfl
 have HC := Lib.hid (lcopym_any h1.sw2 hm hm.1 hl)
 have HM := Lib.hid hm
 obtain ⟨n, hn⟩ : ∃ z, z = ms.length := ⟨_, rfl⟩
 rw [← hn] at HC c1 ⊢
 have HE := Lib.hid hn
 clear h h1 hm hl hn
 go_enter Tryz.func10, Tryz.ntmps10
 (try dsimp only); repeat' (first | go_values | go_skip | go_guarded | go_step | go_upon | go_back)
 refine HN.out.mono ?_
 rintro r0 w1 ⟨rfl, rfl⟩
 clear HN
 (try dsimp only); repeat' (first | go_values | go_skip | go_guarded | go_step | go_upon | go_back)
 refine HC.out.mono ?_
 rintro r0 w2 ⟨a', c', rows', rfl, hm2, h2⟩
 have h3 : Sep w0 (BagT g ms :: _ :: L) w2 := Sep.bagClose HM.out (by rw [← HE.out]; exact h2.pickL (M := [_, _, _]) [2, 1, 0] rfl)
 have H3 := Lib.hid (And.intro hm2 h3.sw2)
 clear HC h2 h3 hm2
 (try dsimp only); repeat' (first | go_values | go_skip | go_guarded | go_step | go_upon | go_back)
 go_ret
 exact ⟨_, _, _, rfl, H3.out.1, H3.out.2⟩
end Go.Proofs.YtcnbmeiielkigaaGreatDoor
/- A cell of a row of one's own is stored to. -/
namespace Go.Proofs.YtcnbmeiielkigaaGreatDoor
open Go.RowKit
set_option linter.unusedVariables false
theorem Sep.rowForm {w0 w : World} {e : TypeId} {v : Value} {xs : List Value} {L : List Thing} (h : Sep w0 (Rw e v xs :: L) w) (hp : 0 < xs.length) :
  ∃ b c, v = .slice (some ⟨b, 0, none⟩) xs.length c ∧ xs.length ≤ c ∧ c ≤ maxLen ∧ (∀ k (hk : k < xs.length), w.cell? ⟨b, k, none⟩ = some xs[k]) ∧ (∀ k, w.frozen? ⟨b, k, none⟩ = false) ∧
   ∀ k x, k < xs.length → Sep w0 (Rw e v (xs.set k x) :: L) (w.setCell ⟨b, k, none⟩ x) := by
 have ho := h.rw_
 rcases ho.2 with ⟨_, h0⟩ | ⟨b, c, cur, rfl, hb, hh, h1, h2, h3, h4⟩
 ·omega
 ·refine ⟨b, c, rfl, h1, h2, fun k hk => ?_, fun k => ?_, fun k x hk => ?_⟩
  ·unfold World.cell?
   rw [hh]
   have : cur[k]? = some xs[k] := by
    have h5 : xs[k]? = some xs[k] := List.getElem?_eq_getElem hk
    conv at h5 => lhs; rw [← h4]
    rw [List.getElem?_take, if_pos (by omega)] at h5
    simpa using h5
   simpa using this
  ·unfold World.frozen?; rw [hh]; simp
  ·refine h.change (loc_rw _ _ _) fun F hF hlt => ⟨F, ⟨⟨w0.heap.size, ?_, .inr ⟨b, c, cur.setIfInBounds k x, by rw [List.length_set], hb, heap_setCell_at hh x, by rw [List.length_set]; exact h1, h2, by simpa using h3, ?_⟩⟩, hF.2⟩, fun j hj => ⟨.inl hj, by have := hlt j hj; simpa [World.setCell] using this⟩, chg_setCell ((hF.2 b).2 rfl) k x⟩
   ·simp
   ·rw [Array.toList_setIfInBounds, List.length_set]
    have e1 : cur.toList.take (xs.length * 1) = xs := h4
    rw [Nat.mul_one] at e1 ⊢
    conv => rhs; rw [← e1]
    rw [List.take_set]
/-- Bytes, whichever. -/
def Bys (xs : List Value) : Prop := ∀ u ∈ xs, ∃ z : Int, u = .int .u8 z
theorem Bys.set {xs : List Value} (h : Bys xs) (k : Nat) (z : Int) : Bys (xs.set k (.int .u8 z)) := fun u hu => by
 rcases List.mem_or_eq_of_mem_set hu with h1 | rfl
 ·exact h u h1
 ·exact ⟨z, rfl⟩
end Go.Proofs.YtcnbmeiielkigaaGreatDoor
/- The document's own item: names, kinds. -/
namespace Go.Proofs.YtcnbmeiielkigaaGreatDoor
open Go.RowKit
set_option linter.unusedVariables false
set_option linter.unusedSimpArgs false
def wthB (n a b : Int) : Bool := decide (a ≤ n) && decide (n ≤ b)
theorem within_any (n a b : Int) (w : World) : Calls Tryz.prog 92 #[.int .i64 n, .int .i64 a, .int .i64 b] w fun e w' => e = .returned (.bool (wthB n a b)) ∧ w = w' := by
 by_cases h1 : a ≤ n
 ·by_cases h2 : n ≤ b
  ·rw [show wthB n a b = true by simp [wthB, h1, h2]]
   go_enter Tryz.func92, Tryz.ntmps92
   go_wp2
   go_ret
   exact ⟨rfl, rfl⟩
  ·rw [show wthB n a b = false by simp [wthB, h2]]
   go_enter Tryz.func92, Tryz.ntmps92
   go_wp2
   go_ret
   exact ⟨rfl, rfl⟩
 ·rw [show wthB n a b = false by simp [wthB, h1]]
  go_enter Tryz.func92, Tryz.ntmps92
  go_wp2
  go_ret
  exact ⟨rfl, rfl⟩
theorem wthB_qty (n : Int) : wthB n 1 2147483647 = qtyB n := rfl
def skuK (k : Int) : Bool := (k == 1) || (k == 2) || (k == 8)
def ordK (k : Int) : Bool := (decide (3 ≤ k) && decide (k ≤ 6)) || (k == 9)
def numK (k : Int) : Bool := (decide (1 ≤ k) && decide (k ≤ 3)) || (k == 7)
theorem hasSku_any (k : Int) (w : World) : Calls Tryz.prog 102 #[.int .i64 k] w fun e w' => e = .returned (.bool (skuK k)) ∧ w = w' := by
 by_cases h1 : k = 1
 ·subst h1
  go_enter Tryz.func102, Tryz.ntmps102
  go_wp2
  go_ret
  exact ⟨rfl, rfl⟩
 ·by_cases h2 : k = 2
  ·subst h2
   go_enter Tryz.func102, Tryz.ntmps102
   go_wp2
   go_ret
   exact ⟨rfl, rfl⟩
  ·have e1 : (k == 1) = false := by rw [beq_eq_false_iff_ne]; exact h1
   have e2 : (k == 2) = false := by rw [beq_eq_false_iff_ne]; exact h2
   rw [show skuK k = (k == 8) by simp [skuK, e1, e2]]
   clear h1 h2
   go_enter Tryz.func102, Tryz.ntmps102
   go_wp2
   go_ret
   exact ⟨rfl, rfl⟩
theorem hasOrder_any (k : Int) (w : World) : Calls Tryz.prog 104 #[.int .i64 k] w fun e w' => e = .returned (.bool (ordK k)) ∧ w = w' := by
 by_cases h1 : 3 ≤ k
 ·by_cases h2 : k ≤ 6
  ·rw [show ordK k = true by simp [ordK, h1, h2]]
   go_enter Tryz.func104, Tryz.ntmps104
   go_wp2
   go_ret
   exact ⟨rfl, rfl⟩
  ·rw [show ordK k = (k == 9) by simp [ordK, h2]]
   go_enter Tryz.func104, Tryz.ntmps104
   go_wp2
   go_ret
   exact ⟨rfl, rfl⟩
 ·rw [show ordK k = (k == 9) by simp [ordK, h1]]
  go_enter Tryz.func104, Tryz.ntmps104
  go_wp2
  go_ret
  exact ⟨rfl, rfl⟩
theorem hasN_any (k : Int) (w : World) : Calls Tryz.prog 105 #[.int .i64 k] w fun e w' => e = .returned (.bool (numK k)) ∧ w = w' := by
 by_cases h1 : 1 ≤ k
 ·by_cases h2 : k ≤ 3
  ·rw [show numK k = true by simp [numK, h1, h2]]
   go_enter Tryz.func105, Tryz.ntmps105
   go_wp2
   go_ret
   exact ⟨rfl, rfl⟩
  ·rw [show numK k = (k == 7) by simp [numK, h2]]
   go_enter Tryz.func105, Tryz.ntmps105
   go_wp2
   go_ret
   exact ⟨rfl, rfl⟩
 ·rw [show numK k = (k == 7) by simp [numK, h1]]
  go_enter Tryz.func105, Tryz.ntmps105
  go_wp2
  go_ret
  exact ⟨rfl, rfl⟩
set_option maxHeartbeats 1000000 in
theorem rname_any (s : ByteArray) (w : World) (hs : s.size ≤ maxLen) : Calls Tryz.prog 103 #[.string s] w fun e w' => e = .returned (.bool (nameB s)) ∧ w = w' := by
 unfold maxLen at hs
 obtain ⟨r, hr⟩ : ∃ r, r = nameB s := ⟨_, rfl⟩
 rw [← hr]
 have HR : Hid (r = (decide (1 ≤ s.size) && decide (s.size ≤ 8) && s.data.toList.all goodC)) := Lib.hid hr
 clear hr
 go_enter Tryz.func103, Tryz.ntmps103
 go_wp2
 go_loop [3] (fun i => ∃ k : Nat, k ≤ s.size ∧ i = .int .i64 k ∧ (s.data.toList.take k).all goodC = true) (fun i => s.size - (intOf i).toNat)
 case atStart => exact ⟨0, Nat.zero_le _, rfl, by simp⟩
 case round =>
  obtain ⟨k, hk, rfl, ht⟩ := hrel
  have k0 : (0 : Int) ≤ (k : Int) := by omega
  by_cases hlt : k < s.size
  ·have hd : decide (k < s.size) = true := decide_eq_true hlt
   have hts := take_snoc s k hlt
   have hb8 : s[k].toNat < 256 := s[k].toNat_lt
   cases hg : goodC s[k] with
   | true =>
    have HT : Hid ((s.data.toList.take (k + 1)).all goodC = true) := Lib.hid (by rw [hts, List.all_append, ht]; simp [hg])
    have hok := goodC_ok hg
    clear hg hts ht
    by_cases a1 : 97 ≤ (s[k].toNat : Int)
    ·by_cases a2 : (s[k].toNat : Int) ≤ 122
     ·clear hok
      go_wp2
      go_round
      case rel => exact ⟨k + 1, hlt, by go_num, HT.out⟩
      case measure => simp [intOf]; omega
     ·exfalso; omega
    ·have a3 : 48 ≤ (s[k].toNat : Int) := by omega
     have a4 : (s[k].toNat : Int) ≤ 57 := by omega
     clear hok
     go_wp2
     go_round
     case rel => exact ⟨k + 1, hlt, by go_num, HT.out⟩
     case measure => simp [intOf]; omega
   | false =>
    have HF : Hid (r = false) := Lib.hid (by
     rw [HR.out]
     rw [Bool.and_eq_false_iff]
     right
     rw [List.all_eq_false]
     exact ⟨s[k], by
      have : s[k] ∈ s.data.toList := by simp [ByteArray.getElem_eq_getElem_data]
      exact this, by rw [hg]; simp⟩)
    have hbad := goodC_bad hg
    clear hg hts ht HR
    obtain ⟨b1, b2⟩ := hbad
    rcases b1 with b1 | b1 <;> rcases b2 with b2 | b2
    all_goals first | (exfalso; omega) | skip
    all_goals
     try have p1 : (48 : Int) ≤ (s[k].toNat : Int) := by omega
     try have p3 : decide ((s[k].toNat : Int) ≤ 57) = false := decide_eq_false (by omega)
     try have p4 : decide ((s[k].toNat : Int) ≤ 122) = false := decide_eq_false (by omega)
     try have p2 : (97 : Int) ≤ (s[k].toNat : Int) := by omega
     go_wp2
     go_ret
     first | exact ⟨congrArg (fun z => Ending.returned (.bool z)) HF.out.symm, rfl⟩ | (rw [HF.out]; exact ⟨rfl, rfl⟩)
  ·have hd : decide (k < s.size) = false := decide_eq_false hlt
   have hall : s.data.toList.all goodC = true := by rw [← ht, List.take_of_length_le (by simp; omega)]
   have HF : Hid (r = (decide (1 ≤ s.size) && decide (s.size ≤ 8))) := Lib.hid (by rw [HR.out, hall, Bool.and_true])
   clear ht HR hall
   by_cases h1 : 1 ≤ s.size
   ·by_cases h2 : s.size ≤ 8
    ·have g1 : (1 : Int) ≤ (s.size : Int) := by omega
     have g2 : (s.size : Int) ≤ 8 := by omega
     go_wp2
     go_ret
     rw [HF.out]
     simp [h1, h2]
    ·have g1 : (1 : Int) ≤ (s.size : Int) := by omega
     have g2 : ¬ (s.size : Int) ≤ 8 := by omega
     go_wp2
     go_ret
     rw [HF.out]
     simp [h1, h2]
   ·have g1 : ¬ (1 : Int) ≤ (s.size : Int) := by omega
    go_wp2
    go_ret
    rw [HF.out]
    simp [h1]
end Go.Proofs.YtcnbmeiielkigaaGreatDoor
/- The document's own item: lines, sameness. -/
namespace Go.Proofs.YtcnbmeiielkigaaGreatDoor
open Go.RowKit
set_option linter.unusedVariables false
set_option linter.unusedSimpArgs false
theorem linesB_eq (ls : List Ln) : linesB ls = (wthB (ls.length : Int) 1 4 && ls.all lineB && decide ((ls.map (·.1)).Nodup)) := by
 unfold linesB wthB
 have a1 : decide ((1 : Int) ≤ (ls.length : Int)) = decide (1 ≤ ls.length) := by rw [decide_eq_decide]; omega
 have a2 : decide ((ls.length : Int) ≤ 4) = decide (ls.length ≤ 4) := by rw [decide_eq_decide]; omega
 rw [a1, a2]
theorem ks_ne {a b : KS} (h : ¬ a = b) : (a.1.toList == b.1.toList) = false := str_ne fun e => h (Subtype.ext e)
theorem take_nd {ls : List Ln} {k : Nat} (hk : k < ls.length) (h : ((ls.take k).map (·.1)).Nodup) (hn : ∀ i (hi : i < k), ls[i].1 ≠ ls[k].1) : ((ls.take (k + 1)).map (·.1)).Nodup := by
 rw [List.take_succ_eq_append_getElem hk, List.map_append, List.nodup_append]
 refine ⟨h, by simp, fun a ha b hb => ?_⟩
 simp at hb
 subst hb
 obtain ⟨l, hl, rfl⟩ := List.mem_map.1 ha
 obtain ⟨i, hi, rfl⟩ := List.getElem_of_mem hl
 have hi2 : i < k := by rw [List.length_take] at hi; omega
 rw [List.getElem_take]
 exact hn i hi2
theorem not_nd {ls : List Ln} {i k : Nat} (hik : i < k) (hk : k < ls.length) (h : ls[i].1 = ls[k].1) : ¬ (ls.map (·.1)).Nodup := by
 intro hn
 rw [List.nodup_iff_pairwise_ne, List.pairwise_iff_getElem] at hn
 exact hn i k (by simp; omega) (by simp; omega) hik (by simpa using h)
set_option maxRecDepth 100000 in
set_option maxHeartbeats 16000000 in
theorem rlines_any {w0 w : World} {L : List Thing} (v : Value) (ls : List Ln) (hs : Sep w0 L w) (hv : LnS w v ls) (hl : ls.length ≤ 9223372036854775807) :
  Calls Tryz.prog 106 #[v] w fun e w' => e = .returned (.bool (linesB ls)) ∧ Sep w0 L w' := by
 obtain ⟨a, c, rfl⟩ := hv.len
 have HV := Lib.hid hv
 have HS := Lib.hid hs
 obtain ⟨r, hr⟩ : ∃ r : Bool, r = linesB ls := ⟨_, rfl⟩
 rw [← hr]
 have HR : Hid (r = (wthB (ls.length : Int) 1 4 && ls.all lineB && decide ((ls.map (·.1)).Nodup))) := Lib.hid (hr.trans (linesB_eq ls))
 clear hv hs hr
 go_enter Tryz.func106, Tryz.ntmps106
 go_wp2_with fail
 go_loopw [3] (fun i wr => ∃ k m : Nat, k ≤ ls.length ∧ i = .int .i64 k ∧ (ls.take k).all lineB = true ∧ ((ls.take k).map (·.1)).Nodup ∧ wr = w.drewN m) (fun i _ => ls.length - (intOf i).toNat)
 case atStart => exact ⟨0, 0, by omega, rfl, by simp, by simp, rfl⟩
 case round =>
  obtain ⟨k, m, hk, rfl, ht, hnd, rfl⟩ := hrel
  have k0 : (0 : Int) ≤ (k : Int) := by omega
  have kb : (k : Int) ≤ 9223372036854775807 := by omega
  have HT := Lib.hid ht
  have HND := Lib.hid hnd
  clear ht hnd
  by_cases hkn : k < ls.length
  ·have hd : decide (k < ls.length) = true := decide_eq_true hkn
   have k1 : (k : Int) < (ls.length : Int) := by omega
   obtain ⟨-, -, -, b1, o1, rfl, -, hc1⟩ := HV.out.at hkn
   obtain ⟨c0, c1⟩ := hc1 w (Below.refl _ w)
   obtain ⟨z, hz⟩ : ∃ z, z = ls[k] := ⟨_, rfl⟩
   rw [← hz] at c0 c1
   have HZ : Hid (∀ h : k < ls.length, z = ls[k]'h) := Lib.hid (fun _ => hz)
   have HN := Lib.hid (fun wx => rname_any z.1.1 wx z.1.2)
   have HW := Lib.hid (fun wx => within_any z.2 1 2147483647 wx)
   have HK := Lib.hid hkn
   cases h1 : nameB z.1.1 with
   | false =>
    have HF : Hid (r = false) := Lib.hid (by
     rw [HR.out]
     have : ls.all lineB = false := by
      rw [List.all_eq_false]
      exact ⟨z, by rw [hz]; exact List.getElem_mem hkn, by unfold lineB; rw [h1]; simp⟩
     rw [this]; simp)
    rw [h1] at HN
    clear h1 HW hz hc1 hkn
    go_wp2_with (refine (HN.out _).mono ?_; rintro r9 w9 ⟨rfl, rfl⟩)
    go_ret
    rw [HF.out]
    exact ⟨rfl, HS.out.drewN m⟩
   | true =>
    cases h2 : qtyB z.2 with
    | false =>
     have HF : Hid (r = false) := Lib.hid (by
      rw [HR.out]
      have : ls.all lineB = false := by
       rw [List.all_eq_false]
       exact ⟨z, by rw [hz]; exact List.getElem_mem hkn, by unfold lineB; rw [h2]; simp⟩
      rw [this]; simp)
     rw [h1] at HN
     rw [wthB_qty, h2] at HW
     clear h1 h2 hz hc1 hkn
     go_wp2_with (first | (refine (HN.out _).mono ?_; rintro r9 w9 ⟨rfl, rfl⟩) | (refine (HW.out _).mono ?_; rintro r9 w9 ⟨rfl, rfl⟩))
     go_ret
     rw [HF.out]
     exact ⟨rfl, HS.out.drewN m⟩
    | true =>
     have HT2 : Hid ((ls.take (k + 1)).all lineB = true) := Lib.hid (by rw [List.take_succ_eq_append_getElem hkn, List.all_append, HT.out, ← hz]; simp [lineB, h1, h2])
     rw [h1] at HN
     rw [wthB_qty, h2] at HW
     clear h1 h2 hz hc1 hkn
     go_wp2_with (first | (refine (HN.out _).mono ?_; rintro r9 w9 ⟨rfl, rfl⟩) | (refine (HW.out _).mono ?_; rintro r9 w9 ⟨rfl, rfl⟩))
     clear HN HW
     go_loopw [4] (fun i wr => ∃ j q : Nat, j ≤ k ∧ i = .int .i64 j ∧ (∀ i (hi : i < j) (hk : k < ls.length) (hik : i < ls.length), ls[i].1 ≠ ls[k].1) ∧ wr = w.drewN q) (fun i _ => k - (intOf i).toNat)
     case atStart => exact ⟨0, m, by omega, rfl, fun i hi => by omega, rfl⟩
     case round =>
      obtain ⟨j, q, hj, rfl, hdiff, rfl⟩ := hrel
      have j0 : (0 : Int) ≤ (j : Int) := by omega
      have HD := Lib.hid hdiff
      clear hdiff
      by_cases hjk : j < k
      ·have hd2 : decide (j < k) = true := decide_eq_true hjk
       have hjl : j < ls.length := by have := HK.out; omega
       have j1 : (j : Int) < (ls.length : Int) := by omega
       obtain ⟨-, -, -, b2, o2, he, -, hc2⟩ := HV.out.at hjl
       simp only [Option.some.injEq, Addr.mk.injEq, and_true] at he
       obtain ⟨rfl, rfl⟩ := he
       obtain ⟨d0, d1⟩ := hc2 w (Below.refl _ w)
       by_cases he : ls[j].1 = z.1
       ·have HF : Hid (r = false) := Lib.hid (by
         rw [HR.out, decide_eq_false (not_nd hjk HK.out (by rw [he, HZ.out HK.out])), Bool.and_false])
        have d0' : w.cell? ⟨b1, o1 + j * 2, none⟩ = some (.string z.1.1) := by rw [d0, he]
        clear d0 d1 hc2 he hjk hjl
        go_wp2_with fail
        go_quiet (fail)
        go_wp2_with fail
        go_ret
        rw [HF.out]
        exact ⟨rfl, (HS.out.drewN q).drewN nq⟩
       ·have e3 : (ls[j].1.1.toList == z.1.1.toList) = false := ks_ne he
        have HD2 : Hid (∀ i (hi : i < j + 1) (hk : k < ls.length) (hik : i < ls.length), ls[i].1 ≠ ls[k].1) := Lib.hid (fun i hi hk hik => by
         rcases Nat.lt_or_ge i j with h | h
         ·exact HD.out i h hk hik
         ·obtain rfl : i = j := by omega
          intro e
          exact he (by rw [e, HZ.out HK.out]))
        generalize ls[j] = y at *
        clear hc2 he hjk hjl
        go_wp2_with fail
        go_quiet (fail)
        go_wp2_with fail
        go_roundw
        case rel => exact ⟨j + 1, q + nq, of_decide_eq_true hd2, by go_num, HD2.out, by simp [World.drewN, Nat.add_assoc]⟩
        case measure => have := of_decide_eq_true hd2; simp [intOf]; omega
      ·have hd2 : decide (j < k) = false := decide_eq_false hjk
       have HND2 : Hid (((ls.take (k + 1)).map (·.1)).Nodup) := Lib.hid (take_nd HK.out HND.out fun i hi => HD.out i (by omega) HK.out (by have := HK.out; omega))
       clear hjk
       go_wp2_with fail
       go_roundw
       case rel => exact ⟨k + 1, q, HK.out, by go_num, HT2.out, HND2.out, rfl⟩
       case measure => have := HK.out; simp [intOf]; omega
  ·have hd : decide (k < ls.length) = false := decide_eq_false hkn
   have HF : Hid (r = wthB (ls.length : Int) 1 4) := Lib.hid (by
    have hkl : k = ls.length := by omega
    have h1 := HT.out
    have h2 := HND.out
    rw [hkl, List.take_length] at h1 h2
    rw [HR.out, h1, decide_eq_true h2, Bool.and_true, Bool.and_true])
   have HW := Lib.hid (within_any (ls.length : Int) 1 4 (w.drewN m))
   rw [← HF.out] at HW
   clear hkn
   go_wp2_with (refine HW.out.mono ?_; rintro r9 w9 ⟨rfl, rfl⟩)
   go_ret
   exact ⟨rfl, HS.out.drewN m⟩
end Go.Proofs.YtcnbmeiielkigaaGreatDoor
/- Texts turned into bytes. -/
namespace Go.Proofs.YtcnbmeiielkigaaGreatDoor
open Go.RowKit
set_option linter.unusedVariables false
end Go.Proofs.YtcnbmeiielkigaaGreatDoor
/- Contracts of the small functions on bytes: EqBytes, CopyBytes, slices.Grow, slices.Concat, slices.Clone. -/
namespace Go.Proofs.YtcnbmeiielkigaaGreatDoor
open Go.RowKit
set_option linter.unusedVariables false

theorem info8 : (Tryz.prog.info? 5).map (fun i => (i.zero, i.size, i.bytes)) = some (some (.int .u8 0), 1, 1) := by kernel_rfl

theorem eqBytes_any (a b : Value) (la lb : List UInt8) (w : World) (ha : Sl w a (bv la)) (hb : Sl w b (bv lb)) :
  Calls Tryz.prog 62 #[a, b] w fun e w' => e = .returned (.bool (la == lb)) ∧ w = w' := by
 have ca := conv_bytes (P := Tryz.prog) Tryz.underlying35 Tryz.underlying5 Tryz.underlying9 ha
 have cb := conv_bytes (P := Tryz.prog) Tryz.underlying35 Tryz.underlying5 Tryz.underlying9 hb
 clear ha hb
 go_enter Tryz.func62, Tryz.ntmps62
 go_wp2
 go_ret
 exact ⟨rfl, rfl⟩

/-- One append of what reads as bytes. -/
theorem append8 {w : World} {ty : TypeId} {base : Nat} {v x : Value} {xs ys : List UInt8} (hown : Own w base 5 v (bv xs)) (hx : Sl w x (bv ys)) (hlen : xs.length + ys.length ≤ 2199023255552) (hbase : base ≤ w.heap.size) :
  ∃ v' w', (Builtin.append_ #[35, 35] ty #[v, x]).run Tryz.prog w = .ok v' w' ∧ Own w' base 5 v' (bv (xs ++ ys)) ∧ w.grownBy w' v.ownBlock ∧ (v' = .slice none 0 0 → v = .slice none 0 0) := by
 obtain ⟨i0, hi, hz0, hz1, hz2⟩ := info_parts info8
 rw [bv_append]
 exact run_append_sl (P := Tryz.prog) Tryz.underlying35 hi hz0 hz1 (by omega) rfl hown hx (bv_one ys) (by rw [bv_length, bv_length]; exact hlen) hbase

theorem own_nil (w : World) (base : Nat) : Own w base 5 (.slice none 0 0) (bv []) := World.ownsRow_nil w base 5 1

theorem copyBytes_any (v : Value) (l : List UInt8) (w : World) (h : Sl w v (bv l)) (hlen : l.length ≤ 2199023255552) :
  Calls Tryz.prog 65 #[v] w fun e w' => (∃ v', e = .returned v' ∧ Own w' w.heap.size 5 v' (bv l)) ∧ Below w.heap.size w w' := by
 obtain ⟨v', w', hr, ho, hg, _⟩ := append8 (ty := 35) (own_nil w w.heap.size) h (by simpa using hlen) (Nat.le_refl _)
 have hb := below_grown hg (Nat.le_refl _) (by intro k hk; cases hk)
 rw [List.nil_append] at ho
 have Hr := Lib.hid hr
 clear h hg hr
 go_enter Tryz.func65, Tryz.ntmps65
 go_wp2_with (at_builtin; refine wpList_append_run rfl _ _ _ _ rfl rfl rfl Hr.out ?_)
 go_ret
 exact ⟨⟨v', rfl, ho⟩, hb⟩

theorem clone_any (v : Value) (l : List UInt8) (w : World) (h : Sl w v (bv l)) (hlen : l.length ≤ 2199023255552) :
  Calls Tryz.prog 79 #[v] w fun e w' => (∃ v', e = .returned v' ∧ Own w' w.heap.size 5 v' (bv l)) ∧ Below w.heap.size w w' := by
 have h' := Lib.hid h
 have hL := h.len
 rw [bv_length] at hL
 obtain ⟨a, c, rfl⟩ := hL
 cases a with
 | none =>
  have hx : l = [] ∧ c = 0 := by
   rcases h with (⟨hv, hx⟩ | ⟨b, off, cap, hv, _⟩) | ⟨x, c, hv, hx⟩
   ·simp only [Value.slice.injEq] at hv
    exact ⟨(bv_nil_iff l).1 hx, hv.2.2⟩
   ·simp at hv
   ·simp at hv
  obtain ⟨rfl, rfl⟩ := hx
  rw [List.length_nil]
  have e1 := fun w => Lib.run_eql_slice_nil (P := Tryz.prog) w 35 5 none 0 0 0 0 Tryz.underlying35
  go_enter Tryz.func79, Tryz.ntmps79
  go_wp2
  go_ret
  exact ⟨⟨_, rfl, own_nil w _⟩, Below.refl _ _⟩
 | some x =>
  have e1 := fun w => Lib.run_eql_slice_nil (P := Tryz.prog) w 35 5 (some x) l.length c 0 0 Tryz.underlying35
  clear h
  have h0 : Own (w.alloc (.cells #[] 5)) w.heap.size 5 (.slice (some ⟨w.heap.size, 0, none⟩) 0 0) (bv []) := World.ownsRow_lit w #[] 0 (Nat.le_refl _) (by simp) rfl
  obtain ⟨v', w', hr, ho, hg, _⟩ := append8 (ty := 35) h0 (h'.out.below ((Below.refl w.heap.size w).alloc (Nat.le_refl _) _)) (by simpa using hlen) (by simp)
  have hb : Below w.heap.size w w' := ((Below.refl w.heap.size w).alloc (Nat.le_refl _) _).trans (below_grown hg (by simp) (by intro k hk; simp [Value.ownBlock] at hk; omega))
  rw [List.nil_append] at ho
  have H1 := Lib.hid hr
  clear hr hg h' h0
  go_enter Tryz.func79, Tryz.ntmps79
  go_wp2_with (at_builtin; refine wpList_append_run rfl _ _ _ _ rfl rfl rfl H1.out ?_)
  go_ret
  exact ⟨⟨v', rfl, ho⟩, hb⟩

end Go.Proofs.YtcnbmeiielkigaaGreatDoor
/- Contract of slices.Grow at bytes. -/
namespace Go.Proofs.YtcnbmeiielkigaaGreatDoor
open Go.RowKit
set_option linter.unusedVariables false
end Go.Proofs.YtcnbmeiielkigaaGreatDoor
/- Contract of slices.Concat at []byte: the bytes of all of its arguments, one behind the other, in new memory. -/
namespace Go.Proofs.YtcnbmeiielkigaaGreatDoor
open Go.RowKit
set_option linter.unusedVariables false

end Go.Proofs.YtcnbmeiielkigaaGreatDoor
