/- The document's bag: Copy, Take, Drop. -/
import Derived.RangeFuncNested
import Derived.RangeFuncLeaves
import Derived.Shelf.Abstract
import Derived.WalkKit
import Derived.OwnWalkIn
import Derived.TacticsInMore
import Derived.LoopNIn
import Derived.LoopIn
import Derived.Test.YtcnbmeiielkigaaGreatDoorMZ30
import Derived.Test.YtcnbmeiielkigaaGreatDoorMZ02
import Derived.Test.YtcnbmeiielkigaaGreatDoorMZ00
namespace Go.Proofs.YtcnbmeiielkigaaGreatDoor
open Go Go.RowKit
set_option linter.unusedVariables false
set_option linter.unusedSimpArgs false
variable {w0 w : World} {b : Nat} {gs : List MgM} {L : List Thing}
theorem zone : (#[.int .i64 0, .int .i64 0, .int .i64 0, .int .i64 0, .int .i64 0, .int .i64 0, .int .i64 0, .int .i64 0, .int .i64 0, .int .i64 0, .string ⟨#[]⟩, .int .i64 0, .int .i64 0, .slice none 0 0, .int .i64 0, .int .i64 0, .int .i64 0, .bool false, .int .i64 0, .slice none 0 0, .slice none 0 0, .int .i64 0] : Array Value).all (·.oneCell') = true := by kernel_rfl
theorem MOk.same {a b : MgM} (h : SameF a b) (hb : MOk b) (hc : chkB a = true) : MOk a := ⟨hc, by rw [h.ckl]; exact hb.2.1, by rw [h.psl]; exact hb.2.2.1, by rw [h.enp]; exact hb.2.2.2.1, by rw [h.1.2.2.2.2.2.2.2.2.2.2.2.2.2.1]; exact hb.2.2.2.2⟩
set_option maxRecDepth 100000 in
set_option maxHeartbeats 4000000 in
theorem dcopy_ok {i : Nat} (h : Sep w0 (DB b gs :: L) w) (hi : i < gs.length) (hk : MOk gs[i]) (hc : ∀ g2, SameF g2 gs[i] → chkB g2 = true) (hn : gs.length < 2000) :
  Calls Tryz.prog 24 #[.pointer (some ⟨b, 0, none⟩), .int .i64 i] w fun e w' => ∃ g2, e = .returned (.int .i64 0) ∧ SameF g2 gs[i] ∧ Sep w0 (DB b (gs ++ [g2]) :: L) w' := by
 have HA := Lib.hid (dat_ok h hi hk)
 obtain ⟨m, hm⟩ : ∃ z, z = gs[i] := ⟨_, rfl⟩
 rw [← hm] at HA hk hc ⊢
 have HK := Lib.hid (And.intro hk (And.intro hc hn))
 clear h hi hk hc hn hm
 go_enter Tryz.func24, Tryz.ntmps24
 (try dsimp only); repeat' (first | go_values | go_skip | go_guarded | go_step | go_upon | go_back)
 refine HA.out.mono ?_
 rintro r0 w1 ⟨g2, rfl, hs, h1⟩
 have hgm := gms_one h1.mtGm
 have HP := Lib.hid fun wx (hx : Sep w0 (DB b gs :: MT g2 :: L) wx) => dput_ok g2 hx (fun wy hy => hy.mtGm) (HK.out.1.same hs (HK.out.2.1 g2 hs)) HK.out.2.2
 obtain ⟨u, hu⟩ : ∃ z, z = mgC g2 := ⟨_, rfl⟩
 have hus : u.size = 22 := by rw [hu]; rfl
 have huo : u.all (·.oneCell') = true := by rw [hu]; exact hgm
 rw [← hu] at HP ⊢
 have HU := Lib.hid (And.intro hu hs)
 clear hu hs HA hgm
 have h2 := h1.alloc (.cells #[.int .i64 0, .int .i64 0, .int .i64 0, .int .i64 0, .int .i64 0, .int .i64 0, .int .i64 0, .int .i64 0, .int .i64 0, .int .i64 0, .string ⟨#[]⟩, .int .i64 0, .int .i64 0, .slice none 0 0, .int .i64 0, .int .i64 0, .int .i64 0, .bool false, .int .i64 0, .slice none 0 0, .slice none 0 0, .int .i64 0] 40)
 have HT2 := Lib.hid (h2.thereAt 0 22 (by simp))
 have h3 := h2.storeW u (by rw [hus]; rfl)
 have HI : Hid ((Tryz.prog.info? 40).map (·.size) = some u.size) := Lib.hid (by rw [hus]; kernel_rfl)
 have HO : Hid (u.all (·.oneCell') = true) := Lib.hid huo
 have HTH : Hid ((w1.alloc (.cells #[.int .i64 0, .int .i64 0, .int .i64 0, .int .i64 0, .int .i64 0, .int .i64 0, .int .i64 0, .int .i64 0, .int .i64 0, .int .i64 0, .string ⟨#[]⟩, .int .i64 0, .int .i64 0, .slice none 0 0, .int .i64 0, .int .i64 0, .int .i64 0, .bool false, .int .i64 0, .slice none 0 0, .slice none 0 0, .int .i64 0] 40)).there w1.heap.size 0 u.size) := Lib.hid (by rw [hus]; exact HT2.out)
 obtain ⟨b6, hb6⟩ : ∃ z, z = w1.heap.size := ⟨_, rfl⟩
 obtain ⟨w3, hw3⟩ : ∃ z, z = (w1.alloc (.cells #[.int .i64 0, .int .i64 0, .int .i64 0, .int .i64 0, .int .i64 0, .int .i64 0, .int .i64 0, .int .i64 0, .int .i64 0, .int .i64 0, .string ⟨#[]⟩, .int .i64 0, .int .i64 0, .slice none 0 0, .int .i64 0, .int .i64 0, .int .i64 0, .bool false, .int .i64 0, .slice none 0 0, .slice none 0 0, .int .i64 0] 40)).setCells w1.heap.size 0 u.toList := ⟨_, rfl⟩
 rw [← hw3, ← hb6] at h3
 have HL3 := Lib.hid (h3.loadW 40 Tryz.underlying40 rfl (by rw [hus]; kernel_rfl))
 have H3 := Lib.hid h3
 clear h1 h2 h3 HT2
 (try dsimp only); repeat' (first | (with_reducible show wpList _ _ _ (Oper.mk _ (Op.store 40 _ _) _ _ _ _ :: _) _ _; refine stopP ?_) | go_values | go_skip | go_guarded | go_step | go_upon | go_back)
 unfold StopP
 refine wpList_store_mid rfl 40 (.tmp 5) (.tmp 11) rfl w1.heap.size 0 u rfl rfl HTH.out HI.out HO.out ?_
 rw [← hw3, ← hb6]
 clear hw3 hb6 HTH
 (try dsimp only); repeat' (first | (with_reducible show wpList _ _ _ (Oper.mk _ (Op.load 40 _) _ _ _ _ :: _) _ _; refine stopP ?_) | go_values | go_skip | go_guarded | go_step | go_upon | go_back)
 unfold StopP
 have hq_ := HL3.out
 refine wpList_load_run rfl 40 _ rfl _ _ rfl hq_ ?_
 clear hq_
 (try dsimp only); repeat' (first | go_values | go_skip | go_guarded | go_step | go_upon | go_back)
 refine (HP.out _ (H3.out.drop.sw2)).mono ?_
 rintro r0 w4 ⟨g3, rfl, hs3, h4⟩
 have HF := Lib.hid (And.intro (hs3.trans HU.out.2) ((h4.sw2).drop))
 clear h4 hs3 HP H3 HL3
 (try dsimp only); repeat' (first | go_values | go_skip | go_guarded | go_step | go_upon | go_back)
 go_ret
 exact ⟨g3, rfl, HF.out.1, HF.out.2⟩
set_option maxRecDepth 100000 in
set_option maxHeartbeats 4000000 in
theorem dcopy_bad {i : Int} (h : Sep w0 (DB b gs :: L) w) (hi : i < 0 ∨ (gs.length : Int) ≤ i) :
  Calls Tryz.prog 24 #[.pointer (some ⟨b, 0, none⟩), .int .i64 i] w fun e w' => e = .returned (.int .i64 9) ∧ Sep w0 (DB b gs :: L) w' := by
 have HA := Lib.hid (dat_bad h hi)
 obtain ⟨u, hu⟩ : ∃ z, z = (#[.int .i64 0, .int .i64 0, .int .i64 0, .int .i64 0, .int .i64 0, .int .i64 0, .int .i64 0, .int .i64 0, .int .i64 0, .int .i64 0, .string ⟨#[]⟩, .int .i64 0, .int .i64 0, .slice none 0 0, .int .i64 0, .int .i64 0, .int .i64 0, .bool false, .int .i64 0, .slice none 0 0, .slice none 0 0, .int .i64 0] : Array Value) := ⟨_, rfl⟩
 have hus : u.size = 22 := by rw [hu]; rfl
 have huo : u.all (·.oneCell') = true := by rw [hu]; exact zone
 rw [← hu] at HA
 clear h hi
 go_enter Tryz.func24, Tryz.ntmps24
 (try dsimp only); repeat' (first | go_values | go_skip | go_guarded | go_step | go_upon | go_back)
 refine HA.out.mono ?_
 rintro r0 w1 ⟨rfl, h1⟩
 clear hu HA
 have h2 := h1.alloc (.cells #[.int .i64 0, .int .i64 0, .int .i64 0, .int .i64 0, .int .i64 0, .int .i64 0, .int .i64 0, .int .i64 0, .int .i64 0, .int .i64 0, .string ⟨#[]⟩, .int .i64 0, .int .i64 0, .slice none 0 0, .int .i64 0, .int .i64 0, .int .i64 0, .bool false, .int .i64 0, .slice none 0 0, .slice none 0 0, .int .i64 0] 40)
 have HT2 := Lib.hid (h2.thereAt 0 22 (by simp))
 have h3 := h2.storeW u (by rw [hus]; rfl)
 have HI : Hid ((Tryz.prog.info? 40).map (·.size) = some u.size) := Lib.hid (by rw [hus]; kernel_rfl)
 have HO : Hid (u.all (·.oneCell') = true) := Lib.hid huo
 have HTH : Hid ((w1.alloc (.cells #[.int .i64 0, .int .i64 0, .int .i64 0, .int .i64 0, .int .i64 0, .int .i64 0, .int .i64 0, .int .i64 0, .int .i64 0, .int .i64 0, .string ⟨#[]⟩, .int .i64 0, .int .i64 0, .slice none 0 0, .int .i64 0, .int .i64 0, .int .i64 0, .bool false, .int .i64 0, .slice none 0 0, .slice none 0 0, .int .i64 0] 40)).there w1.heap.size 0 u.size) := Lib.hid (by rw [hus]; exact HT2.out)
 obtain ⟨b6, hb6⟩ : ∃ z, z = w1.heap.size := ⟨_, rfl⟩
 obtain ⟨w3, hw3⟩ : ∃ z, z = (w1.alloc (.cells #[.int .i64 0, .int .i64 0, .int .i64 0, .int .i64 0, .int .i64 0, .int .i64 0, .int .i64 0, .int .i64 0, .int .i64 0, .int .i64 0, .string ⟨#[]⟩, .int .i64 0, .int .i64 0, .slice none 0 0, .int .i64 0, .int .i64 0, .int .i64 0, .bool false, .int .i64 0, .slice none 0 0, .slice none 0 0, .int .i64 0] 40)).setCells w1.heap.size 0 u.toList := ⟨_, rfl⟩
 rw [← hw3, ← hb6] at h3
 have HL3 := Lib.hid (h3.loadW 40 Tryz.underlying40 rfl (by rw [hus]; kernel_rfl))
 have H3 := Lib.hid h3
 clear h1 h2 h3 HT2
 (try dsimp only); repeat' (first | (with_reducible show wpList _ _ _ (Oper.mk _ (Op.store 40 _ _) _ _ _ _ :: _) _ _; refine stopP ?_) | go_values | go_skip | go_guarded | go_step | go_upon | go_back)
 unfold StopP
 refine wpList_store_mid rfl 40 (.tmp 5) (.tmp 11) rfl w1.heap.size 0 u rfl rfl HTH.out HI.out HO.out ?_
 rw [← hw3, ← hb6]
 clear hw3 hb6 HTH
 (try dsimp only); repeat' (first | go_values | go_skip | go_guarded | go_step | go_upon | go_back)
 go_ret
 exact ⟨rfl, H3.out.drop⟩
set_option maxRecDepth 100000 in
set_option maxHeartbeats 4000000 in
theorem dtake_bad {i : Int} (h : Sep w0 (DB b gs :: L) w) (hi : i < 0 ∨ (gs.length : Int) ≤ i) :
  Calls Tryz.prog 25 #[.pointer (some ⟨b, 0, none⟩), .int .i64 i] w fun e w' => e = .returned (.tuple #[.agg #[.int .i64 0, .int .i64 0, .int .i64 0, .int .i64 0, .int .i64 0, .int .i64 0, .int .i64 0, .int .i64 0, .int .i64 0, .int .i64 0, .string ⟨#[]⟩, .int .i64 0, .int .i64 0, .slice none 0 0, .int .i64 0, .int .i64 0, .int .i64 0, .bool false, .int .i64 0, .slice none 0 0, .slice none 0 0, .int .i64 0], .int .i64 9]) ∧ Sep w0 (DB b gs :: L) w' := by
 have h0 := h.alloc (.cells #[.int .i64 0, .int .i64 0, .int .i64 0, .int .i64 0, .int .i64 0, .int .i64 0, .int .i64 0, .int .i64 0, .int .i64 0, .int .i64 0, .string ⟨#[]⟩, .int .i64 0, .int .i64 0, .slice none 0 0, .int .i64 0, .int .i64 0, .int .i64 0, .bool false, .int .i64 0, .slice none 0 0, .slice none 0 0, .int .i64 0] 40)
 have HA := Lib.hid (dat_bad h0.sw2 hi)
 obtain ⟨u, hu⟩ : ∃ z, z = (#[.int .i64 0, .int .i64 0, .int .i64 0, .int .i64 0, .int .i64 0, .int .i64 0, .int .i64 0, .int .i64 0, .int .i64 0, .int .i64 0, .string ⟨#[]⟩, .int .i64 0, .int .i64 0, .slice none 0 0, .int .i64 0, .int .i64 0, .int .i64 0, .bool false, .int .i64 0, .slice none 0 0, .slice none 0 0, .int .i64 0] : Array Value) := ⟨_, rfl⟩
 have hus : u.size = 22 := by rw [hu]; rfl
 have huo : u.all (·.oneCell') = true := by rw [hu]; exact zone
 obtain ⟨b4, hb4⟩ : ∃ z, z = w.heap.size := ⟨_, rfl⟩
 obtain ⟨w2, hw2⟩ : ∃ z, z = w.alloc (.cells #[.int .i64 0, .int .i64 0, .int .i64 0, .int .i64 0, .int .i64 0, .int .i64 0, .int .i64 0, .int .i64 0, .int .i64 0, .int .i64 0, .string ⟨#[]⟩, .int .i64 0, .int .i64 0, .slice none 0 0, .int .i64 0, .int .i64 0, .int .i64 0, .bool false, .int .i64 0, .slice none 0 0, .slice none 0 0, .int .i64 0] 40) := ⟨_, rfl⟩
 rw [← hw2, ← hb4] at HA
 clear h h0 hi
 go_enter Tryz.func25, Tryz.ntmps25
 (try dsimp only); repeat' (first | go_values | go_skip | go_guarded | go_step | go_upon | go_back)
 rw [← hw2, ← hb4]
 clear hw2 hb4
 refine HA.out.mono ?_
 rintro r0 w1 ⟨rfl, h1⟩
 rw [← hu] at h1 ⊢
 have HU := Lib.hid hu
 clear HA hu
 have h2 := h1.alloc (.cells #[.int .i64 0, .int .i64 0, .int .i64 0, .int .i64 0, .int .i64 0, .int .i64 0, .int .i64 0, .int .i64 0, .int .i64 0, .int .i64 0, .string ⟨#[]⟩, .int .i64 0, .int .i64 0, .slice none 0 0, .int .i64 0, .int .i64 0, .int .i64 0, .bool false, .int .i64 0, .slice none 0 0, .slice none 0 0, .int .i64 0] 40)
 have HT2 := Lib.hid (h2.thereAt 0 22 (by simp))
 have h3 := h2.storeW u (by rw [hus]; rfl)
 have HI : Hid ((Tryz.prog.info? 40).map (·.size) = some u.size) := Lib.hid (by rw [hus]; kernel_rfl)
 have HO : Hid (u.all (·.oneCell') = true) := Lib.hid huo
 have HTH : Hid ((w1.alloc (.cells #[.int .i64 0, .int .i64 0, .int .i64 0, .int .i64 0, .int .i64 0, .int .i64 0, .int .i64 0, .int .i64 0, .int .i64 0, .int .i64 0, .string ⟨#[]⟩, .int .i64 0, .int .i64 0, .slice none 0 0, .int .i64 0, .int .i64 0, .int .i64 0, .bool false, .int .i64 0, .slice none 0 0, .slice none 0 0, .int .i64 0] 40)).there w1.heap.size 0 u.size) := Lib.hid (by rw [hus]; exact HT2.out)
 obtain ⟨b6, hb6⟩ : ∃ z, z = w1.heap.size := ⟨_, rfl⟩
 obtain ⟨w3, hw3⟩ : ∃ z, z = (w1.alloc (.cells #[.int .i64 0, .int .i64 0, .int .i64 0, .int .i64 0, .int .i64 0, .int .i64 0, .int .i64 0, .int .i64 0, .int .i64 0, .int .i64 0, .string ⟨#[]⟩, .int .i64 0, .int .i64 0, .slice none 0 0, .int .i64 0, .int .i64 0, .int .i64 0, .bool false, .int .i64 0, .slice none 0 0, .slice none 0 0, .int .i64 0] 40)).setCells w1.heap.size 0 u.toList := ⟨_, rfl⟩
 rw [← hw3, ← hb6] at h3
 have HL3 := Lib.hid (h3.loadW 40 Tryz.underlying40 rfl (by rw [hus]; kernel_rfl))
 have H3 := Lib.hid h3
 clear h1 h2 h3 HT2
 (try dsimp only); repeat' (first | (with_reducible show wpList _ _ _ (Oper.mk _ (Op.store 40 _ _) _ _ _ _ :: _) _ _; refine stopP ?_) | go_values | go_skip | go_guarded | go_step | go_upon | go_back)
 unfold StopP
 refine wpList_store_mid rfl 40 (.tmp 6) (.tmp 13) rfl w1.heap.size 0 u rfl rfl HTH.out HI.out HO.out ?_
 rw [← hw3, ← hb6]
 clear hw3 hb6 HTH
 (try dsimp only); repeat' (first | (with_reducible show wpList _ _ _ (Oper.mk _ (Op.load 40 _) _ _ _ _ :: _) _ _; refine stopP ?_) | go_values | go_skip | go_guarded | go_step | go_upon | go_back)
 unfold StopP
 have hq_ := HL3.out
 refine wpList_load_run rfl 40 _ rfl _ _ rfl hq_ ?_
 clear hq_
 have h4 := H3.out.sw3.storeW u rfl
 have HT4 : Hid (w3.there b4 0 u.size) := Lib.hid (by rw [hus]; exact H3.out.sw3.thereAt 0 22 (by rw [hus]; exact Nat.le_refl _))
 have HV := Lib.hid (h4.loadV 40 Tryz.underlying40 rfl (by rw [hus]; kernel_rfl))
 have H4 := Lib.hid h4.drop.drop
 clear h4
 (try dsimp only); repeat' (first | (with_reducible show wpList _ _ _ (Oper.mk _ (Op.store 40 _ _) _ _ _ _ :: _) _ _; refine stopP ?_) | go_values | go_skip | go_guarded | go_step | go_upon | go_back)
 unfold StopP
 refine wpList_store_mid rfl 40 (.tmp 4) (.tmp 17) rfl b4 0 u rfl rfl HT4.out HI.out HO.out ?_
 (try dsimp only); repeat' (first | go_values | go_skip | go_guarded | go_step | go_upon | go_back)
 exact bodyPost_ret (results_cell2 rfl rfl HV.out rfl) rfl ⟨by rw [← HU.out]; rfl, H4.out⟩
theorem msCs_take {rows : List (Array Value)} (h : Rows22 rows) (k : Nat) : ∀ (j : Nat) (u : Value), (msCs (rows.take k))[j]? = some u → (msCs rows)[j]? = some u := by
 intro j u hj
 have e : msCs rows = msCs (rows.take k) ++ msCs (rows.drop k) := by rw [← msCs_app, List.take_append_drop]
 rw [e, List.getElem?_append_left (by obtain ⟨h1, -⟩ := List.getElem?_eq_some_iff.1 hj; exact h1)]
 exact hj
theorem msCs_drop {rows : List (Array Value)} (h : Rows22 rows) (k : Nat) (hk : k ≤ rows.length) : ∀ (j : Nat) (u : Value), (msCs (rows.drop k))[j]? = some u → (msCs rows)[k * 22 + j]? = some u := by
 intro j u hj
 have e : msCs rows = msCs (rows.take k) ++ msCs (rows.drop k) := by rw [← msCs_app, List.take_append_drop]
 have hl : (msCs (rows.take k)).length = k * 22 := by rw [msCs_len (fun c hc => h c (List.mem_of_mem_take hc)), List.length_take, Nat.min_eq_left hk]
 rw [e, List.getElem?_append_right (by omega), hl, Nat.add_sub_cancel_left]
 exact hj
theorem msCs_one {rows : List (Array Value)} {ms : List (Array Value)} (h : MsgsG rows ms) : ∀ u ∈ msCs rows, u.oneCell' = true := by
 intro u hu
 obtain ⟨cc, hcc, hu2⟩ := List.mem_flatMap.1 hu
 obtain ⟨k, hk, rfl⟩ := List.getElem_of_mem hcc
 exact (h.2 k hk (by rw [← h.1]; exact hk)).one u hu2
/-- 'append' of some elements that stand in a row of messages. -/
theorem append_mp {v : Value} {n m c b off : Nat} {xs news : List Value} (ty : TypeId) (h : Sep w0 (Rn 22 40 v n xs :: L) w) (hl : news.length = m * 22) (hnews : ∀ j u, news[j]? = some u → w.cell? ⟨b, off + j, none⟩ = some u) (h1 : ∀ u ∈ news, u.oneCell' = true) (hlen : n + m ≤ 10000000) :
  ∃ a k w', (Builtin.append_ #[44, 44] ty #[v, .slice (some ⟨b, off, none⟩) m c]).run Tryz.prog w = .ok (.slice a (n + m) k) w' ∧ Sep w0 (Rn 22 40 (.slice a (n + m) k) (n + m) (xs ++ news) :: L) w' := by
 obtain ⟨i, hi, he⟩ := Option.map_eq_some_iff.1 infoMs
 simp only [Prod.mk.injEq, decide_eq_true_eq] at he
 obtain ⟨z, hz, hz2⟩ := Option.map_eq_some_iff.1 he.2.2
 obtain ⟨v', w', hr, h2⟩ := append_rn (P := Tryz.prog) (ty := ty) (c := c) Tryz.underlying44 hi hz he.1 he.2.1 hz2 (by decide) h hl hnews h1 (by omega)
 obtain ⟨a, k, rfl, -⟩ := h2.rnForm
 exact ⟨a, k, w', hr, h2⟩
set_option maxRecDepth 100000 in
set_option maxHeartbeats 8000000 in
theorem dtake_ok {i : Nat} (h : Sep w0 (DB b gs :: L) w) (hi : i < gs.length) (hk : MOk gs[i]) (hn : gs.length ≤ 2000) :
  Calls Tryz.prog 25 #[.pointer (some ⟨b, 0, none⟩), .int .i64 i] w fun e w' => ∃ g2, e = .returned (.tuple #[.agg (mgC g2), .int .i64 0]) ∧ SameF g2 gs[i] ∧ Sep w0 (MT g2 :: DB b (gs.eraseIdx i) :: L) w' := by
 have h0 := h.alloc (.cells #[.int .i64 0, .int .i64 0, .int .i64 0, .int .i64 0, .int .i64 0, .int .i64 0, .int .i64 0, .int .i64 0, .int .i64 0, .int .i64 0, .string ⟨#[]⟩, .int .i64 0, .int .i64 0, .slice none 0 0, .int .i64 0, .int .i64 0, .int .i64 0, .bool false, .int .i64 0, .slice none 0 0, .slice none 0 0, .int .i64 0] 40)
 have HA := Lib.hid (dat_ok h0.sw2 hi hk)
 obtain ⟨b4, hb4⟩ : ∃ z, z = w.heap.size := ⟨_, rfl⟩
 obtain ⟨w2, hw2⟩ : ∃ z, z = w.alloc (.cells #[.int .i64 0, .int .i64 0, .int .i64 0, .int .i64 0, .int .i64 0, .int .i64 0, .int .i64 0, .int .i64 0, .int .i64 0, .int .i64 0, .string ⟨#[]⟩, .int .i64 0, .int .i64 0, .slice none 0 0, .int .i64 0, .int .i64 0, .int .i64 0, .bool false, .int .i64 0, .slice none 0 0, .slice none 0 0, .int .i64 0] 40) := ⟨_, rfl⟩
 rw [← hw2, ← hb4] at HA
 obtain ⟨m, hm⟩ : ∃ z, z = gs[i] := ⟨_, rfl⟩
 rw [← hm] at HA ⊢
 have HIN := Lib.hid (And.intro hi hn)
 clear h h0 hi hm hk hn
 go_enter Tryz.func25, Tryz.ntmps25
 (try dsimp only); repeat' (first | go_values | go_skip | go_guarded | go_step | go_upon | go_back)
 rw [← hw2, ← hb4]
 clear hw2 hb4
 refine HA.out.mono ?_
 rintro r0 w1 ⟨g2, rfl, hs, h1⟩
 have hgm := gms_one h1.mtGm
 obtain ⟨u, hu⟩ : ∃ z, z = mgC g2 := ⟨_, rfl⟩
 have hus : u.size = 22 := by rw [hu]; rfl
 have huo : u.all (·.oneCell') = true := by rw [hu]; exact hgm
 rw [← hu]
 have HU := Lib.hid (And.intro hu hs)
 clear HA hu hs hgm
 have h2 := h1.alloc (.cells #[.int .i64 0, .int .i64 0, .int .i64 0, .int .i64 0, .int .i64 0, .int .i64 0, .int .i64 0, .int .i64 0, .int .i64 0, .int .i64 0, .string ⟨#[]⟩, .int .i64 0, .int .i64 0, .slice none 0 0, .int .i64 0, .int .i64 0, .int .i64 0, .bool false, .int .i64 0, .slice none 0 0, .slice none 0 0, .int .i64 0] 40)
 have HT2 := Lib.hid (h2.thereAt 0 22 (by simp))
 have h3 := h2.storeW u (by rw [hus]; rfl)
 have HI : Hid ((Tryz.prog.info? 40).map (·.size) = some u.size) := Lib.hid (by rw [hus]; kernel_rfl)
 have HO : Hid (u.all (·.oneCell') = true) := Lib.hid huo
 have HTH : Hid ((w1.alloc (.cells #[.int .i64 0, .int .i64 0, .int .i64 0, .int .i64 0, .int .i64 0, .int .i64 0, .int .i64 0, .int .i64 0, .int .i64 0, .int .i64 0, .string ⟨#[]⟩, .int .i64 0, .int .i64 0, .slice none 0 0, .int .i64 0, .int .i64 0, .int .i64 0, .bool false, .int .i64 0, .slice none 0 0, .slice none 0 0, .int .i64 0] 40)).there w1.heap.size 0 u.size) := Lib.hid (by rw [hus]; exact HT2.out)
 obtain ⟨b6, hb6⟩ : ∃ z, z = w1.heap.size := ⟨_, rfl⟩
 obtain ⟨w3, hw3⟩ : ∃ z, z = (w1.alloc (.cells #[.int .i64 0, .int .i64 0, .int .i64 0, .int .i64 0, .int .i64 0, .int .i64 0, .int .i64 0, .int .i64 0, .int .i64 0, .int .i64 0, .string ⟨#[]⟩, .int .i64 0, .int .i64 0, .slice none 0 0, .int .i64 0, .int .i64 0, .int .i64 0, .bool false, .int .i64 0, .slice none 0 0, .slice none 0 0, .int .i64 0] 40)).setCells w1.heap.size 0 u.toList := ⟨_, rfl⟩
 rw [← hw3, ← hb6] at h3
 have HL3 := Lib.hid (h3.loadW 40 Tryz.underlying40 rfl (by rw [hus]; kernel_rfl))
 have H3 := Lib.hid h3
 clear h1 h2 h3 HT2
 (try dsimp only); repeat' (first | (with_reducible show wpList _ _ _ (Oper.mk _ (Op.store 40 _ _) _ _ _ _ :: _) _ _; refine stopP ?_) | go_values | go_skip | go_guarded | go_step | go_upon | go_back)
 unfold StopP
 refine wpList_store_mid rfl 40 (.tmp 6) (.tmp 13) rfl w1.heap.size 0 u rfl rfl HTH.out HI.out HO.out ?_
 rw [← hw3, ← hb6]
 clear hw3 hb6 HTH
 have h4 : Sep w0 (MTs gs :: RBag b (gs.map mgC) :: Cl b6 u 40 :: MT g2 :: Cl b4 #[.int .i64 0, .int .i64 0, .int .i64 0, .int .i64 0, .int .i64 0, .int .i64 0, .int .i64 0, .int .i64 0, .int .i64 0, .int .i64 0, .string ⟨#[]⟩, .int .i64 0, .int .i64 0, .slice none 0 0, .int .i64 0, .int .i64 0, .int .i64 0, .bool false, .int .i64 0, .slice none 0 0, .slice none 0 0, .int .i64 0] 40 :: L) w3 := (((H3.out.sw3).dbOpen).sw2)
 have h5 : Sep w0 (RBag b (gs.map mgC) :: MTs (gs.eraseIdx i) :: Cl b6 u 40 :: MT g2 :: Cl b4 #[.int .i64 0, .int .i64 0, .int .i64 0, .int .i64 0, .int .i64 0, .int .i64 0, .int .i64 0, .int .i64 0, .int .i64 0, .int .i64 0, .string ⟨#[]⟩, .int .i64 0, .int .i64 0, .slice none 0 0, .int .i64 0, .int .i64 0, .int .i64 0, .bool false, .int .i64 0, .slice none 0 0, .slice none 0 0, .int .i64 0] 40 :: L) w3 := ((h4.mtsTake i HIN.out.1).drop).sw2
 obtain ⟨a, c, rows, hm, h6⟩ := h5.rbagOpen
 rw [List.length_map] at h6
 have hrl : rows.length = gs.length := by rw [hm.1, List.length_map]
 have c1 := h6.cell (o := 0) rfl
 obtain ⟨n, hn⟩ : ∃ z, z = gs.length := ⟨_, rfl⟩
 have hin : i < n := by rw [hn]; exact HIN.out.1
 have hn9 : n ≤ 2000 := by rw [hn]; exact HIN.out.2
 rw [← hn] at h6 hrl c1
 obtain ⟨a', c', hv', hnc, hcm, hxl, hcl⟩ := h6.sw2.roForm
 simp only [Value.slice.injEq] at hv'
 obtain ⟨rfl, -, rfl⟩ := hv'
 obtain ⟨g, off, rfl, -, hcl⟩ := hcl (by omega)
 have h22 := hm.r22
 have hone := msCs_one hm
 obtain ⟨k, hk⟩ : ∃ k, i + 1 = k := ⟨_, rfl⟩
 obtain ⟨p, hp⟩ : ∃ p, k + p = n := ⟨n - k, by omega⟩
 have hl1 : (msCs (rows.take i)).length = i * 22 := by rw [msCs_len (fun c hc => h22 c (List.mem_of_mem_take hc)), List.length_take, Nat.min_eq_left (by omega)]
 have hl2 : (msCs (rows.drop k)).length = p * 22 := by rw [msCs_len (fun c hc => h22 c (List.mem_of_mem_drop hc)), List.length_drop]; congr 1; omega
 obtain ⟨a5, k5, w5, hr5, h7⟩ := append_mp (v := .slice none 0 0) (n := 0) (m := i) (c := c) (b := g) (off := off) (xs := []) (news := msCs (rows.take i)) 44 (h6.rnNil 22 40) hl1 (fun j u hj => by
  have h9 := msCs_take h22 i j u hj
  obtain ⟨h10, h11⟩ := List.getElem?_eq_some_iff.1 h9
  rw [hcl j h10, h11]) (fun u hu => by
  obtain ⟨j, hj, rfl⟩ := List.getElem_of_mem hu
  exact hone _ (List.mem_of_getElem? (msCs_take h22 i j _ (List.getElem?_eq_getElem hj)))) (by omega)
 rw [Nat.zero_add, List.nil_append] at h7
 rw [Nat.zero_add] at hr5
 have c2 := h7.sw2.cell (o := 0) rfl
 obtain ⟨a'', c'', hv'', -, -, -, hcl2⟩ := h7.sw3.roForm
 simp only [Value.slice.injEq, true_and] at hv''
 obtain ⟨rfl, rfl⟩ := hv''
 obtain ⟨g', off', hgo, -, hcl2⟩ := hcl2 (by omega)
 simp only [Option.some.injEq, Addr.mk.injEq, and_true] at hgo
 obtain ⟨rfl, rfl⟩ := hgo
 obtain ⟨z6, hz6⟩ : ∃ z, z = (if c = k then off else off + k * 22) := ⟨_, rfl⟩
 obtain ⟨a6, k6, w6, hr6, h8⟩ := append_mp (v := .slice a5 i k5) (n := i) (m := p) (c := c - k) (b := g) (off := z6) (xs := msCs (rows.take i)) (news := msCs (rows.drop k)) 44 h7 hl2 (fun j u hj => by
  have h9 := msCs_drop h22 k (by omega) j u hj
  obtain ⟨h10, h11⟩ := List.getElem?_eq_some_iff.1 h9
  have h12 : j < (msCs (rows.drop k)).length := (List.getElem?_eq_some_iff.1 hj).1
  rw [hz6, if_neg (by intro hc; rw [hl2] at h12; omega), Nat.add_assoc, hcl2 _ h10, h11]) (fun u hu => by
  obtain ⟨j, hj, rfl⟩ := List.getElem_of_mem hu
  exact hone _ (List.mem_of_getElem? (msCs_drop h22 k (by omega) j _ (List.getElem?_eq_getElem hj)))) (by omega)
 have k1 := h8.sw2.cell (o := 0) rfl
 have kf := h8.sw2.frozen 0
 have h9 := h8.sw2.setCell 0 (.slice a6 (i + p) k6)
 have hel : (gs.eraseIdx i).length = i + p := by rw [List.length_eraseIdx, if_pos (by omega)]; omega
 have her := hm.erase i (by rw [List.length_map]; omega)
 rw [map_erase] at her
 have hec : msCs (rows.take i) ++ msCs (rows.drop k) = msCs (rows.eraseIdx i) := by rw [List.eraseIdx_eq_take_drop_succ, msCs_app, hk]
 rw [hec] at h9
 have h10 : Sep w0 (RBag b ((gs.eraseIdx i).map mgC) :: Ro 22 40 (.slice (some ⟨g, off, none⟩) n c) n (msCs rows) :: MTs (gs.eraseIdx i) :: Cl b6 u 40 :: MT g2 :: Cl b4 #[.int .i64 0, .int .i64 0, .int .i64 0, .int .i64 0, .int .i64 0, .int .i64 0, .int .i64 0, .int .i64 0, .int .i64 0, .int .i64 0, .string ⟨#[]⟩, .int .i64 0, .int .i64 0, .slice none 0 0, .int .i64 0, .int .i64 0, .int .i64 0, .bool false, .int .i64 0, .slice none 0 0, .slice none 0 0, .int .i64 0] 40 :: L) (w6.setCell ⟨b, 0, none⟩ (.slice a6 (i + p) k6)) := Sep.rbagClose her (by rw [List.length_map, hel]; exact (h9.sw2.roOf).sw2)
 have h11 : Sep w0 (Cl b4 #[.int .i64 0, .int .i64 0, .int .i64 0, .int .i64 0, .int .i64 0, .int .i64 0, .int .i64 0, .int .i64 0, .int .i64 0, .int .i64 0, .string ⟨#[]⟩, .int .i64 0, .int .i64 0, .slice none 0 0, .int .i64 0, .int .i64 0, .int .i64 0, .bool false, .int .i64 0, .slice none 0 0, .slice none 0 0, .int .i64 0] 40 :: Cl b6 u 40 :: MT g2 :: DB b (gs.eraseIdx i) :: L) (w6.setCell ⟨b, 0, none⟩ (.slice a6 (i + p) k6)) := (Sep.dbClose (h10.pickL (M := [_, _, _, _, _, _]) [0, 2, 5, 3, 4] rfl)).to4
 have HL7 := Lib.hid (h11.sw2.loadW 40 Tryz.underlying40 rfl (by rw [hus]; kernel_rfl))
 have HT7 : Hid (World.there _ b4 0 u.size) := Lib.hid (by rw [hus]; exact h11.thereAt 0 22 (by simp))
 have h12 := h11.storeW u (by rw [hus]; rfl)
 have HV := Lib.hid (h12.loadV 40 Tryz.underlying40 rfl (by rw [hus]; kernel_rfl))
 have HF := Lib.hid h12.drop.drop
 have HR5 := Lib.hid hr5
 have HR6 := Lib.hid hr6
 have i0 : (0 : Int) ≤ (i : Int) := by omega
 have i1 : (i : Int) ≤ (n : Int) := by omega
 have i2 : (n : Int) ≤ (c : Int) := by omega
 have i3 : (i : Int) ≤ (c : Int) := by omega
 have hkI : (i : Int) + 1 = (k : Int) := by omega
 have k0 : (0 : Int) ≤ (k : Int) := by omega
 have k9 : (k : Int) ≤ 100001 := by omega
 have k2 : (k : Int) ≤ (n : Int) := by omega
 have k3 : (k : Int) ≤ (c : Int) := by omega
 have hnk : n - k = p := by omega
 have HC := Lib.hid (And.intro hcm (And.intro hnc hp))
 clear h4 h5 h6 h7 h8 h9 h10 h11 h12 hm hrl hxl hcl hcl2 h22 hone hl1 hl2 hr5 hr6 hel her hec hin hn9 hn hcm hk
 (try dsimp only); repeat' (first | (at_builtin; refine stopP ?_) | go_values | go_skip | go_guarded | go_step | go_upon | go_back)
 unfold StopP
 refine wpList_append_r rfl _ _ _ _ rfl rfl rfl HR5.out ?_
 clear HR5 c1
 by_cases hck : c = k
 ·rw [if_pos hck] at hz6
  subst hz6
  subst hck
  rw [Nat.sub_self] at HR6
  (try dsimp only); repeat' (first | (at_builtin; refine stopP ?_) | go_values | go_skip | go_guarded | go_step | go_upon | go_back)
  unfold StopP
  refine wpList_append_r rfl _ _ _ _ rfl rfl rfl HR6.out ?_
  clear HR6 c2
  (try dsimp only); repeat' (first | (with_reducible show wpList _ _ _ (Oper.mk _ (Op.load 40 _) _ _ _ _ :: _) _ _; refine stopP ?_) | go_values | go_skip | go_guarded | go_step | go_upon | go_back)
  unfold StopP
  have hq_ := HL7.out
  refine wpList_load_run rfl 40 _ rfl _ _ rfl hq_ ?_
  clear hq_
  (try dsimp only); repeat' (first | (with_reducible show wpList _ _ _ (Oper.mk _ (Op.store 40 _ _) _ _ _ _ :: _) _ _; refine stopP ?_) | go_values | go_skip | go_guarded | go_step | go_upon | go_back)
  unfold StopP
  refine wpList_store_mid rfl 40 (.tmp 4) (.tmp 39) rfl b4 0 u rfl rfl HT7.out HI.out HO.out ?_
  (try dsimp only); repeat' (first | go_values | go_skip | go_guarded | go_step | go_upon | go_back)
  exact bodyPost_ret (results_cell2 rfl rfl HV.out rfl) rfl ⟨g2, by rw [← HU.out.1]; rfl, HU.out.2, HF.out⟩
 ·rw [if_neg hck] at hz6
  subst hz6
  (try dsimp only); repeat' (first | (at_builtin; refine stopP ?_) | go_values | go_skip | go_guarded | go_step | go_upon | go_back)
  unfold StopP
  refine wpList_append_r rfl _ _ _ _ rfl rfl rfl HR6.out ?_
  clear HR6 c2
  (try dsimp only); repeat' (first | (with_reducible show wpList _ _ _ (Oper.mk _ (Op.load 40 _) _ _ _ _ :: _) _ _; refine stopP ?_) | go_values | go_skip | go_guarded | go_step | go_upon | go_back)
  unfold StopP
  have hq_ := HL7.out
  refine wpList_load_run rfl 40 _ rfl _ _ rfl hq_ ?_
  clear hq_
  (try dsimp only); repeat' (first | (with_reducible show wpList _ _ _ (Oper.mk _ (Op.store 40 _ _) _ _ _ _ :: _) _ _; refine stopP ?_) | go_values | go_skip | go_guarded | go_step | go_upon | go_back)
  unfold StopP
  refine wpList_store_mid rfl 40 (.tmp 4) (.tmp 39) rfl b4 0 u rfl rfl HT7.out HI.out HO.out ?_
  (try dsimp only); repeat' (first | go_values | go_skip | go_guarded | go_step | go_upon | go_back)
  exact bodyPost_ret (results_cell2 rfl rfl HV.out rfl) rfl ⟨g2, by rw [← HU.out.1]; rfl, HU.out.2, HF.out⟩
set_option maxRecDepth 100000 in
set_option maxHeartbeats 4000000 in
theorem ddrop_ok {i : Nat} (h : Sep w0 (DB b gs :: L) w) (hi : i < gs.length) (hk : MOk gs[i]) (hn : gs.length ≤ 2000) :
  Calls Tryz.prog 27 #[.pointer (some ⟨b, 0, none⟩), .int .i64 i] w fun e w' => e = .returned (.int .i64 0) ∧ Sep w0 (DB b (gs.eraseIdx i) :: L) w' := by
 have HA := Lib.hid (dtake_ok h hi hk hn)
 obtain ⟨m, hm⟩ : ∃ z, z = gs[i] := ⟨_, rfl⟩
 rw [← hm] at HA
 clear h hi hk hn hm
 go_enter Tryz.func27, Tryz.ntmps27
 (try dsimp only); repeat' (first | go_values | go_skip | go_guarded | go_step | go_upon | go_back)
 refine HA.out.mono ?_
 rintro r0 w1 ⟨g2, rfl, hs, h1⟩
 have hgm := gms_one h1.mtGm
 obtain ⟨u, hu⟩ : ∃ z, z = mgC g2 := ⟨_, rfl⟩
 have hus : u.size = 22 := by rw [hu]; rfl
 have huo : u.all (·.oneCell') = true := by rw [hu]; exact hgm
 rw [← hu]
 clear hu hs HA hgm
 have h2 := h1.alloc (.cells #[.int .i64 0, .int .i64 0, .int .i64 0, .int .i64 0, .int .i64 0, .int .i64 0, .int .i64 0, .int .i64 0, .int .i64 0, .int .i64 0, .string ⟨#[]⟩, .int .i64 0, .int .i64 0, .slice none 0 0, .int .i64 0, .int .i64 0, .int .i64 0, .bool false, .int .i64 0, .slice none 0 0, .slice none 0 0, .int .i64 0] 40)
 have HT2 := Lib.hid (h2.thereAt 0 22 (by simp))
 have h3 := h2.storeW u (by rw [hus]; rfl)
 have HI : Hid ((Tryz.prog.info? 40).map (·.size) = some u.size) := Lib.hid (by rw [hus]; kernel_rfl)
 have HO : Hid (u.all (·.oneCell') = true) := Lib.hid huo
 have HTH : Hid ((w1.alloc (.cells #[.int .i64 0, .int .i64 0, .int .i64 0, .int .i64 0, .int .i64 0, .int .i64 0, .int .i64 0, .int .i64 0, .int .i64 0, .int .i64 0, .string ⟨#[]⟩, .int .i64 0, .int .i64 0, .slice none 0 0, .int .i64 0, .int .i64 0, .int .i64 0, .bool false, .int .i64 0, .slice none 0 0, .slice none 0 0, .int .i64 0] 40)).there w1.heap.size 0 u.size) := Lib.hid (by rw [hus]; exact HT2.out)
 obtain ⟨b6, hb6⟩ : ∃ z, z = w1.heap.size := ⟨_, rfl⟩
 obtain ⟨w3, hw3⟩ : ∃ z, z = (w1.alloc (.cells #[.int .i64 0, .int .i64 0, .int .i64 0, .int .i64 0, .int .i64 0, .int .i64 0, .int .i64 0, .int .i64 0, .int .i64 0, .int .i64 0, .string ⟨#[]⟩, .int .i64 0, .int .i64 0, .slice none 0 0, .int .i64 0, .int .i64 0, .int .i64 0, .bool false, .int .i64 0, .slice none 0 0, .slice none 0 0, .int .i64 0] 40)).setCells w1.heap.size 0 u.toList := ⟨_, rfl⟩
 rw [← hw3, ← hb6] at h3
 have HL3 := Lib.hid (h3.loadW 40 Tryz.underlying40 rfl (by rw [hus]; kernel_rfl))
 have H3 := Lib.hid h3
 clear h1 h2 h3 HT2
 (try dsimp only); repeat' (first | (with_reducible show wpList _ _ _ (Oper.mk _ (Op.store 40 _ _) _ _ _ _ :: _) _ _; refine stopP ?_) | go_values | go_skip | go_guarded | go_step | go_upon | go_back)
 unfold StopP
 refine wpList_store_mid rfl 40 (.tmp 5) (.tmp 11) rfl w1.heap.size 0 u rfl rfl HTH.out HI.out HO.out ?_
 rw [← hw3, ← hb6]
 clear hw3 hb6 HTH
 (try dsimp only); repeat' (first | go_values | go_skip | go_guarded | go_step | go_upon | go_back)
 go_ret
 exact ⟨rfl, H3.out.drop.drop⟩
theorem ddrop_bad {i : Int} (h : Sep w0 (DB b gs :: L) w) (hi : i < 0 ∨ (gs.length : Int) ≤ i) :
  Calls Tryz.prog 27 #[.pointer (some ⟨b, 0, none⟩), .int .i64 i] w fun e w' => e = .returned (.int .i64 9) ∧ Sep w0 (DB b gs :: L) w' := by
 have HA := Lib.hid (dtake_bad h hi)
 obtain ⟨u, hu⟩ : ∃ z, z = (#[.int .i64 0, .int .i64 0, .int .i64 0, .int .i64 0, .int .i64 0, .int .i64 0, .int .i64 0, .int .i64 0, .int .i64 0, .int .i64 0, .string ⟨#[]⟩, .int .i64 0, .int .i64 0, .slice none 0 0, .int .i64 0, .int .i64 0, .int .i64 0, .bool false, .int .i64 0, .slice none 0 0, .slice none 0 0, .int .i64 0] : Array Value) := ⟨_, rfl⟩
 have hus : u.size = 22 := by rw [hu]; rfl
 have huo : u.all (·.oneCell') = true := by rw [hu]; exact zone
 rw [← hu] at HA
 clear h hi
 go_enter Tryz.func27, Tryz.ntmps27
 (try dsimp only); repeat' (first | go_values | go_skip | go_guarded | go_step | go_upon | go_back)
 refine HA.out.mono ?_
 rintro r0 w1 ⟨rfl, h1⟩
 clear hu HA
 have h2 := h1.alloc (.cells #[.int .i64 0, .int .i64 0, .int .i64 0, .int .i64 0, .int .i64 0, .int .i64 0, .int .i64 0, .int .i64 0, .int .i64 0, .int .i64 0, .string ⟨#[]⟩, .int .i64 0, .int .i64 0, .slice none 0 0, .int .i64 0, .int .i64 0, .int .i64 0, .bool false, .int .i64 0, .slice none 0 0, .slice none 0 0, .int .i64 0] 40)
 have HT2 := Lib.hid (h2.thereAt 0 22 (by simp))
 have h3 := h2.storeW u (by rw [hus]; rfl)
 have HI : Hid ((Tryz.prog.info? 40).map (·.size) = some u.size) := Lib.hid (by rw [hus]; kernel_rfl)
 have HO : Hid (u.all (·.oneCell') = true) := Lib.hid huo
 have HTH : Hid ((w1.alloc (.cells #[.int .i64 0, .int .i64 0, .int .i64 0, .int .i64 0, .int .i64 0, .int .i64 0, .int .i64 0, .int .i64 0, .int .i64 0, .int .i64 0, .string ⟨#[]⟩, .int .i64 0, .int .i64 0, .slice none 0 0, .int .i64 0, .int .i64 0, .int .i64 0, .bool false, .int .i64 0, .slice none 0 0, .slice none 0 0, .int .i64 0] 40)).there w1.heap.size 0 u.size) := Lib.hid (by rw [hus]; exact HT2.out)
 obtain ⟨b6, hb6⟩ : ∃ z, z = w1.heap.size := ⟨_, rfl⟩
 obtain ⟨w3, hw3⟩ : ∃ z, z = (w1.alloc (.cells #[.int .i64 0, .int .i64 0, .int .i64 0, .int .i64 0, .int .i64 0, .int .i64 0, .int .i64 0, .int .i64 0, .int .i64 0, .int .i64 0, .string ⟨#[]⟩, .int .i64 0, .int .i64 0, .slice none 0 0, .int .i64 0, .int .i64 0, .int .i64 0, .bool false, .int .i64 0, .slice none 0 0, .slice none 0 0, .int .i64 0] 40)).setCells w1.heap.size 0 u.toList := ⟨_, rfl⟩
 rw [← hw3, ← hb6] at h3
 have HL3 := Lib.hid (h3.loadW 40 Tryz.underlying40 rfl (by rw [hus]; kernel_rfl))
 have H3 := Lib.hid h3
 clear h1 h2 h3 HT2
 (try dsimp only); repeat' (first | (with_reducible show wpList _ _ _ (Oper.mk _ (Op.store 40 _ _) _ _ _ _ :: _) _ _; refine stopP ?_) | go_values | go_skip | go_guarded | go_step | go_upon | go_back)
 unfold StopP
 refine wpList_store_mid rfl 40 (.tmp 5) (.tmp 11) rfl w1.heap.size 0 u rfl rfl HTH.out HI.out HO.out ?_
 rw [← hw3, ← hb6]
 clear hw3 hb6 HTH
 (try dsimp only); repeat' (first | go_values | go_skip | go_guarded | go_step | go_upon | go_back)
 go_ret
 exact ⟨rfl, H3.out.drop⟩
end Go.Proofs.YtcnbmeiielkigaaGreatDoor
/- A loop over an iterator whose body is never left, told in things that lie beside each other: the loop's record and the block for its deferred calls are two of them. No statement is proved here. -/
namespace Go.Proofs.YtcnbmeiielkigaaGreatDoor
open Go Go.RowKit
set_option linter.unusedVariables false
/-- A block that is whole is turned. -/
theorem Sep.putObj {w0 w : World} {g : Nat} {o : Obj} {L : List Thing} (h : Sep w0 (Blk g o :: L) w) (o' : Obj) : Sep w0 (Blk g o' :: L) (w.putObj g o') := by
 have hg := h.blk_lt.2
 refine h.change (loc_blk _ _) fun F hF hlt => ⟨F, ⟨World.putObj_heap_same hg, hF.2⟩, fun k hk => ⟨.inl hk, by have := hlt k hk; simpa [World.putObj] using this⟩, ⟨rfl, rfl, rfl, by simp [World.putObj], fun k _ hn => ?_⟩⟩
 exact World.putObj_heap_other (fun e => hn (by rw [e]; exact (hF.2 g).2 rfl))
/-- How a round's body is left. -/
def onlyOn (K : World → Prop) : Exit → Act → World → Prop
 | .normal, _, W => K W
 | _, _, _ => False
end Go.Proofs.YtcnbmeiielkigaaGreatDoor
/- Slices of integers of one kind that came in, as lists. -/
namespace Go.Proofs.YtcnbmeiielkigaaGreatDoor
open Go.RowKit
set_option linter.unusedVariables false
/-- Integers as values. -/
def iv (k : IntKind) (l : List Int) : List Value := l.map (Value.int k)
theorem iv_length (k : IntKind) (l : List Int) : (iv k l).length = l.length := by simp [iv]
theorem iv_get (k : IntKind) (l : List Int) (j : Nat) (h : j < l.length) : (iv k l)[j]? = some (.int k (l[j])) := by simp [iv, h]
/-- One of them, read. -/
theorem Sl.at {w : World} {a : Option Addr} {n c : Nat} {xs : List Value} (h : Sl w (.slice a n c) xs) (hn : 0 < n) : ∃ b off, a = some ⟨b, off, none⟩ ∧ n = xs.length ∧ ∀ j u, xs[j]? = some u → w.cell? ⟨b, off + j, none⟩ = some u := by
 rcases h with (⟨hv, hx⟩ | ⟨b, off, cap, hv, _, _, _, hc⟩) | ⟨x, c, hv, hx⟩
 ·simp only [Value.slice.injEq] at hv; omega
 ·simp only [Value.slice.injEq] at hv
  exact ⟨b, off, hv.1, hv.2.1, hc⟩
 ·simp only [Value.slice.injEq] at hv; omega
end Go.Proofs.YtcnbmeiielkigaaGreatDoor
/- Slices of ints of the call's own, by themselves (without sorting). -/
namespace Go.Proofs.YtcnbmeiielkigaaGreatDoor
open Go.RowKit
set_option linter.unusedVariables false
theorem infoI : (Tryz.prog.info? 3).map (fun i => (i.zero, i.size, i.bytes)) = some (some (.int .i64 0), 1, 8) := by kernel_rfl
theorem iv_one (k : IntKind) (l : List Int) : ∀ u ∈ iv k l, u.oneCell' = true := by
 intro u hu
 obtain ⟨n, _, rfl⟩ := List.mem_map.1 hu
 rfl
abbrev Is (v : Value) (l : List Int) : Thing := Rw 3 v (iv .i64 l)
theorem appI {w0 w : World} {L : List Thing} {ty : TypeId} {v x : Value} {xs ys : List Int} (h : Sep w0 (Is v xs :: L) w) (hx : Sl w x (iv .i64 ys)) (hlen : xs.length + ys.length ≤ 2199023255552) :
  ∃ v' w', (Builtin.append_ #[56, 56] ty #[v, x]).run Tryz.prog w = .ok v' w' ∧ Sep w0 (Is v' (xs ++ ys) :: L) w' ∧ (v' = .slice none 0 0 → v = .slice none 0 0) := by
 obtain ⟨i0, hi, hz0, hz1, hz2⟩ := info_parts infoI
 unfold Is
 rw [show iv .i64 (xs ++ ys) = iv .i64 xs ++ iv .i64 ys by simp [iv]]
 exact append_sep (P := Tryz.prog) Tryz.underlying56 hi hz0 hz1 (by omega) rfl h hx (iv_one _ ys) (by rw [iv_length, iv_length]; exact hlen)
end Go.Proofs.YtcnbmeiielkigaaGreatDoor
