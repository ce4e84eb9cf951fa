/- The program's bag: List. -/
import Derived.Test.YtcnbmeiielkigaaGreatDoorMZ32
namespace Go.Proofs.YtcnbmeiielkigaaGreatDoor
open Go Go.RowKit
set_option linter.unusedVariables false
set_option linter.unusedSimpArgs false
variable {w0 w : World} {b : Nat} {gs : List MgM} {L : List Thing}
set_option maxRecDepth 100000 in
set_option maxHeartbeats 16000000 in
theorem plcopy_any {a : Option Addr} {n c : Nat} {rows : List (Array Value)} (h : Sep w0 (Ro 22 40 (.slice a n c) n (msCs rows) :: MTs gs :: L) w) (hm : MsgsG rows (gs.map mgC)) (hn : gs.length = n) (hl : n ≤ 100000) (hk : ∀ g ∈ gs, MOk g) :
  Calls Tryz.prog 35 #[.slice a n c, .func (.func 36) #[] #[]] w fun e w' => ∃ a' c' rs, e = .returned (.slice a' n c') ∧ rs.length = n ∧ SameL rs gs ∧ Sep w0 (RowT (.slice a' n c') rs :: Ro 22 40 (.slice a n c) n (msCs rows) :: MTs gs :: L) w' := by
 obtain ⟨i, hi, he⟩ := Option.map_eq_some_iff.1 infoMs
 simp only [Prod.mk.injEq, decide_eq_true_eq] at he
 obtain ⟨z, hz, hz2⟩ := Option.map_eq_some_iff.1 he.2.2
 obtain ⟨w1, hmk, hown, hgr⟩ := run_make_own (P := Tryz.prog) w w.heap.size 44 40 i z 22 Tryz.underlying44 hi hz he.1 .i64 .i64 n (by
  calc i.bytes * n ≤ 256 * 100000 := Nat.mul_le_mul he.2.1 hl
   _ ≤ 281474976710656 := by omega) (by unfold maxLen; omega) (Nat.le_refl _)
 have h1 : Sep w0 (Rn 22 40 (.slice (some ⟨w.heap.size, 0, none⟩) 0 n) 0 (msCs []) :: Ro 22 40 (.slice a n c) n (msCs rows) :: MTs gs :: L) w1 := h.new (loc_rn _ _ _ _ _) ⟨hgr.os, hgr.tape, hgr.output, hgr.size, fun k hk => hgr.block k hk (by simp)⟩ (F := fun k => (Value.slice (some ⟨w.heap.size, 0, none⟩) 0 n).ownBlock = some k) ⟨⟨_, hown⟩, fun _ => Iff.rfl⟩ fun k hk => ownsRow_lt hown k hk
 have h2 : Sep w0 (Rn 22 40 (.slice (some ⟨w.heap.size, 0, none⟩) 0 n) 0 (msCs (List.map mgC [])) :: MTs [] :: Ro 22 40 (.slice a n c) n (msCs rows) :: MTs gs :: L) w1 := h1.mtsNil.sw2
 have HM := Lib.hid hmk
 have H1 := Lib.hid h2
 have HX := Lib.hid (And.intro hm (And.intro hn (And.intro hl hk)))
 have n0 : (0 : Int) ≤ (n : Int) := by omega
 have n9 : (n : Int) ≤ 100000 := by omega
 clear h h1 h2 hm hn hl hi he hz hz2 hmk hown hgr hk
 go_enter Tryz.func35, Tryz.ntmps35
 (try dsimp only); repeat' (first | go_values | go_skip | go_guarded | go_step | go_upon | go_back)
 rw [HM.out]
 clear HM
 (try dsimp only); repeat' (first | go_values | go_skip | go_guarded | go_step | go_upon | go_back)
 go_loopw [5, 13] (fun pv i wr => ∃ (k : Nat) (rs : List MgM) (av : Option Addr) (cv : Nat), k ≤ n ∧ pv = .slice av k cv ∧ i = .int .i64 k ∧ rs.length = k ∧ SameL rs (gs.take k) ∧ Sep w0 (Rn 22 40 (.slice av k cv) k (msCs (rs.map mgC)) :: MTs rs :: Ro 22 40 (.slice a n c) n (msCs rows) :: MTs gs :: L) wr) (fun _ i _ => n - (intOf i).toNat)
 case atStart => exact ⟨0, [], _, _, Nat.zero_le _, rfl, rfl, rfl, SameL.nil, H1.out⟩
 case round =>
  obtain ⟨k, rs, av, cv, hk, rfl, rfl, hrl, hrs, hs⟩ := hrel
  clear H1
  have k0 : (0 : Int) ≤ (k : Int) := by omega
  have k9 : (k : Int) ≤ 100000 := by omega
  by_cases hkn : k < n
  ·have hd : decide (k < n) = true := decide_eq_true hkn
   have k1 : (k : Int) < (n : Int) := by omega
   have hkg : k < gs.length := by rw [HX.out.2.1]; exact hkn
   have hn9 : n ≤ 100000 := HX.out.2.2.1
   obtain ⟨hi', hmi⟩ := HX.out.1.at k (by rw [List.length_map]; exact hkg)
   obtain ⟨bb, off, rfl, -, hld, -⟩ := hs.sw3.roMsgG HX.out.1 k hi' (by rw [HX.out.1.1, List.length_map]; exact HX.out.2.1)
   rw [hmi.1, List.getElem_map] at hld
   have hgk := hs.sw4.mtsAt k hkg
   have hok := HX.out.2.2.2 _ (List.getElem_mem hkg)
   have htk : gs.take (k + 1) = gs.take k ++ [gs[k]] := by rw [List.take_append_getElem]
   obtain ⟨m, hmm⟩ : ∃ z, z = gs[k] := ⟨_, rfl⟩
   rw [← hmm] at hld hgk hok htk
   have h4 := hs.alloc (.cells #[.int .i64 0, .int .i64 0, .int .i64 0, .int .i64 0, .int .i64 0, .int .i64 0, .int .i64 0, .int .i64 0, .int .i64 0, .int .i64 0, .string ⟨#[]⟩, .int .i64 0, .int .i64 0, .slice none 0 0, .int .i64 0, .int .i64 0, .int .i64 0, .bool false, .int .i64 0, .slice none 0 0, .slice none 0 0, .int .i64 0] 40)
   have HT := Lib.hid (h4.thereAt 0 22 (by simp))
   obtain ⟨cm, hcm⟩ : ∃ z, z = mgC m := ⟨_, rfl⟩
   have hcs : cm.size = 22 := by rw [hcm]; rfl
   have hco : cm.all (·.oneCell') = true := by rw [hcm]; exact gms_one hgk
   rw [← hcm] at hld
   have h5 := h4.storeW cm (by rw [hcs]; rfl)
   have HL := Lib.hid hld
   have HI : Hid ((Tryz.prog.info? 40).map (·.size) = some cm.size) := Lib.hid (by rw [hcs]; kernel_rfl)
   have HO : Hid (cm.all (·.oneCell') = true) := Lib.hid hco
   have HTH : Hid ((wr.alloc (.cells #[.int .i64 0, .int .i64 0, .int .i64 0, .int .i64 0, .int .i64 0, .int .i64 0, .int .i64 0, .int .i64 0, .int .i64 0, .int .i64 0, .string ⟨#[]⟩, .int .i64 0, .int .i64 0, .slice none 0 0, .int .i64 0, .int .i64 0, .int .i64 0, .bool false, .int .i64 0, .slice none 0 0, .slice none 0 0, .int .i64 0] 40)).there wr.heap.size 0 cm.size) := Lib.hid (by rw [hcs]; exact HT.out)
   have hgk5 := hgk.below (h4.low |> fun _ => ((Sep.start wr).alloc (.cells #[.int .i64 0, .int .i64 0, .int .i64 0, .int .i64 0, .int .i64 0, .int .i64 0, .int .i64 0, .int .i64 0, .int .i64 0, .int .i64 0, .string ⟨#[]⟩, .int .i64 0, .int .i64 0, .slice none 0 0, .int .i64 0, .int .i64 0, .int .i64 0, .bool false, .int .i64 0, .slice none 0 0, .slice none 0 0, .int .i64 0] 40)).storeW cm (by rw [hcs]; rfl) |>.low)
   obtain ⟨b7, hb7⟩ : ∃ z, z = wr.heap.size := ⟨_, rfl⟩
   obtain ⟨w5, hw5⟩ : ∃ z, z = (wr.alloc (.cells #[.int .i64 0, .int .i64 0, .int .i64 0, .int .i64 0, .int .i64 0, .int .i64 0, .int .i64 0, .int .i64 0, .int .i64 0, .int .i64 0, .string ⟨#[]⟩, .int .i64 0, .int .i64 0, .slice none 0 0, .int .i64 0, .int .i64 0, .int .i64 0, .bool false, .int .i64 0, .slice none 0 0, .slice none 0 0, .int .i64 0] 40)).setCells wr.heap.size 0 cm.toList := ⟨_, rfl⟩
   rw [← hw5] at h5 hgk5
   rw [← hb7] at h5
   have HL2 := Lib.hid (h5.loadW 40 Tryz.underlying40 rfl (by rw [hcs]; kernel_rfl))
   have HC := pcpy_any m h5.drop hgk5 hok
   rw [← hcm] at HC
   have HC := Lib.hid HC
   have HQ := Lib.hid (And.intro hkn (And.intro hrs (And.intro htk hrl)))
   clear hs h4 h5 HT hmi hld hi' hrs hkn hmm htk hk hgk hgk5 hok hcm hcs hco hkg hrl
   (try dsimp only); repeat' (first | (with_reducible show wpList _ _ _ (Oper.mk _ (Op.load 40 _) _ _ _ _ :: _) _ _; refine stopP ?_) | go_values | go_skip | go_guarded | go_step | go_upon | go_back)
   unfold StopP
   have hq_ := HL.out
   refine wpList_load_run rfl 40 _ rfl _ _ rfl hq_ ?_
   clear hq_
   (try dsimp only); repeat' (first | (with_reducible show wpList _ _ _ (Oper.mk _ (Op.store 40 _ _) _ _ _ _ :: _) _ _; refine stopP ?_) | go_values | go_skip | go_guarded | go_step | go_upon | go_back)
   unfold StopP
   refine wpList_store_mid rfl 40 (.tmp 7) (.tmp 16) rfl wr.heap.size 0 cm rfl rfl HTH.out HI.out HO.out ?_
   rw [← hw5, ← hb7]
   clear hw5 hb7 HTH
   (try dsimp only); repeat' (first | (with_reducible show wpList _ _ _ (Oper.mk _ (Op.load 40 _) _ _ _ _ :: _) _ _; refine stopP ?_) | go_values | go_skip | go_guarded | go_step | go_upon | go_back)
   unfold StopP
   have hq_ := HL2.out
   refine wpList_load_run rfl 40 _ rfl _ _ rfl hq_ ?_
   clear hq_
   (try dsimp only); repeat' (first | go_values | go_skip | go_guarded | go_step | go_upon | go_back)
   refine HC.out.mono ?_
   rintro r0 w6 ⟨g2, rfl, hs2, h6⟩
   obtain ⟨u, hu⟩ : ∃ z, z = mgC g2 := ⟨_, rfl⟩
   have hus : u.size = 22 := by rw [hu]; rfl
   have huo : ∀ x ∈ u.toList, x.oneCell' = true := by
    have := gms_one h6.mtGm
    rw [← hu, Array.all_eq_true_iff_forall_mem] at this
    exact fun x hx => this x (by simpa using hx)
   rw [← hu]
   have h7 := h6.alloc (.cells u 40)
   have h7b : Sep w0 (Rn 22 40 (.slice av k cv) k (msCs (rs.map mgC)) :: Cl w6.heap.size u 40 :: MT g2 :: MTs rs :: Ro 22 40 (.slice (some ⟨bb, off, none⟩) n c) n (msCs rows) :: MTs gs :: L) (w6.alloc (.cells u 40)) := h7.pickL (M := [_, _, _, _]) [2, 0, 1, 3] rfl
   obtain ⟨a8, c8, w8, hr, h8⟩ := append_mp (m := 1) (c := 1) (b := w6.heap.size) (off := 0) (news := u.toList) 44 h7b (by rw [Array.length_toList, hus]) (fun j x hj => by
    rw [Nat.zero_add]
    exact h7b.sw2.cell (by simpa using hj)) huo (by omega)
   have h9 : Sep w0 (MT g2 :: MTs rs :: Rn 22 40 (.slice a8 (k + 1) c8) (k + 1) (msCs ((rs ++ [g2]).map mgC)) :: Ro 22 40 (.slice (some ⟨bb, off, none⟩) n c) n (msCs rows) :: MTs gs :: L) w8 := by
    have e : msCs (rs.map mgC) ++ u.toList = msCs ((rs ++ [g2]).map mgC) := by rw [List.map_append, msCs_app, hu]; simp [msCs]
    rw [e] at h8
    exact h8.pickL (M := [_, _, _, _]) [2, 3, 0] rfl
   have HR := Lib.hid hr
   have hrs2 := HQ.out.2.1.snoc (hs2)
   rw [← HQ.out.2.2.1] at hrs2
   have H9 := Lib.hid (And.intro hrs2 (h9.mtsSnoc.sw2))
   have HU := Lib.hid hus
   clear HC h6 h7 h7b h8 h9 hr hrs2 hus huo hs2 hu
   (try dsimp only); repeat' (first | (with_reducible show wpList _ _ _ (Oper.mk _ (Op.buildSlice _ _ _) _ _ _ _ :: _) _ _; refine stopP ?_) | go_values | go_skip | go_guarded | go_step | go_upon | go_back)
   unfold StopP
   refine wpList_buildM rfl _ rfl HU.out rfl ?_
   (try dsimp only); repeat' (first | (at_builtin; refine stopP ?_) | go_values | go_skip | go_guarded | go_step | go_upon | go_back)
   unfold StopP
   refine wpList_append_r rfl _ _ _ _ rfl rfl rfl HR.out ?_
   clear HR
   (try dsimp only); repeat' (first | go_values | go_skip | go_guarded | go_step | go_upon | go_back)
   go_roundw
   case rel => exact ⟨k + 1, rs ++ [g2], a8, c8, by have := HQ.out.1; omega, rfl, by go_num, by have := HQ.out.1; rw [List.length_append, HQ.out.2.2.2]; rfl, H9.out.1, H9.out.2⟩
   case measure => have := HQ.out.1; simp [intOf]; omega
  ·have hd : decide (k < n) = false := decide_eq_false hkn
   obtain rfl : k = n := by omega
   rw [List.take_of_length_le (by rw [HX.out.2.1]; exact Nat.le_refl _)] at hrs
   have HS := Lib.hid (And.intro hrl (And.intro hrs hs))
   clear hs hrs hkn hk hrl
   (try dsimp only); repeat' (first | go_values | go_skip | go_guarded | go_step | go_upon | go_back)
   go_ret
   exact ⟨_, _, rs, rfl, HS.out.1, HS.out.2.1, Sep.rowClose (by rw [HS.out.1]; exact HS.out.2.2)⟩
set_option maxRecDepth 100000 in
theorem plist_any (h : Sep w0 (PB b gs :: L) w) (hl : gs.length ≤ 2000) (hk : ∀ g ∈ gs, MOk g) :
  Calls Tryz.prog 10 #[.pointer (some ⟨b, 0, none⟩)] w fun e w' => ∃ a c rs, e = .returned (.slice a gs.length c) ∧ SameL rs gs ∧ Sep w0 (RowT (.slice a gs.length c) rs :: PB b gs :: L) w' := by
 obtain ⟨a, c, rows, hm, h1⟩ := h.pbOpen.gbagOpen
 rw [List.length_map] at h1
 have HN := Lib.hid (bnone_any (h1.cell (o := 0) rfl))
 have c1 := h1.cell (o := 1) rfl
 have HC := Lib.hid (plcopy_any (h1.pickL (M := [_, _, _]) [1, 2, 0] rfl) hm rfl (by omega) hk)
 have HM := Lib.hid hm
 obtain ⟨n, hn⟩ : ∃ z, z = gs.length := ⟨_, rfl⟩
 rw [← hn] at HC c1 ⊢
 have HE := Lib.hid hn
 clear h h1 hm hl hn hk
 go_enter Tryz.func10, Tryz.ntmps10
 (try dsimp only); repeat' (first | go_values | go_skip | go_guarded | go_step | go_upon | go_back)
 refine HN.out.mono ?_
 rintro r0 w1 ⟨rfl, rfl⟩
 clear HN
 (try dsimp only); repeat' (first | go_values | go_skip | go_guarded | go_step | go_upon | go_back)
 refine HC.out.mono ?_
 rintro r0 w2 ⟨a', c', rs, rfl, hrl, hrs, h2⟩
 have h3 : Sep w0 (BagG b (gs.map mgC) :: MTs gs :: RowT (.slice a' n c') rs :: L) w2 := Sep.gbagClose HM.out (by rw [List.length_map, ← HE.out]; exact h2.pickL (M := [_, _, _, _]) [3, 1, 2, 0] rfl)
 have H3 := Lib.hid (And.intro hrs h3.pbClose.sw2)
 clear HC h2 h3 hrs hrl
 (try dsimp only); repeat' (first | go_values | go_skip | go_guarded | go_step | go_upon | go_back)
 go_ret
 exact ⟨_, _, rs, rfl, H3.out.1, H3.out.2⟩
end Go.Proofs.YtcnbmeiielkigaaGreatDoor
/- The program's bag: To, of any messages. -/
namespace Go.Proofs.YtcnbmeiielkigaaGreatDoor
open Go Go.RowKit Go.Shelf
set_option linter.unusedVariables false
set_option linter.unusedSimpArgs false
attribute [local go_sem] Oper.semAt_some
set_option maxRecDepth 100000 in
set_option maxHeartbeats 16000000 in
theorem adr_givesG (N g b2 b3 : Nat) (who : Int) (a : Option Addr) (n c : Nat) (rows : List (Array Value)) (ms : List MgM) (hm : MsgsG rows (ms.map mgC)) (hn : rows.length = n) (hl : n ≤ 100000) :
  GivesR Fence.wide N Tryz.prog 57 #[] #[.pointer (some ⟨b2, 0, none⟩), .pointer (some ⟨b3, 0, none⟩)] (fun k : Nat => #[.int .i64 k]) (posF (toG (ms.map (·.t)) who) n) (AdrP g b2 b3 who a n c rows) := by
 intro l J hJb hJP hY W h0
 obtain ⟨x2, x3, x1, -⟩ := hJP _ _ h0
 refine callsIn_of_wp Tryz.func57 rfl trivial ?_ rfl
 simp only [Tryz.ntmps57, List.size_toArray, List.length_cons, List.length_nil, Nat.reduceAdd, Nat.reduceSub, Array.replicate_succ, Array.replicate_zero, List.push_toArray, List.append_toArray, List.nil_append, List.cons_append]
 have HM := Lib.hid (And.intro hm hn)
 have HB := Lib.hid hJb
 have HP := Lib.hid hJP
 have HY := Lib.hid hY
 have n0 : (0 : Int) ≤ (n : Int) := by omega
 clear hm hn hJb hJP hY
 gi_wp2
 gi_loopw [11] (fun i wr => ∃ k : Nat, k ≤ n ∧ i = .int .i64 k ∧ J (posF (toG (ms.map (·.t)) who) k) wr) (fun i _ => n - (intOf i).toNat)
 case atStart => exact ⟨0, Nat.zero_le _, rfl, h0⟩
 case round =>
  obtain ⟨k, hk, rfl, hJs⟩ := hrel
  clear h0 x1 x2 x3
  have k0 : (0 : Int) ≤ (k : Int) := by omega
  have k9 : (k : Int) ≤ 100000 := by omega
  by_cases hkn : k < n
  ·have d0 : decide (k < n) = true := decide_eq_true hkn
   have k1 : (k : Int) < (n : Int) := by omega
   obtain ⟨-, -, -, hld⟩ := HP.out _ _ hJs
   have hkr : k < rows.length := by rw [HM.out.2]; exact hkn
   obtain ⟨b, off, rfl, hl⟩ := hld k hkr
   have hkm : k < ms.length := by have := HM.out.1.1; rw [List.length_map] at this; rw [← this]; exact hkr
   have hmc := HM.out.1.2 k hkr (by rw [List.length_map]; exact hkm)
   rw [List.getElem_map] at hmc
   obtain ⟨m, hmm⟩ : ∃ z, z = ms[k] := ⟨_, rfl⟩
   rw [← hmm] at hmc
   have htp : toG (ms.map (·.t)) who k = (m.t == who) := by unfold toG; rw [List.getElem?_map, List.getElem?_eq_getElem hkm, ← hmm]; rfl
   have hHit := posF_hit (toG (ms.map (·.t)) who) k
   have hMiss := posF_miss (toG (ms.map (·.t)) who) k
   have hAt := fun h => posF_at (toG (ms.map (·.t)) who) k h n hkn
   rw [htp] at hHit hMiss hAt
   obtain ⟨cm, hcm⟩ : ∃ z, z = rows[k] := ⟨_, rfl⟩
   rw [← hcm] at hl hmc
   have h4 := (Sep.start wr).alloc (.cells #[.int .i64 0, .int .i64 0, .int .i64 0, .int .i64 0, .int .i64 0, .int .i64 0, .int .i64 0, .int .i64 0, .int .i64 0, .int .i64 0, .string ⟨#[]⟩, .int .i64 0, .int .i64 0, .slice none 0 0, .int .i64 0, .int .i64 0, .int .i64 0, .bool false, .int .i64 0, .slice none 0 0, .slice none 0 0, .int .i64 0] 40)
   have HT := Lib.hid (h4.thereAt 0 22 (by simp))
   have h5 := h4.storeW cm (by rw [hmc.size]; rfl)
   have HTH : Hid ((wr.alloc (.cells #[.int .i64 0, .int .i64 0, .int .i64 0, .int .i64 0, .int .i64 0, .int .i64 0, .int .i64 0, .int .i64 0, .int .i64 0, .int .i64 0, .string ⟨#[]⟩, .int .i64 0, .int .i64 0, .slice none 0 0, .int .i64 0, .int .i64 0, .int .i64 0, .bool false, .int .i64 0, .slice none 0 0, .slice none 0 0, .int .i64 0] 40)).there wr.heap.size 0 cm.size) := Lib.hid (by rw [hmc.size]; exact HT.out)
   have HI : Hid ((Tryz.prog.info? 40).map (·.size) = some cm.size) := Lib.hid (by rw [hmc.size]; kernel_rfl)
   have HO : Hid (cm.all (·.oneCell') = true) := Lib.hid (by have := all_oneCell_toArray hmc.one; simpa using this)
   have hJ5 := HB.out _ _ _ h5.low hJs
   have y2 : World.cell? _ ⟨wr.heap.size, 2, none⟩ = some (.int .i64 m.t) := h5.cell (o := 2) (by rw [hmc.1]; rfl)
   obtain ⟨-, y3, -, -⟩ := HP.out _ _ hJ5
   obtain ⟨b5, hb5⟩ : ∃ z, z = wr.heap.size := ⟨_, rfl⟩
   obtain ⟨w5, hw5⟩ : ∃ z, z = (wr.alloc (.cells #[.int .i64 0, .int .i64 0, .int .i64 0, .int .i64 0, .int .i64 0, .int .i64 0, .int .i64 0, .int .i64 0, .int .i64 0, .int .i64 0, .string ⟨#[]⟩, .int .i64 0, .int .i64 0, .slice none 0 0, .int .i64 0, .int .i64 0, .int .i64 0, .bool false, .int .i64 0, .slice none 0 0, .slice none 0 0, .int .i64 0] 40)).setCells wr.heap.size 0 cm.toList := ⟨_, rfl⟩
   rw [← hw5] at hJ5 y2 y3
   rw [← hb5] at y2
   have HL := Lib.hid hl
   have HK := Lib.hid hkn
   clear hld hkr hkm hmc hmm hcm h4 h5 HT hJs hl hk hkn htp
   cases he : (m.t == who) with
   | true =>
    obtain ⟨rest, hrest⟩ := hAt he
    obtain ⟨fn, tmps, assign, body, hy, hR⟩ := HY.out _ k _ _ hrest hJ5
    try dsimp only at hy
    have HS := Lib.hid (hHit he)
    clear hAt hHit hMiss hrest hJ5
    gi_wp2_with (first | (refine wpListIn_load_run rfl 40 (.tmp 14) rfl _ _ rfl HL.out ?_) | (refine wpListIn_store_mid rfl 40 (.tmp 5) (.tmp 15) rfl wr.heap.size 0 cm rfl rfl HTH.out HI.out HO.out ?_; rw [← hw5, ← hb5]; clear hw5 hb5 HTH))
    refine ⟨(fun h => (by cases h)), ?_⟩
    refine hR.mono ?_
    rintro e W' ⟨rfl, hJ'⟩
    have HJ := Lib.hid hJ'
    clear hJ' hy hR
    gi_wp2
    go_roundw
    case rel => exact ⟨k + 1, HK.out, by go_num, by rw [HS.out]; exact HJ.out⟩
    case measure => have := HK.out; simp [intOf]; omega
   | false =>
    have HS := Lib.hid (And.intro (hMiss he) hJ5)
    clear hAt hHit hMiss hJ5
    gi_wp2_with (first | (refine wpListIn_load_run rfl 40 (.tmp 14) rfl _ _ rfl HL.out ?_) | (refine wpListIn_store_mid rfl 40 (.tmp 5) (.tmp 15) rfl wr.heap.size 0 cm rfl rfl HTH.out HI.out HO.out ?_; rw [← hw5, ← hb5]; clear hw5 hb5 HTH))
    refine ⟨fun _ h => (by cases h), ?_⟩
    gi_wp2
    go_roundw
    case rel => exact ⟨k + 1, HK.out, by go_num, by rw [HS.out.1]; exact HS.out.2⟩
    case measure => have := HK.out; simp [intOf]; omega
  ·have d0 : decide (k < n) = false := decide_eq_false hkn
   obtain rfl : k = n := by omega
   have HJ := Lib.hid hJs
   clear hJs hk hkn
   gi_wp2
   go_end0
   exact ⟨⟨_, rfl⟩, HJ.out⟩
set_option maxRecDepth 100000 in
set_option maxHeartbeats 16000000 in
theorem gto_any {g : Nat} {who : Int} {ms : List MgM} {w w0 : World} {L : List Thing} (h : Sep w0 (BagG g (ms.map mgC) :: L) w) (hl : ms.length ≤ 100000) :
  Calls Tryz.prog 21 #[.pointer (some ⟨g, 0, none⟩), .int .i64 who] w fun e w' => ∃ a n c, n = (posF (toG (ms.map (·.t)) who) ms.length).length ∧ e = .returned (.slice a n c) ∧ Sep w0 (Is (.slice a n c) (ivN (posF (toG (ms.map (·.t)) who) ms.length)) :: BagG g (ms.map mgC) :: L) w' := by
 obtain ⟨a, c, rows, hm, h1⟩ := h.gbagOpen
 rw [List.length_map] at h1
 have h2 := ((h1.rnil 3).alloc (.cells #[.slice none 0 0] 56))
 have hN := bnone_any (h1.cell (o := 0) rfl)
 have hple := posF_le (toG (ms.map (·.t)) who) ms.length
 have hmn := hm.1
 rw [List.length_map] at hmn
 obtain ⟨n, hn⟩ : ∃ z, z = ms.length := ⟨_, rfl⟩
 rw [← hn] at h2 hple hmn hl ⊢
 obtain ⟨b, hb⟩ : ∃ z, z = w.heap.size := ⟨_, rfl⟩
 obtain ⟨w3, hw3⟩ : ∃ z, z = w.alloc (.cells #[.slice none 0 0] 56) := ⟨_, rfl⟩
 rw [← hb, ← hw3] at h2
 have h3 : Sep w0 (BoxI b [] :: Cl g #[.bool true, .slice a n c] 60 :: Ro 22 40 (.slice a n c) n (msCs rows) :: L) w3 := Sep.boxIClose (l := []) h2
 have HA := Lib.hid (adr_any (g := g) (who := who) h3)
 have HN := Lib.hid hN
 have HM := Lib.hid hm
 have HE := Lib.hid hn
 clear h h1 h2 h3 hN hm hn
 refine (callsIn_wide (n := 4)).1 ?_
 refine callsIn_of_wp_marks Tryz.func21 rfl trivial ?_ rfl
 simp only [Tryz.ntmps21, List.size_toArray, List.length_cons, List.length_nil, Nat.reduceAdd, Nat.reduceSub, Array.replicate_succ, Array.replicate_zero, List.push_toArray, List.append_toArray, List.nil_append, List.cons_append]
 gi_wp2
 refine ⟨trivial, ?_⟩
 refine (callsIn_wide.2 HN.out).mono ?_
 rintro r0 w1 ⟨rfl, rfl⟩
 clear HN
 gi_wp2
 rw [← hw3, ← hb]
 clear hw3 hb
 refine ⟨trivial, ?_⟩
 refine (callsIn_wide.2 HA.out).mono ?_
 rintro r0 w4 ⟨b2, b3, rfl, h4⟩
 clear HA
 gi_wp2
 have h5 : Sep w0 (BoxI b [] :: Cl b2 #[.pointer (some ⟨g, 0, none⟩)] 23 :: Cl b3 #[.int .i64 who] 3 :: Cl g #[.bool true, .slice a n c] 60 :: Ro 22 40 (.slice a n c) n (msCs rows) :: L) w4 := h4.pickL (M := [_, _, _, _, _]) [2, 0, 1, 3, 4] rfl
 clear h4
 refine range_sepR (P := Tryz.prog) (gf := 57) (fb := #[]) (lb := #[.pointer (some ⟨b2, 0, none⟩), .pointer (some ⟨b3, 0, none⟩)]) rfl (by omega) rfl trivial (enters_of Tryz.func57 (by kernel_rfl) rfl) (posF (toG (ms.map (·.t)) who) n) (fun _ => rfl)
  (fun pre => BoxI b (ivN pre) :: Cl b2 #[.pointer (some ⟨g, 0, none⟩)] 23 :: Cl b3 #[.int .i64 who] 3 :: Cl g #[.bool true, .slice a n c] 60 :: Ro 22 40 (.slice a n c) n (msCs rows) :: L) h5 (adr_givesG _ g b2 b3 who a n c rows ms HM.out hmn hl)
  (fun s A B W hs => ⟨hs.drop.drop.drop.cell (o := 0) rfl, hs.drop.drop.drop.drop.cell (o := 0) rfl, hs.drop.drop.drop.drop.drop.cell (o := 1) rfl, fun k hk => by obtain ⟨b', off, h1, -, h2, -⟩ := hs.drop.drop.drop.drop.drop.drop.roMsgG HM.out k hk hmn; exact ⟨b', off, h1, h2⟩⟩)
  (fun x => { tmps := #[.pointer (some ⟨g, 0, none⟩), .int .i64 who, undef, undef, .slice none 0 0, .pointer (some ⟨b, 0, none⟩), .int .i64 (x : Nat), .pointer (some ⟨g, 0, none⟩), .bool false, .pointer (some ⟨g, 0, none⟩), .int .i64 who, .func (.func 57) #[] #[.pointer (some ⟨b2, 0, none⟩), .pointer (some ⟨b3, 0, none⟩)], .int .i64 (x : Nat), undef, undef, undef, undef, undef], defers := [] }) ?assign ?body ?done
 case assign =>
  intro l x W K hK
  gi_wp2
  simpa using hK
 case body =>
  intro l pre x rest A B W hx hs
  have hpl : pre.length ≤ 100000 := by have := congrArg List.length hx; rw [List.length_append] at this; omega
  obtain ⟨ba, bn, bc, hbn, h11⟩ := Sep.boxIOpen (hs.pickL (M := [_, _, _, _, _, _, _]) [2, 0, 1, 3, 4, 5, 6] rfl)
  have x3 := h11.cell (o := 0) rfl
  have h12 := h11.alloc (.cells #[.int .i64 (x : Nat)] 3)
  have h13 := h12.asRow 1 rfl (by decide)
  have hbl : (ivN pre).length = pre.length := by unfold ivN; rw [List.length_map]
  have h13b : Sep w0 (Is (.slice ba bn bc) (ivN pre) :: Cl b #[.slice ba bn bc] 56 :: A :: B :: Cl b2 #[.pointer (some ⟨g, 0, none⟩)] 23 :: Cl b3 #[.int .i64 who] 3 :: Cl g #[.bool true, .slice a n c] 60 :: Ro 22 40 (.slice a n c) n (msCs rows) :: L) _ := h13.pickL (M := [_, _, _]) [2, 1] rfl
  obtain ⟨v9, w9, hr9, h14, -⟩ := appI (ty := 56) (ys := [(x : Int)]) h13b h13.sl (by rw [hbl]; simp; omega)
  have x9 := h14.sw2.cell (o := 0) rfl
  have f9 := h14.sw2.frozen 0
  have h15 := Sep.boxIClose (h14.sw2.setCell 0 v9)
  have h16 : Sep w0 (A :: B :: BoxI b (ivN (pre ++ [x])) :: Cl b2 #[.pointer (some ⟨g, 0, none⟩)] 23 :: Cl b3 #[.int .i64 who] 3 :: Cl g #[.bool true, .slice a n c] 60 :: Ro 22 40 (.slice a n c) n (msCs rows) :: L) (w9.setCell ⟨b, 0, none⟩ v9) := by
   have h9 := h15.pickL (M := [_, _, _, _, _, _, _]) [1, 2, 0, 3, 4, 5, 6] rfl
   rw [show ivN (pre ++ [x]) = ivN pre ++ [(x : Int)] by unfold ivN; rw [List.map_append]; rfl]
   exact h9
  obtain ⟨va, vc, hv9⟩ := h14.sl.len
  subst hv9
  have H15 := Lib.hid h16
  have HR9 := Lib.hid hr9
  clear hs h11 h12 h13 h13b h14 h15 h16 hx hpl hr9 hbl hbn h5
  gi_wp2_with (gi_at_builtin; refine wpListIn_append_run rfl _ _ _ _ rfl rfl rfl HR9.out ?_; clear HR9)
  exact H15.out
 case done =>
  intro D W hs
  obtain ⟨va, vn, vc, hvn, h6⟩ := Sep.boxIOpen hs.sw2
  have c0 := h6.cell (o := 0) rfl
  have hK := hs.blk
  have h7 := (Sep.putObj (h6.pickL (M := [_, _, _, _, _, _, _]) [2, 1, 5, 6] rfl) (.deferred none)).drop
  have h8 : Sep w0 (BagG g (ms.map mgC) :: Is (.slice va vn vc) (ivN (posF (toG (ms.map (·.t)) who) n)) :: L) (W.putObj D (.deferred none)) := Sep.gbagClose HM.out (by rw [List.length_map, ← HE.out]; exact h7.pickL (M := [_, _, _]) [1, 2, 0] rfl)
  have H8 := Lib.hid h8.sw2
  have hvn2 : vn = (posF (toG (ms.map (·.t)) who) n).length := by rw [hvn]; unfold ivN; rw [List.length_map]
  clear hs h6 h7 h8 hvn h5
  subst hvn2
  gi_wp2
  refine ⟨by simp, .inl ⟨_, _, rfl, run_takeDeferred hK, ?_⟩⟩
  first | exact ⟨_, results_tmp rfl _ _ _, _, _, rfl, H8.out⟩ | exact ⟨_, results_tmp rfl _ _ _, _, _, _, rfl, rfl, H8.out⟩
theorem pto_any {w0 w : World} {b : Nat} {gs : List MgM} {L : List Thing} {who : Int} (h : Sep w0 (PB b gs :: L) w) (hl : gs.length ≤ 2000) :
  Calls Tryz.prog 21 #[.pointer (some ⟨b, 0, none⟩), .int .i64 who] w fun e w' => ∃ v, e = .returned v ∧ Sep w0 (Is v (ivN (tosG gs who)) :: PB b gs :: L) w' :=
 (gto_any (ms := gs) (who := who) h.pbOpen (by omega)).mono fun e w' ⟨a, n, c, hn, he, h1⟩ => ⟨.slice a n c, he, (Sep.pbClose h1.to3).sw2⟩
end Go.Proofs.YtcnbmeiielkigaaGreatDoor
/- The document's bag: List, To, Same. -/
namespace Go.Proofs.YtcnbmeiielkigaaGreatDoor
open Go Go.RowKit
set_option linter.unusedVariables false
set_option linter.unusedSimpArgs false
variable {w0 w : World} {b : Nat} {gs : List MgM} {L : List Thing}
set_option maxRecDepth 100000 in
set_option maxHeartbeats 16000000 in
theorem dlist_any (h : Sep w0 (DB b gs :: L) w) (hl : gs.length ≤ 2000) (hk : ∀ g ∈ gs, MOk g) :
  Calls Tryz.prog 12 #[.pointer (some ⟨b, 0, none⟩)] w fun e w' => ∃ a c rs, e = .returned (.slice a gs.length c) ∧ SameL rs gs ∧ Sep w0 (RowT (.slice a gs.length c) rs :: DB b gs :: L) w' := by
 obtain ⟨a, c, rows, hm, h1⟩ := h.dbOpen.rbagOpen
 rw [List.length_map] at h1
 obtain ⟨n, hn⟩ : ∃ z, z = gs.length := ⟨_, rfl⟩
 rw [← hn] at h1 ⊢
 have H1 := Lib.hid (show Sep w0 (Rn 22 40 (.slice none 0 0) 0 (msCs (List.map mgC [])) :: MTs [] :: Ro 22 40 (.slice a n c) n (msCs rows) :: MTs gs :: Cl b #[.slice a n c] 62 :: L) w from ((h1.pickL (M := [_, _, _]) [1, 2, 0] rfl).mtsNil).rnNil 22 40)
 have HX := Lib.hid (And.intro hm (And.intro hn.symm (And.intro hl hk)))
 have n0 : (0 : Int) ≤ (n : Int) := by omega
 have n9 : (n : Int) ≤ 2000 := by omega
 clear h h1 hm hn hl hk
 go_enter Tryz.func12, Tryz.ntmps12
 (try dsimp only); repeat' (first | go_values | go_skip | go_guarded | go_step | go_upon | go_back)
 go_loopw [3, 4] (fun pv i wr => ∃ (k : Nat) (rs : List MgM) (av : Option Addr) (cv : Nat), k ≤ n ∧ pv = .slice av k cv ∧ i = .int .i64 k ∧ rs.length = k ∧ SameL rs (gs.take k) ∧ Sep w0 (Rn 22 40 (.slice av k cv) k (msCs (rs.map mgC)) :: MTs rs :: Ro 22 40 (.slice a n c) n (msCs rows) :: MTs gs :: Cl b #[.slice a n c] 62 :: L) wr) (fun _ i _ => n - (intOf i).toNat)
 case atStart => exact ⟨0, [], _, _, Nat.zero_le _, rfl, rfl, rfl, SameL.nil, H1.out⟩
 case round =>
  obtain ⟨k, rs, av, cv, hk, rfl, rfl, hrl, hrs, hs⟩ := hrel
  clear H1
  have k0 : (0 : Int) ≤ (k : Int) := by omega
  have k9 : (k : Int) ≤ 100000 := by omega
  have c1 := hs.sw5.cell (o := 0) rfl
  by_cases hkn : k < n
  ·have hd : decide (k < n) = true := decide_eq_true hkn
   have k1 : (k : Int) < (n : Int) := by omega
   have hkg : k < gs.length := by rw [HX.out.2.1]; exact hkn
   have hn9 : n ≤ 2000 := by rw [← HX.out.2.1]; exact HX.out.2.2.1
   obtain ⟨hi', hmi⟩ := HX.out.1.at k (by rw [List.length_map]; exact hkg)
   obtain ⟨bb, off, rfl, -, hld, -⟩ := hs.sw3.roMsgG HX.out.1 k hi' (by rw [HX.out.1.1, List.length_map]; exact HX.out.2.1)
   rw [hmi.1, List.getElem_map] at hld
   have hgk := hs.sw4.mtsAt k hkg
   have hok := HX.out.2.2.2 _ (List.getElem_mem hkg)
   have htk : gs.take (k + 1) = gs.take k ++ [gs[k]] := by rw [List.take_append_getElem]
   obtain ⟨m, hmm⟩ : ∃ z, z = gs[k] := ⟨_, rfl⟩
   rw [← hmm] at hld hgk hok htk
   have HC := dcpy_any m hs hgk hok
   obtain ⟨cm, hcm⟩ : ∃ z, z = mgC m := ⟨_, rfl⟩
   rw [← hcm] at hld HC
   have HL := Lib.hid hld
   have HC := Lib.hid HC
   have HQ := Lib.hid (And.intro hkn (And.intro hrs (And.intro htk hrl)))
   clear hs hmi hld hi' hrs hkn hmm htk hk hgk hok hcm hkg hrl
   (try dsimp only); repeat' (first | (with_reducible show wpList _ _ _ (Oper.mk _ (Op.load 40 _) _ _ _ _ :: _) _ _; refine stopP ?_) | go_values | go_skip | go_guarded | go_step | go_upon | go_back)
   unfold StopP
   have hq_ := HL.out
   refine wpList_load_run rfl 40 _ rfl _ _ rfl hq_ ?_
   clear hq_
   (try dsimp only); repeat' (first | go_values | go_skip | go_guarded | go_step | go_upon | go_back)
   refine HC.out.mono ?_
   rintro r0 w6 ⟨g2, rfl, hs2, h6⟩
   obtain ⟨u, hu⟩ : ∃ z, z = mgC g2 := ⟨_, rfl⟩
   have hus : u.size = 22 := by rw [hu]; rfl
   have huo : ∀ x ∈ u.toList, x.oneCell' = true := by
    have := gms_one h6.mtGm
    rw [← hu, Array.all_eq_true_iff_forall_mem] at this
    exact fun x hx => this x (by simpa using hx)
   rw [← hu]
   have h7 := h6.alloc (.cells u 40)
   have h7b : Sep w0 (Rn 22 40 (.slice av k cv) k (msCs (rs.map mgC)) :: Cl w6.heap.size u 40 :: MT g2 :: MTs rs :: Ro 22 40 (.slice (some ⟨bb, off, none⟩) n c) n (msCs rows) :: MTs gs :: Cl b #[.slice (some ⟨bb, off, none⟩) n c] 62 :: L) (w6.alloc (.cells u 40)) := h7.pickL (M := [_, _, _, _]) [2, 0, 1, 3] rfl
   obtain ⟨a8, c8, w8, hr, h8⟩ := append_mp (m := 1) (c := 1) (b := w6.heap.size) (off := 0) (news := u.toList) 44 h7b (by rw [Array.length_toList, hus]) (fun j x hj => by
    rw [Nat.zero_add]
    exact h7b.sw2.cell (by simpa using hj)) huo (by omega)
   have h9 : Sep w0 (MT g2 :: MTs rs :: Rn 22 40 (.slice a8 (k + 1) c8) (k + 1) (msCs ((rs ++ [g2]).map mgC)) :: Ro 22 40 (.slice (some ⟨bb, off, none⟩) n c) n (msCs rows) :: MTs gs :: Cl b #[.slice (some ⟨bb, off, none⟩) n c] 62 :: L) w8 := by
    have e : msCs (rs.map mgC) ++ u.toList = msCs ((rs ++ [g2]).map mgC) := by rw [List.map_append, msCs_app, hu]; simp [msCs]
    rw [e] at h8
    exact h8.pickL (M := [_, _, _, _]) [2, 3, 0] rfl
   have HR := Lib.hid hr
   have hrs2 := HQ.out.2.1.snoc (hs2)
   rw [← HQ.out.2.2.1] at hrs2
   have H9 := Lib.hid (And.intro hrs2 (h9.mtsSnoc.sw2))
   have HU := Lib.hid hus
   clear HC h6 h7 h7b h8 h9 hr hrs2 hus huo hs2 hu
   (try dsimp only); repeat' (first | (with_reducible show wpList _ _ _ (Oper.mk _ (Op.buildSlice _ _ _) _ _ _ _ :: _) _ _; refine stopP ?_) | go_values | go_skip | go_guarded | go_step | go_upon | go_back)
   unfold StopP
   refine wpList_buildM rfl _ rfl HU.out rfl ?_
   (try dsimp only); repeat' (first | (at_builtin; refine stopP ?_) | go_values | go_skip | go_guarded | go_step | go_upon | go_back)
   unfold StopP
   refine wpList_append_r rfl _ _ _ _ rfl rfl rfl HR.out ?_
   clear HR
   (try dsimp only); repeat' (first | go_values | go_skip | go_guarded | go_step | go_upon | go_back)
   go_roundw
   case rel => exact ⟨k + 1, rs ++ [g2], a8, c8, by have := HQ.out.1; omega, rfl, by go_num, by have := HQ.out.1; rw [List.length_append, HQ.out.2.2.2]; rfl, H9.out.1, H9.out.2⟩
   case measure => have := HQ.out.1; simp [intOf]; omega
  ·have hd : decide (k < n) = false := decide_eq_false hkn
   obtain rfl : k = n := by omega
   rw [List.take_of_length_le (by rw [HX.out.2.1]; exact Nat.le_refl _)] at hrs
   have h9 : Sep w0 (RBag b (gs.map mgC) :: MTs gs :: Rn 22 40 (.slice av k cv) k (msCs (rs.map mgC)) :: MTs rs :: L) wr := Sep.rbagClose HX.out.1 (by rw [List.length_map, HX.out.2.1]; exact hs.pickL (M := [_, _, _, _, _]) [4, 2, 3, 0, 1] rfl)
   have HS := Lib.hid (And.intro hrl (And.intro hrs h9))
   clear hs hrs hkn hk hrl h9
   (try dsimp only); repeat' (first | go_values | go_skip | go_guarded | go_step | go_upon | go_back)
   go_ret
   exact ⟨_, _, rs, rfl, HS.out.2.1, Sep.rowClose (by rw [HS.out.1]; exact (HS.out.2.2.dbClose).to3)⟩
set_option maxRecDepth 100000 in
set_option maxHeartbeats 8000000 in
theorem dto_any {who : Int} (h : Sep w0 (DB b gs :: L) w) (hl : gs.length ≤ 2000) :
  Calls Tryz.prog 30 #[.pointer (some ⟨b, 0, none⟩), .int .i64 who] w fun e w' => ∃ v, e = .returned v ∧ Sep w0 (Is v (ivN (tosG gs who)) :: DB b gs :: L) w' := by
 obtain ⟨a, c, rows, hm, h1⟩ := h.dbOpen.rbagOpen
 rw [List.length_map] at h1
 obtain ⟨n, hn⟩ : ∃ z, z = gs.length := ⟨_, rfl⟩
 rw [← hn] at h1
 have H1 := Lib.hid (show Sep w0 (Is (.slice none 0 0) [] :: Cl b #[.slice a n c] 62 :: Ro 22 40 (.slice a n c) n (msCs rows) :: MTs gs :: L) w from h1.rnil 3)
 have HX := Lib.hid (And.intro hm (And.intro hn.symm hl))
 have n0 : (0 : Int) ≤ (n : Int) := by omega
 have n9 : (n : Int) ≤ 2000 := by omega
 obtain ⟨ts, hts⟩ : ∃ z, z = gs.map (·.t) := ⟨_, rfl⟩
 have HTS := Lib.hid hts
 have hfin : tosG gs who = posF (toG ts who) n := by unfold tosG; rw [hts, hn]
 rw [hfin]
 clear h h1 hm hn hl hts hfin
 go_enter Tryz.func30, Tryz.ntmps30
 (try dsimp only); repeat' (first | go_values | go_skip | go_guarded | go_step | go_upon | go_back)
 go_loopw [5, 6] (fun pv i wr => ∃ k : Nat, k ≤ n ∧ i = .int .i64 k ∧ Sep w0 (Is pv (ivN (posF (toG ts who) k)) :: Cl b #[.slice a n c] 62 :: Ro 22 40 (.slice a n c) n (msCs rows) :: MTs gs :: L) wr) (fun _ i _ => n - (intOf i).toNat)
 case atStart => exact ⟨0, Nat.zero_le _, rfl, H1.out⟩
 case round =>
  obtain ⟨k, hk, rfl, hs⟩ := hrel
  clear H1
  have k0 : (0 : Int) ≤ (k : Int) := by omega
  have k9 : (k : Int) ≤ 100000 := by omega
  have c1 := hs.sw2.cell (o := 0) rfl
  obtain ⟨pa, pc, hpv⟩ := hs.sl.len
  by_cases hkn : k < n
  ·have hd : decide (k < n) = true := decide_eq_true hkn
   have k1 : (k : Int) < (n : Int) := by omega
   have hkg : k < gs.length := by rw [HX.out.2.1]; exact hkn
   have hn9 : n ≤ 2000 := by rw [← HX.out.2.1]; exact HX.out.2.2
   obtain ⟨hi', hmi⟩ := HX.out.1.at k (by rw [List.length_map]; exact hkg)
   obtain ⟨bb, off, rfl, -, -, hra⟩ := hs.sw3.roMsgG HX.out.1 k hi' (by rw [HX.out.1.1, List.length_map]; exact HX.out.2.1)
   rw [hmi.1, List.getElem_map] at hra
   obtain ⟨m, hmm⟩ : ∃ z, z = gs[k] := ⟨_, rfl⟩
   rw [← hmm] at hra
   have t2 := hra 2 (.int .i64 m.t) rfl
   have htp : toG ts who k = (m.t == who) := by unfold toG; rw [HTS.out, List.getElem?_map, List.getElem?_eq_getElem hkg, ← hmm]; rfl
   have hple := posF_le (toG ts who) k
   cases he : (m.t == who) with
   | true =>
    rw [he] at htp
    have hit := posF_hit (toG ts who) k htp
    have h4 := hs.alloc (.cells #[.int .i64 k] 3)
    have h5 := h4.asRow 1 rfl (by decide)
    obtain ⟨v9, w9, hr9, h6, -⟩ := appI (ty := 56) (ys := [(k : Int)]) (h5.sw2) h5.sl (by unfold ivN; rw [List.length_map]; simp; omega)
    have h7 : Sep w0 (Is v9 (ivN (posF (toG ts who) (k + 1))) :: Cl b #[.slice (some ⟨bb, off, none⟩) n c] 62 :: Ro 22 40 (.slice (some ⟨bb, off, none⟩) n c) n (msCs rows) :: MTs gs :: L) w9 := by
     rw [hit, show ivN (posF (toG ts who) k ++ [k]) = ivN (posF (toG ts who) k) ++ [(k : Int)] by unfold ivN; rw [List.map_append]; rfl]
     exact (h6.sw2).drop
    have H7 := Lib.hid (And.intro hkn h7)
    have HR := Lib.hid hr9
    subst hpv
    clear hs h4 h5 h6 h7 hr9 hit htp hple hra hmi hi' hmm hkn hk hkg
    (try dsimp only); repeat' (first | (at_builtin; refine stopP ?_) | go_values | go_skip | go_guarded | go_step | go_upon | go_back)
    unfold StopP
    refine wpList_append_r rfl _ _ _ _ rfl rfl rfl HR.out ?_
    clear HR
    (try dsimp only); repeat' (first | go_values | go_skip | go_guarded | go_step | go_upon | go_back)
    go_roundw
    case rel => exact ⟨k + 1, by have := H7.out.1; omega, by go_num, H7.out.2⟩
    case measure => have := H7.out.1; simp [intOf]; omega
   | false =>
    rw [he] at htp
    have hit := posF_miss (toG ts who) k htp
    have H7 := Lib.hid (And.intro hkn (And.intro hit hs))
    clear hs hit htp hple hra hmi hi' hmm hkn hk hkg hpv
    (try dsimp only); repeat' (first | go_values | go_skip | go_guarded | go_step | go_upon | go_back)
    go_roundw
    case rel => exact ⟨k + 1, by have := H7.out.1; omega, by go_num, by rw [H7.out.2.1]; exact H7.out.2.2⟩
    case measure => have := H7.out.1; simp [intOf]; omega
  ·have hd : decide (k < n) = false := decide_eq_false hkn
   obtain rfl : k = n := by omega
   have h9 : Sep w0 (RBag b (gs.map mgC) :: MTs gs :: _ :: L) wr := Sep.rbagClose HX.out.1 (by rw [List.length_map, HX.out.2.1]; exact hs.pickL (M := [_, _, _, _]) [1, 2, 3, 0] rfl)
   have HS := Lib.hid (h9.dbClose.sw2)
   clear hs hkn hk h9 hpv
   (try dsimp only); repeat' (first | go_values | go_skip | go_guarded | go_step | go_upon | go_back)
   go_ret
   exact ⟨_, rfl, HS.out⟩
set_option maxRecDepth 100000 in
set_option maxHeartbeats 8000000 in
theorem dsameL_any {a a' : Option Addr} {n c c' : Nat} {rs gs : List MgM} (h : Sep w0 (RowT (.slice a n c) rs :: RowT (.slice a' n c') gs :: L) w) (hn : gs.length = n) (hl : n ≤ 2000) (hs : SameL rs gs) (hk : ∀ g ∈ gs, MOk g) :
  Calls Tryz.prog 11 #[.slice a n c, .slice a' n c'] w fun e w' => e = .returned (.bool true) ∧ Sep w0 (RowT (.slice a n c) rs :: RowT (.slice a' n c') gs :: L) w' := by
 have hrn : rs.length = n := by rw [hs.1]; exact hn
 have H1 := Lib.hid h
 have HX := Lib.hid (And.intro hrn (And.intro hn (And.intro hs hk)))
 have n0 : (0 : Int) ≤ (n : Int) := by omega
 have n9 : (n : Int) ≤ 2000 := by omega
 clear h hn hrn hs hk
 go_enter Tryz.func11, Tryz.ntmps11
 (try dsimp only); repeat' (first | go_values | go_skip | go_guarded | go_step | go_upon | go_back)
 go_loopw [5] (fun i wr => ∃ k : Nat, k ≤ n ∧ i = .int .i64 k ∧ Sep w0 (RowT (.slice a n c) rs :: RowT (.slice a' n c') gs :: L) wr) (fun i _ => n - (intOf i).toNat)
 case atStart => exact ⟨0, Nat.zero_le _, rfl, H1.out⟩
 case round =>
  obtain ⟨k, hk, rfl, hs⟩ := hrel
  clear H1
  have k0 : (0 : Int) ≤ (k : Int) := by omega
  have k9 : (k : Int) ≤ 100000 := by omega
  by_cases hkn : k < n
  ·have hd : decide (k < n) = true := decide_eq_true hkn
   have k1 : (k : Int) < (n : Int) := by omega
   have hkr : k < rs.length := by rw [HX.out.1]; exact hkn
   have hkg : k < gs.length := by rw [HX.out.2.1]; exact hkn
   have h2 := (hs.rowOpen)
   have h3 : Sep w0 (RowT (.slice a' n c') gs :: Rn 22 40 (.slice a n c) rs.length (msCs (rs.map mgC)) :: MTs rs :: L) wr := h2.sw3
   have h4 := h3.rowOpen
   have h5 : Sep w0 (Ro 22 40 (.slice a' n c') gs.length (msCs (gs.map mgC)) :: MTs gs :: Rn 22 40 (.slice a n c) rs.length (msCs (rs.map mgC)) :: MTs rs :: L) wr := h4.roOf
   have h6 : Sep w0 (Ro 22 40 (.slice a n c) rs.length (msCs (rs.map mgC)) :: Ro 22 40 (.slice a' n c') gs.length (msCs (gs.map mgC)) :: MTs gs :: MTs rs :: L) wr := (h5.sw3).roOf
   have hg2 := h6.sw3.mtsAt k hkg
   have hg1 := h6.sw4.mtsAt k hkr
   rw [HX.out.1, HX.out.2.1] at h6
   have hma : ∀ qs : List MgM, (∀ g ∈ qs, (mgC g).all (·.oneCell') = true) → MsgsG (qs.map mgC) (qs.map mgC) := fun qs hq => ⟨rfl, fun j h1 h2 => ⟨rfl, by rw [List.getElem_map]; rfl, by
    rw [List.getElem_map]
    have := hq _ (List.getElem_mem (by rw [List.length_map] at h1; exact h1))
    rw [Array.all_eq_true_iff_forall_mem] at this
    exact fun u hu => this u (by simpa using hu)⟩⟩
   have hoA : ∀ g ∈ rs, (mgC g).all (·.oneCell') = true := fun g hg => by
    obtain ⟨j, hj, rfl⟩ := List.getElem_of_mem hg
    exact gms_one (h6.sw4.mtsAt j hj)
   have hoB : ∀ g ∈ gs, (mgC g).all (·.oneCell') = true := fun g hg => by
    obtain ⟨j, hj, rfl⟩ := List.getElem_of_mem hg
    exact gms_one (h6.sw3.mtsAt j hj)
   obtain ⟨b1, o1, rfl, -, hl1, -⟩ := h6.drew.roMsgG (hma rs hoA) k (by rw [List.length_map]; exact hkr) (by rw [List.length_map]; exact HX.out.1)
   obtain ⟨b2, o2, rfl, -, hl2, -⟩ := h6.drew.sw2.roMsgG (hma gs hoB) k (by rw [List.length_map]; exact hkg) (by rw [List.length_map]; exact HX.out.2.1)
   rw [List.getElem_map] at hl1 hl2
   have hsk := HX.out.2.2.1.2 k hkr hkg
   have hok := HX.out.2.2.2 _ (List.getElem_mem hkg)
   have HS := Lib.hid hs
   have HC := dsame_any (w := wr.drew) rs[k] gs[k] hs.drew (hg1.below ((Below.refl _ wr).drew)) (hg2.below ((Below.refl _ wr).drew)) hsk ⟨hok.2.1, hok.2.2.1⟩
   obtain ⟨u1, hu1⟩ : ∃ z, z = mgC rs[k] := ⟨_, rfl⟩
   obtain ⟨u2, hu2⟩ : ∃ z, z = mgC gs[k] := ⟨_, rfl⟩
   rw [← hu1, ← hu2] at HC
   rw [← hu1] at hl1
   rw [← hu2] at hl2
   have HC := Lib.hid HC
   have HQ := Lib.hid hkn
   clear h2 h3 h4 h5 h6 hg1 hg2 hma hoA hoB hsk hok hu1 hu2 hkr hkg hkn hk hs HS
   (try dsimp only); repeat' (first | go_values | go_skip | go_guarded | go_step | go_upon | go_back)
   refine wp_region_G (fun w' => (Instr.loadAt 40 (.pointer (some ⟨b1, o1 + k * 22, none⟩))).run Tryz.prog w' = .ok (.agg u1) w' ∧ (Instr.loadAt 40 (.pointer (some ⟨b2, o2 + k * 22, none⟩))).run Tryz.prog w' = .ok (.agg u2) w') [8, 9] (by kernel_rfl) ⟨hl1, hl2⟩ (fun hS => ?_)
   try dsimp only at hS
   refine wpAnyG_tk (i := 0) (v := ?v0_1sm) rfl (Or.inl ⟨by rfl, ?a_⟩) hS ?b_
   case a_ => intro w hSw; (try dsimp only at hSw); go_simp; (try with_reducible rfl)
   case b_ =>
   try simp only [nz0, nz1, nz2, Act.put, nz3, nz4, nz5]
   refine wpAnyG_tk (i := 1) (v := ?v1_2sm) rfl (Or.inl ⟨by rfl, ?a_⟩) hS ?b_
   case a_ => intro w hSw; (try dsimp only at hSw); go_simp; (try with_reducible rfl)
   case b_ =>
   try simp only [nz0, nz1, nz2, Act.put, nz3, nz4, nz5]
   refine wpAnyG_tk (i := 2) (v := ?v2_3sm) rfl (Or.inl ⟨by rfl, ?a_⟩) hS ?b_
   case a_ => intro w hSw; (try dsimp only at hSw); go_simp; (try with_reducible rfl)
   case b_ =>
   try simp only [nz0, nz1, nz2, Act.put, nz3, nz4, nz5]
   refine wpAnyG_tk (i := 3) (v := .agg u1) rfl (Or.inl ⟨by rfl, ?a_⟩) hS ?b_
   case a_ => intro w hSw; exact yld_load5 rfl rfl hSw.1
   case b_ =>
   try simp only [nz0, nz1, nz2, Act.put, nz3, nz4, nz5]
   refine wpAnyG_tk (i := 4) (v := ?v4_5sm) rfl (Or.inl ⟨by rfl, ?a_⟩) hS ?b_
   case a_ => intro w hSw; (try dsimp only at hSw); go_simp; (try with_reducible rfl)
   case b_ =>
   try simp only [nz0, nz1, nz2, Act.put, nz3, nz4, nz5]
   refine wpAnyG_tk (i := 5) (v := ?v5_6sm) rfl (Or.inl ⟨by rfl, ?a_⟩) hS ?b_
   case a_ => intro w hSw; (try dsimp only at hSw); go_simp; (try with_reducible rfl)
   case b_ =>
   try simp only [nz0, nz1, nz2, Act.put, nz3, nz4, nz5]
   refine wpAnyG_tk (i := 6) (v := ?v6_7sm) rfl (Or.inl ⟨by rfl, ?a_⟩) hS ?b_
   case a_ => intro w hSw; (try dsimp only at hSw); go_simp; (try with_reducible rfl)
   case b_ =>
   try simp only [nz0, nz1, nz2, Act.put, nz3, nz4, nz5]
   refine wpAnyG_tk (i := 7) (v := .agg u2) rfl (Or.inl ⟨by rfl, ?a_⟩) hS ?b_
   case a_ => intro w hSw; exact yld_load5 rfl rfl hSw.2
   case b_ =>
   try simp only [nz0, nz1, nz2, Act.put, nz3, nz4, nz5]
   refine wpAnyG_one (i := 8) (by kernel_rfl) rfl (fun K hK => ?_)
   go_simp
   refine Calls.mono HC.out ?_
   rintro r6 w6 ⟨rfl, h9⟩
   have H9 := Lib.hid h9
   clear h9 HC
   refine hK.out _ _ (fun hno => by cases hno) ?_
   clear K hK
   try simp only [nz0, nz1, nz2, Act.put, nz3, nz4, nz5]
   refine wpAnyG_one (i := 9) (by kernel_rfl) rfl (fun K hK => ?_)
   go_simp
   refine hK.out _ _ (fun hno => by cases hno) ?_
   clear K hK
   try simp only [nz0, nz1, nz2, Act.put, nz3, nz4, nz5]
   refine wpAnyG_done (by kernel_rfl) ?_ _
   try simp only [nz0, nz1, nz2, Act.put, nz3, nz4, nz5]
   (try dsimp only); repeat' (first | go_values | go_skip | go_guarded | go_step | go_upon | go_back)
   go_roundw
   case rel => exact ⟨k + 1, by have := HQ.out; omega, by go_num, H9.out⟩
   case measure => have := HQ.out; simp [intOf]; omega
  ·have hd : decide (k < n) = false := decide_eq_false hkn
   obtain rfl : k = n := by omega
   have HS := Lib.hid hs
   clear hs hkn hk
   (try dsimp only); repeat' (first | go_values | go_skip | go_guarded | go_step | go_upon | go_back)
   go_ret
   exact ⟨rfl, HS.out⟩
end Go.Proofs.YtcnbmeiielkigaaGreatDoor
