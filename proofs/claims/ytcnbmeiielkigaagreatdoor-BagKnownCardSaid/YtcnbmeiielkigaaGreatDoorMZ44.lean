/- Stage 22, BagKnown: a bag that is none. -/
import Derived.Test.YtcnbmeiielkigaaGreatDoorMZ32
import Derived.Test.YtcnbmeiielkigaaGreatDoorMZ35
import Derived.Test.YtcnbmeiielkigaaGreatDoorMZ42
import Derived.Test.YtcnbmeiielkigaaGreatDoorMZ43
namespace Go.Proofs.YtcnbmeiielkigaaGreatDoor
open Go Go.RowKit
set_option linter.unusedVariables false
set_option linter.unusedSimpArgs false
variable {w0 w : World} {b : Nat} {gs : List MgM} {L : List Thing}
def NoneAt (p : Value) (w : World) : Prop := ∀ wx, Below w.heap.size w wx → Calls Tryz.prog 34 #[p] wx fun e w' => e = .returned (.bool true) ∧ wx = w'
theorem NoneAt.mono {p : Value} {wx : World} (h : NoneAt p w) (hb : Below w.heap.size w wx) : NoneAt p wx := fun w9 h9 => h w9 (hb.trans (h9.mono hb.size))
theorem none_nil (w : World) : NoneAt (.pointer none) w := fun wx _ => by
 go_enter Tryz.func34, Tryz.ntmps34
 (try dsimp only); repeat' (first | go_values | go_skip | go_guarded | go_step | go_upon | go_back)
 go_ret
 exact ⟨rfl, rfl⟩
theorem none_made {a : Value} (h : Sep w0 (Cl b #[.bool false, a] 60 :: L) w) : NoneAt (.pointer (some ⟨b, 0, none⟩)) w := fun wx hb => by
 have c0 := (h.below hb).cell (o := 0) rfl
 clear h hb
 go_enter Tryz.func34, Tryz.ntmps34
 (try dsimp only); repeat' (first | go_values | go_skip | go_guarded | go_step | go_upon | go_back)
 go_ret
 exact ⟨rfl, rfl⟩
theorem nchk {p : Value} (i : Int) (hN : NoneAt p w) : Calls Tryz.prog 37 #[p, .int .i64 i] w fun e w' => e = .returned (.int .i64 1) ∧ w = w' := by
 have HN := Lib.hid (hN w (Below.refl _ w))
 clear hN
 go_enter Tryz.func37, Tryz.ntmps37
 (try dsimp only); repeat' (first | go_values | go_skip | go_guarded | go_step | go_upon | go_back)
 refine HN.out.mono ?_
 rintro r0 w1 ⟨rfl, rfl⟩
 clear HN
 (try dsimp only); repeat' (first | go_values | go_skip | go_guarded | go_step | go_upon | go_back)
 go_ret
 exact ⟨rfl, rfl⟩
theorem gpass_none (i : Int) (v : Value) {p : Value} (hN : NoneAt p w) :
  Calls Tryz.prog 40 #[p, .int .i64 i, v] w fun e w' => e = .returned (.int .i64 1) ∧ w = w' := by
 have HC := Lib.hid (nchk i hN)
 clear hN
 go_enter Tryz.func40, Tryz.ntmps40
 (try dsimp only); repeat' (first | go_values | go_skip | go_guarded | go_step | go_upon | go_back)
 refine HC.out.mono ?_
 rintro r0 w1 ⟨rfl, rfl⟩
 clear HC
 (try dsimp only); repeat' (first | go_values | go_skip | go_guarded | go_step | go_upon | go_back)
 go_ret
 exact ⟨rfl, rfl⟩
theorem pcopy_none {i : Int} {p : Value} (hN : NoneAt p w) :
  Calls Tryz.prog 19 #[p, .int .i64 i] w fun e w' => e = .returned (.int .i64 1) ∧ Sep w [] w' := by
 have HP := Lib.hid (gpass_none i (.func (.func 17) #[p] #[]) hN)
 clear hN
 go_enter Tryz.func19, Tryz.ntmps19
 (try dsimp only); repeat' (first | go_values | go_skip | go_guarded | go_step | go_upon | go_back)
 refine HP.out.mono ?_
 rintro r0 w2 ⟨rfl, rfl⟩
 clear HP
 (try dsimp only); repeat' (first | go_values | go_skip | go_guarded | go_step | go_upon | go_back)
 go_ret
 exact ⟨rfl, Sep.start _⟩
set_option maxRecDepth 100000 in
set_option maxHeartbeats 4000000 in
theorem pat_none {i : Int} {p : Value} (hN : NoneAt p w) :
  Calls Tryz.prog 16 #[p, .int .i64 i] w fun e w' => e = .returned (.tuple #[.agg #[.int .i64 0, .int .i64 0, .int .i64 0, .int .i64 0, .int .i64 0, .int .i64 0, .int .i64 0, .int .i64 0, .int .i64 0, .int .i64 0, .string ⟨#[]⟩, .int .i64 0, .int .i64 0, .slice none 0 0, .int .i64 0, .int .i64 0, .int .i64 0, .bool false, .int .i64 0, .slice none 0 0, .slice none 0 0, .int .i64 0], .int .i64 1]) ∧ Sep w [] w' := by
 have h0 := (Sep.start w).alloc (.cells #[.int .i64 0, .int .i64 0, .int .i64 0, .int .i64 0, .int .i64 0, .int .i64 0, .int .i64 0, .int .i64 0, .int .i64 0, .int .i64 0, .string ⟨#[]⟩, .int .i64 0, .int .i64 0, .slice none 0 0, .int .i64 0, .int .i64 0, .int .i64 0, .bool false, .int .i64 0, .slice none 0 0, .slice none 0 0, .int .i64 0] 40)
 have HC := Lib.hid (nchk i (hN.mono h0.low))
 obtain ⟨b4, hb4⟩ : ∃ z, z = w.heap.size := ⟨_, rfl⟩
 obtain ⟨w1, hw1⟩ : ∃ z, z = w.alloc (.cells #[.int .i64 0, .int .i64 0, .int .i64 0, .int .i64 0, .int .i64 0, .int .i64 0, .int .i64 0, .int .i64 0, .int .i64 0, .int .i64 0, .string ⟨#[]⟩, .int .i64 0, .int .i64 0, .slice none 0 0, .int .i64 0, .int .i64 0, .int .i64 0, .bool false, .int .i64 0, .slice none 0 0, .slice none 0 0, .int .i64 0] 40) := ⟨_, rfl⟩
 rw [← hw1] at HC h0
 rw [← hb4] at h0
 have HT := Lib.hid (h0.thereAt 0 22 (by simp))
 have h3 := h0.storeW #[.int .i64 0, .int .i64 0, .int .i64 0, .int .i64 0, .int .i64 0, .int .i64 0, .int .i64 0, .int .i64 0, .int .i64 0, .int .i64 0, .string ⟨#[]⟩, .int .i64 0, .int .i64 0, .slice none 0 0, .int .i64 0, .int .i64 0, .int .i64 0, .bool false, .int .i64 0, .slice none 0 0, .slice none 0 0, .int .i64 0] rfl
 have HV := Lib.hid (h3.loadV 40 Tryz.underlying40 rfl (by kernel_rfl))
 have H3 := Lib.hid h3.drop
 clear hN h0 h3
 go_enter Tryz.func16, Tryz.ntmps16
 (try dsimp only); repeat' (first | go_values | go_skip | go_guarded | go_step | go_upon | go_back)
 rw [← hw1, ← hb4]
 clear hw1 hb4
 refine HC.out.mono ?_
 rintro r0 wz ⟨rfl, rfl⟩
 clear HC
 (try dsimp only); repeat' (first | (with_reducible show wpList _ _ _ (Oper.mk _ (Op.store 40 _ _) _ _ _ _ :: _) _ _; refine stopP ?_) | go_values | go_skip | go_guarded | go_step | go_upon | go_back)
 unfold StopP
 refine wpList_store_mid rfl 40 (.tmp 4) (.tmp 12) rfl b4 0 #[.int .i64 0, .int .i64 0, .int .i64 0, .int .i64 0, .int .i64 0, .int .i64 0, .int .i64 0, .int .i64 0, .int .i64 0, .int .i64 0, .string ⟨#[]⟩, .int .i64 0, .int .i64 0, .slice none 0 0, .int .i64 0, .int .i64 0, .int .i64 0, .bool false, .int .i64 0, .slice none 0 0, .slice none 0 0, .int .i64 0] rfl rfl HT.out (by kernel_rfl) (by kernel_rfl) ?_
 (try dsimp only); repeat' (first | go_values | go_skip | go_guarded | go_step | go_upon | go_back)
 exact bodyPost_ret (results_cell2 rfl rfl HV.out rfl) rfl ⟨rfl, H3.out⟩
set_option maxRecDepth 100000 in
set_option maxHeartbeats 4000000 in
theorem ptake_none {i : Int} {p : Value} (hN : NoneAt p w) :
  Calls Tryz.prog 15 #[p, .int .i64 i] w fun e w' => e = .returned (.tuple #[.agg #[.int .i64 0, .int .i64 0, .int .i64 0, .int .i64 0, .int .i64 0, .int .i64 0, .int .i64 0, .int .i64 0, .int .i64 0, .int .i64 0, .string ⟨#[]⟩, .int .i64 0, .int .i64 0, .slice none 0 0, .int .i64 0, .int .i64 0, .int .i64 0, .bool false, .int .i64 0, .slice none 0 0, .slice none 0 0, .int .i64 0], .int .i64 1]) ∧ Sep w [] w' := by
 have h0 := (Sep.start w).alloc (.cells #[.int .i64 0, .int .i64 0, .int .i64 0, .int .i64 0, .int .i64 0, .int .i64 0, .int .i64 0, .int .i64 0, .int .i64 0, .int .i64 0, .string ⟨#[]⟩, .int .i64 0, .int .i64 0, .slice none 0 0, .int .i64 0, .int .i64 0, .int .i64 0, .bool false, .int .i64 0, .slice none 0 0, .slice none 0 0, .int .i64 0] 40)
 have HC := Lib.hid (nchk i (hN.mono h0.low))
 obtain ⟨b4, hb4⟩ : ∃ z, z = w.heap.size := ⟨_, rfl⟩
 obtain ⟨w1, hw1⟩ : ∃ z, z = w.alloc (.cells #[.int .i64 0, .int .i64 0, .int .i64 0, .int .i64 0, .int .i64 0, .int .i64 0, .int .i64 0, .int .i64 0, .int .i64 0, .int .i64 0, .string ⟨#[]⟩, .int .i64 0, .int .i64 0, .slice none 0 0, .int .i64 0, .int .i64 0, .int .i64 0, .bool false, .int .i64 0, .slice none 0 0, .slice none 0 0, .int .i64 0] 40) := ⟨_, rfl⟩
 rw [← hw1] at HC h0
 rw [← hb4] at h0
 have HT := Lib.hid (h0.thereAt 0 22 (by simp))
 have h3 := h0.storeW #[.int .i64 0, .int .i64 0, .int .i64 0, .int .i64 0, .int .i64 0, .int .i64 0, .int .i64 0, .int .i64 0, .int .i64 0, .int .i64 0, .string ⟨#[]⟩, .int .i64 0, .int .i64 0, .slice none 0 0, .int .i64 0, .int .i64 0, .int .i64 0, .bool false, .int .i64 0, .slice none 0 0, .slice none 0 0, .int .i64 0] rfl
 have HV := Lib.hid (h3.loadV 40 Tryz.underlying40 rfl (by kernel_rfl))
 have H3 := Lib.hid h3.drop
 clear hN h0 h3
 go_enter Tryz.func15, Tryz.ntmps15
 (try dsimp only); repeat' (first | go_values | go_skip | go_guarded | go_step | go_upon | go_back)
 rw [← hw1, ← hb4]
 clear hw1 hb4
 refine HC.out.mono ?_
 rintro r0 wz ⟨rfl, rfl⟩
 clear HC
 (try dsimp only); repeat' (first | (with_reducible show wpList _ _ _ (Oper.mk _ (Op.store 40 _ _) _ _ _ _ :: _) _ _; refine stopP ?_) | go_values | go_skip | go_guarded | go_step | go_upon | go_back)
 unfold StopP
 refine wpList_store_mid rfl 40 (.tmp 4) (.tmp 12) rfl b4 0 #[.int .i64 0, .int .i64 0, .int .i64 0, .int .i64 0, .int .i64 0, .int .i64 0, .int .i64 0, .int .i64 0, .int .i64 0, .int .i64 0, .string ⟨#[]⟩, .int .i64 0, .int .i64 0, .slice none 0 0, .int .i64 0, .int .i64 0, .int .i64 0, .bool false, .int .i64 0, .slice none 0 0, .slice none 0 0, .int .i64 0] rfl rfl HT.out (by kernel_rfl) (by kernel_rfl) ?_
 (try dsimp only); repeat' (first | go_values | go_skip | go_guarded | go_step | go_upon | go_back)
 exact bodyPost_ret (results_cell2 rfl rfl HV.out rfl) rfl ⟨rfl, H3.out⟩
theorem pdrop_none {i : Int} {p : Value} (hN : NoneAt p w) :
  Calls Tryz.prog 20 #[p, .int .i64 i] w fun e w' => e = .returned (.int .i64 1) ∧ Sep w [] w' := by
 have HA := Lib.hid (ptake_none (i := i) hN)
 obtain ⟨u, hu⟩ : ∃ z, z = (#[.int .i64 0, .int .i64 0, .int .i64 0, .int .i64 0, .int .i64 0, .int .i64 0, .int .i64 0, .int .i64 0, .int .i64 0, .int .i64 0, .string ⟨#[]⟩, .int .i64 0, .int .i64 0, .slice none 0 0, .int .i64 0, .int .i64 0, .int .i64 0, .bool false, .int .i64 0, .slice none 0 0, .slice none 0 0, .int .i64 0] : Array Value) := ⟨_, rfl⟩
 have hus : u.size = 22 := by rw [hu]; rfl
 have huo : u.all (·.oneCell') = true := by rw [hu]; exact zone
 rw [← hu] at HA
 clear hN
 go_enter Tryz.func20, Tryz.ntmps20
 (try dsimp only); repeat' (first | go_values | go_skip | go_guarded | go_step | go_upon | go_back)
 refine HA.out.mono ?_
 rintro r0 w1 ⟨rfl, h1⟩
 clear hu HA
 have h2 := h1.alloc (.cells #[.int .i64 0, .int .i64 0, .int .i64 0, .int .i64 0, .int .i64 0, .int .i64 0, .int .i64 0, .int .i64 0, .int .i64 0, .int .i64 0, .string ⟨#[]⟩, .int .i64 0, .int .i64 0, .slice none 0 0, .int .i64 0, .int .i64 0, .int .i64 0, .bool false, .int .i64 0, .slice none 0 0, .slice none 0 0, .int .i64 0] 40)
 have HT2 := Lib.hid (h2.thereAt 0 22 (by simp))
 have h3 := h2.storeW u (by rw [hus]; rfl)
 have HI : Hid ((Tryz.prog.info? 40).map (·.size) = some u.size) := Lib.hid (by rw [hus]; kernel_rfl)
 have HO : Hid (u.all (·.oneCell') = true) := Lib.hid huo
 have HTH : Hid ((w1.alloc (.cells #[.int .i64 0, .int .i64 0, .int .i64 0, .int .i64 0, .int .i64 0, .int .i64 0, .int .i64 0, .int .i64 0, .int .i64 0, .int .i64 0, .string ⟨#[]⟩, .int .i64 0, .int .i64 0, .slice none 0 0, .int .i64 0, .int .i64 0, .int .i64 0, .bool false, .int .i64 0, .slice none 0 0, .slice none 0 0, .int .i64 0] 40)).there w1.heap.size 0 u.size) := Lib.hid (by rw [hus]; exact HT2.out)
 obtain ⟨b6, hb6⟩ : ∃ z, z = w1.heap.size := ⟨_, rfl⟩
 obtain ⟨w3, hw3⟩ : ∃ z, z = (w1.alloc (.cells #[.int .i64 0, .int .i64 0, .int .i64 0, .int .i64 0, .int .i64 0, .int .i64 0, .int .i64 0, .int .i64 0, .int .i64 0, .int .i64 0, .string ⟨#[]⟩, .int .i64 0, .int .i64 0, .slice none 0 0, .int .i64 0, .int .i64 0, .int .i64 0, .bool false, .int .i64 0, .slice none 0 0, .slice none 0 0, .int .i64 0] 40)).setCells w1.heap.size 0 u.toList := ⟨_, rfl⟩
 rw [← hw3, ← hb6] at h3
 have HL3 := Lib.hid (h3.loadW 40 Tryz.underlying40 rfl (by rw [hus]; kernel_rfl))
 have H3 := Lib.hid h3
 clear h1 h2 h3 HT2
 (try dsimp only); repeat' (first | (with_reducible show wpList _ _ _ (Oper.mk _ (Op.store 40 _ _) _ _ _ _ :: _) _ _; refine stopP ?_) | go_values | go_skip | go_guarded | go_step | go_upon | go_back)
 unfold StopP
 refine wpList_store_mid rfl 40 (.tmp 5) (.tmp 11) rfl w1.heap.size 0 u rfl rfl HTH.out HI.out HO.out ?_
 rw [← hw3, ← hb6]
 clear hw3 hb6 HTH
 (try dsimp only); repeat' (first | go_values | go_skip | go_guarded | go_step | go_upon | go_back)
 go_ret
 exact ⟨rfl, H3.out.drop⟩
theorem plen_none {p : Value} (hN : NoneAt p w) : Calls Tryz.prog 8 #[p] w fun e w' => e = .returned (.int .i64 0) ∧ w = w' := by
 have HN := Lib.hid (hN w (Below.refl _ w))
 clear hN
 go_enter Tryz.func8, Tryz.ntmps8
 (try dsimp only); repeat' (first | go_values | go_skip | go_guarded | go_step | go_upon | go_back)
 refine HN.out.mono ?_
 rintro r0 w1 ⟨rfl, rfl⟩
 clear HN
 (try dsimp only); repeat' (first | go_values | go_skip | go_guarded | go_step | go_upon | go_back)
 go_ret
 exact ⟨rfl, rfl⟩
theorem plist_none {p : Value} (hN : NoneAt p w) : Calls Tryz.prog 10 #[p] w fun e w' => e = .returned (.slice none 0 0) ∧ w = w' := by
 have HN := Lib.hid (hN w (Below.refl _ w))
 clear hN
 go_enter Tryz.func10, Tryz.ntmps10
 (try dsimp only); repeat' (first | go_values | go_skip | go_guarded | go_step | go_upon | go_back)
 refine HN.out.mono ?_
 rintro r0 w1 ⟨rfl, rfl⟩
 clear HN
 (try dsimp only); repeat' (first | go_values | go_skip | go_guarded | go_step | go_upon | go_back)
 go_ret
 exact ⟨rfl, rfl⟩
theorem pto_none {p : Value} (i : Int) (hN : NoneAt p w) : Calls Tryz.prog 21 #[p, .int .i64 i] w fun e w' => e = .returned (.slice none 0 0) ∧ w = w' := by
 have HN := Lib.hid (hN w (Below.refl _ w))
 clear hN
 go_enter Tryz.func21, Tryz.ntmps21
 (try dsimp only); repeat' (first | go_values | go_skip | go_guarded | go_step | go_upon | go_back)
 refine HN.out.mono ?_
 rintro r0 w1 ⟨rfl, rfl⟩
 clear HN
 (try dsimp only); repeat' (first | go_values | go_skip | go_guarded | go_step | go_upon | go_back)
 go_ret
 exact ⟨rfl, rfl⟩
theorem pput_none {p : Value} (mc : Array Value) (hs : mc.size = 22) (hN : NoneAt p w) : Calls Tryz.prog 17 #[p, .agg mc] w fun e w' => e = .returned (.int .i64 1) ∧ Sep w [] w' := by
 have h1 := (Sep.start w).alloc (.cells mc 40)
 have HN := Lib.hid ((hN.mono h1.low) _ (Below.refl _ _))
 have H1 := Lib.hid h1.drop
 obtain ⟨b3, hb3⟩ : ∃ z, z = w.heap.size := ⟨_, rfl⟩
 obtain ⟨w1, hw1⟩ : ∃ z, z = w.alloc (.cells mc 40) := ⟨_, rfl⟩
 rw [← hw1] at HN H1
 clear hN h1
 go_enter Tryz.func17, Tryz.ntmps17
 (try dsimp only); repeat' (first | go_values | go_skip | go_guarded | go_step | go_upon | go_back)
 rw [← hw1, ← hb3]
 clear hw1 hb3
 refine HN.out.mono ?_
 rintro r0 w2 ⟨rfl, rfl⟩
 clear HN
 (try dsimp only); repeat' (first | go_values | go_skip | go_guarded | go_step | go_upon | go_back)
 go_ret
 exact ⟨rfl, H1.out⟩
end Go.Proofs.YtcnbmeiielkigaaGreatDoor
/- Stage 22, BagKnown: a full bag. -/
namespace Go.Proofs.YtcnbmeiielkigaaGreatDoor
open Go Go.RowKit
set_option linter.unusedVariables false
set_option linter.unusedSimpArgs false
variable {w0 w : World} {b : Nat} {gs : List MgM} {L : List Thing}
set_option maxRecDepth 100000 in
set_option maxHeartbeats 16000000 in
theorem gput_full {w0 w : World} {g : Nat} {ms : List (Array Value)} {L : List Thing} (m : MgM) (h : Sep w0 (BagG g ms :: L) w) (hg : ∀ wx, Sep w0 L wx → GmS wx m) (hK : KindsAt w0 ∧ MKindsAt w0) (hl : m.ck.length ≤ 1000000000) (hx : m.ps.length ≤ 1000000) (hnl : ms.length = 2000) (hchk : chkB m = true) :
  Calls Tryz.prog 17 #[.pointer (some ⟨g, 0, none⟩), .agg (mgC m)] w fun e w' => e = .returned (.int .i64 5) ∧ Sep w0 (BagG g ms :: L) w' := by
 obtain ⟨a, c, rows, hm, h1⟩ := h.gbagOpen
 have hsz : (mgC m).size = 22 := rfl
 have h2 := h1.alloc (.cells (mgC m) 40)
 have HN := Lib.hid (bnone_any (h2.sw2.cell (o := 0) rfl))
 have HL := Lib.hid (h2.loadW 40 Tryz.underlying40 rfl (by rw [hsz]; kernel_rfl))
 have hgp := hg _ (h2.drop.drop.drop)
 have hck := gcheck_w m hgp (hK.1.below h2.low) (hK.2.below h2.low) hl hx
 rw [hchk, if_pos rfl] at hck
 have HCK := Lib.hid (hck.mono fun e w' hh => And.intro hh.1 (h2.below hh.2.low))
 obtain ⟨b3, hb3⟩ : ∃ z, z = w.heap.size := ⟨_, rfl⟩
 obtain ⟨w1, hw1⟩ : ∃ z, z = w.alloc (.cells (mgC m) 40) := ⟨_, rfl⟩
 rw [← hw1] at HN HL HCK
 rw [← hb3] at HL HCK
 obtain ⟨n, hn⟩ : ∃ z, z = ms.length := ⟨_, rfl⟩
 have HM := Lib.hid (And.intro hm hn)
 rw [← hn] at HCK
 have n0 : (0 : Int) ≤ (n : Int) := by omega
 have n2 : decide ((2000 : Int) ≤ (n : Int)) = true := decide_eq_true (by omega)
 have n3 : decide (2000 ≤ n) = true := decide_eq_true (by omega)
 obtain ⟨mc, hmc⟩ : ∃ z, z = mgC m := ⟨_, rfl⟩
 rw [← hmc] at HL HCK hw1 hsz ⊢
 have HMC := Lib.hid (And.intro hmc hsz)
 clear h h1 h2 hgp hck hg hl hx hm hn hK hchk hmc hsz
 go_enter Tryz.func17, Tryz.ntmps17
 (try dsimp only); repeat' (first | go_values | go_skip | go_guarded | go_step | go_upon | go_back)
 rw [← hw1, ← hb3]
 clear hw1 hb3
 refine HN.out.mono ?_
 rintro r0 w2 ⟨rfl, rfl⟩
 clear HN
 (try dsimp only); repeat' (first | (with_reducible show wpList _ _ _ (Oper.mk _ (Op.load 40 _) _ _ _ _ :: _) _ _; refine stopP ?_) | go_values | go_skip | go_guarded | go_step | go_upon | go_back)
 unfold StopP
 have hq_ := HL.out
 refine wpList_load_run rfl 40 _ rfl _ _ rfl hq_ ?_
 clear hq_
 (try dsimp only); repeat' (first | go_values | go_skip | go_guarded | go_step | go_upon | go_back)
 refine HCK.out.mono ?_
 rintro r0 w2 ⟨rfl, h3⟩
 have c1 := h3.sw2.cell (o := 1) rfl
 have HF := Lib.hid (Sep.gbagClose (ms := ms) HM.out.1 (by rw [← HM.out.2]; exact h3.drop))
 clear HCK h3
 (try dsimp only); repeat' (first | go_values | go_skip | go_guarded | go_step | go_upon | go_back)
 go_ret
 exact ⟨rfl, HF.out⟩
set_option maxRecDepth 100000 in
set_option maxHeartbeats 16000000 in
theorem gput_badL {w0 w : World} {g : Nat} {ms : List (Array Value)} {L : List Thing} (m : MgM) (h : Sep w0 (BagG g ms :: L) w) (hg : ∀ wx, Sep w0 L wx → GmS wx m) (hK : KindsAt w0 ∧ MKindsAt w0) (hl : m.ck.length ≤ 1000000000) (hx : m.ps.length ≤ 1000000) (hchk : chkB m = false) :
  Calls Tryz.prog 17 #[.pointer (some ⟨g, 0, none⟩), .agg (mgC m)] w fun e w' => e = .returned (.int .i64 2) ∧ Sep w0 (BagG g ms :: L) w' := by
 obtain ⟨a, c, rows, hm, h1⟩ := h.gbagOpen
 have hsz : (mgC m).size = 22 := rfl
 have h2 := h1.alloc (.cells (mgC m) 40)
 have HN := Lib.hid (bnone_any (h2.sw2.cell (o := 0) rfl))
 have HL := Lib.hid (h2.loadW 40 Tryz.underlying40 rfl (by rw [hsz]; kernel_rfl))
 have hgp := hg _ (h2.drop.drop.drop)
 have hck := gcheck_w m hgp (hK.1.below h2.low) (hK.2.below h2.low) hl hx
 rw [hchk, if_neg (by simp)] at hck
 have HCK := Lib.hid (hck.mono fun e w' hh => And.intro hh.1 (h2.below hh.2.low))
 obtain ⟨b3, hb3⟩ : ∃ z, z = w.heap.size := ⟨_, rfl⟩
 obtain ⟨w1, hw1⟩ : ∃ z, z = w.alloc (.cells (mgC m) 40) := ⟨_, rfl⟩
 rw [← hw1] at HN HL HCK
 rw [← hb3] at HL HCK
 obtain ⟨n, hn⟩ : ∃ z, z = ms.length := ⟨_, rfl⟩
 have HM := Lib.hid (And.intro hm hn)
 rw [← hn] at HCK
 have n0 : (0 : Int) ≤ (n : Int) := by omega
 obtain ⟨mc, hmc⟩ : ∃ z, z = mgC m := ⟨_, rfl⟩
 rw [← hmc] at HL HCK hw1 hsz ⊢
 have HMC := Lib.hid (And.intro hmc hsz)
 clear h h1 h2 hgp hck hg hl hx hm hn hK hchk hmc hsz
 go_enter Tryz.func17, Tryz.ntmps17
 (try dsimp only); repeat' (first | go_values | go_skip | go_guarded | go_step | go_upon | go_back)
 rw [← hw1, ← hb3]
 clear hw1 hb3
 refine HN.out.mono ?_
 rintro r0 w2 ⟨rfl, rfl⟩
 clear HN
 (try dsimp only); repeat' (first | (with_reducible show wpList _ _ _ (Oper.mk _ (Op.load 40 _) _ _ _ _ :: _) _ _; refine stopP ?_) | go_values | go_skip | go_guarded | go_step | go_upon | go_back)
 unfold StopP
 have hq_ := HL.out
 refine wpList_load_run rfl 40 _ rfl _ _ rfl hq_ ?_
 clear hq_
 (try dsimp only); repeat' (first | go_values | go_skip | go_guarded | go_step | go_upon | go_back)
 refine HCK.out.mono ?_
 rintro r0 w2 ⟨rfl, h3⟩
 have HF := Lib.hid (Sep.gbagClose (ms := ms) HM.out.1 (by rw [← HM.out.2]; exact h3.drop))
 clear HCK h3
 (try dsimp only); repeat' (first | go_values | go_skip | go_guarded | go_step | go_upon | go_back)
 go_ret
 exact ⟨rfl, HF.out⟩
theorem pput_ownF {i : Nat} (h : Sep w0 (PB b gs :: L) w) (hi : i < gs.length) (hk : MOk gs[i]) (hK : KindsAt w0 ∧ MKindsAt w0) (hn : gs.length = 2000) :
  Calls Tryz.prog 17 #[.pointer (some ⟨b, 0, none⟩), .agg (mgC gs[i])] w fun e w' => e = .returned (.int .i64 5) ∧ Sep w0 (PB b gs :: L) w' :=
 (gput_full gs[i] h.pbOpen (fun wx hx => hx.mtsAt i hi) hK (by have := hk.2.1; omega) (by have := hk.2.2.1; omega) (by rw [List.length_map]; exact hn) hk.1).mono fun e w' ⟨he, h1⟩ => ⟨he, h1.pbClose⟩
set_option maxRecDepth 100000 in
set_option maxHeartbeats 4000000 in
theorem gpass_full {i : Nat} (h : Sep w0 (PB b gs :: L) w) (hi : i < gs.length) (hk : MOk gs[i]) (hK : KindsAt w0 ∧ MKindsAt w0) (hn : gs.length = 2000) :
  Calls Tryz.prog 40 #[.pointer (some ⟨b, 0, none⟩), .int .i64 i, .func (.func 17) #[.pointer (some ⟨b, 0, none⟩)] #[]] w fun e w' => e = .returned (.int .i64 5) ∧ Sep w0 (PB b gs :: L) w' := by
 have h0 := h.pbOpen
 have HC := Lib.hid (gbchk_ok i h0 (by rw [List.length_map]; exact hi))
 obtain ⟨a, c, rows, hm, h1⟩ := h0.gbagOpen
 obtain ⟨hi', hmi⟩ := hm.at i (by rw [List.length_map]; exact hi)
 obtain ⟨g, off, rfl, -, hld, -⟩ := h1.sw2.roMsgG hm i hi' hm.1
 have c1 := h1.cell (o := 1) rfl
 rw [hmi.1, List.getElem_map] at hld
 rw [List.length_map] at c1
 have HP := Lib.hid (pput_ownF h hi hk hK hn)
 have i0 : (0 : Int) ≤ (i : Int) := by omega
 have i1 : (i : Int) < ((gs.length : Nat) : Int) := by omega
 obtain ⟨m, hmm⟩ : ∃ z, z = gs[i] := ⟨_, rfl⟩
 rw [← hmm] at HP hld
 obtain ⟨u, hu⟩ : ∃ z, z = mgC m := ⟨_, rfl⟩
 rw [← hu] at HP hld
 have HL := Lib.hid hld
 obtain ⟨n, hnn⟩ : ∃ z, z = gs.length := ⟨_, rfl⟩
 rw [← hnn] at c1 i1
 clear h h0 h1 hm hmi hld hk hn hi hi' hmm hnn hu
 go_enter Tryz.func40, Tryz.ntmps40
 (try dsimp only); repeat' (first | go_values | go_skip | go_guarded | go_step | go_upon | go_back)
 refine HC.out.mono ?_
 rintro r0 w1 ⟨rfl, rfl⟩
 clear HC
 (try dsimp only); repeat' (first | (with_reducible show wpList _ _ _ (Oper.mk _ (Op.load 40 _) _ _ _ _ :: _) _ _; refine stopP ?_) | go_values | go_skip | go_guarded | go_step | go_upon | go_back)
 unfold StopP
 have hq_ := HL.out
 refine wpList_load_run rfl 40 _ rfl _ _ rfl hq_ ?_
 clear hq_
 (try dsimp only); repeat' (first | go_values | go_skip | go_guarded | go_step | go_upon | go_back)
 refine HP.out.mono ?_
 rintro r0 w2 ⟨rfl, h2⟩
 have H2 := Lib.hid h2
 clear HP h2
 (try dsimp only); repeat' (first | go_values | go_skip | go_guarded | go_step | go_upon | go_back)
 go_ret
 exact ⟨rfl, H2.out⟩
theorem pcopy_full {i : Nat} (h : Sep w0 (PB b gs :: L) w) (hi : i < gs.length) (hk : MOk gs[i]) (hK : KindsAt w0 ∧ MKindsAt w0) (hn : gs.length = 2000) :
  Calls Tryz.prog 19 #[.pointer (some ⟨b, 0, none⟩), .int .i64 i] w fun e w' => e = .returned (.int .i64 5) ∧ Sep w0 (PB b gs :: L) w' := by
 have HP := Lib.hid (gpass_full h hi hk hK hn)
 clear h hi hk hn hK
 go_enter Tryz.func19, Tryz.ntmps19
 (try dsimp only); repeat' (first | go_values | go_skip | go_guarded | go_step | go_upon | go_back)
 refine HP.out.mono ?_
 rintro r0 w2 ⟨rfl, h2⟩
 have H2 := Lib.hid h2
 clear HP h2
 (try dsimp only); repeat' (first | go_values | go_skip | go_guarded | go_step | go_upon | go_back)
 go_ret
 exact ⟨rfl, H2.out⟩
theorem pput_full (m : MgM) (h : Sep w0 (PB b gs :: L) w) (hg : ∀ wx, Sep w0 L wx → GmS wx m) (hK : KindsAt w0 ∧ MKindsAt w0) (hk : MOk m) (hn : gs.length = 2000) :
  Calls Tryz.prog 17 #[.pointer (some ⟨b, 0, none⟩), .agg (mgC m)] w fun e w' => e = .returned (.int .i64 5) ∧ Sep w0 (PB b gs :: L) w' :=
 (gput_full m h.pbOpen (fun wx hx => hg wx hx.drop) hK (by have := hk.2.1; omega) (by have := hk.2.2.1; omega) (by rw [List.length_map]; exact hn) hk.1).mono fun e w' ⟨he, h1⟩ => ⟨he, h1.pbClose⟩
theorem pput_badL (m : MgM) (h : Sep w0 (PB b gs :: L) w) (hg : ∀ wx, Sep w0 L wx → GmS wx m) (hK : KindsAt w0 ∧ MKindsAt w0) (hs : Sml m) (hc : chkB m = false) :
  Calls Tryz.prog 17 #[.pointer (some ⟨b, 0, none⟩), .agg (mgC m)] w fun e w' => e = .returned (.int .i64 2) ∧ Sep w0 (PB b gs :: L) w' :=
 (gput_badL m h.pbOpen (fun wx hx => hg wx hx.drop) hK (by have := hs.1; omega) (by have := hs.2.1; omega) hc).mono fun e w' ⟨he, h1⟩ => ⟨he, h1.pbClose⟩
def smG (n : Int) : MgM := { zG with k := 6, f := n % 3, t := n % 5, v := n }
theorem gms_z (w : World) {g : MgM} (h1 : g.lv = .slice none 0 0) (h2 : g.cv = .slice none 0 0) (h3 : g.ev = .slice none 0 0) (h4 : g.en.p.ls = []) (h5 : g.ck = []) (h6 : g.ps = []) : GmS w g := by
 have h := (Sep.mtZero (Sep.start w)).mtGm
 unfold GmS at h ⊢
 rw [h1, h2, h3, h4, h5, h6]
 exact h
theorem smG_ok {n : Int} (h0 : 0 ≤ n) (hn : n ≤ 2199023255552) : MOk (smG n) := by
 refine ⟨?_, Nat.zero_le _, Nat.zero_le _, Nat.zero_le _, (by decide : (0 : Int) ≤ 9223372036854775807)⟩
 have h3 := Int.emod_nonneg n (show (3 : Int) ≠ 0 by decide)
 have h3' := Int.emod_lt_of_pos n (show (0 : Int) < 3 by decide)
 have h5 := Int.emod_nonneg n (show (5 : Int) ≠ 0 by decide)
 have h5' := Int.emod_lt_of_pos n (show (0 : Int) < 5 by decide)
 show chkB { zG with k := 6, f := n % 3, t := n % 5, v := n } = true
 generalize n % 3 = q at *
 generalize n % 5 = r at *
 have e1 : partB q = true := decide_eq_true (by omega)
 have e2 : partB r = true := decide_eq_true (by omega)
 have e3 : holdsB (bit (mfieldsOf 6) 1) n = true := by
  rw [show bit (mfieldsOf 6) 1 = true by decide]
  unfold holdsB
  split
  ·rfl
  ·rw [Bool.true_and]
   exact decide_eq_true (by omega)
 show (!(mfieldsOf 6 == 0) && (partB q && (partB r && (holdsB (bit (mfieldsOf 6) 1) n && (holdsB (bit (mfieldsOf 6) 2) 0 && (holdsB (bit (mfieldsOf 6) 4) 0 && (holdsB (bit (mfieldsOf 6) 8) 0 && (fEB (mfieldsOf 6) enZ0 && (fRB (mfieldsOf 6) 0 0 0 false && fIB (mfieldsOf 6) 0 [] [] 0))))))))) = true
 rw [e1, e2, e3]
 rfl
set_option maxRecDepth 100000 in
set_option maxHeartbeats 4000000 in
theorem smallG_any {w0 w : World} {L : List Thing} (n : Int) (h0 : 0 ≤ n) (hn : n ≤ 2199023255552) (h : Sep w0 L w) : Calls Tryz.prog 18 #[.int .i64 n] w fun e w' => e = .returned (.agg (mgC (smG n))) ∧ Sep w0 L w' := by
 have h1 : Sep w0 (Cl w.heap.size #[.int .i64 0, .int .i64 0, .int .i64 0, .int .i64 0, .int .i64 0, .int .i64 0, .int .i64 0, .int .i64 0, .int .i64 0, .int .i64 0, .string ⟨#[]⟩, .int .i64 0, .int .i64 0, .slice none 0 0, .int .i64 0, .int .i64 0, .int .i64 0, .bool false, .int .i64 0, .slice none 0 0, .slice none 0 0, .int .i64 0] 40 :: L) (w.alloc (.cells #[.int .i64 0, .int .i64 0, .int .i64 0, .int .i64 0, .int .i64 0, .int .i64 0, .int .i64 0, .int .i64 0, .int .i64 0, .int .i64 0, .string ⟨#[]⟩, .int .i64 0, .int .i64 0, .slice none 0 0, .int .i64 0, .int .i64 0, .int .i64 0, .bool false, .int .i64 0, .slice none 0 0, .slice none 0 0, .int .i64 0] 40)) := h.alloc _
 have HT := Lib.hid (h1.thereW 22 rfl)
 have h2 := h1.storeW (mgC (smG n)) rfl
 have HV := Lib.hid (h2.loadV 40 Tryz.underlying40 rfl (by kernel_rfl))
 have H2 := Lib.hid h2.drop
 clear h h1 h2
 go_enter Tryz.func18, Tryz.ntmps18
 (try dsimp only); repeat' (first | (with_reducible show wpList _ _ _ (Oper.mk _ (Op.store 40 _ _) _ _ _ _ :: _) _ _; refine stopP ?_) | go_values | go_skip | go_guarded | go_step | go_upon | go_back)
 unfold StopP
 refine wpList_store_mid rfl 40 (.tmp 2) (.tmp 8) rfl _ 0 (mgC (smG n)) rfl rfl HT.out (by kernel_rfl) (by kernel_rfl) ?_
 (try dsimp only); repeat' (first | go_values | go_skip | go_guarded | go_step | go_upon | go_back)
 exact bodyPost_ret (results_cell rfl rfl HV.out) rfl ⟨rfl, H2.out⟩
end Go.Proofs.YtcnbmeiielkigaaGreatDoor
/- Stage 22, BagKnown: rows of calls of one's own. -/
namespace Go.Proofs.YtcnbmeiielkigaaGreatDoor
open Go Go.RowKit
set_option linter.unusedVariables false
set_option linter.unusedSimpArgs false
theorem list25 {cs : List Value} (h : cs.length = 25) : ∃ u0 u1 u2 u3 u4 u5 u6 u7 u8 u9 u10 u11 u12 u13 u14 u15 u16 u17 u18 u19 u20 u21 u22 u23 u24, cs = [u0, u1, u2, u3, u4, u5, u6, u7, u8, u9, u10, u11, u12, u13, u14, u15, u16, u17, u18, u19, u20, u21, u22, u23, u24] := by
 match cs, h with
 | [u0, u1, u2, u3, u4, u5, u6, u7, u8, u9, u10, u11, u12, u13, u14, u15, u16, u17, u18, u19, u20, u21, u22, u23, u24], _ => exact ⟨u0, u1, u2, u3, u4, u5, u6, u7, u8, u9, u10, u11, u12, u13, u14, u15, u16, u17, u18, u19, u20, u21, u22, u23, u24, rfl⟩
set_option maxRecDepth 100000 in
set_option maxHeartbeats 4000000 in
theorem build75 (w : World) (a0 a1 a2 a3 a4 a5 a6 a7 a8 a9 a10 a11 a12 a13 a14 a15 a16 a17 a18 a19 a20 a21 a22 a23 a24 b0 b1 b2 b3 b4 b5 b6 b7 b8 b9 b10 b11 b12 b13 b14 b15 b16 b17 b18 b19 b20 b21 b22 b23 b24 c0 c1 c2 c3 c4 c5 c6 c7 c8 c9 c10 c11 c12 c13 c14 c15 c16 c17 c18 c19 c20 c21 c22 c23 c24 : Value) :
  (Instr.buildSlice 22 3 #[(0, .agg #[a0, a1, a2, a3, a4, a5, a6, a7, a8, a9, a10, a11, a12, a13, a14, a15, a16, a17, a18, a19, a20, a21, a22, a23, a24]), (1, .agg #[b0, b1, b2, b3, b4, b5, b6, b7, b8, b9, b10, b11, b12, b13, b14, b15, b16, b17, b18, b19, b20, b21, b22, b23, b24]), (2, .agg #[c0, c1, c2, c3, c4, c5, c6, c7, c8, c9, c10, c11, c12, c13, c14, c15, c16, c17, c18, c19, c20, c21, c22, c23, c24])]).run Tryz.prog w = .ok (.slice (some ⟨w.heap.size, 0, none⟩) 3 3) (w.alloc (.cells #[a0, a1, a2, a3, a4, a5, a6, a7, a8, a9, a10, a11, a12, a13, a14, a15, a16, a17, a18, a19, a20, a21, a22, a23, a24, b0, b1, b2, b3, b4, b5, b6, b7, b8, b9, b10, b11, b12, b13, b14, b15, b16, b17, b18, b19, b20, b21, b22, b23, b24, c0, c1, c2, c3, c4, c5, c6, c7, c8, c9, c10, c11, c12, c13, c14, c15, c16, c17, c18, c19, c20, c21, c22, c23, c24] 42)) := by
 simp [go_sem]
set_option maxRecDepth 100000 in
set_option maxHeartbeats 4000000 in
theorem build3d (w : World) (a b c : Array Value) (ha : a.size = 25) (hb : b.size = 25) (hc : c.size = 25) :
  (Instr.buildSlice 22 3 #[(0, .agg a), (1, .agg b), (2, .agg c)]).run Tryz.prog w = .ok (.slice (some ⟨w.heap.size, 0, none⟩) 3 3) (w.alloc (.cells (a.toList ++ (b.toList ++ c.toList)).toArray 42)) := by
 obtain ⟨a⟩ := a
 obtain ⟨b⟩ := b
 obtain ⟨c⟩ := c
 obtain ⟨a0, a1, a2, a3, a4, a5, a6, a7, a8, a9, a10, a11, a12, a13, a14, a15, a16, a17, a18, a19, a20, a21, a22, a23, a24, rfl⟩ := list25 ha
 obtain ⟨b0, b1, b2, b3, b4, b5, b6, b7, b8, b9, b10, b11, b12, b13, b14, b15, b16, b17, b18, b19, b20, b21, b22, b23, b24, rfl⟩ := list25 hb
 obtain ⟨c0, c1, c2, c3, c4, c5, c6, c7, c8, c9, c10, c11, c12, c13, c14, c15, c16, c17, c18, c19, c20, c21, c22, c23, c24, rfl⟩ := list25 hc
 have h := build75 w a0 a1 a2 a3 a4 a5 a6 a7 a8 a9 a10 a11 a12 a13 a14 a15 a16 a17 a18 a19 a20 a21 a22 a23 a24 b0 b1 b2 b3 b4 b5 b6 b7 b8 b9 b10 b11 b12 b13 b14 b15 b16 b17 b18 b19 b20 b21 b22 b23 b24 c0 c1 c2 c3 c4 c5 c6 c7 c8 c9 c10 c11 c12 c13 c14 c15 c16 c17 c18 c19 c20 c21 c22 c23 c24
 simpa only [List.cons_append, List.nil_append] using h
theorem step_build3d {ops : Array Oper} {o : Oper} {a : Act} {w w' : World} {K : Act → World → Prop} {Q : Exit → Act → World → Prop} {E : Prop}
  (hg : o.guard = none) (x y z : Operand) (ho : o.op = .buildSlice 22 3 #[(0, x), (1, y), (2, z)]) {c d e : Array Value} (hx : a.eval x = .agg c) (hy : a.eval y = .agg d) (hz : a.eval z = .agg e) {sv : Value}
  (hr : (Instr.buildSlice 22 3 #[(0, .agg c), (1, .agg d), (2, .agg e)]).run Tryz.prog w = .ok sv w') (hK : K (a.put o.dst sv) w') :
  if Region.wanted o (yielded ops a.tmps) = true then Oper.wp Tryz.prog o a w K Q else E := by
 have hw : Region.wanted o (yielded ops a.tmps) = true := by simp [Region.wanted, hg]
 rw [if_pos hw]
 unfold Oper.wp
 simp [execOp, ho, hx, hy, hz, hr, Result.andThen]
 exact hK
theorem build22 (w : World) (m0 m1 m2 m3 m4 m5 m6 m7 m8 m9 m10 m11 m12 m13 m14 m15 m16 m17 m18 m19 m20 m21 : Value) : (Instr.build 42 #[(2, .agg #[m0, m1, m2, m3, m4, m5, m6, m7, m8, m9, m10, m11, m12, m13, m14, m15, m16, m17, m18, m19, m20, m21])]).run Tryz.prog w = .ok (.agg #[.int .i64 0, .int .i64 0, m0, m1, m2, m3, m4, m5, m6, m7, m8, m9, m10, m11, m12, m13, m14, m15, m16, m17, m18, m19, m20, m21, .bool false]) w := by
 simp [go_sem]
theorem bldDo (w : World) (c : Array Value) (hc : c.size = 22) : (Instr.build 42 #[(2, .agg c)]).run Tryz.prog w = .ok (.agg (Value.int .i64 0 :: Value.int .i64 0 :: (c.toList ++ [Value.bool false])).toArray) w := by
 obtain ⟨c⟩ := c
 obtain ⟨m0, m1, m2, m3, m4, m5, m6, m7, m8, m9, m10, m11, m12, m13, m14, m15, m16, m17, m18, m19, m20, m21, rfl⟩ := listM22 hc
 have h := build22 w m0 m1 m2 m3 m4 m5 m6 m7 m8 m9 m10 m11 m12 m13 m14 m15 m16 m17 m18 m19 m20 m21
 simpa only [List.cons_append, List.nil_append] using h
theorem yld_bldDo {P : Program} {o : Oper} {e : Operand → Value} {t : TypeId} {x : Operand} {c v : Value} {w : World} (hop : o.op = .build t #[(2, x)]) (hx : e x = c) (hr : (Instr.build t #[(2, c)]).run P w = .ok v w) : (execOp e o).run P w = .ok (.value v) w := by
 simp [execOp, hop, hx, hr]
theorem ends_get (xs : Array Value) (zs : List Int) (h : xs = (zs.map fun z => Value.int .i64 z).toArray) (i : Nat) (hi : i < zs.length) : ∃ z : Int, xs[i]? = some (.int .i64 z) := by
 subst h
 exact ⟨zs[i], by simp [hi]⟩
/-- Calls, one behind the other. -/
def dsCs (ds : List (Array Value)) : List Value := ds.flatMap (·.toList)
theorem dsCs_app (a b : List (Array Value)) : dsCs (a ++ b) = dsCs a ++ dsCs b := by unfold dsCs; rw [List.flatMap_append]
theorem dsCs_len {ds : List (Array Value)} (h : ∀ d ∈ ds, d.size = 25) : (dsCs ds).length = ds.length * 25 := by
 induction ds with
 | nil => rfl
 | cons x xs ih =>
  show (x.toList ++ dsCs xs).length = _
  rw [List.length_append, Array.length_toList, h x (List.mem_cons_self ..), ih (fun d hd => h d (List.mem_cons_of_mem _ hd)), List.length_cons]
  omega
theorem dsCs_at : ∀ {ds : List (Array Value)}, (∀ d ∈ ds, d.size = 25) → ∀ (i : Nat) (hi : i < ds.length) (j : Nat), j < 25 → (dsCs ds)[i * 25 + j]? = (ds[i])[j]?
 | x :: xs, h, 0, hi, j, hj => by
  show (x.toList ++ dsCs xs)[0 * 25 + j]? = x[j]?
  rw [List.getElem?_append_left (by rw [Array.length_toList, h x (List.mem_cons_self ..)]; omega), Nat.zero_mul, Nat.zero_add]
  simp
 | x :: xs, h, i + 1, hi, j, hj => by
  show (x.toList ++ dsCs xs)[(i + 1) * 25 + j]? = _
  rw [List.getElem?_append_right (by rw [Array.length_toList, h x (List.mem_cons_self ..)]; omega), Array.length_toList, h x (List.mem_cons_self ..), show (i + 1) * 25 + j - 25 = i * 25 + j by omega, dsCs_at (fun d hd => h d (List.mem_cons_of_mem _ hd)) i (by simpa using hi) j hj]
  simp
/-- A call whose message has no lists. -/
def DoZ (dc : Array Value) : Prop := (∃ k n g r, DoC dc k n g r ∧ (g.lv = .slice none 0 0 ∧ g.cv = .slice none 0 0 ∧ g.ev = .slice none 0 0 ∧ g.en.p.ls = [] ∧ g.ck = [] ∧ g.ps = [] ∧ g.ic ≤ 9223372036854775807)) ∧ ∀ u ∈ dc.toList, u.oneCell' = true
theorem DoZ.size {dc : Array Value} (h : DoZ dc) : dc.size = 25 := by obtain ⟨⟨k, n, g, r, hd, -⟩, -⟩ := h; exact hd.1
theorem docOf (k n : Int) (g : MgM) (r : Bool) : DoC (.int .i64 k :: .int .i64 n :: ((mgC g).toList ++ [.bool r])).toArray k n g r := by
 refine ⟨rfl, rfl, rfl, rfl, fun j u hj => ?_⟩
 obtain ⟨hlt, -⟩ := List.getElem?_eq_some_iff.1 hj
 rw [List.getElem?_toArray, show 2 + j = j + 1 + 1 by omega, List.getElem?_cons_succ, List.getElem?_cons_succ, List.getElem?_append_left hlt, hj]
theorem doz_of (k n : Int) (g : MgM) (r : Bool) (h1 : g.lv = .slice none 0 0) (h2 : g.cv = .slice none 0 0) (h3 : g.ev = .slice none 0 0) (h4 : g.en.p.ls = []) (h5 : g.ck = []) (h6 : g.ps = []) (h7 : g.ic ≤ 9223372036854775807) :
  DoZ (.int .i64 k :: .int .i64 n :: ((mgC g).toList ++ [.bool r])).toArray := by
 refine ⟨⟨k, n, g, r, docOf k n g r, h1, h2, h3, h4, h5, h6, h7⟩, fun u hu => ?_⟩
 rw [List.toList_toArray] at hu
 simp only [List.mem_cons, List.mem_append, List.not_mem_nil, or_false] at hu
 rcases hu with rfl | rfl | hu | rfl
 ·rfl
 ·rfl
 ·have h := gms_one (gms_z default h1 h2 h3 h4 h5 h6)
  rw [Array.all_eq_true_iff_forall_mem] at h
  exact h u (by simpa using hu)
 ·rfl
theorem ds3 (a b c : Array Value) : dsCs [a, b, c] = a.toList ++ (b.toList ++ c.toList) := by simp [dsCs]
theorem infoDo22 : (Tryz.prog.info? 42).map (fun i => (i.size, decide (i.bytes ≤ 256), i.zero.map (fun z => z.cells.size))) = some (25, true, some 25) := by kernel_rfl
theorem dos_own {w0 w : World} {a : Option Addr} {n c : Nat} {ds : List (Array Value)} {L : List Thing} (h : Sep w0 (Rn 25 42 (.slice a n c) n (dsCs ds) :: L) w) (hn : ds.length = n) (hz : ∀ d ∈ ds, DoZ d) : DosAt w a n := by
 intro i hi
 have hi2 : i < ds.length := by omega
 obtain ⟨a', c', hv, h2, h3, h4, h5⟩ := h.rnForm
 simp only [Value.slice.injEq] at hv
 obtain ⟨rfl, -, rfl⟩ := hv
 obtain ⟨b, rfl, hb, hc⟩ := h5 (by omega)
 have hd := hz _ (List.getElem_mem hi2)
 obtain ⟨⟨k, nn, g, r, hdc, z1, z2, z3, z4, z5, z6, z7⟩, -⟩ := hd
 refine ⟨b, 0, rfl, hb, ds[i], k, nn, g, r, hdc, ⟨gms_z w z1 z2 z3 z4 z5 z6, by rw [z5]; decide, by rw [z6]; decide, z7, by rw [z6]; simp⟩, fun j u hj => ?_⟩
 obtain ⟨hj2, -⟩ := Array.getElem?_eq_some_iff.1 hj
 rw [hdc.1] at hj2
 have e := dsCs_at (fun d hd => (hz d hd).size) i hi2 j hj2
 rw [hj] at e
 obtain ⟨hlt, e2⟩ := List.getElem?_eq_some_iff.1 e
 rw [Nat.zero_add, hc _ hlt, e2]
theorem append_d22 {w0 w : World} {v : Value} {b n : Nat} {ds es : List (Array Value)} {L : List Thing} {ty : TypeId} (h : Sep w0 (Rn 25 42 v n (dsCs ds) :: L) w) (hes : ∀ d ∈ es, DoZ d)
  (hnews : ∀ j u, (dsCs es)[j]? = some u → w.cell? ⟨b, j, none⟩ = some u) (hlen : n + 3 ≤ 1000) (he : es.length = 3) :
  ∃ v' w', (Builtin.append_ #[22, 22] ty #[v, .slice (some ⟨b, 0, none⟩) 3 3]).run Tryz.prog w = .ok v' w' ∧ Sep w0 (Rn 25 42 v' (n + 3) (dsCs (ds ++ es)) :: L) w' := by
 obtain ⟨i, hi, hq⟩ := Option.map_eq_some_iff.1 infoDo22
 simp only [Prod.mk.injEq, decide_eq_true_eq] at hq
 obtain ⟨z, hz, hz2⟩ := Option.map_eq_some_iff.1 hq.2.2
 rw [dsCs_app]
 refine append_rn (P := Tryz.prog) Tryz.underlying22 hi hz hq.1 hq.2.1 hz2 (by decide) h (by rw [dsCs_len (fun d hd => (hes d hd).size), he]) (fun j u hj => by rw [Nat.zero_add]; exact hnews j u hj) (fun u hu => ?_) (by omega)
 obtain ⟨d, hd, hu2⟩ := List.mem_flatMap.1 hu
 exact (hes d hd).2 u hu2
end Go.Proofs.YtcnbmeiielkigaaGreatDoor
