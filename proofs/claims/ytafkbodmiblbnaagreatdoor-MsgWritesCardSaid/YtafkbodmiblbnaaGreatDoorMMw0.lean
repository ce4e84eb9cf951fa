/- Stage 5, MsgWrites: Top, cutImage, cutMsg, spoil. -/
import Derived.Test.YtafkbodmiblbnaaGreatDoorMZ27
import Derived.Test.YtafkbodmiblbnaaGreatDoorMZ16
import Derived.Test.YtafkbodmiblbnaaGreatDoorMZ25
namespace Go.Proofs.YtafkbodmiblbnaaGreatDoor
open Go Go.RowKit
set_option linter.unusedVariables false
set_option linter.unusedSimpArgs false
theorem mtop_w {w0 w : World} {L : List Thing} (ib ic R : Int) (cv : Value) (a : Option Addr) (n c : Nat) (h : Sep w0 L w) (hR : IntKind.i64.wrap (ib + (n : Int)) = R) :
    Calls Tryz.prog 19 #[.agg #[.int .i64 ib, cv, .slice a n c, .int .i64 ic]] w fun e w' => e = .returned (.int .i64 R) ∧ Sep w0 L w' := by
  have h3 := h.alloc (.cells #[.int .i64 ib, cv, .slice a n c, .int .i64 ic] 32)
  obtain ⟨c0, c1, c2, c3⟩ := cells4i h3
  have H := Lib.hid h3.drop
  clear h h3
  go_enter Tryz.func19, Tryz.ntmps19
  (try dsimp only); repeat' (first | go_values | go_skip | go_guarded | go_step | go_upon | go_back)
  go_ret
  exact ⟨rfl, H.out⟩
theorem rtop_w {w0 w : World} {L : List Thing} (ib ic R : Int) (cv : Value) (a : Option Addr) (n c : Nat) (h : Sep w0 L w) (hR : IntKind.i64.wrap (ib + (n : Int)) = R) :
    Calls Tryz.prog 20 #[.agg #[.int .i64 ib, cv, .slice a n c, .int .i64 ic]] w fun e w' => e = .returned (.int .i64 R) ∧ Sep w0 L w' := by
  have h3 := h.alloc (.cells #[.int .i64 ib, cv, .slice a n c, .int .i64 ic] 32)
  obtain ⟨c0, c1, c2, c3⟩ := cells4i h3
  have H := Lib.hid h3.drop
  clear h h3
  go_enter Tryz.func20, Tryz.ntmps20
  (try dsimp only); repeat' (first | go_values | go_skip | go_guarded | go_step | go_upon | go_back)
  go_ret
  exact ⟨rfl, H.out⟩
theorem ens_take {w : World} {a : Option Addr} {n c : Nat} {xs : List (EnM × Value)} (h : EnS w (.slice a n c) xs) (m : Nat) (hm : m ≤ n) : EnS w (.slice a m c) (xs.take m) := by
  rcases h with ⟨a', c', he, rfl⟩ | ⟨b, off, c', he, h1, h2, h3, h4⟩
  · simp only [Value.slice.injEq] at he
    obtain ⟨rfl, rfl, rfl⟩ := he
    obtain rfl : m = 0 := by omega
    exact .inl ⟨_, _, rfl, rfl⟩
  · simp only [Value.slice.injEq] at he
    obtain ⟨rfl, rfl, rfl⟩ := he
    have hl : (xs.take m).length = m := by rw [List.length_take]; omega
    refine .inr ⟨b, off, c, by rw [hl], by rw [hl]; omega, h2, h3, fun i hi => ?_⟩
    have := h4 i (by omega)
    rw [List.getElem_take]
    exact this
theorem ens_cap {w : World} {a : Option Addr} {n c : Nat} {xs : List (EnM × Value)} (h : EnS w (.slice a n c) xs) : n = xs.length ∧ n ≤ c := by
  rcases h with ⟨a', c', he, rfl⟩ | ⟨b, off, c', he, h1, h2, h3, h4⟩
  · simp only [Value.slice.injEq] at he
    obtain ⟨rfl, rfl, rfl⟩ := he
    exact ⟨rfl, Nat.zero_le _⟩
  · simp only [Value.slice.injEq] at he
    obtain ⟨rfl, rfl, rfl⟩ := he
    exact ⟨rfl, h1⟩
def cutV (v : Value) (k : Nat) : Value := match v with | .slice a n c => .slice a (min n k) c | v => v
def cutG (g : MgM) : MgM := { g with lv := cutV g.lv 8, cv := cutV g.cv 20000, ev := cutV g.ev 40, ck := g.ck.take 20000, ps := g.ps.take 40, en := { g.en with p := { g.en.p with ls := g.en.p.ls.take 8 } } }
theorem take_min {α : Type} (l : List α) (k : Nat) : l.take k = l.take (min l.length k) := by
  by_cases h : k ≤ l.length
  · rw [Nat.min_eq_right h]
  · rw [Nat.min_eq_left (by omega), List.take_of_length_le (by omega), List.take_of_length_le (Nat.le_refl _)]
theorem cutG_s {w : World} {g : MgM} (h : GmS w g) : GmS w (cutG g) := by
  obtain ⟨h1, h2, h3⟩ := h
  obtain ⟨a, c, e⟩ := h1.len
  obtain ⟨a2, c2, e2⟩ := bv_form h2
  obtain ⟨a3, c3, e3⟩ := h3.len
  rw [e] at h1
  rw [e2] at h2
  rw [e3] at h3
  refine ⟨?_, ?_, ?_⟩
  · show LnS w (cutV g.lv 8) (g.en.p.ls.take 8)
    rw [e, take_min]
    exact lns_take h1 _ (Nat.min_le_left _ _)
  · show Sl w (cutV g.cv 20000) (bv (g.ck.take 20000))
    rw [e2, take_min]
    exact sl_pre h2 (Nat.min_le_left _ _)
  · show EnS w (cutV g.ev 40) (g.ps.take 40)
    rw [e3, take_min]
    exact ens_take h3 _ (Nat.min_le_left _ _)
theorem min_if (n k : Nat) : (if (k : Int) < (n : Int) then (k : Int) else (n : Int)) = ((min n k : Nat) : Int) := by split <;> omega
set_option maxRecDepth 100000 in
set_option maxHeartbeats 8000000 in
theorem cutimg_any {w0 w : World} {L : List Thing} (ib ic : Int) (ca ea : Option Addr) (cn cc en ec m p : Nat) (h : Sep w0 L w) (hm : (if (20000 : Int) < (cn : Int) then (20000 : Int) else (cn : Int)) = (m : Int)) (hp : (if (40 : Int) < (en : Int) then (40 : Int) else (en : Int)) = (p : Int)) (hmc : m ≤ cc) (hpc : p ≤ ec) :
    Calls Tryz.prog 27 #[.agg (imgC ib (.slice ca cn cc) (.slice ea en ec) ic)] w fun e w' => e = .returned (.agg (imgC ib (.slice ca m cc) (.slice ea p ec) ic)) ∧ Sep w0 L w' := by
  have h1 := (h.alloc (.cells #[.int .i64 ib, .slice ca cn cc, .slice ea en ec, .int .i64 ic] 32)).alloc (.cells #[.int .i64 0, .slice none 0 0, .slice none 0 0, .int .i64 0] 32)
  rw [show (w.alloc (.cells #[.int .i64 ib, .slice ca cn cc, .slice ea en ec, .int .i64 ic] 32)).heap.size = w.heap.size + 1 by simp] at h1
  obtain ⟨b1, hb1⟩ : ∃ z, z = w.heap.size := ⟨_, rfl⟩
  obtain ⟨b2, hb2⟩ : ∃ z, z = w.heap.size + 1 := ⟨_, rfl⟩
  obtain ⟨w1, hw1⟩ : ∃ z, z = (w.alloc (.cells #[.int .i64 ib, .slice ca cn cc, .slice ea en ec, .int .i64 ic] 32)).alloc (.cells #[.int .i64 0, .slice none 0 0, .slice none 0 0, .int .i64 0] 32) := ⟨_, rfl⟩
  rw [← hw1, ← hb2, ← hb1] at h1
  have h1d := h1.sw2
  have C1 := Lib.hid (h1d.drew.cell (o := 1) rfl)
  have C2 := Lib.hid (h1d.drew.cell (o := 2) rfl)
  have c1 := h1d.cell (o := 1) rfl
  have c2 := h1d.cell (o := 2) rfl
  have f1 := h1d.frozen 1
  have f2 := h1d.frozen 2
  have h2 : Sep w0 (Cl b1 #[.int .i64 ib, .slice ca m cc, .slice ea en ec, .int .i64 ic] 32 :: _) _ := h1d.setCell 1 (.slice ca m cc)
  have D2 := Lib.hid (h2.drew.cell (o := 2) rfl)
  have d2 := h2.cell (o := 2) rfl
  have g2 := h2.frozen 2
  have h3 : Sep w0 (Cl b1 #[.int .i64 ib, .slice ca m cc, .slice ea p ec, .int .i64 ic] 32 :: _) _ := h2.setCell 2 (.slice ea p ec)
  obtain ⟨w2, hw2⟩ : ∃ z, z = (w1.setCell ⟨b1, 1, none⟩ (.slice ca m cc)).setCell ⟨b1, 2, none⟩ (.slice ea p ec) := ⟨_, rfl⟩
  rw [← hw2] at h3
  have h3 := h3.drew
  have HL := Lib.hid (h3.loadW 32 Tryz.underlying32 rfl (by kernel_rfl))
  have HT2 := Lib.hid (h3.sw2.thereAt 0 4 (by simp))
  have h6 := h3.sw2.storeW #[.int .i64 ib, .slice ca m cc, .slice ea p ec, .int .i64 ic] rfl
  have HV := Lib.hid (h6.loadV 32 Tryz.underlying32 rfl (by kernel_rfl))
  have H6 := Lib.hid h6.drop.drop
  unfold imgC
  clear h h1 h1d h2 h3 h6
  go_enter Tryz.func27, Tryz.ntmps27
  (try dsimp only); repeat' (first | go_values | go_skip | go_guarded | go_step | go_upon | go_back)
  rw [← hw1]
  (try rw [← hb2])
  (try rw [← hb1])
  clear hw1 hb1 hb2
  refine wp_region_H [(15, fun w' => w'.cell? ⟨b1, 1, none⟩ = some (.slice ca cn cc)), (17, fun w' => w'.cell? ⟨b1, 2, none⟩ = some (.slice ea en ec))] #[false, false, false, false, false, false, false, false, false, false, false, false, false, false, false, false, false, false] (by kernel_rfl) (by kernel_rfl) (by intro p hp; simp only [List.mem_cons, List.not_mem_nil, or_false] at hp; rcases hp with rfl | rfl; exact C1.out; exact C2.out) (fun hS => ?_)
  refine wpAnyH_read (i := 0) (v := ?v0_1ci) 15 (List.mem_cons_self ..) (by kernel_rfl) rfl (by kernel_rfl) (by kernel_rfl) (by kernel_rfl) (by kernel_rfl) (fun _ _ _ h => h) (Or.inl ⟨by rfl, ?hy0_1ci⟩) hS ?rest0_1ci
  case hy0_1ci => intro w hSw; (try dsimp only at hSw); go_simp; (try with_reducible rfl)
  case rest0_1ci =>
  try simp only [nz0, nz1, nz2, Act.put, nz3, nz4, nz5]
  refine wpAnyH_read (i := 1) (v := ?v1_2ci) 15 (List.mem_cons_self ..) (by kernel_rfl) rfl (by kernel_rfl) (by kernel_rfl) (by kernel_rfl) (by kernel_rfl) (fun _ _ _ h => h) (Or.inl ⟨by rfl, ?hy1_2ci⟩) hS ?rest1_2ci
  case hy1_2ci => intro w hSw; (try dsimp only at hSw); go_simp; (try with_reducible rfl)
  case rest1_2ci =>
  try simp only [nz0, nz1, nz2, Act.put, nz3, nz4, nz5]
  refine wpAnyH_read (i := 2) (v := ?v2_3ci) 15 (List.mem_cons_self ..) (by kernel_rfl) rfl (by kernel_rfl) (by kernel_rfl) (by kernel_rfl) (by kernel_rfl) (fun _ _ _ h => h) (Or.inl ⟨by rfl, ?hy2_3ci⟩) hS ?rest2_3ci
  case hy2_3ci => intro w hSw; (try dsimp only at hSw); go_simp; (try with_reducible rfl)
  case rest2_3ci =>
  try simp only [nz0, nz1, nz2, Act.put, nz3, nz4, nz5]
  refine wpAnyH_read (i := 3) (v := ?v3_4ci) 15 (List.mem_cons_self ..) (by kernel_rfl) rfl (by kernel_rfl) (by kernel_rfl) (by kernel_rfl) (by kernel_rfl) (fun _ _ _ h => h) (Or.inl ⟨by rfl, ?hy3_4ci⟩) hS ?rest3_4ci
  case hy3_4ci => intro w hSw; (try dsimp only at hSw); go_simp; (try with_reducible rfl)
  case rest3_4ci =>
  try simp only [nz0, nz1, nz2, Act.put, nz3, nz4, nz5]
  refine wpAnyH_read (i := 4) (v := ?v4_5ci) 15 (List.mem_cons_self ..) (by kernel_rfl) rfl (by kernel_rfl) (by kernel_rfl) (by kernel_rfl) (by kernel_rfl) (fun _ _ _ h => h) (Or.inl ⟨by rfl, ?hy4_5ci⟩) hS ?rest4_5ci
  case hy4_5ci => intro w hSw; (try dsimp only at hSw); go_simp; (try with_reducible rfl)
  case rest4_5ci =>
  try simp only [nz0, nz1, nz2, Act.put, nz3, nz4, nz5]
  refine wpAnyH_read (i := 5) (v := ?v5_6ci) 15 (List.mem_cons_self ..) (by kernel_rfl) rfl (by kernel_rfl) (by kernel_rfl) (by kernel_rfl) (by kernel_rfl) (fun _ _ _ h => h) (Or.inl ⟨by rfl, ?hy5_6ci⟩) hS ?rest5_6ci
  case hy5_6ci => intro w hSw; (try dsimp only at hSw); go_simp; (try with_reducible rfl)
  case rest5_6ci =>
  try simp only [nz0, nz1, nz2, Act.put, nz3, nz4, nz5]
  refine wpAnyH_read (i := 6) (v := ?v6_7ci) 15 (List.mem_cons_self ..) (by kernel_rfl) rfl (by kernel_rfl) (by kernel_rfl) (by kernel_rfl) (by kernel_rfl) (fun _ _ _ h => h) (Or.inl ⟨by rfl, ?hy6_7ci⟩) hS ?rest6_7ci
  case hy6_7ci => intro w hSw; (try dsimp only at hSw); go_simp; (try with_reducible rfl)
  case rest6_7ci =>
  try simp only [nz0, nz1, nz2, Act.put, nz3, nz4, nz5]
  refine wpAnyH_read (i := 7) (v := ?v7_8ci) 17 (List.mem_cons_of_mem _ (List.mem_cons_self ..)) (by kernel_rfl) rfl (by kernel_rfl) (by kernel_rfl) (by kernel_rfl) (by kernel_rfl) (fun _ _ _ h => h) (Or.inl ⟨by rfl, ?hy7_8ci⟩) hS ?rest7_8ci
  case hy7_8ci => intro w hSw; (try dsimp only at hSw); go_simp; (try with_reducible rfl)
  case rest7_8ci =>
  try simp only [nz0, nz1, nz2, Act.put, nz3, nz4, nz5]
  refine wpAnyH_read (i := 8) (v := ?v8_9ci) 17 (List.mem_cons_of_mem _ (List.mem_cons_self ..)) (by kernel_rfl) rfl (by kernel_rfl) (by kernel_rfl) (by kernel_rfl) (by kernel_rfl) (fun _ _ _ h => h) (Or.inl ⟨by rfl, ?hy8_9ci⟩) hS ?rest8_9ci
  case hy8_9ci => intro w hSw; (try dsimp only at hSw); go_simp; (try with_reducible rfl)
  case rest8_9ci =>
  try simp only [nz0, nz1, nz2, Act.put, nz3, nz4, nz5]
  refine wpAnyH_read (i := 9) (v := ?v9_10ci) 17 (List.mem_cons_of_mem _ (List.mem_cons_self ..)) (by kernel_rfl) rfl (by kernel_rfl) (by kernel_rfl) (by kernel_rfl) (by kernel_rfl) (fun _ _ _ h => h) (Or.inl ⟨by rfl, ?hy9_10ci⟩) hS ?rest9_10ci
  case hy9_10ci => intro w hSw; (try dsimp only at hSw); go_simp; (try with_reducible rfl)
  case rest9_10ci =>
  try simp only [nz0, nz1, nz2, Act.put, nz3, nz4, nz5]
  refine wpAnyH_read (i := 10) (v := ?v10_11ci) 17 (List.mem_cons_of_mem _ (List.mem_cons_self ..)) (by kernel_rfl) rfl (by kernel_rfl) (by kernel_rfl) (by kernel_rfl) (by kernel_rfl) (fun _ _ _ h => h) (Or.inl ⟨by rfl, ?hy10_11ci⟩) hS ?rest10_11ci
  case hy10_11ci => intro w hSw; (try dsimp only at hSw); go_simp; (try with_reducible rfl)
  case rest10_11ci =>
  try simp only [nz0, nz1, nz2, Act.put, nz3, nz4, nz5]
  refine wpAnyH_read (i := 11) (v := ?v11_12ci) 17 (List.mem_cons_of_mem _ (List.mem_cons_self ..)) (by kernel_rfl) rfl (by kernel_rfl) (by kernel_rfl) (by kernel_rfl) (by kernel_rfl) (fun _ _ _ h => h) (Or.inl ⟨by rfl, ?hy11_12ci⟩) hS ?rest11_12ci
  case hy11_12ci => intro w hSw; (try dsimp only at hSw); go_simp; (try with_reducible rfl)
  case rest11_12ci =>
  try simp only [nz0, nz1, nz2, Act.put, nz3, nz4, nz5]
  refine wpAnyH_read (i := 12) (v := ?v12_13ci) 17 (List.mem_cons_of_mem _ (List.mem_cons_self ..)) (by kernel_rfl) rfl (by kernel_rfl) (by kernel_rfl) (by kernel_rfl) (by kernel_rfl) (fun _ _ _ h => h) (Or.inl ⟨by rfl, ?hy12_13ci⟩) hS ?rest12_13ci
  case hy12_13ci => intro w hSw; (try dsimp only at hSw); go_simp; (try with_reducible rfl)
  case rest12_13ci =>
  try simp only [nz0, nz1, nz2, Act.put, nz3, nz4, nz5]
  refine wpAnyH_read (i := 13) (v := ?v13_14ci) 17 (List.mem_cons_of_mem _ (List.mem_cons_self ..)) (by kernel_rfl) rfl (by kernel_rfl) (by kernel_rfl) (by kernel_rfl) (by kernel_rfl) (fun _ _ _ h => h) (Or.inl ⟨by rfl, ?hy13_14ci⟩) hS ?rest13_14ci
  case hy13_14ci => intro w hSw; (try dsimp only at hSw); go_simp; (try with_reducible rfl)
  case rest13_14ci =>
  try simp only [nz0, nz1, nz2, Act.put, nz3, nz4, nz5]
  refine wpAnyH_read (i := 14) (v := ?v14_15ci) 17 (List.mem_cons_of_mem _ (List.mem_cons_self ..)) (by kernel_rfl) rfl (by kernel_rfl) (by kernel_rfl) (by kernel_rfl) (by kernel_rfl) (fun _ _ _ h => h) (Or.inl ⟨by rfl, ?hy14_15ci⟩) hS ?rest14_15ci
  case hy14_15ci => intro w hSw; (try dsimp only at hSw); go_simp; (try with_reducible rfl)
  case rest14_15ci =>
  try simp only [nz0, nz1, nz2, Act.put, nz3, nz4, nz5]
  refine wpAnyH_one (i := 15) (by kernel_rfl) rfl (fun K hK => ?_)
  go_simp
  refine hK.out _ _ ?hS16ci ?rest16ci
  case hS16ci => (intro p hp hl; simp only [List.mem_cons, List.not_mem_nil, or_false] at hp; rcases hp with rfl | rfl; (exact absurd (hl.symm.trans (by kernel_rfl)) Bool.false_ne_true); exact D2.out)
  case rest16ci =>
  clear K hK
  try simp only [nz0, nz1, nz2, Act.put, nz3, nz4, nz5]
  refine wpAnyH_one (i := 16) (by kernel_rfl) rfl (fun K hK => ?_)
  go_simp
  refine hK.out _ _ ?hS17ci ?rest17ci
  case hS17ci => (intro p hp hl; simp only [List.mem_cons, List.not_mem_nil, or_false] at hp; rcases hp with rfl | rfl; (exact absurd (hl.symm.trans (by kernel_rfl)) Bool.false_ne_true); exact D2.out)
  case rest17ci =>
  clear K hK
  try simp only [nz0, nz1, nz2, Act.put, nz3, nz4, nz5]
  refine wpAnyH_one (i := 17) (by kernel_rfl) rfl (fun K hK => ?_)
  go_simp
  refine hK.out _ _ ?hS18ci ?rest18ci
  case hS18ci => (intro p hp hl; simp only [List.mem_cons, List.not_mem_nil, or_false] at hp; rcases hp with rfl | rfl; (exact absurd (hl.symm.trans (by kernel_rfl)) Bool.false_ne_true); (exact absurd (hl.symm.trans (by kernel_rfl)) Bool.false_ne_true))
  case rest18ci =>
  clear K hK
  try simp only [nz0, nz1, nz2, Act.put, nz3, nz4, nz5]
  refine wpAnyH_done (by kernel_rfl) ?_ _
  try simp only [nz0, nz1, nz2, Act.put, nz3, nz4, nz5]
  clear hS C1 C2 D2 c1 f1 d2 g2 c2 f2
  (try dsimp only); repeat' (first | (with_reducible show wpList _ _ _ (Oper.mk _ (Op.load 32 _) _ _ _ _ :: _) _ _; refine stopP ?_) | go_values | go_skip | go_guarded | go_step | go_upon | go_back)
  rw [← hw2]
  clear hw2
  unfold StopP
  have hq_ := HL.out
  refine wpList_load_run rfl 32 _ rfl _ _ rfl hq_ ?_
  clear hq_
  (try dsimp only); repeat' (first | (with_reducible show wpList _ _ _ (Oper.mk _ (Op.store 32 _ _) _ _ _ _ :: _) _ _; refine stopP ?_) | go_values | go_skip | go_guarded | go_step | go_upon | go_back)
  unfold StopP
  refine wpList_store_mid rfl 32 (.tmp 2) (.tmp 19) rfl b2 0 #[.int .i64 ib, .slice ca m cc, .slice ea p ec, .int .i64 ic] rfl rfl HT2.out (by kernel_rfl) (by first | kernel_rfl | assumption) ?_
  (try dsimp only); repeat' (first | go_values | go_skip | go_guarded | go_step | go_upon | go_back)
  exact bodyPost_ret (results_cell rfl rfl HV.out) rfl ⟨rfl, H6.out⟩
set_option maxRecDepth 100000 in
set_option maxHeartbeats 8000000 in
theorem cutmsg_any {w0 w : World} {L : List Thing} (g : MgM) (h : Sep w0 L w) (hg : GmS w g) :
    Calls Tryz.prog 5 #[.agg (mgC g)] w fun e w' => e = .returned (.agg (mgC (cutG g))) ∧ Sep w0 L w' := by
  obtain ⟨la, lc, hlv⟩ := hg.1.len
  obtain ⟨ca, cc, hcv⟩ := bv_form hg.2.1
  obtain ⟨ea, ec, hev⟩ := hg.2.2.len
  have k1 := hg.1
  have k2 := hg.2.1
  have k3 := hg.2.2
  rw [hlv] at k1
  rw [hcv] at k2
  rw [hev] at k3
  have l1 := (lns_cap k1).2
  have l2 := sl_capw k2 rfl
  have l3 := (ens_cap k3).2
  obtain ⟨nl, hnl⟩ : ∃ z, z = g.en.p.ls.length := ⟨_, rfl⟩
  obtain ⟨nc, hnc⟩ : ∃ z, z = g.ck.length := ⟨_, rfl⟩
  obtain ⟨ne, hne⟩ : ∃ z, z = g.ps.length := ⟨_, rfl⟩
  rw [← hnl] at hlv l1
  rw [← hnc] at hcv l2
  rw [← hne] at hev l3
  have hR : mgC (cutG g) = mgC { g with lv := .slice la (min nl 8) lc, cv := .slice ca (min nc 20000) cc, ev := .slice ea (min ne 40) ec } := by
    unfold cutG
    rw [hlv, hcv, hev]
    rfl
  rw [hR]
  clear hR k1 k2 k3 hg hnl hnc hne
  obtain ⟨z8, hz8⟩ : ∃ z, z = min nl 8 := ⟨_, rfl⟩
  obtain ⟨zc, hzc⟩ : ∃ z, z = min nc 20000 := ⟨_, rfl⟩
  obtain ⟨ze, hze⟩ : ∃ z, z = min ne 40 := ⟨_, rfl⟩
  have m8 : (if (8 : Int) < (nl : Int) then (8 : Int) else (nl : Int)) = (z8 : Int) := by rw [hz8]; exact min_if nl 8
  have mc : (if (20000 : Int) < (nc : Int) then (20000 : Int) else (nc : Int)) = (zc : Int) := by rw [hzc]; exact min_if nc 20000
  have me : (if (40 : Int) < (ne : Int) then (40 : Int) else (ne : Int)) = (ze : Int) := by rw [hze]; exact min_if ne 40
  have z8c : z8 ≤ lc := by omega
  have zcc : zc ≤ cc := by omega
  have zec : ze ≤ ec := by omega
  rw [← hz8, ← hzc, ← hze]
  clear hz8 hzc hze l1 l2 l3
  have h1 := (h.alloc (.cells (mgC g) 34)).alloc (.cells #[.int .i64 0, .int .i64 0, .int .i64 0, .int .i64 0, .int .i64 0, .int .i64 0, .int .i64 0, .int .i64 0, .int .i64 0, .int .i64 0, .string ⟨#[]⟩, .int .i64 0, .int .i64 0, .slice none 0 0, .int .i64 0, .int .i64 0, .int .i64 0, .bool false, .int .i64 0, .slice none 0 0, .slice none 0 0, .int .i64 0] 34)
  rw [show (w.alloc (.cells (mgC g) 34)).heap.size = w.heap.size + 1 by simp] at h1
  obtain ⟨b1, hb1⟩ : ∃ z, z = w.heap.size := ⟨_, rfl⟩
  obtain ⟨b2, hb2⟩ : ∃ z, z = w.heap.size + 1 := ⟨_, rfl⟩
  obtain ⟨w1, hw1⟩ : ∃ z, z = (w.alloc (.cells (mgC g) 34)).alloc (.cells #[.int .i64 0, .int .i64 0, .int .i64 0, .int .i64 0, .int .i64 0, .int .i64 0, .int .i64 0, .int .i64 0, .int .i64 0, .int .i64 0, .string ⟨#[]⟩, .int .i64 0, .int .i64 0, .slice none 0 0, .int .i64 0, .int .i64 0, .int .i64 0, .bool false, .int .i64 0, .slice none 0 0, .slice none 0 0, .int .i64 0] 34) := ⟨_, rfl⟩
  rw [← hw1, ← hb2, ← hb1] at h1
  have h2 := h1.sw2
  have HI := Lib.hid h2.loadImgw
  have HC := Lib.hid (cutimg_any g.ib g.ic ca ea nc cc ne ec zc ze h2 mc me zcc zec)
  rw [← hcv, ← hev] at HC
  have HG2 : Hid (mgC g = mgC g) := Lib.hid rfl
  obtain ⟨gc, hgc⟩ : ∃ z, z = mgC g := ⟨_, rfl⟩
  have HLV : Hid (writeAt gc 18 [.int .i64 g.ib, .slice ca zc cc, .slice ea ze ec, .int .i64 g.ic] = mgC { g with cv := .slice ca zc cc, ev := .slice ea ze ec }) := Lib.hid (by rw [hgc]; exact wr_im g _ _)
  have HSZ : Hid (gc.size = 22) := Lib.hid (by rw [hgc]; rfl)
  obtain ⟨g2c, hg2c⟩ : ∃ z, z = mgC { g with cv := .slice ca zc cc, ev := .slice ea ze ec } := ⟨_, rfl⟩
  have H13 : Hid (g2c[13]? = some (.slice la nl lc)) := Lib.hid (by rw [hg2c, ← hlv]; rfl)
  have HS2 : Hid (g2c.size = 22) := Lib.hid (by rw [hg2c]; rfl)
  obtain ⟨g3c, hg3c⟩ : ∃ z, z = mgC { g with lv := .slice la z8 lc, cv := .slice ca zc cc, ev := .slice ea ze ec } := ⟨_, rfl⟩
  have HS3 : Hid (g3c.size = 22) := Lib.hid (by rw [hg3c]; rfl)
  have H23 : Hid (g2c.setIfInBounds 13 (.slice la z8 lc) = g3c) := Lib.hid (by rw [hg2c, hg3c]; simp [mgC])
  have HON : Hid (g3c.all (·.oneCell') = true) := Lib.hid (by rw [hg3c]; exact mgC_one _ rfl rfl rfl)
  rw [← hgc] at hw1 h1 h2 HC ⊢
  rw [← hg2c] at HLV
  rw [← hg3c]
  have H2 := Lib.hid h2
  have HTI := fun (wx : World) (M : List Thing) (hx : Sep w0 (Cl b1 gc 34 :: M) wx) => hx.thereAt 18 4 (by rw [HSZ.out]; decide)
  have HTI := Lib.hid HTI
  unfold imgC at HI HC
  clear h h1 h2 hg2c hg3c hgc HG2 hcv hev hlv mc me
  go_enter Tryz.func5, Tryz.ntmps5
  (try dsimp only); repeat' (first | (with_reducible show wpList _ _ _ (Oper.mk _ (Op.load 32 _) _ _ _ _ :: _) _ _; refine stopP ?_) | go_values | go_skip | go_guarded | go_step | go_upon | go_back)
  rw [← hw1]
  (try rw [← hb2])
  (try rw [← hb1])
  clear hw1 hb1 hb2
  unfold StopP
  have hq_ := HI.out
  refine wpList_load_run rfl 32 _ rfl _ _ rfl hq_ ?_
  clear hq_ HI
  (try dsimp only); repeat' (first | go_values | go_skip | go_guarded | go_step | go_upon | go_back)
  refine HC.out.mono ?_
  rintro r0 w3 ⟨rfl, h3⟩
  have HT := Lib.hid (HTI.out w3 _ h3)
  have h4 := Sep.setCells [.int .i64 g.ib, .slice ca zc cc, .slice ea ze ec, .int .i64 g.ic] _ 18 _ h3
  rw [HLV.out] at h4
  obtain ⟨w4, hw4⟩ : ∃ z, z = w3.setCells b1 18 [.int .i64 g.ib, .slice ca zc cc, .slice ea ze ec, .int .i64 g.ic] := ⟨_, rfl⟩
  rw [← hw4] at h4
  have c13 := h4.cell H13.out
  have f13 := h4.frozen 13
  have h5 := h4.setCell 13 (.slice la z8 lc)
  rw [H23.out] at h5
  obtain ⟨w5, hw5⟩ : ∃ z, z = w4.setCell ⟨b1, 13, none⟩ (.slice la z8 lc) := ⟨_, rfl⟩
  rw [← hw5] at h5
  have HL := Lib.hid (h5.loadW 34 Tryz.underlying34 rfl (by rw [HS3.out]; kernel_rfl))
  have HT2 := Lib.hid (h5.sw2.thereAt 0 22 (by simp))
  have h6 := h5.sw2.storeW g3c (by rw [HS3.out]; rfl)
  have HV := Lib.hid (h6.loadV 34 Tryz.underlying34 rfl (by rw [HS3.out]; kernel_rfl))
  have H6 := Lib.hid h6.drop.drop
  clear h3 h4 h5 h6 HC
  (try dsimp only); repeat' (first | (with_reducible show wpList _ _ _ (Oper.mk _ (Op.store 32 _ _) _ _ _ _ :: _) _ _; refine stopP ?_) | go_values | go_skip | go_guarded | go_step | go_upon | go_back)
  unfold StopP
  refine wpList_store_mid rfl 32 (.tmp 6) (.tmp 5) rfl b1 18 #[.int .i64 g.ib, .slice ca zc cc, .slice ea ze ec, .int .i64 g.ic] rfl rfl HT.out (by kernel_rfl) (by first | kernel_rfl | assumption) ?_
  rw [← hw4]
  clear hw4
  (try dsimp only); repeat' (first | (with_reducible show wpList _ _ _ (Oper.mk _ (Op.load 34 _) _ _ _ _ :: _) _ _; refine stopP ?_) | go_values | go_skip | go_guarded | go_step | go_upon | go_back)
  rw [← hw5]
  clear hw5 c13 f13
  unfold StopP
  have hq_ := HL.out
  refine wpList_load_run rfl 34 _ rfl _ _ rfl hq_ ?_
  clear hq_
  (try dsimp only); repeat' (first | (with_reducible show wpList _ _ _ (Oper.mk _ (Op.store 34 _ _) _ _ _ _ :: _) _ _; refine stopP ?_) | go_values | go_skip | go_guarded | go_step | go_upon | go_back)
  unfold StopP
  refine wpList_store_mid rfl 34 (.tmp 2) (.tmp 21) rfl b2 0 g3c rfl rfl (by rw [HS3.out]; exact HT2.out) (by rw [HS3.out]; kernel_rfl) (by first | exact HON.out | kernel_rfl) ?_
  (try dsimp only); repeat' (first | go_values | go_skip | go_guarded | go_step | go_upon | go_back)
  exact bodyPost_ret (results_cell rfl rfl HV.out) rfl ⟨rfl, H6.out⟩
theorem put9 (ps : List (EnM × Value)) (i : Nat) (hi : i < ps.length) : (enCs ps).set (i * 7 + 1) (.int .i64 (-9)) = enCs (ps.set i ({ ps[i].1 with m := -9 }, ps[i].2)) := by
  apply List.ext_getElem?
  intro k
  have hk : k = k / 7 * 7 + k % 7 := by omega
  have h7 : k % 7 < 7 := Nat.mod_lt _ (by decide)
  obtain ⟨q, hq⟩ : ∃ q, q = k / 7 := ⟨_, rfl⟩
  obtain ⟨r, hr⟩ : ∃ r, r = k % 7 := ⟨_, rfl⟩
  rw [← hq, ← hr] at hk
  rw [← hr] at h7
  subst hk
  rw [List.getElem?_set]
  by_cases hql : q < ps.length
  · have e1 := enCs_at ps q hql r h7
    have e2 := enCs_at (ps.set i ({ ps[i].1 with m := -9 }, ps[i].2)) q (by rw [List.length_set]; exact hql) r h7
    rw [e2, e1]
    by_cases hqi : i = q
    · subst hqi
      rw [List.getElem_set_self]
      have hll : i * 7 + 1 < (enCs ps).length := by rw [enCs_len]; omega
      match r, h7 with
      | 0, _ => rw [if_neg (by omega)]; rfl
      | 1, _ => rw [if_pos rfl, if_pos hll]; rfl
      | 2, _ => rw [if_neg (by omega)]; rfl
      | 3, _ => rw [if_neg (by omega)]; rfl
      | 4, _ => rw [if_neg (by omega)]; rfl
      | 5, _ => rw [if_neg (by omega)]; rfl
      | 6, _ => rw [if_neg (by omega)]; rfl
    · rw [if_neg (by omega), List.getElem_set_ne hqi]
  · rw [if_neg (by omega), List.getElem?_eq_none (by rw [enCs_len]; omega), List.getElem?_eq_none (by rw [enCs_len, List.length_set]; omega)]
theorem map_ln9 (ps : List (EnM × Value)) (i : Nat) (hi : i < ps.length) : (ps.set i ({ ps[i].1 with m := -9 }, ps[i].2)).map lnP = ps.map lnP := by
  apply List.ext_getElem
  · simp
  · intro j h1 h2
    rw [List.getElem_map, List.getElem_map, List.getElem_set]
    split
    · rename_i h; subst h; rfl
    · rfl
/-- The number of an entry of one's own is stored to. -/
theorem Sep.enNum9 {w0 w : World} {v : Value} {ps : List (EnM × Value)} {L : List Thing} (h : Sep w0 (EnT v ps :: L) w) (i : Nat) (hi : i < ps.length) :
    ∃ b c, v = .slice (some ⟨b, 0, none⟩) ps.length c ∧ ps.length ≤ c ∧ w.cell? ⟨b, i * 7 + 1, none⟩ = some (.int .i64 ps[i].1.m) ∧ w.frozen? ⟨b, i * 7 + 1, none⟩ = false ∧ Sep w0 (EnT v (ps.set i ({ ps[i].1 with m := -9 }, ps[i].2)) :: L) (w.setCell ⟨b, i * 7 + 1, none⟩ (.int .i64 (-9))) := by
  have h0 := h.enOpen
  have hlen : (enCs ps).length = ps.length * 7 := enCs_len ps
  obtain ⟨b, c, rfl, h1, h2, h3, h4, h5, h6, h7⟩ := h0.rnSet (by omega)
  refine ⟨b, c, rfl, h1, ?_, h6 _, Sep.enClose ?_⟩
  · have e := h5 (i * 7 + 1) (by omega)
    have e1 := enCs_at ps i hi 1 (by decide)
    rw [List.getElem?_eq_getElem (by omega)] at e1
    rw [e, e1]
    rfl
  · have g := h7 (i * 7 + 1) (.int .i64 (-9)) (by omega)
    rw [put9 ps i hi] at g
    rw [map_ln9 ps i hi]
    show Sep w0 (Rn 7 26 _ (ps.set i ({ ps[i].1 with m := -9 }, ps[i].2)).length (enCs (ps.set i ({ ps[i].1 with m := -9 }, ps[i].2))) :: _) _
    rw [List.length_set]
    exact g
set_option maxRecDepth 100000 in
set_option maxHeartbeats 16000000 in
theorem spoil_any {w0 w : World} {L : List Thing} (ib ic : Int) (cu eu : Value) (l : List UInt8) (ps : List (EnM × Value)) (h : Sep w0 (By cu l :: EnT eu ps :: L) w) (hl : l.length ≤ 20000) (hp : ps.length ≤ 40) :
    Calls Tryz.prog 22 #[.agg (imgC ib cu eu ic)] w fun e w' => e = .returned (.tuple #[]) ∧ ∃ l' ps', l'.length = l.length ∧ ps'.length = ps.length ∧ Sep w0 (By cu l' :: EnT eu ps' :: L) w' := by
  obtain ⟨ca, cc, rfl⟩ := h.sl.len
  rw [bv_length] at h ⊢
  obtain ⟨ea, ec, rfl, -, -⟩ := h.sw2.enForm
  obtain ⟨n, hn⟩ : ∃ z, l.length = z := ⟨_, rfl⟩
  obtain ⟨p, hpp⟩ : ∃ z, ps.length = z := ⟨_, rfl⟩
  rw [hn] at h hl ⊢
  rw [hpp] at h hp ⊢
  unfold imgC
  have h1 := h.alloc (.cells #[.int .i64 ib, .slice ca n cc, .slice ea p ec, .int .i64 ic] 32)
  obtain ⟨b1, hb1⟩ : ∃ z, z = w.heap.size := ⟨_, rfl⟩
  obtain ⟨w1, hw1⟩ : ∃ z, z = w.alloc (.cells #[.int .i64 ib, .slice ca n cc, .slice ea p ec, .int .i64 ic] 32) := ⟨_, rfl⟩
  rw [← hw1, ← hb1] at h1
  have H1 : Hid (Sep w0 (By (.slice ca n cc) l :: EnT (.slice ea p ec) ps :: Cl b1 #[.int .i64 ib, .slice ca n cc, .slice ea p ec, .int .i64 ic] 32 :: L) w1) := Lib.hid (h1.pickL (M := [_, _, _]) [1, 2, 0] rfl)
  have HN := Lib.hid hn
  have HP := Lib.hid hpp
  have n0 : (n : Int) ≤ 20000 := by omega
  have p0 : (p : Int) ≤ 40 := by omega
  clear h h1 hn hpp hl hp
  go_enter Tryz.func22, Tryz.ntmps22
  (try dsimp only); repeat' (first | go_values | go_skip | go_guarded | go_step | go_upon | go_back)
  rw [← hw1, ← hb1]
  clear hw1 hb1
  go_loopw [2] (fun i wr => ∃ (j : Nat) (l' : List UInt8), j ≤ n ∧ i = .int .i64 j ∧ l'.length = n ∧ Sep w0 (By (.slice ca n cc) l' :: EnT (.slice ea p ec) ps :: Cl b1 #[.int .i64 ib, .slice ca n cc, .slice ea p ec, .int .i64 ic] 32 :: L) wr) (fun i _ => n - (intOf i).toNat)
  case atStart => exact ⟨0, l, Nat.zero_le _, rfl, HN.out, H1.out⟩
  case round =>
    obtain ⟨j, l', hj, rfl, hl', hs⟩ := hrel
    clear H1
    have j0 : (0 : Int) ≤ (j : Int) := by omega
    have j1 : (j : Int) ≤ 20000 := by omega
    by_cases hjn : j < n
    · have hd : decide (j < n) = true := decide_eq_true hjn
      have j2 : (j : Int) < (n : Int) := by omega
      have hca : ∃ bb, ca = some ⟨bb, 0, none⟩ := by
        obtain ⟨b', c', hv, -⟩ := Sep.rowForm hs (by rw [bv_length]; omega)
        simp only [Value.slice.injEq] at hv
        exact ⟨b', hv.1⟩
      obtain ⟨bb, rfl⟩ := hca
      obtain ⟨c, hc⟩ : ∃ z, z = cc := ⟨_, rfl⟩
      subst hc
      have c1a := (hs.pickL (M := [_, _, _]) [2, 0, 1] rfl).cell (o := 1) rfl
      have hs := hs.drew
      obtain ⟨-, hncc, hcell, hfr, hset⟩ := hs.byForm (by omega)
      have c0 := hcell j (by omega)
      have f0 := hfr j
      have c1 := (hs.pickL (M := [_, _, _]) [2, 0, 1] rfl).cell (o := 1) rfl
      have hs2 := hset j (l'[j]'(by omega) ^^^ 90) (by omega)
      have hxl := (l'[j]'(by omega)).toNat_lt
      have hx9 : (l'[j]'(by omega) ^^^ 90).toNat = (l'[j]'(by omega)).toNat ^^^ 90 := by rw [UInt8.toNat_xor]; rfl
      generalize l'[j]'(by omega) = xb at *
      rw [hx9] at hs2
      obtain ⟨x, hx⟩ : ∃ x : Int, x = xb.toNat := ⟨_, rfl⟩
      rw [← hx] at c0
      have HX : Hid (bits .xor .u8 x 90 = ((xb.toNat ^^^ 90 : Nat) : Int)) := Lib.hid (by rw [hx]; exact xor_u8w _ 90 hxl (by decide))
      have HS2 := Lib.hid hs2
      have HJ := Lib.hid (And.intro hjn hl')
      clear hs hcell hfr hset hs2 hxl hx9 hx hl' hjn hj hncc
      (try dsimp only); repeat' (first | go_values | go_skip | go_guarded | go_step | go_upon | go_back)
      refine wp_region_G (fun w' => w'.cell? ⟨b1, 1, none⟩ = some (.slice (some ⟨bb, 0, none⟩) n c) ∧ w'.cell? ⟨bb, j, none⟩ = some (.int .u8 x)) [10] (by kernel_rfl) ⟨c1, c0⟩ (fun hS => ?_)
      try dsimp only at hS
      refine wpAnyG_take' (i := 0) (v := ?v0_1sp) rfl (by kernel_rfl) (by kernel_rfl) (by kernel_rfl) (by kernel_rfl) (fun _ _ _ h => h) (Or.inl ⟨by rfl, ?hy0_1sp⟩) hS ?rest0_1sp
      case hy0_1sp => intro w hSw; (try dsimp only at hSw); go_simp; (try with_reducible rfl)
      case rest0_1sp =>
      try simp only [nz0, nz1, nz2, Act.put, nz3, nz4, nz5]
      refine wpAnyG_take' (i := 1) (v := ?v1_2sp) rfl (by kernel_rfl) (by kernel_rfl) (by kernel_rfl) (by kernel_rfl) (fun _ _ _ h => h) (Or.inl ⟨by rfl, ?hy1_2sp⟩) hS ?rest1_2sp
      case hy1_2sp => intro w hSw; (try dsimp only at hSw); go_simp; (try with_reducible rfl)
      case rest1_2sp =>
      try simp only [nz0, nz1, nz2, Act.put, nz3, nz4, nz5]
      refine wpAnyG_take' (i := 2) (v := ?v2_3sp) rfl (by kernel_rfl) (by kernel_rfl) (by kernel_rfl) (by kernel_rfl) (fun _ _ _ h => h) (Or.inl ⟨by rfl, ?hy2_3sp⟩) hS ?rest2_3sp
      case hy2_3sp => intro w hSw; (try dsimp only at hSw); go_simp; (try with_reducible rfl)
      case rest2_3sp =>
      try simp only [nz0, nz1, nz2, Act.put, nz3, nz4, nz5]
      refine wpAnyG_take' (i := 3) (v := ?v3_4sp) rfl (by kernel_rfl) (by kernel_rfl) (by kernel_rfl) (by kernel_rfl) (fun _ _ _ h => h) (Or.inl ⟨by rfl, ?hy3_4sp⟩) hS ?rest3_4sp
      case hy3_4sp => intro w hSw; (try dsimp only at hSw); go_simp; (try with_reducible rfl)
      case rest3_4sp =>
      try simp only [nz0, nz1, nz2, Act.put, nz3, nz4, nz5]
      refine wpAnyG_take' (i := 4) (v := ?v4_5sp) rfl (by kernel_rfl) (by kernel_rfl) (by kernel_rfl) (by kernel_rfl) (fun _ _ _ h => h) (Or.inl ⟨by rfl, ?hy4_5sp⟩) hS ?rest4_5sp
      case hy4_5sp => intro w hSw; (try dsimp only at hSw); go_simp; (try with_reducible rfl)
      case rest4_5sp =>
      try simp only [nz0, nz1, nz2, Act.put, nz3, nz4, nz5]
      refine wpAnyG_take' (i := 5) (v := ?v5_6sp) rfl (by kernel_rfl) (by kernel_rfl) (by kernel_rfl) (by kernel_rfl) (fun _ _ _ h => h) (Or.inl ⟨by rfl, ?hy5_6sp⟩) hS ?rest5_6sp
      case hy5_6sp => intro w hSw; (try dsimp only at hSw); go_simp; (try with_reducible rfl)
      case rest5_6sp =>
      try simp only [nz0, nz1, nz2, Act.put, nz3, nz4, nz5]
      refine wpAnyG_take' (i := 6) (v := ?v6_7sp) rfl (by kernel_rfl) (by kernel_rfl) (by kernel_rfl) (by kernel_rfl) (fun _ _ _ h => h) (Or.inl ⟨by rfl, ?hy6_7sp⟩) hS ?rest6_7sp
      case hy6_7sp => intro w hSw; (try dsimp only at hSw); go_simp; (try with_reducible rfl)
      case rest6_7sp =>
      try simp only [nz0, nz1, nz2, Act.put, nz3, nz4, nz5]
      refine wpAnyG_take' (i := 7) (v := ?v7_8sp) rfl (by kernel_rfl) (by kernel_rfl) (by kernel_rfl) (by kernel_rfl) (fun _ _ _ h => h) (Or.inl ⟨by rfl, ?hy7_8sp⟩) hS ?rest7_8sp
      case hy7_8sp => intro w hSw; (try dsimp only at hSw); go_simp; (try with_reducible rfl)
      case rest7_8sp =>
      try simp only [nz0, nz1, nz2, Act.put, nz3, nz4, nz5]
      refine wpAnyG_take' (i := 8) (v := ?v8_9sp) rfl (by kernel_rfl) (by kernel_rfl) (by kernel_rfl) (by kernel_rfl) (fun _ _ _ h => h) (Or.inl ⟨by rfl, ?hy8_9sp⟩) hS ?rest8_9sp
      case hy8_9sp => intro w hSw; (try dsimp only at hSw); go_simp; (try with_reducible rfl)
      case rest8_9sp =>
      try simp only [nz0, nz1, nz2, Act.put, nz3, nz4, nz5]
      refine wpAnyG_take' (i := 9) (v := ?v9_10sp) rfl (by kernel_rfl) (by kernel_rfl) (by kernel_rfl) (by kernel_rfl) (fun _ _ _ h => h) (Or.inl ⟨by rfl, ?hy9_10sp⟩) hS ?rest9_10sp
      case hy9_10sp => intro w hSw; (try dsimp only at hSw); go_simp; (try with_reducible rfl)
      case rest9_10sp =>
      try simp only [nz0, nz1, nz2, Act.put, nz3, nz4, nz5]
      refine wpAnyG_one (i := 10) (by kernel_rfl) rfl (fun K hK => ?_)
      go_simp
      refine hK.out _ _ (fun hno => by cases hno) ?_
      clear K hK
      try simp only [nz0, nz1, nz2, Act.put, nz3, nz4, nz5]
      refine wpAnyG_done (by kernel_rfl) ?_ _
      try simp only [nz0, nz1, nz2, Act.put, nz3, nz4, nz5]
      (try dsimp only); repeat' (first | go_values | go_skip | go_guarded | go_step | go_upon | go_back)
      rw [HX.out]
      go_roundw
      case rel =>
        refine ⟨j + 1, _, by have := HJ.out.1; omega, by go_num, ?_, HS2.out⟩
        rw [List.length_set]; exact HJ.out.2
      case measure => have := HJ.out.1; simp [intOf]; omega
    · have hd : decide (j < n) = false := decide_eq_false hjn
      obtain rfl : j = n := by omega
      have c1 := (hs.pickL (M := [_, _, _]) [2, 0, 1] rfl).cell (o := 1) rfl
      have HS := Lib.hid hs
      have HL := Lib.hid hl'
      clear hs hl' hjn hj
      (try dsimp only); repeat' (first | go_values | go_skip | go_guarded | go_step | go_upon | go_back)
      go_loopw [3] (fun i wr => ∃ (q : Nat) (ps' : List (EnM × Value)), q ≤ p ∧ i = .int .i64 q ∧ ps'.length = p ∧ Sep w0 (By (.slice ca j cc) l' :: EnT (.slice ea p ec) ps' :: Cl b1 #[.int .i64 ib, .slice ca j cc, .slice ea p ec, .int .i64 ic] 32 :: L) wr) (fun i _ => p - (intOf i).toNat)
      case atStart => exact ⟨0, ps, Nat.zero_le _, rfl, HP.out, HS.out⟩
      case round =>
        obtain ⟨q, ps', hq, rfl, hp', hs⟩ := hrel
        clear HS c1
        have q0 : (0 : Int) ≤ (q : Int) := by omega
        have q1 : (q : Int) ≤ 40 := by omega
        have c2 := (hs.pickL (M := [_, _, _]) [2, 0, 1] rfl).cell (o := 2) rfl
        by_cases hqn : q < p
        · have hd2 : decide (q < p) = true := decide_eq_true hqn
          have q2 : (q : Int) < (p : Int) := by omega
          obtain ⟨bx, kc, hv, hcc, e1, f1, hset⟩ := hs.sw2.enNum9 q (by omega)
          simp only [Value.slice.injEq] at hv
          obtain ⟨rfl, -, rfl⟩ := hv
          generalize (ps'[q]'(by omega)) = x9 at *
          have HS2 := Lib.hid hset.sw2
          have HJ := Lib.hid (And.intro hqn hp')
          clear hs hset hqn hq hp'
          (try dsimp only); repeat' (first | go_values | go_skip | go_guarded | go_step | go_upon | go_back)
          go_roundw
          case rel =>
            refine ⟨q + 1, _, by have := HJ.out.1; omega, by go_num, ?_, HS2.out⟩
            rw [List.length_set]; exact HJ.out.2
          case measure => have := HJ.out.1; simp [intOf]; omega
        · have hd2 : decide (q < p) = false := decide_eq_false hqn
          have HS2 := Lib.hid hs
          have HPP := Lib.hid hp'
          clear hs hqn hq hp'
          (try dsimp only); repeat' (first | go_values | go_skip | go_guarded | go_step | go_upon | go_back)
          exact bodyPost_end (results_none rfl _ _ _) rfl ⟨rfl, l', ps', HL.out, HPP.out, HS2.out.pickL (M := [_, _, _]) [0, 1] rfl⟩
end Go.Proofs.YtafkbodmiblbnaaGreatDoor
