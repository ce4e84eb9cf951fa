/- The statement's own (stage 4): made. -/
import Derived.Test.YtcicclghgbdgnaaDoorEn2
import Derived.Test.YtcicclghgbdgnaaDoorItem15
import Derived.Test.YtcicclghgbdgnaaDoorBkF
namespace Go.Proofs.YtcicclghgbdgnaaDoor
open Go.RowKit
set_option linter.unusedVariables false
set_option linter.unusedSimpArgs false
def MadeE (w0 : World) (L : List Thing) (e : Ending) (w' : World) : Prop := ∃ (x : EnM) (u : Value), e = .returned (enV x u) ∧ x.ok = true ∧ Sep w0 (LnR u x.p.ls :: L) w'
def sN (m : Nat) : KS := ⟨⟨#[115, UInt8.ofNat (97 + m)]⟩, by unfold maxLen; show 2 ≤ _; decide⟩
theorem sN_ok {m : Nat} (h : m ≤ 25) : nameB (sN m).1 = true := by
  have : (List.range 26).all (fun m => nameB (sN m).1) = true := by kernel_rfl
  exact List.all_eq_true.1 this m (List.mem_range.2 (by omega))
def xS : KS := ⟨⟨#[120]⟩, by unfold maxLen; show 1 ≤ _; decide⟩
def aS : KS := ⟨⟨#[97]⟩, by unfold maxLen; show 1 ≤ _; decide⟩
def bS : KS := ⟨⟨#[98]⟩, by unfold maxLen; show 1 ≤ _; decide⟩
theorem en_okM {c m : Int} {p : OpM} (h0 : 0 ≤ c ∧ c < 8) (h1 : 1 ≤ m ∧ m ≤ 2147483647) (hp : p.ok = true) : EnM.ok ⟨c, m, p⟩ = true := by
  unfold EnM.ok EnM.hd
  rw [hp, Bool.and_true]
  exact decide_eq_true ⟨h0.1, h0.2, h1.1, h1.2⟩
theorem lines_ab {n : Int} (h : qtyB n = true) : linesB [(aS, n), (bS, 1)] = true := by
  have ha : nameB aS.1 = true := by kernel_rfl
  have hb : nameB bS.1 = true := by kernel_rfl
  have hne : ¬ aS = bS := by
    intro h
    have : aS.1.data.toList = bS.1.data.toList := by rw [h]
    revert this
    decide
  unfold linesB lineB
  simp [ha, hb, h, hne, show qtyB 1 = true from rfl]
theorem ok_res {o n : Int} {ls : List Ln} (ho : qtyB o = true) (hn : qtyB n = true) (hl : linesB ls = true) : okB 3 sZ o n ls = true := by
  unfold okB; rw [show fieldsOf 3 = 22 by decide]; unfold skuB ordB cntB linB; simp [sZ_empty, ho, hn, hl]
theorem cells4 {w0 w : World} {b : Nat} {v0 v1 v2 v3 : Value} {t : TypeId} {L : List Thing} (h : Sep w0 (Cl b #[v0, v1, v2, v3] t :: L) w) :
    (w.cell? ⟨b, 0, none⟩ = some v0 ∧ w.cell? ⟨b, 1, none⟩ = some v1 ∧ w.cell? ⟨b, 2, none⟩ = some v2 ∧ w.cell? ⟨b, 3, none⟩ = some v3) :=
  ⟨h.cell rfl, h.cell rfl, h.cell rfl, h.cell rfl⟩
/-- A block as a row of structs of its own. -/
theorem Sep.asRn {w0 w : World} {g : Nat} {xs : Array Value} {e : TypeId} {L : List Thing} (h : Sep w0 (Cl g xs e :: L) w) (sz n : Nat) (hn : xs.size = n * sz) (hl : n ≤ maxLen) : Sep w0 (Rn sz e (.slice (some ⟨g, 0, none⟩) n n) n xs.toList :: L) w := by
  refine h.imp (loc_rn _ _ _ _ _) fun F hF => ⟨⟨0, ?_, .inr ⟨g, n, xs, rfl, Nat.zero_le _, hF.1, Nat.le_refl _, hl, hn, ?_⟩⟩, fun k => ⟨fun hk => by rw [(hF.2 k).1 hk]; rfl, fun hk => (hF.2 k).2 (by simpa [Value.ownBlock] using hk.symm)⟩⟩
  · simp [hn]
  · apply List.take_of_length_le; simp [hn]
def enZ : Array Value := #[.int .i64 0, .int .i64 0, .int .i64 0, .string ⟨#[]⟩, .int .i64 0, .int .i64 0, .slice none 0 0]
set_option maxRecDepth 100000 in
set_option maxHeartbeats 16000000 in
theorem mk4_0 {w0 w : World} {L : List Thing} (c m k n : Int) (h : Sep w0 L w) (hk : k % 4 = 0) :
    Calls Tryd.prog 22 #[.agg #[.int .i64 c, .int .i64 m, .int .i64 k, .int .i64 n]] w (MadeE w0 L) := by
  obtain ⟨wa, hwa⟩ : ∃ z, z = (w.alloc (.cells #[.int .i64 c, .int .i64 m, .int .i64 k, .int .i64 n] 44)).alloc (.cells enZ 26) := ⟨_, rfl⟩
  have h1 := (h.alloc (.cells #[.int .i64 c, .int .i64 m, .int .i64 k, .int .i64 n] 44)).alloc (.cells enZ 26)
  rw [← hwa] at h1
  rw [show (w.alloc (.cells #[.int .i64 c, .int .i64 m, .int .i64 k, .int .i64 n] 44)).heap.size = w.heap.size + 1 by simp] at h1
  have HC := Lib.hid (fun wx => bring_any c 8 wx (by unfold Sm; omega))
  have HM := Lib.hid (fun wx => bring_any m 2147483647 wx (by unfold Sm; omega))
  have HN := Lib.hid (fun wx => bring_any n 2147483647 wx (by unfold Sm; omega))
  have HB := Lib.hid (fun wx => bring_any k 4 wx (by unfold Sm; omega))
  have hc : 0 ≤ c % 8 ∧ c % 8 < 8 := by omega
  have hm : 0 ≤ m % 2147483647 ∧ m % 2147483647 ≤ 2147483646 := by omega
  have hn : 0 ≤ n % 2147483647 ∧ n % 2147483647 ≤ 2147483646 := by omega
  rw [hk] at HB
  generalize c % 8 = qc at *
  generalize m % 2147483647 = qm at *
  generalize n % 2147483647 = qn at *
  have HQ := Lib.hid (And.intro hc (And.intro hm hn))
  have wm := I64q hm
  have wn := I64q hn
  obtain ⟨m0, m1⟩ := hm
  obtain ⟨n0, n1⟩ := hn
  unfold enZ at hwa h1
  clear h hc
  go_enter Tryd.func22, Tryd.ntmps22
  go_wp2_with fail
  rw [← hwa]
  clear hwa
  generalize w.heap.size = b1 at *
  obtain ⟨b2, hb2⟩ : ∃ z, z = b1 + 1 := ⟨_, rfl⟩
  rw [← hb2] at h1 ⊢
  clear hb2
  obtain ⟨c0, c1, c2, c3⟩ := cells4 h1.sw2
  have h2 := h1.alloc (.cells #[.int .i64 0, .int .i64 0, .int .i64 0, .string ⟨#[]⟩, .int .i64 0, .int .i64 0, .slice none 0 0] 26)
  obtain ⟨d0, d1, -, -⟩ := cells4 h2.sw3
  obtain ⟨e0, e1, e2, e3, e4, e5, e6⟩ := cells7 h2
  obtain ⟨f0, f1, f2, f3, f4, f5, f6⟩ := frz7 h2
  have h3 := (h1.alloc (.cells #[.int .i64 qc, .int .i64 (1 + qm), .int .i64 0, .string ⟨#[]⟩, .int .i64 0, .int .i64 0, .slice none 0 0] 26)).drew
  have H3 := Lib.hid h3
  clear h1 h2 h3
  refine wp_region_G (fun w' => w'.cell? ⟨b1, 0, none⟩ = some (.int .i64 c) ∧ w'.cell? ⟨b1, 1, none⟩ = some (.int .i64 m)) [9] (by kernel_rfl) ⟨c0, c1⟩ (fun hS => ?_)
  try dsimp only at hS
  refine wpAnyG_take' (i := 0) (v := ?v0_1mk) rfl (by kernel_rfl) (by kernel_rfl) (by kernel_rfl) (by kernel_rfl) (fun _ _ _ h => h) (Or.inl ⟨by rfl, ?hy0_1mk⟩) hS ?rest0_1mk
  case hy0_1mk => intro w hSw; (try dsimp only at hSw); go_simp; (try with_reducible rfl)
  case rest0_1mk =>
  try simp only [List.getElem_toArray, List.getElem_cons_succ, List.getElem_cons_zero, Act.put, List.setIfInBounds_toArray, List.set_cons_zero, List.set_cons_succ]
  refine wpAnyG_take' (i := 1) (v := ?v1_2mk) rfl (by kernel_rfl) (by kernel_rfl) (by kernel_rfl) (by kernel_rfl) (fun _ _ _ h => h) (Or.inl ⟨by rfl, ?hy1_2mk⟩) hS ?rest1_2mk
  case hy1_2mk => intro w hSw; (try dsimp only at hSw); go_simp; (try with_reducible rfl)
  case rest1_2mk =>
  try simp only [List.getElem_toArray, List.getElem_cons_succ, List.getElem_cons_zero, Act.put, List.setIfInBounds_toArray, List.set_cons_zero, List.set_cons_succ]
  refine wpAnyG_call (i := 2) (v := .int .i64 qc) rfl (by kernel_rfl) (by kernel_rfl) (by kernel_rfl) (by kernel_rfl) (fun _ _ _ h => h) ⟨by rfl, fun wx hx => ⟨_, _, ?hr2, (HC.out wx).mono fun e w' hh => ⟨hh.1, hh.2.symm⟩⟩⟩ hS ?rest2c
  case hr2 => go_simp; (try with_reducible rfl)
  case rest2c =>
  try simp only [List.getElem_toArray, List.getElem_cons_succ, List.getElem_cons_zero, Act.put, List.setIfInBounds_toArray, List.set_cons_zero, List.set_cons_succ]
  refine wpAnyG_take' (i := 3) (v := ?v3_3mk) rfl (by kernel_rfl) (by kernel_rfl) (by kernel_rfl) (by kernel_rfl) (fun _ _ _ h => h) (Or.inl ⟨by rfl, ?hy3_3mk⟩) hS ?rest3_3mk
  case hy3_3mk => intro w hSw; (try dsimp only at hSw); go_simp; (try with_reducible rfl)
  case rest3_3mk =>
  try simp only [List.getElem_toArray, List.getElem_cons_succ, List.getElem_cons_zero, Act.put, List.setIfInBounds_toArray, List.set_cons_zero, List.set_cons_succ]
  refine wpAnyG_take' (i := 4) (v := ?v4_4mk) rfl (by kernel_rfl) (by kernel_rfl) (by kernel_rfl) (by kernel_rfl) (fun _ _ _ h => h) (Or.inl ⟨by rfl, ?hy4_4mk⟩) hS ?rest4_4mk
  case hy4_4mk => intro w hSw; (try dsimp only at hSw); go_simp; (try with_reducible rfl)
  case rest4_4mk =>
  try simp only [List.getElem_toArray, List.getElem_cons_succ, List.getElem_cons_zero, Act.put, List.setIfInBounds_toArray, List.set_cons_zero, List.set_cons_succ]
  refine wpAnyG_call (i := 5) (v := .int .i64 qm) rfl (by kernel_rfl) (by kernel_rfl) (by kernel_rfl) (by kernel_rfl) (fun _ _ _ h => h) ⟨by rfl, fun wx hx => ⟨_, _, ?hr5, (HM.out wx).mono fun e w' hh => ⟨hh.1, hh.2.symm⟩⟩⟩ hS ?rest5c
  case hr5 => go_simp; (try with_reducible rfl)
  case rest5c =>
  try simp only [List.getElem_toArray, List.getElem_cons_succ, List.getElem_cons_zero, Act.put, List.setIfInBounds_toArray, List.set_cons_zero, List.set_cons_succ]
  refine wpAnyG_take' (i := 6) (v := ?v6_5mk) rfl (by kernel_rfl) (by kernel_rfl) (by kernel_rfl) (by kernel_rfl) (fun _ _ _ h => h) (Or.inl ⟨by rfl, ?hy6_5mk⟩) hS ?rest6_5mk
  case hy6_5mk => intro w hSw; (try dsimp only at hSw); go_simp; (try with_reducible rfl)
  case rest6_5mk =>
  try simp only [List.getElem_toArray, List.getElem_cons_succ, List.getElem_cons_zero, Act.put, List.setIfInBounds_toArray, List.set_cons_zero, List.set_cons_succ]
  refine wpAnyG_take' (i := 7) (v := ?v7_6mk) rfl (by kernel_rfl) (by kernel_rfl) (by kernel_rfl) (by kernel_rfl) (fun _ _ _ h => h) (Or.inl ⟨by rfl, ?hy7_6mk⟩) hS ?rest7_6mk
  case hy7_6mk => intro w hSw; (try dsimp only at hSw); go_simp; (try with_reducible rfl)
  case rest7_6mk =>
  try simp only [List.getElem_toArray, List.getElem_cons_succ, List.getElem_cons_zero, Act.put, List.setIfInBounds_toArray, List.set_cons_zero, List.set_cons_succ]
  refine wpAnyG_one (i := 8) (by kernel_rfl) rfl (fun K hK => ?_)
  go_simp
  refine hK.out _ _ (fun _ => ?hS7mk) ?rest7mk
  case hS7mk => exact ⟨d0, d1⟩
  clear K hK
  try simp only [List.getElem_toArray, List.getElem_cons_succ, List.getElem_cons_zero, Act.put, List.setIfInBounds_toArray, List.set_cons_zero, List.set_cons_succ]
  refine wpAnyG_one (i := 9) (by kernel_rfl) rfl (fun K hK => ?_)
  go_simp
  refine hK.out _ _ (fun hno => by cases hno) ?_
  clear K hK
  try simp only [List.getElem_toArray, List.getElem_cons_succ, List.getElem_cons_zero, Act.put, List.setIfInBounds_toArray, List.set_cons_zero, List.set_cons_succ]
  refine wpAnyG_done (by kernel_rfl) ?_ _
  try simp only [List.getElem_toArray, List.getElem_cons_succ, List.getElem_cons_zero, Act.put, List.setIfInBounds_toArray, List.set_cons_zero, List.set_cons_succ]
  have h3 := H3.out
  clear H3 c0 c1 c2 c3 d0 d1 e0 e1 e2 e3 e4 e5 e6 f0 f1 f2 f3 f4 f5 f6 HC HM hS
  generalize (wa.alloc (.cells #[.int .i64 qc, .int .i64 (1 + qm), .int .i64 0, .string ⟨#[]⟩, .int .i64 0, .int .i64 0, .slice none 0 0] 26)).drew = wb at *
  generalize wa.heap.size = b3 at *
  obtain ⟨c0, c1, c2, c3⟩ := cells4 h3.sw3
  go_wp2_with fail
  refine (HN.out _).mono ?_
  rintro r0 w1 ⟨rfl, rfl⟩
  go_wp2_with fail
  refine (HB.out _).mono ?_
  rintro r0 w1 ⟨rfl, rfl⟩
  clear HN HB
  obtain ⟨r, hr, hr2⟩ : ∃ r : Nat, (1 + qn).tmod 26 = (r : Int) ∧ r ≤ 25 := ⟨((1 + qn).tmod 26).toNat, by have := Int.tmod_nonneg 26 (show 0 ≤ 1 + qn by omega); omega, by have := Int.tmod_lt_of_pos (1 + qn) (show (0 : Int) < 26 by decide); omega⟩
  have eC : IntKind.i64.wrap (97 + (r : Int)) = 97 + (r : Int) := IntWalk.i64_in _ (by omega)
  obtain ⟨ch, hch⟩ : ∃ ch : UInt8, ch = UInt8.ofNat (97 + r) := ⟨_, rfl⟩
  have hz : ch.toNat = 97 + r := by rw [hch, UInt8.toNat_ofNat']; omega
  have eE : (97 + (r : Int)) % 256 = 97 + (r : Int) := by omega
  have hA := h3.alloc (.cells #[.int .u8 ((ch.toNat : Nat) : Int)] 5)
  have hcv := conv_bytes (P := Tryd.prog) Tryd.underlying27 Tryd.underlying5 Tryd.underlying9 (l := [ch]) ((hA.asRow 1 rfl (by unfold maxLen; omega)).sl)
  rw [hz, show ((97 + r : Nat) : Int) = 97 + (r : Int) by omega] at hA hcv
  have hle : (⟨#[115]⟩ ++ ⟨#[ch]⟩ : ByteArray).size ≤ maxLen := by unfold maxLen; show 2 ≤ _; decide
  have HNM : Hid (nameB (⟨#[115]⟩ ++ ⟨#[ch]⟩) = true) := Lib.hid (by have h := sN_ok hr2; unfold sN at h; rw [← hch] at h; exact h)
  clear hch hz
  obtain ⟨e0, e1, e2, e3, e4, e5, e6⟩ := cells7 hA.sw2
  obtain ⟨f0, f1, f2, f3, f4, f5, f6⟩ := frz7 hA.sw2
  have h4 := store75 (u2 := .int .i64 1) (u3 := .string ((⟨#[115]⟩ : ByteArray) ++ (⟨#[ch]⟩ : ByteArray))) (u4 := .int .i64 0) (u5 := .int .i64 (1 + qn)) (u6 := .slice none 0 0) hA.sw2
  obtain ⟨k0, k1, k2, k3, k4, k5, k6⟩ := cells7 h4
  obtain ⟨x0, x1, x2, x3, x4, x5, x6⟩ := cells7 h4.sw3
  obtain ⟨g0, g1, g2, g3, g4, g5, g6⟩ := frz7 h4.sw3
  have h6 := store7 (u0 := .int .i64 qc) (u1 := .int .i64 (1 + qm)) (u2 := .int .i64 1) (u3 := .string ((⟨#[115]⟩ : ByteArray) ++ (⟨#[ch]⟩ : ByteArray))) (u4 := .int .i64 0) (u5 := .int .i64 (1 + qn)) (u6 := .slice none 0 0) h4.sw3
  obtain ⟨y0, y1, y2, y3, y4, y5, y6⟩ := cells7 h6
  have H6 := Lib.hid ((h6.pickL (M := [_, _, _, _]) [] rfl))
  clear h3 h4 h6
  go_wp2_with fail
  exact bodyPost_ret (v := .agg #[.int .i64 qc, .int .i64 (1 + qm), .int .i64 1, .string ((⟨#[115]⟩ : ByteArray) ++ (⟨#[ch]⟩ : ByteArray)), .int .i64 0, .int .i64 (1 + qn), .slice none 0 0]) (by simp [results, Tryd.results22, go_sem, y0, y1, y2, y3, y4, y5, y6]) rfl ⟨⟨qc, 1 + qm, ⟨1, (Subtype.mk ((⟨#[115]⟩ : ByteArray) ++ (⟨#[ch]⟩ : ByteArray)) hle : KS), 0, (1 + qn), []⟩⟩, _, rfl, en_okM HQ.out.1 (by have := HQ.out; omega) (ok_5 HNM.out (qtyB_1 HQ.out.2.2)), H6.out.rnNil 2 36⟩
set_option maxRecDepth 100000 in
set_option maxHeartbeats 16000000 in
theorem mk4_1 {w0 w : World} {L : List Thing} (c m k n : Int) (h : Sep w0 L w) (hk : k % 4 = 1) :
    Calls Tryd.prog 22 #[.agg #[.int .i64 c, .int .i64 m, .int .i64 k, .int .i64 n]] w (MadeE w0 L) := by
  obtain ⟨wa, hwa⟩ : ∃ z, z = (w.alloc (.cells #[.int .i64 c, .int .i64 m, .int .i64 k, .int .i64 n] 44)).alloc (.cells enZ 26) := ⟨_, rfl⟩
  have h1 := (h.alloc (.cells #[.int .i64 c, .int .i64 m, .int .i64 k, .int .i64 n] 44)).alloc (.cells enZ 26)
  rw [← hwa] at h1
  rw [show (w.alloc (.cells #[.int .i64 c, .int .i64 m, .int .i64 k, .int .i64 n] 44)).heap.size = w.heap.size + 1 by simp] at h1
  have HC := Lib.hid (fun wx => bring_any c 8 wx (by unfold Sm; omega))
  have HM := Lib.hid (fun wx => bring_any m 2147483647 wx (by unfold Sm; omega))
  have HN := Lib.hid (fun wx => bring_any n 2147483647 wx (by unfold Sm; omega))
  have HB := Lib.hid (fun wx => bring_any k 4 wx (by unfold Sm; omega))
  have hc : 0 ≤ c % 8 ∧ c % 8 < 8 := by omega
  have hm : 0 ≤ m % 2147483647 ∧ m % 2147483647 ≤ 2147483646 := by omega
  have hn : 0 ≤ n % 2147483647 ∧ n % 2147483647 ≤ 2147483646 := by omega
  rw [hk] at HB
  generalize c % 8 = qc at *
  generalize m % 2147483647 = qm at *
  generalize n % 2147483647 = qn at *
  have HQ := Lib.hid (And.intro hc (And.intro hm hn))
  have wm := I64q hm
  have wn := I64q hn
  obtain ⟨m0, m1⟩ := hm
  obtain ⟨n0, n1⟩ := hn
  unfold enZ at hwa h1
  clear h hc
  go_enter Tryd.func22, Tryd.ntmps22
  go_wp2_with fail
  rw [← hwa]
  clear hwa
  generalize w.heap.size = b1 at *
  obtain ⟨b2, hb2⟩ : ∃ z, z = b1 + 1 := ⟨_, rfl⟩
  rw [← hb2] at h1 ⊢
  clear hb2
  obtain ⟨c0, c1, c2, c3⟩ := cells4 h1.sw2
  have h2 := h1.alloc (.cells #[.int .i64 0, .int .i64 0, .int .i64 0, .string ⟨#[]⟩, .int .i64 0, .int .i64 0, .slice none 0 0] 26)
  obtain ⟨d0, d1, -, -⟩ := cells4 h2.sw3
  obtain ⟨e0, e1, e2, e3, e4, e5, e6⟩ := cells7 h2
  obtain ⟨f0, f1, f2, f3, f4, f5, f6⟩ := frz7 h2
  have h3 := (h1.alloc (.cells #[.int .i64 qc, .int .i64 (1 + qm), .int .i64 0, .string ⟨#[]⟩, .int .i64 0, .int .i64 0, .slice none 0 0] 26)).drew
  have H3 := Lib.hid h3
  clear h1 h2 h3
  refine wp_region_G (fun w' => w'.cell? ⟨b1, 0, none⟩ = some (.int .i64 c) ∧ w'.cell? ⟨b1, 1, none⟩ = some (.int .i64 m)) [9] (by kernel_rfl) ⟨c0, c1⟩ (fun hS => ?_)
  try dsimp only at hS
  refine wpAnyG_take' (i := 0) (v := ?v0_1mk) rfl (by kernel_rfl) (by kernel_rfl) (by kernel_rfl) (by kernel_rfl) (fun _ _ _ h => h) (Or.inl ⟨by rfl, ?hy0_1mk⟩) hS ?rest0_1mk
  case hy0_1mk => intro w hSw; (try dsimp only at hSw); go_simp; (try with_reducible rfl)
  case rest0_1mk =>
  try simp only [List.getElem_toArray, List.getElem_cons_succ, List.getElem_cons_zero, Act.put, List.setIfInBounds_toArray, List.set_cons_zero, List.set_cons_succ]
  refine wpAnyG_take' (i := 1) (v := ?v1_2mk) rfl (by kernel_rfl) (by kernel_rfl) (by kernel_rfl) (by kernel_rfl) (fun _ _ _ h => h) (Or.inl ⟨by rfl, ?hy1_2mk⟩) hS ?rest1_2mk
  case hy1_2mk => intro w hSw; (try dsimp only at hSw); go_simp; (try with_reducible rfl)
  case rest1_2mk =>
  try simp only [List.getElem_toArray, List.getElem_cons_succ, List.getElem_cons_zero, Act.put, List.setIfInBounds_toArray, List.set_cons_zero, List.set_cons_succ]
  refine wpAnyG_call (i := 2) (v := .int .i64 qc) rfl (by kernel_rfl) (by kernel_rfl) (by kernel_rfl) (by kernel_rfl) (fun _ _ _ h => h) ⟨by rfl, fun wx hx => ⟨_, _, ?hr2, (HC.out wx).mono fun e w' hh => ⟨hh.1, hh.2.symm⟩⟩⟩ hS ?rest2c
  case hr2 => go_simp; (try with_reducible rfl)
  case rest2c =>
  try simp only [List.getElem_toArray, List.getElem_cons_succ, List.getElem_cons_zero, Act.put, List.setIfInBounds_toArray, List.set_cons_zero, List.set_cons_succ]
  refine wpAnyG_take' (i := 3) (v := ?v3_3mk) rfl (by kernel_rfl) (by kernel_rfl) (by kernel_rfl) (by kernel_rfl) (fun _ _ _ h => h) (Or.inl ⟨by rfl, ?hy3_3mk⟩) hS ?rest3_3mk
  case hy3_3mk => intro w hSw; (try dsimp only at hSw); go_simp; (try with_reducible rfl)
  case rest3_3mk =>
  try simp only [List.getElem_toArray, List.getElem_cons_succ, List.getElem_cons_zero, Act.put, List.setIfInBounds_toArray, List.set_cons_zero, List.set_cons_succ]
  refine wpAnyG_take' (i := 4) (v := ?v4_4mk) rfl (by kernel_rfl) (by kernel_rfl) (by kernel_rfl) (by kernel_rfl) (fun _ _ _ h => h) (Or.inl ⟨by rfl, ?hy4_4mk⟩) hS ?rest4_4mk
  case hy4_4mk => intro w hSw; (try dsimp only at hSw); go_simp; (try with_reducible rfl)
  case rest4_4mk =>
  try simp only [List.getElem_toArray, List.getElem_cons_succ, List.getElem_cons_zero, Act.put, List.setIfInBounds_toArray, List.set_cons_zero, List.set_cons_succ]
  refine wpAnyG_call (i := 5) (v := .int .i64 qm) rfl (by kernel_rfl) (by kernel_rfl) (by kernel_rfl) (by kernel_rfl) (fun _ _ _ h => h) ⟨by rfl, fun wx hx => ⟨_, _, ?hr5, (HM.out wx).mono fun e w' hh => ⟨hh.1, hh.2.symm⟩⟩⟩ hS ?rest5c
  case hr5 => go_simp; (try with_reducible rfl)
  case rest5c =>
  try simp only [List.getElem_toArray, List.getElem_cons_succ, List.getElem_cons_zero, Act.put, List.setIfInBounds_toArray, List.set_cons_zero, List.set_cons_succ]
  refine wpAnyG_take' (i := 6) (v := ?v6_5mk) rfl (by kernel_rfl) (by kernel_rfl) (by kernel_rfl) (by kernel_rfl) (fun _ _ _ h => h) (Or.inl ⟨by rfl, ?hy6_5mk⟩) hS ?rest6_5mk
  case hy6_5mk => intro w hSw; (try dsimp only at hSw); go_simp; (try with_reducible rfl)
  case rest6_5mk =>
  try simp only [List.getElem_toArray, List.getElem_cons_succ, List.getElem_cons_zero, Act.put, List.setIfInBounds_toArray, List.set_cons_zero, List.set_cons_succ]
  refine wpAnyG_take' (i := 7) (v := ?v7_6mk) rfl (by kernel_rfl) (by kernel_rfl) (by kernel_rfl) (by kernel_rfl) (fun _ _ _ h => h) (Or.inl ⟨by rfl, ?hy7_6mk⟩) hS ?rest7_6mk
  case hy7_6mk => intro w hSw; (try dsimp only at hSw); go_simp; (try with_reducible rfl)
  case rest7_6mk =>
  try simp only [List.getElem_toArray, List.getElem_cons_succ, List.getElem_cons_zero, Act.put, List.setIfInBounds_toArray, List.set_cons_zero, List.set_cons_succ]
  refine wpAnyG_one (i := 8) (by kernel_rfl) rfl (fun K hK => ?_)
  go_simp
  refine hK.out _ _ (fun _ => ?hS7mk) ?rest7mk
  case hS7mk => exact ⟨d0, d1⟩
  clear K hK
  try simp only [List.getElem_toArray, List.getElem_cons_succ, List.getElem_cons_zero, Act.put, List.setIfInBounds_toArray, List.set_cons_zero, List.set_cons_succ]
  refine wpAnyG_one (i := 9) (by kernel_rfl) rfl (fun K hK => ?_)
  go_simp
  refine hK.out _ _ (fun hno => by cases hno) ?_
  clear K hK
  try simp only [List.getElem_toArray, List.getElem_cons_succ, List.getElem_cons_zero, Act.put, List.setIfInBounds_toArray, List.set_cons_zero, List.set_cons_succ]
  refine wpAnyG_done (by kernel_rfl) ?_ _
  try simp only [List.getElem_toArray, List.getElem_cons_succ, List.getElem_cons_zero, Act.put, List.setIfInBounds_toArray, List.set_cons_zero, List.set_cons_succ]
  have h3 := H3.out
  clear H3 c0 c1 c2 c3 d0 d1 e0 e1 e2 e3 e4 e5 e6 f0 f1 f2 f3 f4 f5 f6 HC HM hS
  generalize (wa.alloc (.cells #[.int .i64 qc, .int .i64 (1 + qm), .int .i64 0, .string ⟨#[]⟩, .int .i64 0, .int .i64 0, .slice none 0 0] 26)).drew = wb at *
  generalize wa.heap.size = b3 at *
  obtain ⟨c0, c1, c2, c3⟩ := cells4 h3.sw3
  go_wp2_with fail
  refine (HN.out _).mono ?_
  rintro r0 w1 ⟨rfl, rfl⟩
  go_wp2_with fail
  refine (HB.out _).mono ?_
  rintro r0 w1 ⟨rfl, rfl⟩
  clear HN HB
  obtain ⟨qh, hh, hh2⟩ : ∃ qh : Int, (1 + qn).tdiv 2 = qh ∧ 0 ≤ qh ∧ qh ≤ 2147483646 := ⟨(1 + qn).tdiv 2, rfl, by rw [Int.tdiv_eq_ediv_of_nonneg (by omega)]; omega, by rw [Int.tdiv_eq_ediv_of_nonneg (by omega)]; omega⟩
  have HH := Lib.hid hh2
  have eC : IntKind.i64.wrap (1 + qh) = 1 + qh := I64q hh2
  have hA := h3.alloc (.cells #[.string ⟨#[97]⟩, .int .i64 (1 + qn), .string ⟨#[98]⟩, .int .i64 1] 36)
  have hcc : ∀ i : Nat, (97 : Int) = 97 := fun _ => rfl
  obtain ⟨e0, e1, e2, e3, e4, e5, e6⟩ := cells7 hA.sw2
  obtain ⟨f0, f1, f2, f3, f4, f5, f6⟩ := frz7 hA.sw2
  have h4 := store75 (u2 := .int .i64 3) (u3 := .string ⟨#[]⟩) (u4 := .int .i64 (1 + qn)) (u5 := .int .i64 (1 + qh)) (u6 := .slice (some ⟨wb.heap.size, 0, none⟩) 2 2) hA.sw2
  obtain ⟨k0, k1, k2, k3, k4, k5, k6⟩ := cells7 h4
  obtain ⟨x0, x1, x2, x3, x4, x5, x6⟩ := cells7 h4.sw3
  obtain ⟨g0, g1, g2, g3, g4, g5, g6⟩ := frz7 h4.sw3
  have h6 := store7 (u0 := .int .i64 qc) (u1 := .int .i64 (1 + qm)) (u2 := .int .i64 3) (u3 := .string ⟨#[]⟩) (u4 := .int .i64 (1 + qn)) (u5 := .int .i64 (1 + qh)) (u6 := .slice (some ⟨wb.heap.size, 0, none⟩) 2 2) h4.sw3
  obtain ⟨y0, y1, y2, y3, y4, y5, y6⟩ := cells7 h6
  have H6 := Lib.hid (((h6.pickL (M := [_, _, _, _]) [2] rfl).asRn 2 2 rfl (by unfold maxLen; omega)))
  clear h3 h4 h6
  go_wp2_with fail
  exact bodyPost_ret (v := .agg #[.int .i64 qc, .int .i64 (1 + qm), .int .i64 3, .string ⟨#[]⟩, .int .i64 (1 + qn), .int .i64 (1 + qh), .slice (some ⟨wb.heap.size, 0, none⟩) 2 2]) (by simp [results, Tryd.results22, go_sem, y0, y1, y2, y3, y4, y5, y6]) rfl ⟨⟨qc, 1 + qm, ⟨3, sZ, (1 + qn), (1 + qh), [(aS, 1 + qn), (bS, 1)]⟩⟩, _, rfl, en_okM HQ.out.1 (by have := HQ.out; omega) (ok_res (qtyB_1 HQ.out.2.2) (qtyB_1 HH.out) (lines_ab (qtyB_1 HQ.out.2.2))), H6.out⟩
set_option maxRecDepth 100000 in
set_option maxHeartbeats 16000000 in
theorem mk4_2 {w0 w : World} {L : List Thing} (c m k n : Int) (h : Sep w0 L w) (hk : k % 4 = 2) :
    Calls Tryd.prog 22 #[.agg #[.int .i64 c, .int .i64 m, .int .i64 k, .int .i64 n]] w (MadeE w0 L) := by
  obtain ⟨wa, hwa⟩ : ∃ z, z = (w.alloc (.cells #[.int .i64 c, .int .i64 m, .int .i64 k, .int .i64 n] 44)).alloc (.cells enZ 26) := ⟨_, rfl⟩
  have h1 := (h.alloc (.cells #[.int .i64 c, .int .i64 m, .int .i64 k, .int .i64 n] 44)).alloc (.cells enZ 26)
  rw [← hwa] at h1
  rw [show (w.alloc (.cells #[.int .i64 c, .int .i64 m, .int .i64 k, .int .i64 n] 44)).heap.size = w.heap.size + 1 by simp] at h1
  have HC := Lib.hid (fun wx => bring_any c 8 wx (by unfold Sm; omega))
  have HM := Lib.hid (fun wx => bring_any m 2147483647 wx (by unfold Sm; omega))
  have HN := Lib.hid (fun wx => bring_any n 2147483647 wx (by unfold Sm; omega))
  have HB := Lib.hid (fun wx => bring_any k 4 wx (by unfold Sm; omega))
  have hc : 0 ≤ c % 8 ∧ c % 8 < 8 := by omega
  have hm : 0 ≤ m % 2147483647 ∧ m % 2147483647 ≤ 2147483646 := by omega
  have hn : 0 ≤ n % 2147483647 ∧ n % 2147483647 ≤ 2147483646 := by omega
  rw [hk] at HB
  generalize c % 8 = qc at *
  generalize m % 2147483647 = qm at *
  generalize n % 2147483647 = qn at *
  have HQ := Lib.hid (And.intro hc (And.intro hm hn))
  have wm := I64q hm
  have wn := I64q hn
  obtain ⟨m0, m1⟩ := hm
  obtain ⟨n0, n1⟩ := hn
  unfold enZ at hwa h1
  clear h hc
  go_enter Tryd.func22, Tryd.ntmps22
  go_wp2_with fail
  rw [← hwa]
  clear hwa
  generalize w.heap.size = b1 at *
  obtain ⟨b2, hb2⟩ : ∃ z, z = b1 + 1 := ⟨_, rfl⟩
  rw [← hb2] at h1 ⊢
  clear hb2
  obtain ⟨c0, c1, c2, c3⟩ := cells4 h1.sw2
  have h2 := h1.alloc (.cells #[.int .i64 0, .int .i64 0, .int .i64 0, .string ⟨#[]⟩, .int .i64 0, .int .i64 0, .slice none 0 0] 26)
  obtain ⟨d0, d1, -, -⟩ := cells4 h2.sw3
  obtain ⟨e0, e1, e2, e3, e4, e5, e6⟩ := cells7 h2
  obtain ⟨f0, f1, f2, f3, f4, f5, f6⟩ := frz7 h2
  have h3 := (h1.alloc (.cells #[.int .i64 qc, .int .i64 (1 + qm), .int .i64 0, .string ⟨#[]⟩, .int .i64 0, .int .i64 0, .slice none 0 0] 26)).drew
  have H3 := Lib.hid h3
  clear h1 h2 h3
  refine wp_region_G (fun w' => w'.cell? ⟨b1, 0, none⟩ = some (.int .i64 c) ∧ w'.cell? ⟨b1, 1, none⟩ = some (.int .i64 m)) [9] (by kernel_rfl) ⟨c0, c1⟩ (fun hS => ?_)
  try dsimp only at hS
  refine wpAnyG_take' (i := 0) (v := ?v0_1mk) rfl (by kernel_rfl) (by kernel_rfl) (by kernel_rfl) (by kernel_rfl) (fun _ _ _ h => h) (Or.inl ⟨by rfl, ?hy0_1mk⟩) hS ?rest0_1mk
  case hy0_1mk => intro w hSw; (try dsimp only at hSw); go_simp; (try with_reducible rfl)
  case rest0_1mk =>
  try simp only [List.getElem_toArray, List.getElem_cons_succ, List.getElem_cons_zero, Act.put, List.setIfInBounds_toArray, List.set_cons_zero, List.set_cons_succ]
  refine wpAnyG_take' (i := 1) (v := ?v1_2mk) rfl (by kernel_rfl) (by kernel_rfl) (by kernel_rfl) (by kernel_rfl) (fun _ _ _ h => h) (Or.inl ⟨by rfl, ?hy1_2mk⟩) hS ?rest1_2mk
  case hy1_2mk => intro w hSw; (try dsimp only at hSw); go_simp; (try with_reducible rfl)
  case rest1_2mk =>
  try simp only [List.getElem_toArray, List.getElem_cons_succ, List.getElem_cons_zero, Act.put, List.setIfInBounds_toArray, List.set_cons_zero, List.set_cons_succ]
  refine wpAnyG_call (i := 2) (v := .int .i64 qc) rfl (by kernel_rfl) (by kernel_rfl) (by kernel_rfl) (by kernel_rfl) (fun _ _ _ h => h) ⟨by rfl, fun wx hx => ⟨_, _, ?hr2, (HC.out wx).mono fun e w' hh => ⟨hh.1, hh.2.symm⟩⟩⟩ hS ?rest2c
  case hr2 => go_simp; (try with_reducible rfl)
  case rest2c =>
  try simp only [List.getElem_toArray, List.getElem_cons_succ, List.getElem_cons_zero, Act.put, List.setIfInBounds_toArray, List.set_cons_zero, List.set_cons_succ]
  refine wpAnyG_take' (i := 3) (v := ?v3_3mk) rfl (by kernel_rfl) (by kernel_rfl) (by kernel_rfl) (by kernel_rfl) (fun _ _ _ h => h) (Or.inl ⟨by rfl, ?hy3_3mk⟩) hS ?rest3_3mk
  case hy3_3mk => intro w hSw; (try dsimp only at hSw); go_simp; (try with_reducible rfl)
  case rest3_3mk =>
  try simp only [List.getElem_toArray, List.getElem_cons_succ, List.getElem_cons_zero, Act.put, List.setIfInBounds_toArray, List.set_cons_zero, List.set_cons_succ]
  refine wpAnyG_take' (i := 4) (v := ?v4_4mk) rfl (by kernel_rfl) (by kernel_rfl) (by kernel_rfl) (by kernel_rfl) (fun _ _ _ h => h) (Or.inl ⟨by rfl, ?hy4_4mk⟩) hS ?rest4_4mk
  case hy4_4mk => intro w hSw; (try dsimp only at hSw); go_simp; (try with_reducible rfl)
  case rest4_4mk =>
  try simp only [List.getElem_toArray, List.getElem_cons_succ, List.getElem_cons_zero, Act.put, List.setIfInBounds_toArray, List.set_cons_zero, List.set_cons_succ]
  refine wpAnyG_call (i := 5) (v := .int .i64 qm) rfl (by kernel_rfl) (by kernel_rfl) (by kernel_rfl) (by kernel_rfl) (fun _ _ _ h => h) ⟨by rfl, fun wx hx => ⟨_, _, ?hr5, (HM.out wx).mono fun e w' hh => ⟨hh.1, hh.2.symm⟩⟩⟩ hS ?rest5c
  case hr5 => go_simp; (try with_reducible rfl)
  case rest5c =>
  try simp only [List.getElem_toArray, List.getElem_cons_succ, List.getElem_cons_zero, Act.put, List.setIfInBounds_toArray, List.set_cons_zero, List.set_cons_succ]
  refine wpAnyG_take' (i := 6) (v := ?v6_5mk) rfl (by kernel_rfl) (by kernel_rfl) (by kernel_rfl) (by kernel_rfl) (fun _ _ _ h => h) (Or.inl ⟨by rfl, ?hy6_5mk⟩) hS ?rest6_5mk
  case hy6_5mk => intro w hSw; (try dsimp only at hSw); go_simp; (try with_reducible rfl)
  case rest6_5mk =>
  try simp only [List.getElem_toArray, List.getElem_cons_succ, List.getElem_cons_zero, Act.put, List.setIfInBounds_toArray, List.set_cons_zero, List.set_cons_succ]
  refine wpAnyG_take' (i := 7) (v := ?v7_6mk) rfl (by kernel_rfl) (by kernel_rfl) (by kernel_rfl) (by kernel_rfl) (fun _ _ _ h => h) (Or.inl ⟨by rfl, ?hy7_6mk⟩) hS ?rest7_6mk
  case hy7_6mk => intro w hSw; (try dsimp only at hSw); go_simp; (try with_reducible rfl)
  case rest7_6mk =>
  try simp only [List.getElem_toArray, List.getElem_cons_succ, List.getElem_cons_zero, Act.put, List.setIfInBounds_toArray, List.set_cons_zero, List.set_cons_succ]
  refine wpAnyG_one (i := 8) (by kernel_rfl) rfl (fun K hK => ?_)
  go_simp
  refine hK.out _ _ (fun _ => ?hS7mk) ?rest7mk
  case hS7mk => exact ⟨d0, d1⟩
  clear K hK
  try simp only [List.getElem_toArray, List.getElem_cons_succ, List.getElem_cons_zero, Act.put, List.setIfInBounds_toArray, List.set_cons_zero, List.set_cons_succ]
  refine wpAnyG_one (i := 9) (by kernel_rfl) rfl (fun K hK => ?_)
  go_simp
  refine hK.out _ _ (fun hno => by cases hno) ?_
  clear K hK
  try simp only [List.getElem_toArray, List.getElem_cons_succ, List.getElem_cons_zero, Act.put, List.setIfInBounds_toArray, List.set_cons_zero, List.set_cons_succ]
  refine wpAnyG_done (by kernel_rfl) ?_ _
  try simp only [List.getElem_toArray, List.getElem_cons_succ, List.getElem_cons_zero, Act.put, List.setIfInBounds_toArray, List.set_cons_zero, List.set_cons_succ]
  have h3 := H3.out
  clear H3 c0 c1 c2 c3 d0 d1 e0 e1 e2 e3 e4 e5 e6 f0 f1 f2 f3 f4 f5 f6 HC HM hS
  generalize (wa.alloc (.cells #[.int .i64 qc, .int .i64 (1 + qm), .int .i64 0, .string ⟨#[]⟩, .int .i64 0, .int .i64 0, .slice none 0 0] 26)).drew = wb at *
  generalize wa.heap.size = b3 at *
  obtain ⟨c0, c1, c2, c3⟩ := cells4 h3.sw3
  go_wp2_with fail
  refine (HN.out _).mono ?_
  rintro r0 w1 ⟨rfl, rfl⟩
  go_wp2_with fail
  refine (HB.out _).mono ?_
  rintro r0 w1 ⟨rfl, rfl⟩
  clear HN HB
  have wneg : IntKind.i64.wrap (-(1 + qn)) = -(1 + qn) := IntWalk.i64_in _ (by omega)
  obtain ⟨e0, e1, e2, e3, e4, e5, e6⟩ := cells7 h3
  obtain ⟨f0, f1, f2, f3, f4, f5, f6⟩ := frz7 h3
  have h4 := store75 (u2 := .int .i64 2) (u3 := .string ⟨#[120]⟩) (u4 := .int .i64 0) (u5 := .int .i64 (-(1 + qn))) (u6 := .slice none 0 0) h3
  obtain ⟨k0, k1, k2, k3, k4, k5, k6⟩ := cells7 h4
  obtain ⟨x0, x1, x2, x3, x4, x5, x6⟩ := cells7 h4.sw2
  obtain ⟨g0, g1, g2, g3, g4, g5, g6⟩ := frz7 h4.sw2
  have h6 := store7 (u0 := .int .i64 qc) (u1 := .int .i64 (1 + qm)) (u2 := .int .i64 2) (u3 := .string ⟨#[120]⟩) (u4 := .int .i64 0) (u5 := .int .i64 (-(1 + qn))) (u6 := .slice none 0 0) h4.sw2
  obtain ⟨y0, y1, y2, y3, y4, y5, y6⟩ := cells7 h6
  have H6 := Lib.hid (h6.drop.drop.drop)
  clear h3 h4 h6
  go_wp2_with fail
  exact bodyPost_ret (v := .agg #[.int .i64 qc, .int .i64 (1 + qm), .int .i64 2, .string ⟨#[120]⟩, .int .i64 0, .int .i64 (-(1 + qn)), .slice none 0 0]) (by simp [results, Tryd.results22, go_sem, y0, y1, y2, y3, y4, y5, y6]) rfl ⟨⟨qc, 1 + qm, ⟨2, xS, 0, (-(1 + qn)), []⟩⟩, _, rfl, en_okM HQ.out.1 (by have := HQ.out; omega) (ok_9 (by kernel_rfl) (chgB_m HQ.out.2.2)), H6.out.rnNil 2 36⟩
set_option maxRecDepth 100000 in
set_option maxHeartbeats 16000000 in
theorem mk4_3 {w0 w : World} {L : List Thing} (c m k n : Int) (h : Sep w0 L w) (hk : k % 4 = 3) :
    Calls Tryd.prog 22 #[.agg #[.int .i64 c, .int .i64 m, .int .i64 k, .int .i64 n]] w (MadeE w0 L) := by
  obtain ⟨wa, hwa⟩ : ∃ z, z = (w.alloc (.cells #[.int .i64 c, .int .i64 m, .int .i64 k, .int .i64 n] 44)).alloc (.cells enZ 26) := ⟨_, rfl⟩
  have h1 := (h.alloc (.cells #[.int .i64 c, .int .i64 m, .int .i64 k, .int .i64 n] 44)).alloc (.cells enZ 26)
  rw [← hwa] at h1
  rw [show (w.alloc (.cells #[.int .i64 c, .int .i64 m, .int .i64 k, .int .i64 n] 44)).heap.size = w.heap.size + 1 by simp] at h1
  have HC := Lib.hid (fun wx => bring_any c 8 wx (by unfold Sm; omega))
  have HM := Lib.hid (fun wx => bring_any m 2147483647 wx (by unfold Sm; omega))
  have HN := Lib.hid (fun wx => bring_any n 2147483647 wx (by unfold Sm; omega))
  have HB := Lib.hid (fun wx => bring_any k 4 wx (by unfold Sm; omega))
  have hc : 0 ≤ c % 8 ∧ c % 8 < 8 := by omega
  have hm : 0 ≤ m % 2147483647 ∧ m % 2147483647 ≤ 2147483646 := by omega
  have hn : 0 ≤ n % 2147483647 ∧ n % 2147483647 ≤ 2147483646 := by omega
  rw [hk] at HB
  generalize c % 8 = qc at *
  generalize m % 2147483647 = qm at *
  generalize n % 2147483647 = qn at *
  have HQ := Lib.hid (And.intro hc (And.intro hm hn))
  have wm := I64q hm
  have wn := I64q hn
  obtain ⟨m0, m1⟩ := hm
  obtain ⟨n0, n1⟩ := hn
  unfold enZ at hwa h1
  clear h hc
  go_enter Tryd.func22, Tryd.ntmps22
  go_wp2_with fail
  rw [← hwa]
  clear hwa
  generalize w.heap.size = b1 at *
  obtain ⟨b2, hb2⟩ : ∃ z, z = b1 + 1 := ⟨_, rfl⟩
  rw [← hb2] at h1 ⊢
  clear hb2
  obtain ⟨c0, c1, c2, c3⟩ := cells4 h1.sw2
  have h2 := h1.alloc (.cells #[.int .i64 0, .int .i64 0, .int .i64 0, .string ⟨#[]⟩, .int .i64 0, .int .i64 0, .slice none 0 0] 26)
  obtain ⟨d0, d1, -, -⟩ := cells4 h2.sw3
  obtain ⟨e0, e1, e2, e3, e4, e5, e6⟩ := cells7 h2
  obtain ⟨f0, f1, f2, f3, f4, f5, f6⟩ := frz7 h2
  have h3 := (h1.alloc (.cells #[.int .i64 qc, .int .i64 (1 + qm), .int .i64 0, .string ⟨#[]⟩, .int .i64 0, .int .i64 0, .slice none 0 0] 26)).drew
  have H3 := Lib.hid h3
  clear h1 h2 h3
  refine wp_region_G (fun w' => w'.cell? ⟨b1, 0, none⟩ = some (.int .i64 c) ∧ w'.cell? ⟨b1, 1, none⟩ = some (.int .i64 m)) [9] (by kernel_rfl) ⟨c0, c1⟩ (fun hS => ?_)
  try dsimp only at hS
  refine wpAnyG_take' (i := 0) (v := ?v0_1mk) rfl (by kernel_rfl) (by kernel_rfl) (by kernel_rfl) (by kernel_rfl) (fun _ _ _ h => h) (Or.inl ⟨by rfl, ?hy0_1mk⟩) hS ?rest0_1mk
  case hy0_1mk => intro w hSw; (try dsimp only at hSw); go_simp; (try with_reducible rfl)
  case rest0_1mk =>
  try simp only [List.getElem_toArray, List.getElem_cons_succ, List.getElem_cons_zero, Act.put, List.setIfInBounds_toArray, List.set_cons_zero, List.set_cons_succ]
  refine wpAnyG_take' (i := 1) (v := ?v1_2mk) rfl (by kernel_rfl) (by kernel_rfl) (by kernel_rfl) (by kernel_rfl) (fun _ _ _ h => h) (Or.inl ⟨by rfl, ?hy1_2mk⟩) hS ?rest1_2mk
  case hy1_2mk => intro w hSw; (try dsimp only at hSw); go_simp; (try with_reducible rfl)
  case rest1_2mk =>
  try simp only [List.getElem_toArray, List.getElem_cons_succ, List.getElem_cons_zero, Act.put, List.setIfInBounds_toArray, List.set_cons_zero, List.set_cons_succ]
  refine wpAnyG_call (i := 2) (v := .int .i64 qc) rfl (by kernel_rfl) (by kernel_rfl) (by kernel_rfl) (by kernel_rfl) (fun _ _ _ h => h) ⟨by rfl, fun wx hx => ⟨_, _, ?hr2, (HC.out wx).mono fun e w' hh => ⟨hh.1, hh.2.symm⟩⟩⟩ hS ?rest2c
  case hr2 => go_simp; (try with_reducible rfl)
  case rest2c =>
  try simp only [List.getElem_toArray, List.getElem_cons_succ, List.getElem_cons_zero, Act.put, List.setIfInBounds_toArray, List.set_cons_zero, List.set_cons_succ]
  refine wpAnyG_take' (i := 3) (v := ?v3_3mk) rfl (by kernel_rfl) (by kernel_rfl) (by kernel_rfl) (by kernel_rfl) (fun _ _ _ h => h) (Or.inl ⟨by rfl, ?hy3_3mk⟩) hS ?rest3_3mk
  case hy3_3mk => intro w hSw; (try dsimp only at hSw); go_simp; (try with_reducible rfl)
  case rest3_3mk =>
  try simp only [List.getElem_toArray, List.getElem_cons_succ, List.getElem_cons_zero, Act.put, List.setIfInBounds_toArray, List.set_cons_zero, List.set_cons_succ]
  refine wpAnyG_take' (i := 4) (v := ?v4_4mk) rfl (by kernel_rfl) (by kernel_rfl) (by kernel_rfl) (by kernel_rfl) (fun _ _ _ h => h) (Or.inl ⟨by rfl, ?hy4_4mk⟩) hS ?rest4_4mk
  case hy4_4mk => intro w hSw; (try dsimp only at hSw); go_simp; (try with_reducible rfl)
  case rest4_4mk =>
  try simp only [List.getElem_toArray, List.getElem_cons_succ, List.getElem_cons_zero, Act.put, List.setIfInBounds_toArray, List.set_cons_zero, List.set_cons_succ]
  refine wpAnyG_call (i := 5) (v := .int .i64 qm) rfl (by kernel_rfl) (by kernel_rfl) (by kernel_rfl) (by kernel_rfl) (fun _ _ _ h => h) ⟨by rfl, fun wx hx => ⟨_, _, ?hr5, (HM.out wx).mono fun e w' hh => ⟨hh.1, hh.2.symm⟩⟩⟩ hS ?rest5c
  case hr5 => go_simp; (try with_reducible rfl)
  case rest5c =>
  try simp only [List.getElem_toArray, List.getElem_cons_succ, List.getElem_cons_zero, Act.put, List.setIfInBounds_toArray, List.set_cons_zero, List.set_cons_succ]
  refine wpAnyG_take' (i := 6) (v := ?v6_5mk) rfl (by kernel_rfl) (by kernel_rfl) (by kernel_rfl) (by kernel_rfl) (fun _ _ _ h => h) (Or.inl ⟨by rfl, ?hy6_5mk⟩) hS ?rest6_5mk
  case hy6_5mk => intro w hSw; (try dsimp only at hSw); go_simp; (try with_reducible rfl)
  case rest6_5mk =>
  try simp only [List.getElem_toArray, List.getElem_cons_succ, List.getElem_cons_zero, Act.put, List.setIfInBounds_toArray, List.set_cons_zero, List.set_cons_succ]
  refine wpAnyG_take' (i := 7) (v := ?v7_6mk) rfl (by kernel_rfl) (by kernel_rfl) (by kernel_rfl) (by kernel_rfl) (fun _ _ _ h => h) (Or.inl ⟨by rfl, ?hy7_6mk⟩) hS ?rest7_6mk
  case hy7_6mk => intro w hSw; (try dsimp only at hSw); go_simp; (try with_reducible rfl)
  case rest7_6mk =>
  try simp only [List.getElem_toArray, List.getElem_cons_succ, List.getElem_cons_zero, Act.put, List.setIfInBounds_toArray, List.set_cons_zero, List.set_cons_succ]
  refine wpAnyG_one (i := 8) (by kernel_rfl) rfl (fun K hK => ?_)
  go_simp
  refine hK.out _ _ (fun _ => ?hS7mk) ?rest7mk
  case hS7mk => exact ⟨d0, d1⟩
  clear K hK
  try simp only [List.getElem_toArray, List.getElem_cons_succ, List.getElem_cons_zero, Act.put, List.setIfInBounds_toArray, List.set_cons_zero, List.set_cons_succ]
  refine wpAnyG_one (i := 9) (by kernel_rfl) rfl (fun K hK => ?_)
  go_simp
  refine hK.out _ _ (fun hno => by cases hno) ?_
  clear K hK
  try simp only [List.getElem_toArray, List.getElem_cons_succ, List.getElem_cons_zero, Act.put, List.setIfInBounds_toArray, List.set_cons_zero, List.set_cons_succ]
  refine wpAnyG_done (by kernel_rfl) ?_ _
  try simp only [List.getElem_toArray, List.getElem_cons_succ, List.getElem_cons_zero, Act.put, List.setIfInBounds_toArray, List.set_cons_zero, List.set_cons_succ]
  have h3 := H3.out
  clear H3 c0 c1 c2 c3 d0 d1 e0 e1 e2 e3 e4 e5 e6 f0 f1 f2 f3 f4 f5 f6 HC HM hS
  generalize (wa.alloc (.cells #[.int .i64 qc, .int .i64 (1 + qm), .int .i64 0, .string ⟨#[]⟩, .int .i64 0, .int .i64 0, .slice none 0 0] 26)).drew = wb at *
  generalize wa.heap.size = b3 at *
  obtain ⟨c0, c1, c2, c3⟩ := cells4 h3.sw3
  go_wp2_with fail
  refine (HN.out _).mono ?_
  rintro r0 w1 ⟨rfl, rfl⟩
  go_wp2_with fail
  refine (HB.out _).mono ?_
  rintro r0 w1 ⟨rfl, rfl⟩
  clear HN HB
  obtain ⟨r, hr, hr2⟩ : ∃ r : Int, (1 + qn).tmod 3 = r ∧ 0 ≤ r ∧ r ≤ 2 := ⟨(1 + qn).tmod 3, rfl, Int.tmod_nonneg 3 (by omega), by have := Int.tmod_lt_of_pos (1 + qn) (show (0 : Int) < 3 by decide); omega⟩
  have eC : IntKind.i64.wrap (4 + r) = 4 + r := IntWalk.i64_in _ (by omega)
  have HF : Hid (fieldsOf (4 + r) = 2) := Lib.hid (by rcases (show r = 0 ∨ r = 1 ∨ r = 2 by omega) with rfl | rfl | rfl <;> decide)
  obtain ⟨e0, e1, e2, e3, e4, e5, e6⟩ := cells7 h3
  obtain ⟨f0, f1, f2, f3, f4, f5, f6⟩ := frz7 h3
  have h4 := store75 (u2 := .int .i64 (4 + r)) (u3 := .string ⟨#[]⟩) (u4 := .int .i64 (1 + qn)) (u5 := .int .i64 0) (u6 := .slice none 0 0) h3
  obtain ⟨k0, k1, k2, k3, k4, k5, k6⟩ := cells7 h4
  obtain ⟨x0, x1, x2, x3, x4, x5, x6⟩ := cells7 h4.sw2
  obtain ⟨g0, g1, g2, g3, g4, g5, g6⟩ := frz7 h4.sw2
  have h6 := store7 (u0 := .int .i64 qc) (u1 := .int .i64 (1 + qm)) (u2 := .int .i64 (4 + r)) (u3 := .string ⟨#[]⟩) (u4 := .int .i64 (1 + qn)) (u5 := .int .i64 0) (u6 := .slice none 0 0) h4.sw2
  obtain ⟨y0, y1, y2, y3, y4, y5, y6⟩ := cells7 h6
  have H6 := Lib.hid (h6.drop.drop.drop)
  clear h3 h4 h6
  go_wp2_with fail
  exact bodyPost_ret (v := .agg #[.int .i64 qc, .int .i64 (1 + qm), .int .i64 (4 + r), .string ⟨#[]⟩, .int .i64 (1 + qn), .int .i64 0, .slice none 0 0]) (by simp [results, Tryd.results22, go_sem, y0, y1, y2, y3, y4, y5, y6]) rfl ⟨⟨qc, 1 + qm, ⟨(4 + r), sZ, (1 + qn), 0, []⟩⟩, _, rfl, en_okM HQ.out.1 (by have := HQ.out; omega) (ok_2 HF.out (qtyB_1 HQ.out.2.2)), H6.out.rnNil 2 36⟩
theorem made4_any {w0 w : World} {L : List Thing} (c m k n : Int) (h : Sep w0 L w) :
    Calls Tryd.prog 22 #[.agg #[.int .i64 c, .int .i64 m, .int .i64 k, .int .i64 n]] w (MadeE w0 L) := by
  rcases (show k % 4 = 0 ∨ k % 4 = 1 ∨ k % 4 = 2 ∨ k % 4 = 3 by omega) with hk | hk | hk | hk
  · exact mk4_0 c m k n h hk
  · exact mk4_1 c m k n h hk
  · exact mk4_2 c m k n h hk
  · exact mk4_3 c m k n h hk
end Go.Proofs.YtcicclghgbdgnaaDoor
