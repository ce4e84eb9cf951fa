/- Stage 5: entry, image. -/
import Derived.Test.YtafkbodmiblbnaaDoorMMb9
import Derived.Test.YtafkbodmiblbnaaDoorMZ02
import Derived.Test.YtafkbodmiblbnaaDoorMZ06
import Derived.Test.YtafkbodmiblbnaaDoorMZ23
namespace Go.Proofs.YtafkbodmiblbnaaDoor
open Go Go.RowKit
set_option linter.unusedVariables false
set_option linter.unusedSimpArgs false
theorem I64q {n : Int} (h : 0 ≤ n ∧ n ≤ 2147483646) : IntKind.i64.wrap (1 + n) = 1 + n := IntWalk.i64_in _ (by omega)
theorem qtyB_1 {n : Int} (h : 0 ≤ n ∧ n ≤ 2147483646) : qtyB (1 + n) = true := by simp [qtyB]; omega
theorem ok_5 {s : KS} {n : Int} (hs : nameB s.1 = true) (h : qtyB n = true) : okB 1 s 0 n [] = true := by
  unfold okB; rw [show fieldsOf 1 = 5 by decide]; unfold skuB ordB cntB linB; simp [hs, h]
def sN (m : Nat) : KS := ⟨⟨#[115, UInt8.ofNat (97 + m)]⟩, by unfold maxLen; show 2 ≤ _; decide⟩
theorem sN_ok {m : Nat} (h : m ≤ 25) : nameB (sN m).1 = true := by
  have : (List.range 26).all (fun m => nameB (sN m).1) = true := by kernel_rfl
  exact List.all_eq_true.1 this m (List.mem_range.2 (by omega))
theorem en_okM {c m : Int} {p : OpM} (h0 : 0 ≤ c ∧ c < 8) (h1 : 1 ≤ m ∧ m ≤ 2147483647) (hp : p.ok = true) : EnM.ok ⟨c, m, p⟩ = true := by
  unfold EnM.ok EnM.hd
  rw [hp, Bool.and_true]
  exact decide_eq_true ⟨h0.1, h0.2, h1.1, h1.2⟩
/-- What entry answers. -/
def enK (n : Int) : EnM := ⟨(n % 1073741824) % 8, 1 + n % 1073741824, ⟨1, sN ((n % 1073741824) % 26).toNat, 0, 1 + (n % 1073741824) / 2, []⟩⟩
theorem enK_ok (n : Int) : (enK n).ok = true := by
  have h : 0 ≤ n % 1073741824 ∧ n % 1073741824 < 1073741824 := by omega
  unfold enK
  generalize n % 1073741824 = q at *
  exact en_okM (by omega) (by omega) (ok_5 (sN_ok (by omega)) (qtyB_1 (by omega)))
set_option maxRecDepth 100000 in
set_option maxHeartbeats 16000000 in
theorem entry05_any {w0 w : World} {L : List Thing} (n : Int) (h : Sep w0 L w) :
    Calls Tryd.prog 21 #[.int .i64 n] w fun e w' => e = .returned (enV (enK n) (.slice none 0 0)) ∧ Sep w0 L w' := by
  have h1 := h.alloc (.cells #[.int .i64 0, .int .i64 0, .int .i64 0, .string ⟨#[]⟩, .int .i64 0, .int .i64 0, .slice none 0 0] 32)
  obtain ⟨b2, hb2⟩ : ∃ z, z = w.heap.size := ⟨_, rfl⟩
  obtain ⟨w1, hw1⟩ : ∃ z, z = w.alloc (.cells #[.int .i64 0, .int .i64 0, .int .i64 0, .string ⟨#[]⟩, .int .i64 0, .int .i64 0, .slice none 0 0] 32) := ⟨_, rfl⟩
  rw [← hw1, ← hb2] at h1
  have HB := Lib.hid (fun wx => bring_any n 1073741824 wx (by unfold Sm; omega))
  have hq : 0 ≤ n % 1073741824 ∧ n % 1073741824 < 1073741824 := by omega
  obtain ⟨K, hK⟩ : ∃ K, K = enK n := ⟨_, rfl⟩
  have hK2 : K = ⟨(n % 1073741824) % 8, 1 + n % 1073741824, ⟨1, sN ((n % 1073741824) % 26).toNat, 0, 1 + (n % 1073741824) / 2, []⟩⟩ := hK
  rw [← hK]
  generalize n % 1073741824 = q at *
  have H1 := Lib.hid h1
  have HK := Lib.hid hK2
  have q0 : (0 : Int) ≤ q := hq.1
  have q1 : q < 1073741824 := hq.2
  have e1 : q.tmod 8 = q % 8 := Int.tmod_eq_emod_of_nonneg q0
  have e2 : q.tmod 26 = q % 26 := Int.tmod_eq_emod_of_nonneg q0
  have e3 : q.tdiv 2 = q / 2 := Int.tdiv_eq_ediv_of_nonneg q0
  obtain ⟨r, hr, hr2⟩ : ∃ r : Nat, q % 26 = (r : Int) ∧ r ≤ 25 := ⟨(q % 26).toNat, by omega, by omega⟩
  obtain ⟨a8, ha8, ha80, ha81⟩ : ∃ a : Int, q % 8 = a ∧ 0 ≤ a ∧ a < 8 := ⟨_, rfl, by omega, by omega⟩
  obtain ⟨d2, hd2, hd20, hd21⟩ : ∃ d : Int, q / 2 = d ∧ 0 ≤ d ∧ d ≤ 1073741824 := ⟨_, rfl, by omega, by omega⟩
  rw [ha8] at e1
  rw [hr] at e2
  rw [hd2] at e3
  rw [ha8, hr, hd2, Int.toNat_natCast] at HK
  have eC : IntKind.i64.wrap (97 + (r : Int)) = 97 + (r : Int) := IntWalk.i64_in _ (by omega)
  have eD : IntKind.i64.wrap (1 + q) = 1 + q := IntWalk.i64_in _ (by omega)
  have eF : IntKind.i64.wrap (1 + d2) = 1 + d2 := IntWalk.i64_in _ (by omega)
  have eG : IntKind.u8.wrap (97 + (r : Int)) = 97 + (r : Int) := by rw [IntKind.wrap_u8]; omega
  have eE : (97 + (r : Int)) % 256 = 97 + (r : Int) := by omega
  obtain ⟨ch, hch⟩ : ∃ ch : UInt8, ch = UInt8.ofNat (97 + r) := ⟨_, rfl⟩
  have hz : ch.toNat = 97 + r := by rw [hch, UInt8.toNat_ofNat']; omega
  have hA := h1.alloc (.cells #[.int .u8 ((ch.toNat : Nat) : Int)] 5)
  have hcv := conv_bytes (P := Tryd.prog) Tryd.underlying24 Tryd.underlying5 Tryd.underlying9 (l := [ch]) ((hA.asRow 1 rfl (by unfold maxLen; omega)).sl)
  rw [hz, show ((97 + r : Nat) : Int) = 97 + (r : Int) by omega] at hA hcv
  have hsn : sN r = (Subtype.mk ((⟨#[115]⟩ : ByteArray) ++ (⟨#[ch]⟩ : ByteArray)) (by unfold maxLen; show 2 ≤ _; decide) : KS) := by
    unfold sN; rw [hch]; exact Subtype.ext rfl
  rw [hsn] at HK
  have hth := hA.sw2.thereAt 0 7 (by show 7 ≤ 7; omega)
  have h4 := hA.sw2.storeW #[.int .i64 a8, .int .i64 (1 + q), .int .i64 1, .string ((⟨#[115]⟩ : ByteArray) ++ (⟨#[ch]⟩ : ByteArray)), .int .i64 0, .int .i64 (1 + d2), .slice none 0 0] rfl
  have HTH := Lib.hid hth
  have HV := Lib.hid (h4.loadV 32 Tryd.underlying32 rfl (by kernel_rfl))
  have H4 := Lib.hid h4.drop.drop
  clear h h1 hK hK2 hq hr hr2 ha8 hd2 hch hz hA hsn hth h4 H1
  go_enter Tryd.func21, Tryd.ntmps21
  (try dsimp only); repeat' (first | go_values | go_skip | go_guarded | go_step | go_upon | go_back)
  (try rw [← hw1])
  (try rw [← hb2])
  clear hw1 hb2
  refine (HB.out _).mono ?_
  rintro r0 w2 ⟨rfl, rfl⟩
  clear HB
  (try dsimp only); repeat' (first | (with_reducible show wpList _ _ _ (Oper.mk _ (Op.store 32 _ _) _ _ _ _ :: _) _ _; refine stopP ?_) | go_values | go_skip | go_guarded | go_step | go_upon | go_back)
  unfold StopP
  refine wpList_store_mid rfl 32 (.tmp 2) (.tmp 20) rfl b2 0 #[.int .i64 a8, .int .i64 (1 + q), .int .i64 1, .string ((⟨#[115]⟩ : ByteArray) ++ (⟨#[ch]⟩ : ByteArray)), .int .i64 0, .int .i64 (1 + d2), .slice none 0 0] rfl rfl HTH.out (by kernel_rfl) (by first | kernel_rfl | assumption | rfl) ?_
  (try dsimp only); repeat' (first | go_values | go_skip | go_guarded | go_step | go_upon | go_back)
  exact bodyPost_ret (results_cell rfl rfl HV.out) rfl ⟨by rw [HK.out]; rfl, H4.out⟩
structure SdM where
  k : Int
  f : Int
  t : Int
  n0 : Int
  n1 : Int
  n2 : Int
  n3 : Int
  es : List Int
  ev : Value
  ck : List UInt8
  cv : Value
def sdC (s : SdM) : Array Value := #[.int .i64 s.k, .int .i64 s.f, .int .i64 s.t, .int .i64 s.n0, .int .i64 s.n1, .int .i64 s.n2, .int .i64 s.n3, s.ev, s.cv]
def iv (l : List Int) : List Value := l.map (Value.int .i64)
def SdS (w : World) (s : SdM) : Prop := Sl w s.ev (iv s.es) ∧ Sl w s.cv (bv s.ck)
theorem SdS.below {w w' : World} {s : SdM} (h : SdS w s) (hb : Below w.heap.size w w') : SdS w' s := ⟨h.1.below hb, h.2.below hb⟩
theorem iv_at (l : List Int) (i : Nat) (h : i < l.length) : (iv l)[i]? = some (.int .i64 l[i]) := by unfold iv; rw [List.getElem?_map, List.getElem?_eq_getElem h]; rfl
set_option maxRecDepth 100000 in
set_option maxHeartbeats 16000000 in
theorem image05_any {w0 w : World} {L : List Thing} (s : SdM) (h : Sep w0 L w) (hs : ∀ wx, Sep w0 L wx → SdS wx s) :
    Calls Tryd.prog 22 #[.agg (sdC s)] w fun e w' => ∃ cv ev ps ib ic, e = .returned (.agg (imgC ib cv ev ic)) ∧ (0 ≤ ib ∧ ib < 1099511627776) ∧ ps.length ≤ 32 ∧ rowOk ps = true ∧ (ib ≤ ic ∧ ic ≤ ib + ps.length) ∧ Sep w0 (By cv (s.ck.take 300) :: EnT ev ps :: L) w' := by
  obtain ⟨k, f, t, n0, n1, n2, n3, es, ev, ck, cv⟩ := s
  obtain ⟨ea, ec, hev⟩ : ∃ a c, ev = .slice a es.length c := by
    obtain ⟨a, c, e⟩ := (hs w h).1.len
    exact ⟨a, c, by rw [show ev = _ from e]; unfold iv; rw [List.length_map]⟩
  obtain ⟨ka, kc, hcv⟩ := bv_form (hs w h).2
  have hcv2 : cv = .slice ka ck.length kc := hcv
  clear hcv
  subst hev hcv2
  have HS1 : Hid (∀ wx, Sep w0 L wx → Sl wx (.slice ea es.length ec) (iv es)) := Lib.hid fun wx hx => (hs wx hx).1
  have hs2 : ∀ wx, Sep w0 L wx → Sl wx (.slice ka ck.length kc) (bv ck) := fun wx hx => (hs wx hx).2
  obtain ⟨m3, hm1, hm2, hm3, hm4⟩ := min_len ck.length 300
  have hmin : (if (300 : Int) < (ck.length : Int) then (300 : Int) else (ck.length : Int)) = (m3 : Int) := hm3
  have htk : ck.take 300 = ck.take m3 := by
    rcases hm4 with hm4 | hm4
    · rw [List.take_of_length_le (by omega), List.take_of_length_le (by omega)]
    · rw [hm4]
  have hkc : m3 ≤ kc := by
    have h5 := sl_cap (hs2 w h) rfl
    omega
  have HS2 : Hid (∀ wx, Sep w0 L wx → Sl wx (.slice ka m3 kc) (bv (ck.take m3))) := Lib.hid fun wx hx => sl_pre (hs2 wx hx) hm1
  show Calls Tryd.prog 22 #[.agg #[.int .i64 k, .int .i64 f, .int .i64 t, .int .i64 n0, .int .i64 n1, .int .i64 n2, .int .i64 n3, .slice ea es.length ec, .slice ka ck.length kc]] w fun e w' => ∃ cv ev ps ib ic, e = .returned (.agg (imgC ib cv ev ic)) ∧ (0 ≤ ib ∧ ib < 1099511627776) ∧ ps.length ≤ 32 ∧ rowOk ps = true ∧ (ib ≤ ic ∧ ic ≤ ib + ps.length) ∧ Sep w0 (By cv (ck.take 300) :: EnT ev ps :: L) w'
  rw [htk]
  obtain ⟨ctx, hctx⟩ : ∃ z, z = ck.take m3 := ⟨_, rfl⟩
  rw [← hctx] at HS2 ⊢
  have hcl : ctx.length ≤ 300 := by rw [hctx, List.length_take]; omega
  obtain ⟨en, hen⟩ : ∃ z, z = es.length := ⟨_, rfl⟩
  obtain ⟨kn, hkn⟩ : ∃ z, z = ck.length := ⟨_, rfl⟩
  rw [← hen] at HS1 ⊢
  rw [← hkn] at hmin ⊢
  have h1 := ((h.alloc (.cells #[.int .i64 k, .int .i64 f, .int .i64 t, .int .i64 n0, .int .i64 n1, .int .i64 n2, .int .i64 n3, .slice ea en ec, .slice ka kn kc] 26)).alloc (.cells #[.int .i64 0, .slice none 0 0, .slice none 0 0, .int .i64 0] 37)).alloc (.cells #[.int .i64 0, .slice none 0 0, .slice none 0 0, .int .i64 0] 37)
  rw [show ((w.alloc (.cells #[.int .i64 k, .int .i64 f, .int .i64 t, .int .i64 n0, .int .i64 n1, .int .i64 n2, .int .i64 n3, .slice ea en ec, .slice ka kn kc] 26)).alloc (.cells #[.int .i64 0, .slice none 0 0, .slice none 0 0, .int .i64 0] 37)).heap.size = w.heap.size + 1 + 1 by simp, show (w.alloc (.cells #[.int .i64 k, .int .i64 f, .int .i64 t, .int .i64 n0, .int .i64 n1, .int .i64 n2, .int .i64 n3, .slice ea en ec, .slice ka kn kc] 26)).heap.size = w.heap.size + 1 by simp] at h1
  obtain ⟨b1, hb1⟩ : ∃ z, z = w.heap.size := ⟨_, rfl⟩
  obtain ⟨b2, hb2⟩ : ∃ z, z = w.heap.size + 1 := ⟨_, rfl⟩
  obtain ⟨b3, hb3⟩ : ∃ z, z = w.heap.size + 1 + 1 := ⟨_, rfl⟩
  obtain ⟨w1, hw1⟩ : ∃ z, z = ((w.alloc (.cells #[.int .i64 k, .int .i64 f, .int .i64 t, .int .i64 n0, .int .i64 n1, .int .i64 n2, .int .i64 n3, .slice ea en ec, .slice ka kn kc] 26)).alloc (.cells #[.int .i64 0, .slice none 0 0, .slice none 0 0, .int .i64 0] 37)).alloc (.cells #[.int .i64 0, .slice none 0 0, .slice none 0 0, .int .i64 0] 37) := ⟨_, rfl⟩
  rw [← hw1, ← hb3, ← hb2, ← hb1] at h1
  have HB := Lib.hid (fun wx => bring_any n2 1099511627776 wx (by unfold Sm; omega))
  have hib : 0 ≤ n2 % 1099511627776 ∧ n2 % 1099511627776 < 1099511627776 := by omega
  obtain ⟨ib, hibe⟩ : ∃ z, z = n2 % 1099511627776 := ⟨_, rfl⟩
  rw [← hibe] at HB hib
  have HIB := Lib.hid hib
  have HCL := Lib.hid hcl
  have HEN := Lib.hid hen
  have c5 := h1.sw3.cell (o := 5) (x := .int .i64 n2) rfl
  have c8 := h1.sw3.cell (o := 8) (x := .slice ka kn kc) rfl
  have x0 := h1.cell (o := 0) (x := .int .i64 0) rfl
  have f0 := h1.frozen 0
  have h2 := h1.setCell 0 (.int .i64 ib)
  obtain ⟨w2, hw2⟩ : ∃ z, z = w1.setCell ⟨b3, 0, none⟩ (.int .i64 ib) := ⟨_, rfl⟩
  rw [← hw2] at h2
  have y8 := h2.sw3.cell (o := 8) (x := .slice ka kn kc) rfl
  have HCP := Lib.hid (copy_sep (.slice ka m3 kc) ctx w2 h2 (HS2.out w2 h2.drop.drop.drop) (by omega))
  have m0 : (0 : Int) ≤ (m3 : Int) := by omega
  have hkc' : (m3 : Int) ≤ (kc : Int) := by omega
  have dk : decide (m3 ≤ kc) = true := decide_eq_true hkc
  clear h h1 h2 hs hs2 hm1 hm2 hm3 hm4 htk hctx hkn hib hibe hcl hen
  go_enter Tryd.func22, Tryd.ntmps22
  (try dsimp only); repeat' (first | go_values | go_skip | go_guarded | go_step | go_upon | go_back)
  rw [← hw1]
  rw [← hb3, ← hb2, ← hb1]
  clear hw1 hb3 hb2 hb1
  refine (HB.out _).mono ?_
  rintro r0 w3 ⟨rfl, rfl⟩
  clear HB
  (try dsimp only); repeat' (first | go_values | go_skip | go_guarded | go_step | go_upon | go_back)
  (try rw [← hw2])
  clear hw2 c5 c8 x0 f0
  refine HCP.out.mono ?_
  rintro r0 w4 ⟨cu, rfl, h4⟩
  obtain ⟨cua, cuc, rfl⟩ := h4.sl.len
  obtain ⟨cn, hcn⟩ : ∃ z, z = (bv ctx).length := ⟨_, rfl⟩
  rw [← hcn] at h4 ⊢
  have x1 := h4.sw2.cell (o := 1) (x := .slice none 0 0) rfl
  have f1 := h4.sw2.frozen 1
  have h5 := h4.sw2.setCell 1 (.slice cua cn cuc)
  have H5 := Lib.hid h5
  clear h4 h5 HCP hcn y8 hkc' dk
  (try dsimp only); repeat' (first | go_values | go_skip | go_guarded | go_step | go_upon | go_back)
  clear x1 f1
  go_loopw [4] (fun iv wr => ∃ (i : Nat) (pv : Value) (ps : List (EnM × Value)), i ≤ en ∧ i ≤ 32 ∧ ps.length = i ∧ iv = .int .i64 i ∧ rowOk ps = true ∧ Sep w0 (Cl b3 #[.int .i64 ib, .slice cua cn cuc, pv, .int .i64 0] 37 :: EnT pv ps :: Cl b2 #[.int .i64 0, .slice none 0 0, .slice none 0 0, .int .i64 0] 37 :: Cl b1 #[.int .i64 k, .int .i64 f, .int .i64 t, .int .i64 n0, .int .i64 n1, .int .i64 n2, .int .i64 n3, .slice ea en ec, .slice ka kn kc] 26 :: By (.slice cua cn cuc) ctx :: L) wr) (fun iv _ => 32 - (intOf iv).toNat)
  case atStart => exact ⟨0, .slice none 0 0, [], by omega, by omega, rfl, rfl, rfl, (H5.out.enNil).pickL (M := [_, _, _, _, _]) [1, 0, 3, 4, 2] rfl⟩
  case round =>
    obtain ⟨i, pv, ps, hi, hi2, hpl, rfl, hok, hs⟩ := hrel
    obtain ⟨pa, pc, rfl, -, -⟩ := hs.sw2.enForm
    obtain ⟨pn, hpn⟩ : ∃ z, z = ps.length := ⟨_, rfl⟩
    have HPN := Lib.hid hpn.symm
    rw [← hpn] at hs
    have i0 : (0 : Int) ≤ (i : Int) := by omega
    have e7 := hs.sw4.cell (o := 7) (x := .slice ea en ec) rfl
    clear H5
    by_cases hgo : i < en ∧ i < 32
    · obtain ⟨hg1, hg2⟩ := hgo
      have d1 : decide (i < en) = true := decide_eq_true hg1
      have d1' : decide ((i : Int) < (en : Int)) = true := decide_eq_true (by omega)
      have d2 : decide ((i : Int) < 32) = true := decide_eq_true (by omega)
      have g1 : (i : Int) < (en : Int) := by omega
      obtain ⟨xb, xo, rfl, -, hxc⟩ := sl_at (HS1.out wr hs.drop.drop.drop.drop.drop) (by omega)
      have hie : i < es.length := by rw [← HEN.out]; exact hg1
      obtain ⟨z, hz⟩ : ∃ z, z = es[i] := ⟨_, rfl⟩
      have HZ : Hid ((iv es)[i]? = some (.int .i64 z)) := Lib.hid (by rw [hz]; exact iv_at es i hie)
      have x0 := hs.drew.cell (o := 2) (x := .slice pa pn pc) rfl
      have x1 := hs.drew.sw4.cell (o := 7) (x := .slice (some ⟨xb, xo, none⟩) en ec) rfl
      have x2 : wr.drew.cell? ⟨xb, xo + i, none⟩ = some (.int .i64 z) := hxc i _ HZ.out
      have HEN5 := Lib.hid (entry05_any z hs.drew)
      have HOK := Lib.hid hok
      have HII := Lib.hid (And.intro hg2 (And.intro hpl hg1))
      clear hs hxc hz hie hpn hok
      (try dsimp only); repeat' (first | go_values | go_skip | go_guarded | go_step | go_upon | go_back)
      refine wp_region_G (fun w' => w'.cell? ⟨b3, 2, none⟩ = some (.slice pa pn pc) ∧ w'.cell? ⟨b1, 7, none⟩ = some (.slice (some ⟨xb, xo, none⟩) en ec) ∧ w'.cell? ⟨xb, xo + i, none⟩ = some (.int .i64 z)) [11] (by kernel_rfl) ⟨x0, x1, x2⟩ (fun hS => ?_)
      try dsimp only at hS
      refine wpAnyG_take' (i := 0) (v := ?v0_1im) rfl (by kernel_rfl) (by kernel_rfl) (by kernel_rfl) (by kernel_rfl) (fun _ _ _ h => h) (Or.inl ⟨by rfl, ?hy0_1im⟩) hS ?rest0_1im
      case hy0_1im => intro w hSw; (try dsimp only at hSw); go_simp; (try with_reducible rfl)
      case rest0_1im =>
      try simp only [List.getElem_toArray, List.getElem_cons_succ, List.getElem_cons_zero, Act.put, List.setIfInBounds_toArray, List.set_cons_zero, List.set_cons_succ]
      refine wpAnyG_take' (i := 1) (v := ?v1_2im) rfl (by kernel_rfl) (by kernel_rfl) (by kernel_rfl) (by kernel_rfl) (fun _ _ _ h => h) (Or.inl ⟨by rfl, ?hy1_2im⟩) hS ?rest1_2im
      case hy1_2im => intro w hSw; (try dsimp only at hSw); go_simp; (try with_reducible rfl)
      case rest1_2im =>
      try simp only [List.getElem_toArray, List.getElem_cons_succ, List.getElem_cons_zero, Act.put, List.setIfInBounds_toArray, List.set_cons_zero, List.set_cons_succ]
      refine wpAnyG_take' (i := 2) (v := ?v2_3im) rfl (by kernel_rfl) (by kernel_rfl) (by kernel_rfl) (by kernel_rfl) (fun _ _ _ h => h) (Or.inl ⟨by rfl, ?hy2_3im⟩) hS ?rest2_3im
      case hy2_3im => intro w hSw; (try dsimp only at hSw); go_simp; (try with_reducible rfl)
      case rest2_3im =>
      try simp only [List.getElem_toArray, List.getElem_cons_succ, List.getElem_cons_zero, Act.put, List.setIfInBounds_toArray, List.set_cons_zero, List.set_cons_succ]
      refine wpAnyG_take' (i := 3) (v := ?v3_4im) rfl (by kernel_rfl) (by kernel_rfl) (by kernel_rfl) (by kernel_rfl) (fun _ _ _ h => h) (Or.inl ⟨by rfl, ?hy3_4im⟩) hS ?rest3_4im
      case hy3_4im => intro w hSw; (try dsimp only at hSw); go_simp; (try with_reducible rfl)
      case rest3_4im =>
      try simp only [List.getElem_toArray, List.getElem_cons_succ, List.getElem_cons_zero, Act.put, List.setIfInBounds_toArray, List.set_cons_zero, List.set_cons_succ]
      refine wpAnyG_take' (i := 4) (v := ?v4_5im) rfl (by kernel_rfl) (by kernel_rfl) (by kernel_rfl) (by kernel_rfl) (fun _ _ _ h => h) (Or.inl ⟨by rfl, ?hy4_5im⟩) hS ?rest4_5im
      case hy4_5im => intro w hSw; (try dsimp only at hSw); go_simp; (try with_reducible rfl)
      case rest4_5im =>
      try simp only [List.getElem_toArray, List.getElem_cons_succ, List.getElem_cons_zero, Act.put, List.setIfInBounds_toArray, List.set_cons_zero, List.set_cons_succ]
      refine wpAnyG_take' (i := 5) (v := ?v5_6im) rfl (by kernel_rfl) (by kernel_rfl) (by kernel_rfl) (by kernel_rfl) (fun _ _ _ h => h) (Or.inl ⟨by rfl, ?hy5_6im⟩) hS ?rest5_6im
      case hy5_6im => intro w hSw; (try dsimp only at hSw); go_simp; (try with_reducible rfl)
      case rest5_6im =>
      try simp only [List.getElem_toArray, List.getElem_cons_succ, List.getElem_cons_zero, Act.put, List.setIfInBounds_toArray, List.set_cons_zero, List.set_cons_succ]
      refine wpAnyG_take' (i := 6) (v := ?v6_7im) rfl (by kernel_rfl) (by kernel_rfl) (by kernel_rfl) (by kernel_rfl) (fun _ _ _ h => h) (Or.inl ⟨by rfl, ?hy6_7im⟩) hS ?rest6_7im
      case hy6_7im => intro w hSw; (try dsimp only at hSw); go_simp; (try with_reducible rfl)
      case rest6_7im =>
      try simp only [List.getElem_toArray, List.getElem_cons_succ, List.getElem_cons_zero, Act.put, List.setIfInBounds_toArray, List.set_cons_zero, List.set_cons_succ]
      refine wpAnyG_one (i := 7) (by kernel_rfl) rfl (fun K hK => ?_)
      go_simp
      refine HEN5.out.mono ?_
      rintro r0 w6 ⟨rfl, h6⟩
      have x3 : w6.cell? ⟨b3, 2, none⟩ = some (.slice pa pn pc) := h6.cell rfl
      have x4 : w6.cell? ⟨b1, 7, none⟩ = some (.slice (some ⟨xb, xo, none⟩) en ec) := h6.sw4.cell rfl
      obtain ⟨b7, o7, e7, -, h7x⟩ := sl_at (HS1.out w6 (h6.drop.drop.drop.drop.drop)) (by omega)
      simp only [Option.some.injEq, Addr.mk.injEq, and_true] at e7
      obtain ⟨rfl, rfl⟩ := e7
      have x5 : w6.cell? ⟨xb, xo + i, none⟩ = some (.int .i64 z) := h7x i _ HZ.out
      clear h7x
      have h7 := h6.alloc (.cells (enC (enK z) (.slice none 0 0)) 32)
      have y3 := h7.sw2.cell (o := 2) (x := .slice pa pn pc) rfl
      have y4 := h7.sw5.cell (o := 7) (x := .slice (some ⟨xb, xo, none⟩) en ec) rfl
      obtain ⟨b8, o8, e8, -, h8x⟩ := sl_at (HS1.out _ (h7.drop.drop.drop.drop.drop.drop)) (by omega)
      simp only [Option.some.injEq, Addr.mk.injEq, and_true] at e8
      obtain ⟨rfl, rfl⟩ := e8
      have y5 := h8x i _ HZ.out
      clear h8x
      have h8 := (h7.rnNil 2 117).pickL (M := [_, _, _, _, _, _, _]) [1, 3, 0, 2, 4, 5, 6] rfl
      obtain ⟨a9, c9, w9, hr, h9⟩ := append_en (x := enK z) (u := .slice none 0 0) 35 h8 rfl (by omega)
      rw [HPN.out] at hr h9
      have z3 := h9.sw2.cell (o := 2) (x := .slice pa pn pc) rfl
      have z4 := h9.sw4.cell (o := 7) (x := .slice (some ⟨xb, xo, none⟩) en ec) rfl
      obtain ⟨b9, o9, e9, -, h9x⟩ := sl_at (HS1.out _ (h9.drop.drop.drop.drop.drop)) (by omega)
      simp only [Option.some.injEq, Addr.mk.injEq, and_true] at e9
      obtain ⟨rfl, rfl⟩ := e9
      have z5 := h9x i _ HZ.out
      clear h9x
      have fz := h9.sw2.frozen 2
      have HAP := Lib.hid hr
      have H9 := Lib.hid h9
      clear hr h6 h7 h8 h9 HEN5
      refine hK.out _ _ (fun _ => ?hS8im) ?rest8im
      case hS8im => exact ⟨x3, x4, x5⟩
      clear K hK
      try simp only [List.getElem_toArray, List.getElem_cons_succ, List.getElem_cons_zero, Act.put, List.setIfInBounds_toArray, List.set_cons_zero, List.set_cons_succ]
      refine wpAnyG_one (i := 8) (by kernel_rfl) rfl (fun K hK => ?_)
      unfold enV
      go_simp
      refine hK.out _ _ (fun _ => ?hS9im) ?rest9im
      case hS9im => exact ⟨y3, y4, y5⟩
      clear K hK
      try simp only [List.getElem_toArray, List.getElem_cons_succ, List.getElem_cons_zero, Act.put, List.setIfInBounds_toArray, List.set_cons_zero, List.set_cons_succ]
      refine wpAnyG_one (i := 9) (by kernel_rfl) rfl (fun K hK => ?_)
      refine step_append_run (by rfl) (.tmp 31) (.tmp 38) 35 35 (by rfl) _ _ (by rfl) (by rfl) HAP.out ?_
      refine hK.out _ _ (fun _ => ?hS10im) ?rest10im
      case hS10im => exact ⟨z3, z4, z5⟩
      clear K hK
      try simp only [List.getElem_toArray, List.getElem_cons_succ, List.getElem_cons_zero, Act.put, List.setIfInBounds_toArray, List.set_cons_zero, List.set_cons_succ]
      refine wpAnyG_take' (i := 10) (v := ?v10_11im) rfl (by kernel_rfl) (by kernel_rfl) (by kernel_rfl) (by kernel_rfl) (fun _ _ _ h => h) (Or.inl ⟨by rfl, ?hy10_11im⟩) ⟨z3, z4, z5⟩ ?rest10_11im
      case hy10_11im => intro w hSw; (try dsimp only at hSw); go_simp; (try with_reducible rfl)
      case rest10_11im =>
      try simp only [List.getElem_toArray, List.getElem_cons_succ, List.getElem_cons_zero, Act.put, List.setIfInBounds_toArray, List.set_cons_zero, List.set_cons_succ]
      refine wpAnyG_one (i := 11) (by kernel_rfl) rfl (fun K hK => ?_)
      go_simp
      refine hK.out _ _ (fun hno => by cases hno) ?_
      clear K hK
      try simp only [List.getElem_toArray, List.getElem_cons_succ, List.getElem_cons_zero, Act.put, List.setIfInBounds_toArray, List.set_cons_zero, List.set_cons_succ]
      refine wpAnyG_done (by kernel_rfl) ?_ _
      try simp only [List.getElem_toArray, List.getElem_cons_succ, List.getElem_cons_zero, Act.put, List.setIfInBounds_toArray, List.set_cons_zero, List.set_cons_succ]
      have h10 := H9.out.sw2.setCell 2 (.slice a9 (pn + 1) c9)
      have HF : Hid (Sep w0 (Cl b3 #[.int .i64 ib, .slice cua cn cuc, .slice a9 (pn + 1) c9, .int .i64 0] 37 :: EnT (.slice a9 (pn + 1) c9) (ps ++ [(enK z, .slice none 0 0)]) :: Cl b2 #[.int .i64 0, .slice none 0 0, .slice none 0 0, .int .i64 0] 37 :: Cl b1 #[.int .i64 k, .int .i64 f, .int .i64 t, .int .i64 n0, .int .i64 n1, .int .i64 n2, .int .i64 n3, .slice (some ⟨xb, xo, none⟩) en ec, .slice ka kn kc] 26 :: By (.slice cua cn cuc) ctx :: L) _) := Lib.hid h10
      clear H9 h10 x0 x1 x2 x3 x4 x5 y3 y4 y5 z3 z4 z5 hS e7
      (try dsimp only); repeat' (first | go_values | go_skip | go_guarded | go_step | go_upon | go_back)
      go_roundw
      case rel => exact ⟨i + 1, .slice a9 (pn + 1) c9, ps ++ [(enK z, .slice none 0 0)], by have := HII.out.2.2; omega, by have := HII.out.1; omega, by rw [List.length_append, HII.out.2.1]; rfl, by go_num, by (unfold rowOk; rw [List.all_append]; have := HOK.out; unfold rowOk at this; rw [this]; simp [enK_ok]), HF.out⟩
      case measure => have := HII.out; simp [intOf]; omega
    · by_cases hg1 : i < en
      · have d1 : decide (i < en) = true := decide_eq_true hg1
        have d1' : decide ((i : Int) < (en : Int)) = true := decide_eq_true (by omega)
        have g1 : (i : Int) < (en : Int) := by omega
        have d2 : decide ((i : Int) < 32) = false := decide_eq_false (by omega)
        have g2 : ¬ (i : Int) < 32 := by omega
        have x0 := hs.drew.cell (o := 0) (x := .int .i64 ib) rfl
        have x1 := hs.drew.sw4.cell (o := 6) (x := .int .i64 n3) rfl
        have x2 := hs.drew.cell (o := 2) (x := .slice pa pn pc) rfl
        have x3 := hs.cell (o := 3) (x := .int .i64 0) rfl
        have fz := hs.frozen 3
        have z0 := hs.cell (o := 0) (x := .int .i64 ib) rfl
        have z1 := hs.cell (o := 1) (x := .slice cua cn cuc) rfl
        have z2 := hs.cell (o := 2) (x := .slice pa pn pc) rfl
        have HB2 := Lib.hid (fun wx => bring_any n3 ((pn : Int) + 1) wx (by unfold Sm; have := HPN.out; omega))
        have hr : 0 ≤ n3 % ((pn : Int) + 1) ∧ n3 % ((pn : Int) + 1) ≤ pn := ⟨Int.emod_nonneg _ (by omega), by have := Int.emod_lt_of_pos n3 (show (0 : Int) < (pn : Int) + 1 by omega); omega⟩
        obtain ⟨rr, hrr⟩ : ∃ z, z = n3 % ((pn : Int) + 1) := ⟨_, rfl⟩
        rw [← hrr] at HB2 hr
        have p32 : pn ≤ 32 := by have := HPN.out; omega
        have e1 : IntKind.i64.wrap ((pn : Int) + 1) = (pn : Int) + 1 := IntWalk.i64_in _ (by omega)
        have e2 : IntKind.i64.wrap (ib + rr) = ib + rr := IntWalk.i64_in _ (by have := HIB.out; omega)
        have p0 : (0 : Int) ≤ (pn : Int) := by omega
        have h3 := (hs.setCell 3 (.int .i64 (ib + rr))).drew
        have y0 := h3.cell (o := 0) (x := .int .i64 ib) rfl
        have y1 := h3.cell (o := 1) (x := .slice cua cn cuc) rfl
        have y2 := h3.cell (o := 2) (x := .slice pa pn pc) rfl
        have y3 := h3.cell (o := 3) (x := .int .i64 (ib + rr)) rfl
        have HT2 := Lib.hid (h3.sw3.thereAt 0 4 (by show 4 ≤ 4; omega))
        have h4 := h3.sw3.storeW #[.int .i64 ib, .slice cua cn cuc, .slice pa pn pc, .int .i64 (ib + rr)] rfl
        have HV := Lib.hid (h4.loadV 37 Tryd.underlying37 rfl (by kernel_rfl))
        have HF := Lib.hid (h4.pickL (M := [_, _, _, _, _]) [4, 2] rfl)
        have HOK := Lib.hid hok
        have HRR := Lib.hid (And.intro hr p32)
        clear hs hrr hr p32 h3 h4 hok hpl hpn hi hi2 hgo hg1
        (try dsimp only); repeat' (first | go_values | go_skip | go_guarded | go_step | go_upon | go_back)
        refine wp_region_G (fun w' => w'.cell? ⟨b3, 0, none⟩ = some (.int .i64 ib) ∧ w'.cell? ⟨b1, 6, none⟩ = some (.int .i64 n3) ∧ w'.cell? ⟨b3, 2, none⟩ = some (.slice pa pn pc)) [12] (by kernel_rfl) ⟨x0, x1, x2⟩ (fun hS => ?_)
        try dsimp only at hS
        refine wpAnyG_take' (i := 0) (v := ?v0_1ioa) rfl (by kernel_rfl) (by kernel_rfl) (by kernel_rfl) (by kernel_rfl) (fun _ _ _ h => h) (Or.inl ⟨by rfl, ?hy0_1ioa⟩) hS ?rest0_1ioa
        case hy0_1ioa => intro w hSw; (try dsimp only at hSw); go_simp; (try with_reducible rfl)
        case rest0_1ioa =>
        try simp only [List.getElem_toArray, List.getElem_cons_succ, List.getElem_cons_zero, Act.put, List.setIfInBounds_toArray, List.set_cons_zero, List.set_cons_succ]
        refine wpAnyG_take' (i := 1) (v := ?v1_2ioa) rfl (by kernel_rfl) (by kernel_rfl) (by kernel_rfl) (by kernel_rfl) (fun _ _ _ h => h) (Or.inl ⟨by rfl, ?hy1_2ioa⟩) hS ?rest1_2ioa
        case hy1_2ioa => intro w hSw; (try dsimp only at hSw); go_simp; (try with_reducible rfl)
        case rest1_2ioa =>
        try simp only [List.getElem_toArray, List.getElem_cons_succ, List.getElem_cons_zero, Act.put, List.setIfInBounds_toArray, List.set_cons_zero, List.set_cons_succ]
        refine wpAnyG_take' (i := 2) (v := ?v2_3ioa) rfl (by kernel_rfl) (by kernel_rfl) (by kernel_rfl) (by kernel_rfl) (fun _ _ _ h => h) (Or.inl ⟨by rfl, ?hy2_3ioa⟩) hS ?rest2_3ioa
        case hy2_3ioa => intro w hSw; (try dsimp only at hSw); go_simp; (try with_reducible rfl)
        case rest2_3ioa =>
        try simp only [List.getElem_toArray, List.getElem_cons_succ, List.getElem_cons_zero, Act.put, List.setIfInBounds_toArray, List.set_cons_zero, List.set_cons_succ]
        refine wpAnyG_take' (i := 3) (v := ?v3_4ioa) rfl (by kernel_rfl) (by kernel_rfl) (by kernel_rfl) (by kernel_rfl) (fun _ _ _ h => h) (Or.inl ⟨by rfl, ?hy3_4ioa⟩) hS ?rest3_4ioa
        case hy3_4ioa => intro w hSw; (try dsimp only at hSw); go_simp; (try with_reducible rfl)
        case rest3_4ioa =>
        try simp only [List.getElem_toArray, List.getElem_cons_succ, List.getElem_cons_zero, Act.put, List.setIfInBounds_toArray, List.set_cons_zero, List.set_cons_succ]
        refine wpAnyG_take' (i := 4) (v := ?v4_5ioa) rfl (by kernel_rfl) (by kernel_rfl) (by kernel_rfl) (by kernel_rfl) (fun _ _ _ h => h) (Or.inl ⟨by rfl, ?hy4_5ioa⟩) hS ?rest4_5ioa
        case hy4_5ioa => intro w hSw; (try dsimp only at hSw); go_simp; (try with_reducible rfl)
        case rest4_5ioa =>
        try simp only [List.getElem_toArray, List.getElem_cons_succ, List.getElem_cons_zero, Act.put, List.setIfInBounds_toArray, List.set_cons_zero, List.set_cons_succ]
        refine wpAnyG_take' (i := 5) (v := ?v5_6ioa) rfl (by kernel_rfl) (by kernel_rfl) (by kernel_rfl) (by kernel_rfl) (fun _ _ _ h => h) (Or.inl ⟨by rfl, ?hy5_6ioa⟩) hS ?rest5_6ioa
        case hy5_6ioa => intro w hSw; (try dsimp only at hSw); go_simp; (try with_reducible rfl)
        case rest5_6ioa =>
        try simp only [List.getElem_toArray, List.getElem_cons_succ, List.getElem_cons_zero, Act.put, List.setIfInBounds_toArray, List.set_cons_zero, List.set_cons_succ]
        refine wpAnyG_take' (i := 6) (v := ?v6_7ioa) rfl (by kernel_rfl) (by kernel_rfl) (by kernel_rfl) (by kernel_rfl) (fun _ _ _ h => h) (Or.inl ⟨by rfl, ?hy6_7ioa⟩) hS ?rest6_7ioa
        case hy6_7ioa => intro w hSw; (try dsimp only at hSw); go_simp; (try with_reducible rfl)
        case rest6_7ioa =>
        try simp only [List.getElem_toArray, List.getElem_cons_succ, List.getElem_cons_zero, Act.put, List.setIfInBounds_toArray, List.set_cons_zero, List.set_cons_succ]
        refine wpAnyG_take' (i := 7) (v := ?v7_8ioa) rfl (by kernel_rfl) (by kernel_rfl) (by kernel_rfl) (by kernel_rfl) (fun _ _ _ h => h) (Or.inl ⟨by rfl, ?hy7_8ioa⟩) hS ?rest7_8ioa
        case hy7_8ioa => intro w hSw; (try dsimp only at hSw); go_simp; (try with_reducible rfl)
        case rest7_8ioa =>
        try simp only [List.getElem_toArray, List.getElem_cons_succ, List.getElem_cons_zero, Act.put, List.setIfInBounds_toArray, List.set_cons_zero, List.set_cons_succ]
        refine wpAnyG_take' (i := 8) (v := ?v8_9ioa) rfl (by kernel_rfl) (by kernel_rfl) (by kernel_rfl) (by kernel_rfl) (fun _ _ _ h => h) (Or.inl ⟨by rfl, ?hy8_9ioa⟩) hS ?rest8_9ioa
        case hy8_9ioa => intro w hSw; (try dsimp only at hSw); go_simp; (try with_reducible rfl)
        case rest8_9ioa =>
        try simp only [List.getElem_toArray, List.getElem_cons_succ, List.getElem_cons_zero, Act.put, List.setIfInBounds_toArray, List.set_cons_zero, List.set_cons_succ]
        refine wpAnyG_one (i := 9) (by kernel_rfl) rfl (fun K hK => ?_)
        go_simp
        refine (HB2.out _).mono ?_
        rintro r0 w6 ⟨rfl, rfl⟩
        refine hK.out _ _ (fun _ => ?hS10ioa) ?rest10ioa
        case hS10ioa => exact ⟨x0, x1, x2⟩
        clear K hK
        try simp only [List.getElem_toArray, List.getElem_cons_succ, List.getElem_cons_zero, Act.put, List.setIfInBounds_toArray, List.set_cons_zero, List.set_cons_succ]
        refine wpAnyG_take' (i := 10) (v := ?v10_11ioa) rfl (by kernel_rfl) (by kernel_rfl) (by kernel_rfl) (by kernel_rfl) (fun _ _ _ h => h) (Or.inl ⟨by rfl, ?hy10_11ioa⟩) ⟨x0, x1, x2⟩ ?rest10_11ioa
        case hy10_11ioa => intro w hSw; (try dsimp only at hSw); go_simp; (try with_reducible rfl)
        case rest10_11ioa =>
        try simp only [List.getElem_toArray, List.getElem_cons_succ, List.getElem_cons_zero, Act.put, List.setIfInBounds_toArray, List.set_cons_zero, List.set_cons_succ]
        refine wpAnyG_take' (i := 11) (v := ?v11_12ioa) rfl (by kernel_rfl) (by kernel_rfl) (by kernel_rfl) (by kernel_rfl) (fun _ _ _ h => h) (Or.inl ⟨by rfl, ?hy11_12ioa⟩) ⟨x0, x1, x2⟩ ?rest11_12ioa
        case hy11_12ioa => intro w hSw; (try dsimp only at hSw); go_simp; (try with_reducible rfl)
        case rest11_12ioa =>
        try simp only [List.getElem_toArray, List.getElem_cons_succ, List.getElem_cons_zero, Act.put, List.setIfInBounds_toArray, List.set_cons_zero, List.set_cons_succ]
        refine wpAnyG_one (i := 12) (by kernel_rfl) rfl (fun K hK => ?_)
        go_simp
        refine hK.out _ _ (fun hno => by cases hno) ?_
        clear K hK
        try simp only [List.getElem_toArray, List.getElem_cons_succ, List.getElem_cons_zero, Act.put, List.setIfInBounds_toArray, List.set_cons_zero, List.set_cons_succ]
        refine wpAnyG_done (by kernel_rfl) ?_ _
        try simp only [List.getElem_toArray, List.getElem_cons_succ, List.getElem_cons_zero, Act.put, List.setIfInBounds_toArray, List.set_cons_zero, List.set_cons_succ]
        clear e7
        (try dsimp only); repeat' (first | (with_reducible show wpList _ _ _ (Oper.mk _ (Op.store 37 _ _) _ _ _ _ :: _) _ _; refine stopP ?_) | go_values | go_skip | go_guarded | go_step | go_upon | go_back)
        unfold StopP
        refine wpList_store_mid rfl 37 (.tmp 2) (.tmp 53) rfl b2 0 #[.int .i64 ib, .slice cua cn cuc, .slice pa pn pc, .int .i64 (ib + rr)] rfl rfl HT2.out (by kernel_rfl) (by first | kernel_rfl | assumption | rfl) ?_
        (try dsimp only); repeat' (first | go_values | go_skip | go_guarded | go_step | go_upon | go_back)
        exact bodyPost_ret (results_cell rfl rfl HV.out) rfl ⟨_, _, ps, ib, ib + rr, rfl, HIB.out, by have := HPN.out; have := HRR.out; omega, HOK.out, by have := HPN.out; have := HRR.out; omega, HF.out⟩
      · have d1 : decide (i < en) = false := decide_eq_false hg1
        have d1' : decide ((i : Int) < (en : Int)) = false := decide_eq_false (by omega)
        have g1 : ¬ (i : Int) < (en : Int) := by omega
        have x0 := hs.drew.cell (o := 0) (x := .int .i64 ib) rfl
        have x1 := hs.drew.sw4.cell (o := 6) (x := .int .i64 n3) rfl
        have x2 := hs.drew.cell (o := 2) (x := .slice pa pn pc) rfl
        have x3 := hs.cell (o := 3) (x := .int .i64 0) rfl
        have fz := hs.frozen 3
        have z0 := hs.cell (o := 0) (x := .int .i64 ib) rfl
        have z1 := hs.cell (o := 1) (x := .slice cua cn cuc) rfl
        have z2 := hs.cell (o := 2) (x := .slice pa pn pc) rfl
        have HB2 := Lib.hid (fun wx => bring_any n3 ((pn : Int) + 1) wx (by unfold Sm; have := HPN.out; omega))
        have hr : 0 ≤ n3 % ((pn : Int) + 1) ∧ n3 % ((pn : Int) + 1) ≤ pn := ⟨Int.emod_nonneg _ (by omega), by have := Int.emod_lt_of_pos n3 (show (0 : Int) < (pn : Int) + 1 by omega); omega⟩
        obtain ⟨rr, hrr⟩ : ∃ z, z = n3 % ((pn : Int) + 1) := ⟨_, rfl⟩
        rw [← hrr] at HB2 hr
        have p32 : pn ≤ 32 := by have := HPN.out; omega
        have e1 : IntKind.i64.wrap ((pn : Int) + 1) = (pn : Int) + 1 := IntWalk.i64_in _ (by omega)
        have e2 : IntKind.i64.wrap (ib + rr) = ib + rr := IntWalk.i64_in _ (by have := HIB.out; omega)
        have p0 : (0 : Int) ≤ (pn : Int) := by omega
        have h3 := (hs.setCell 3 (.int .i64 (ib + rr))).drew
        have y0 := h3.cell (o := 0) (x := .int .i64 ib) rfl
        have y1 := h3.cell (o := 1) (x := .slice cua cn cuc) rfl
        have y2 := h3.cell (o := 2) (x := .slice pa pn pc) rfl
        have y3 := h3.cell (o := 3) (x := .int .i64 (ib + rr)) rfl
        have HT2 := Lib.hid (h3.sw3.thereAt 0 4 (by show 4 ≤ 4; omega))
        have h4 := h3.sw3.storeW #[.int .i64 ib, .slice cua cn cuc, .slice pa pn pc, .int .i64 (ib + rr)] rfl
        have HV := Lib.hid (h4.loadV 37 Tryd.underlying37 rfl (by kernel_rfl))
        have HF := Lib.hid (h4.pickL (M := [_, _, _, _, _]) [4, 2] rfl)
        have HOK := Lib.hid hok
        have HRR := Lib.hid (And.intro hr p32)
        clear hs hrr hr p32 h3 h4 hok hpl hpn hi hi2 hgo hg1
        (try dsimp only); repeat' (first | go_values | go_skip | go_guarded | go_step | go_upon | go_back)
        refine wp_region_G (fun w' => w'.cell? ⟨b3, 0, none⟩ = some (.int .i64 ib) ∧ w'.cell? ⟨b1, 6, none⟩ = some (.int .i64 n3) ∧ w'.cell? ⟨b3, 2, none⟩ = some (.slice pa pn pc)) [12] (by kernel_rfl) ⟨x0, x1, x2⟩ (fun hS => ?_)
        try dsimp only at hS
        refine wpAnyG_take' (i := 0) (v := ?v0_1iob) rfl (by kernel_rfl) (by kernel_rfl) (by kernel_rfl) (by kernel_rfl) (fun _ _ _ h => h) (Or.inl ⟨by rfl, ?hy0_1iob⟩) hS ?rest0_1iob
        case hy0_1iob => intro w hSw; (try dsimp only at hSw); go_simp; (try with_reducible rfl)
        case rest0_1iob =>
        try simp only [List.getElem_toArray, List.getElem_cons_succ, List.getElem_cons_zero, Act.put, List.setIfInBounds_toArray, List.set_cons_zero, List.set_cons_succ]
        refine wpAnyG_take' (i := 1) (v := ?v1_2iob) rfl (by kernel_rfl) (by kernel_rfl) (by kernel_rfl) (by kernel_rfl) (fun _ _ _ h => h) (Or.inl ⟨by rfl, ?hy1_2iob⟩) hS ?rest1_2iob
        case hy1_2iob => intro w hSw; (try dsimp only at hSw); go_simp; (try with_reducible rfl)
        case rest1_2iob =>
        try simp only [List.getElem_toArray, List.getElem_cons_succ, List.getElem_cons_zero, Act.put, List.setIfInBounds_toArray, List.set_cons_zero, List.set_cons_succ]
        refine wpAnyG_take' (i := 2) (v := ?v2_3iob) rfl (by kernel_rfl) (by kernel_rfl) (by kernel_rfl) (by kernel_rfl) (fun _ _ _ h => h) (Or.inl ⟨by rfl, ?hy2_3iob⟩) hS ?rest2_3iob
        case hy2_3iob => intro w hSw; (try dsimp only at hSw); go_simp; (try with_reducible rfl)
        case rest2_3iob =>
        try simp only [List.getElem_toArray, List.getElem_cons_succ, List.getElem_cons_zero, Act.put, List.setIfInBounds_toArray, List.set_cons_zero, List.set_cons_succ]
        refine wpAnyG_take' (i := 3) (v := ?v3_4iob) rfl (by kernel_rfl) (by kernel_rfl) (by kernel_rfl) (by kernel_rfl) (fun _ _ _ h => h) (Or.inl ⟨by rfl, ?hy3_4iob⟩) hS ?rest3_4iob
        case hy3_4iob => intro w hSw; (try dsimp only at hSw); go_simp; (try with_reducible rfl)
        case rest3_4iob =>
        try simp only [List.getElem_toArray, List.getElem_cons_succ, List.getElem_cons_zero, Act.put, List.setIfInBounds_toArray, List.set_cons_zero, List.set_cons_succ]
        refine wpAnyG_take' (i := 4) (v := ?v4_5iob) rfl (by kernel_rfl) (by kernel_rfl) (by kernel_rfl) (by kernel_rfl) (fun _ _ _ h => h) (Or.inl ⟨by rfl, ?hy4_5iob⟩) hS ?rest4_5iob
        case hy4_5iob => intro w hSw; (try dsimp only at hSw); go_simp; (try with_reducible rfl)
        case rest4_5iob =>
        try simp only [List.getElem_toArray, List.getElem_cons_succ, List.getElem_cons_zero, Act.put, List.setIfInBounds_toArray, List.set_cons_zero, List.set_cons_succ]
        refine wpAnyG_take' (i := 5) (v := ?v5_6iob) rfl (by kernel_rfl) (by kernel_rfl) (by kernel_rfl) (by kernel_rfl) (fun _ _ _ h => h) (Or.inl ⟨by rfl, ?hy5_6iob⟩) hS ?rest5_6iob
        case hy5_6iob => intro w hSw; (try dsimp only at hSw); go_simp; (try with_reducible rfl)
        case rest5_6iob =>
        try simp only [List.getElem_toArray, List.getElem_cons_succ, List.getElem_cons_zero, Act.put, List.setIfInBounds_toArray, List.set_cons_zero, List.set_cons_succ]
        refine wpAnyG_take' (i := 6) (v := ?v6_7iob) rfl (by kernel_rfl) (by kernel_rfl) (by kernel_rfl) (by kernel_rfl) (fun _ _ _ h => h) (Or.inl ⟨by rfl, ?hy6_7iob⟩) hS ?rest6_7iob
        case hy6_7iob => intro w hSw; (try dsimp only at hSw); go_simp; (try with_reducible rfl)
        case rest6_7iob =>
        try simp only [List.getElem_toArray, List.getElem_cons_succ, List.getElem_cons_zero, Act.put, List.setIfInBounds_toArray, List.set_cons_zero, List.set_cons_succ]
        refine wpAnyG_take' (i := 7) (v := ?v7_8iob) rfl (by kernel_rfl) (by kernel_rfl) (by kernel_rfl) (by kernel_rfl) (fun _ _ _ h => h) (Or.inl ⟨by rfl, ?hy7_8iob⟩) hS ?rest7_8iob
        case hy7_8iob => intro w hSw; (try dsimp only at hSw); go_simp; (try with_reducible rfl)
        case rest7_8iob =>
        try simp only [List.getElem_toArray, List.getElem_cons_succ, List.getElem_cons_zero, Act.put, List.setIfInBounds_toArray, List.set_cons_zero, List.set_cons_succ]
        refine wpAnyG_take' (i := 8) (v := ?v8_9iob) rfl (by kernel_rfl) (by kernel_rfl) (by kernel_rfl) (by kernel_rfl) (fun _ _ _ h => h) (Or.inl ⟨by rfl, ?hy8_9iob⟩) hS ?rest8_9iob
        case hy8_9iob => intro w hSw; (try dsimp only at hSw); go_simp; (try with_reducible rfl)
        case rest8_9iob =>
        try simp only [List.getElem_toArray, List.getElem_cons_succ, List.getElem_cons_zero, Act.put, List.setIfInBounds_toArray, List.set_cons_zero, List.set_cons_succ]
        refine wpAnyG_one (i := 9) (by kernel_rfl) rfl (fun K hK => ?_)
        go_simp
        refine (HB2.out _).mono ?_
        rintro r0 w6 ⟨rfl, rfl⟩
        refine hK.out _ _ (fun _ => ?hS10iob) ?rest10iob
        case hS10iob => exact ⟨x0, x1, x2⟩
        clear K hK
        try simp only [List.getElem_toArray, List.getElem_cons_succ, List.getElem_cons_zero, Act.put, List.setIfInBounds_toArray, List.set_cons_zero, List.set_cons_succ]
        refine wpAnyG_take' (i := 10) (v := ?v10_11iob) rfl (by kernel_rfl) (by kernel_rfl) (by kernel_rfl) (by kernel_rfl) (fun _ _ _ h => h) (Or.inl ⟨by rfl, ?hy10_11iob⟩) ⟨x0, x1, x2⟩ ?rest10_11iob
        case hy10_11iob => intro w hSw; (try dsimp only at hSw); go_simp; (try with_reducible rfl)
        case rest10_11iob =>
        try simp only [List.getElem_toArray, List.getElem_cons_succ, List.getElem_cons_zero, Act.put, List.setIfInBounds_toArray, List.set_cons_zero, List.set_cons_succ]
        refine wpAnyG_take' (i := 11) (v := ?v11_12iob) rfl (by kernel_rfl) (by kernel_rfl) (by kernel_rfl) (by kernel_rfl) (fun _ _ _ h => h) (Or.inl ⟨by rfl, ?hy11_12iob⟩) ⟨x0, x1, x2⟩ ?rest11_12iob
        case hy11_12iob => intro w hSw; (try dsimp only at hSw); go_simp; (try with_reducible rfl)
        case rest11_12iob =>
        try simp only [List.getElem_toArray, List.getElem_cons_succ, List.getElem_cons_zero, Act.put, List.setIfInBounds_toArray, List.set_cons_zero, List.set_cons_succ]
        refine wpAnyG_one (i := 12) (by kernel_rfl) rfl (fun K hK => ?_)
        go_simp
        refine hK.out _ _ (fun hno => by cases hno) ?_
        clear K hK
        try simp only [List.getElem_toArray, List.getElem_cons_succ, List.getElem_cons_zero, Act.put, List.setIfInBounds_toArray, List.set_cons_zero, List.set_cons_succ]
        refine wpAnyG_done (by kernel_rfl) ?_ _
        try simp only [List.getElem_toArray, List.getElem_cons_succ, List.getElem_cons_zero, Act.put, List.setIfInBounds_toArray, List.set_cons_zero, List.set_cons_succ]
        clear e7
        (try dsimp only); repeat' (first | (with_reducible show wpList _ _ _ (Oper.mk _ (Op.store 37 _ _) _ _ _ _ :: _) _ _; refine stopP ?_) | go_values | go_skip | go_guarded | go_step | go_upon | go_back)
        unfold StopP
        refine wpList_store_mid rfl 37 (.tmp 2) (.tmp 53) rfl b2 0 #[.int .i64 ib, .slice cua cn cuc, .slice pa pn pc, .int .i64 (ib + rr)] rfl rfl HT2.out (by kernel_rfl) (by first | kernel_rfl | assumption | rfl) ?_
        (try dsimp only); repeat' (first | go_values | go_skip | go_guarded | go_step | go_upon | go_back)
        exact bodyPost_ret (results_cell rfl rfl HV.out) rfl ⟨_, _, ps, ib, ib + rr, rfl, HIB.out, by have := HPN.out; have := HRR.out; omega, HOK.out, by have := HPN.out; have := HRR.out; omega, HF.out⟩
end Go.Proofs.YtafkbodmiblbnaaDoor
