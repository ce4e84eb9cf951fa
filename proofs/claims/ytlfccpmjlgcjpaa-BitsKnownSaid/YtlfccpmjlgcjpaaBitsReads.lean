/- The walk of BitsReads. -/
import Derived.Test.YtlfccpmjlgcjpaaRefNum
import Derived.Test.YtlfccpmjlgcjpaaWorks
import Derived.Test.YtlfccpmjlgcjpaaBitsWrites
import Derived.Test.YtlfccpmjlgcjpaaBring
import Derived.Test.YtlfccpmjlgcjpaaInts
import Derived.Deep.RegionHeld3
namespace Go.Proofs.Ytlfccpmjlgcjpaa
open Go.RowKit
set_option linter.unusedVariables false
/-- Bytes do not lie where a pair of a slice and a number does. -/
theorem sls_pair {w w' : World} {g : Nat} {t : TypeId} {v u : Value} {e : Int} {l r : List UInt8} (h : SlS w v (bv l)) (hg : w.heap[g]? = some (.cells #[u, .int .i64 e] t (0, 0))) (hu : SlS w u (bv r)) (hU : Upd g w w') : SlS w' v (bv l) := by
  rcases h with h | ⟨b, off, cap, rfl, h1, h2, h3, hc⟩
  · exact .inl h
  · by_cases hbg : b = g
    · subst hbg
      cases l with
      | nil => exact .inr ⟨b, off, cap, rfl, h1, h2, Nat.lt_of_lt_of_le h3 hU.size, fun j u hj => by simp [bv] at hj⟩
      | cons c l =>
        exfalso
        have h0 := hc 0 (.int .u8 c.toNat) (by simp [bv])
        unfold World.cell? at h0
        rw [Nat.add_zero] at h0
        rw [hg] at h0
        simp only [] at h0
        rcases off with _ | _ | off
        · simp at h0
          rcases hu with ⟨rfl, _⟩ | ⟨_, _, _, rfl, _⟩ <;> simp at h0
        · simp at h0
        · simp at h0
    · refine .inr ⟨b, off, cap, rfl, h1, h2, Nat.lt_of_lt_of_le h3 hU.size, fun j u hj => ?_⟩
      rw [World.cell?_of_block (w := w) (hU.block b h3 hbg)]
      exact hc j u hj
theorem Rr.upd {w w' : World} {g d : Nat} {l r : List UInt8} {e x : Int} (h : Rr w d l e) (hR : Rd w g r x) (hU : Upd g w w') (hne : d ≠ g) : Rr w' d l e := by
  obtain ⟨v, h1, h2, h3⟩ := h
  obtain ⟨u, k1, k2, k3⟩ := hR
  exact ⟨v, by rw [hU.block d (Array.getElem?_eq_some_iff.1 h1).1 hne]; exact h1, sls_pair h2 k1 k2 hU, h3⟩
theorem Rd.upd {w w' : World} {g d : Nat} {l r : List UInt8} {e x : Int} (h : Rd w d l e) (hR : Rr w g r x) (hU : Upd g w w') (hne : d ≠ g) : Rd w' d l e := by
  obtain ⟨v, h1, h2, h3⟩ := h
  obtain ⟨u, k1, k2, k3⟩ := hR
  exact ⟨v, by rw [hU.block d (Array.getElem?_eq_some_iff.1 h1).1 hne]; exact h1, sls_pair h2 k1 k2 hU, h3⟩
theorem rdVe_len (rest : List UInt8) (e : Int) : (rdVe rest e).2.1.length ≤ rest.length := by unfold rdVe; split; exact rdV_len _; exact Nat.le_refl _
theorem rdTe_len (rest : List UInt8) (e : Int) : (rdTe rest e).2.1.length ≤ rest.length := by
  have := rdV_len rest
  unfold rdTe; split
  · unfold rdT; split
    · exact this
    · split
      · simp
      · simp; omega
  · exact Nat.le_refl _
theorem rdTe_len1 (rest : List UInt8) (e : Int) : (rdTe rest e).1.length ≤ rest.length := by
  have := rdV_len rest
  unfold rdTe; split
  · unfold rdT; split
    · simp
    · split
      · simp
      · simp; omega
  · simp
theorem rdNe_len (s : Int) (rest : List UInt8) (e : Int) : (rdNe s rest e).2.1.length ≤ rest.length := by
  unfold rdNe; split
  · split
    · unfold rdN; split <;> simp
    · simp
  · exact Nat.le_refl _
/-- Both readers, and the bytes that came in. -/
structure RdSt (w wr : World) (g d : Nat) (v1 : Value) (m r1 : List UInt8) (e1 : Int) (r2 : List UInt8) (e2 : Int) : Prop where
  rd : Rd wr g r1 e1
  rr : Rr wr d r2 e2
  inn : SlS wr v1 (bv m)
  below : Below w.heap.size w wr
  l1 : r1.length ≤ 1000
  l2 : r2.length ≤ 1000
theorem RdSt.stepG {w wr w' : World} {g d : Nat} {v1 : Value} {m r1 r2 r1' : List UInt8} {e1 e2 e1' : Int} (h : RdSt w wr g d v1 m r1 e1 r2 e2) (hd : d ≠ g) (hg : w.heap.size ≤ g)
    (hr : Rd w' g r1' e1') (hu : Upd g wr w') (hl : r1'.length ≤ r1.length) : RdSt w w' g d v1 m r1' e1' r2 e2 := by
  obtain ⟨u, k1, k2, k3⟩ := h.rd
  exact ⟨hr, h.rr.upd h.rd hu hd, sls_pair h.inn k1 k2 hu, h.below.trans (hu.below hg h.below.size), by have := h.l1; omega, h.l2⟩
theorem RdSt.stepD {w wr w' : World} {g d : Nat} {v1 : Value} {m r1 r2 r2' : List UInt8} {e1 e2 e2' : Int} (h : RdSt w wr g d v1 m r1 e1 r2 e2) (hd : g ≠ d) (hg : w.heap.size ≤ d)
    (hr : Rr w' d r2' e2') (hu : Upd d wr w') (hl : r2'.length ≤ r2.length) : RdSt w w' g d v1 m r1 e1 r2' e2' := by
  obtain ⟨u, k1, k2, k3⟩ := h.rr
  exact ⟨h.rd.upd h.rr hu hd, hr, sls_pair h.inn k1 k2 hu, h.below.trans (hu.below hg h.below.size), h.l1, by have := h.l2; omega⟩
theorem Rd.setNew {w : World} {g G o : Nat} {l : List UInt8} {e : Int} (h : Rd w g l e) (u : Value) (hG : g < G) : Rd (w.setCell ⟨G, o, none⟩ u) g l e := by
  obtain ⟨v, h1, h2, h3⟩ := h
  exact ⟨v, by rw [Below.heap_setCell _ _ _ _ (by simp; omega)]; exact h1, h2.upd ((Upd.refl G w).setCell o u) (fun e => by have := h3 G e; omega), h3⟩
theorem Rr.setNew {w : World} {g G o : Nat} {l : List UInt8} {e : Int} (h : Rr w g l e) (u : Value) (hG : g < G) : Rr (w.setCell ⟨G, o, none⟩ u) g l e := by
  obtain ⟨v, h1, h2, h3⟩ := h
  exact ⟨v, by rw [Below.heap_setCell _ _ _ _ (by simp; omega)]; exact h1, h2.upd ((Upd.refl G w).setCell o u) (fun e => by have := h3 G e; omega), h3⟩
theorem RdSt.setNew {w wr : World} {g d G o : Nat} {v1 : Value} {m r1 r2 : List UInt8} {e1 e2 : Int} (h : RdSt w wr g d v1 m r1 e1 r2 e2) (u : Value) (hg : g < G) (hd : d < G) (hw : w.heap.size ≤ G) (hv : ∀ b, v1.ownBlock = some b → b < g) :
    RdSt w (wr.setCell ⟨G, o, none⟩ u) g d v1 m r1 e1 r2 e2 :=
  ⟨h.rd.setNew u hg, h.rr.setNew u hd, h.inn.upd ((Upd.refl G wr).setCell o u) (fun e => by have := hv G e; omega), h.below.setCell hw _, h.l1, h.l2⟩
set_option maxRecDepth 100000 in
set_option maxHeartbeats 4000000 in
theorem reads_walk (a : Option Addr) (c : Nat) (m : List UInt8) (a2 : Option Addr) (c2 : Nat) (l : List Int) (w : World) (h : Sl w (.slice a m.length c) (bv m)) (hlc : m.length ≤ c) (hl : m.length ≤ 1000) (h2 : Sl w (.slice a2 l.length c2) (iv .i64 l)) (hcl : l.length ≤ 60) :
    Calls Try.prog 37 #[.slice a m.length c, .slice a2 l.length c2] w fun e w' => e = .returned (.bool true) ∧ Below w.heap.size w w' := by
  have H := Lib.hid h
  have H2 := Lib.hid h2
  clear h h2
  go_enter Try.func37, Try.ntmps37
  go_wp2_with fail
  refine (copyBytes_any _ m _ H.out (by omega)).mono ?_
  rintro r0 w1 ⟨⟨v1, rfl, ho1⟩, hb1⟩
  have Ho1 := Lib.hid ho1
  clear ho1
  go_wp2_with fail
  refine (read_any _ m _ Ho1.out.sl (by omega)).mono ?_
  rintro r0 w2 ⟨⟨g, rfl, hg, hr⟩, hb2⟩
  have hb12 := below_step hb1 hb2
  have Hr := Lib.hid hr
  have Hin := Lib.hid (Ho1.out.sls.below hb2)
  clear hr
  go_wp2_with fail
  refine (rrread_any _ m _ (H.out.below hb12) (by omega)).mono ?_
  rintro r0 w3 ⟨⟨d, rfl, hd, hrr⟩, hb3⟩
  have hgd : g < d := by have := Hr.out.lt; omega
  have hgw : w.heap.size ≤ g := by have := hb1.size; omega
  have hdw : w.heap.size ≤ d := by omega
  have HV1 : Hid (∀ b, v1.ownBlock = some b → b < g) := Lib.hid fun b e => by have := (Ho1.out.lt _ e).2; omega
  have HS : Hid (RdSt w w3 g d v1 m m 0 m 0) := Lib.hid ⟨Hr.out.keep hb3, hrr, Hin.out.below hb3, below_step hb12 hb3, hl, hl⟩
  clear hrr Hr Hin hb3 hb12 hb2 hb1 hd hg Ho1
  go_wp2_with fail
  go_loopw [8] (fun i wr => ∃ (k : Nat) (rest : List UInt8) (e : Int), k ≤ l.length ∧ i = .int .i64 k ∧ RdSt w wr g d v1 m rest e rest e) (fun i _ => 60 - (intOf i).toNat)
  case atStart => exact ⟨0, m, 0, by omega, rfl, HS.out⟩
  case round =>
    obtain ⟨k, rest, e, hk, rfl, hs⟩ := hrel
    have HS3 := HS
    clear HS HS3
    have HS := Lib.hid hs
    clear hs
    have hgd' : g ≠ d := by omega
    by_cases hkl : k < l.length
    · have hk60 : k < 60 := by omega
      obtain ⟨bb, off, rfl, hll, _⟩ := H2.out.at (by omega)
      have hcj := H2.out.cellAt (by omega) (iv_get .i64 l k hkl) HS.out.below
      clear hll
      generalize l[k] = x at *
      go_wp2_with fail
      refine (bring_any x 8 _ (by unfold Sm; omega)).mono ?_
      rintro r0 w4 ⟨rfl, rfl⟩
      obtain hx | hx | hx | hx | hx | hx | hx | hx : x % 8 = 0 ∨ x % 8 = 1 ∨ x % 8 = 2 ∨ x % 8 = 3 ∨ x % 8 = 4 ∨ x % 8 = 5 ∨ x % 8 = 6 ∨ x % 8 = 7 := by omega
      · rw [hx]
        have h29 : Hid (∀ wx : World, Rd wx g rest e → Calls Try.prog 29 #[.pointer (some ⟨g, 0, none⟩), .int .i64 8] wx fun r w' => r = .returned (.int .u64 (rdNe 8 rest e).1) ∧ Rd w' g (rdNe 8 rest e).2.1 (rdNe 8 rest e).2.2 ∧ Upd g wx w') := Lib.hid fun wx h => rnum_any g 8 rest e wx h
        have h49 : Hid (∀ wx : World, Rr wx d rest e → Calls Try.prog 49 #[.pointer (some ⟨d, 0, none⟩), .int .i64 8] wx fun r w' => r = .returned (.int .u64 (rdNe 8 rest e).1) ∧ Rr w' d (rdNe 8 rest e).2.1 (rdNe 8 rest e).2.2 ∧ Upd d wx w') := Lib.hid fun wx h => rrnum_any d 8 rest e wx h
        clear hcj
        go_wp2_with fail
        go_region_held3 (fun w' => True) (trivial) (first | (go_at_call 29; refine Calls.mono (h29.out _ (by exact HS.out.rd)) ?_; rintro r0 w4 ⟨rfl, hr4, hu4⟩; have HS4 : Hid (RdSt w w4 g d v1 m (rdNe 8 rest e).2.1 (rdNe 8 rest e).2.2 rest e) := Lib.hid (HS.out.stepG (Ne.symm hgd') hgw hr4 (((Upd.refl g wr).drew).trans hu4) (rdNe_len 8 rest e)); clear hr4 hu4) | (go_at_call 49; refine Calls.mono (h49.out _ (by exact HS4.out.rr)) ?_; rintro r0 w5 ⟨rfl, hr5, hu5⟩; have HS5 : Hid (RdSt w w5 g d v1 m (rdNe 8 rest e).2.1 (rdNe 8 rest e).2.2 (rdNe 8 rest e).2.1 (rdNe 8 rest e).2.2) := Lib.hid (HS4.out.stepD hgd' hdw hr5 hu5 (rdNe_len 8 rest e)); clear hr5 hu5))
        clear h29 h49 HS HS4
        obtain ⟨r', hr'⟩ : ∃ r', r' = (rdNe 8 rest e).2.1 := ⟨_, rfl⟩
        obtain ⟨e', he'⟩ : ∃ e', e' = (rdNe 8 rest e).2.2 := ⟨_, rfl⟩
        rw [← hr', ← he'] at HS5
        clear hr' he'
        go_wp2_with (first | (go_at_call 33; refine (left_any _ _ _ _ HS5.out.rd).mono ?_; rintro r0 wy ⟨rfl, rfl⟩) | (go_at_call 50; refine (rrleft_any _ _ _ _ HS5.out.rr).mono ?_; rintro r0 wy ⟨rfl, rfl⟩) | (go_at_call 34; refine (err_any _ _ _ _ HS5.out.rd).mono ?_; rintro r0 wy ⟨rfl, rfl⟩) | (go_at_call 51; refine (rrerr_any _ _ _ _ HS5.out.rr).mono ?_; rintro r0 wy ⟨rfl, rfl⟩) | (go_at_call 35; refine (end_any _ _ _ _ HS5.out.rd).mono ?_; rintro r0 wy ⟨rfl, rfl⟩) | (go_at_call 52; refine (rrend_any _ _ _ _ HS5.out.rr).mono ?_; rintro r0 wy ⟨rfl, rfl⟩))
        go_roundw
        case rel => exact ⟨k + 1, r', e', by omega, by go_num, HS5.out⟩
        case measure => simp [intOf]; omega
      · rw [hx]
        have h29 : Hid (∀ wx : World, Rd wx g rest e → Calls Try.prog 29 #[.pointer (some ⟨g, 0, none⟩), .int .i64 16] wx fun r w' => r = .returned (.int .u64 (rdNe 16 rest e).1) ∧ Rd w' g (rdNe 16 rest e).2.1 (rdNe 16 rest e).2.2 ∧ Upd g wx w') := Lib.hid fun wx h => rnum_any g 16 rest e wx h
        have h49 : Hid (∀ wx : World, Rr wx d rest e → Calls Try.prog 49 #[.pointer (some ⟨d, 0, none⟩), .int .i64 16] wx fun r w' => r = .returned (.int .u64 (rdNe 16 rest e).1) ∧ Rr w' d (rdNe 16 rest e).2.1 (rdNe 16 rest e).2.2 ∧ Upd d wx w') := Lib.hid fun wx h => rrnum_any d 16 rest e wx h
        clear hcj
        go_wp2_with fail
        go_region_held3 (fun w' => True) (trivial) (first | (go_at_call 29; refine Calls.mono (h29.out _ (by exact HS.out.rd)) ?_; rintro r0 w4 ⟨rfl, hr4, hu4⟩; have HS4 : Hid (RdSt w w4 g d v1 m (rdNe 16 rest e).2.1 (rdNe 16 rest e).2.2 rest e) := Lib.hid (HS.out.stepG (Ne.symm hgd') hgw hr4 (((Upd.refl g wr).drew).trans hu4) (rdNe_len 16 rest e)); clear hr4 hu4) | (go_at_call 49; refine Calls.mono (h49.out _ (by exact HS4.out.rr)) ?_; rintro r0 w5 ⟨rfl, hr5, hu5⟩; have HS5 : Hid (RdSt w w5 g d v1 m (rdNe 16 rest e).2.1 (rdNe 16 rest e).2.2 (rdNe 16 rest e).2.1 (rdNe 16 rest e).2.2) := Lib.hid (HS4.out.stepD hgd' hdw hr5 hu5 (rdNe_len 16 rest e)); clear hr5 hu5))
        clear h29 h49 HS HS4
        obtain ⟨r', hr'⟩ : ∃ r', r' = (rdNe 16 rest e).2.1 := ⟨_, rfl⟩
        obtain ⟨e', he'⟩ : ∃ e', e' = (rdNe 16 rest e).2.2 := ⟨_, rfl⟩
        rw [← hr', ← he'] at HS5
        clear hr' he'
        go_wp2_with (first | (go_at_call 33; refine (left_any _ _ _ _ HS5.out.rd).mono ?_; rintro r0 wy ⟨rfl, rfl⟩) | (go_at_call 50; refine (rrleft_any _ _ _ _ HS5.out.rr).mono ?_; rintro r0 wy ⟨rfl, rfl⟩) | (go_at_call 34; refine (err_any _ _ _ _ HS5.out.rd).mono ?_; rintro r0 wy ⟨rfl, rfl⟩) | (go_at_call 51; refine (rrerr_any _ _ _ _ HS5.out.rr).mono ?_; rintro r0 wy ⟨rfl, rfl⟩) | (go_at_call 35; refine (end_any _ _ _ _ HS5.out.rd).mono ?_; rintro r0 wy ⟨rfl, rfl⟩) | (go_at_call 52; refine (rrend_any _ _ _ _ HS5.out.rr).mono ?_; rintro r0 wy ⟨rfl, rfl⟩))
        go_roundw
        case rel => exact ⟨k + 1, r', e', by omega, by go_num, HS5.out⟩
        case measure => simp [intOf]; omega
      · rw [hx]
        have h29 : Hid (∀ wx : World, Rd wx g rest e → Calls Try.prog 29 #[.pointer (some ⟨g, 0, none⟩), .int .i64 32] wx fun r w' => r = .returned (.int .u64 (rdNe 32 rest e).1) ∧ Rd w' g (rdNe 32 rest e).2.1 (rdNe 32 rest e).2.2 ∧ Upd g wx w') := Lib.hid fun wx h => rnum_any g 32 rest e wx h
        have h49 : Hid (∀ wx : World, Rr wx d rest e → Calls Try.prog 49 #[.pointer (some ⟨d, 0, none⟩), .int .i64 32] wx fun r w' => r = .returned (.int .u64 (rdNe 32 rest e).1) ∧ Rr w' d (rdNe 32 rest e).2.1 (rdNe 32 rest e).2.2 ∧ Upd d wx w') := Lib.hid fun wx h => rrnum_any d 32 rest e wx h
        clear hcj
        go_wp2_with fail
        go_region_held3 (fun w' => True) (trivial) (first | (go_at_call 29; refine Calls.mono (h29.out _ (by exact HS.out.rd)) ?_; rintro r0 w4 ⟨rfl, hr4, hu4⟩; have HS4 : Hid (RdSt w w4 g d v1 m (rdNe 32 rest e).2.1 (rdNe 32 rest e).2.2 rest e) := Lib.hid (HS.out.stepG (Ne.symm hgd') hgw hr4 (((Upd.refl g wr).drew).trans hu4) (rdNe_len 32 rest e)); clear hr4 hu4) | (go_at_call 49; refine Calls.mono (h49.out _ (by exact HS4.out.rr)) ?_; rintro r0 w5 ⟨rfl, hr5, hu5⟩; have HS5 : Hid (RdSt w w5 g d v1 m (rdNe 32 rest e).2.1 (rdNe 32 rest e).2.2 (rdNe 32 rest e).2.1 (rdNe 32 rest e).2.2) := Lib.hid (HS4.out.stepD hgd' hdw hr5 hu5 (rdNe_len 32 rest e)); clear hr5 hu5))
        clear h29 h49 HS HS4
        obtain ⟨r', hr'⟩ : ∃ r', r' = (rdNe 32 rest e).2.1 := ⟨_, rfl⟩
        obtain ⟨e', he'⟩ : ∃ e', e' = (rdNe 32 rest e).2.2 := ⟨_, rfl⟩
        rw [← hr', ← he'] at HS5
        clear hr' he'
        go_wp2_with (first | (go_at_call 33; refine (left_any _ _ _ _ HS5.out.rd).mono ?_; rintro r0 wy ⟨rfl, rfl⟩) | (go_at_call 50; refine (rrleft_any _ _ _ _ HS5.out.rr).mono ?_; rintro r0 wy ⟨rfl, rfl⟩) | (go_at_call 34; refine (err_any _ _ _ _ HS5.out.rd).mono ?_; rintro r0 wy ⟨rfl, rfl⟩) | (go_at_call 51; refine (rrerr_any _ _ _ _ HS5.out.rr).mono ?_; rintro r0 wy ⟨rfl, rfl⟩) | (go_at_call 35; refine (end_any _ _ _ _ HS5.out.rd).mono ?_; rintro r0 wy ⟨rfl, rfl⟩) | (go_at_call 52; refine (rrend_any _ _ _ _ HS5.out.rr).mono ?_; rintro r0 wy ⟨rfl, rfl⟩))
        go_roundw
        case rel => exact ⟨k + 1, r', e', by omega, by go_num, HS5.out⟩
        case measure => simp [intOf]; omega
      · rw [hx]
        have h29 : Hid (∀ wx : World, Rd wx g rest e → Calls Try.prog 29 #[.pointer (some ⟨g, 0, none⟩), .int .i64 64] wx fun r w' => r = .returned (.int .u64 (rdNe 64 rest e).1) ∧ Rd w' g (rdNe 64 rest e).2.1 (rdNe 64 rest e).2.2 ∧ Upd g wx w') := Lib.hid fun wx h => rnum_any g 64 rest e wx h
        have h49 : Hid (∀ wx : World, Rr wx d rest e → Calls Try.prog 49 #[.pointer (some ⟨d, 0, none⟩), .int .i64 64] wx fun r w' => r = .returned (.int .u64 (rdNe 64 rest e).1) ∧ Rr w' d (rdNe 64 rest e).2.1 (rdNe 64 rest e).2.2 ∧ Upd d wx w') := Lib.hid fun wx h => rrnum_any d 64 rest e wx h
        clear hcj
        go_wp2_with fail
        go_region_held3 (fun w' => True) (trivial) (first | (go_at_call 29; refine Calls.mono (h29.out _ (by exact HS.out.rd)) ?_; rintro r0 w4 ⟨rfl, hr4, hu4⟩; have HS4 : Hid (RdSt w w4 g d v1 m (rdNe 64 rest e).2.1 (rdNe 64 rest e).2.2 rest e) := Lib.hid (HS.out.stepG (Ne.symm hgd') hgw hr4 (((Upd.refl g wr).drew).trans hu4) (rdNe_len 64 rest e)); clear hr4 hu4) | (go_at_call 49; refine Calls.mono (h49.out _ (by exact HS4.out.rr)) ?_; rintro r0 w5 ⟨rfl, hr5, hu5⟩; have HS5 : Hid (RdSt w w5 g d v1 m (rdNe 64 rest e).2.1 (rdNe 64 rest e).2.2 (rdNe 64 rest e).2.1 (rdNe 64 rest e).2.2) := Lib.hid (HS4.out.stepD hgd' hdw hr5 hu5 (rdNe_len 64 rest e)); clear hr5 hu5))
        clear h29 h49 HS HS4
        obtain ⟨r', hr'⟩ : ∃ r', r' = (rdNe 64 rest e).2.1 := ⟨_, rfl⟩
        obtain ⟨e', he'⟩ : ∃ e', e' = (rdNe 64 rest e).2.2 := ⟨_, rfl⟩
        rw [← hr', ← he'] at HS5
        clear hr' he'
        go_wp2_with (first | (go_at_call 33; refine (left_any _ _ _ _ HS5.out.rd).mono ?_; rintro r0 wy ⟨rfl, rfl⟩) | (go_at_call 50; refine (rrleft_any _ _ _ _ HS5.out.rr).mono ?_; rintro r0 wy ⟨rfl, rfl⟩) | (go_at_call 34; refine (err_any _ _ _ _ HS5.out.rd).mono ?_; rintro r0 wy ⟨rfl, rfl⟩) | (go_at_call 51; refine (rrerr_any _ _ _ _ HS5.out.rr).mono ?_; rintro r0 wy ⟨rfl, rfl⟩) | (go_at_call 35; refine (end_any _ _ _ _ HS5.out.rd).mono ?_; rintro r0 wy ⟨rfl, rfl⟩) | (go_at_call 52; refine (rrend_any _ _ _ _ HS5.out.rr).mono ?_; rintro r0 wy ⟨rfl, rfl⟩))
        go_roundw
        case rel => exact ⟨k + 1, r', e', by omega, by go_num, HS5.out⟩
        case measure => simp [intOf]; omega
      · rw [hx]
        go_wp2_with fail
        refine (rvarint_any g rest e _ HS.out.rd).mono ?_
        rintro r0 w4 ⟨rfl, hr4, hu4⟩
        have HS4 := Lib.hid (HS.out.stepG (Ne.symm hgd') hgw hr4 hu4 (rdVe_len rest e))
        clear hr4 hu4 HS hcj
        go_wp2_with fail
        refine (rrvarint_any d rest e _ HS4.out.rr).mono ?_
        rintro r0 w5 ⟨rfl, hr5, hu5⟩
        have HS5 := Lib.hid (HS4.out.stepD hgd' hdw hr5 hu5 (rdVe_len rest e))
        clear hr5 hu5 HS4
        obtain ⟨r', hr'⟩ : ∃ r', r' = (rdVe rest e).2.1 := ⟨_, rfl⟩
        obtain ⟨e', he'⟩ : ∃ e', e' = (rdVe rest e).2.2 := ⟨_, rfl⟩
        rw [← hr', ← he'] at HS5
        clear hr' he'
        go_wp2_with (first | (go_at_call 33; refine (left_any _ _ _ _ HS5.out.rd).mono ?_; rintro r0 wy ⟨rfl, rfl⟩) | (go_at_call 50; refine (rrleft_any _ _ _ _ HS5.out.rr).mono ?_; rintro r0 wy ⟨rfl, rfl⟩) | (go_at_call 34; refine (err_any _ _ _ _ HS5.out.rd).mono ?_; rintro r0 wy ⟨rfl, rfl⟩) | (go_at_call 51; refine (rrerr_any _ _ _ _ HS5.out.rr).mono ?_; rintro r0 wy ⟨rfl, rfl⟩) | (go_at_call 35; refine (end_any _ _ _ _ HS5.out.rd).mono ?_; rintro r0 wy ⟨rfl, rfl⟩) | (go_at_call 52; refine (rrend_any _ _ _ _ HS5.out.rr).mono ?_; rintro r0 wy ⟨rfl, rfl⟩))
        go_roundw
        case rel => exact ⟨k + 1, r', e', by omega, by go_num, HS5.out⟩
        case measure => simp [intOf]; omega
      · rw [hx]
        go_wp2_with fail
        refine (rint_any g rest e _ HS.out.rd).mono ?_
        rintro r0 w4 ⟨rfl, hr4, hu4⟩
        have HS4 := Lib.hid (HS.out.stepG (Ne.symm hgd') hgw hr4 hu4 (rdVe_len rest e))
        clear hr4 hu4 HS hcj
        go_wp2_with fail
        refine (rrint_any d rest e _ HS4.out.rr).mono ?_
        rintro r0 w5 ⟨rfl, hr5, hu5⟩
        have HS5 := Lib.hid (HS4.out.stepD hgd' hdw hr5 hu5 (rdVe_len rest e))
        clear hr5 hu5 HS4
        obtain ⟨r', hr'⟩ : ∃ r', r' = (rdVe rest e).2.1 := ⟨_, rfl⟩
        obtain ⟨e', he'⟩ : ∃ e', e' = (rdVe rest e).2.2 := ⟨_, rfl⟩
        rw [← hr', ← he'] at HS5
        clear hr' he'
        go_wp2_with (first | (go_at_call 33; refine (left_any _ _ _ _ HS5.out.rd).mono ?_; rintro r0 wy ⟨rfl, rfl⟩) | (go_at_call 50; refine (rrleft_any _ _ _ _ HS5.out.rr).mono ?_; rintro r0 wy ⟨rfl, rfl⟩) | (go_at_call 34; refine (err_any _ _ _ _ HS5.out.rd).mono ?_; rintro r0 wy ⟨rfl, rfl⟩) | (go_at_call 51; refine (rrerr_any _ _ _ _ HS5.out.rr).mono ?_; rintro r0 wy ⟨rfl, rfl⟩) | (go_at_call 35; refine (end_any _ _ _ _ HS5.out.rd).mono ?_; rintro r0 wy ⟨rfl, rfl⟩) | (go_at_call 52; refine (rrend_any _ _ _ _ HS5.out.rr).mono ?_; rintro r0 wy ⟨rfl, rfl⟩))
        go_roundw
        case rel => exact ⟨k + 1, r', e', by omega, by go_num, HS5.out⟩
        case measure => simp [intOf]; omega
      · rw [hx]
        go_wp2_with fail
        refine (rtext_any g rest e _ HS.out.rd (by have := HS.out.l1; omega)).mono ?_
        rintro r0 w4 ⟨⟨v4, rfl, ho4⟩, hr4, hu4⟩
        have htx : (rdTe rest e).1.length ≤ 1000 := by have := HS.out.l1; have := rdTe_len1 rest e; omega
        have hgB : g < wr.heap.size := HS.out.rd.lt
        have hdB : d < wr.heap.size := HS.out.rr.lt
        have hwB : w.heap.size ≤ wr.heap.size := HS.out.below.size
        have HS4 := Lib.hid (HS.out.stepG (Ne.symm hgd') hgw hr4 hu4 (rdTe_len rest e))
        have Ho4 := Lib.hid ho4
        clear hr4 hu4 HS hcj ho4
        go_wp2_with fail
        refine (rrtext_any d rest e _ HS4.out.rr (by have := HS4.out.l2; omega)).mono ?_
        rintro r0 w5 ⟨⟨v5, rfl, ho5⟩, hr5, hu5⟩
        have HS5 := Lib.hid (HS4.out.stepD hgd' hdw hr5 hu5 (rdTe_len rest e))
        have ho45 := Ho4.out.upd hu5 (Ho4.out.ne hdB)
        clear hr5 hu5 HS4 Ho4
        obtain ⟨r', hr'⟩ : ∃ r', r' = (rdTe rest e).2.1 := ⟨_, rfl⟩
        obtain ⟨e', he'⟩ : ∃ e', e' = (rdTe rest e).2.2 := ⟨_, rfl⟩
        rw [← hr', ← he'] at HS5
        clear hr' he'
        generalize (rdTe rest e).1 = tx at *
        obtain ⟨a4, c4, rfl⟩ := ho45.sl.len
        rw [bv_length] at ho45
        try rw [bv_length]
        have Ho4 := Lib.hid ho45
        have Ho5 := Lib.hid ho5
        clear ho45 ho5
        go_wp2_with fail
        refine (eqBytes_any _ _ _ _ _ Ho4.out.sl Ho5.out.sl).mono ?_
        rw [beq_self_eq_true]
        rintro r0 w6 ⟨rfl, rfl⟩
        have hmut := mut_of_own Ho4.out
        clear Ho4 Ho5
        go_wp2_with fail
        generalize tx.length = tn at *
        generalize wr.heap.size = B at *
        go_loopw [12] (fun i wz => ∃ j : Nat, j ≤ tn ∧ i = .int .i64 j ∧ Mut wz B a4 tn ∧ RdSt w wz g d v1 m r' e' r' e') (fun i _ => tn - (intOf i).toNat)
        case atStart => exact ⟨0, by omega, rfl, hmut, HS5.out⟩
        case round =>
          clear hmut HS5
          obtain ⟨j, hj, rfl, hmu, hst⟩ := hrel
          have HZ := Lib.hid hst
          clear hst
          by_cases hjm : j < tn
          · rcases hmu with h0 | ⟨G, cur, rfl, hGB, hg, hcur⟩
            · omega
            obtain ⟨z, hz⟩ := hcur j hjm
            have hcell : wr.cell? ⟨G, j, none⟩ = some (.int .u8 z) := by rw [cell_of_row _ _ _ cur _ _ hg]; exact hz
            have hfr : wr.frozen? ⟨G, j, none⟩ = false := by unfold World.frozen?; rw [hg]; simp
            have Hg := Lib.hid hg
            have Hc := Lib.hid hcur
            clear hg hcur hz
            have hm2 := Lib.hid (mut_set Hg.out Hc.out (j := j) (bits BinOp.xor IntKind.u8 z 51) hGB)
            have hs2 := Lib.hid (HZ.out.setNew (o := j) (.int .u8 (bits BinOp.xor IntKind.u8 z 51)) (show g < G by omega) (show d < G by omega) (show w.heap.size ≤ G by omega) HV1.out)
            go_wp2_with fail
            go_roundw
            case rel => exact ⟨j + 1, by omega, by go_num, hm2.out, hs2.out⟩
            case measure => simp [intOf]; omega
          · clear hmu
            go_wp2_with (first | (go_at_call 33; refine (left_any _ _ _ _ HZ.out.rd).mono ?_; rintro r0 wy ⟨rfl, rfl⟩) | (go_at_call 50; refine (rrleft_any _ _ _ _ HZ.out.rr).mono ?_; rintro r0 wy ⟨rfl, rfl⟩) | (go_at_call 34; refine (err_any _ _ _ _ HZ.out.rd).mono ?_; rintro r0 wy ⟨rfl, rfl⟩) | (go_at_call 51; refine (rrerr_any _ _ _ _ HZ.out.rr).mono ?_; rintro r0 wy ⟨rfl, rfl⟩) | (go_at_call 35; refine (end_any _ _ _ _ HZ.out.rd).mono ?_; rintro r0 wy ⟨rfl, rfl⟩) | (go_at_call 52; refine (rrend_any _ _ _ _ HZ.out.rr).mono ?_; rintro r0 wy ⟨rfl, rfl⟩))
            go_roundw
            case rel => exact ⟨k + 1, r', e', by omega, by go_num, HZ.out⟩
            case measure => simp [intOf]; omega
      · rw [hx]
        go_wp2_with fail
        generalize wrap64 ((wrap64 (x.tdiv 8)).tmod 70 + 1) = z at *
        refine (rnum_any g z rest e _ HS.out.rd).mono ?_
        rintro r0 w4 ⟨rfl, hr4, hu4⟩
        have HS4 := Lib.hid (HS.out.stepG (Ne.symm hgd') hgw hr4 hu4 (rdNe_len z rest e))
        clear hr4 hu4 HS hcj
        go_wp2_with fail
        refine (rrnum_any d z rest e _ HS4.out.rr).mono ?_
        rintro r0 w5 ⟨rfl, hr5, hu5⟩
        have HS5 := Lib.hid (HS4.out.stepD hgd' hdw hr5 hu5 (rdNe_len z rest e))
        clear hr5 hu5 HS4
        obtain ⟨r', hr'⟩ : ∃ r', r' = (rdNe z rest e).2.1 := ⟨_, rfl⟩
        obtain ⟨e', he'⟩ : ∃ e', e' = (rdNe z rest e).2.2 := ⟨_, rfl⟩
        rw [← hr', ← he'] at HS5
        clear hr' he'
        go_wp2_with (first | (go_at_call 33; refine (left_any _ _ _ _ HS5.out.rd).mono ?_; rintro r0 wy ⟨rfl, rfl⟩) | (go_at_call 50; refine (rrleft_any _ _ _ _ HS5.out.rr).mono ?_; rintro r0 wy ⟨rfl, rfl⟩) | (go_at_call 34; refine (err_any _ _ _ _ HS5.out.rd).mono ?_; rintro r0 wy ⟨rfl, rfl⟩) | (go_at_call 51; refine (rrerr_any _ _ _ _ HS5.out.rr).mono ?_; rintro r0 wy ⟨rfl, rfl⟩) | (go_at_call 35; refine (end_any _ _ _ _ HS5.out.rd).mono ?_; rintro r0 wy ⟨rfl, rfl⟩) | (go_at_call 52; refine (rrend_any _ _ _ _ HS5.out.rr).mono ?_; rintro r0 wy ⟨rfl, rfl⟩))
        go_roundw
        case rel => exact ⟨k + 1, r', e', by omega, by go_num, HS5.out⟩
        case measure => simp [intOf]; omega
    · have hke : k = l.length := by omega
      clear hkl
      subst hke
      go_wp2_with (first | (go_at_call 12; refine (eqBytes_any _ _ _ _ _ HS.out.inn.sl (H.out.below HS.out.below)).mono ?_; rw [beq_self_eq_true]; rintro r0 wy ⟨rfl, rfl⟩) | (go_at_call 27; refine (works_any _).mono ?_; rintro r0 w9 ⟨rfl, hb9⟩) | (go_at_call 33; refine (left_any _ _ _ _ HS.out.rd).mono ?_; rintro r0 wy ⟨rfl, rfl⟩) | (go_at_call 50; refine (rrleft_any _ _ _ _ HS.out.rr).mono ?_; rintro r0 wy ⟨rfl, rfl⟩) | (go_at_call 34; refine (err_any _ _ _ _ HS.out.rd).mono ?_; rintro r0 wy ⟨rfl, rfl⟩) | (go_at_call 51; refine (rrerr_any _ _ _ _ HS.out.rr).mono ?_; rintro r0 wy ⟨rfl, rfl⟩) | (go_at_call 35; refine (end_any _ _ _ _ HS.out.rd).mono ?_; rintro r0 wy ⟨rfl, rfl⟩) | (go_at_call 52; refine (rrend_any _ _ _ _ HS.out.rr).mono ?_; rintro r0 wy ⟨rfl, rfl⟩))
      go_ret
      exact ⟨rfl, below_step HS.out.below hb9⟩
end Go.Proofs.Ytlfccpmjlgcjpaa
