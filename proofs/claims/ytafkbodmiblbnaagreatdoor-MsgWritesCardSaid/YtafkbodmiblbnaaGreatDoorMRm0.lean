/- The document's own rows of entries: Row, SameRow, CopyRow. -/
import Derived.Test.YtafkbodmiblbnaaGreatDoorMZ24
import Derived.Test.YtafkbodmiblbnaaGreatDoorMZ17
import Derived.Test.YtafkbodmiblbnaaGreatDoorMRefI6
namespace Go.Proofs.YtafkbodmiblbnaaGreatDoor
open Go Go.RowKit
set_option linter.unusedVariables false
set_option linter.unusedSimpArgs false
theorem rtext_sepn {w0 : World} {L : List Thing} (v x : Value) (l m : List UInt8) (w : World) (h : Sep w0 L w) (hv : Sl w v (bv l)) (hx : Sl w x (bv m)) (hlen : l.length + m.length ≤ 1099511627776) :
    Calls Tryz.prog 42 #[v, x] w fun e w' => ∃ v', e = .returned v' ∧ Sep w0 (By v' (l ++ vint m.length ++ m) :: L) w' :=
  (rtext_ref v x l m w hv hx hlen).mono fun e w' ⟨⟨v', he, ho⟩, hb⟩ => ⟨v', he, h.row hb ho⟩
theorem rvarint_sepn {w0 : World} {L : List Thing} (v : Value) (l : List UInt8) (u : Nat) (w : World) (h : Sep w0 L w) (hv : Sl w v (bv l)) (hu : U64 u) (hlen : l.length ≤ 1099511627776) :
    Calls Tryz.prog 44 #[v, .int .u64 u] w fun e w' => ∃ v', e = .returned v' ∧ Sep w0 (By v' (l ++ vint u) :: L) w' :=
  (rvarint_ref v l u w hv hu hlen).mono fun e w' ⟨⟨v', he, ho⟩, hb⟩ => ⟨v', he, h.row hb ho⟩
theorem rowSum (n : Nat) (xs : List (EnM × Value)) (h : rowOk xs = true) (hl : xs.length ≤ 900) : (vint n ++ (xs.map (fun x => rowTx x.1)).flatten).length ≤ 400000 := by
  have h1 := vint_len n
  have h2 := flat400 (xs.map (fun x => rowTx x.1)) (fun y hy => by
    obtain ⟨z, hz, rfl⟩ := List.mem_map.1 hy
    exact rowTx_len (List.all_eq_true.1 h z hz))
  rw [List.length_map] at h2
  rw [List.length_append]
  omega
set_option maxRecDepth 100000 in
set_option maxHeartbeats 16000000 in
theorem rerow_w {w : World} (a : Option Addr) (c : Nat) (xs : List (EnM × Value)) (hv : EnS w (.slice a xs.length c) xs) (hl : xs.length ≤ 900) :
    Calls Tryz.prog 48 #[.slice a xs.length c] w (BysE w [] (rowOk xs) (rowBs (xs.map (·.1)))) := by
  have HV := Lib.hid (rvarint_sepn (w0 := w) (L := []) (.slice none 0 0) [] xs.length w (Sep.start w) (sl_nil _) (by unfold U64; omega) (by simp))
  have HX := Lib.hid hv
  have HL := Lib.hid hl
  have n0 : (xs.length : Int) ≤ 900 := by omega
  clear hv hl
  obtain ⟨n, hn⟩ : ∃ n, n = xs.length := ⟨_, rfl⟩
  rw [← hn] at HV HX n0 ⊢
  have HN := Lib.hid hn
  clear hn
  go_enter Tryz.func48, Tryz.ntmps48
  go_wp2_with fail
  refine HV.out.mono ?_
  rintro r0 w1 ⟨v1, rfl, h1⟩
  rw [List.nil_append] at h1
  have H1 := Lib.hid h1
  clear h1 HV
  go_wp2_with fail
  go_loopw [4, 5] (fun v i wr => ∃ (k : Nat), k ≤ n ∧ i = .int .i64 k ∧ rowOk (xs.take k) = true ∧ Sep w [By v (vint n ++ ((xs.take k).map (fun x => rowTx x.1)).flatten)] wr) (fun _ i _ => n - (intOf i).toNat)
  case atStart => exact ⟨0, Nat.zero_le _, rfl, rfl, by simpa using H1.out⟩
  case round =>
    obtain ⟨k, hk, rfl, hall, hs⟩ := hrel
    clear H1
    have k0 : (0 : Int) ≤ (k : Int) := by omega
    by_cases hkn : k < n
    · have hkx : k < xs.length := by have := HN.out; omega
      have hd : decide (k < n) = true := decide_eq_true hkn
      have k1 : (k : Int) < (n : Int) := by omega
      obtain ⟨bx, off, rfl, -, hnc, -, ⟨e0, e1, e2, e3, e4, e5, e6⟩, hln⟩ := (HX.out.below hs.low).at hkx
      obtain ⟨⟨x, v⟩, hxv⟩ : ∃ z, z = xs[k] := ⟨_, rfl⟩
      rw [← hxv] at e0 e1 e2 e3 e4 e5 e6 hln
      dsimp only at e0 e1 e2 e3 e4 e5 e6 hln
      have HB := Lib.hid (rebytes_u x v hs hln (lns_maxl hln))
      unfold enV at HB
      have HXV := Lib.hid (And.intro hxv (And.intro hkx hkn))
      have HPS := Lib.hid hall
      have HSUM := Lib.hid (rowSum n (xs.take k) hall (by rw [List.length_take]; have := HL.out; omega))
      clear hs hln hxv hall hk hkn
      cases hok : x.ok with
      | true =>
        rw [hok] at HB
        have HOK := Lib.hid hok
        unfold BysE eB at HB
        clear hok
        go_wp2_with fail
        refine HB.out.mono ?_
        rintro r0 w5 ⟨u, rfl, h5⟩
        simp only [if_true] at h5
        have HT := Lib.hid (rtext_sepn _ _ _ (entBs x) w5 h5 h5.sw2.sl h5.sl (by have := entBs_len HOK.out; have := HSUM.out; omega))
        clear HB h5 e0 e1 e2 e3 e4 e5 e6
        go_wp2_with fail
        refine HT.out.mono ?_
        rintro r0 w6 ⟨v6, rfl, h6⟩
        have HF := Lib.hid (h6.pick [0] rfl : Sep w [_] w6)
        clear h6 HT
        go_wp2_with fail
        go_roundw
        case rel =>
          refine ⟨k + 1, HXV.out.2.2, by go_num, ?_, ?_⟩
          · have h1 := HPS.out
            unfold rowOk at h1 ⊢
            rw [List.take_succ_eq_append_getElem HXV.out.2.1, ← HXV.out.1, List.all_append, h1]; simp [HOK.out]
          · have := HF.out
            rw [List.take_succ_eq_append_getElem HXV.out.2.1, ← HXV.out.1, List.map_append, List.flatten_append]
            simpa [rowTx, List.append_assoc] using this
        case measure => have := HXV.out.2.2; simp [intOf]; omega
      | false =>
        rw [hok] at HB
        have HBAD : Hid (rowOk xs = false) := Lib.hid (by
          unfold rowOk
          rw [List.all_eq_false]
          exact ⟨xs[k]'HXV.out.2.1, List.getElem_mem _, by rw [← HXV.out.1]; simp [hok]⟩)
        unfold BysE eB at HB
        clear hok
        go_wp2_with fail
        refine HB.out.mono ?_
        rintro r0 w5 ⟨u, rfl, h5⟩
        have HE := Lib.hid (Sep.nil h5.low)
        clear HB h5
        go_wp2_with fail
        rw [HBAD.out]
        go_ret2
        exact ⟨_, rfl, HE.out.rnil _⟩
    · have hd : decide (k < n) = false := decide_eq_false hkn
      have hn := HN.out
      have hkx : xs.take k = xs := List.take_of_length_le (by omega)
      rw [hkx] at hs hall
      have hr : vint n ++ (xs.map (fun x => rowTx x.1)).flatten = rowBs (xs.map (·.1)) := by
        unfold rowBs
        rw [List.length_map, ← hn, List.map_map]
        rfl
      rw [hr] at hs
      have HE := Lib.hid hs
      have HOK : Hid (rowOk xs = true) := Lib.hid hall
      clear hs hall hk hkn hkx hr hn
      go_wp2_with fail
      rw [HOK.out]
      go_ret2
      exact ⟨_, rfl, HE.out⟩
theorem rerow_any {w0 w : World} {L : List Thing} (a : Option Addr) (c n : Nat) (xs : List (EnM × Value)) (h : Sep w0 L w) (hv : EnS w (.slice a n c) xs) (hn : xs.length = n) (hl : n ≤ 900) :
    Calls Tryz.prog 48 #[.slice a n c] w (BysE w0 L (rowOk xs) (rowBs (xs.map (·.1)))) := by
  subst hn
  exact (rerow_w a c xs hv hl).mono fun e w' ⟨u, h1, h2⟩ => ⟨u, h1, h.row h2.low (Sep.rw_ h2)⟩
set_option maxRecDepth 100000 in
set_option maxHeartbeats 16000000 in
theorem resamerow_w {w : World} (a a' : Option Addr) (c c' : Nat) (xs ys : List (EnM × Value)) (hx : EnS w (.slice a xs.length c) xs) (hy : EnS w (.slice a' ys.length c') ys) (hl : xs.length ≤ 1000000) (hl' : ys.length ≤ 1000000) :
    Calls Tryz.prog 70 #[.slice a xs.length c, .slice a' ys.length c'] w fun e w' => ∃ r : Bool, e = .returned (.bool r) ∧ (r = true ↔ SameP xs ys) ∧ Sep w [] w' := by
  have HX := Lib.hid hx
  have HY := Lib.hid hy
  have n0 : (xs.length : Int) ≤ 1000000 := by omega
  have n1 : (ys.length : Int) ≤ 1000000 := by omega
  clear hx hy hl hl'
  obtain ⟨n, hn⟩ : ∃ n, n = xs.length := ⟨_, rfl⟩
  obtain ⟨n', hn'⟩ : ∃ n, n = ys.length := ⟨_, rfl⟩
  rw [← hn] at HX n0 ⊢
  rw [← hn'] at HY n1 ⊢
  have HN := Lib.hid (And.intro hn hn')
  clear hn hn'
  by_cases hll : n = n'
  · subst hll
    go_enter Tryz.func70, Tryz.ntmps70
    go_wp2_with fail
    go_loopw [5] (fun i wr => ∃ k : Nat, k ≤ n ∧ i = .int .i64 k ∧ (∀ j (h : j < xs.length) (h' : j < ys.length), j < k → enSame xs[j].1 ys[j].1 = true) ∧ Sep w [] wr) (fun i _ => n - (intOf i).toNat)
    case atStart => exact ⟨0, Nat.zero_le _, rfl, (fun j _ _ h => absurd h (by omega)), Sep.start w⟩
    case round =>
      obtain ⟨k, hk, rfl, hall, hs⟩ := hrel
      have k0 : (0 : Int) ≤ (k : Int) := by omega
      by_cases hkn : k < n
      · have hkx : k < xs.length := by have := HN.out.1; omega
        have hky : k < ys.length := by have := HN.out.2; omega
        have hd : decide (k < n) = true := decide_eq_true hkn
        have k1 : (k : Int) < (n : Int) := by omega
        obtain ⟨⟨x, v⟩, hxv⟩ : ∃ z, z = xs[k] := ⟨_, rfl⟩
        obtain ⟨⟨y, u⟩, hyu⟩ : ∃ z, z = ys[k] := ⟨_, rfl⟩
        obtain ⟨bx, off, rfl, -, hnc, -, -, hln⟩ := HX.out.at hkx
        obtain ⟨by', off', rfl, -, hnc', -, -, hlu⟩ := HY.out.at hky
        rw [← hxv] at hln
        rw [← hyu] at hlu
        dsimp only at hln hlu
        obtain ⟨av, kv, rfl⟩ := hln.len
        obtain ⟨au, ku, rfl⟩ := hlu.len
        have HSC : Hid (∀ w', Below wr.drew.heap.size wr.drew w' → (w'.cell? ⟨bx, off + k * 7, none⟩ = some (.int .i64 x.c) ∧ w'.cell? ⟨bx, off + k * 7 + 1, none⟩ = some (.int .i64 x.m) ∧ w'.cell? ⟨bx, off + k * 7 + 2, none⟩ = some (.int .i64 x.p.k) ∧ w'.cell? ⟨bx, off + k * 7 + 3, none⟩ = some (.string x.p.s.1) ∧ w'.cell? ⟨bx, off + k * 7 + 4, none⟩ = some (.int .i64 x.p.o) ∧ w'.cell? ⟨bx, off + k * 7 + 5, none⟩ = some (.int .i64 x.p.n) ∧ w'.cell? ⟨bx, off + k * 7 + 6, none⟩ = some (.slice av x.p.ls.length kv)) ∧ (w'.cell? ⟨by', off' + k * 7, none⟩ = some (.int .i64 y.c) ∧ w'.cell? ⟨by', off' + k * 7 + 1, none⟩ = some (.int .i64 y.m) ∧ w'.cell? ⟨by', off' + k * 7 + 2, none⟩ = some (.int .i64 y.p.k) ∧ w'.cell? ⟨by', off' + k * 7 + 3, none⟩ = some (.string y.p.s.1) ∧ w'.cell? ⟨by', off' + k * 7 + 4, none⟩ = some (.int .i64 y.p.o) ∧ w'.cell? ⟨by', off' + k * 7 + 5, none⟩ = some (.int .i64 y.p.n) ∧ w'.cell? ⟨by', off' + k * 7 + 6, none⟩ = some (.slice au y.p.ls.length ku))) := Lib.hid fun w' hb => by
          have h1 : Sep w [] w' := hs.drew.below hb
          obtain ⟨b1, o1, hab, -, -, -, e, -⟩ := (HX.out.below h1.low).at hkx
          simp only [Option.some.injEq, Addr.mk.injEq, and_true] at hab
          obtain ⟨rfl, rfl⟩ := hab
          obtain ⟨b2, o2, hab, -, -, -, d, -⟩ := (HY.out.below h1.low).at hky
          simp only [Option.some.injEq, Addr.mk.injEq, and_true] at hab
          obtain ⟨rfl, rfl⟩ := hab
          rw [← hxv] at e
          rw [← hyu] at d
          exact ⟨e, d⟩
        have HS := Lib.hid (resame_any x y _ _ (Sep.start wr.drew) (hln.below hs.drew.low) (hlu.below hs.drew.low) (lns_maxl hln))
        unfold enV at HS
        have HW := Lib.hid hs.drew
        have HXV := Lib.hid (And.intro hxv (And.intro hyu hkn))
        have HAL := Lib.hid hall
        clear hs hln hlu hxv hyu hall hk hkn
        cases hsm : enSame x y with
        | true =>
          rw [hsm] at HS
          have HT := Lib.hid hsm
          clear hsm
          go_wp2_with fail
          refine wp_region_G (fun w' => (w'.cell? ⟨bx, off + k * 7, none⟩ = some (.int .i64 x.c) ∧ w'.cell? ⟨bx, off + k * 7 + 1, none⟩ = some (.int .i64 x.m) ∧ w'.cell? ⟨bx, off + k * 7 + 2, none⟩ = some (.int .i64 x.p.k) ∧ w'.cell? ⟨bx, off + k * 7 + 3, none⟩ = some (.string x.p.s.1) ∧ w'.cell? ⟨bx, off + k * 7 + 4, none⟩ = some (.int .i64 x.p.o) ∧ w'.cell? ⟨bx, off + k * 7 + 5, none⟩ = some (.int .i64 x.p.n) ∧ w'.cell? ⟨bx, off + k * 7 + 6, none⟩ = some (.slice av x.p.ls.length kv)) ∧ (w'.cell? ⟨by', off' + k * 7, none⟩ = some (.int .i64 y.c) ∧ w'.cell? ⟨by', off' + k * 7 + 1, none⟩ = some (.int .i64 y.m) ∧ w'.cell? ⟨by', off' + k * 7 + 2, none⟩ = some (.int .i64 y.p.k) ∧ w'.cell? ⟨by', off' + k * 7 + 3, none⟩ = some (.string y.p.s.1) ∧ w'.cell? ⟨by', off' + k * 7 + 4, none⟩ = some (.int .i64 y.p.o) ∧ w'.cell? ⟨by', off' + k * 7 + 5, none⟩ = some (.int .i64 y.p.n) ∧ w'.cell? ⟨by', off' + k * 7 + 6, none⟩ = some (.slice au y.p.ls.length ku))) [] (by kernel_rfl) (HSC.out _ (Below.refl _ _)) (fun hS => ?_)
          try dsimp only at hS
          refine wpAnyG_take' (i := 0) (v := ?v0_1rst) rfl (by kernel_rfl) (by kernel_rfl) (by kernel_rfl) (by kernel_rfl) (fun _ _ _ h => h) (Or.inl ⟨by rfl, ?hy0_1rst⟩) hS ?rest0_1rst
          case hy0_1rst => intro w hSw; (try dsimp only at hSw); go_simp; (try with_reducible rfl)
          case rest0_1rst =>
          try simp only [nz0, nz1, nz2, Act.put, nz3, nz4, nz5]
          refine wpAnyG_take' (i := 1) (v := ?v1_2rst) rfl (by kernel_rfl) (by kernel_rfl) (by kernel_rfl) (by kernel_rfl) (fun _ _ _ h => h) (Or.inl ⟨by rfl, ?hy1_2rst⟩) hS ?rest1_2rst
          case hy1_2rst => intro w hSw; (try dsimp only at hSw); go_simp; (try with_reducible rfl)
          case rest1_2rst =>
          try simp only [nz0, nz1, nz2, Act.put, nz3, nz4, nz5]
          refine wpAnyG_take' (i := 2) (v := ?v2_3rst) rfl (by kernel_rfl) (by kernel_rfl) (by kernel_rfl) (by kernel_rfl) (fun _ _ _ h => h) (Or.inl ⟨by rfl, ?hy2_3rst⟩) hS ?rest2_3rst
          case hy2_3rst => intro w hSw; (try dsimp only at hSw); go_simp; (try with_reducible rfl)
          case rest2_3rst =>
          try simp only [nz0, nz1, nz2, Act.put, nz3, nz4, nz5]
          refine wpAnyG_take' (i := 3) (v := ?v3_4rst) rfl (by kernel_rfl) (by kernel_rfl) (by kernel_rfl) (by kernel_rfl) (fun _ _ _ h => h) (Or.inl ⟨by rfl, ?hy3_4rst⟩) hS ?rest3_4rst
          case hy3_4rst => intro w hSw; (try dsimp only at hSw); go_simp; (try with_reducible rfl)
          case rest3_4rst =>
          try simp only [nz0, nz1, nz2, Act.put, nz3, nz4, nz5]
          refine wpAnyG_take' (i := 4) (v := ?v4_5rst) rfl (by kernel_rfl) (by kernel_rfl) (by kernel_rfl) (by kernel_rfl) (fun _ _ _ h => h) (Or.inl ⟨by rfl, ?hy4_5rst⟩) hS ?rest4_5rst
          case hy4_5rst => intro w hSw; (try dsimp only at hSw); go_simp; (try with_reducible rfl)
          case rest4_5rst =>
          try simp only [nz0, nz1, nz2, Act.put, nz3, nz4, nz5]
          refine wpAnyG_take' (i := 5) (v := ?v5_6rst) rfl (by kernel_rfl) (by kernel_rfl) (by kernel_rfl) (by kernel_rfl) (fun _ _ _ h => h) (Or.inl ⟨by rfl, ?hy5_6rst⟩) hS ?rest5_6rst
          case hy5_6rst => intro w hSw; (try dsimp only at hSw); go_simp; (try with_reducible rfl)
          case rest5_6rst =>
          try simp only [nz0, nz1, nz2, Act.put, nz3, nz4, nz5]
          refine wpAnyG_take' (i := 6) (v := ?v6_7rst) rfl (by kernel_rfl) (by kernel_rfl) (by kernel_rfl) (by kernel_rfl) (fun _ _ _ h => h) (Or.inl ⟨by rfl, ?hy6_7rst⟩) hS ?rest6_7rst
          case hy6_7rst => intro w hSw; (try dsimp only at hSw); go_simp; (try with_reducible rfl)
          case rest6_7rst =>
          try simp only [nz0, nz1, nz2, Act.put, nz3, nz4, nz5]
          refine wpAnyG_take' (i := 7) (v := ?v7_8rst) rfl (by kernel_rfl) (by kernel_rfl) (by kernel_rfl) (by kernel_rfl) (fun _ _ _ h => h) (Or.inl ⟨by rfl, ?hy7_8rst⟩) hS ?rest7_8rst
          case hy7_8rst => intro w hSw; (try dsimp only at hSw); go_simp; (try with_reducible rfl)
          case rest7_8rst =>
          try simp only [nz0, nz1, nz2, Act.put, nz3, nz4, nz5]
          refine wpAnyG_one (i := 8) (by kernel_rfl) rfl (fun K hK => ?_)
          go_simp
          refine Calls.mono HS.out ?_
          rintro r9 w5 ⟨rfl, h6⟩
          have HF := Lib.hid h6
          clear h6
          go_wp2_with fail
          refine hK.out _ _ (fun _ => ?hS9rst) ?rest9rst
          case hS9rst => exact HSC.out _ HF.out.low
          clear K hK
          try simp only [nz0, nz1, nz2, Act.put, nz3, nz4, nz5]
          refine wpAnyG_take' (i := 9) (v := ?v9_10rst) rfl (by kernel_rfl) (by kernel_rfl) (by kernel_rfl) (by kernel_rfl) (fun _ _ _ h => h) (Or.inl ⟨by rfl, ?hy9_10rst⟩) (HSC.out _ HF.out.low) ?rest9_10rst
          case hy9_10rst => intro w hSw; (try dsimp only at hSw); go_simp; (try with_reducible rfl)
          case rest9_10rst =>
          try simp only [nz0, nz1, nz2, Act.put, nz3, nz4, nz5]
          refine wpAnyG_done (by kernel_rfl) ?_ _
          try simp only [nz0, nz1, nz2, Act.put, nz3, nz4, nz5]
          have HE := Lib.hid (HW.out.below HF.out.low)
          clear hS HS HF HW HSC
          go_wp2_with fail
          go_roundw
          case rel =>
            refine ⟨k + 1, HXV.out.2.2, by go_num, fun j h h' hj => ?_, HE.out⟩
            by_cases hjk : j = k
            · subst hjk; rw [← HXV.out.1, ← HXV.out.2.1]; exact HT.out
            · exact HAL.out j h h' (by omega)
          case measure => have := HXV.out.2.2; simp [intOf]; omega
        | false =>
          rw [hsm] at HS
          have HT : Hid (¬ SameP xs ys) := Lib.hid fun hh => by
            have := hh.2 k hkx hky
            rw [← HXV.out.1, ← HXV.out.2.1] at this
            rw [show enSame x y = true from this] at hsm; cases hsm
          clear hsm
          go_wp2_with fail
          refine wp_region_G (fun w' => (w'.cell? ⟨bx, off + k * 7, none⟩ = some (.int .i64 x.c) ∧ w'.cell? ⟨bx, off + k * 7 + 1, none⟩ = some (.int .i64 x.m) ∧ w'.cell? ⟨bx, off + k * 7 + 2, none⟩ = some (.int .i64 x.p.k) ∧ w'.cell? ⟨bx, off + k * 7 + 3, none⟩ = some (.string x.p.s.1) ∧ w'.cell? ⟨bx, off + k * 7 + 4, none⟩ = some (.int .i64 x.p.o) ∧ w'.cell? ⟨bx, off + k * 7 + 5, none⟩ = some (.int .i64 x.p.n) ∧ w'.cell? ⟨bx, off + k * 7 + 6, none⟩ = some (.slice av x.p.ls.length kv)) ∧ (w'.cell? ⟨by', off' + k * 7, none⟩ = some (.int .i64 y.c) ∧ w'.cell? ⟨by', off' + k * 7 + 1, none⟩ = some (.int .i64 y.m) ∧ w'.cell? ⟨by', off' + k * 7 + 2, none⟩ = some (.int .i64 y.p.k) ∧ w'.cell? ⟨by', off' + k * 7 + 3, none⟩ = some (.string y.p.s.1) ∧ w'.cell? ⟨by', off' + k * 7 + 4, none⟩ = some (.int .i64 y.p.o) ∧ w'.cell? ⟨by', off' + k * 7 + 5, none⟩ = some (.int .i64 y.p.n) ∧ w'.cell? ⟨by', off' + k * 7 + 6, none⟩ = some (.slice au y.p.ls.length ku))) [] (by kernel_rfl) (HSC.out _ (Below.refl _ _)) (fun hS => ?_)
          try dsimp only at hS
          refine wpAnyG_take' (i := 0) (v := ?v0_1rsf) rfl (by kernel_rfl) (by kernel_rfl) (by kernel_rfl) (by kernel_rfl) (fun _ _ _ h => h) (Or.inl ⟨by rfl, ?hy0_1rsf⟩) hS ?rest0_1rsf
          case hy0_1rsf => intro w hSw; (try dsimp only at hSw); go_simp; (try with_reducible rfl)
          case rest0_1rsf =>
          try simp only [nz0, nz1, nz2, Act.put, nz3, nz4, nz5]
          refine wpAnyG_take' (i := 1) (v := ?v1_2rsf) rfl (by kernel_rfl) (by kernel_rfl) (by kernel_rfl) (by kernel_rfl) (fun _ _ _ h => h) (Or.inl ⟨by rfl, ?hy1_2rsf⟩) hS ?rest1_2rsf
          case hy1_2rsf => intro w hSw; (try dsimp only at hSw); go_simp; (try with_reducible rfl)
          case rest1_2rsf =>
          try simp only [nz0, nz1, nz2, Act.put, nz3, nz4, nz5]
          refine wpAnyG_take' (i := 2) (v := ?v2_3rsf) rfl (by kernel_rfl) (by kernel_rfl) (by kernel_rfl) (by kernel_rfl) (fun _ _ _ h => h) (Or.inl ⟨by rfl, ?hy2_3rsf⟩) hS ?rest2_3rsf
          case hy2_3rsf => intro w hSw; (try dsimp only at hSw); go_simp; (try with_reducible rfl)
          case rest2_3rsf =>
          try simp only [nz0, nz1, nz2, Act.put, nz3, nz4, nz5]
          refine wpAnyG_take' (i := 3) (v := ?v3_4rsf) rfl (by kernel_rfl) (by kernel_rfl) (by kernel_rfl) (by kernel_rfl) (fun _ _ _ h => h) (Or.inl ⟨by rfl, ?hy3_4rsf⟩) hS ?rest3_4rsf
          case hy3_4rsf => intro w hSw; (try dsimp only at hSw); go_simp; (try with_reducible rfl)
          case rest3_4rsf =>
          try simp only [nz0, nz1, nz2, Act.put, nz3, nz4, nz5]
          refine wpAnyG_take' (i := 4) (v := ?v4_5rsf) rfl (by kernel_rfl) (by kernel_rfl) (by kernel_rfl) (by kernel_rfl) (fun _ _ _ h => h) (Or.inl ⟨by rfl, ?hy4_5rsf⟩) hS ?rest4_5rsf
          case hy4_5rsf => intro w hSw; (try dsimp only at hSw); go_simp; (try with_reducible rfl)
          case rest4_5rsf =>
          try simp only [nz0, nz1, nz2, Act.put, nz3, nz4, nz5]
          refine wpAnyG_take' (i := 5) (v := ?v5_6rsf) rfl (by kernel_rfl) (by kernel_rfl) (by kernel_rfl) (by kernel_rfl) (fun _ _ _ h => h) (Or.inl ⟨by rfl, ?hy5_6rsf⟩) hS ?rest5_6rsf
          case hy5_6rsf => intro w hSw; (try dsimp only at hSw); go_simp; (try with_reducible rfl)
          case rest5_6rsf =>
          try simp only [nz0, nz1, nz2, Act.put, nz3, nz4, nz5]
          refine wpAnyG_take' (i := 6) (v := ?v6_7rsf) rfl (by kernel_rfl) (by kernel_rfl) (by kernel_rfl) (by kernel_rfl) (fun _ _ _ h => h) (Or.inl ⟨by rfl, ?hy6_7rsf⟩) hS ?rest6_7rsf
          case hy6_7rsf => intro w hSw; (try dsimp only at hSw); go_simp; (try with_reducible rfl)
          case rest6_7rsf =>
          try simp only [nz0, nz1, nz2, Act.put, nz3, nz4, nz5]
          refine wpAnyG_take' (i := 7) (v := ?v7_8rsf) rfl (by kernel_rfl) (by kernel_rfl) (by kernel_rfl) (by kernel_rfl) (fun _ _ _ h => h) (Or.inl ⟨by rfl, ?hy7_8rsf⟩) hS ?rest7_8rsf
          case hy7_8rsf => intro w hSw; (try dsimp only at hSw); go_simp; (try with_reducible rfl)
          case rest7_8rsf =>
          try simp only [nz0, nz1, nz2, Act.put, nz3, nz4, nz5]
          refine wpAnyG_one (i := 8) (by kernel_rfl) rfl (fun K hK => ?_)
          go_simp
          refine Calls.mono HS.out ?_
          rintro r9 w5 ⟨rfl, h6⟩
          have HF := Lib.hid h6
          clear h6
          go_wp2_with fail
          refine hK.out _ _ (fun _ => ?hS9rsf) ?rest9rsf
          case hS9rsf => exact HSC.out _ HF.out.low
          clear K hK
          try simp only [nz0, nz1, nz2, Act.put, nz3, nz4, nz5]
          refine wpAnyG_take' (i := 9) (v := ?v9_10rsf) rfl (by kernel_rfl) (by kernel_rfl) (by kernel_rfl) (by kernel_rfl) (fun _ _ _ h => h) (Or.inl ⟨by rfl, ?hy9_10rsf⟩) (HSC.out _ HF.out.low) ?rest9_10rsf
          case hy9_10rsf => intro w hSw; (try dsimp only at hSw); go_simp; (try with_reducible rfl)
          case rest9_10rsf =>
          try simp only [nz0, nz1, nz2, Act.put, nz3, nz4, nz5]
          refine wpAnyG_done (by kernel_rfl) ?_ _
          try simp only [nz0, nz1, nz2, Act.put, nz3, nz4, nz5]
          have HE := Lib.hid (HW.out.below HF.out.low)
          clear hS HS HF HW HSC
          go_wp2_with fail
          go_ret
          exact ⟨false, rfl, ⟨(fun h => by cases h), fun h => absurd h HT.out⟩, HE.out⟩
      · have hd : decide (k < n) = false := decide_eq_false hkn
        have HF := Lib.hid hs
        have HT : Hid (SameP xs ys) := Lib.hid ⟨by have := HN.out; omega, fun j h h' => hall j h h' (by have := HN.out.1; omega)⟩
        clear hs hall hk hkn
        go_wp2_with fail
        go_ret
        exact ⟨true, rfl, ⟨fun _ => HT.out, fun _ => rfl⟩, HF.out⟩
  · have hne : ((n : Int) != (n' : Int)) = true := by rw [bne_iff_ne]; omega
    have HT : Hid (¬ SameP xs ys) := Lib.hid fun hh => by have := HN.out; have := hh.1; omega
    clear hll
    go_enter Tryz.func70, Tryz.ntmps70
    go_wp2_with fail
    go_ret
    exact ⟨false, rfl, ⟨(fun h => by cases h), fun h => absurd h HT.out⟩, Sep.start w⟩
end Go.Proofs.YtafkbodmiblbnaaGreatDoor
