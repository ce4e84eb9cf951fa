/- Package msg: Parse. -/
import Derived.Test.YtafkbodmiblbnaaDoorMMb8
namespace Go.Proofs.YtafkbodmiblbnaaDoor
open Go Go.RowKit
set_option linter.unusedVariables false
set_option linter.unusedSimpArgs false
theorem results_cell2 {P : Program} {fn : Func} {t u : Tmp} {ty : TypeId} (h : fn.results = #[.cell t ty, .tmp u]) {tmps : Array Value} {w : World} {ad : Addr} {v x : Value} (ht : tmps.getD t undef = .pointer (some ad)) (hl : (loadVar ty ad).run P w = .ok v w) (hu : tmps.getD u undef = x) : (results fn tmps).run P w = .ok (.tuple #[v, x]) w := by
  rw [Array.getD_eq_getD_getElem?] at ht hu
  simp [results, h, ht, hu, asAddr, hl]
theorem wpList_load_on {P : Program} {ops : Array Oper} {rest : List Oper} {o : Oper} {a : Act} {w : World} {Q : Exit → Act → World → Prop} (t : TypeId) (x : Operand) (hop : o.op = .load t x) (p v : Value) (hx : a.eval x = p)
    (hr : (Instr.loadAt t p).run P w = .ok v w) (hw : Region.wanted o (yielded ops a.tmps) = true) (hK : wpList P ops Q rest (a.put o.dst v) w) : wpList P ops Q (o :: rest) a w :=
  BigFrame.wpList_want hw fun K hK' => opwp_load_run t x hop p v hx hr (hK' _ _ hK)
/-- The zero message. -/
def gZ : MgM := ⟨0, 0, 0, 0, 0, 0, 0, EnM.zero, .slice none 0 0, 0, 0, 0, false, 0, [], .slice none 0 0, [], .slice none 0 0, 0⟩
theorem gZ_c : mgC gZ = #[.int .i64 0, .int .i64 0, .int .i64 0, .int .i64 0, .int .i64 0, .int .i64 0, .int .i64 0, .int .i64 0, .int .i64 0, .int .i64 0, .string ⟨#[]⟩, .int .i64 0, .int .i64 0, .slice none 0 0, .int .i64 0, .int .i64 0, .int .i64 0, .bool false, .int .i64 0, .slice none 0 0, .slice none 0 0, .int .i64 0] := rfl
theorem gZ_x : gZ.x = MgX.zero := rfl
theorem zeroS {w0 w : World} {L : List Thing} (h : Sep w0 L w) : Sep w0 (LnR gZ.lv gZ.en.p.ls :: By gZ.cv gZ.ck :: EnT gZ.ev gZ.ps :: L) w := ((h.enNil).rnil _).rnNil 2 _
theorem stN_len (has : Int) (i : Nat) (q : RS) : (stN has i q).r.length ≤ q.r.length := by
  unfold stN
  split
  · exact rdVe_len _ _
  · exact Nat.le_refl _
theorem stNumsA_len (has : Int) (s : RS) : ∀ i, (stNumsA has i s).r.length ≤ s.r.length
  | 0 => Nat.le_refl _
  | i + 1 => Nat.le_trans (stN_len has i _) (stNumsA_len has s i)
theorem stp_len (j : Nat) (s : RS) : (stp j s).1.r.length ≤ s.r.length := by
  match j with
  | 0 => exact Nat.le_trans (rdNe_len _ _) (Nat.le_trans (rdNe_len _ _) (rdNe_len _ _))
  | 1 => exact stNumsA_len _ _ _
  | 2 =>
    show (stEntry s).1.r.length ≤ _
    unfold stEntry
    split
    · split
      · exact (rdTe_len _ _).2
      · exact (rdTe_len _ _).2
    · split
      · exact Nat.le_trans (rdVe_len _ _) (rdNe_len _ _)
      · exact Nat.le_refl _
  | 3 =>
    show (stRes s).1.r.length ≤ _
    unfold stRes
    split
    · split
      · exact (rdTe_len _ _).2
      · split
        · exact (rdTe_len _ _).2
        · unfold stRes2
          split
          · exact Nat.le_trans (rdNe_len _ _) (rdTe_len _ _).2
          · exact Nat.le_trans (rdNe_len _ _) (rdTe_len _ _).2
    · exact Nat.le_refl _
  | n + 4 =>
    show (stImage s).1.r.length ≤ _
    unfold stImage
    split
    · have h1 : (rdTe (rdVe (rdVe s.r s.e).2.1 (rdVe s.r s.e).2.2).2.1 (rdVe (rdVe s.r s.e).2.1 (rdVe s.r s.e).2.2).2.2).2.1.length ≤ s.r.length := Nat.le_trans (rdTe_len _ _).2 (Nat.le_trans (rdVe_len _ _) (rdVe_len _ _))
      unfold stImg2
      split
      · exact Nat.le_trans (rdTe_len _ _).2 h1
      · exact Nat.le_trans (rdTe_len _ _).2 h1
    · exact Nat.le_refl _
theorem gm_own0 {w0 wx : World} {g : MgM} {L : List Thing} (h : Sep w0 (LnR g.lv g.en.p.ls :: By g.cv g.ck :: EnT g.ev g.ps :: L) wx) : GmS wx g := ⟨Sep.lnS h, h.sw2.sl, h.sw3.enS⟩
theorem gm_shape {w : World} {g : MgM} (h : GmS w g) : g.lv.oneCell' = true ∧ g.cv.oneCell' = true ∧ g.ev.oneCell' = true := by
  obtain ⟨x1, x2, e1⟩ := h.1.len
  obtain ⟨x3, x4, e2⟩ := bv_form h.2.1
  obtain ⟨x5, x6, e3⟩ := h.2.2.len
  exact ⟨by rw [e1]; rfl, by rw [e2]; rfl, by rw [e3]; rfl⟩
def LEN (s : RS) : Prop := s.r.length ≤ 1000000 ∧ s.x.ck.length ≤ 1000000 ∧ s.x.es.length ≤ 1000000
theorem rows_len {l : List UInt8} (hl : l.length ≤ 1000000) : (rwsOf l).1.length ≤ l.length := by
  by_cases h : (rwsOf l).2 = 0
  · have h1 := (rwsOf_again (l := l) (by unfold maxLen; omega) h).1
    have h2 : ∀ xs : List EnM, xs.length ≤ ((xs.map rowTx).flatten).length := by
      intro xs
      induction xs with
      | nil => exact Nat.le_refl _
      | cons x xs ih =>
        have h3 := vint_pos (entBs x).length
        have h4 : 1 ≤ (rowTx x).length := by unfold rowTx; rw [List.length_append]; omega
        simp only [List.map_cons, List.flatten_cons, List.length_append, List.length_cons]
        omega
    have h4 := h2 (rwsOf l).1
    have h5 := congrArg List.length h1
    unfold rowBs at h5
    rw [List.length_append] at h5
    omega
  · rw [rwsOf_err h]
    exact Nat.zero_le _
theorem setNum_ck (x : MgX) (i : Nat) (n : Int) : (setNum x i n).ck = x.ck ∧ (setNum x i n).es = x.es := by
  match i with
  | 0 => exact ⟨rfl, rfl⟩ | 1 => exact ⟨rfl, rfl⟩ | 2 => exact ⟨rfl, rfl⟩ | n + 3 => exact ⟨rfl, rfl⟩
theorem stNumsA_ck (has : Int) (s : RS) : ∀ i, (stNumsA has i s).x.ck = s.x.ck ∧ (stNumsA has i s).x.es = s.x.es
  | 0 => ⟨rfl, rfl⟩
  | i + 1 => by
    have ih := stNumsA_ck has s i
    show (stN has i (stNumsA has i s)).x.ck = _ ∧ (stN has i (stNumsA has i s)).x.es = _
    unfold stN
    split
    · exact ⟨(setNum_ck _ _ _).1.trans ih.1, (setNum_ck _ _ _).2.trans ih.2⟩
    · exact ih
theorem stp_LEN (j : Nat) (s : RS) (h : LEN s) : LEN (stp j s).1 := by
  refine ⟨Nat.le_trans (stp_len j s) h.1, ?_⟩
  match j with
  | 0 => exact h.2
  | 1 =>
    have := stNumsA_ck (mfieldsOf s.x.k) s 4
    exact ⟨by show (stNumsA (mfieldsOf s.x.k) 4 s).x.ck.length ≤ _; rw [this.1]; exact h.2.1, by show (stNumsA (mfieldsOf s.x.k) 4 s).x.es.length ≤ _; rw [this.2]; exact h.2.2⟩
  | 2 =>
    show (stEntry s).1.x.ck.length ≤ _ ∧ (stEntry s).1.x.es.length ≤ _
    rw [stEntry_k s]
    exact h.2
  | 3 =>
    show (stRes s).1.x.ck.length ≤ _ ∧ (stRes s).1.x.es.length ≤ _
    rw [stRes_k s]
    exact h.2
  | n + 4 =>
    show (stImage s).1.x.ck.length ≤ _ ∧ (stImage s).1.x.es.length ≤ _
    have h0 := h.1
    unfold stImage
    split
    · have h1 : (rdVe (rdVe s.r s.e).2.1 (rdVe s.r s.e).2.2).2.1.length ≤ s.r.length := Nat.le_trans (rdVe_len _ _) (rdVe_len _ _)
      have h2 := rdTe_len (rdVe (rdVe s.r s.e).2.1 (rdVe s.r s.e).2.2).2.1 (rdVe (rdVe s.r s.e).2.1 (rdVe s.r s.e).2.2).2.2
      generalize rdTe (rdVe (rdVe s.r s.e).2.1 (rdVe s.r s.e).2.2).2.1 (rdVe (rdVe s.r s.e).2.1 (rdVe s.r s.e).2.2).2.2 = C at *
      have h3 := rdTe_len C.2.1 C.2.2
      have h4 := rows_len (l := (rdTe C.2.1 C.2.2).1) (by omega)
      unfold stImg2
      split
      · exact ⟨by show C.1.length ≤ _; omega, h.2.2⟩
      · exact ⟨by show C.1.length ≤ _; omega, by show (rwsOf (rdTe C.2.1 C.2.2).1).1.length ≤ _; omega⟩
    · exact h.2
/-- What Open answers, as Parse has it. -/
theorem open_cases {w0 w : World} {L : List Thing} {v : Value} (l : List UInt8) (h : Sep w0 L w) (hv : Sl w v (bv l)) :
    Calls Tryd.prog 19 #[v] w fun e w' => (∃ er, er ≠ 0 ∧ prsMsg l = (MgX.zero, er) ∧ e = .returned (.tuple #[.slice none 0 0, .int .i64 er]) ∧ Sep w0 L w') ∨ ∃ m u, prsMsg l = prsBody m ∧ m.length ≤ 65532 ∧ e = .returned (.tuple #[u, .int .i64 0]) ∧ Sep w0 (By u m :: L) w' := by
  by_cases h1 : 65536 < l.length
  · exact (open_long l hv h1).mono fun e w' ⟨he, hw⟩ => .inl ⟨5, by decide, by unfold prsMsg; rw [if_pos h1], he, hw ▸ h⟩
  · by_cases h2 : l.length < 4
    · exact (open_short l hv h2).mono fun e w' ⟨he, hw⟩ => .inl ⟨3, by decide, by unfold prsMsg; rw [if_neg h1, if_pos h2], he, hw ▸ h⟩
    · refine (open_any l (l.length - 4) h hv (by omega) (by omega)).mono fun e w' hh => ?_
      by_cases h3 : tailL (l.take (l.length - 4)) = l.drop (l.length - 4)
      · rw [if_pos h3] at hh
        obtain ⟨u, he, hs⟩ := hh
        exact .inr ⟨_, u, by unfold prsMsg; rw [if_neg h1, if_neg h2, if_pos h3], by rw [List.length_take]; omega, he, hs⟩
      · rw [if_neg h3] at hh
        exact .inl ⟨20, by decide, by unfold prsMsg; rw [if_neg h1, if_neg h2, if_neg h3], hh.1, hh.2⟩
theorem idx5f_0 (w : World) : (Instr.index 73 (.agg #[.func (.func 30) #[] #[], .func (.func 31) #[] #[], .func (.func 32) #[] #[], .func (.func 33) #[] #[], .func (.func 34) #[] #[]]) (.int .i64 0)).run Tryd.prog w = .ok (.func (.func 30) #[] #[]) w := by
  kernel_rfl
theorem idx5f_1 (w : World) : (Instr.index 73 (.agg #[.func (.func 30) #[] #[], .func (.func 31) #[] #[], .func (.func 32) #[] #[], .func (.func 33) #[] #[], .func (.func 34) #[] #[]]) (.int .i64 1)).run Tryd.prog w = .ok (.func (.func 31) #[] #[]) w := by
  kernel_rfl
theorem idx5f_2 (w : World) : (Instr.index 73 (.agg #[.func (.func 30) #[] #[], .func (.func 31) #[] #[], .func (.func 32) #[] #[], .func (.func 33) #[] #[], .func (.func 34) #[] #[]]) (.int .i64 2)).run Tryd.prog w = .ok (.func (.func 32) #[] #[]) w := by
  kernel_rfl
theorem idx5f_3 (w : World) : (Instr.index 73 (.agg #[.func (.func 30) #[] #[], .func (.func 31) #[] #[], .func (.func 32) #[] #[], .func (.func 33) #[] #[], .func (.func 34) #[] #[]]) (.int .i64 3)).run Tryd.prog w = .ok (.func (.func 33) #[] #[]) w := by
  kernel_rfl
theorem idx5f_4 (w : World) : (Instr.index 73 (.agg #[.func (.func 30) #[] #[], .func (.func 31) #[] #[], .func (.func 32) #[] #[], .func (.func 33) #[] #[], .func (.func 34) #[] #[]]) (.int .i64 4)).run Tryd.prog w = .ok (.func (.func 34) #[] #[]) w := by
  kernel_rfl
set_option maxRecDepth 100000 in
set_option maxHeartbeats 32000000 in
theorem mparse_any {w0 w : World} {L : List Thing} {v : Value} (l : List UInt8) (h : Sep w0 L w) (hv : Sl w v (bv l)) (hk : ∀ wx, Sep w0 L wx → KindsAt wx ∧ MKindsAt wx) :
    Calls Tryd.prog 9 #[v] w fun e w' => ∃ g, e = .returned (.tuple #[.agg (mgC g), .int .i64 (prsMsg l).2]) ∧ g.x = (prsMsg l).1 ∧ Sep w0 (LnR g.lv g.en.p.ls :: By g.cv g.ck :: EnT g.ev g.ps :: L) w' := by
  obtain ⟨a, c, rfl⟩ := bv_form hv
  obtain ⟨n, hn⟩ : ∃ n, n = l.length := ⟨_, rfl⟩
  rw [← hn] at hv ⊢
  have h1 := h.alloc (.cells #[.int .i64 0, .int .i64 0, .int .i64 0, .int .i64 0, .int .i64 0, .int .i64 0, .int .i64 0, .int .i64 0, .int .i64 0, .int .i64 0, .string ⟨#[]⟩, .int .i64 0, .int .i64 0, .slice none 0 0, .int .i64 0, .int .i64 0, .int .i64 0, .bool false, .int .i64 0, .slice none 0 0, .slice none 0 0, .int .i64 0] 39)
  obtain ⟨b2, hb2⟩ : ∃ z, z = w.heap.size := ⟨_, rfl⟩
  obtain ⟨w1, hw1⟩ : ∃ z, z = w.alloc (.cells #[.int .i64 0, .int .i64 0, .int .i64 0, .int .i64 0, .int .i64 0, .int .i64 0, .int .i64 0, .int .i64 0, .int .i64 0, .int .i64 0, .string ⟨#[]⟩, .int .i64 0, .int .i64 0, .slice none 0 0, .int .i64 0, .int .i64 0, .int .i64 0, .bool false, .int .i64 0, .slice none 0 0, .slice none 0 0, .int .i64 0] 39) := ⟨_, rfl⟩
  have hbw : Below w.heap.size w w1 := by rw [hw1]; exact (Below.refl _ w).alloc (Nat.le_refl _) _
  rw [← hw1, ← hb2] at h1
  have HO := Lib.hid (open_cases l h1 (hv.below hbw))
  have HK := Lib.hid hk
  clear h h1 hv hk hbw hn
  go_enter Tryd.func9, Tryd.ntmps9
  (try dsimp only); repeat' (first | go_values | go_skip | go_guarded | go_step | go_upon | go_back)
  (try rw [← hw1])
  (try rw [← hb2])
  clear hw1 hb2
  refine HO.out.mono ?_
  rintro r0 w2 (⟨er, her, hpm, rfl, h2⟩ | ⟨m, v1, hpm, hml, rfl, h2⟩)
  · have hne : (er != 0) = true := by rw [bne_iff_ne]; exact her
    have hne2 : (er == 0) = false := beq_eq_false_iff_ne.2 her
    have HPM := Lib.hid hpm
    have H2 := Lib.hid h2
    clear HO h2 hpm her
    have h11 := H2.out
    have HT2 := Lib.hid (h11.thereAt 0 22 (by show 22 ≤ 22; omega))
    have h12 := h11.storeW #[.int .i64 0, .int .i64 0, .int .i64 0, .int .i64 0, .int .i64 0, .int .i64 0, .int .i64 0, .int .i64 0, .int .i64 0, .int .i64 0, .string ⟨#[]⟩, .int .i64 0, .int .i64 0, .slice none 0 0, .int .i64 0, .int .i64 0, .int .i64 0, .bool false, .int .i64 0, .slice none 0 0, .slice none 0 0, .int .i64 0] rfl
    have HV := Lib.hid (h12.loadV 39 Tryd.underlying39 rfl (by kernel_rfl))
    have HF := Lib.hid (zeroS h12.drop)
    obtain ⟨wz, hwz⟩ : ∃ z, z = w2.setCells b2 0 [.int .i64 0, .int .i64 0, .int .i64 0, .int .i64 0, .int .i64 0, .int .i64 0, .int .i64 0, .int .i64 0, .int .i64 0, .int .i64 0, .string ⟨#[]⟩, .int .i64 0, .int .i64 0, .slice none 0 0, .int .i64 0, .int .i64 0, .int .i64 0, .bool false, .int .i64 0, .slice none 0 0, .slice none 0 0, .int .i64 0] := ⟨_, rfl⟩
    have hwz2 : wz = w2.setCells b2 0 (#[.int .i64 0, .int .i64 0, .int .i64 0, .int .i64 0, .int .i64 0, .int .i64 0, .int .i64 0, .int .i64 0, .int .i64 0, .int .i64 0, .string ⟨#[]⟩, .int .i64 0, .int .i64 0, .slice none 0 0, .int .i64 0, .int .i64 0, .int .i64 0, .bool false, .int .i64 0, .slice none 0 0, .slice none 0 0, .int .i64 0] : Array Value).toList := hwz
    rw [← hwz2] at HV HF
    clear h11 h12 hwz2
    (try dsimp only); repeat' (first | (with_reducible show wpList _ _ _ (Oper.mk _ (Op.store 39 _ _) _ _ _ _ :: _) _ _; refine stopP ?_) | go_values | go_skip | go_guarded | go_step | go_upon | go_back)
    unfold StopP
    refine wpList_store_mid rfl 39 (.tmp 2) (.tmp 18) rfl b2 0 #[.int .i64 0, .int .i64 0, .int .i64 0, .int .i64 0, .int .i64 0, .int .i64 0, .int .i64 0, .int .i64 0, .int .i64 0, .int .i64 0, .string ⟨#[]⟩, .int .i64 0, .int .i64 0, .slice none 0 0, .int .i64 0, .int .i64 0, .int .i64 0, .bool false, .int .i64 0, .slice none 0 0, .slice none 0 0, .int .i64 0] rfl rfl HT2.out (by kernel_rfl) (by first | kernel_rfl | assumption) ?_
    show wpList _ _ _ _ _ (w2.setCells b2 0 [.int .i64 0, .int .i64 0, .int .i64 0, .int .i64 0, .int .i64 0, .int .i64 0, .int .i64 0, .int .i64 0, .int .i64 0, .int .i64 0, .string ⟨#[]⟩, .int .i64 0, .int .i64 0, .slice none 0 0, .int .i64 0, .int .i64 0, .int .i64 0, .bool false, .int .i64 0, .slice none 0 0, .slice none 0 0, .int .i64 0])
    rw [← hwz]
    clear hwz HT2
    (try dsimp only); repeat' (first | go_values | go_skip | go_guarded | go_step | go_upon | go_back)
    exact bodyPost_ret (results_cell2 rfl rfl HV.out rfl) rfl ⟨gZ, by rw [HPM.out] <;> rfl, by rw [HPM.out] <;> rfl, HF.out⟩
  · have HPM := Lib.hid hpm
    have HML := Lib.hid hml
    have HRD := Lib.hid (read_sep v1 m w2 h2 h2.sl (by omega))
    obtain ⟨va, vc, rfl⟩ := h2.sl.len
    clear HO h2 hpm hml
    (try dsimp only); repeat' (first | go_values | go_skip | go_guarded | go_step | go_upon | go_back)
    refine HRD.out.mono ?_
    rintro r0 w3 ⟨gr, rfl, h3⟩
    have h4 := h3.alloc (.cells #[.int .i64 0, .int .i64 0, .int .i64 0, .int .i64 0, .int .i64 0, .int .i64 0, .int .i64 0, .int .i64 0, .int .i64 0, .int .i64 0, .string ⟨#[]⟩, .int .i64 0, .int .i64 0, .slice none 0 0, .int .i64 0, .int .i64 0, .int .i64 0, .bool false, .int .i64 0, .slice none 0 0, .slice none 0 0, .int .i64 0] 39)
    obtain ⟨bm, hbm⟩ : ∃ z, z = w3.heap.size := ⟨_, rfl⟩
    obtain ⟨w4, hw4⟩ : ∃ z, z = w3.alloc (.cells #[.int .i64 0, .int .i64 0, .int .i64 0, .int .i64 0, .int .i64 0, .int .i64 0, .int .i64 0, .int .i64 0, .int .i64 0, .int .i64 0, .string ⟨#[]⟩, .int .i64 0, .int .i64 0, .slice none 0 0, .int .i64 0, .int .i64 0, .int .i64 0, .bool false, .int .i64 0, .slice none 0 0, .slice none 0 0, .int .i64 0] 39) := ⟨_, rfl⟩
    rw [← hw4, ← hbm] at h4
    have HT2 := Lib.hid (h4.thereAt 0 22 (by show 22 ≤ 22; omega))
    have h5 := h4.storeW #[.int .i64 0, .int .i64 0, .int .i64 0, .int .i64 0, .int .i64 0, .int .i64 0, .int .i64 0, .int .i64 0, .int .i64 0, .int .i64 0, .string ⟨#[]⟩, .int .i64 0, .int .i64 0, .slice none 0 0, .int .i64 0, .int .i64 0, .int .i64 0, .bool false, .int .i64 0, .slice none 0 0, .slice none 0 0, .int .i64 0] rfl
    obtain ⟨w5, hw5⟩ : ∃ z, z = w4.setCells bm 0 [.int .i64 0, .int .i64 0, .int .i64 0, .int .i64 0, .int .i64 0, .int .i64 0, .int .i64 0, .int .i64 0, .int .i64 0, .int .i64 0, .string ⟨#[]⟩, .int .i64 0, .int .i64 0, .slice none 0 0, .int .i64 0, .int .i64 0, .int .i64 0, .bool false, .int .i64 0, .slice none 0 0, .slice none 0 0, .int .i64 0] := ⟨_, rfl⟩
    have hw52 : w5 = w4.setCells bm 0 (#[.int .i64 0, .int .i64 0, .int .i64 0, .int .i64 0, .int .i64 0, .int .i64 0, .int .i64 0, .int .i64 0, .int .i64 0, .int .i64 0, .string ⟨#[]⟩, .int .i64 0, .int .i64 0, .slice none 0 0, .int .i64 0, .int .i64 0, .int .i64 0, .bool false, .int .i64 0, .slice none 0 0, .slice none 0 0, .int .i64 0] : Array Value).toList := hw5
    rw [← hw52] at h5
    have h6 := (zeroS h5).pickL (M := [_, _, _, _, _, _, _]) [4, 3, 0, 1, 2, 6, 5] rfl
    have HS0 : Hid (RdS w0 (Cl b2 #[.int .i64 0, .int .i64 0, .int .i64 0, .int .i64 0, .int .i64 0, .int .i64 0, .int .i64 0, .int .i64 0, .int .i64 0, .int .i64 0, .string ⟨#[]⟩, .int .i64 0, .int .i64 0, .slice none 0 0, .int .i64 0, .int .i64 0, .int .i64 0, .bool false, .int .i64 0, .slice none 0 0, .slice none 0 0, .int .i64 0] 39 :: By (.slice va (bv m).length vc) m :: L) gr bm ⟨m, 0, MgX.zero⟩ w5) := Lib.hid ⟨gZ, rfl, h6⟩
    have HK1 : Hid (∀ wx, Sep w0 (Cl b2 #[.int .i64 0, .int .i64 0, .int .i64 0, .int .i64 0, .int .i64 0, .int .i64 0, .int .i64 0, .int .i64 0, .int .i64 0, .int .i64 0, .string ⟨#[]⟩, .int .i64 0, .int .i64 0, .slice none 0 0, .int .i64 0, .int .i64 0, .int .i64 0, .bool false, .int .i64 0, .slice none 0 0, .slice none 0 0, .int .i64 0] 39 :: By (.slice va (bv m).length vc) m :: L) wx → KindsAt wx ∧ MKindsAt wx) := Lib.hid fun wx hx => HK.out wx hx.drop.drop
    clear HRD h3 h4 h5 h6 hw52
    (try dsimp only); repeat' (first | (with_reducible show wpList _ _ _ (Oper.mk _ (Op.store 39 _ _) _ _ _ _ :: _) _ _; refine stopP ?_) | go_values | go_skip | go_guarded | go_step | go_upon | go_back)
    unfold StopP
    rw [← hw4, ← hbm]
    refine wpList_store_mid rfl 39 (.tmp 7) (.tmp 22) rfl bm 0 #[.int .i64 0, .int .i64 0, .int .i64 0, .int .i64 0, .int .i64 0, .int .i64 0, .int .i64 0, .int .i64 0, .int .i64 0, .int .i64 0, .string ⟨#[]⟩, .int .i64 0, .int .i64 0, .slice none 0 0, .int .i64 0, .int .i64 0, .int .i64 0, .bool false, .int .i64 0, .slice none 0 0, .slice none 0 0, .int .i64 0] rfl rfl HT2.out (by kernel_rfl) (by first | kernel_rfl | assumption) ?_
    show wpList _ _ _ _ _ (w4.setCells bm 0 [.int .i64 0, .int .i64 0, .int .i64 0, .int .i64 0, .int .i64 0, .int .i64 0, .int .i64 0, .int .i64 0, .int .i64 0, .int .i64 0, .string ⟨#[]⟩, .int .i64 0, .int .i64 0, .slice none 0 0, .int .i64 0, .int .i64 0, .int .i64 0, .bool false, .int .i64 0, .slice none 0 0, .slice none 0 0, .int .i64 0])
    rw [← hw5]
    clear hw4 hbm hw5 HT2
    (try dsimp only); repeat' (first | go_values | go_skip | go_guarded | go_step | go_upon | go_back)
    go_loopw [24] (fun i wr => ∃ j : Nat, j ≤ 5 ∧ i = .int .i64 j ∧ ∃ s, RdS w0 (Cl b2 #[.int .i64 0, .int .i64 0, .int .i64 0, .int .i64 0, .int .i64 0, .int .i64 0, .int .i64 0, .int .i64 0, .int .i64 0, .int .i64 0, .string ⟨#[]⟩, .int .i64 0, .int .i64 0, .slice none 0 0, .int .i64 0, .int .i64 0, .int .i64 0, .bool false, .int .i64 0, .slice none 0 0, .slice none 0 0, .int .i64 0] 39 :: By (.slice va (bv m).length vc) m :: L) gr bm s wr ∧ prsA 5 0 ⟨m, 0, MgX.zero⟩ = prsA (5 - j) j s ∧ LEN s) (fun i _ => 5 - (intOf i).toNat)
    case atStart => exact ⟨0, by decide, rfl, _, HS0.out, rfl, ⟨by have := HML.out; show m.length ≤ _; omega, by show (0 : Nat) ≤ _; omega, by show (0 : Nat) ≤ _; omega⟩⟩
    case round =>
      obtain ⟨j, hj, rfl, s, hs, hpr, hln⟩ := hrel
      have HLN := Lib.hid hln
      clear HS0 hln
      have hj5 : j = 0 ∨ j = 1 ∨ j = 2 ∨ j = 3 ∨ j = 4 ∨ j = 5 := by omega
      rcases hj5 with rfl | rfl | rfl | rfl | rfl | rfl
      · rw [show ((0 : Nat) : Int) = 0 from rfl]
        obtain ⟨T, hT⟩ : ∃ T, T = stp 0 s := ⟨_, rfl⟩
        have HC := Lib.hid (rdhead_any s hs)
        have hlen : LEN T.1 := by rw [hT]; exact stp_LEN 0 s HLN.out
        have hstep : prsA (5 - 0) 0 s = if T.2 ≠ 0 then T else prsA (5 - 1) 1 T.1 := by rw [hT]; rfl
        rw [show stHead s = T by rw [hT]; rfl] at HC
        have HLE := Lib.hid hlen
        have HST := Lib.hid hstep
        have HPR := Lib.hid hpr
        clear hs hlen hstep hpr hT
        (try dsimp only); repeat' (first | go_values | go_skip | go_guarded | go_step | go_upon | go_back)
        rw [idx5f_0]
        (try dsimp only); repeat' (first | go_values | go_skip | go_guarded | go_step | go_upon | go_back)
        refine HC.out.mono ?_
        rintro r0 w6 ⟨rfl, h6⟩
        clear HC
        by_cases ht : T.2 = 0
        · have HR : Hid (∃ s, RdS w0 (Cl b2 #[.int .i64 0, .int .i64 0, .int .i64 0, .int .i64 0, .int .i64 0, .int .i64 0, .int .i64 0, .int .i64 0, .int .i64 0, .int .i64 0, .string ⟨#[]⟩, .int .i64 0, .int .i64 0, .slice none 0 0, .int .i64 0, .int .i64 0, .int .i64 0, .bool false, .int .i64 0, .slice none 0 0, .slice none 0 0, .int .i64 0] 39 :: By (.slice va (bv m).length vc) m :: L) gr bm s w6 ∧ prsA 5 0 ⟨m, 0, MgX.zero⟩ = prsA (5 - 1) 1 s ∧ LEN s) := Lib.hid ⟨T.1, h6, by rw [HPR.out, HST.out, if_neg (by rw [ht]; simp)], HLE.out⟩
          rw [ht]
          clear h6 ht HPR HST HLE
          (try dsimp only); repeat' (first | go_values | go_skip | go_guarded | go_step | go_upon | go_back)
          go_roundw
          case rel => exact ⟨1, by decide, rfl, HR.out⟩
          case measure => simp [intOf]
        · obtain ⟨er, her⟩ : ∃ z, z = T.2 := ⟨_, rfl⟩
          have hfin : prsBody m = (MgX.zero, er) := by
            unfold prsBody
            rw [HPR.out, HST.out, if_pos ht]
            unfold prsFinM
            rw [if_pos ht, her]
          rw [← her] at ht ⊢
          have hne : (er != 0) = true := by rw [bne_iff_ne]; exact ht
          have hne2 : (er == 0) = false := beq_eq_false_iff_ne.2 ht
          have HFIN := Lib.hid hfin
          obtain ⟨g6, -, h7⟩ := h6
          have H7 : Hid (Sep w0 (Cl b2 #[.int .i64 0, .int .i64 0, .int .i64 0, .int .i64 0, .int .i64 0, .int .i64 0, .int .i64 0, .int .i64 0, .int .i64 0, .int .i64 0, .string ⟨#[]⟩, .int .i64 0, .int .i64 0, .slice none 0 0, .int .i64 0, .int .i64 0, .int .i64 0, .bool false, .int .i64 0, .slice none 0 0, .slice none 0 0, .int .i64 0] 39 :: L) w6) := Lib.hid ((h7.pickL (M := [_, _, _, _, _, _, _]) [5] rfl))
          clear h7 ht her HPR HST HLE hfin
          have h11 := H7.out
          have HT2 := Lib.hid (h11.thereAt 0 22 (by show 22 ≤ 22; omega))
          have h12 := h11.storeW #[.int .i64 0, .int .i64 0, .int .i64 0, .int .i64 0, .int .i64 0, .int .i64 0, .int .i64 0, .int .i64 0, .int .i64 0, .int .i64 0, .string ⟨#[]⟩, .int .i64 0, .int .i64 0, .slice none 0 0, .int .i64 0, .int .i64 0, .int .i64 0, .bool false, .int .i64 0, .slice none 0 0, .slice none 0 0, .int .i64 0] rfl
          have HV := Lib.hid (h12.loadV 39 Tryd.underlying39 rfl (by kernel_rfl))
          have HF := Lib.hid (zeroS h12.drop)
          obtain ⟨wz, hwz⟩ : ∃ z, z = w6.setCells b2 0 [.int .i64 0, .int .i64 0, .int .i64 0, .int .i64 0, .int .i64 0, .int .i64 0, .int .i64 0, .int .i64 0, .int .i64 0, .int .i64 0, .string ⟨#[]⟩, .int .i64 0, .int .i64 0, .slice none 0 0, .int .i64 0, .int .i64 0, .int .i64 0, .bool false, .int .i64 0, .slice none 0 0, .slice none 0 0, .int .i64 0] := ⟨_, rfl⟩
          have hwz2 : wz = w6.setCells b2 0 (#[.int .i64 0, .int .i64 0, .int .i64 0, .int .i64 0, .int .i64 0, .int .i64 0, .int .i64 0, .int .i64 0, .int .i64 0, .int .i64 0, .string ⟨#[]⟩, .int .i64 0, .int .i64 0, .slice none 0 0, .int .i64 0, .int .i64 0, .int .i64 0, .bool false, .int .i64 0, .slice none 0 0, .slice none 0 0, .int .i64 0] : Array Value).toList := hwz
          rw [← hwz2] at HV HF
          clear h11 h12 hwz2
          (try dsimp only); repeat' (first | (with_reducible show wpList _ _ _ (Oper.mk _ (Op.store 39 _ _) _ _ _ _ :: _) _ _; refine stopP ?_) | go_values | go_skip | go_guarded | go_step | go_upon | go_back)
          unfold StopP
          refine wpList_store_mid rfl 39 (.tmp 2) (.tmp 32) rfl b2 0 #[.int .i64 0, .int .i64 0, .int .i64 0, .int .i64 0, .int .i64 0, .int .i64 0, .int .i64 0, .int .i64 0, .int .i64 0, .int .i64 0, .string ⟨#[]⟩, .int .i64 0, .int .i64 0, .slice none 0 0, .int .i64 0, .int .i64 0, .int .i64 0, .bool false, .int .i64 0, .slice none 0 0, .slice none 0 0, .int .i64 0] rfl rfl HT2.out (by kernel_rfl) (by first | kernel_rfl | assumption) ?_
          show wpList _ _ _ _ _ (w6.setCells b2 0 [.int .i64 0, .int .i64 0, .int .i64 0, .int .i64 0, .int .i64 0, .int .i64 0, .int .i64 0, .int .i64 0, .int .i64 0, .int .i64 0, .string ⟨#[]⟩, .int .i64 0, .int .i64 0, .slice none 0 0, .int .i64 0, .int .i64 0, .int .i64 0, .bool false, .int .i64 0, .slice none 0 0, .slice none 0 0, .int .i64 0])
          rw [← hwz]
          clear hwz HT2
          (try dsimp only); repeat' (first | go_values | go_skip | go_guarded | go_step | go_upon | go_back)
          exact bodyPost_ret (results_cell2 rfl rfl HV.out rfl) rfl ⟨gZ, by rw [HPM.out, HFIN.out] <;> rfl, by rw [HPM.out, HFIN.out] <;> rfl, HF.out⟩
      · rw [show ((1 : Nat) : Int) = 1 from rfl]
        obtain ⟨T, hT⟩ : ∃ T, T = stp 1 s := ⟨_, rfl⟩
        have HC := Lib.hid (rdnums_any s hs HK1.out)
        have hlen : LEN T.1 := by rw [hT]; exact stp_LEN 1 s HLN.out
        have hstep : prsA (5 - 1) 1 s = if T.2 ≠ 0 then T else prsA (5 - 2) 2 T.1 := by rw [hT]; rfl
        rw [show stNums s = T by rw [hT]; rfl] at HC
        have HLE := Lib.hid hlen
        have HST := Lib.hid hstep
        have HPR := Lib.hid hpr
        clear hs hlen hstep hpr hT
        (try dsimp only); repeat' (first | go_values | go_skip | go_guarded | go_step | go_upon | go_back)
        rw [idx5f_1]
        (try dsimp only); repeat' (first | go_values | go_skip | go_guarded | go_step | go_upon | go_back)
        refine HC.out.mono ?_
        rintro r0 w6 ⟨rfl, h6⟩
        clear HC
        by_cases ht : T.2 = 0
        · have HR : Hid (∃ s, RdS w0 (Cl b2 #[.int .i64 0, .int .i64 0, .int .i64 0, .int .i64 0, .int .i64 0, .int .i64 0, .int .i64 0, .int .i64 0, .int .i64 0, .int .i64 0, .string ⟨#[]⟩, .int .i64 0, .int .i64 0, .slice none 0 0, .int .i64 0, .int .i64 0, .int .i64 0, .bool false, .int .i64 0, .slice none 0 0, .slice none 0 0, .int .i64 0] 39 :: By (.slice va (bv m).length vc) m :: L) gr bm s w6 ∧ prsA 5 0 ⟨m, 0, MgX.zero⟩ = prsA (5 - 2) 2 s ∧ LEN s) := Lib.hid ⟨T.1, h6, by rw [HPR.out, HST.out, if_neg (by rw [ht]; simp)], HLE.out⟩
          rw [ht]
          clear h6 ht HPR HST HLE
          (try dsimp only); repeat' (first | go_values | go_skip | go_guarded | go_step | go_upon | go_back)
          go_roundw
          case rel => exact ⟨2, by decide, rfl, HR.out⟩
          case measure => simp [intOf]
        · obtain ⟨er, her⟩ : ∃ z, z = T.2 := ⟨_, rfl⟩
          have hfin : prsBody m = (MgX.zero, er) := by
            unfold prsBody
            rw [HPR.out, HST.out, if_pos ht]
            unfold prsFinM
            rw [if_pos ht, her]
          rw [← her] at ht ⊢
          have hne : (er != 0) = true := by rw [bne_iff_ne]; exact ht
          have hne2 : (er == 0) = false := beq_eq_false_iff_ne.2 ht
          have HFIN := Lib.hid hfin
          obtain ⟨g6, -, h7⟩ := h6
          have H7 : Hid (Sep w0 (Cl b2 #[.int .i64 0, .int .i64 0, .int .i64 0, .int .i64 0, .int .i64 0, .int .i64 0, .int .i64 0, .int .i64 0, .int .i64 0, .int .i64 0, .string ⟨#[]⟩, .int .i64 0, .int .i64 0, .slice none 0 0, .int .i64 0, .int .i64 0, .int .i64 0, .bool false, .int .i64 0, .slice none 0 0, .slice none 0 0, .int .i64 0] 39 :: L) w6) := Lib.hid ((h7.pickL (M := [_, _, _, _, _, _, _]) [5] rfl))
          clear h7 ht her HPR HST HLE hfin
          have h11 := H7.out
          have HT2 := Lib.hid (h11.thereAt 0 22 (by show 22 ≤ 22; omega))
          have h12 := h11.storeW #[.int .i64 0, .int .i64 0, .int .i64 0, .int .i64 0, .int .i64 0, .int .i64 0, .int .i64 0, .int .i64 0, .int .i64 0, .int .i64 0, .string ⟨#[]⟩, .int .i64 0, .int .i64 0, .slice none 0 0, .int .i64 0, .int .i64 0, .int .i64 0, .bool false, .int .i64 0, .slice none 0 0, .slice none 0 0, .int .i64 0] rfl
          have HV := Lib.hid (h12.loadV 39 Tryd.underlying39 rfl (by kernel_rfl))
          have HF := Lib.hid (zeroS h12.drop)
          obtain ⟨wz, hwz⟩ : ∃ z, z = w6.setCells b2 0 [.int .i64 0, .int .i64 0, .int .i64 0, .int .i64 0, .int .i64 0, .int .i64 0, .int .i64 0, .int .i64 0, .int .i64 0, .int .i64 0, .string ⟨#[]⟩, .int .i64 0, .int .i64 0, .slice none 0 0, .int .i64 0, .int .i64 0, .int .i64 0, .bool false, .int .i64 0, .slice none 0 0, .slice none 0 0, .int .i64 0] := ⟨_, rfl⟩
          have hwz2 : wz = w6.setCells b2 0 (#[.int .i64 0, .int .i64 0, .int .i64 0, .int .i64 0, .int .i64 0, .int .i64 0, .int .i64 0, .int .i64 0, .int .i64 0, .int .i64 0, .string ⟨#[]⟩, .int .i64 0, .int .i64 0, .slice none 0 0, .int .i64 0, .int .i64 0, .int .i64 0, .bool false, .int .i64 0, .slice none 0 0, .slice none 0 0, .int .i64 0] : Array Value).toList := hwz
          rw [← hwz2] at HV HF
          clear h11 h12 hwz2
          (try dsimp only); repeat' (first | (with_reducible show wpList _ _ _ (Oper.mk _ (Op.store 39 _ _) _ _ _ _ :: _) _ _; refine stopP ?_) | go_values | go_skip | go_guarded | go_step | go_upon | go_back)
          unfold StopP
          refine wpList_store_mid rfl 39 (.tmp 2) (.tmp 32) rfl b2 0 #[.int .i64 0, .int .i64 0, .int .i64 0, .int .i64 0, .int .i64 0, .int .i64 0, .int .i64 0, .int .i64 0, .int .i64 0, .int .i64 0, .string ⟨#[]⟩, .int .i64 0, .int .i64 0, .slice none 0 0, .int .i64 0, .int .i64 0, .int .i64 0, .bool false, .int .i64 0, .slice none 0 0, .slice none 0 0, .int .i64 0] rfl rfl HT2.out (by kernel_rfl) (by first | kernel_rfl | assumption) ?_
          show wpList _ _ _ _ _ (w6.setCells b2 0 [.int .i64 0, .int .i64 0, .int .i64 0, .int .i64 0, .int .i64 0, .int .i64 0, .int .i64 0, .int .i64 0, .int .i64 0, .int .i64 0, .string ⟨#[]⟩, .int .i64 0, .int .i64 0, .slice none 0 0, .int .i64 0, .int .i64 0, .int .i64 0, .bool false, .int .i64 0, .slice none 0 0, .slice none 0 0, .int .i64 0])
          rw [← hwz]
          clear hwz HT2
          (try dsimp only); repeat' (first | go_values | go_skip | go_guarded | go_step | go_upon | go_back)
          exact bodyPost_ret (results_cell2 rfl rfl HV.out rfl) rfl ⟨gZ, by rw [HPM.out, HFIN.out] <;> rfl, by rw [HPM.out, HFIN.out] <;> rfl, HF.out⟩
      · rw [show ((2 : Nat) : Int) = 2 from rfl]
        obtain ⟨T, hT⟩ : ∃ T, T = stp 2 s := ⟨_, rfl⟩
        have HC := Lib.hid (rdentry_any s hs HK1.out HLN.out.1)
        have hlen : LEN T.1 := by rw [hT]; exact stp_LEN 2 s HLN.out
        have hstep : prsA (5 - 2) 2 s = if T.2 ≠ 0 then T else prsA (5 - 3) 3 T.1 := by rw [hT]; rfl
        rw [show stEntry s = T by rw [hT]; rfl] at HC
        have HLE := Lib.hid hlen
        have HST := Lib.hid hstep
        have HPR := Lib.hid hpr
        clear hs hlen hstep hpr hT
        (try dsimp only); repeat' (first | go_values | go_skip | go_guarded | go_step | go_upon | go_back)
        rw [idx5f_2]
        (try dsimp only); repeat' (first | go_values | go_skip | go_guarded | go_step | go_upon | go_back)
        refine HC.out.mono ?_
        rintro r0 w6 ⟨rfl, h6⟩
        clear HC
        by_cases ht : T.2 = 0
        · have HR : Hid (∃ s, RdS w0 (Cl b2 #[.int .i64 0, .int .i64 0, .int .i64 0, .int .i64 0, .int .i64 0, .int .i64 0, .int .i64 0, .int .i64 0, .int .i64 0, .int .i64 0, .string ⟨#[]⟩, .int .i64 0, .int .i64 0, .slice none 0 0, .int .i64 0, .int .i64 0, .int .i64 0, .bool false, .int .i64 0, .slice none 0 0, .slice none 0 0, .int .i64 0] 39 :: By (.slice va (bv m).length vc) m :: L) gr bm s w6 ∧ prsA 5 0 ⟨m, 0, MgX.zero⟩ = prsA (5 - 3) 3 s ∧ LEN s) := Lib.hid ⟨T.1, h6, by rw [HPR.out, HST.out, if_neg (by rw [ht]; simp)], HLE.out⟩
          rw [ht]
          clear h6 ht HPR HST HLE
          (try dsimp only); repeat' (first | go_values | go_skip | go_guarded | go_step | go_upon | go_back)
          go_roundw
          case rel => exact ⟨3, by decide, rfl, HR.out⟩
          case measure => simp [intOf]
        · obtain ⟨er, her⟩ : ∃ z, z = T.2 := ⟨_, rfl⟩
          have hfin : prsBody m = (MgX.zero, er) := by
            unfold prsBody
            rw [HPR.out, HST.out, if_pos ht]
            unfold prsFinM
            rw [if_pos ht, her]
          rw [← her] at ht ⊢
          have hne : (er != 0) = true := by rw [bne_iff_ne]; exact ht
          have hne2 : (er == 0) = false := beq_eq_false_iff_ne.2 ht
          have HFIN := Lib.hid hfin
          obtain ⟨g6, -, h7⟩ := h6
          have H7 : Hid (Sep w0 (Cl b2 #[.int .i64 0, .int .i64 0, .int .i64 0, .int .i64 0, .int .i64 0, .int .i64 0, .int .i64 0, .int .i64 0, .int .i64 0, .int .i64 0, .string ⟨#[]⟩, .int .i64 0, .int .i64 0, .slice none 0 0, .int .i64 0, .int .i64 0, .int .i64 0, .bool false, .int .i64 0, .slice none 0 0, .slice none 0 0, .int .i64 0] 39 :: L) w6) := Lib.hid ((h7.pickL (M := [_, _, _, _, _, _, _]) [5] rfl))
          clear h7 ht her HPR HST HLE hfin
          have h11 := H7.out
          have HT2 := Lib.hid (h11.thereAt 0 22 (by show 22 ≤ 22; omega))
          have h12 := h11.storeW #[.int .i64 0, .int .i64 0, .int .i64 0, .int .i64 0, .int .i64 0, .int .i64 0, .int .i64 0, .int .i64 0, .int .i64 0, .int .i64 0, .string ⟨#[]⟩, .int .i64 0, .int .i64 0, .slice none 0 0, .int .i64 0, .int .i64 0, .int .i64 0, .bool false, .int .i64 0, .slice none 0 0, .slice none 0 0, .int .i64 0] rfl
          have HV := Lib.hid (h12.loadV 39 Tryd.underlying39 rfl (by kernel_rfl))
          have HF := Lib.hid (zeroS h12.drop)
          obtain ⟨wz, hwz⟩ : ∃ z, z = w6.setCells b2 0 [.int .i64 0, .int .i64 0, .int .i64 0, .int .i64 0, .int .i64 0, .int .i64 0, .int .i64 0, .int .i64 0, .int .i64 0, .int .i64 0, .string ⟨#[]⟩, .int .i64 0, .int .i64 0, .slice none 0 0, .int .i64 0, .int .i64 0, .int .i64 0, .bool false, .int .i64 0, .slice none 0 0, .slice none 0 0, .int .i64 0] := ⟨_, rfl⟩
          have hwz2 : wz = w6.setCells b2 0 (#[.int .i64 0, .int .i64 0, .int .i64 0, .int .i64 0, .int .i64 0, .int .i64 0, .int .i64 0, .int .i64 0, .int .i64 0, .int .i64 0, .string ⟨#[]⟩, .int .i64 0, .int .i64 0, .slice none 0 0, .int .i64 0, .int .i64 0, .int .i64 0, .bool false, .int .i64 0, .slice none 0 0, .slice none 0 0, .int .i64 0] : Array Value).toList := hwz
          rw [← hwz2] at HV HF
          clear h11 h12 hwz2
          (try dsimp only); repeat' (first | (with_reducible show wpList _ _ _ (Oper.mk _ (Op.store 39 _ _) _ _ _ _ :: _) _ _; refine stopP ?_) | go_values | go_skip | go_guarded | go_step | go_upon | go_back)
          unfold StopP
          refine wpList_store_mid rfl 39 (.tmp 2) (.tmp 32) rfl b2 0 #[.int .i64 0, .int .i64 0, .int .i64 0, .int .i64 0, .int .i64 0, .int .i64 0, .int .i64 0, .int .i64 0, .int .i64 0, .int .i64 0, .string ⟨#[]⟩, .int .i64 0, .int .i64 0, .slice none 0 0, .int .i64 0, .int .i64 0, .int .i64 0, .bool false, .int .i64 0, .slice none 0 0, .slice none 0 0, .int .i64 0] rfl rfl HT2.out (by kernel_rfl) (by first | kernel_rfl | assumption) ?_
          show wpList _ _ _ _ _ (w6.setCells b2 0 [.int .i64 0, .int .i64 0, .int .i64 0, .int .i64 0, .int .i64 0, .int .i64 0, .int .i64 0, .int .i64 0, .int .i64 0, .int .i64 0, .string ⟨#[]⟩, .int .i64 0, .int .i64 0, .slice none 0 0, .int .i64 0, .int .i64 0, .int .i64 0, .bool false, .int .i64 0, .slice none 0 0, .slice none 0 0, .int .i64 0])
          rw [← hwz]
          clear hwz HT2
          (try dsimp only); repeat' (first | go_values | go_skip | go_guarded | go_step | go_upon | go_back)
          exact bodyPost_ret (results_cell2 rfl rfl HV.out rfl) rfl ⟨gZ, by rw [HPM.out, HFIN.out] <;> rfl, by rw [HPM.out, HFIN.out] <;> rfl, HF.out⟩
      · rw [show ((3 : Nat) : Int) = 3 from rfl]
        obtain ⟨T, hT⟩ : ∃ T, T = stp 3 s := ⟨_, rfl⟩
        have HC := Lib.hid (rdres_any s hs HK1.out HLN.out.1)
        have hlen : LEN T.1 := by rw [hT]; exact stp_LEN 3 s HLN.out
        have hstep : prsA (5 - 3) 3 s = if T.2 ≠ 0 then T else prsA (5 - 4) 4 T.1 := by rw [hT]; rfl
        rw [show stRes s = T by rw [hT]; rfl] at HC
        have HLE := Lib.hid hlen
        have HST := Lib.hid hstep
        have HPR := Lib.hid hpr
        clear hs hlen hstep hpr hT
        (try dsimp only); repeat' (first | go_values | go_skip | go_guarded | go_step | go_upon | go_back)
        rw [idx5f_3]
        (try dsimp only); repeat' (first | go_values | go_skip | go_guarded | go_step | go_upon | go_back)
        refine HC.out.mono ?_
        rintro r0 w6 ⟨rfl, h6⟩
        clear HC
        by_cases ht : T.2 = 0
        · have HR : Hid (∃ s, RdS w0 (Cl b2 #[.int .i64 0, .int .i64 0, .int .i64 0, .int .i64 0, .int .i64 0, .int .i64 0, .int .i64 0, .int .i64 0, .int .i64 0, .int .i64 0, .string ⟨#[]⟩, .int .i64 0, .int .i64 0, .slice none 0 0, .int .i64 0, .int .i64 0, .int .i64 0, .bool false, .int .i64 0, .slice none 0 0, .slice none 0 0, .int .i64 0] 39 :: By (.slice va (bv m).length vc) m :: L) gr bm s w6 ∧ prsA 5 0 ⟨m, 0, MgX.zero⟩ = prsA (5 - 4) 4 s ∧ LEN s) := Lib.hid ⟨T.1, h6, by rw [HPR.out, HST.out, if_neg (by rw [ht]; simp)], HLE.out⟩
          rw [ht]
          clear h6 ht HPR HST HLE
          (try dsimp only); repeat' (first | go_values | go_skip | go_guarded | go_step | go_upon | go_back)
          go_roundw
          case rel => exact ⟨4, by decide, rfl, HR.out⟩
          case measure => simp [intOf]
        · obtain ⟨er, her⟩ : ∃ z, z = T.2 := ⟨_, rfl⟩
          have hfin : prsBody m = (MgX.zero, er) := by
            unfold prsBody
            rw [HPR.out, HST.out, if_pos ht]
            unfold prsFinM
            rw [if_pos ht, her]
          rw [← her] at ht ⊢
          have hne : (er != 0) = true := by rw [bne_iff_ne]; exact ht
          have hne2 : (er == 0) = false := beq_eq_false_iff_ne.2 ht
          have HFIN := Lib.hid hfin
          obtain ⟨g6, -, h7⟩ := h6
          have H7 : Hid (Sep w0 (Cl b2 #[.int .i64 0, .int .i64 0, .int .i64 0, .int .i64 0, .int .i64 0, .int .i64 0, .int .i64 0, .int .i64 0, .int .i64 0, .int .i64 0, .string ⟨#[]⟩, .int .i64 0, .int .i64 0, .slice none 0 0, .int .i64 0, .int .i64 0, .int .i64 0, .bool false, .int .i64 0, .slice none 0 0, .slice none 0 0, .int .i64 0] 39 :: L) w6) := Lib.hid ((h7.pickL (M := [_, _, _, _, _, _, _]) [5] rfl))
          clear h7 ht her HPR HST HLE hfin
          have h11 := H7.out
          have HT2 := Lib.hid (h11.thereAt 0 22 (by show 22 ≤ 22; omega))
          have h12 := h11.storeW #[.int .i64 0, .int .i64 0, .int .i64 0, .int .i64 0, .int .i64 0, .int .i64 0, .int .i64 0, .int .i64 0, .int .i64 0, .int .i64 0, .string ⟨#[]⟩, .int .i64 0, .int .i64 0, .slice none 0 0, .int .i64 0, .int .i64 0, .int .i64 0, .bool false, .int .i64 0, .slice none 0 0, .slice none 0 0, .int .i64 0] rfl
          have HV := Lib.hid (h12.loadV 39 Tryd.underlying39 rfl (by kernel_rfl))
          have HF := Lib.hid (zeroS h12.drop)
          obtain ⟨wz, hwz⟩ : ∃ z, z = w6.setCells b2 0 [.int .i64 0, .int .i64 0, .int .i64 0, .int .i64 0, .int .i64 0, .int .i64 0, .int .i64 0, .int .i64 0, .int .i64 0, .int .i64 0, .string ⟨#[]⟩, .int .i64 0, .int .i64 0, .slice none 0 0, .int .i64 0, .int .i64 0, .int .i64 0, .bool false, .int .i64 0, .slice none 0 0, .slice none 0 0, .int .i64 0] := ⟨_, rfl⟩
          have hwz2 : wz = w6.setCells b2 0 (#[.int .i64 0, .int .i64 0, .int .i64 0, .int .i64 0, .int .i64 0, .int .i64 0, .int .i64 0, .int .i64 0, .int .i64 0, .int .i64 0, .string ⟨#[]⟩, .int .i64 0, .int .i64 0, .slice none 0 0, .int .i64 0, .int .i64 0, .int .i64 0, .bool false, .int .i64 0, .slice none 0 0, .slice none 0 0, .int .i64 0] : Array Value).toList := hwz
          rw [← hwz2] at HV HF
          clear h11 h12 hwz2
          (try dsimp only); repeat' (first | (with_reducible show wpList _ _ _ (Oper.mk _ (Op.store 39 _ _) _ _ _ _ :: _) _ _; refine stopP ?_) | go_values | go_skip | go_guarded | go_step | go_upon | go_back)
          unfold StopP
          refine wpList_store_mid rfl 39 (.tmp 2) (.tmp 32) rfl b2 0 #[.int .i64 0, .int .i64 0, .int .i64 0, .int .i64 0, .int .i64 0, .int .i64 0, .int .i64 0, .int .i64 0, .int .i64 0, .int .i64 0, .string ⟨#[]⟩, .int .i64 0, .int .i64 0, .slice none 0 0, .int .i64 0, .int .i64 0, .int .i64 0, .bool false, .int .i64 0, .slice none 0 0, .slice none 0 0, .int .i64 0] rfl rfl HT2.out (by kernel_rfl) (by first | kernel_rfl | assumption) ?_
          show wpList _ _ _ _ _ (w6.setCells b2 0 [.int .i64 0, .int .i64 0, .int .i64 0, .int .i64 0, .int .i64 0, .int .i64 0, .int .i64 0, .int .i64 0, .int .i64 0, .int .i64 0, .string ⟨#[]⟩, .int .i64 0, .int .i64 0, .slice none 0 0, .int .i64 0, .int .i64 0, .int .i64 0, .bool false, .int .i64 0, .slice none 0 0, .slice none 0 0, .int .i64 0])
          rw [← hwz]
          clear hwz HT2
          (try dsimp only); repeat' (first | go_values | go_skip | go_guarded | go_step | go_upon | go_back)
          exact bodyPost_ret (results_cell2 rfl rfl HV.out rfl) rfl ⟨gZ, by rw [HPM.out, HFIN.out] <;> rfl, by rw [HPM.out, HFIN.out] <;> rfl, HF.out⟩
      · rw [show ((4 : Nat) : Int) = 4 from rfl]
        obtain ⟨T, hT⟩ : ∃ T, T = stp 4 s := ⟨_, rfl⟩
        have HC := Lib.hid (rdimg_any s hs HK1.out HLN.out.1)
        have hlen : LEN T.1 := by rw [hT]; exact stp_LEN 4 s HLN.out
        have hstep : prsA (5 - 4) 4 s = if T.2 ≠ 0 then T else prsA (5 - 5) 5 T.1 := by rw [hT]; rfl
        rw [show stImage s = T by rw [hT]; rfl] at HC
        have HLE := Lib.hid hlen
        have HST := Lib.hid hstep
        have HPR := Lib.hid hpr
        clear hs hlen hstep hpr hT
        (try dsimp only); repeat' (first | go_values | go_skip | go_guarded | go_step | go_upon | go_back)
        rw [idx5f_4]
        (try dsimp only); repeat' (first | go_values | go_skip | go_guarded | go_step | go_upon | go_back)
        refine HC.out.mono ?_
        rintro r0 w6 ⟨rfl, h6⟩
        clear HC
        by_cases ht : T.2 = 0
        · have HR : Hid (∃ s, RdS w0 (Cl b2 #[.int .i64 0, .int .i64 0, .int .i64 0, .int .i64 0, .int .i64 0, .int .i64 0, .int .i64 0, .int .i64 0, .int .i64 0, .int .i64 0, .string ⟨#[]⟩, .int .i64 0, .int .i64 0, .slice none 0 0, .int .i64 0, .int .i64 0, .int .i64 0, .bool false, .int .i64 0, .slice none 0 0, .slice none 0 0, .int .i64 0] 39 :: By (.slice va (bv m).length vc) m :: L) gr bm s w6 ∧ prsA 5 0 ⟨m, 0, MgX.zero⟩ = prsA (5 - 5) 5 s ∧ LEN s) := Lib.hid ⟨T.1, h6, by rw [HPR.out, HST.out, if_neg (by rw [ht]; simp)], HLE.out⟩
          rw [ht]
          clear h6 ht HPR HST HLE
          (try dsimp only); repeat' (first | go_values | go_skip | go_guarded | go_step | go_upon | go_back)
          go_roundw
          case rel => exact ⟨5, by decide, rfl, HR.out⟩
          case measure => simp [intOf]
        · obtain ⟨er, her⟩ : ∃ z, z = T.2 := ⟨_, rfl⟩
          have hfin : prsBody m = (MgX.zero, er) := by
            unfold prsBody
            rw [HPR.out, HST.out, if_pos ht]
            unfold prsFinM
            rw [if_pos ht, her]
          rw [← her] at ht ⊢
          have hne : (er != 0) = true := by rw [bne_iff_ne]; exact ht
          have hne2 : (er == 0) = false := beq_eq_false_iff_ne.2 ht
          have HFIN := Lib.hid hfin
          obtain ⟨g6, -, h7⟩ := h6
          have H7 : Hid (Sep w0 (Cl b2 #[.int .i64 0, .int .i64 0, .int .i64 0, .int .i64 0, .int .i64 0, .int .i64 0, .int .i64 0, .int .i64 0, .int .i64 0, .int .i64 0, .string ⟨#[]⟩, .int .i64 0, .int .i64 0, .slice none 0 0, .int .i64 0, .int .i64 0, .int .i64 0, .bool false, .int .i64 0, .slice none 0 0, .slice none 0 0, .int .i64 0] 39 :: L) w6) := Lib.hid ((h7.pickL (M := [_, _, _, _, _, _, _]) [5] rfl))
          clear h7 ht her HPR HST HLE hfin
          have h11 := H7.out
          have HT2 := Lib.hid (h11.thereAt 0 22 (by show 22 ≤ 22; omega))
          have h12 := h11.storeW #[.int .i64 0, .int .i64 0, .int .i64 0, .int .i64 0, .int .i64 0, .int .i64 0, .int .i64 0, .int .i64 0, .int .i64 0, .int .i64 0, .string ⟨#[]⟩, .int .i64 0, .int .i64 0, .slice none 0 0, .int .i64 0, .int .i64 0, .int .i64 0, .bool false, .int .i64 0, .slice none 0 0, .slice none 0 0, .int .i64 0] rfl
          have HV := Lib.hid (h12.loadV 39 Tryd.underlying39 rfl (by kernel_rfl))
          have HF := Lib.hid (zeroS h12.drop)
          obtain ⟨wz, hwz⟩ : ∃ z, z = w6.setCells b2 0 [.int .i64 0, .int .i64 0, .int .i64 0, .int .i64 0, .int .i64 0, .int .i64 0, .int .i64 0, .int .i64 0, .int .i64 0, .int .i64 0, .string ⟨#[]⟩, .int .i64 0, .int .i64 0, .slice none 0 0, .int .i64 0, .int .i64 0, .int .i64 0, .bool false, .int .i64 0, .slice none 0 0, .slice none 0 0, .int .i64 0] := ⟨_, rfl⟩
          have hwz2 : wz = w6.setCells b2 0 (#[.int .i64 0, .int .i64 0, .int .i64 0, .int .i64 0, .int .i64 0, .int .i64 0, .int .i64 0, .int .i64 0, .int .i64 0, .int .i64 0, .string ⟨#[]⟩, .int .i64 0, .int .i64 0, .slice none 0 0, .int .i64 0, .int .i64 0, .int .i64 0, .bool false, .int .i64 0, .slice none 0 0, .slice none 0 0, .int .i64 0] : Array Value).toList := hwz
          rw [← hwz2] at HV HF
          clear h11 h12 hwz2
          (try dsimp only); repeat' (first | (with_reducible show wpList _ _ _ (Oper.mk _ (Op.store 39 _ _) _ _ _ _ :: _) _ _; refine stopP ?_) | go_values | go_skip | go_guarded | go_step | go_upon | go_back)
          unfold StopP
          refine wpList_store_mid rfl 39 (.tmp 2) (.tmp 32) rfl b2 0 #[.int .i64 0, .int .i64 0, .int .i64 0, .int .i64 0, .int .i64 0, .int .i64 0, .int .i64 0, .int .i64 0, .int .i64 0, .int .i64 0, .string ⟨#[]⟩, .int .i64 0, .int .i64 0, .slice none 0 0, .int .i64 0, .int .i64 0, .int .i64 0, .bool false, .int .i64 0, .slice none 0 0, .slice none 0 0, .int .i64 0] rfl rfl HT2.out (by kernel_rfl) (by first | kernel_rfl | assumption) ?_
          show wpList _ _ _ _ _ (w6.setCells b2 0 [.int .i64 0, .int .i64 0, .int .i64 0, .int .i64 0, .int .i64 0, .int .i64 0, .int .i64 0, .int .i64 0, .int .i64 0, .int .i64 0, .string ⟨#[]⟩, .int .i64 0, .int .i64 0, .slice none 0 0, .int .i64 0, .int .i64 0, .int .i64 0, .bool false, .int .i64 0, .slice none 0 0, .slice none 0 0, .int .i64 0])
          rw [← hwz]
          clear hwz HT2
          (try dsimp only); repeat' (first | go_values | go_skip | go_guarded | go_step | go_upon | go_back)
          exact bodyPost_ret (results_cell2 rfl rfl HV.out rfl) rfl ⟨gZ, by rw [HPM.out, HFIN.out] <;> rfl, by rw [HPM.out, HFIN.out] <;> rfl, HF.out⟩
      · rw [show ((5 : Nat) : Int) = 5 from rfl]
        obtain ⟨g, hgx, h7⟩ := hs
        have hpb : prsBody m = if endErr s.r s.e = 0 ∧ chkX s.x = true then (s.x, 0) else (MgX.zero, 4) := by
          unfold prsBody
          rw [hpr]
          unfold prsFinM
          rw [if_neg (by show ¬ (0 : Int) ≠ 0; decide)]
          rfl
        have HE := Lib.hid (rend_sep h7)
        have HPB := Lib.hid hpb
        have h8 : Sep w0 (Cl b2 #[.int .i64 0, .int .i64 0, .int .i64 0, .int .i64 0, .int .i64 0, .int .i64 0, .int .i64 0, .int .i64 0, .int .i64 0, .int .i64 0, .string ⟨#[]⟩, .int .i64 0, .int .i64 0, .slice none 0 0, .int .i64 0, .int .i64 0, .int .i64 0, .bool false, .int .i64 0, .slice none 0 0, .slice none 0 0, .int .i64 0] 39 :: Cl bm (mgC g) 39 :: LnR g.lv g.en.p.ls :: By g.cv g.ck :: EnT g.ev g.ps :: L) wr := h7.pickL (M := [_, _, _, _, _, _, _]) [5, 1, 2, 3, 4] rfl
        have hgm : GmS wr g := gm_own0 h8.drop.drop
        have hkk := HK.out wr h8.drop.drop.drop.drop.drop
        have H8 := Lib.hid h8
        clear h7 hpr hpb
        by_cases he : endErr s.r s.e = 0
        · have hck : g.ck.length ≤ 1000000 := by have := HLN.out.2.1; rw [← hgx] at this; exact this
          have hps : g.ps.length ≤ 1000000 := by have := HLN.out.2.2; rw [← hgx] at this; simpa [MgM.x] using this
          have HC := Lib.hid (gcheck_w g hgm hkk.1 hkk.2 (by omega) hps)
          have HLM := Lib.hid (h8.sw2.loadW 39 Tryd.underlying39 rfl (by kernel_rfl))
          have hpb2 : prsBody m = if chkB g = true then (g.x, 0) else (MgX.zero, 4) := by
            rw [HPB.out, ← hgx, chkX_x]
            by_cases hc : chkB g = true
            · rw [if_pos hc, if_pos ⟨he, hc⟩]
            · rw [if_neg hc, if_neg (fun h => hc h.2)]
          have HPB2 := Lib.hid hpb2
          obtain ⟨o1, o2, o3⟩ := gm_shape hgm
          have H1C := Lib.hid (mgC_one g o1 o2 o3)
          rw [he] at HE
          clear hgm hkk hck hps hpb2 HPB he h8 o1 o2 o3 hgx
          (try dsimp only); repeat' (first | go_values | go_skip | go_guarded | go_step | go_upon | go_back)
          refine HE.out.mono ?_
          rintro r0 w8 ⟨rfl, rfl⟩
          clear HE
          (try dsimp only); repeat' (first | (with_reducible show wpList _ _ _ (Oper.mk _ (Op.load 39 _) _ _ _ _ :: _) _ _; refine stopP ?_) | go_values | go_skip | go_guarded | go_step | go_upon | go_back)
          unfold StopP
          have hq_ := HLM.out
          refine wpList_load_on 39 _ rfl _ _ rfl hq_ (by rfl) ?_
          clear hq_ HLM
          (try dsimp only); repeat' (first | go_values | go_skip | go_guarded | go_step | go_upon | go_back)
          refine HC.out.mono ?_
          rintro r0 w9 ⟨rfl, h9⟩
          have h10 := H8.out.below h9.low
          have H10 := Lib.hid h10
          clear HC h9 H8
          cases hc : chkB g with
          | false =>
            have hfin : prsBody m = (MgX.zero, 4) := by rw [HPB2.out, hc]; rfl
            have HFIN := Lib.hid hfin
            rw [if_neg (by simp)]
            have H11 : Hid (Sep w0 (Cl b2 #[.int .i64 0, .int .i64 0, .int .i64 0, .int .i64 0, .int .i64 0, .int .i64 0, .int .i64 0, .int .i64 0, .int .i64 0, .int .i64 0, .string ⟨#[]⟩, .int .i64 0, .int .i64 0, .slice none 0 0, .int .i64 0, .int .i64 0, .int .i64 0, .bool false, .int .i64 0, .slice none 0 0, .slice none 0 0, .int .i64 0] 39 :: L) w9) := Lib.hid (h10.pickL (M := [_, _, _, _, _]) [0] rfl)
            clear hfin hc h10 H10 HPB2 H1C
            have h11 := H11.out
            have HT2 := Lib.hid (h11.thereAt 0 22 (by show 22 ≤ 22; omega))
            have h12 := h11.storeW #[.int .i64 0, .int .i64 0, .int .i64 0, .int .i64 0, .int .i64 0, .int .i64 0, .int .i64 0, .int .i64 0, .int .i64 0, .int .i64 0, .string ⟨#[]⟩, .int .i64 0, .int .i64 0, .slice none 0 0, .int .i64 0, .int .i64 0, .int .i64 0, .bool false, .int .i64 0, .slice none 0 0, .slice none 0 0, .int .i64 0] rfl
            have HV := Lib.hid (h12.loadV 39 Tryd.underlying39 rfl (by kernel_rfl))
            have HF := Lib.hid (zeroS h12.drop)
            obtain ⟨wz, hwz⟩ : ∃ z, z = w9.setCells b2 0 [.int .i64 0, .int .i64 0, .int .i64 0, .int .i64 0, .int .i64 0, .int .i64 0, .int .i64 0, .int .i64 0, .int .i64 0, .int .i64 0, .string ⟨#[]⟩, .int .i64 0, .int .i64 0, .slice none 0 0, .int .i64 0, .int .i64 0, .int .i64 0, .bool false, .int .i64 0, .slice none 0 0, .slice none 0 0, .int .i64 0] := ⟨_, rfl⟩
            have hwz2 : wz = w9.setCells b2 0 (#[.int .i64 0, .int .i64 0, .int .i64 0, .int .i64 0, .int .i64 0, .int .i64 0, .int .i64 0, .int .i64 0, .int .i64 0, .int .i64 0, .string ⟨#[]⟩, .int .i64 0, .int .i64 0, .slice none 0 0, .int .i64 0, .int .i64 0, .int .i64 0, .bool false, .int .i64 0, .slice none 0 0, .slice none 0 0, .int .i64 0] : Array Value).toList := hwz
            rw [← hwz2] at HV HF
            clear h11 h12 hwz2
            (try dsimp only); repeat' (first | (with_reducible show wpList _ _ _ (Oper.mk _ (Op.store 39 _ _) _ _ _ _ :: _) _ _; refine stopP ?_) | go_values | go_skip | go_guarded | go_step | go_upon | go_back)
            unfold StopP
            refine wpList_store_mid rfl 39 (.tmp 2) (.tmp 43) rfl b2 0 #[.int .i64 0, .int .i64 0, .int .i64 0, .int .i64 0, .int .i64 0, .int .i64 0, .int .i64 0, .int .i64 0, .int .i64 0, .int .i64 0, .string ⟨#[]⟩, .int .i64 0, .int .i64 0, .slice none 0 0, .int .i64 0, .int .i64 0, .int .i64 0, .bool false, .int .i64 0, .slice none 0 0, .slice none 0 0, .int .i64 0] rfl rfl HT2.out (by kernel_rfl) (by first | kernel_rfl | assumption) ?_
            show wpList _ _ _ _ _ (w9.setCells b2 0 [.int .i64 0, .int .i64 0, .int .i64 0, .int .i64 0, .int .i64 0, .int .i64 0, .int .i64 0, .int .i64 0, .int .i64 0, .int .i64 0, .string ⟨#[]⟩, .int .i64 0, .int .i64 0, .slice none 0 0, .int .i64 0, .int .i64 0, .int .i64 0, .bool false, .int .i64 0, .slice none 0 0, .slice none 0 0, .int .i64 0])
            rw [← hwz]
            clear hwz HT2
            (try dsimp only); repeat' (first | go_values | go_skip | go_guarded | go_step | go_upon | go_back)
            exact bodyPost_ret (results_cell2 rfl rfl HV.out rfl) rfl ⟨gZ, by rw [HPM.out, HFIN.out] <;> rfl, by rw [HPM.out, HFIN.out] <;> rfl, HF.out⟩
          | true =>
            have hfin : prsBody m = (g.x, 0) := by rw [HPB2.out, if_pos hc]
            have HFIN := Lib.hid hfin
            rw [if_pos rfl]
            have HLM := Lib.hid (h10.sw2.loadW 39 Tryd.underlying39 rfl (by kernel_rfl))
            have HT2 := Lib.hid (h10.thereAt 0 22 (by show 22 ≤ 22; omega))
            have h12 := h10.storeW (mgC g) rfl
            have HV := Lib.hid (h12.loadV 39 Tryd.underlying39 rfl (by kernel_rfl))
            have HF := Lib.hid h12.drop.drop
            obtain ⟨mc, hmc⟩ : ∃ z, z = mgC g := ⟨_, rfl⟩
            have HMS : Hid (mc.size = 22) := Lib.hid (by rw [hmc]; rfl)
            have HMC := Lib.hid hmc
            rw [← hmc] at HLM HV H1C HF
            clear hfin hc h10 H10 HPB2 h12 hmc
            (try dsimp only); repeat' (first | (with_reducible show wpList _ _ _ (Oper.mk _ (Op.load 39 _) _ _ _ _ :: _) _ _; refine stopP ?_) | go_values | go_skip | go_guarded | go_step | go_upon | go_back)
            unfold StopP
            have hq_ := HLM.out
            refine wpList_load_run rfl 39 _ rfl _ _ rfl hq_ ?_
            clear hq_ HLM
            (try dsimp only); repeat' (first | (with_reducible show wpList _ _ _ (Oper.mk _ (Op.store 39 _ _) _ _ _ _ :: _) _ _; refine stopP ?_) | go_values | go_skip | go_guarded | go_step | go_upon | go_back)
            unfold StopP
            refine wpList_store_mid rfl 39 (.tmp 2) (.tmp 44) rfl b2 0 mc rfl rfl (by rw [HMS.out]; exact HT2.out) (by rw [HMS.out]; kernel_rfl) H1C.out ?_
            (try dsimp only); repeat' (first | go_values | go_skip | go_guarded | go_step | go_upon | go_back)
            exact bodyPost_ret (results_cell2 rfl rfl HV.out rfl) rfl ⟨g, by rw [HPM.out, HFIN.out, ← HMC.out] <;> rfl, by rw [HPM.out, HFIN.out] <;> rfl, HF.out⟩
        · have hne : (endErr s.r s.e != 0) = true := by rw [bne_iff_ne]; exact he
          have hne2 : (endErr s.r s.e == 0) = false := beq_eq_false_iff_ne.2 he
          have hfin : prsBody m = (MgX.zero, 4) := by rw [HPB.out, if_neg (fun h => he h.1)]
          have HFIN := Lib.hid hfin
          have H11 : Hid (Sep w0 (Cl b2 #[.int .i64 0, .int .i64 0, .int .i64 0, .int .i64 0, .int .i64 0, .int .i64 0, .int .i64 0, .int .i64 0, .int .i64 0, .int .i64 0, .string ⟨#[]⟩, .int .i64 0, .int .i64 0, .slice none 0 0, .int .i64 0, .int .i64 0, .int .i64 0, .bool false, .int .i64 0, .slice none 0 0, .slice none 0 0, .int .i64 0] 39 :: L) wr) := Lib.hid (h8.pickL (M := [_, _, _, _, _]) [0] rfl)
          obtain ⟨eo, heo⟩ : ∃ z, z = endErr s.r s.e := ⟨_, rfl⟩
          rw [← heo] at HE hne hne2
          clear hgm hkk HPB he h8 H8 hfin heo hgx
          (try dsimp only); repeat' (first | go_values | go_skip | go_guarded | go_step | go_upon | go_back)
          refine HE.out.mono ?_
          rintro r0 w8 ⟨rfl, rfl⟩
          clear HE
          have h11 := H11.out
          have HT2 := Lib.hid (h11.thereAt 0 22 (by show 22 ≤ 22; omega))
          have h12 := h11.storeW #[.int .i64 0, .int .i64 0, .int .i64 0, .int .i64 0, .int .i64 0, .int .i64 0, .int .i64 0, .int .i64 0, .int .i64 0, .int .i64 0, .string ⟨#[]⟩, .int .i64 0, .int .i64 0, .slice none 0 0, .int .i64 0, .int .i64 0, .int .i64 0, .bool false, .int .i64 0, .slice none 0 0, .slice none 0 0, .int .i64 0] rfl
          have HV := Lib.hid (h12.loadV 39 Tryd.underlying39 rfl (by kernel_rfl))
          have HF := Lib.hid (zeroS h12.drop)
          obtain ⟨wz, hwz⟩ : ∃ z, z = wr.setCells b2 0 [.int .i64 0, .int .i64 0, .int .i64 0, .int .i64 0, .int .i64 0, .int .i64 0, .int .i64 0, .int .i64 0, .int .i64 0, .int .i64 0, .string ⟨#[]⟩, .int .i64 0, .int .i64 0, .slice none 0 0, .int .i64 0, .int .i64 0, .int .i64 0, .bool false, .int .i64 0, .slice none 0 0, .slice none 0 0, .int .i64 0] := ⟨_, rfl⟩
          have hwz2 : wz = wr.setCells b2 0 (#[.int .i64 0, .int .i64 0, .int .i64 0, .int .i64 0, .int .i64 0, .int .i64 0, .int .i64 0, .int .i64 0, .int .i64 0, .int .i64 0, .string ⟨#[]⟩, .int .i64 0, .int .i64 0, .slice none 0 0, .int .i64 0, .int .i64 0, .int .i64 0, .bool false, .int .i64 0, .slice none 0 0, .slice none 0 0, .int .i64 0] : Array Value).toList := hwz
          rw [← hwz2] at HV HF
          clear h11 h12 hwz2
          (try dsimp only); repeat' (first | (with_reducible show wpList _ _ _ (Oper.mk _ (Op.store 39 _ _) _ _ _ _ :: _) _ _; refine stopP ?_) | go_values | go_skip | go_guarded | go_step | go_upon | go_back)
          unfold StopP
          refine wpList_store_mid rfl 39 (.tmp 2) (.tmp 43) rfl b2 0 #[.int .i64 0, .int .i64 0, .int .i64 0, .int .i64 0, .int .i64 0, .int .i64 0, .int .i64 0, .int .i64 0, .int .i64 0, .int .i64 0, .string ⟨#[]⟩, .int .i64 0, .int .i64 0, .slice none 0 0, .int .i64 0, .int .i64 0, .int .i64 0, .bool false, .int .i64 0, .slice none 0 0, .slice none 0 0, .int .i64 0] rfl rfl HT2.out (by kernel_rfl) (by first | kernel_rfl | assumption) ?_
          show wpList _ _ _ _ _ (wr.setCells b2 0 [.int .i64 0, .int .i64 0, .int .i64 0, .int .i64 0, .int .i64 0, .int .i64 0, .int .i64 0, .int .i64 0, .int .i64 0, .int .i64 0, .string ⟨#[]⟩, .int .i64 0, .int .i64 0, .slice none 0 0, .int .i64 0, .int .i64 0, .int .i64 0, .bool false, .int .i64 0, .slice none 0 0, .slice none 0 0, .int .i64 0])
          rw [← hwz]
          clear hwz HT2
          (try dsimp only); repeat' (first | go_values | go_skip | go_guarded | go_step | go_upon | go_back)
          exact bodyPost_ret (results_cell2 rfl rfl HV.out rfl) rfl ⟨gZ, by rw [HPM.out, HFIN.out] <;> rfl, by rw [HPM.out, HFIN.out] <;> rfl, HF.out⟩
end Go.Proofs.YtafkbodmiblbnaaDoor
