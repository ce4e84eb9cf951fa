/- A pipe's entries: a row of one's own, or a part of one, without room behind it. -/
import Derived.Test.YtpknfeokfladkaaDoorEn11
import Derived.ArgAppend
namespace Go.Proofs.YtpknfeokfladkaaDoor
open Go.RowKit
set_option linter.unusedVariables false
set_option linter.unusedSimpArgs false
def RnE (v : Value) (ps : List (EnM × Value)) : Thing := fun w F =>
  EnR v ps w F ∨ (∃ a, v = .slice a 0 0 ∧ ps = []) ∨
  ∃ g off cur, v = .slice (some ⟨g, off, none⟩) ps.length ps.length ∧ ps.length ≤ maxLen ∧ w.heap[g]? = some (.cells cur 34 (0, 0)) ∧ (∀ j u, (enCs ps)[j]? = some u → cur[off + j]? = some u) ∧ ∀ k, F k ↔ k = g
theorem loc_rnE (v : Value) (ps : List (EnM × Value)) : Loc (RnE v ps) := by
  rintro w w' F (h | h | ⟨g, off, cur, h1, h2, h3, h4, h5⟩) hs hk
  · exact .inl (loc_rn _ _ _ _ _ w w' F h hs hk)
  · exact .inr (.inl h)
  · exact .inr (.inr ⟨g, off, cur, h1, h2, (hk g ((h5 g).2 rfl)).trans h3, h4, h5⟩)
theorem Sep.to {w0 w : World} {A : Thing} {L : List Thing} (h : Sep w0 (A :: L) w) : ∃ F, A w F ∧ ∀ A' : Thing, Loc A' → A' w F → Sep w0 (A' :: L) w := by
  obtain ⟨hb, hloc, F, ha, hf, hr⟩ := h
  refine ⟨F, ha, fun A' hl ha' => ⟨hb, ?_, F, ha', hf, hr⟩⟩
  intro X hX
  rcases List.mem_cons.1 hX with rfl | hX
  · exact hl
  · exact hloc X (List.mem_cons_of_mem _ hX)
theorem Sep.rnE {w0 w : World} {v : Value} {ps : List (EnM × Value)} {L : List Thing} (h : Sep w0 (RnE v ps :: L) w) :
    Sep w0 (EnR v ps :: L) w ∨ (∃ a, v = .slice a 0 0 ∧ ps = []) ∨ ∃ g off cur, v = .slice (some ⟨g, off, none⟩) ps.length ps.length ∧ ps.length ≤ maxLen ∧ (∀ j u, (enCs ps)[j]? = some u → cur[off + j]? = some u) ∧ Sep w0 (Cl g cur 34 :: L) w := by
  obtain ⟨F, h1 | h1 | ⟨g, off, cur, h1, h2, h3, h4, h5⟩, hs⟩ := h.to
  · exact .inl (hs _ (loc_rn _ _ _ _ _) h1)
  · exact .inr (.inl h1)
  · exact .inr (.inr ⟨g, off, cur, h1, h2, h4, hs _ (loc_blk _ _) ⟨h3, h5⟩⟩)
def PeT (v : Value) (ps : List (EnM × Value)) : Thing := Grp (RnE v ps :: ps.map lnP)
theorem loc_peR (v : Value) (ps : List (EnM × Value)) : ∀ A ∈ RnE v ps :: ps.map lnP, Loc A := by
  intro A hA
  rcases List.mem_cons.1 hA with rfl | hA
  · exact loc_rnE _ _
  · obtain ⟨q, _, rfl⟩ := List.mem_map.1 hA; exact loc_rn _ _ _ _ _
theorem loc_peT (v : Value) (ps : List (EnM × Value)) : Loc (PeT v ps) := loc_grp (loc_peR v ps)
theorem Sep.peOpen {w0 w : World} {v : Value} {ps : List (EnM × Value)} {L : List Thing} (h : Sep w0 (PeT v ps :: L) w) : Sep w0 (RnE v ps :: (ps.map lnP ++ L)) w := h.open_ (loc_peR v ps)
theorem Sep.peClose {w0 w : World} {v : Value} {ps : List (EnM × Value)} {L : List Thing} (h : Sep w0 (RnE v ps :: (ps.map lnP ++ L)) w) : Sep w0 (PeT v ps :: L) w := Sep.close (M := RnE v ps :: ps.map lnP) h
theorem Sep.toPe {w0 w : World} {v : Value} {ps : List (EnM × Value)} {L : List Thing} (h : Sep w0 (EnT v ps :: L) w) : Sep w0 (PeT v ps :: L) w := Sep.peClose (h.enOpen.imp (loc_rnE _ _) fun F hF => .inl hF)
theorem Sep.peNil {w0 w : World} {L : List Thing} (h : Sep w0 L w) : Sep w0 (PeT (.slice none 0 0) [] :: L) w := h.enNil.toPe
theorem Sep.peForm {w0 w : World} {v : Value} {ps : List (EnM × Value)} {L : List Thing} (h : Sep w0 (PeT v ps :: L) w) : ∃ a c, v = .slice a ps.length c ∧ ps.length ≤ c ∧ c ≤ maxLen := by
  rcases h.peOpen.rnE with h1 | ⟨a, rfl, rfl⟩ | ⟨g, off, cur, rfl, hm, -, -⟩
  · obtain ⟨a, c, h1, h2, h3, -⟩ := h1.rnForm
    exact ⟨a, c, h1, h2, h3⟩
  · exact ⟨a, 0, rfl, Nat.le_refl _, Nat.zero_le _⟩
  · exact ⟨_, _, rfl, Nat.le_refl _, hm⟩
theorem Sep.peS {w0 w : World} {v : Value} {ps : List (EnM × Value)} {L : List Thing} (h : Sep w0 (PeT v ps :: L) w) : EnS w v ps := by
  have ho := h.peOpen
  rcases ho.rnE with h1 | ⟨a, rfl, rfl⟩ | ⟨g, off, cur, rfl, hm, hc, h1⟩
  · exact Sep.enS (Sep.enClose h1)
  · exact .inl ⟨a, 0, rfl, rfl⟩
  · refine .inr ⟨g, off, _, rfl, Nat.le_refl _, hm, h1.blk_lt.2, fun i hi => ?_⟩
    have k : ∀ j u, j < 7 → (enC ps[i].1 ps[i].2).toList[j]? = some u → w.cell? ⟨g, off + i * 7 + j, none⟩ = some u := fun j u hj hu => by
      have h6 := enCs_at ps i hi j hj
      rw [hu] at h6
      rw [Nat.add_assoc]
      exact h1.cell (hc _ _ h6)
    refine ⟨⟨k 0 _ (by omega) rfl, k 1 _ (by omega) rfl, k 2 _ (by omega) rfl, k 3 _ (by omega) rfl, k 4 _ (by omega) rfl, k 5 _ (by omega) rfl, k 6 _ (by omega) rfl⟩, ?_⟩
    obtain ⟨M, hM⟩ := ho.memT (A := lnP ps[i]) (List.mem_cons_of_mem _ (List.mem_append_left _ (List.mem_map_of_mem (List.getElem_mem hi))))
    exact Sep.lnS hM
theorem below_gr0 {w w' : World} (h : w.grownBy w' none) : Below w.heap.size w w' := ⟨h.os, h.tape, h.output, h.size, fun k hk => h.block k hk (by simp)⟩
theorem addr_add (g off j : Nat) : (⟨g, off, none⟩ : Addr).add j = ⟨g, off + j, none⟩ := by unfold Addr.add; split <;> simp_all
theorem grow_pe {w0 w : World} {ps : List (EnM × Value)} {x : EnM} {u : Value} {b : Nat} {L : List Thing} (ty : TypeId) (h : Sep w0 (ps.map lnP ++ (Cl b (enC x u) 34 :: LnR u x.p.ls :: L)) w) (ad : Addr)
    (holds : ∀ j z, (enCs ps)[j]? = some z → w.cell? (ad.add j) = some z) (hl : ps.length ≤ 10000000) :
    ∃ a c w', (Builtin.append_ #[35, 35] ty #[.slice (some ad) ps.length ps.length, .slice (some ⟨b, 0, none⟩) 1 1]).run Tryd.prog w = .ok (.slice a (ps.length + 1) c) w' ∧ Sep w0 (PeT (.slice a (ps.length + 1) c) (ps ++ [(x, u)]) :: L) w' := by
  obtain ⟨i, hi, he⟩ := Option.map_eq_some_iff.1 infoEn
  simp only [Prod.mk.injEq, decide_eq_true_eq] at he
  obtain ⟨z, hz, hz2⟩ := Option.map_eq_some_iff.1 he.2.2
  have h1 := h.perm List.perm_middle
  have hc : ∀ j u', (enC x u).toList[j]? = some u' → w.cell? ((⟨b, 0, none⟩ : Addr).add j) = some u' := fun j u' hj => by
    rw [addr_add, Nat.zero_add]
    exact h1.cell (by simpa using hj)
  have hbb : (ps.length + 1) * i.bytes ≤ 140737488355328 := by
    calc (ps.length + 1) * i.bytes ≤ 549755813888 * 256 := Nat.mul_le_mul (by omega) he.2.1
      _ = 140737488355328 := by omega
  obtain ⟨v', w', hr, ho, hg⟩ := run_append_arg_grows (P := Tryd.prog) w 35 ty 34 i z 7 i.bytes Tryd.underlying35 hi hz he.1 rfl hz2 (by decide) ad ps.length ps.length (enCs ps) (enCs_len ps) holds ⟨b, 0, none⟩ 1 1 (enC x u).toList (by simp [enC]) hc (by omega) (by unfold maxLen; omega) hbb
  have h2 : Sep w0 (Rn 7 34 v' (ps.length + 1) (enCs ps ++ (enC x u).toList) :: (ps.map lnP ++ (LnR u x.p.ls :: L))) w' :=
    h1.drop.new (loc_rn _ _ _ _ _) (below_gr0 hg) (F := fun k => v'.ownBlock = some k) ⟨⟨_, ho⟩, fun _ => Iff.rfl⟩ (ownsRow_lt ho)
  obtain ⟨a, c, rfl, -⟩ := h2.rnForm
  refine ⟨a, c, w', hr, Sep.toPe (Sep.enClose ?_)⟩
  have e : enCs ps ++ (enC x u).toList = enCs (ps ++ [(x, u)]) := by rw [enCs_app, enCs_one]
  rw [e] at h2
  rw [List.map_append, List.append_assoc]
  show Sep w0 (Rn 7 34 (.slice a (ps.length + 1) c) (ps ++ [(x, u)]).length (enCs (ps ++ [(x, u)])) :: _) w'
  rw [List.length_append, List.length_singleton]
  exact h2
/-- 'append' of one entry, that lies in a block of its own, onto a pipe's. -/
theorem append_pe {w0 w : World} {v : Value} {ps : List (EnM × Value)} {x : EnM} {u : Value} {b : Nat} {L : List Thing} (ty : TypeId) (h : Sep w0 (Cl b (enC x u) 34 :: PeT v ps :: LnR u x.p.ls :: L) w) (hu : u.oneCell' = true) (hl : ps.length ≤ 10000000) :
    ∃ a c w', (Builtin.append_ #[35, 35] ty #[v, .slice (some ⟨b, 0, none⟩) 1 1]).run Tryd.prog w = .ok (.slice a (ps.length + 1) c) w' ∧ Sep w0 (PeT (.slice a (ps.length + 1) c) (ps ++ [(x, u)]) :: L) w' := by
  have ho := h.sw2.peOpen
  rcases ho.rnE with h1 | ⟨a, rfl, rfl⟩ | ⟨g, off, cur, rfl, hm, hc, h1⟩
  · obtain ⟨a, c, w', hr, h3⟩ := append_en ty (Sep.sw2 (Sep.enClose h1)) hu hl
    exact ⟨a, c, w', hr, h3.toPe⟩
  · cases a with
    | none =>
      obtain ⟨a, c, w', hr, h3⟩ := append_en ty (Sep.sw2 (Sep.enNil ho.drop)) hu hl
      exact ⟨a, c, w', hr, h3.toPe⟩
    | some ad => exact grow_pe ty ho.drop ad (fun j z hz => by simp [enCs] at hz) hl
  · exact grow_pe ty ho.drop ⟨g, off, none⟩ (fun j z hz => by rw [addr_add]; exact h1.cell (hc _ _ hz)) hl
theorem enCs_part (ps : List (EnM × Value)) (i j : Nat) (hij : i ≤ j) (hj : j ≤ ps.length) (k : Nat) (u : Value) (h : (enCs ((ps.drop i).take (j - i)))[k]? = some u) : (enCs ps)[i * 7 + k]? = some u := by
  have e : ps = ps.take i ++ ((ps.drop i).take (j - i) ++ (ps.drop i).drop (j - i)) := by rw [List.take_append_drop, List.take_append_drop]
  have hk := (List.getElem?_eq_some_iff.1 h).1
  rw [e, enCs_app, enCs_app, List.getElem?_append_right (by rw [enCs_len, List.length_take]; omega), List.getElem?_append_left (by rw [enCs_len, List.length_take, Nat.min_eq_left (by omega)]; omega)]
  rw [enCs_len, List.length_take, Nat.min_eq_left (by omega), show i * 7 + k - i * 7 = k by omega]
  exact h
theorem perm_part {α : Type _} (R : α) (A B C L : List α) : (R :: ((A ++ (B ++ C)) ++ L)).Perm ((A ++ C) ++ (R :: (B ++ L))) := by
  refine List.Perm.trans (List.Perm.cons R ?_) List.perm_middle.symm
  rw [List.append_assoc, List.append_assoc, List.append_assoc]
  refine List.Perm.append_left A ?_
  rw [← List.append_assoc, ← List.append_assoc]
  exact List.perm_append_comm.append_right L
/-- A part of a pipe's entries: 'l[i:j:j]'. -/
theorem Sep.pePart {w0 w : World} {a : Option Addr} {c : Nat} {ps : List (EnM × Value)} {L : List Thing} (i j : Nat) (h : Sep w0 (PeT (.slice a ps.length c) ps :: L) w) (hij : i ≤ j) (hj : j ≤ ps.length) :
    Sep w0 (PeT (.slice (if j = i then a else a.map (·.add (i * 7))) (j - i) (j - i)) ((ps.drop i).take (j - i)) :: L) w := by
  have ho := h.peOpen
  have e : ps = ps.take i ++ ((ps.drop i).take (j - i) ++ (ps.drop i).drop (j - i)) := by rw [List.take_append_drop, List.take_append_drop]
  have e2 : ps.map lnP = (ps.take i).map lnP ++ (((ps.drop i).take (j - i)).map lnP ++ ((ps.drop i).drop (j - i)).map lnP) := by rw [← List.map_append, ← List.map_append, ← e]
  rw [e2] at ho
  have h1 := (ho.perm (perm_part _ _ _ _ _)).left
  refine Sep.peClose ?_
  have hlen : ((ps.drop i).take (j - i)).length = j - i := by rw [List.length_take, List.length_drop]; omega
  refine h1.imp (loc_rnE _ _) fun F hF => ?_
  by_cases hji : j = i
  · subst hji
    refine .inr (.inl ⟨a, by simp, by simp⟩)
  · rw [if_neg hji]
    refine .inr (.inr ?_)
    rcases hF with ⟨⟨base, ho1⟩, hf⟩ | ⟨a', h2, h3⟩ | ⟨g, off, cur, h2, h3, h4, h5, h6⟩
    · rcases ho1.2 with ⟨h2, -⟩ | ⟨g, cap, cur, h2, -, h4, h5, h6, -, h7⟩
      · simp only [Value.slice.injEq] at h2; omega
      · simp only [Value.slice.injEq] at h2
        obtain ⟨rfl, -, rfl⟩ := h2
        refine ⟨g, 0 + i * 7, cur, ?_, by rw [hlen]; omega, h4, fun k u hk => ?_, fun k => (hf k).trans ⟨fun hk => by simpa [Value.ownBlock] using hk.symm, fun hk => by subst hk; rfl⟩⟩
        · rw [hlen]
          show Value.slice (some ((⟨g, 0, none⟩ : Addr).add (i * 7))) _ _ = _
          rw [addr_add]
        · have h8 := enCs_part ps i j hij hj k u hk
          rw [← h7, List.getElem?_take] at h8
          split at h8
          · rw [Nat.zero_add]; simpa using h8
          · cases h8
    · rw [h3] at hj; simp at hj; omega
    · simp only [Value.slice.injEq] at h2
      obtain ⟨rfl, -, rfl⟩ := h2
      refine ⟨g, off + i * 7, cur, ?_, by rw [hlen]; omega, h4, fun k u hk => ?_, h6⟩
      · rw [hlen]
        show Value.slice (some ((⟨g, off, none⟩ : Addr).add (i * 7))) _ _ = _
        rw [addr_add]
      · rw [Nat.add_assoc]
        exact h5 _ _ (enCs_part ps i j hij hj k u hk)
/-- A pipe. -/
def PipeT (g : Nat) (b : Int) (ps : List (EnM × Value)) : Thing := Ex fun v => Both (Cl g #[.bool true, .int .i64 b, v] 67) (PeT v ps)
theorem loc_pipe0 (g : Nat) (b : Int) (ps : List (EnM × Value)) (v : Value) : Loc (Both (Cl g #[.bool true, .int .i64 b, v] 67) (PeT v ps)) := loc_both (loc_blk _ _) (loc_peT _ _)
theorem loc_pipe (g : Nat) (b : Int) (ps : List (EnM × Value)) : Loc (PipeT g b ps) := loc_ex (loc_pipe0 g b ps)
theorem Sep.pipeOpen {w0 w : World} {g : Nat} {b : Int} {ps : List (EnM × Value)} {L : List Thing} (h : Sep w0 (PipeT g b ps :: L) w) : ∃ v, Sep w0 (Cl g #[.bool true, .int .i64 b, v] 67 :: PeT v ps :: L) w := by
  obtain ⟨v, h1⟩ := h.ex (loc_pipe0 g b ps)
  exact ⟨v, h1.both (loc_blk _ _) (loc_peT _ _)⟩
theorem Sep.pipeClose {w0 w : World} {g : Nat} {b : Int} {v : Value} {ps : List (EnM × Value)} {L : List Thing} (h : Sep w0 (Cl g #[.bool true, .int .i64 b, v] 67 :: PeT v ps :: L) w) : Sep w0 (PipeT g b ps :: L) w := Sep.give (A := fun v => Both (Cl g #[.bool true, .int .i64 b, v] 67) (PeT v ps)) v h.join (loc_pipe0 g b ps)
end Go.Proofs.YtpknfeokfladkaaDoor
