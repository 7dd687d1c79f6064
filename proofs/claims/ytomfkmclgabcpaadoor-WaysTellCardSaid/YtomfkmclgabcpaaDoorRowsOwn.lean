/-
  ROWS of numbers that the call owns; one row appended.
-/
import Derived.Test.YtomfkmclgabcpaaDoorRowSeen
namespace Go.Proofs.YtomfkmclgabcpaaDoor
open Go.RowKit

/-- A list that the call owns, of rows that it owns. -/
def OwnR (w : World) (base : Nat) (v : Value) (M : List (List Int)) : Prop := ∃ vs : List Value, vs.length = M.length ∧ w.ownsRow base 23 1 v M.length vs ∧ ∀ i, i < M.length → OwnI w base vs[i]! M[i]!
theorem OwnR.nil (w : World) (base : Nat) : OwnR w base (.slice none 0 0) [] := ⟨[], rfl, ⟨by simp, Or.inl ⟨rfl, rfl⟩⟩, fun i hi => by simp at hi⟩
theorem OwnR.keep {w w1 : World} {base : Nat} {v : Value} {M : List (List Int)} (h : OwnR w base v M) (hb : Below w.heap.size w w1) : OwnR w1 base v M := by
  obtain ⟨vs, h1, ⟨h2, h3⟩, h4⟩ := h
  refine ⟨vs, h1, ⟨h2, ?_⟩, fun i hi => (h4 i hi).keep hb⟩
  rcases h3 with h3 | ⟨g, cap, cur, hv, hg0, hg, rest⟩
  · exact Or.inl h3
  · exact Or.inr ⟨g, cap, cur, hv, hg0, by rw [hb.block g (Array.getElem?_eq_some_iff.1 hg).1]; exact hg, rest⟩
theorem OwnR.past {w : World} {base : Nat} {v : Value} {M : List (List Int)} (h : OwnR w base v M) : ∀ q, v.ownBlock = some q → base ≤ q := by
  obtain ⟨vs, _, h2, _⟩ := h
  exact fun q hq => (World.ownsRow.lt h2 q hq).1
theorem OwnR.arg {w : World} {base : Nat} {v : Value} {M : List (List Int)} (h : OwnR w base v M) : ArgR w v M := by
  obtain ⟨vs, h1, ⟨_, h3⟩, h4⟩ := h
  rcases h3 with ⟨hv, hn⟩ | ⟨g, cap, cur, hv, hb, hg, hcap, _, _, hc⟩
  · have e : M = [] := List.length_eq_zero_iff.1 hn
    subst e
    exact ⟨none, 0, hv, Or.inl rfl⟩
  · refine ⟨_, cap, hv, Or.inr ⟨g, 0, rfl, (Array.getElem?_eq_some_iff.1 hg).1, fun i hi => ⟨vs[i]!, ?_, (h4 i hi).arg⟩⟩⟩
    have h5 : vs[i]? = some vs[i]! := by rw [getElem!_pos vs i (by omega), List.getElem?_eq_getElem (by omega)]
    rw [← hc, Nat.mul_one, List.getElem?_take_of_lt hi] at h5
    simp only [World.cell?, hg, Nat.zero_add]
    rw [← hc, Nat.mul_one]
    simpa using h5
/-- One row in a block of the call's own. -/
theorem OwnR.one (w : World) (base : Nat) (r : Value) (l : List Int) (hb : base ≤ w.heap.size) (hr : OwnI w base r l) : OwnR (w.alloc (.cells #[r] 23)) base (.slice (some ⟨w.heap.size, 0, none⟩) 1 1) [l] := by
  refine ⟨[r], rfl, ⟨rfl, Or.inr ⟨w.heap.size, 1, #[r], rfl, hb, heap_alloc_new w _, Nat.le_refl _, by simp [maxLen], by simp, by simp⟩⟩, fun i hi => ?_⟩
  obtain rfl : i = 0 := by simpa using hi
  exact hr.keep ((Below.refl w.heap.size w).alloc (Nat.le_refl _) _)
/-- Rows whose blocks are as they were. -/
theorem OwnR.frame {w w1 : World} {base : Nat} {v : Value} {M : List (List Int)} (h : OwnR w base v M) (hb : ∀ g, base ≤ g → g < w.heap.size → w1.heap[g]? = w.heap[g]?) : OwnR w1 base v M := by
  have one : ∀ {e : TypeId} {u : Value} {n : Nat} {xs : List Value}, w.ownsRow base e 1 u n xs → w1.ownsRow base e 1 u n xs := by
    intro e u n xs h
    obtain ⟨h1, h2⟩ := h
    refine ⟨h1, ?_⟩
    rcases h2 with h2 | ⟨g, cap, cur, hv, hg0, hg, rest⟩
    · exact Or.inl h2
    · exact Or.inr ⟨g, cap, cur, hv, hg0, by rw [hb g hg0 (Array.getElem?_eq_some_iff.1 hg).1]; exact hg, rest⟩
  obtain ⟨vs, h1, h2, h3⟩ := h
  exact ⟨vs, h1, one h2, fun i hi => one (h3 i hi)⟩
theorem row_kinds {w : World} {b b' n : Nat} {v v' : Value} {vs : List Value} {m : List Int} (h : w.ownsRow b 23 1 v n vs) (h' : OwnI w b' v' m) : v'.ownBlock = none ∨ v'.ownBlock ≠ v.ownBlock := by
  obtain ⟨_, ⟨rfl, _⟩ | ⟨g, cap, cur, rfl, _, hg, _⟩⟩ := h
  · cases e : v'.ownBlock with
    | none => exact Or.inl rfl
    | some g => exact Or.inr (by simp [Value.ownBlock])
  · obtain ⟨_, ⟨rfl, _⟩ | ⟨g', cap', cur', rfl, _, hg', _⟩⟩ := h'
    · exact Or.inl rfl
    · refine Or.inr fun e => ?_
      have e2 : g' = g := by simpa [Value.ownBlock] using e
      subst e2
      rw [hg] at hg'
      simp at hg'
noncomputable def infoR : TypeInfo := (Tryd.prog.info? 23).get (by kernel_rfl)
/-- One row appended. -/
theorem wpl_append_oneR {ops : Array Oper} {rest : List Oper} {o : Oper} {a : Act} {Q : Exit → Act → World → Prop} {w : World} (hgd : o.guard = none) (s x : Operand) (ho : o.op = .call { callee := .builtin .append, args := #[s, x], argTypes := #[29, 29] })
    (base : Nat) (v0 : Value) (M : List (List Int)) (r : Value) (l : List Int) (B c : Nat) (hs : a.eval s = v0) (hx : a.eval x = .slice (some ⟨B, 0, none⟩) 1 c) (h0 : OwnR w base v0 M) (hr : OwnI w base r l) (hB : w.cell? ⟨B, 0, none⟩ = some r) (hlen : (M.length + 1) * 24 ≤ 140737488355328) (hbase : base ≤ w.heap.size)
    (h : ∀ v' w', OwnR w' base v' (M ++ [l]) → w.grownBy w' v0.ownBlock → wpList Tryd.prog ops Q rest (a.put o.dst v') w') : wpList Tryd.prog ops Q (o :: rest) a w := by
  obtain ⟨vs, h1, h2, h3⟩ := h0
  have hi : Tryd.prog.info? 23 = some infoR := by kernel_rfl
  have hr1 : r.oneCell' = true := by
    obtain ⟨_, ⟨rfl, _⟩ | ⟨g, cap, cur, rfl, _⟩⟩ := hr <;> rfl
  refine wpList_append_own w hgd s x 29 ho base 23 infoR (.slice none 0 0) 1 24 (by kernel_rfl) hi (by kernel_rfl) (by kernel_rfl) (by kernel_rfl) (by rfl) (by omega) v0 M.length vs hs h2 ⟨B, 0, none⟩ 1 c [r] hx rfl ?_ ?_ (by simp only [maxLen]; omega) hlen hbase ?_
  · intro j u hj
    rw [Addr.add_lit]
    match j, hj with
    | 0, hj => simp at hj; subst hj; exact hB
  · intro u hu; simp at hu; rw [hu]; exact hr1
  · intro v' w' h4 h5 _
    refine h v' w' ⟨vs ++ [r], by simp [h1], by rw [List.length_append]; exact h4, fun i hi => ?_⟩ h5
    rw [List.length_append] at hi
    by_cases e : i < M.length
    · rw [getElem!_pos (vs ++ [r]) i (by simp; omega), getElem!_pos (M ++ [l]) i (by simp; omega), List.getElem_append_left (by omega), List.getElem_append_left e, ← getElem!_pos vs i (by omega), ← getElem!_pos M i e]
      exact World.ownsRow.kept (h3 i e) h5 (row_kinds h2 (h3 i e))
    · have e2 : i = M.length := by simp at hi; omega
      subst e2
      rw [getElem!_pos (vs ++ [r]) M.length (by simp; omega), getElem!_pos (M ++ [l]) M.length (by simp), List.getElem_append_right (by omega), List.getElem_append_right (by omega)]
      simp only [h1, Nat.sub_self, List.getElem_cons_zero]
      exact World.ownsRow.kept hr h5 (row_kinds h2 hr)
/-- One row appended: the rows stay where they are, or lie in a new block. -/
theorem wpl_append_newR {ops : Array Oper} {rest : List Oper} {o : Oper} {a : Act} {Q : Exit → Act → World → Prop} {w : World} (hgd : o.guard = none) (s x : Operand) (ho : o.op = .call { callee := .builtin .append, args := #[s, x], argTypes := #[29, 29] })
    (base : Nat) (v0 : Value) (M : List (List Int)) (r : Value) (l : List Int) (B c : Nat) (hs : a.eval s = v0) (hx : a.eval x = .slice (some ⟨B, 0, none⟩) 1 c) (h0 : OwnR w base v0 M) (hr : OwnI w base r l) (hB : w.cell? ⟨B, 0, none⟩ = some r) (hlen : (M.length + 1) * 24 ≤ 140737488355328) (hbase : base ≤ w.heap.size)
    (h : ∀ v' w', OwnR w' base v' (M ++ [l]) → w.grownBy w' v0.ownBlock → (v'.ownBlock = v0.ownBlock ∨ v'.ownBlock = some w.heap.size) → wpList Tryd.prog ops Q rest (a.put o.dst v') w') : wpList Tryd.prog ops Q (o :: rest) a w := by
  obtain ⟨vs, h1, h2, h3⟩ := h0
  have hi : Tryd.prog.info? 23 = some infoR := by kernel_rfl
  have hz : infoR.zero = some (.slice none 0 0) := by kernel_rfl
  have hsz : infoR.size = 1 := by kernel_rfl
  have hby : infoR.bytes = 24 := by kernel_rfl
  have ht : Tryd.prog.underlying 29 = some (.slice 23) := by kernel_rfl
  have hr1 : r.oneCell' = true := by
    obtain ⟨_, ⟨rfl, _⟩ | ⟨g, cap, cur, rfl, _⟩⟩ := hr <;> rfl
  have hnews : ∀ j u, [r][j]? = some u → w.cell? ((⟨B, 0, none⟩ : Addr).add j) = some u := by
    intro j u hj
    rw [Addr.add_lit]
    match j, hj with
    | 0, hj => simp at hj; subst hj; exact hB
  have hone : ∀ u ∈ [r], u.oneCell' = true := by intro u hu; simp at hu; rw [hu]; exact hr1
  have hl : [r].length = 1 * infoR.size := by rw [hsz]; rfl
  obtain ⟨v', w', hrun, h4, h5, _⟩ := run_append_own (P := Tryd.prog) w base 29 o.type 23 infoR (.slice none 0 0) 1 24 ht hi hz hsz hby rfl (by omega) v0 M.length vs h2 ⟨B, 0, none⟩ 1 c [r] rfl hnews hone (by simp only [maxLen]; omega) hlen hbase
  have hnew : v'.ownBlock = v0.ownBlock ∨ v'.ownBlock = some w.heap.size := by
    have hown := h2
    rcases hown.2 with ⟨rfl, hn⟩ | ⟨g, cap, cur, rfl, hbg, hg, hnc, hcm, hcs, htake⟩
    · have hq := run_append_nil (P := Tryd.prog) w 29 o.type 23 infoR (.slice none 0 0) ht hi hz ⟨B, 0, none⟩ 1 c [r] hl hnews (by omega) (by omega) (by rw [hby]; omega)
      rw [hrun] at hq
      injection hq with hq1 hq2
      rw [hq1]; exact Or.inr rfl
    · by_cases hroom : M.length + 1 ≤ cap
      · have hq := run_append_room (P := Tryd.prog) w 29 o.type 23 infoR ht hi g M.length cap cur hg ⟨B, 0, none⟩ 1 c [r] hl hnews hone hroom (by rw [hl, hcs, hsz, ← Nat.add_mul]; exact Nat.mul_le_mul_right _ hroom)
        rw [hrun] at hq
        injection hq with hq1 hq2
        rw [hq1]; exact Or.inl rfl
      · have hq := run_append_grow (P := Tryd.prog) w 29 o.type 23 infoR (.slice none 0 0) ht hi hz ⟨g, 0, none⟩ M.length cap vs (by rw [hsz, h1]; omega) (hown.cells (g := g) rfl) ⟨B, 0, none⟩ 1 c [r] hl hnews (by omega) (by omega) (growslice_fits (by omega) (by rw [hby]; exact hlen))
        rw [hrun] at hq
        injection hq with hq1 hq2
        rw [hq1]; exact Or.inr rfl
  refine wpList_plain hgd fun K' hK' => ?_
  unfold Oper.wp execOp
  simp only [ho, resolve, invoke, builtin, Sem.run_bind, Sem.run_pure, Result.andThen_ok, List.map_toArray, List.map_cons, List.map_nil, hs, hx, hrun]
  refine hK' _ _ (h v' w' ⟨vs ++ [r], by simp [h1], by rw [List.length_append]; exact h4, fun i hi => ?_⟩ h5 hnew)
  rw [List.length_append] at hi
  by_cases e : i < M.length
  · rw [getElem!_pos (vs ++ [r]) i (by simp; omega), getElem!_pos (M ++ [l]) i (by simp; omega), List.getElem_append_left (by omega), List.getElem_append_left e, ← getElem!_pos vs i (by omega), ← getElem!_pos M i e]
    exact World.ownsRow.kept (h3 i e) h5 (row_kinds h2 (h3 i e))
  · have e2 : i = M.length := by simp at hi; omega
    subst e2
    rw [getElem!_pos (vs ++ [r]) M.length (by simp; omega), getElem!_pos (M ++ [l]) M.length (by simp), List.getElem_append_right (by omega), List.getElem_append_right (by omega)]
    simp only [h1, Nat.sub_self, List.getElem_cons_zero]
    exact World.ownsRow.kept hr h5 (row_kinds h2 hr)
end Go.Proofs.YtomfkmclgabcpaaDoor
