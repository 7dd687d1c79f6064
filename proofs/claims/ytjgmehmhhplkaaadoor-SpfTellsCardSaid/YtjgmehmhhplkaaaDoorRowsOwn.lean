/-
  ROWS of numbers that the call owns; one row appended.
-/
import Derived.Test.YtjgmehmhhplkaaaDoorRowSeen
namespace Go.Proofs.YtjgmehmhhplkaaaDoor
open Go.RowKit

/-- A list that the call owns, of rows that it owns. -/
def OwnR (w : World) (base : Nat) (v : Value) (M : List (List Int)) : Prop := ∃ vs : List Value, vs.length = M.length ∧ w.ownsRow base 26 1 v M.length vs ∧ ∀ i, i < M.length → OwnI w base vs[i]! M[i]!
theorem OwnR.nil (w : World) (base : Nat) : OwnR w base (.slice none 0 0) [] := ⟨[], rfl, ⟨by simp, Or.inl ⟨rfl, rfl⟩⟩, fun i hi => by simp at hi⟩
theorem OwnR.keep {w w1 : World} {base : Nat} {v : Value} {M : List (List Int)} (h : OwnR w base v M) (hb : Below w.heap.size w w1) : OwnR w1 base v M := by
  obtain ⟨vs, h1, ⟨h2, h3⟩, h4⟩ := h
  refine ⟨vs, h1, ⟨h2, ?_⟩, fun i hi => (h4 i hi).keep hb⟩
  rcases h3 with h3 | ⟨g, cap, cur, hv, hg0, hg, rest⟩
  · exact Or.inl h3
  · exact Or.inr ⟨g, cap, cur, hv, hg0, by rw [hb.block g (Array.getElem?_eq_some_iff.1 hg).1]; exact hg, rest⟩
theorem OwnR.past {w : World} {base : Nat} {v : Value} {M : List (List Int)} (h : OwnR w base v M) : ∀ q, v.ownBlock = some q → base ≤ q := by
  obtain ⟨vs, _, h2, _⟩ := h
  exact fun q hq => (World.ownsRow.lt h2 q hq).1
theorem OwnR.arg {w : World} {base : Nat} {v : Value} {M : List (List Int)} (h : OwnR w base v M) : ArgR w v M := by
  obtain ⟨vs, h1, ⟨_, h3⟩, h4⟩ := h
  rcases h3 with ⟨hv, hn⟩ | ⟨g, cap, cur, hv, hb, hg, hcap, _, _, hc⟩
  · have e : M = [] := List.length_eq_zero_iff.1 hn
    subst e
    exact ⟨none, 0, hv, Or.inl rfl⟩
  · refine ⟨_, cap, hv, Or.inr ⟨g, 0, rfl, (Array.getElem?_eq_some_iff.1 hg).1, fun i hi => ⟨vs[i]!, ?_, (h4 i hi).arg⟩⟩⟩
    have h5 : vs[i]? = some vs[i]! := by rw [getElem!_pos vs i (by omega), List.getElem?_eq_getElem (by omega)]
    rw [← hc, Nat.mul_one, List.getElem?_take_of_lt hi] at h5
    simp only [World.cell?, hg, Nat.zero_add]
    rw [← hc, Nat.mul_one]
    simpa using h5
theorem row_kinds {w : World} {b b' n : Nat} {v v' : Value} {vs : List Value} {m : List Int} (h : w.ownsRow b 26 1 v n vs) (h' : OwnI w b' v' m) : v'.ownBlock = none ∨ v'.ownBlock ≠ v.ownBlock := by
  obtain ⟨_, ⟨rfl, _⟩ | ⟨g, cap, cur, rfl, _, hg, _⟩⟩ := h
  · cases e : v'.ownBlock with
    | none => exact Or.inl rfl
    | some g => exact Or.inr (by simp [Value.ownBlock])
  · obtain ⟨_, ⟨rfl, _⟩ | ⟨g', cap', cur', rfl, _, hg', _⟩⟩ := h'
    · exact Or.inl rfl
    · refine Or.inr fun e => ?_
      have e2 : g' = g := by simpa [Value.ownBlock] using e
      subst e2
      rw [hg] at hg'
      simp at hg'
noncomputable def infoR : TypeInfo := (Tryd.prog.info? 26).get (by kernel_rfl)
/-- One row appended. -/
theorem wpl_append_oneR {ops : Array Oper} {rest : List Oper} {o : Oper} {a : Act} {Q : Exit → Act → World → Prop} {w : World} (hgd : o.guard = none) (s x : Operand) (ho : o.op = .call { callee := .builtin .append, args := #[s, x], argTypes := #[27, 27] })
    (base : Nat) (v0 : Value) (M : List (List Int)) (r : Value) (l : List Int) (B c : Nat) (hs : a.eval s = v0) (hx : a.eval x = .slice (some ⟨B, 0, none⟩) 1 c) (h0 : OwnR w base v0 M) (hr : OwnI w base r l) (hB : w.cell? ⟨B, 0, none⟩ = some r) (hlen : (M.length + 1) * 24 ≤ 140737488355328) (hbase : base ≤ w.heap.size)
    (h : ∀ v' w', OwnR w' base v' (M ++ [l]) → w.grownBy w' v0.ownBlock → wpList Tryd.prog ops Q rest (a.put o.dst v') w') : wpList Tryd.prog ops Q (o :: rest) a w := by
  obtain ⟨vs, h1, h2, h3⟩ := h0
  have hi : Tryd.prog.info? 26 = some infoR := by kernel_rfl
  have hr1 : r.oneCell' = true := by
    obtain ⟨_, ⟨rfl, _⟩ | ⟨g, cap, cur, rfl, _⟩⟩ := hr <;> rfl
  refine wpList_append_own w hgd s x 27 ho base 26 infoR (.slice none 0 0) 1 24 (by kernel_rfl) hi (by kernel_rfl) (by kernel_rfl) (by kernel_rfl) (by rfl) (by omega) v0 M.length vs hs h2 ⟨B, 0, none⟩ 1 c [r] hx rfl ?_ ?_ (by simp only [maxLen]; omega) hlen hbase ?_
  · intro j u hj
    rw [Addr.add_lit]
    match j, hj with
    | 0, hj => simp at hj; subst hj; exact hB
  · intro u hu; simp at hu; rw [hu]; exact hr1
  · intro v' w' h4 h5 _
    refine h v' w' ⟨vs ++ [r], by simp [h1], by rw [List.length_append]; exact h4, fun i hi => ?_⟩ h5
    rw [List.length_append] at hi
    by_cases e : i < M.length
    · rw [getElem!_pos (vs ++ [r]) i (by simp; omega), getElem!_pos (M ++ [l]) i (by simp; omega), List.getElem_append_left (by omega), List.getElem_append_left e, ← getElem!_pos vs i (by omega), ← getElem!_pos M i e]
      exact World.ownsRow.kept (h3 i e) h5 (row_kinds h2 (h3 i e))
    · have e2 : i = M.length := by simp at hi; omega
      subst e2
      rw [getElem!_pos (vs ++ [r]) M.length (by simp; omega), getElem!_pos (M ++ [l]) M.length (by simp), List.getElem_append_right (by omega), List.getElem_append_right (by omega)]
      simp only [h1, Nat.sub_self, List.getElem_cons_zero]
      exact World.ownsRow.kept hr h5 (row_kinds h2 hr)
end Go.Proofs.YtjgmehmhhplkaaaDoor
