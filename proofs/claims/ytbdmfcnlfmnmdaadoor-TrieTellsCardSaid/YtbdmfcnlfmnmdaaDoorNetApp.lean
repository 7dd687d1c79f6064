/-
  LISTS OF NETWORKS that the call owns: kept behind a call; appended to.
-/
import Derived.Test.YtbdmfcnlfmnmdaaDoorNetList
import Derived.Laws.AppendOwnNone
import Derived.Laws.OwnMore
namespace Go.Proofs.YtbdmfcnlfmnmdaaDoor
open Go.RowKit

theorem set_if (w : World) (b o o' : Nat) (v u : Value) (h : w.cell? ⟨b, o, none⟩ = some u) : (w.setCell ⟨b, o', none⟩ v).cell? ⟨b, o, none⟩ = some (if o = o' then v else u) := by
  by_cases e : o = o'
  · subst e; rw [if_pos rfl]; exact World.cell?_setCell_same _ _ _ h
  · rw [if_neg e, World.cell?_setCell_other _ _ _ _ (by intro h; simp only [Addr.mk.injEq, and_true] at h; omega)]; exact h

noncomputable def infoN : TypeInfo := (Tryd.prog.info? 32).get (by kernel_rfl)
theorem infoN_size : infoN.size = 2 := by kernel_rfl
theorem Own.keep {w w1 : World} {base : Nat} {v : Value} {l : List Nt} (h : Own w base v l) (hb : Below w.heap.size w w1) : Own w1 base v l := by
  obtain ⟨h1, h2⟩ := h
  refine ⟨h1, ?_⟩
  rcases h2 with h2 | ⟨g, cap, cur, hv, hg0, hg, rest⟩
  · exact Or.inl h2
  · exact Or.inr ⟨g, cap, cur, hv, hg0, by rw [hb.block g (Array.getElem?_eq_some_iff.1 hg).1]; exact hg, rest⟩

theorem rowKeep {w w1 : World} {base n : Nat} {T : TypeId} {v : Value} {xs : List Value} (h : w.ownsRow base T 2 v n xs) (hb : Below w.heap.size w w1) : w1.ownsRow base T 2 v n xs := by
  obtain ⟨h1, h2⟩ := h
  refine ⟨h1, ?_⟩
  rcases h2 with h2 | ⟨g, cap, cur, hv, hg0, hg, rest⟩
  · exact Or.inl h2
  · exact Or.inr ⟨g, cap, cur, hv, hg0, by rw [hb.block g (Array.getElem?_eq_some_iff.1 hg).1]; exact hg, rest⟩

theorem Own.down {w : World} {b b' : Nat} {v : Value} {l : List Nt} (h : Own w b' v l) (hb : b ≤ b') : Own w b v l := by
  obtain ⟨h1, h2⟩ := h
  refine ⟨h1, ?_⟩
  rcases h2 with h2 | ⟨g, cap, cur, hv, hg0, rest⟩
  · exact Or.inl h2
  · exact Or.inr ⟨g, cap, cur, hv, Nat.le_trans hb hg0, rest⟩
/-- Two lists that the call owns, the second appended to the first. -/
theorem wp_append_two {o : Oper} {a : Act} {K : Act → World → Prop} {Q : Exit → Act → World → Prop} {w : World} (s x : Operand) (ho : o.op = .call { callee := .builtin .append, args := #[s, x], argTypes := #[22, 22] })
    (base : Nat) (v0 v1 : Value) (l0 l1 : List Nt) (hs : a.eval s = v0) (hx : a.eval x = v1) (h0 : Own w base v0 l0) (h1 : Own w base v1 l1) (hlen : (l0.length + l1.length) * 16 ≤ 140737488355328) (hbase : base ≤ w.heap.size)
    (h : ∀ v' w', Own w' base v' (l0 ++ l1) → Below base w w' → K (a.put o.dst v') w') : o.wp Tryd.prog a w K Q := by
  have hi : Tryd.prog.info? 32 = some infoN := by kernel_rfl
  obtain ⟨z, hz⟩ : ∃ z, infoN.zero = some z ∧ z.cells.size = 2 := ⟨.agg #[.int .u32 0, .int .i64 0], by kernel_rfl, by kernel_rfl⟩
  have hby : infoN.bytes = 16 := by kernel_rfl
  obtain ⟨_, ⟨rfl, hn⟩ | ⟨g, cap, cur, rfl, hb, hg, hcap, _, _, hc⟩⟩ := id h1
  · have e : l1 = [] := List.length_eq_zero_iff.1 hn
    subst e
    have hrun := run_append_owned_none (P := Tryd.prog) (w := w) base 22 o.type 32 infoN 2 (by kernel_rfl) hi v0 l0.length (cellsL l0) h0
    unfold Oper.wp execOp
    simp only [ho, resolve, invoke, builtin, Sem.run_bind, Sem.run_pure, Result.andThen_ok, List.map_toArray, List.map_cons, List.map_nil, hs, hx, hrun]
    exact h _ _ (by rw [List.append_nil]; exact h0) (Below.refl _ _)
  · refine wp_append_own _ s x 22 ho base 32 infoN z 2 16 (by kernel_rfl) hi hz.1 infoN_size hby hz.2 (by omega) v0 l0.length (cellsL l0) hs h0 ⟨g, 0, none⟩ l1.length cap (cellsL l1) hx (cellsL_len l1) ?_ (cellsL_one l1) (by simp only [maxLen]; omega) hlen hbase ?_
    · intro j u hu
      rw [Addr.add_lit]; exact (Own.seen hg hc hb hcap).cells j u hu
    · intro v' w' hown hgrow _
      refine h v' w' ?_ ((Below.refl _ w).grown hgrow hbase ?_)
      · unfold Own
        rw [List.length_append, cellsL_app]
        exact hown
      · intro q hq
        exact (World.ownsRow.lt h0 q hq).1
/-- One network appended to a list that the call owns: the list stays where it is, or lies in a new block. -/
theorem wp_append_one {o : Oper} {a : Act} {K : Act → World → Prop} {Q : Exit → Act → World → Prop} {w : World} (s x : Operand) (ho : o.op = .call { callee := .builtin .append, args := #[s, x], argTypes := #[22, 22] })
    (base : Nat) (v0 : Value) (l0 : List Nt) (n : Nt) (B c : Nat) (hs : a.eval s = v0) (hx : a.eval x = .slice (some ⟨B, 0, none⟩) 1 c) (h0 : Own w base v0 l0) (hB : Box w B (Nt.v0 n) (Nt.v1 n)) (hlen : (l0.length + 1) * 16 ≤ 140737488355328) (hbase : base ≤ w.heap.size)
    (h : ∀ v' w', Own w' base v' (l0 ++ [n]) → w.grownBy w' v0.ownBlock → (v'.ownBlock = v0.ownBlock ∨ v'.ownBlock = some w.heap.size) → K (a.put o.dst v') w') : o.wp Tryd.prog a w K Q := by
  have hi : Tryd.prog.info? 32 = some infoN := by kernel_rfl
  obtain ⟨z, hz⟩ : ∃ z, infoN.zero = some z ∧ z.cells.size = 2 := ⟨.agg #[.int .u32 0, .int .i64 0], by kernel_rfl, by kernel_rfl⟩
  have hby : infoN.bytes = 16 := by kernel_rfl
  have ht : Tryd.prog.underlying 22 = some (.slice 32) := by kernel_rfl
  have hnews : ∀ j u, [Nt.v0 n, Nt.v1 n][j]? = some u → w.cell? ((⟨B, 0, none⟩ : Addr).add j) = some u := by
    intro j u hj
    rw [Addr.add_lit]
    match j, hj with
    | 0, hj => simp at hj; subst hj; exact hB.c0
    | 1, hj => simp at hj; subst hj; exact hB.c1
  have h1 : ∀ u ∈ [Nt.v0 n, Nt.v1 n], u.oneCell' = true := by intro u hu; simp [Nt.v0, Nt.v1] at hu; rcases hu with rfl | rfl <;> rfl
  have hl : [Nt.v0 n, Nt.v1 n].length = 1 * infoN.size := by rw [infoN_size]; rfl
  obtain ⟨v', w', hr, h2, h3, _⟩ := run_append_own (P := Tryd.prog) w base 22 o.type 32 infoN z 2 16 ht hi hz.1 infoN_size hby hz.2 (by omega) v0 l0.length (cellsL l0) h0 ⟨B, 0, none⟩ 1 c [Nt.v0 n, Nt.v1 n] rfl hnews h1 (by simp only [maxLen]; omega) hlen hbase
  have hnew : v'.ownBlock = v0.ownBlock ∨ v'.ownBlock = some w.heap.size := by
    have hown := h0
    unfold Own at hown
    rcases hown.2 with ⟨rfl, hn⟩ | ⟨g, cap, cur, rfl, hbg, hg, hnc, hcm, hcs, htake⟩
    · have hq := run_append_nil (P := Tryd.prog) w 22 o.type 32 infoN z ht hi hz.1 ⟨B, 0, none⟩ 1 c [Nt.v0 n, Nt.v1 n] hl hnews (by omega) (by omega) (by rw [hby]; omega)
      rw [hr] at hq
      injection hq with hq1 hq2
      rw [hq1]; exact Or.inr rfl
    · by_cases hroom : l0.length + 1 ≤ cap
      · have hq := run_append_room (P := Tryd.prog) w 22 o.type 32 infoN ht hi g l0.length cap cur hg ⟨B, 0, none⟩ 1 c [Nt.v0 n, Nt.v1 n] hl hnews h1 hroom (by rw [hl, hcs, infoN_size, ← Nat.add_mul]; exact Nat.mul_le_mul_right _ hroom)
        rw [hr] at hq
        injection hq with hq1 hq2
        rw [hq1]; exact Or.inl rfl
      · have hq := run_append_grow (P := Tryd.prog) w 22 o.type 32 infoN z ht hi hz.1 ⟨g, 0, none⟩ l0.length cap (cellsL l0) (by rw [infoN_size]; exact cellsL_len l0) (hown.cells (g := g) rfl) ⟨B, 0, none⟩ 1 c [Nt.v0 n, Nt.v1 n] hl hnews (by omega) (by omega) (growslice_fits (by omega) (by rw [hby]; exact hlen))
        rw [hr] at hq
        injection hq with hq1 hq2
        rw [hq1]; exact Or.inr rfl
  unfold Oper.wp execOp
  simp only [ho, resolve, invoke, builtin, Sem.run_bind, Sem.run_pure, Result.andThen_ok, List.map_toArray, List.map_cons, List.map_nil, hs, hx, hr]
  refine h v' w' ?_ h3 hnew
  unfold Own
  rw [List.length_append, cellsL_app]
  exact h2
end Go.Proofs.YtbdmfcnlfmnmdaaDoor
