/-
  LISTS OF NUMBERS: a list copied, a list appended to one that the call owns.
-/
import Derived.Test.YtdgfaolflnljaaaDoorIntList
import Derived.Laws.MakeOwn
import Derived.Deep.RegionHeld3
namespace Go.Proofs.YtdgfaolflnljaaaDoor
open Go.RowKit Go.Lib

theorem infoI_is : Tryd.prog.info? 3 = some infoI := by kernel_rfl
set_option maxRecDepth 100000 in
theorem run_append_noneI (w : World) (ty : TypeId) (base : Nat) (v0 : Value) (c : Nat) {l0 : List Int} (h0 : OwnI w base v0 l0) :
    (Builtin.append_ #[22, 22] ty #[v0, .slice none 0 c]).run Tryd.prog w = .ok v0 w := by
  have ht : Tryd.prog.underlying 22 = some (.slice 3) := by kernel_rfl
  have hi := infoI_is
  rcases h0.2 with ⟨rfl, _⟩ | ⟨g, cap, cur, rfl, _, _, hnc, _⟩
  · simp [Builtin.append_, run_underlying ht, sizeOf, typeInfo, hi, Builtin.lenOf, Builtin.firstCells]
  · simp [Builtin.append_, run_underlying ht, sizeOf, typeInfo, hi, Builtin.lenOf, Builtin.firstCells, storeCells]
    intro h
    omega
theorem SeenI.cells {w : World} {b off : Nat} {l : List Int} (h : SeenI w b off l) : ∀ j u, (cellsI l)[j]? = some u → w.cell? ⟨b, off + j, none⟩ = some u := by
  intro j u hj
  have hl : j < l.length := by
    have := (List.getElem?_eq_some_iff.1 hj).1
    rwa [cellsI_len] at this
  rw [h j hl]
  simp only [cellsI, List.getElem?_map, List.getElem?_eq_getElem hl, Option.map_some, Option.some.injEq] at hj
  rw [← hj, getElem!_pos l j hl]
/-- A list copied. -/
theorem wpl_copyI {ops : Array Oper} {rest : List Oper} {o : Oper} {a : Act} {Q : Exit → Act → World → Prop} {w : World} (hgd : o.guard = none) (s x : Operand) (ho : o.op = .call { callee := .builtin .append, args := #[s, x], argTypes := #[22, 22] })
    (base : Nat) (v0 v1 : Value) (l : List Int) (hs : a.eval s = v0) (hx : a.eval x = v1) (h0 : OwnI w base v0 []) (h1 : ArgI w v1 l) (hlen : l.length * 8 ≤ 140737488355328) (hbase : base ≤ w.heap.size)
    (h : ∀ v' w', OwnI w' base v' l → Below base w w' → wpList Tryd.prog ops Q rest (a.put o.dst v') w') : wpList Tryd.prog ops Q (o :: rest) a w := by
  have some_ : ∀ (ad : Addr) (c : Nat), v1 = .slice (some ad) l.length c → (∀ j u, (cellsI l)[j]? = some u → w.cell? (ad.add j) = some u) → wpList Tryd.prog ops Q (o :: rest) a w := by
    intro ad c hv hc
    refine wpList_append_own w hgd s x 22 ho base 3 infoI (.int .i64 0) 1 8 (by kernel_rfl) infoI_is (by kernel_rfl) infoI_size (by kernel_rfl) (by kernel_rfl) (by omega) v0 0 [] hs h0 ad l.length c (cellsI l) (hx.trans hv) (by rw [cellsI_len]; omega) hc (cellsI_one l) (by simp only [maxLen]; omega) (by omega) hbase ?_
    intro v' w' hown hgrow _
    refine h v' w' (by simpa [OwnI] using hown) ((Below.refl _ w).grown hgrow hbase ?_)
    intro q hq
    exact (World.ownsRow.lt h0 q hq).1
  obtain ⟨p, c, rfl, h1⟩ := h1
  rcases h1 with rfl | ⟨b, off, rfl, _, hS⟩
  · cases p with
    | none =>
      refine wpList_plain hgd fun K' hK' => ?_
      have hrun := run_append_noneI w o.type base v0 c h0
      unfold Oper.wp execOp
      simp only [ho, resolve, invoke, builtin, Sem.run_bind, Sem.run_pure, Result.andThen_ok, List.map_toArray, List.map_cons, List.map_nil, hs, hx, List.length_nil, hrun]
      exact hK' _ _ (h v0 w h0 (Below.refl _ _))
    | some ad => exact some_ ad c rfl (fun j u hu => by simp [cellsI] at hu)
  · exact some_ ⟨b, off, none⟩ c rfl (fun j u hu => by rw [Addr.add_lit]; exact hS.cells j u hu)

/-- A list appended to one that the call owns, as one operation. -/
theorem wp_append_listI {o : Oper} {a : Act} {K : Act → World → Prop} {Q : Exit → Act → World → Prop} {w : World} (s x : Operand) (ho : o.op = .call { callee := .builtin .append, args := #[s, x], argTypes := #[22, 22] })
    (base : Nat) (v0 v1 : Value) (l0 l : List Int) (hs : a.eval s = v0) (hx : a.eval x = v1) (h0 : OwnI w base v0 l0) (h1 : ArgI w v1 l) (hlen : (l0.length + l.length) * 8 ≤ 140737488355328) (hbase : base ≤ w.heap.size)
    (h : ∀ v' w', OwnI w' base v' (l0 ++ l) → w.grownBy w' v0.ownBlock → K (a.put o.dst v') w') : o.wp Tryd.prog a w K Q := by
  have some_ : ∀ (ad : Addr) (c : Nat), v1 = .slice (some ad) l.length c → (∀ j u, (cellsI l)[j]? = some u → w.cell? (ad.add j) = some u) → o.wp Tryd.prog a w K Q := by
    intro ad c hv hc
    refine wp_append_own w s x 22 ho base 3 infoI (.int .i64 0) 1 8 (by kernel_rfl) infoI_is (by kernel_rfl) infoI_size (by kernel_rfl) (by kernel_rfl) (by omega) v0 l0.length (cellsI l0) hs h0 ad l.length c (cellsI l) (hx.trans hv) (by rw [cellsI_len]; omega) hc (cellsI_one l) (by simp only [maxLen]; omega) hlen hbase ?_
    intro v' w' hown hgrow _
    refine h v' w' ?_ hgrow
    unfold OwnI
    rw [List.length_append, cellsI_app]
    exact hown
  obtain ⟨p, c, rfl, h1⟩ := h1
  rcases h1 with rfl | ⟨b, off, rfl, _, hS⟩
  · cases p with
    | none =>
      have hrun := run_append_noneI w o.type base v0 c h0
      unfold Oper.wp execOp
      simp only [ho, resolve, invoke, builtin, Sem.run_bind, Sem.run_pure, Result.andThen_ok, List.map_toArray, List.map_cons, List.map_nil, hs, hx, List.length_nil, hrun]
      exact h v0 w (by rw [List.append_nil]; exact h0) ⟨rfl, rfl, rfl, Nat.le_refl _, fun _ _ _ => rfl⟩
    | some ad => exact some_ ad c rfl (fun j u hu => by simp [cellsI] at hu)
  · exact some_ ⟨b, off, none⟩ c rfl (fun j u hu => by rw [Addr.add_lit]; exact hS.cells j u hu)
/-- The same, at the operation. -/
theorem wpl_append_listI {ops : Array Oper} {rest : List Oper} {o : Oper} {a : Act} {Q : Exit → Act → World → Prop} {w : World} (hgd : o.guard = none) (s x : Operand) (ho : o.op = .call { callee := .builtin .append, args := #[s, x], argTypes := #[22, 22] })
    (base : Nat) (v0 v1 : Value) (l0 l : List Int) (hs : a.eval s = v0) (hx : a.eval x = v1) (h0 : OwnI w base v0 l0) (h1 : ArgI w v1 l) (hlen : (l0.length + l.length) * 8 ≤ 140737488355328) (hbase : base ≤ w.heap.size)
    (h : ∀ v' w', OwnI w' base v' (l0 ++ l) → w.grownBy w' v0.ownBlock → wpList Tryd.prog ops Q rest (a.put o.dst v') w') : wpList Tryd.prog ops Q (o :: rest) a w :=
  wpList_plain hgd fun _ hK => wp_append_listI s x ho base v0 v1 l0 l hs hx h0 h1 hlen hbase fun v' w' h1 h2 => hK _ _ (h v' w' h1 h2)
end Go.Proofs.YtdgfaolflnljaaaDoor
