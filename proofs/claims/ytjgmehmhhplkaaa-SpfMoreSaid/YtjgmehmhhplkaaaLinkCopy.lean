/-
  LISTS OF LINKS copied onto an empty list that the call owns; rows and links written over.
-/
import Derived.Test.YtjgmehmhhplkaaaLinkRow
import Derived.Test.YtjgmehmhhplkaaaGraphGrid
namespace Go.Proofs.Ytjgmehmhhplkaaa
open Go.RowKit

set_option maxRecDepth 100000 in
theorem run_append_noneK (w : World) (ty : TypeId) (base : Nat) (v0 : Value) (c : Nat) (h0 : OwnK w base v0 []) :
    (Builtin.append_ #[22, 22] ty #[v0, .slice none 0 c]).run Try.prog w = .ok v0 w := by
  have ht : Try.prog.underlying 22 = some (.slice 42) := by kernel_rfl
  have hi := infoK_is
  rcases h0.2 with ⟨rfl, _⟩ | ⟨g, cap, cur, rfl, _, _, hnc, _⟩
  · simp [Builtin.append_, run_underlying ht, sizeOf, typeInfo, hi, Builtin.lenOf, Builtin.firstCells]
  · simp [Builtin.append_, run_underlying ht, sizeOf, typeInfo, hi, Builtin.lenOf, Builtin.firstCells, storeCells]
/-- A list copied. -/
theorem wpl_copyK {ops : Array Oper} {rest : List Oper} {o : Oper} {a : Act} {Q : Exit → Act → World → Prop} {w : World} (hgd : o.guard = none) (s x : Operand) (ho : o.op = .call { callee := .builtin .append, args := #[s, x], argTypes := #[22, 22] })
    (base : Nat) (v0 v1 : Value) (l : List Lk) (hs : a.eval s = v0) (hx : a.eval x = v1) (h0 : OwnK w base v0 []) (h1 : ArgK w v1 l) (hlen : l.length * 24 ≤ 140737488355328) (hbase : base ≤ w.heap.size)
    (h : ∀ v' w', OwnK w' base v' l → Below base w w' → wpList Try.prog ops Q rest (a.put o.dst v') w') : wpList Try.prog ops Q (o :: rest) a w := by
  obtain ⟨z, hz⟩ := infoK_zero
  have some_ : ∀ (ad : Addr) (c : Nat), v1 = .slice (some ad) l.length c → (∀ j u, (cellsK l)[j]? = some u → w.cell? (ad.add j) = some u) → wpList Try.prog ops Q (o :: rest) a w := by
    intro ad c hv hc
    refine wpList_append_own w hgd s x 22 ho base 42 infoK z 3 24 (by kernel_rfl) infoK_is hz.1 infoK_size infoK_bytes hz.2 (by omega) v0 0 [] hs h0 ad l.length c (cellsK l) (hx.trans hv) (cellsK_len l) hc (cellsK_one l) (by simp only [maxLen]; omega) (by omega) hbase ?_
    intro v' w' hown hgrow _
    refine h v' w' (by simpa [OwnK] using hown) ((Below.refl _ w).grown hgrow hbase ?_)
    intro q hq
    exact (World.ownsRow.lt h0 q hq).1
  obtain ⟨p, c, rfl, h1⟩ := h1
  rcases h1 with rfl | ⟨b, off, rfl, _, hS⟩
  · cases p with
    | none =>
      refine wpList_plain hgd fun K' hK' => ?_
      have hrun := run_append_noneK w o.type base v0 c h0
      unfold Oper.wp execOp
      simp only [ho, resolve, invoke, builtin, Sem.run_bind, Sem.run_pure, Result.andThen_ok, List.map_toArray, List.map_cons, List.map_nil, hs, hx, List.length_nil, hrun]
      exact hK' _ _ (h v0 w h0 (Below.refl _ _))
    | some ad => exact some_ ad c rfl (fun j u hu => by simp [cellsK] at hu)
  · exact some_ ⟨b, off, none⟩ c rfl (fun j u hu => by rw [Addr.add_lit]; exact hS.cells j u hu)
/-- Another block written anew. -/
theorem RowF.other {w : World} {g n c : Nat} {f : Nat → Lk} (h : RowF w g n f) (hc : g ≠ c) (o : Nat) (v : Value) : RowF (w.setCell ⟨c, o, none⟩ v) g n f :=
  ⟨by simpa [World.setCell] using h.lt, fun i hi => (World.cell?_setCell_other _ _ _ _ (fun e => hc (congrArg Addr.block e).symm)).trans (h.c0 i hi), fun i hi => (World.cell?_setCell_other _ _ _ _ (fun e => hc (congrArg Addr.block e).symm)).trans (h.c1 i hi), fun i hi => (World.cell?_setCell_other _ _ _ _ (fun e => hc (congrArg Addr.block e).symm)).trans (h.c2 i hi), fun j => by rw [World.frozen?_setCell]; exact h.fz j⟩
/-- One link's cost written anew. -/
theorem RowF.cost {w : World} {g n : Nat} {f : Nat → Lk} (h : RowF w g n f) (k : Nat) (x : Int) : RowF (w.setCell ⟨g, k * 3 + 2, none⟩ (.int .i64 x)) g n (fun i => if i = k then ((f i).1, (f i).2.1, x) else f i) := by
  refine ⟨by simpa [World.setCell] using h.lt, fun i hi => ?_, fun i hi => ?_, fun i hi => ?_, fun j => by rw [World.frozen?_setCell]; exact h.fz j⟩
  · rw [set_if w g (i * 3) (k * 3 + 2) _ _ (h.c0 i hi), if_neg (by omega)]
    by_cases e : i = k
    · rw [if_pos e]
    · rw [if_neg e]
  · rw [set_if w g (i * 3 + 1) (k * 3 + 2) _ _ (h.c1 i hi), if_neg (by omega)]
    by_cases e : i = k
    · rw [if_pos e]
    · rw [if_neg e]
  · rw [set_if w g (i * 3 + 2) (k * 3 + 2) _ _ (h.c2 i hi)]
    by_cases e : i = k
    · rw [if_pos (by omega), if_pos e]
    · rw [if_neg (by omega), if_neg e]
end Go.Proofs.Ytjgmehmhhplkaaa
