/-
  THE MAP of the pairs of ends that were seen: what it tells of a pair, and one pair more.
-/
import Derived.Test.YtomfkmclgabcpaaDoorGraphNode
import Derived.Maps.OwnOps
import Derived.Maps.Views
import Derived.WideKeyPair
import Derived.DeepKeys4
namespace Go.Proofs.YtomfkmclgabcpaaDoor
open Go.RowKit Go.Maps Go.WideMaps

theorem pair_laid : laidOutB Tryd.prog = true := by kernel_rfl
theorem pair_cells : Tryd.prog.cellsOf 67 = 2 := by kernel_rfl
theorem pair_arr : ArrKey Tryd.prog 67 3 2 := ⟨Tryd.underlying67, by kernel_rfl, by kernel_rfl, pair_cells⟩
theorem pair_wide : (match Tryd.prog.underlying 67 with | some (.array _ _) | some (.struct _) => true | _ => false) = true := by rw [Tryd.underlying67]
theorem pair_row : (67 : TypeId) < Tryd.prog.types.size := of_decide_eq_true (by kernel_rfl)
set_option maxRecDepth 100000 in
theorem pair_law : Keyed Tryd.prog 67 := Keyed.of_law (deep_law_laid pair_laid (m := 2) (by omega) pair_row (by kernel_rfl) pair_wide)
set_option maxRecDepth 100000 in
theorem pair_some : ∃ m, Tryd.prog.types.size = m + 1 :=
  ⟨_, (Nat.succ_pred_eq_of_pos (Nat.lt_of_le_of_lt (Nat.zero_le _) pair_row)).symm⟩
theorem bool_zero (w : World) : (zeroValue 4).run Tryd.prog w = .ok (.bool false) w := by kernel_rfl
def pairKey (x y : Int) : Lit := .string (keyBytes [.int .i64 x, .int .i64 y])
set_option maxRecDepth 100000 in
theorem pair_key (x y : Int) (hx : (Lit.int .i64 x).wf = true) (hy : (Lit.int .i64 y).wf = true) : keyOf Tryd.prog 67 (.agg #[.int .i64 x, .int .i64 y]) = some (pairKey x y) :=
  keyOf_pair pair_arr Tryd.underlying3 pair_some hx hy
set_option maxRecDepth 100000 in
theorem pair_inj {x y x' y' : Int} (hx : (Lit.int .i64 x).wf = true) (hy : (Lit.int .i64 y).wf = true) (hx' : (Lit.int .i64 x').wf = true) (hy' : (Lit.int .i64 y').wf = true) (h : pairKey x y = pairKey x' y') : x = x' ∧ y = y' := by
  have := pair_law.inj (pair_key x y hx hy) (h ▸ pair_key x' y' hx' hy')
  simpa using this
/-- The map, block b, of at most n entries, of the ends of the links s. -/
def PSet (w : World) (b n : Nat) (s : List Lk) : Prop := ∃ D : DataW Unit, w.ownsMap Tryd.prog 67 (plainElem Tryd.prog 4) b n D ∧ IsMap D ∧
  ∀ x y : Int, (Lit.int .i64 x).wf = true → (Lit.int .i64 y).wf = true → D.atKey (pairKey x y) (.lit (.bool false)) = .lit (.bool (s.any fun z => decide (min z.1 z.2.1 = x ∧ max z.1 z.2.1 = y)))
set_option maxRecDepth 100000 in
theorem PSet.made (w : World) : PSet (w.alloc (.map #[] 0)) w.heap.size 0 [] := by
  refine ⟨.map [], World.ownsMap_made w _ _ _, isMap_empty, fun x y _ _ => ?_⟩
  rfl
theorem PSet.lt {w : World} {b n : Nat} {s : List Lk} (h : PSet w b n s) : b < w.heap.size := by
  obtain ⟨D, h1, _⟩ := h
  exact h1.lt
theorem PSet.below {w w1 : World} {b n m : Nat} {s : List Lk} (h : PSet w b n s) (hb : Below m w w1) (hm : b < m) : PSet w1 b n s := by
  obtain ⟨D, ⟨es, clock, hg, h1⟩, h2⟩ := h
  exact ⟨D, ⟨es, clock, (hb.block b hm).trans hg, h1⟩, h2⟩
set_option maxRecDepth 100000 in
/-- The pair of two nodes looked up. -/
theorem wp_lookup_pset {w : World} {ops : Array Oper} {rest : List Oper} {o : Oper} {a : Act} {Q : Exit → Act → World → Prop}
    (hg : o.guard = none) (m x : Operand) (hop : o.op = Op.lookup 65 m x false) (b n : Nat) (s : List Lk) (p q : Int) (hp : (Lit.int .i64 (min p q)).wf = true) (hq : (Lit.int .i64 (max p q)).wf = true)
    (hm : a.eval m = .map (some b)) (hs : PSet w b n s) (hx : a.eval x = .agg #[.int .i64 (min p q), .int .i64 (max p q)])
    (hK : wpList Tryd.prog ops Q rest (a.put o.dst (.bool (s.any (bond p q)))) w) : wpList Tryd.prog ops Q (o :: rest) a w := by
  refine wpList_plain hg fun K' hK' => ?_
  obtain ⟨D, hown, _, hat⟩ := hs
  obtain ⟨v, ps, hrun, hv⟩ := hown.lookup pair_law Tryd.underlying65 (bool_zero w) (plainElem_bool Tryd.underlying4 false) (pair_key _ _ hp hq)
  rw [hat _ _ hp hq] at hv
  have e : (s.any fun z => decide (min z.1 z.2.1 = min p q ∧ max z.1 z.2.1 = max p q)) = s.any (bond p q) := by
    congr 1
    funext z
    exact (tie_ends p q z).symm
  rw [e] at hv
  have hvv : v = .bool (s.any (bond p q)) := by
    unfold plainElem at hv
    rw [Tryd.underlying4] at hv
    cases v <;> simp at hv
    rw [hv.1]
  subst hvv
  unfold Oper.wp
  simp [execOp, hop, hm, hx, hrun, Result.andThen]
  exact hK' _ _ hK
set_option maxRecDepth 100000 in
/-- One link's ends more. -/
theorem wp_update_pset {w : World} {ops : Array Oper} {rest : List Oper} {o : Oper} {a : Act} {Q : Exit → Act → World → Prop}
    (hg : o.guard = none) (m x v : Operand) (hop : o.op = Op.mapUpdate 65 m x v) (b n : Nat) (s : List Lk) (z : Lk) (hp : (Lit.int .i64 (min z.1 z.2.1)).wf = true) (hq : (Lit.int .i64 (max z.1 z.2.1)).wf = true)
    (hm : a.eval m = .map (some b)) (hs : PSet w b n s) (hn : n < maxLen) (hx : a.eval x = .agg #[.int .i64 (min z.1 z.2.1), .int .i64 (max z.1 z.2.1)]) (hv : a.eval v = .bool true)
    (hK : ∀ w', PSet w' b (n + 1) (s ++ [z]) → w.grownBy w' (some b) → wpList Tryd.prog ops Q rest (a.put o.dst undef) w') : wpList Tryd.prog ops Q (o :: rest) a w := by
  obtain ⟨D, hown, hD, hat⟩ := hs
  refine wpList_mapUpdate_own w hg m x v 65 hop 67 4 pair_law Tryd.underlying65 (plainElem Tryd.prog 4) b n D hm hown hn _ _ _ hx hv (pair_key _ _ hp hq) (.lit (.bool true)) [] (plainElem_bool Tryd.underlying4 true) ?_
  intro w' h1 h2
  refine hK w' ⟨_, h1, hD.put _ _, fun p q hp' hq' => ?_⟩ h2
  rw [List.any_append]
  by_cases e : min z.1 z.2.1 = p ∧ max z.1 z.2.1 = q
  · rw [← e.1, ← e.2, atKey_put_same hD (pair_law.key (pair_key _ _ hp hq))]
    simp
  · have hne : pairKey p q ≠ pairKey (min z.1 z.2.1) (max z.1 z.2.1) := fun h => e (by
      have := pair_inj hp' hq' hp hq h
      exact ⟨this.1.symm, this.2.symm⟩)
    rw [atKey_put_other hne, hat p q hp' hq']
    simp [e]
end Go.Proofs.YtomfkmclgabcpaaDoor
