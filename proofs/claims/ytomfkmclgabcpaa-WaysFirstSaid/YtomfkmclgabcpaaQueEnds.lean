/-
  A pair put behind the queue, the last one taken.
-/
import Derived.Test.YtomfkmclgabcpaaQueMeth
namespace Go.Proofs.Ytomfkmclgabcpaa
open Go.RowKit Go.Lib

set_option maxHeartbeats 1000000 in
set_option maxRecDepth 100000 in
theorem qPop_raw (w : World) (q g cap n : Nat) (a b : Int) (cq : w.cell? ⟨q, 0, none⟩ = some (.slice (some ⟨g, 0, none⟩) (n + 1) cap)) (fq : w.frozen? ⟨q, 0, none⟩ = false) (c0 : w.cell? ⟨g, n * 2, none⟩ = some (.int .i64 a)) (c1 : w.cell? ⟨g, n * 2 + 1, none⟩ = some (.int .i64 b)) (hl : n ≤ 1000) (hcap : n + 1 ≤ cap) :
    Calls Try.prog 59 #[.pointer (some ⟨q, 0, none⟩)] w fun e w' => e = .returned (.iface 57 (.agg #[.int .i64 a, .int .i64 b])) ∧ w' = (w.setCell ⟨q, 0, none⟩ (.slice (some ⟨g, 0, none⟩) n cap)).alloc (.cells #[.int .i64 a, .int .i64 b] 57) := by
  have lq := World.block_lt_of_cell? w _ cq
  have lg := World.block_lt_of_cell? w _ c0
  simp only at lq lg
  go_enter Try.func59, Try.ntmps59
  go_wp2_with fail
  go_ret
  exact ⟨rfl, rfl⟩
/-- The last one taken. -/
theorem qPop_any (w : World) (q g cap : Nat) (L : List Rc) (x : Rc) (h : Que w q g cap (L ++ [x])) (hl : L.length ≤ 1000) :
    Calls Try.prog 59 #[.pointer (some ⟨q, 0, none⟩)] w fun e w' => e = .returned (.iface 57 (.agg #[Rc.v0 x, Rc.v1 x])) ∧ Que w' q g cap L ∧ Keep (InQ q g) w w' := by
  have hlen : (L ++ [x]).length = L.length + 1 := by simp
  have hx : (L ++ [x])[L.length]! = x := by simp
  have c0 := h.row.c0 L.length (by omega)
  have c1 := h.row.c1 L.length (by omega)
  rw [hx] at c0 c1
  refine (qPop_raw w q g cap L.length _ _ (by rw [← hlen]; exact h.cq) h.fq c0 c1 hl (by rw [← hlen]; exact h.row.le)).mono ?_
  rintro e w' ⟨rfl, rfl⟩
  have h1 : Que (w.setCell ⟨q, 0, none⟩ (.slice (some ⟨g, 0, none⟩) L.length cap)) q g cap L :=
    ⟨World.cell?_setCell_same _ _ _ h.cq, by rw [World.frozen?_setCell]; exact h.fq, by simpa [World.setCell] using h.lq, h.ne, h.row.drop.past q 0 h.ne _⟩
  exact ⟨rfl, h1.below ((Below.refl _ _).alloc (Nat.le_refl _) _), (Keep.setCell (InQ q g) w q 0 _ (Or.inl rfl)).trans (Keep.alloc (InQ q g) _ _)⟩

/-- One pair put behind, as one step of a region that draws its order. -/
theorem step_appendQ {ops : Array Oper} {o : Oper} {a : Act} {w : World} {K : Act → World → Prop} {Q : Exit → Act → World → Prop} {E : Prop}
    (hg : o.guard = none) (s x : Operand) (hop : o.op = Op.call { callee := Callee.builtin Builtin.append, args := #[s, x], argTypes := #[54, 54] })
    (g cap : Nat) (L : List Rc) (y : Rc) (B c : Nat) (hs : a.eval s = .slice (some ⟨g, 0, none⟩) L.length cap) (hx : a.eval x = .slice (some ⟨B, 0, none⟩) 1 c)
    (h : RowQ w g cap L) (h0 : w.cell? ⟨B, 0, none⟩ = some (Rc.v0 y)) (h1 : w.cell? ⟨B, 1, none⟩ = some (Rc.v1 y)) (hlen : (L.length + 1) * 16 ≤ 140737488355328)
    (hK : ∀ g' cap' w', RowQ w' g' cap' (L ++ [y]) → Keep (fun b => b = g) w w' → (g' = g ∨ g' = w.heap.size) → K (a.put o.dst (.slice (some ⟨g', 0, none⟩) (L.length + 1) cap')) w') :
    if Region.wanted o (yielded ops a.tmps) = true then Oper.wp Try.prog o a w K Q else E := by
  have hw : Region.wanted o (yielded ops a.tmps) = true := by simp [Region.wanted, hg]
  rw [if_pos hw]
  obtain ⟨g', cap', w', hr, hrow, hk, hg'⟩ := run_appendQ w o.type g cap L h y B c h0 h1 hlen
  unfold Oper.wp
  simp [execOp, hop, resolve, invoke, builtin, hs, hx, hr, Result.andThen]
  exact hK g' cap' w' hrow hk hg'

set_option maxHeartbeats 1000000 in
set_option maxRecDepth 100000 in
/-- One put behind. -/
theorem qPush_any (w : World) (q g cap : Nat) (L : List Rc) (x : Rc) (h : Que w q g cap L) (hl : L.length ≤ 1000) :
    Calls Try.prog 60 #[.pointer (some ⟨q, 0, none⟩), .iface 57 (.agg #[Rc.v0 x, Rc.v1 x])] w fun e w' => ∃ g' cap', e = .returned (.tuple #[]) ∧ Que w' q g' cap' (L ++ [x]) ∧ Keep (InQ q g) w w' ∧ (g' = g ∨ w.heap.size ≤ g') := by
  have cq := h.cq
  have fq := h.fq
  have lq := h.lq
  have lg := h.row.lt
  have ne := h.ne
  have BA := (Below.refl w.heap.size w).alloc (Nat.le_refl _) (.cells #[Rc.v0 x, Rc.v1 x] 57)
  have HQ := Lib.hid (h.below BA).drew
  have HB := Lib.hid BA.drew
  have x0 : (w.alloc (.cells #[Rc.v0 x, Rc.v1 x] 57)).drew.cell? ⟨w.heap.size, 0, none⟩ = some (Rc.v0 x) := by simp
  have x1 : (w.alloc (.cells #[Rc.v0 x, Rc.v1 x] 57)).drew.cell? ⟨w.heap.size, 1, none⟩ = some (Rc.v1 x) := by simp
  have HX0 := Lib.hid x0
  have HX1 := Lib.hid x1
  clear h x0 x1 BA
  go_enter Try.func60, Try.ntmps60
  have ha := fun w => assert_rc (.agg #[Rc.v0 x, Rc.v1 x]) w
  go_wp2_with fail
  generalize hW : (w.alloc (.cells #[Rc.v0 x, Rc.v1 x] 57)).drew = W at HQ HB HX0 HX1
  have cqW := HQ.out.cq
  go_region_law (refine step_appendQ rfl (.tmp 7) (.tmp 10) rfl g cap L x w.heap.size 1 (by simp [Act.eval]) (by simp [Act.eval]) HQ.out.row HX0.out HX1.out (by omega) ?_; intro g' cap' w' hr hk hg'; have cq' := (World.cell?_of_block (a := ⟨q, 0, none⟩) (hk.block q HQ.out.lq HQ.out.ne.symm)).trans HQ.out.cq; have fq' := (World.frozen?_of_block (a := ⟨q, 0, none⟩) (hk.block q HQ.out.lq HQ.out.ne.symm)).trans HQ.out.fq; have HH := Lib.hid (And.intro hr (And.intro hk hg')); clear hr hk hg')
  all_goals go_end0
  all_goals
    obtain ⟨hr, hk, hg'⟩ := HH.out
    have hs := HB.out.size
    have hn : g' ≠ q := by
      rcases hg' with e | e
      · rw [e]; exact ne
      · have := HQ.out.lq
        omega
    have hw := hk.size
    refine ⟨g', cap', rfl, ⟨?_, by rw [World.frozen?_setCell]; exact fq', by simp [World.setCell]; omega, hn, hr.past q 0 hn _⟩, ((Keep.of HB.out).trans (hk.mono fun b hb => Or.inr hb)).trans (Keep.setCell (InQ q g) _ q 0 _ (Or.inl rfl)), by omega⟩
    rw [World.cell?_setCell_same _ _ _ cq']
    simp
end Go.Proofs.Ytomfkmclgabcpaa
