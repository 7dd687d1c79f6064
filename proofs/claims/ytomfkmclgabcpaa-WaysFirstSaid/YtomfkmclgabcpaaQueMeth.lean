/-
  The methods of the queue: its length, two compared, two exchanged, one put behind, the last one taken.
-/
import Derived.Test.YtomfkmclgabcpaaQueRow
import Derived.Lib.Walk
import Derived.Deep.RegionLaw
namespace Go.Proofs.Ytomfkmclgabcpaa
open Go.RowKit Go.Lib

set_option maxHeartbeats 1000000 in
set_option maxRecDepth 100000 in
theorem qLen_any (w : World) (p : Option Addr) (n c : Nat) :
    Calls Try.prog 24 #[.slice p n c] w fun e w' => e = .returned (.int .i64 n) ∧ w' = w := by
  go_enter Try.func24, Try.ntmps24
  go_wp2_with fail
  go_ret
  exact ⟨rfl, rfl⟩

set_option maxHeartbeats 1000000 in
set_option maxRecDepth 100000 in
theorem qLess_any (w : World) (g cap i j : Nat) (L : List Rc) (h : RowQ w g cap L) (hi : i < L.length) (hj : j < L.length) :
    Calls Try.prog 58 #[.slice (some ⟨g, 0, none⟩) L.length cap, .int .i64 i, .int .i64 j] w fun e w' => e = .returned (.bool (decide ((L[i]!.2 : Int) < L[j]!.2))) ∧ Below w.heap.size w w' := by
  have c1 := h.c1 i hi
  have c2 := h.c1 j hj
  unfold Rc.v1 at c1 c2
  generalize L.length = n at hi hj ⊢
  generalize (L[i]!.2 : Int) = x at c1 ⊢
  generalize (L[j]!.2 : Int) = y at c2 ⊢
  clear h
  go_enter Try.func58, Try.ntmps58
  go_wp2_with fail
  go_region
  all_goals (go_wp2_with fail)
  all_goals go_ret
  all_goals exact ⟨rfl, (Below.refl _ _).drew⟩

/-- Two pairs' cells written, one behind the other. -/
def put2 (w : World) (g o : Nat) (x y : Value) : World := (w.setCell ⟨g, o, none⟩ x).setCell ⟨g, o + 1, none⟩ y
set_option maxHeartbeats 2000000 in
set_option maxRecDepth 100000 in
theorem qSwap_raw (w : World) (g cap i j n : Nat) (x0 x1 y0 y1 : Int) (hi : i < n) (hj : j < n) (a0 : w.cell? ⟨g, i * 2, none⟩ = some (.int .i64 x0)) (a1 : w.cell? ⟨g, i * 2 + 1, none⟩ = some (.int .i64 x1)) (b0 : w.cell? ⟨g, j * 2, none⟩ = some (.int .i64 y0)) (b1 : w.cell? ⟨g, j * 2 + 1, none⟩ = some (.int .i64 y1)) (f : ∀ o, w.frozen? ⟨g, o, none⟩ = false) :
    Calls Try.prog 61 #[.slice (some ⟨g, 0, none⟩) n cap, .int .i64 i, .int .i64 j] w fun e w' => e = .returned (.tuple #[]) ∧ w' = (put2 (put2 w g (i * 2) (.int .i64 y0) (.int .i64 y1)) g (j * 2) (.int .i64 x0) (.int .i64 x1)).drew := by
  have fi0 := f (i * 2)
  have fi1 := f (i * 2 + 1)
  have fj0 := f (j * 2)
  have fj1 := f (j * 2 + 1)
  have k0 := set_if w g (j * 2) (i * 2) (.int .i64 y0) _ b0
  have k1 := set_if _ g (j * 2 + 1) (i * 2 + 1) (.int .i64 y1) _ (set_if w g (j * 2 + 1) (i * 2) (.int .i64 y0) _ b1)
  clear f
  go_enter Try.func61, Try.ntmps61
  go_wp2_with fail
  go_region
  all_goals go_end0
  all_goals exact ⟨rfl, rfl⟩
/-- Two exchanged. -/
theorem qSwap_any (w : World) (g cap i j : Nat) (L : List Rc) (h : RowQ w g cap L) (hi : i < L.length) (hj : j < L.length) :
    Calls Try.prog 61 #[.slice (some ⟨g, 0, none⟩) L.length cap, .int .i64 i, .int .i64 j] w fun e w' => e = .returned (.tuple #[]) ∧ RowQ w' g cap (exch L i j) ∧ Keep (fun b => b = g) w w' := by
  refine (qSwap_raw w g cap i j L.length _ _ _ _ hi hj (h.c0 i hi) (h.c1 i hi) (h.c0 j hj) (h.c1 j hj) h.fz).mono ?_
  rintro e w' ⟨rfl, rfl⟩
  have h1 := h.set i hi L[j]!
  have h2 := h1.set j (by rw [List.length_set]; exact hj) L[i]!
  exact ⟨rfl, h2.drew, (((((Keep.refl (fun b => b = g) w).trans (Keep.setCell _ _ g _ _ rfl)).trans (Keep.setCell _ _ g _ _ rfl)).trans (Keep.setCell _ _ g _ _ rfl)).trans (Keep.setCell _ _ g _ _ rfl)).drew⟩

noncomputable def infoQ : TypeInfo := (Try.prog.info? 57).get (by kernel_rfl)
theorem infoQ_size : infoQ.size = 2 := by kernel_rfl
theorem infoQ_is : Try.prog.info? 57 = some infoQ := by kernel_rfl
theorem infoQ_zero : ∃ z, infoQ.zero = some z ∧ z.cells.size = 2 := ⟨.agg #[.int .i64 0, .int .i64 0], by kernel_rfl, by kernel_rfl⟩
theorem infoQ_bytes : infoQ.bytes = 16 := by kernel_rfl
/-- One pair put behind. -/
theorem run_appendQ (w : World) (ty : TypeId) (g cap : Nat) (L : List Rc) (h : RowQ w g cap L) (x : Rc) (B c : Nat) (h0 : w.cell? ⟨B, 0, none⟩ = some (Rc.v0 x)) (h1 : w.cell? ⟨B, 1, none⟩ = some (Rc.v1 x)) (hlen : (L.length + 1) * 16 ≤ 140737488355328) :
    ∃ g' cap' w', (Builtin.append_ #[54, 54] ty #[.slice (some ⟨g, 0, none⟩) L.length cap, .slice (some ⟨B, 0, none⟩) 1 c]).run Try.prog w = .ok (.slice (some ⟨g', 0, none⟩) (L.length + 1) cap') w' ∧ RowQ w' g' cap' (L ++ [x]) ∧ Keep (fun b => b = g) w w' ∧ (g' = g ∨ g' = w.heap.size) := by
  obtain ⟨z, hz⟩ := infoQ_zero
  have hi := infoQ_is
  have ht : Try.prog.underlying 54 = some (.slice 57) := by kernel_rfl
  have hnews : ∀ j u, [Rc.v0 x, Rc.v1 x][j]? = some u → w.cell? ((⟨B, 0, none⟩ : Addr).add j) = some u := by
    intro j u hj
    rw [Addr.add_lit]
    match j, hj with
    | 0, hj => simp at hj; subst hj; exact h0
    | 1, hj => simp at hj; subst hj; exact h1
  have hone : ∀ u ∈ [Rc.v0 x, Rc.v1 x], u.oneCell' = true := by intro u hu; simp [Rc.v0, Rc.v1] at hu; rcases hu with rfl | rfl <;> rfl
  have hl : [Rc.v0 x, Rc.v1 x].length = 1 * infoQ.size := by rw [infoQ_size]; rfl
  obtain ⟨v', w', hr, h2, h3, _⟩ := run_append_own (P := Try.prog) w 0 54 ty 57 infoQ z 2 16 ht hi hz.1 infoQ_size infoQ_bytes hz.2 (by omega) _ L.length (cellsQ L) h.owns ⟨B, 0, none⟩ 1 c [Rc.v0 x, Rc.v1 x] rfl hnews hone (by simp only [maxLen]; omega) hlen (Nat.zero_le _)
  have e1 : L.length + 1 = (L ++ [x]).length := by simp
  have e2 : cellsQ L ++ [Rc.v0 x, Rc.v1 x] = cellsQ (L ++ [x]) := by rw [cellsQ_app]; rfl
  rw [e1, e2] at h2
  obtain ⟨g', cap', hv, hrow⟩ := RowQ.of_owns h2 (by simp)
  subst hv
  refine ⟨g', cap', w', by rw [hr, e1], hrow, ⟨h3.os, h3.tape, h3.output, h3.size, fun k hk hn => h3.block k hk (fun e => hn (Option.some.inj e))⟩, ?_⟩
  obtain ⟨cur, hg, hcs, htake⟩ := h.ex
  by_cases hroom : L.length + 1 ≤ cap
  · have hq := run_append_room (P := Try.prog) w 54 ty 57 infoQ ht hi g L.length cap cur hg ⟨B, 0, none⟩ 1 c [Rc.v0 x, Rc.v1 x] hl hnews hone hroom (by rw [hl, hcs, infoQ_size, ← Nat.add_mul]; exact Nat.mul_le_mul_right _ hroom)
    rw [hr] at hq
    injection hq with hq1 hq2
    injection hq1 with hp _ _
    injection hp with hp
    injection hp with hp _ _
    exact Or.inl hp
  · have hq := run_append_grow (P := Try.prog) w 54 ty 57 infoQ z ht hi hz.1 ⟨g, 0, none⟩ L.length cap (cellsQ L) (by rw [infoQ_size]; exact cellsQ_len L) (World.ownsRow.cells h.owns (g := g) rfl) ⟨B, 0, none⟩ 1 c [Rc.v0 x, Rc.v1 x] hl hnews (by omega) (by omega) (growslice_fits (by omega) (by rw [infoQ_bytes]; exact hlen))
    rw [hr] at hq
    injection hq with hq1 hq2
    injection hq1 with hp _ _
    injection hp with hp
    injection hp with hp _ _
    exact Or.inr hp

/-! ### What an interface value that holds the queue's address calls -/
set_option maxRecDepth 100000 in
theorem load_slice (w : World) (q : Nat) (v : Value) (h : w.cell? ⟨q, 0, none⟩ = some v) : (loadVar 54 ⟨q, 0, none⟩).run Try.prog w = .ok v w := by
  have hu : Try.prog.underlying 54 = some (.slice 57) := by kernel_rfl
  unfold loadVar isAgg
  simp [run_underlying hu, h]
noncomputable def infoP : TypeInfo := (Try.prog.info? 52).get (by kernel_rfl)
set_option maxRecDepth 100000 in
theorem meth_val (name : String) (f : FuncId) (q : Nat) (v : Value) (w : World) (h : w.cell? ⟨q, 0, none⟩ = some v) (hm : (infoP.methods.find? (·.name == name)).map (fun m => (m.path, m.func)) = some (#[], some (f, false))) :
    (method 201 52 (.pointer (some ⟨q, 0, none⟩)) name).run Try.prog w = .ok (f, v) w := by
  have e := load_slice w q v h
  have h1 : (typeInfo 52).run Try.prog w = .ok infoP w := by kernel_rfl
  have hu : Try.prog.underlying 52 = some (.pointer 54) := by kernel_rfl
  have k : ∀ s : String, (Builtin.ssaWrapNilChk_ #[52] 52 #[.pointer (some ⟨q, 0, none⟩), strVal "", strVal s]).run Try.prog w = .ok (.pointer (some ⟨q, 0, none⟩)) w := fun s => by kernel_rfl
  obtain ⟨m, h2, h3⟩ := Option.map_eq_some_iff.1 hm
  injection h3 with h3 h4
  unfold method
  simp [h1, h2, h3, h4, follow, receiverAt, Place.get, run_underlying hu, k, e, asAddr]
set_option maxRecDepth 100000 in
theorem meth_len (q : Nat) (v : Value) (w : World) (h : w.cell? ⟨q, 0, none⟩ = some v) : (method 201 52 (.pointer (some ⟨q, 0, none⟩)) "Len").run Try.prog w = .ok (24, v) w := meth_val "Len" _ q v w h (by kernel_rfl)
set_option maxRecDepth 100000 in
theorem meth_less (q : Nat) (v : Value) (w : World) (h : w.cell? ⟨q, 0, none⟩ = some v) : (method 201 52 (.pointer (some ⟨q, 0, none⟩)) "Less").run Try.prog w = .ok (58, v) w := meth_val "Less" _ q v w h (by kernel_rfl)
set_option maxRecDepth 100000 in
theorem meth_swap (q : Nat) (v : Value) (w : World) (h : w.cell? ⟨q, 0, none⟩ = some v) : (method 201 52 (.pointer (some ⟨q, 0, none⟩)) "Swap").run Try.prog w = .ok (61, v) w := meth_val "Swap" _ q v w h (by kernel_rfl)
set_option maxRecDepth 100000 in
theorem meth_push (a : Addr) (w : World) : (method 201 52 (.pointer (some a)) "Push").run Try.prog w = .ok (60, .pointer (some a)) w := by kernel_rfl
set_option maxRecDepth 100000 in
theorem meth_pop (a : Addr) (w : World) : (method 201 52 (.pointer (some a)) "Pop").run Try.prog w = .ok (59, .pointer (some a)) w := by kernel_rfl
set_option maxRecDepth 100000 in
theorem assert_rc (x : Value) (w : World) : (Instr.typeAssert (.iface 57 x) 20 57 false).run Try.prog w = .ok x w := by kernel_rfl
end Go.Proofs.Ytomfkmclgabcpaa
