/-
  ROWS as they lie behind graph.Costs, read; the statements' own linked tells true.
-/
import Derived.Test.YtioackidihalfaaDoorGraphCosts
import Derived.Test.YtioackidihalfaaDoorSameRows
namespace Go.Proofs.YtioackidihalfaaDoor
open Go.RowKit Go.Lib

/-- The rows of n nodes. -/
def rowsF (n : Nat) (f : Nat → Nat → Int) : List (List Int) := (List.range n).map fun i => (List.range n).map fun j => f i j
theorem rowsF_len (n : Nat) (f : Nat → Nat → Int) : (rowsF n f).length = n := by simp [rowsF]
theorem rowsF_at (n : Nat) (f : Nat → Nat → Int) (i : Nat) (h : i < n) : (rowsF n f)[i]! = (List.range n).map fun j => f i j := by
  rw [getElem!_pos (rowsF n f) i (by rw [rowsF_len]; exact h)]
  simp [rowsF]
theorem rowsF_row (n : Nat) (f : Nat → Nat → Int) : ∀ r ∈ rowsF n f, r.length = n := by
  intro r hr
  simp only [rowsF, List.mem_map] at hr
  obtain ⟨i, _, rfl⟩ := hr
  simp
theorem Grid.row_arg {w : World} {g n : Nat} {f : Nat → Nat → Int} (h : Grid w g n n f) (i : Nat) (hi : i < n) : ArgI w (.slice (some ⟨g + 1 + i, 0, none⟩) n n) ((List.range n).map fun j => f i j) := by
  refine ⟨_, n, by simp, Or.inr ⟨g + 1 + i, 0, rfl, ?_, fun j hj => ?_⟩⟩
  · have := h.lt; omega
  · have hj' : j < n := by simpa using hj
    rw [Nat.zero_add, h.e i hi j hj', getElem!_pos _ j hj]
    simp
theorem Grid.arg {w : World} {g n : Nat} {f : Nat → Nat → Int} (h : Grid w g n n f) : ArgR w (.slice (some ⟨g, 0, none⟩) n n) (rowsF n f) := by
  refine ⟨_, n, by rw [rowsF_len], Or.inr ⟨g, 0, rfl, ?_, fun i hi => ?_⟩⟩
  · have := h.lt; omega
  · rw [rowsF_len] at hi
    refine ⟨.slice (some ⟨g + 1 + i, 0, none⟩) n n, ?_, ?_⟩
    · rw [Nat.zero_add]; exact h.o i hi
    · rw [rowsF_at n f i hi]; exact h.row_arg i hi
theorem rows_linked : rowsF 2 (fun i j => costG [(0, 1, 3)] i j) = [[0, 3], [3, 0]] := by decide
theorem linked_right : gBad ((2 : Nat) : Int) [(0, 1, 3)] = 0 := by decide
theorem linked_lit (w : World) : ArgR (((w.alloc (.cells #[.int .i64 0, .int .i64 3] 3)).alloc (.cells #[.int .i64 3, .int .i64 0] 3)).alloc (.cells #[.slice (some ⟨w.heap.size, 0, none⟩) 2 2, .slice (some ⟨w.heap.size + 1, 0, none⟩) 2 2] 31)) (.slice (some ⟨w.heap.size + 1 + 1, 0, none⟩) 2 2) [[0, 3], [3, 0]] := by
  obtain ⟨B1, B2, B3, _⟩ := box3 (w := w) (x := .int .i64 0) (y := .int .i64 3) (T := 3) (x' := .int .i64 3) (y' := .int .i64 0) (T' := 3) (x'' := .slice (some ⟨w.heap.size, 0, none⟩) 2 2) (y'' := .slice (some ⟨w.heap.size + 1, 0, none⟩) 2 2) (T'' := 31) (Below.refl _ _)
  refine ⟨_, 2, rfl, Or.inr ⟨_, 0, rfl, B3.lt, fun i hi => ?_⟩⟩
  match i, hi with
  | 0, _ =>
    refine ⟨.slice (some ⟨w.heap.size, 0, none⟩) 2 2, B3.c0, _, 2, rfl, Or.inr ⟨_, 0, rfl, B1.lt, fun j hj => ?_⟩⟩
    match j, hj with
    | 0, _ => exact B1.c0
    | 1, _ => exact B1.c1
  | 1, _ =>
    refine ⟨.slice (some ⟨w.heap.size + 1, 0, none⟩) 2 2, B3.c1, _, 2, rfl, Or.inr ⟨_, 0, rfl, B2.lt, fun j hj => ?_⟩⟩
    match j, hj with
    | 0, _ => exact B2.c0
    | 1, _ => exact B2.c1

set_option maxHeartbeats 1000000 in
set_option maxRecDepth 100000 in
theorem linked_any (w : World) : Calls Tryd.prog 5 #[] w fun e w' => e = .returned (.bool true) ∧ Below w.heap.size w w' := by
  have B0 := (Below.refl w.heap.size w).alloc (Nat.le_refl _) (.cells #[.int .i64 0, .int .i64 1, .int .i64 3] 46)
  have X := Box3.new w (.int .i64 0) (.int .i64 1) (.int .i64 3) 46
  have HC := costs_ok _ 2 (.slice (some ⟨w.heap.size, 0, none⟩) 1 1) [(0, 1, 3)] (by decide) ⟨_, 1, rfl, Or.inr ⟨w.heap.size, 0, rfl, X.lt, ⟨fun i hi => by
    obtain rfl : i = 0 := by simpa using hi
    exact X.c0, fun i hi => by
    obtain rfl : i = 0 := by simpa using hi
    exact X.c1, fun i hi => by
    obtain rfl : i = 0 := by simpa using hi
    exact X.c2⟩⟩⟩ linked_right
  have HC := Lib.hid HC
  have HB0 := Lib.hid B0
  clear X B0
  go_enter Tryd.func5, Tryd.ntmps5
  go_wp2_with fail
  refine HC.out.mono ?_
  rintro e w1 ⟨g, hg, rfl, hG, hb1⟩
  have HB1 := Lib.hid (Below.two HB0.out hb1)
  have B2 := (((Below.refl w1.heap.size w1).alloc (Nat.le_refl _) (.cells #[.int .i64 0, .int .i64 3] 3)).alloc (by simp) (.cells #[.int .i64 3, .int .i64 0] 3)).alloc (by simp; omega) (.cells #[.slice (some ⟨w1.heap.size, 0, none⟩) 2 2, .slice (some ⟨w1.heap.size + 1, 0, none⟩) 2 2] 31)
  have HS := sameRows_any _ _ _ (rowsF 2 (fun i j => costG [(0, 1, 3)] i j)) [[0, 3], [3, 0]] (by rw [rowsF_len]; decide) (fun r hr => by rw [rowsF_row _ _ r hr]; decide) (hG.keep B2).arg (linked_lit w1)
  rw [rows_linked, decide_eq_true rfl] at HS
  have HS := Lib.hid HS
  have HB2 := Lib.hid (Below.two HB1.out B2)
  clear hG hb1 B2
  go_wp2_with fail
  refine HS.out.mono ?_
  rintro e w3 ⟨rfl, hb3⟩
  have HB3 := Lib.hid (Below.two HB2.out hb3); clear hb3
  go_wp2_with fail
  go_ret
  exact ⟨rfl, HB3.out⟩
end Go.Proofs.YtioackidihalfaaDoor
