/-
  The statements' own tabled tells true; what lay in memory stays.
-/
import Derived.Test.YtobfidlfgdlilaaDoorMatMake
namespace Go.Proofs.YtobfidlfgdlilaaDoor
open Go.RowKit Go.Lib

theorem rows_tabled : rowsF 2 (fun i j => (MatP.one i j : Int)) = [[0, 16], [16, 0]] := by decide
theorem tabled_lit (w : World) : ArgR (((w.alloc (.cells #[.int .i64 0, .int .i64 16] 3)).alloc (.cells #[.int .i64 16, .int .i64 0] 3)).alloc (.cells #[.slice (some ⟨w.heap.size, 0, none⟩) 2 2, .slice (some ⟨w.heap.size + 1, 0, none⟩) 2 2] 39)) (.slice (some ⟨w.heap.size + 1 + 1, 0, none⟩) 2 2) [[0, 16], [16, 0]] := by
  obtain ⟨B1, B2, B3, _⟩ := box3 (w := w) (x := .int .i64 0) (y := .int .i64 16) (T := 3) (x' := .int .i64 16) (y' := .int .i64 0) (T' := 3) (x'' := .slice (some ⟨w.heap.size, 0, none⟩) 2 2) (y'' := .slice (some ⟨w.heap.size + 1, 0, none⟩) 2 2) (T'' := 39) (Below.refl _ _)
  refine ⟨_, 2, rfl, Or.inr ⟨_, 0, rfl, B3.lt, fun i hi => ?_⟩⟩
  match i, hi with
  | 0, _ =>
    refine ⟨.slice (some ⟨w.heap.size, 0, none⟩) 2 2, B3.c0, _, 2, rfl, Or.inr ⟨_, 0, rfl, B1.lt, fun j hj => ?_⟩⟩
    match j, hj with
    | 0, _ => exact B1.c0
    | 1, _ => exact B1.c1
  | 1, _ =>
    refine ⟨.slice (some ⟨w.heap.size + 1, 0, none⟩) 2 2, B3.c1, _, 2, rfl, Or.inr ⟨_, 0, rfl, B2.lt, fun j hj => ?_⟩⟩
    match j, hj with
    | 0, _ => exact B2.c0
    | 1, _ => exact B2.c1

set_option maxHeartbeats 1000000 in
set_option maxRecDepth 100000 in
theorem tabled_any (w : World) : Calls Tryd.prog 4 #[] w fun e w' => e = .returned (.bool true) ∧ Below w.heap.size w w' := by
  have HC := Lib.hid (one_yes w 2 (by decide) (by decide))
  go_enter Tryd.func4, Tryd.ntmps4
  go_wp2_with fail
  refine HC.out.mono ?_
  rintro e w1 ⟨g, hg, rfl, hG, hb1⟩
  have HB1 := Lib.hid hb1
  have B2 := (((Below.refl w1.heap.size w1).alloc (Nat.le_refl _) (.cells #[.int .i64 0, .int .i64 16] 3)).alloc (by simp) (.cells #[.int .i64 16, .int .i64 0] 3)).alloc (by simp; omega) (.cells #[.slice (some ⟨w1.heap.size, 0, none⟩) 2 2, .slice (some ⟨w1.heap.size + 1, 0, none⟩) 2 2] 39)
  have HS := sameRows_any _ _ _ (rowsF 2 (fun i j => (MatP.one i j : Int))) [[0, 16], [16, 0]] (by rw [rowsF_len]; decide) (fun r hr => by rw [rowsF_row _ _ r hr]; decide) (hG.keep B2).arg (tabled_lit w1)
  rw [rows_tabled, decide_eq_true rfl] at HS
  have HS := Lib.hid HS
  have HB2 := Lib.hid (Below.two HB1.out B2)
  clear hG hb1 B2 hg HC
  go_wp2_with fail
  refine HS.out.mono ?_
  rintro e w3 ⟨rfl, hb3⟩
  have HB3 := Lib.hid (Below.two HB2.out hb3); clear hb3
  go_wp2_with fail
  go_ret
  exact ⟨rfl, HB3.out⟩
end Go.Proofs.YtobfidlfgdlilaaDoor
