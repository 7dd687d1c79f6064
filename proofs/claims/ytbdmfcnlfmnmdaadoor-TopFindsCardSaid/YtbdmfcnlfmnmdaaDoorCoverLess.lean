/-
  The closure by which cover.sorted compares two networks of its slice: it answers which stands first; it lays blocks of its own.
-/
import Derived.Test.YtbdmfcnlfmnmdaaDoorSortRow
import Derived.Test.YtbdmfcnlfmnmdaaDoorPrefLess
import Derived.Deep.RegionHeld3
namespace Go.Proofs.YtbdmfcnlfmnmdaaDoor
open Go.RowKit

theorem heldC {W w w1 : World} {B blk n c i j : Nat} {x y : Nt} (h : w.cell? ⟨B, 0, none⟩ = some (.slice (some ⟨blk, 0, none⟩) n c) ∧ w.cell? ⟨blk, i * 2, none⟩ = some (.int .u32 (x.1 : Int)) ∧ w.cell? ⟨blk, i * 2 + 1, none⟩ = some (.int .i64 x.2) ∧ w.cell? ⟨blk, j * 2, none⟩ = some (.int .u32 (y.1 : Int)) ∧ w.cell? ⟨blk, j * 2 + 1, none⟩ = some (.int .i64 y.2) ∧ Below W.heap.size W w) (hb : Below w.heap.size w w1) :
    w1.cell? ⟨B, 0, none⟩ = some (.slice (some ⟨blk, 0, none⟩) n c) ∧ w1.cell? ⟨blk, i * 2, none⟩ = some (.int .u32 (x.1 : Int)) ∧ w1.cell? ⟨blk, i * 2 + 1, none⟩ = some (.int .i64 x.2) ∧ w1.cell? ⟨blk, j * 2, none⟩ = some (.int .u32 (y.1 : Int)) ∧ w1.cell? ⟨blk, j * 2 + 1, none⟩ = some (.int .i64 y.2) ∧ Below W.heap.size W w1 := by
  obtain ⟨h1, h2, h3, h4, h5, h6⟩ := h
  have l1 : B < w.heap.size := World.block_lt_of_cell? _ _ h1
  have l2 : blk < w.heap.size := World.block_lt_of_cell? _ _ h2
  exact ⟨(hb.cell (p := ⟨B, 0, none⟩) l1).trans h1, (hb.cell (p := ⟨blk, i * 2, none⟩) l2).trans h2, (hb.cell (p := ⟨blk, i * 2 + 1, none⟩) l2).trans h3, (hb.cell (p := ⟨blk, j * 2, none⟩) l2).trans h4, (hb.cell (p := ⟨blk, j * 2 + 1, none⟩) l2).trans h5, Below.two h6 hb⟩

set_option maxHeartbeats 1000000 in
set_option maxRecDepth 100000 in
theorem coverLess_any (W : World) (B blk n c i j : Nat) (x y : Nt) (hi : i < n) (hj : j < n)
    (h : W.cell? ⟨B, 0, none⟩ = some (.slice (some ⟨blk, 0, none⟩) n c) ∧ W.cell? ⟨blk, i * 2, none⟩ = some (.int .u32 (x.1 : Int)) ∧ W.cell? ⟨blk, i * 2 + 1, none⟩ = some (.int .i64 x.2) ∧ W.cell? ⟨blk, j * 2, none⟩ = some (.int .u32 (y.1 : Int)) ∧ W.cell? ⟨blk, j * 2 + 1, none⟩ = some (.int .i64 y.2)) :
    Calls Tryd.prog 48 #[.int .i64 i, .int .i64 j, .pointer (some ⟨B, 0, none⟩)] W fun e w' => e = .returned (.bool (Nt.lt x y)) ∧ Below W.heap.size W w' := by
  have H := Lib.hid h; clear h
  unfold Nt.lt
  go_enter Tryd.func48, Tryd.ntmps48
  go_wp2_with fail
  refine wp_region_held_drew (S := (fun w' => w'.cell? ⟨B, 0, none⟩ = some (.slice (some ⟨blk, 0, none⟩) n c) ∧ w'.cell? ⟨blk, i * 2, none⟩ = some (.int .u32 (x.1 : Int)) ∧ w'.cell? ⟨blk, i * 2 + 1, none⟩ = some (.int .i64 x.2) ∧ w'.cell? ⟨blk, j * 2, none⟩ = some (.int .u32 (y.1 : Int)) ∧ w'.cell? ⟨blk, j * 2 + 1, none⟩ = some (.int .i64 y.2) ∧ Below W.heap.size W w')) (by kernel_rfl) (heldC ⟨H.out.1, H.out.2.1, H.out.2.2.1, H.out.2.2.2.1, H.out.2.2.2.2, Below.refl _ _⟩ ((Below.refl _ _).drew)) (fun hHeld => ?_)
  refine wpAnyH_take (i := 0) (oi := { dst := some 6, op := Op.load 22 (Operand.tmp 2), type := 22, pos := "cover.go:31", after := #[], guard := none }) (v := ?_) rfl (by kernel_rfl) (by kernel_rfl) (by kernel_rfl) (fun _ _ _ h => h) (Or.inl ⟨by rfl, ?_⟩) hHeld ?_
  rotate_left
  · (intro w hSw; (try dsimp only at hSw); go_simp; first | done | with_reducible rfl)
  simp only [Act.put, List.setIfInBounds_toArray, List.set_cons_zero, List.set_cons_succ]
  refine wpAnyH_take (i := 1) (oi := { dst := some 7, op := Op.move (Operand.tmp 0), type := 3, pos := "cover.go:31", after := #[], guard := none }) (v := ?_) rfl (by kernel_rfl) (by kernel_rfl) (by kernel_rfl) (fun _ _ _ h => h) (Or.inl ⟨by rfl, ?_⟩) hHeld ?_
  rotate_left
  · (intro w hSw; (try dsimp only at hSw); go_simp; first | done | with_reducible rfl)
  simp only [Act.put, List.setIfInBounds_toArray, List.set_cons_zero, List.set_cons_succ]
  refine wpAnyH_take (i := 2) (oi := { dst := some 8, op := Op.indexAddr 22 (Operand.tmp 6) (Operand.tmp 7), type := 0, pos := "cover.go:31", after := #[{ on := 0, ground := Ground.data }, { on := 1, ground := Ground.data }], guard := none }) (v := ?_) rfl (by kernel_rfl) (by kernel_rfl) (by kernel_rfl) (fun _ _ _ h => h) (Or.inl ⟨by rfl, ?_⟩) hHeld ?_
  rotate_left
  · (intro w hSw; (try dsimp only at hSw); go_simp; first | done | with_reducible rfl)
  simp only [Act.put, List.setIfInBounds_toArray, List.set_cons_zero, List.set_cons_succ]
  refine wpAnyH_take (i := 3) (oi := { dst := some 9, op := Op.load 32 (Operand.tmp 8), type := 32, pos := "cover.go:31", after := #[{ on := 2, ground := Ground.data }], guard := none }) (v := ?_) rfl (by kernel_rfl) (by kernel_rfl) (by kernel_rfl) (fun _ _ _ h => h) (Or.inl ⟨by rfl, ?_⟩) hHeld ?_
  rotate_left
  · (intro w hSw; (try dsimp only at hSw); go_simp; first | done | with_reducible rfl)
  simp only [Act.put, List.setIfInBounds_toArray, List.set_cons_zero, List.set_cons_succ]
  refine wpAnyH_take (i := 4) (oi := { dst := some 10, op := Op.load 22 (Operand.tmp 2), type := 22, pos := "cover.go:31", after := #[], guard := none }) (v := ?_) rfl (by kernel_rfl) (by kernel_rfl) (by kernel_rfl) (fun _ _ _ h => h) (Or.inl ⟨by rfl, ?_⟩) hHeld ?_
  rotate_left
  · (intro w hSw; (try dsimp only at hSw); go_simp; first | done | with_reducible rfl)
  simp only [Act.put, List.setIfInBounds_toArray, List.set_cons_zero, List.set_cons_succ]
  refine wpAnyH_take (i := 5) (oi := { dst := some 11, op := Op.move (Operand.tmp 1), type := 3, pos := "cover.go:31", after := #[], guard := none }) (v := ?_) rfl (by kernel_rfl) (by kernel_rfl) (by kernel_rfl) (fun _ _ _ h => h) (Or.inl ⟨by rfl, ?_⟩) hHeld ?_
  rotate_left
  · (intro w hSw; (try dsimp only at hSw); go_simp; first | done | with_reducible rfl)
  simp only [Act.put, List.setIfInBounds_toArray, List.set_cons_zero, List.set_cons_succ]
  refine wpAnyH_take (i := 6) (oi := { dst := some 12, op := Op.indexAddr 22 (Operand.tmp 10) (Operand.tmp 11), type := 0, pos := "cover.go:31", after := #[{ on := 4, ground := Ground.data }, { on := 5, ground := Ground.data }], guard := none }) (v := ?_) rfl (by kernel_rfl) (by kernel_rfl) (by kernel_rfl) (fun _ _ _ h => h) (Or.inl ⟨by rfl, ?_⟩) hHeld ?_
  rotate_left
  · (intro w hSw; (try dsimp only at hSw); go_simp; first | done | with_reducible rfl)
  simp only [Act.put, List.setIfInBounds_toArray, List.set_cons_zero, List.set_cons_succ]
  refine wpAnyH_take (i := 7) (oi := { dst := some 13, op := Op.load 32 (Operand.tmp 12), type := 32, pos := "cover.go:31", after := #[{ on := 6, ground := Ground.data }], guard := none }) (v := ?_) rfl (by kernel_rfl) (by kernel_rfl) (by kernel_rfl) (fun _ _ _ h => h) (Or.inl ⟨by rfl, ?_⟩) hHeld ?_
  rotate_left
  · (intro w hSw; (try dsimp only at hSw); go_simp; first | done | with_reducible rfl)
  simp only [Act.put, List.setIfInBounds_toArray, List.set_cons_zero, List.set_cons_succ]
  refine wpAnyH_ready (rs := [8]) (by kernel_rfl) (by simp) ?_
  refine AllReadyH.cons (o := { dst := some 14, op := Op.call { callee := Callee.value (Operand.func 49), args := #[Operand.tmp 9, Operand.tmp 13], argTypes := #[32, 32] }, type := 4, pos := "cover.go:31", after := #[{ on := 3, ground := Ground.data }, { on := 7, ground := Ground.data }], guard := none }) rfl (fun K hK => ?_) AllReadyH.nil
  go_simp
  go_at_call 49
  refine (less_any _ _ _ _ _).mono ?_
  rintro e w0' ⟨rfl, hb0⟩
  have KK0 := heldC hHeld hb0; clear hHeld hb0
  go_wp2_with fail
  refine hK.out _ _ KK0 (fun hHeld => ?_)
  clear hK K
  refine wpAnyH_take (i := 9) (oi := { dst := some 5, op := Op.assign (Operand.tmp 14), type := 4, pos := "cover.go:31", after := #[{ on := 8, ground := Ground.data }, { on := 8, ground := Ground.chain }, { on := 0, ground := Ground.phase }, { on := 1, ground := Ground.phase }, { on := 2, ground := Ground.phase }, { on := 3, ground := Ground.phase }, { on := 4, ground := Ground.phase }, { on := 5, ground := Ground.phase }, { on := 6, ground := Ground.phase }, { on := 7, ground := Ground.phase }, { on := 8, ground := Ground.phase }], guard := none }) (v := ?_) rfl (by kernel_rfl) (by kernel_rfl) (by kernel_rfl) (fun _ _ _ h => h) (Or.inl ⟨by rfl, ?_⟩) hHeld ?_
  rotate_left
  · (intro w hSw; (try dsimp only at hSw); go_simp; first | done | with_reducible rfl)
  simp only [Act.put, List.setIfInBounds_toArray, List.set_cons_zero, List.set_cons_succ]
  refine wpAnyH_done (by kernel_rfl) ?_ _
  go_wp2_with fail
  go_ret
  exact ⟨rfl, hHeld.2.2.2.2.2⟩
end Go.Proofs.YtbdmfcnlfmnmdaaDoor
