/-
  waywardenlaw7.spoil at numbers that lie in a block of their own: but that block all is as it was.
-/
import Derived.Test.YtomfkmclgabcpaaDoorBoxes
import Derived.Lib.Walk
import Derived.LoopN
namespace Go.Proofs.YtomfkmclgabcpaaDoor
open Go.RowKit Go.Lib

/-- But block g all is as it was. -/
structure But (g : Nat) (w w1 : World) : Prop where
  below : Below g w w1
  size : w1.heap.size = w.heap.size
  cell : ∀ a : Addr, a.block ≠ g → w1.cell? a = w.cell? a
  frozen : ∀ a : Addr, w1.frozen? a = w.frozen? a
theorem But.refl (g : Nat) (w : World) : But g w w := ⟨Below.refl _ _, rfl, fun _ _ => rfl, fun _ => rfl⟩
theorem But.set {g : Nat} {w w1 : World} (h : But g w w1) (i : Nat) (v : Value) : But g w (w1.setCell ⟨g, i, none⟩ v) :=
  ⟨h.below.setCell (p := ⟨g, i, none⟩) (Nat.le_refl _) v, by simpa [World.setCell] using h.size, fun a ha => (World.cell?_setCell_other _ _ _ _ (fun e => ha (by rw [← e]))).trans (h.cell a ha), fun a => by rw [World.frozen?_setCell]; exact h.frozen a⟩
set_option maxHeartbeats 1000000 in
set_option maxRecDepth 100000 in
/-- waywardenlaw7.spoil at numbers that lie in a block of their own. -/
theorem spoil_at (w : World) (g n c : Nat) (x : Int) (hn : n < 4611686018427387904) (hc : ∀ i, i < n → ∃ u, w.cell? ⟨g, i, none⟩ = some u) (hf : ∀ i, w.frozen? ⟨g, i, none⟩ = false) :
    Calls Tryd.prog 17 #[.slice (some ⟨g, 0, none⟩) n c, .int .i64 x] w fun e w' => e = .returned (.tuple #[]) ∧ But g w w' := by
  have HC := Lib.hid hc; have HF := Lib.hid hf
  clear hc hf
  go_enter Tryd.func17, Tryd.ntmps17
  go_wp2_with fail
  go_loopw [4] (fun v wr => ∃ (k : Nat), v = .int .i64 k ∧ k ≤ n ∧ Hid (But g w wr) ∧ Hid (∀ i, i < n → ∃ u, wr.cell? ⟨g, i, none⟩ = some u)) (fun v _ => n - (RowKit.intOf v).toNat)
  case atStart => exact ⟨0, rfl, Nat.zero_le _, Lib.hid (But.refl _ _), HC⟩
  case round =>
    clear HC
    obtain ⟨k, rfl, hk, hB, HC⟩ := hrel
    by_cases hkn : k < n
    · obtain ⟨u, hu⟩ := HC.out k hkn
      have hf := (hB.out.frozen ⟨g, k, none⟩).trans (HF.out k)
      go_wp2_with fail
      go_roundw
      case rel =>
        refine ⟨k + 1, by go_num, by omega, Lib.hid (hB.out.set k _), Lib.hid fun i hi => ?_⟩
        obtain ⟨u', hu'⟩ := HC.out i hi
        exact ⟨_, set_if wr g i k _ u' hu'⟩
      case measure => simp [RowKit.intOf]; omega
    · go_wp2_with fail
      go_end0
      exact ⟨rfl, hB.out⟩
/-- The same at a row of a grid. -/
theorem spoil_any (w : World) (g n : Nat) (x : Int) (hn : n < 4611686018427387904) (hc : ∀ i, i < n → ∃ u, w.cell? ⟨g, i, none⟩ = some u) (hf : ∀ i, w.frozen? ⟨g, i, none⟩ = false) :
    Calls Tryd.prog 17 #[.slice (some ⟨g, 0, none⟩) n n, .int .i64 x] w fun e w' => e = .returned (.tuple #[]) ∧ But g w w' := spoil_at w g n n x hn hc hf
set_option maxHeartbeats 400000 in
set_option maxRecDepth 100000 in
/-- The same at none. -/
theorem spoil_zero (w : World) (p : Option Addr) (c : Nat) (x : Int) : Calls Tryd.prog 17 #[.slice p 0 c, .int .i64 x] w fun e w' => e = .returned (.tuple #[]) ∧ w' = w := by
  go_enter Tryd.func17, Tryd.ntmps17
  go_wp2_with fail
  refine wp_loop_rounds 1 ?_
  rw [rounds_succ]
  go_wp2_with fail
  go_end0
  exact ⟨rfl, rfl⟩
end Go.Proofs.YtomfkmclgabcpaaDoor
