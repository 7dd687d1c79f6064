/-
  PLAIN FACTS on worlds, more of them: four blocks laid just now; another block written; the cells that a long test reads.
-/
import Derived.Test.YtegfjdpibpmdmaaGreatDoorHeldOne
namespace Go.Proofs.YtegfjdpibpmdmaaGreatDoor
open Go.RowKit

/-- Another block written anew. -/
theorem Box.apart {w : World} {b c : Nat} {x y : Value} (h : Box w b x y) (hc : c ≠ b) (x' y' : Value) : Box ((w.setCell ⟨c, 0, none⟩ x').setCell ⟨c, 1, none⟩ y') b x y :=
  ⟨by simpa using h.lt,
    ((World.cell?_setCell_other _ _ _ _ (fun e => hc (congrArg Addr.block e))).trans (World.cell?_setCell_other _ _ _ _ (fun e => hc (congrArg Addr.block e)))).trans h.c0,
    ((World.cell?_setCell_other _ _ _ _ (fun e => hc (congrArg Addr.block e))).trans (World.cell?_setCell_other _ _ _ _ (fun e => hc (congrArg Addr.block e)))).trans h.c1,
    by simp [h.f0], by simp [h.f1]⟩
/-- Two blocks laid behind what was there: both of them. -/
theorem Box.new2 (w : World) (x y x' y' : Value) (T T' : TypeId) : Box ((w.alloc (.cells #[x, y] T)).alloc (.cells #[x', y'] T')) (w.heap.size + 1) x' y' := by
  have := Box.new (w.alloc (.cells #[x, y] T)) x' y' T'
  simpa using this
/-- Four blocks laid, then a call. -/
theorem box4 {w w1 : World} {x y x' y' x'' y'' x3 y3 : Value} {T T' T'' T3 : TypeId} (hb : Below ((((w.alloc (.cells #[x, y] T)).alloc (.cells #[x', y'] T')).alloc (.cells #[x'', y''] T'')).alloc (.cells #[x3, y3] T3)).heap.size ((((w.alloc (.cells #[x, y] T)).alloc (.cells #[x', y'] T')).alloc (.cells #[x'', y''] T'')).alloc (.cells #[x3, y3] T3)) w1) :
    Box w1 w.heap.size x y ∧ Box w1 (w.heap.size + 1) x' y' ∧ Box w1 (w.heap.size + 1 + 1) x'' y'' ∧ Box w1 (w.heap.size + 1 + 1 + 1) x3 y3 ∧ Below w.heap.size w w1 := by
  have hb3 : Below (((w.alloc (.cells #[x, y] T)).alloc (.cells #[x', y'] T')).alloc (.cells #[x'', y''] T'')).heap.size (((w.alloc (.cells #[x, y] T)).alloc (.cells #[x', y'] T')).alloc (.cells #[x'', y''] T'')) w1 :=
    ((Below.refl _ _).alloc (Nat.le_refl _) _).trans (hb.mono (by simp))
  obtain ⟨B1, B2, B3, hB⟩ := box3 hb3
  refine ⟨B1, B2, B3, ?_, hB⟩
  have := (Box.new (((w.alloc (.cells #[x, y] T)).alloc (.cells #[x', y'] T')).alloc (.cells #[x'', y''] T'')) x3 y3 T3).kept hb
  simpa using this
/-- What a test over four blocks reads. -/
theorem held4 {w0 w w1 : World} {b1 b2 b3 b4 : Nat} {x1 y1 x2 y2 x3 y3 x4 y4 : Value}
    (h : w.cell? ⟨b1, 0, none⟩ = some x1 ∧ w.cell? ⟨b1, 1, none⟩ = some y1 ∧ w.cell? ⟨b2, 0, none⟩ = some x2 ∧ w.cell? ⟨b2, 1, none⟩ = some y2 ∧ w.cell? ⟨b3, 0, none⟩ = some x3 ∧ w.cell? ⟨b3, 1, none⟩ = some y3 ∧ w.cell? ⟨b4, 0, none⟩ = some x4 ∧ w.cell? ⟨b4, 1, none⟩ = some y4 ∧ Box w b1 x1 y1 ∧ Box w b2 x2 y2 ∧ Box w b3 x3 y3 ∧ Box w b4 x4 y4 ∧ Below w0.heap.size w0 w) (hb : Below w.heap.size w w1) :
    w1.cell? ⟨b1, 0, none⟩ = some x1 ∧ w1.cell? ⟨b1, 1, none⟩ = some y1 ∧ w1.cell? ⟨b2, 0, none⟩ = some x2 ∧ w1.cell? ⟨b2, 1, none⟩ = some y2 ∧ w1.cell? ⟨b3, 0, none⟩ = some x3 ∧ w1.cell? ⟨b3, 1, none⟩ = some y3 ∧ w1.cell? ⟨b4, 0, none⟩ = some x4 ∧ w1.cell? ⟨b4, 1, none⟩ = some y4 ∧ Box w1 b1 x1 y1 ∧ Box w1 b2 x2 y2 ∧ Box w1 b3 x3 y3 ∧ Box w1 b4 x4 y4 ∧ Below w0.heap.size w0 w1 := by
  obtain ⟨_, _, _, _, _, _, _, _, B1, B2, B3, B4, hB⟩ := h
  have C1 := B1.kept hb
  have C2 := B2.kept hb
  have C3 := B3.kept hb
  have C4 := B4.kept hb
  exact ⟨C1.c0, C1.c1, C2.c0, C2.c1, C3.c0, C3.c1, C4.c0, C4.c1, C1, C2, C3, C4, Below.two hB hb⟩
/-- What a test over one block of two reads. -/
theorem heldT {w0 w w1 : World} {b1 b2 : Nat} {x1 y1 x2 y2 : Value} (h : w.cell? ⟨b1, 0, none⟩ = some x1 ∧ w.cell? ⟨b1, 1, none⟩ = some y1 ∧ Box w b1 x1 y1 ∧ Box w b2 x2 y2 ∧ Below w0.heap.size w0 w) (hb : Below w.heap.size w w1) :
    w1.cell? ⟨b1, 0, none⟩ = some x1 ∧ w1.cell? ⟨b1, 1, none⟩ = some y1 ∧ Box w1 b1 x1 y1 ∧ Box w1 b2 x2 y2 ∧ Below w0.heap.size w0 w1 := by
  obtain ⟨_, _, B1, B2, hB⟩ := h
  have C1 := B1.kept hb
  exact ⟨C1.c0, C1.c1, C1, B2.kept hb, Below.two hB hb⟩
end Go.Proofs.YtegfjdpibpmdmaaGreatDoor
