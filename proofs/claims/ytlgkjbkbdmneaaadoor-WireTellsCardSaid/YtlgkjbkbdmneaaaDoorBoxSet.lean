/-
  PLAIN FACTS on a block of two cells: one cell written anew, another block written anew; a message that is returned.
-/
import Derived.Test.YtlgkjbkbdmneaaaDoorEntList
import Derived.OneCell
import Derived.WalkKit
namespace Go.Proofs.YtlgkjbkbdmneaaaDoor
open Go.RowKit

theorem Box.put0 {w : World} {b : Nat} {x y : Value} (h : Box w b x y) (x' : Value) : Box (w.setCell ⟨b, 0, none⟩ x') b x' y :=
  ⟨by simpa [World.setCell] using h.lt, World.cell?_setCell_same _ _ _ h.c0, (World.cell?_setCell_other _ _ _ _ (by simp)).trans h.c1, by rw [World.frozen?_setCell]; exact h.f0, by rw [World.frozen?_setCell]; exact h.f1⟩
theorem Box.put1 {w : World} {b : Nat} {x y : Value} (h : Box w b x y) (y' : Value) : Box (w.setCell ⟨b, 1, none⟩ y') b x y' :=
  ⟨by simpa [World.setCell] using h.lt, (World.cell?_setCell_other _ _ _ _ (by simp)).trans h.c0, World.cell?_setCell_same _ _ _ h.c1, by rw [World.frozen?_setCell]; exact h.f0, by rw [World.frozen?_setCell]; exact h.f1⟩
theorem Box.past {w : World} {b c : Nat} {x y : Value} (h : Box w b x y) (hc : b ≠ c) (i : Nat) (v : Value) : Box (w.setCell ⟨c, i, none⟩ v) b x y :=
  ⟨by simpa [World.setCell] using h.lt, (World.cell?_setCell_other _ _ _ _ (fun e => hc (congrArg Addr.block e).symm)).trans h.c0, (World.cell?_setCell_other _ _ _ _ (fun e => hc (congrArg Addr.block e).symm)).trans h.c1, by rw [World.frozen?_setCell]; exact h.f0, by rw [World.frozen?_setCell]; exact h.f1⟩
theorem Box.drew {w : World} {b : Nat} {x y : Value} (h : Box w b x y) : Box w.drew b x y := ⟨h.lt, h.c0, h.c1, h.f0, h.f1⟩
theorem setCell_size (w : World) (a : Addr) (v : Value) : (w.setCell a v).heap.size = w.heap.size := by simp [World.setCell]

/-- A message (in the block of the first result) and an error are returned. -/
theorem bodyPost_msg {fn : Func} {R : Ending → World → Prop} {a : Act} {W : World} {n : Nat} {ask : Bool} {p : Option Addr} {m c : Nat} {er : Value} (hres : fn.results = #[.cell 2 24, .tmp 3]) (h2 : a.tmps[2]?.getD undef = .pointer (some ⟨n, 0, none⟩)) (h3 : a.tmps[3]?.getD undef = er)
    (hs : Box W n (.bool ask) (.slice p m c)) (hd : a.defers = []) (hR : R (.returned (.tuple #[.agg #[.bool ask, .slice p m c], er])) W) : bodyPost Tryd.prog fn R .ret a W := by
  obtain ⟨_, c0, c1, _, _⟩ := hs
  refine bodyPost_ret (v := .tuple #[.agg #[.bool ask, .slice p m c], er]) ?_ hd hR
  simp [results, hres, go_sem, h2, h3, c0, c1]
end Go.Proofs.YtlgkjbkbdmneaaaDoor
