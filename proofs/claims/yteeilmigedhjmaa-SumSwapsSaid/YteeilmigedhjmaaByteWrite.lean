/-
  A LIST OF BYTES that the call owns, one byte written anew.
-/
import Derived.Test.YteeilmigedhjmaaByteList
import Derived.Laws.Rows
namespace Go.Proofs.Yteeilmigedhjmaa
open Go.RowKit

theorem cellsB_set (l : List Nat) (i y : Nat) : cellsB (l.set i y) = (cellsB l).set i (.int .u8 (y : Int)) := by
  unfold cellsB
  rw [List.map_set]
theorem OwnB.set {w : World} {base g n c : Nat} {l : List Nat} (h : OwnB w base (.slice (some ⟨g, 0, none⟩) n c) l) (i y : Nat) : OwnB (w.setCell ⟨g, i, none⟩ (.int .u8 (y : Int))) base (.slice (some ⟨g, 0, none⟩) n c) (l.set i y) := by
  obtain ⟨h1, ⟨hv, hn⟩ | ⟨g', cap, cur, hv, hb, hg, hcap, hm, hsz, hc⟩⟩ := h
  · simp at hv
  · simp only [Value.slice.injEq, Option.some.injEq, Addr.mk.injEq, and_true] at hv
    obtain ⟨rfl, rfl, rfl⟩ := hv
    refine ⟨by rw [cellsB_len, List.length_set]; omega, .inr ⟨g, c, cur.setIfInBounds i (.int .u8 (y : Int)), by rw [List.length_set], hb, heap_setCell_same w g i cur _ _ hg, by rw [List.length_set]; exact hcap, hm, by rw [Array.size_setIfInBounds]; exact hsz, ?_⟩⟩
    rw [List.length_set, cellsB_set, Array.toList_setIfInBounds, List.take_set, hc]
end Go.Proofs.Yteeilmigedhjmaa
