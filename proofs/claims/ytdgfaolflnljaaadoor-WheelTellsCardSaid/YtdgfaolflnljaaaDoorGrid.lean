/-
  ROWS of numbers in memory, one block for the list of rows and one for each row behind it.
-/
import Derived.Test.YtdgfaolflnljaaaDoorBoxes
import Derived.Deep.OwnRows
import Derived.RowKit3
import Derived.LoopN
namespace Go.Proofs.YtdgfaolflnljaaaDoor
open Go.RowKit

theorem frozen_past (w : World) (a : Addr) (h : w.heap.size ≤ a.block) : w.frozen? a = false := by
  unfold World.frozen?
  rw [Array.getElem?_eq_none h]
theorem made_cell (w : World) (z : Value) (n i : Nat) (t : TypeId) (hi : i < n) : (w.alloc (.cells (madeCells #[z] n) t)).cell? ⟨w.heap.size, i, none⟩ = some z := by
  have h1 := (MapKept.heap_alloc w (.cells (madeCells #[z] n) t)).1
  simp only [World.cell?, h1]
  simp [madeCells, hi, Nat.mod_one]
/-- The first k of n rows of n numbers are laid: block b holds the rows, block b + 1 + i the row i. -/
structure Grid (w : World) (b n k : Nat) (f : Nat → Nat → Int) : Prop where
  lt : b + k < w.heap.size
  o : ∀ i, i < k → w.cell? ⟨b, i, none⟩ = some (.slice (some ⟨b + 1 + i, 0, none⟩) n n)
  r : ∀ i, k ≤ i → i < n → w.cell? ⟨b, i, none⟩ = some (.slice none 0 0)
  fo : ∀ i, w.frozen? ⟨b, i, none⟩ = false
  e : ∀ i, i < k → ∀ j, j < n → w.cell? ⟨b + 1 + i, j, none⟩ = some (.int .i64 (f i j))
  fe : ∀ i, i < k → ∀ j, w.frozen? ⟨b + 1 + i, j, none⟩ = false
theorem Grid.below {w w1 : World} {b n k m : Nat} {f : Nat → Nat → Int} (h : Grid w b n k f) (hb : Below m w w1) (hm : b + k < m) : Grid w1 b n k f where
  lt := Nat.lt_of_lt_of_le h.lt hb.size
  o i hi := (hb.cell (p := ⟨b, i, none⟩) (show b < m by omega)).trans (h.o i hi)
  r i hi hn := (hb.cell (p := ⟨b, i, none⟩) (show b < m by omega)).trans (h.r i hi hn)
  fo i := (hb.frozen (p := ⟨b, i, none⟩) (show b < m by omega)).trans (h.fo i)
  e i hi j hj := (hb.cell (p := ⟨b + 1 + i, j, none⟩) (show b + 1 + i < m by omega)).trans (h.e i hi j hj)
  fe i hi j := (hb.frozen (p := ⟨b + 1 + i, j, none⟩) (show b + 1 + i < m by omega)).trans (h.fe i hi j)
theorem Grid.keep {w w1 : World} {b n k : Nat} {f : Nat → Nat → Int} (h : Grid w b n k f) (hb : Below w.heap.size w w1) : Grid w1 b n k f := h.below hb h.lt
theorem Grid.drew {w : World} {b n k : Nat} {f : Nat → Nat → Int} (h : Grid w b n k f) : Grid w.drew b n k f := ⟨h.lt, h.o, h.r, h.fo, h.e, h.fe⟩
theorem Grid.congr {w : World} {b n k : Nat} {f g : Nat → Nat → Int} (h : Grid w b n k f) (e : ∀ i, i < k → ∀ j, j < n → f i j = g i j) : Grid w b n k g :=
  ⟨h.lt, h.o, h.r, h.fo, fun i hi j hj => by rw [← e i hi j hj]; exact h.e i hi j hj, h.fe⟩
/-- One number written anew. -/
theorem Grid.set {w : World} {b n k : Nat} {f : Nat → Nat → Int} (h : Grid w b n k f) (p q : Nat) (hp : p < k) (x : Int) :
    Grid (w.setCell ⟨b + 1 + p, q, none⟩ (.int .i64 x)) b n k (fun i j => if i = p ∧ j = q then x else f i j) where
  lt := by simpa [World.setCell] using h.lt
  o i hi := (World.cell?_setCell_other _ _ _ _ (fun e => by have := congrArg Addr.block e; simp at this; omega)).trans (h.o i hi)
  r i hi hn := (World.cell?_setCell_other _ _ _ _ (fun e => by have := congrArg Addr.block e; simp at this; omega)).trans (h.r i hi hn)
  fo i := by rw [World.frozen?_setCell]; exact h.fo i
  e i hi j hj := by
    by_cases e : i = p
    · subst e
      have := set_if w (b + 1 + i) j q (.int .i64 x) _ (h.e i hi j hj)
      rw [this]
      by_cases e2 : j = q
      · rw [if_pos e2, if_pos ⟨rfl, e2⟩]
      · rw [if_neg e2, if_neg (fun e => e2 e.2)]
    · rw [if_neg (fun e' => e e'.1)]
      exact (World.cell?_setCell_other _ _ _ _ (fun e' => by have := congrArg Addr.block e'; simp at this; omega)).trans (h.e i hi j hj)
  fe i hi j := by rw [World.frozen?_setCell]; exact h.fe i hi j
/-- One row more. -/
theorem Grid.row {w : World} {b n k : Nat} {f : Nat → Nat → Int} (h : Grid w b n k f) (hs : w.heap.size = b + 1 + k) (hk : k < n) (T : TypeId) :
    Grid ((w.alloc (.cells (madeCells #[.int .i64 0] n) T)).setCell ⟨b, k, none⟩ (.slice (some ⟨b + 1 + k, 0, none⟩) n n)) b n (k + 1) (fun i j => if i = k then 0 else f i j) := by
  have hB := (Below.refl w.heap.size w).alloc (Nat.le_refl _) (.cells (madeCells #[.int .i64 0] n) T)
  have h1 := h.below hB h.lt
  have hm := fun i hi => made_cell w (.int .i64 0) n i T hi
  rw [hs] at hm
  refine ⟨?_, fun i hi => ?_, fun i hi hn => ?_, fun i => ?_, fun i hi j hj => ?_, fun i hi j => ?_⟩
  · have e : (w.alloc (.cells (madeCells #[.int .i64 0] n) T)).heap.size = w.heap.size + 1 := by simp
    rw [show ((w.alloc (.cells (madeCells #[.int .i64 0] n) T)).setCell ⟨b, k, none⟩ (.slice (some ⟨b + 1 + k, 0, none⟩) n n)).heap.size = (w.alloc (.cells (madeCells #[.int .i64 0] n) T)).heap.size by simp [World.setCell]]
    omega
  · by_cases e : i = k
    · subst e
      exact World.cell?_setCell_same _ _ _ (h1.r i (Nat.le_refl _) hk)
    · exact (World.cell?_setCell_other _ _ _ _ (fun e' => by simp only [Addr.mk.injEq] at e'; omega)).trans (h1.o i (by omega))
  · exact (World.cell?_setCell_other _ _ _ _ (fun e' => by simp only [Addr.mk.injEq] at e'; omega)).trans (h1.r i (by omega) hn)
  · rw [World.frozen?_setCell]; exact h1.fo i
  · refine (World.cell?_setCell_other _ _ _ _ (fun e' => by have := congrArg Addr.block e'; simp at this; omega)).trans ?_
    by_cases e : i = k
    · subst e; rw [if_pos rfl]; exact hm j hj
    · rw [if_neg e]; exact h1.e i (by omega) j hj
  · rw [World.frozen?_setCell]
    by_cases e : i = k
    · subst e
      rw [frozen?_alloc_cells]
      exact frozen_past _ _ (by show w.heap.size ≤ b + 1 + i; omega)
    · exact h1.fe i (by omega) j
/-- No row is laid yet. -/
theorem Grid.new (w : World) (n : Nat) (T : TypeId) (f : Nat → Nat → Int) : Grid (w.alloc (.cells (madeCells #[.slice none 0 0] n) T)) w.heap.size n 0 f where
  lt := by simp
  o i hi := by omega
  r i _ hn := made_cell w _ n i T hn
  fo i := by rw [frozen?_alloc_cells]; exact frozen_past _ _ (Nat.le_refl _)
  e i hi := by omega
  fe i hi := by omega
theorem info_int : (Tryd.prog.info? 3).map (fun i => (i.zero, i.size, i.bytes)) = some (some (.int .i64 0), 1, 8) := by kernel_rfl
theorem info_ints : (Tryd.prog.info? 22).map (fun i => (i.zero, i.size, i.bytes)) = some (some (.slice none 0 0), 1, 24) := by kernel_rfl
end Go.Proofs.YtdgfaolflnljaaaDoor
