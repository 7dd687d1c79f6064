/-
  A LIST OF BYTES that the call owns, one byte written anew; the document's own filling of bytes.
-/
import Derived.Test.YtlgkjbkbdmneaaaDoorByteList
import Derived.Test.YtlgkjbkbdmneaaaDoorRefEntPlain
import Derived.Laws.Rows
namespace Go.Proofs.YtlgkjbkbdmneaaaDoor
open Go.RowKit

theorem cellsB_set (l : List Nat) (i y : Nat) : cellsB (l.set i y) = (cellsB l).set i (.int .u8 (y : Int)) := by
  unfold cellsB
  rw [List.map_set]
theorem OwnB.set {w : World} {base g n c : Nat} {l : List Nat} (h : OwnB w base (.slice (some ⟨g, 0, none⟩) n c) l) (i y : Nat) : OwnB (w.setCell ⟨g, i, none⟩ (.int .u8 (y : Int))) base (.slice (some ⟨g, 0, none⟩) n c) (l.set i y) := by
  obtain ⟨h1, ⟨hv, hn⟩ | ⟨g', cap, cur, hv, hb, hg, hcap, hm, hsz, hc⟩⟩ := h
  · simp at hv
  · simp only [Value.slice.injEq, Option.some.injEq, Addr.mk.injEq, and_true] at hv
    obtain ⟨rfl, rfl, rfl⟩ := hv
    refine ⟨by rw [cellsB_len, List.length_set]; omega, .inr ⟨g, c, cur.setIfInBounds i (.int .u8 (y : Int)), by rw [List.length_set], hb, heap_setCell_same w g i cur _ _ hg, by rw [List.length_set]; exact hcap, hm, by rw [Array.size_setIfInBounds]; exact hsz, ?_⟩⟩
    rw [List.length_set, cellsB_set, Array.toList_setIfInBounds, List.take_set, hc]

def fill8 (l : List Nat) (i : Nat) : List Nat := [0, 2, if 2 < i then pad l 2 else 0, if 3 < i then pad l 3 else 0, if 4 < i then pad l 4 else 0, if 5 < i then pad l 5 else 0, if 6 < i then pad l 6 else 0, if 7 < i then pad l 7 else 0]
theorem fill8_len (l : List Nat) (i : Nat) : (fill8 l i).length = 8 := rfl
theorem fill8_start (l : List Nat) : fill8 l 2 = [0, 2, 0, 0, 0, 0, 0, 0] := by simp [fill8]
theorem fill8_step (l : List Nat) (i : Nat) (h2 : 2 ≤ i) (h8 : i < 8) (hl : i < l.length) : (fill8 l i).set i l[i]! = fill8 l (i + 1) := by
  have hp : pad l i = l[i]! := if_pos hl
  rw [← hp]
  match i, h2, h8 with
  | 2, _, _ => simp [fill8]
  | 3, _, _ => simp [fill8]
  | 4, _, _ => simp [fill8]
  | 5, _, _ => simp [fill8]
  | 6, _, _ => simp [fill8]
  | 7, _, _ => simp [fill8]
  | i + 8, _, h => omega
theorem pad_out (l : List Nat) (j : Nat) (h : l.length ≤ j) : pad l j = 0 := if_neg (by omega)
theorem fill_one (l : List Nat) (i j : Nat) (h : l.length ≤ i ∨ j < i) : (if j < i then pad l j else 0) = pad l j := by
  by_cases hj : j < i
  · rw [if_pos hj]
  · rw [if_neg hj, pad_out l j (by omega)]
theorem fill8_end (l : List Nat) (i : Nat) (h : l.length ≤ i ∨ 8 ≤ i) : fill8 l i = [0, 2, pad l 2, pad l 3, pad l 4, pad l 5, pad l 6, pad l 7] := by
  unfold fill8
  rw [fill_one l i 2 (by omega), fill_one l i 3 (by omega), fill_one l i 4 (by omega), fill_one l i 5 (by omega), fill_one l i 6 (by omega), fill_one l i 7 (by omega)]
def fill4 (l : List Nat) (i : Nat) : List Nat := [if 12 < i then pad l 12 else 0, if 13 < i then pad l 13 else 0, if 14 < i then pad l 14 else 0, if 15 < i then pad l 15 else 0]
theorem fill4_len (l : List Nat) (i : Nat) : (fill4 l i).length = 4 := rfl
theorem fill4_start (l : List Nat) : fill4 l 12 = [0, 0, 0, 0] := by simp [fill4]
theorem fill4_step (l : List Nat) (i : Nat) (h2 : 12 ≤ i) (h8 : i < 16) (hl : i < l.length) : (fill4 l i).set (i - 12) l[i]! = fill4 l (i + 1) := by
  have hp : pad l i = l[i]! := if_pos hl
  rw [← hp]
  obtain ⟨j, rfl⟩ : ∃ j, i = 12 + j := ⟨i - 12, by omega⟩
  have hj : j < 4 := by omega
  match j, hj with
  | 0, _ => simp [fill4]
  | 1, _ => simp [fill4]
  | 2, _ => simp [fill4]
  | 3, _ => simp [fill4]
theorem fill4_end (l : List Nat) (i : Nat) (h : l.length ≤ i ∨ 16 ≤ i) : fill4 l i = [pad l 12, pad l 13, pad l 14, pad l 15] := by
  unfold fill4
  rw [fill_one l i 12 (by omega), fill_one l i 13 (by omega), fill_one l i 14 (by omega), fill_one l i 15 (by omega)]
theorem wit_of (l : List Nat) (k m : Nat) : [0, 2, pad l 2, pad l 3, pad l 4, pad l 5, pad l 6, pad l 7] ++ four (MaskP.mk k) ++ [pad l 12, pad l 13, pad l 14, pad l 15] ++ four m = wit l k m := rfl
theorem hit_iff {l : List Nat} {k m : Nat} {e : En} {sm is : Bool} (hl : l.length ≤ 20) (hs : sm = true ↔ ∀ j, j < l.length → (wit l k m)[j]! = l[j]!) (hi : EntIs (wit l k m) e is) : (sm = true ∧ is = true) ↔ Hit l k m := by
  constructor
  · rintro ⟨h1, h2⟩
    refine ⟨pre_get (by rw [wit_len]; exact hl) (hs.1 h1), ?_⟩
    rcases hi with ⟨_, g, e1⟩ | ⟨h3, _⟩
    · exact ⟨e, g, e1⟩
    · rw [h3] at h2; cases h2
  · rintro ⟨h1, h2⟩
    refine ⟨hs.2 fun j hj => (get_pre h1 j hj).symm, ?_⟩
    rcases hi with ⟨h3, _⟩ | ⟨_, h3⟩
    · exact h3
    · exact absurd h2 h3
end Go.Proofs.YtlgkjbkbdmneaaaDoor
