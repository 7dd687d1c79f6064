/-
  A QUEUE IN MEMORY: a cell that holds a slice of pairs, and the block in which they lie; a pair put anew, put behind, dropped; two exchanged; all other blocks stay.
-/
import Derived.Test.YtomfkmclgabcpaaKeep
import Derived.Laws.AppendOwn
import Derived.Laws.AppendOwnNone
import Derived.Laws.OwnMore
import Derived.Lib.SmallJoins
namespace Go.Proofs.Ytomfkmclgabcpaa
open Go.RowKit

abbrev Rc := Nat × Nat
def Rc.v0 (x : Rc) : Value := .int .i64 (x.1 : Int)
def Rc.v1 (x : Rc) : Value := .int .i64 (x.2 : Int)
/-- The cells of a list of pairs. -/
def cellsQ : List Rc → List Value
  | [] => []
  | x :: r => Rc.v0 x :: Rc.v1 x :: cellsQ r
theorem cellsQ_len : ∀ l : List Rc, (cellsQ l).length = l.length * 2
  | [] => rfl
  | x :: r => by rw [cellsQ, List.length_cons, List.length_cons, cellsQ_len r, List.length_cons]; omega
theorem cellsQ_app : ∀ l m : List Rc, cellsQ (l ++ m) = cellsQ l ++ cellsQ m
  | [], _ => rfl
  | x :: r, m => by rw [List.cons_append, cellsQ, cellsQ, cellsQ_app r m]; rfl
theorem cellsQ_at : ∀ (l : List Rc) (i : Nat), i < l.length → (cellsQ l)[i * 2]? = some (Rc.v0 l[i]!) ∧ (cellsQ l)[i * 2 + 1]? = some (Rc.v1 l[i]!)
  | x :: r, 0, _ => ⟨rfl, rfl⟩
  | x :: r, i + 1, h => by
    have h1 := cellsQ_at r i (by simpa using h)
    rw [cellsQ, show (i + 1) * 2 = i * 2 + 1 + 1 by omega]
    simp only [List.getElem?_cons_succ]
    simpa using h1
theorem cellsQ_set : ∀ (l : List Rc) (k : Nat) (x : Rc), k < l.length → cellsQ (l.set k x) = ((cellsQ l).set (k * 2) (Rc.v0 x)).set (k * 2 + 1) (Rc.v1 x)
  | y :: r, 0, x, _ => rfl
  | y :: r, k + 1, x, h => by
    have h1 := cellsQ_set r k x (by simpa using h)
    rw [List.set_cons_succ, cellsQ, cellsQ, h1, show (k + 1) * 2 = k * 2 + 1 + 1 by omega]
    rfl

/-- Block g holds the pairs of L; there is room for cap. -/
structure RowQ (w : World) (g cap : Nat) (L : List Rc) : Prop where
  ex : ∃ cur, w.heap[g]? = some (.cells cur 57 (0, 0)) ∧ cur.size = cap * 2 ∧ cur.toList.take (L.length * 2) = cellsQ L
  le : L.length ≤ cap
  mx : cap ≤ maxLen
theorem RowQ.lt {w : World} {g cap : Nat} {L : List Rc} (h : RowQ w g cap L) : g < w.heap.size := by
  obtain ⟨_, h1, _⟩ := h.ex
  exact (Array.getElem?_eq_some_iff.1 h1).1
theorem RowQ.c0 {w : World} {g cap : Nat} {L : List Rc} (h : RowQ w g cap L) (i : Nat) (hi : i < L.length) : w.cell? ⟨g, i * 2, none⟩ = some (Rc.v0 L[i]!) := by
  obtain ⟨cur, h1, _, h3⟩ := h.ex
  have := (cellsQ_at L i hi).1
  rw [← h3, List.getElem?_take_of_lt (by omega)] at this
  simp only [World.cell?, h1]
  simpa using this
theorem RowQ.c1 {w : World} {g cap : Nat} {L : List Rc} (h : RowQ w g cap L) (i : Nat) (hi : i < L.length) : w.cell? ⟨g, i * 2 + 1, none⟩ = some (Rc.v1 L[i]!) := by
  obtain ⟨cur, h1, _, h3⟩ := h.ex
  have := (cellsQ_at L i hi).2
  rw [← h3, List.getElem?_take_of_lt (by omega)] at this
  simp only [World.cell?, h1]
  simpa using this
theorem RowQ.fz {w : World} {g cap : Nat} {L : List Rc} (h : RowQ w g cap L) (j : Nat) : w.frozen? ⟨g, j, none⟩ = false := by
  obtain ⟨cur, h1, _⟩ := h.ex
  simp [World.frozen?, h1]
theorem RowQ.frame {w w1 : World} {g cap : Nat} {L : List Rc} (h : RowQ w g cap L) (hb : w1.heap[g]? = w.heap[g]?) : RowQ w1 g cap L := by
  obtain ⟨cur, h1, h2⟩ := h.ex
  exact ⟨⟨cur, hb.trans h1, h2⟩, h.le, h.mx⟩
theorem RowQ.drew {w : World} {g cap : Nat} {L : List Rc} (h : RowQ w g cap L) : RowQ w.drew g cap L := h.frame rfl
theorem RowQ.keep {w w1 : World} {S : Nat → Prop} {g cap : Nat} {L : List Rc} (h : RowQ w g cap L) (hk : Keep S w w1) (hs : ¬ S g) : RowQ w1 g cap L := h.frame (hk.block g h.lt hs)
theorem RowQ.past {w : World} {g cap : Nat} {L : List Rc} (h : RowQ w g cap L) (c o : Nat) (hc : g ≠ c) (v : Value) : RowQ (w.setCell ⟨c, o, none⟩ v) g cap L := h.frame (Below.heap_setCell _ _ _ _ hc)
/-- The last one dropped. -/
theorem RowQ.drop {w : World} {g cap : Nat} {L : List Rc} {x : Rc} (h : RowQ w g cap (L ++ [x])) : RowQ w g cap L := by
  obtain ⟨cur, h1, h2, h3⟩ := h.ex
  have hl := h.le
  rw [List.length_append] at hl
  refine ⟨⟨cur, h1, h2, ?_⟩, by omega, h.mx⟩
  have e := congrArg (List.take (L.length * 2)) h3
  rw [List.take_take, cellsQ_app, ← cellsQ_len, List.take_left, cellsQ_len, List.length_append] at e
  rwa [Nat.min_eq_left (by omega)] at e
/-- One put anew. -/
theorem RowQ.set {w : World} {g cap : Nat} {L : List Rc} (h : RowQ w g cap L) (k : Nat) (hk : k < L.length) (x : Rc) : RowQ ((w.setCell ⟨g, k * 2, none⟩ (Rc.v0 x)).setCell ⟨g, k * 2 + 1, none⟩ (Rc.v1 x)) g cap (L.set k x) := by
  obtain ⟨cur, h1, h2, h3⟩ := h.ex
  refine ⟨⟨_, Joins.block_setCell (Joins.block_setCell h1 _) _, by simpa using h2, ?_⟩, by simpa using h.le, h.mx⟩
  have hl := h.le
  rw [Array.toList_setIfInBounds, Array.toList_setIfInBounds, List.length_set, List.take_set, List.take_set, h3, cellsQ_set L k x hk]
theorem RowQ.owns {w : World} {g cap : Nat} {L : List Rc} (h : RowQ w g cap L) : w.ownsRow 0 57 2 (.slice (some ⟨g, 0, none⟩) L.length cap) L.length (cellsQ L) := by
  obtain ⟨cur, h1, h2, h3⟩ := h.ex
  exact ⟨cellsQ_len L, Or.inr ⟨g, cap, cur, rfl, Nat.zero_le _, h1, h.le, h.mx, h2, h3⟩⟩
theorem RowQ.of_owns {w : World} {v : Value} {L : List Rc} (h : w.ownsRow 0 57 2 v L.length (cellsQ L)) (hL : L ≠ []) : ∃ g cap, v = .slice (some ⟨g, 0, none⟩) L.length cap ∧ RowQ w g cap L := by
  obtain ⟨_, ⟨_, hn⟩ | ⟨g, cap, cur, hv, _, hg, hcap, hm, hs, hc⟩⟩ := h
  · exact absurd (List.length_eq_zero_iff.1 hn) hL
  · exact ⟨g, cap, hv, ⟨cur, hg, hs, hc⟩, hcap, hm⟩

/-- The same pairs, in another order. -/
def Alike (L L' : List Rc) : Prop := L'.length = L.length ∧ ∀ e, e ∈ L ↔ e ∈ L'
theorem Alike.refl (L : List Rc) : Alike L L := ⟨rfl, fun _ => Iff.rfl⟩
theorem Alike.trans {L L' L'' : List Rc} (h : Alike L L') (k : Alike L' L'') : Alike L L'' := ⟨k.1.trans h.1, fun e => (h.2 e).trans (k.2 e)⟩
def exch (L : List Rc) (i j : Nat) : List Rc := (L.set i L[j]!).set j L[i]!
theorem exch_len (L : List Rc) (i j : Nat) : (exch L i j).length = L.length := by simp [exch]
theorem exch_at (L : List Rc) (i j k : Nat) (_ : i < L.length) (_ : j < L.length) (hk : k < L.length) : (exch L i j)[k]! = if k = j then L[i]! else if k = i then L[j]! else L[k]! := by
  rw [getElem!_pos _ k (by rw [exch_len]; exact hk)]
  simp only [exch, List.getElem_set]
  by_cases e : j = k
  · rw [if_pos e, if_pos e.symm]
  · rw [if_neg e, if_neg (Ne.symm e)]
    by_cases e2 : i = k
    · rw [if_pos e2, if_pos e2.symm]
    · rw [if_neg e2, if_neg (Ne.symm e2), getElem!_pos _ k hk]
theorem mem_at (L : List Rc) (e : Rc) : e ∈ L ↔ ∃ k, k < L.length ∧ L[k]! = e := by
  rw [List.mem_iff_getElem]
  constructor
  · rintro ⟨k, h, rfl⟩
    exact ⟨k, h, getElem!_pos _ k h⟩
  · rintro ⟨k, h, rfl⟩
    exact ⟨k, h, (getElem!_pos _ k h).symm⟩
theorem exch_alike (L : List Rc) (i j : Nat) (hi : i < L.length) (hj : j < L.length) : Alike L (exch L i j) := by
  refine ⟨exch_len L i j, fun e => ?_⟩
  rw [mem_at, mem_at, exch_len]
  constructor
  · rintro ⟨k, hk, rfl⟩
    by_cases e1 : k = i
    · subst e1
      exact ⟨j, hj, by rw [exch_at L k j j hi hj hj, if_pos rfl]⟩
    · by_cases e2 : k = j
      · subst e2
        by_cases e3 : i = k
        · exact absurd e3.symm e1
        · exact ⟨i, hi, by rw [exch_at L i k i hi hj hi, if_neg e3, if_pos rfl]⟩
      · exact ⟨k, hk, by rw [exch_at L i j k hi hj hk, if_neg e2, if_neg e1]⟩
  · rintro ⟨k, hk, rfl⟩
    rw [exch_at L i j k hi hj hk]
    split
    · exact ⟨i, hi, rfl⟩
    · split
      · exact ⟨j, hj, rfl⟩
      · exact ⟨k, hk, rfl⟩

/-- THE QUEUE: the cell q holds the slice, the block g its pairs. -/
structure Que (w : World) (q g cap : Nat) (L : List Rc) : Prop where
  cq : w.cell? ⟨q, 0, none⟩ = some (.slice (some ⟨g, 0, none⟩) L.length cap)
  fq : w.frozen? ⟨q, 0, none⟩ = false
  lq : q < w.heap.size
  ne : g ≠ q
  row : RowQ w g cap L
/-- What a call that turns a queue may turn. -/
def InQ (q g : Nat) : Nat → Prop := fun b => b = q ∨ b = g
theorem Que.keep {w w1 : World} {S : Nat → Prop} {q g cap : Nat} {L : List Rc} (h : Que w q g cap L) (hk : Keep S w w1) (hq : ¬ S q) (hg : ¬ S g) : Que w1 q g cap L :=
  ⟨(World.cell?_of_block (w := w) (hk.block q h.lq hq)).trans h.cq, (World.frozen?_of_block (w := w) (hk.block q h.lq hq)).trans h.fq, Nat.lt_of_lt_of_le h.lq hk.size, h.ne, h.row.keep hk hg⟩
theorem Que.below {w w1 : World} {q g cap : Nat} {L : List Rc} (h : Que w q g cap L) (hb : Below w.heap.size w w1) : Que w1 q g cap L :=
  h.keep (S := fun _ => False) (Keep.of hb) (fun e => e) (fun e => e)
theorem Que.drew {w : World} {q g cap : Nat} {L : List Rc} (h : Que w q g cap L) : Que w.drew q g cap L := ⟨h.cq, h.fq, h.lq, h.ne, h.row.drew⟩
theorem Que.past {w : World} {q g cap : Nat} {L : List Rc} (h : Que w q g cap L) (c o : Nat) (hq : q ≠ c) (hg : g ≠ c) (v : Value) : Que (w.setCell ⟨c, o, none⟩ v) q g cap L :=
  h.keep (S := fun b => b = c) (Keep.setCell _ w c o v rfl) hq hg
end Go.Proofs.Ytomfkmclgabcpaa
