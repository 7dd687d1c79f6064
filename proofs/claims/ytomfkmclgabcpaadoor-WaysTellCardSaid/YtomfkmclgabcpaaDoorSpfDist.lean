/-
  A QUEUE IN MEMORY: a cell that holds a slice of pairs, and the block in which they lie; a pair put anew, put behind, dropped; two exchanged; all other blocks stay.
  The methods of the queue: its length, two compared, two exchanged, one put behind, the last one taken.
  A pair put behind the queue, the last one taken.
  container/heap on the queue: whatever is compared, the same pairs are in it; one more, one less.
  heap.Push and heap.Pop on the queue: one pair more, one less; which one is taken is not told.
  WHAT LIES IN MEMORY while the nearest first is sought: the sums, the queue, all else as it was; how much is left to do.
  spf.distances on rows of costs: how far each node is, whichever pair the queue gives first.
-/
import Derived.Test.YtomfkmclgabcpaaDoorKeep
import Derived.Laws.AppendOwn
import Derived.Laws.AppendOwnNone
import Derived.Laws.OwnMore
import Derived.Lib.SmallJoins
import Derived.Lib.Walk
import Derived.Deep.RegionLaw
import Derived.Test.YtomfkmclgabcpaaDoorSpfPlain
import Derived.Test.YtomfkmclgabcpaaDoorVec
import Derived.Test.YtomfkmclgabcpaaDoorRepeat
import Derived.Test.YtomfkmclgabcpaaDoorDist
namespace Go.Proofs.YtomfkmclgabcpaaDoor
open Go.RowKit

abbrev Rc := Nat × Nat
def Rc.v0 (x : Rc) : Value := .int .i64 (x.1 : Int)
def Rc.v1 (x : Rc) : Value := .int .i64 (x.2 : Int)
/-- The cells of a list of pairs. -/
def cellsQ : List Rc → List Value
  | [] => []
  | x :: r => Rc.v0 x :: Rc.v1 x :: cellsQ r
theorem cellsQ_len : ∀ l : List Rc, (cellsQ l).length = l.length * 2
  | [] => rfl
  | x :: r => by rw [cellsQ, List.length_cons, List.length_cons, cellsQ_len r, List.length_cons]; omega
theorem cellsQ_app : ∀ l m : List Rc, cellsQ (l ++ m) = cellsQ l ++ cellsQ m
  | [], _ => rfl
  | x :: r, m => by rw [List.cons_append, cellsQ, cellsQ, cellsQ_app r m]; rfl
theorem cellsQ_at : ∀ (l : List Rc) (i : Nat), i < l.length → (cellsQ l)[i * 2]? = some (Rc.v0 l[i]!) ∧ (cellsQ l)[i * 2 + 1]? = some (Rc.v1 l[i]!)
  | x :: r, 0, _ => ⟨rfl, rfl⟩
  | x :: r, i + 1, h => by
    have h1 := cellsQ_at r i (by simpa using h)
    rw [cellsQ, show (i + 1) * 2 = i * 2 + 1 + 1 by omega]
    simp only [List.getElem?_cons_succ]
    simpa using h1
theorem cellsQ_set : ∀ (l : List Rc) (k : Nat) (x : Rc), k < l.length → cellsQ (l.set k x) = ((cellsQ l).set (k * 2) (Rc.v0 x)).set (k * 2 + 1) (Rc.v1 x)
  | y :: r, 0, x, _ => rfl
  | y :: r, k + 1, x, h => by
    have h1 := cellsQ_set r k x (by simpa using h)
    rw [List.set_cons_succ, cellsQ, cellsQ, h1, show (k + 1) * 2 = k * 2 + 1 + 1 by omega]
    rfl

/-- Block g holds the pairs of L; there is room for cap. -/
structure RowQ (w : World) (g cap : Nat) (L : List Rc) : Prop where
  ex : ∃ cur, w.heap[g]? = some (.cells cur 103 (0, 0)) ∧ cur.size = cap * 2 ∧ cur.toList.take (L.length * 2) = cellsQ L
  le : L.length ≤ cap
  mx : cap ≤ maxLen
theorem RowQ.lt {w : World} {g cap : Nat} {L : List Rc} (h : RowQ w g cap L) : g < w.heap.size := by
  obtain ⟨_, h1, _⟩ := h.ex
  exact (Array.getElem?_eq_some_iff.1 h1).1
theorem RowQ.c0 {w : World} {g cap : Nat} {L : List Rc} (h : RowQ w g cap L) (i : Nat) (hi : i < L.length) : w.cell? ⟨g, i * 2, none⟩ = some (Rc.v0 L[i]!) := by
  obtain ⟨cur, h1, _, h3⟩ := h.ex
  have := (cellsQ_at L i hi).1
  rw [← h3, List.getElem?_take_of_lt (by omega)] at this
  simp only [World.cell?, h1]
  simpa using this
theorem RowQ.c1 {w : World} {g cap : Nat} {L : List Rc} (h : RowQ w g cap L) (i : Nat) (hi : i < L.length) : w.cell? ⟨g, i * 2 + 1, none⟩ = some (Rc.v1 L[i]!) := by
  obtain ⟨cur, h1, _, h3⟩ := h.ex
  have := (cellsQ_at L i hi).2
  rw [← h3, List.getElem?_take_of_lt (by omega)] at this
  simp only [World.cell?, h1]
  simpa using this
theorem RowQ.fz {w : World} {g cap : Nat} {L : List Rc} (h : RowQ w g cap L) (j : Nat) : w.frozen? ⟨g, j, none⟩ = false := by
  obtain ⟨cur, h1, _⟩ := h.ex
  simp [World.frozen?, h1]
theorem RowQ.frame {w w1 : World} {g cap : Nat} {L : List Rc} (h : RowQ w g cap L) (hb : w1.heap[g]? = w.heap[g]?) : RowQ w1 g cap L := by
  obtain ⟨cur, h1, h2⟩ := h.ex
  exact ⟨⟨cur, hb.trans h1, h2⟩, h.le, h.mx⟩
theorem RowQ.drew {w : World} {g cap : Nat} {L : List Rc} (h : RowQ w g cap L) : RowQ w.drew g cap L := h.frame rfl
theorem RowQ.keep {w w1 : World} {S : Nat → Prop} {g cap : Nat} {L : List Rc} (h : RowQ w g cap L) (hk : Keep S w w1) (hs : ¬ S g) : RowQ w1 g cap L := h.frame (hk.block g h.lt hs)
theorem RowQ.past {w : World} {g cap : Nat} {L : List Rc} (h : RowQ w g cap L) (c o : Nat) (hc : g ≠ c) (v : Value) : RowQ (w.setCell ⟨c, o, none⟩ v) g cap L := h.frame (Below.heap_setCell _ _ _ _ hc)
/-- The last one dropped. -/
theorem RowQ.drop {w : World} {g cap : Nat} {L : List Rc} {x : Rc} (h : RowQ w g cap (L ++ [x])) : RowQ w g cap L := by
  obtain ⟨cur, h1, h2, h3⟩ := h.ex
  have hl := h.le
  rw [List.length_append] at hl
  refine ⟨⟨cur, h1, h2, ?_⟩, by omega, h.mx⟩
  have e := congrArg (List.take (L.length * 2)) h3
  rw [List.take_take, cellsQ_app, ← cellsQ_len, List.take_left, cellsQ_len, List.length_append] at e
  rwa [Nat.min_eq_left (by omega)] at e
/-- One put anew. -/
theorem RowQ.set {w : World} {g cap : Nat} {L : List Rc} (h : RowQ w g cap L) (k : Nat) (hk : k < L.length) (x : Rc) : RowQ ((w.setCell ⟨g, k * 2, none⟩ (Rc.v0 x)).setCell ⟨g, k * 2 + 1, none⟩ (Rc.v1 x)) g cap (L.set k x) := by
  obtain ⟨cur, h1, h2, h3⟩ := h.ex
  refine ⟨⟨_, Joins.block_setCell (Joins.block_setCell h1 _) _, by simpa using h2, ?_⟩, by simpa using h.le, h.mx⟩
  have hl := h.le
  rw [Array.toList_setIfInBounds, Array.toList_setIfInBounds, List.length_set, List.take_set, List.take_set, h3, cellsQ_set L k x hk]
theorem RowQ.owns {w : World} {g cap : Nat} {L : List Rc} (h : RowQ w g cap L) : w.ownsRow 0 103 2 (.slice (some ⟨g, 0, none⟩) L.length cap) L.length (cellsQ L) := by
  obtain ⟨cur, h1, h2, h3⟩ := h.ex
  exact ⟨cellsQ_len L, Or.inr ⟨g, cap, cur, rfl, Nat.zero_le _, h1, h.le, h.mx, h2, h3⟩⟩
theorem RowQ.of_owns {w : World} {v : Value} {L : List Rc} (h : w.ownsRow 0 103 2 v L.length (cellsQ L)) (hL : L ≠ []) : ∃ g cap, v = .slice (some ⟨g, 0, none⟩) L.length cap ∧ RowQ w g cap L := by
  obtain ⟨_, ⟨_, hn⟩ | ⟨g, cap, cur, hv, _, hg, hcap, hm, hs, hc⟩⟩ := h
  · exact absurd (List.length_eq_zero_iff.1 hn) hL
  · exact ⟨g, cap, hv, ⟨cur, hg, hs, hc⟩, hcap, hm⟩

/-- The same pairs, in another order. -/
def Alike (L L' : List Rc) : Prop := L'.length = L.length ∧ ∀ e, e ∈ L ↔ e ∈ L'
theorem Alike.refl (L : List Rc) : Alike L L := ⟨rfl, fun _ => Iff.rfl⟩
theorem Alike.trans {L L' L'' : List Rc} (h : Alike L L') (k : Alike L' L'') : Alike L L'' := ⟨k.1.trans h.1, fun e => (h.2 e).trans (k.2 e)⟩
def exch (L : List Rc) (i j : Nat) : List Rc := (L.set i L[j]!).set j L[i]!
theorem exch_len (L : List Rc) (i j : Nat) : (exch L i j).length = L.length := by simp [exch]
theorem exch_at (L : List Rc) (i j k : Nat) (_ : i < L.length) (_ : j < L.length) (hk : k < L.length) : (exch L i j)[k]! = if k = j then L[i]! else if k = i then L[j]! else L[k]! := by
  rw [getElem!_pos _ k (by rw [exch_len]; exact hk)]
  simp only [exch, List.getElem_set]
  by_cases e : j = k
  · rw [if_pos e, if_pos e.symm]
  · rw [if_neg e, if_neg (Ne.symm e)]
    by_cases e2 : i = k
    · rw [if_pos e2, if_pos e2.symm]
    · rw [if_neg e2, if_neg (Ne.symm e2), getElem!_pos _ k hk]
theorem mem_at (L : List Rc) (e : Rc) : e ∈ L ↔ ∃ k, k < L.length ∧ L[k]! = e := by
  rw [List.mem_iff_getElem]
  constructor
  · rintro ⟨k, h, rfl⟩
    exact ⟨k, h, getElem!_pos _ k h⟩
  · rintro ⟨k, h, rfl⟩
    exact ⟨k, h, (getElem!_pos _ k h).symm⟩
theorem exch_alike (L : List Rc) (i j : Nat) (hi : i < L.length) (hj : j < L.length) : Alike L (exch L i j) := by
  refine ⟨exch_len L i j, fun e => ?_⟩
  rw [mem_at, mem_at, exch_len]
  constructor
  · rintro ⟨k, hk, rfl⟩
    by_cases e1 : k = i
    · subst e1
      exact ⟨j, hj, by rw [exch_at L k j j hi hj hj, if_pos rfl]⟩
    · by_cases e2 : k = j
      · subst e2
        by_cases e3 : i = k
        · exact absurd e3.symm e1
        · exact ⟨i, hi, by rw [exch_at L i k i hi hj hi, if_neg e3, if_pos rfl]⟩
      · exact ⟨k, hk, by rw [exch_at L i j k hi hj hk, if_neg e2, if_neg e1]⟩
  · rintro ⟨k, hk, rfl⟩
    rw [exch_at L i j k hi hj hk]
    split
    · exact ⟨i, hi, rfl⟩
    · split
      · exact ⟨j, hj, rfl⟩
      · exact ⟨k, hk, rfl⟩

/-- THE QUEUE: the cell q holds the slice, the block g its pairs. -/
structure Que (w : World) (q g cap : Nat) (L : List Rc) : Prop where
  cq : w.cell? ⟨q, 0, none⟩ = some (.slice (some ⟨g, 0, none⟩) L.length cap)
  fq : w.frozen? ⟨q, 0, none⟩ = false
  lq : q < w.heap.size
  ne : g ≠ q
  row : RowQ w g cap L
/-- What a call that turns a queue may turn. -/
def InQ (q g : Nat) : Nat → Prop := fun b => b = q ∨ b = g
theorem Que.keep {w w1 : World} {S : Nat → Prop} {q g cap : Nat} {L : List Rc} (h : Que w q g cap L) (hk : Keep S w w1) (hq : ¬ S q) (hg : ¬ S g) : Que w1 q g cap L :=
  ⟨(World.cell?_of_block (w := w) (hk.block q h.lq hq)).trans h.cq, (World.frozen?_of_block (w := w) (hk.block q h.lq hq)).trans h.fq, Nat.lt_of_lt_of_le h.lq hk.size, h.ne, h.row.keep hk hg⟩
theorem Que.below {w w1 : World} {q g cap : Nat} {L : List Rc} (h : Que w q g cap L) (hb : Below w.heap.size w w1) : Que w1 q g cap L :=
  h.keep (S := fun _ => False) (Keep.of hb) (fun e => e) (fun e => e)
theorem Que.drew {w : World} {q g cap : Nat} {L : List Rc} (h : Que w q g cap L) : Que w.drew q g cap L := ⟨h.cq, h.fq, h.lq, h.ne, h.row.drew⟩
theorem Que.past {w : World} {q g cap : Nat} {L : List Rc} (h : Que w q g cap L) (c o : Nat) (hq : q ≠ c) (hg : g ≠ c) (v : Value) : Que (w.setCell ⟨c, o, none⟩ v) q g cap L :=
  h.keep (S := fun b => b = c) (Keep.setCell _ w c o v rfl) hq hg
end Go.Proofs.YtomfkmclgabcpaaDoor

namespace Go.Proofs.YtomfkmclgabcpaaDoor
open Go.RowKit Go.Lib

set_option maxHeartbeats 1000000 in
set_option maxRecDepth 100000 in
theorem qLen_any (w : World) (p : Option Addr) (n c : Nat) :
    Calls Tryd.prog 49 #[.slice p n c] w fun e w' => e = .returned (.int .i64 n) ∧ w' = w := by
  go_enter Tryd.func49, Tryd.ntmps49
  go_wp2_with fail
  go_ret
  exact ⟨rfl, rfl⟩

set_option maxHeartbeats 1000000 in
set_option maxRecDepth 100000 in
theorem qLess_any (w : World) (g cap i j : Nat) (L : List Rc) (h : RowQ w g cap L) (hi : i < L.length) (hj : j < L.length) :
    Calls Tryd.prog 95 #[.slice (some ⟨g, 0, none⟩) L.length cap, .int .i64 i, .int .i64 j] w fun e w' => e = .returned (.bool (decide ((L[i]!.2 : Int) < L[j]!.2))) ∧ Below w.heap.size w w' := by
  have c1 := h.c1 i hi
  have c2 := h.c1 j hj
  unfold Rc.v1 at c1 c2
  generalize L.length = n at hi hj ⊢
  generalize (L[i]!.2 : Int) = x at c1 ⊢
  generalize (L[j]!.2 : Int) = y at c2 ⊢
  clear h
  go_enter Tryd.func95, Tryd.ntmps95
  go_wp2_with fail
  go_region
  all_goals (go_wp2_with fail)
  all_goals go_ret
  all_goals exact ⟨rfl, (Below.refl _ _).drew⟩

/-- Two pairs' cells written, one behind the other. -/
def put2 (w : World) (g o : Nat) (x y : Value) : World := (w.setCell ⟨g, o, none⟩ x).setCell ⟨g, o + 1, none⟩ y
set_option maxHeartbeats 2000000 in
set_option maxRecDepth 100000 in
theorem qSwap_raw (w : World) (g cap i j n : Nat) (x0 x1 y0 y1 : Int) (hi : i < n) (hj : j < n) (a0 : w.cell? ⟨g, i * 2, none⟩ = some (.int .i64 x0)) (a1 : w.cell? ⟨g, i * 2 + 1, none⟩ = some (.int .i64 x1)) (b0 : w.cell? ⟨g, j * 2, none⟩ = some (.int .i64 y0)) (b1 : w.cell? ⟨g, j * 2 + 1, none⟩ = some (.int .i64 y1)) (f : ∀ o, w.frozen? ⟨g, o, none⟩ = false) :
    Calls Tryd.prog 98 #[.slice (some ⟨g, 0, none⟩) n cap, .int .i64 i, .int .i64 j] w fun e w' => e = .returned (.tuple #[]) ∧ w' = (put2 (put2 w g (i * 2) (.int .i64 y0) (.int .i64 y1)) g (j * 2) (.int .i64 x0) (.int .i64 x1)).drew := by
  have fi0 := f (i * 2)
  have fi1 := f (i * 2 + 1)
  have fj0 := f (j * 2)
  have fj1 := f (j * 2 + 1)
  have k0 := set_if w g (j * 2) (i * 2) (.int .i64 y0) _ b0
  have k1 := set_if _ g (j * 2 + 1) (i * 2 + 1) (.int .i64 y1) _ (set_if w g (j * 2 + 1) (i * 2) (.int .i64 y0) _ b1)
  clear f
  go_enter Tryd.func98, Tryd.ntmps98
  go_wp2_with fail
  go_region
  all_goals go_end0
  all_goals exact ⟨rfl, rfl⟩
/-- Two exchanged. -/
theorem qSwap_any (w : World) (g cap i j : Nat) (L : List Rc) (h : RowQ w g cap L) (hi : i < L.length) (hj : j < L.length) :
    Calls Tryd.prog 98 #[.slice (some ⟨g, 0, none⟩) L.length cap, .int .i64 i, .int .i64 j] w fun e w' => e = .returned (.tuple #[]) ∧ RowQ w' g cap (exch L i j) ∧ Keep (fun b => b = g) w w' := by
  refine (qSwap_raw w g cap i j L.length _ _ _ _ hi hj (h.c0 i hi) (h.c1 i hi) (h.c0 j hj) (h.c1 j hj) h.fz).mono ?_
  rintro e w' ⟨rfl, rfl⟩
  have h1 := h.set i hi L[j]!
  have h2 := h1.set j (by rw [List.length_set]; exact hj) L[i]!
  exact ⟨rfl, h2.drew, (((((Keep.refl (fun b => b = g) w).trans (Keep.setCell _ _ g _ _ rfl)).trans (Keep.setCell _ _ g _ _ rfl)).trans (Keep.setCell _ _ g _ _ rfl)).trans (Keep.setCell _ _ g _ _ rfl)).drew⟩

noncomputable def infoQ : TypeInfo := (Tryd.prog.info? 103).get (by kernel_rfl)
theorem infoQ_size : infoQ.size = 2 := by kernel_rfl
theorem infoQ_is : Tryd.prog.info? 103 = some infoQ := by kernel_rfl
theorem infoQ_zero : ∃ z, infoQ.zero = some z ∧ z.cells.size = 2 := ⟨.agg #[.int .i64 0, .int .i64 0], by kernel_rfl, by kernel_rfl⟩
theorem infoQ_bytes : infoQ.bytes = 16 := by kernel_rfl
/-- One pair put behind. -/
theorem run_appendQ (w : World) (ty : TypeId) (g cap : Nat) (L : List Rc) (h : RowQ w g cap L) (x : Rc) (B c : Nat) (h0 : w.cell? ⟨B, 0, none⟩ = some (Rc.v0 x)) (h1 : w.cell? ⟨B, 1, none⟩ = some (Rc.v1 x)) (hlen : (L.length + 1) * 16 ≤ 140737488355328) :
    ∃ g' cap' w', (Builtin.append_ #[100, 100] ty #[.slice (some ⟨g, 0, none⟩) L.length cap, .slice (some ⟨B, 0, none⟩) 1 c]).run Tryd.prog w = .ok (.slice (some ⟨g', 0, none⟩) (L.length + 1) cap') w' ∧ RowQ w' g' cap' (L ++ [x]) ∧ Keep (fun b => b = g) w w' ∧ (g' = g ∨ g' = w.heap.size) := by
  obtain ⟨z, hz⟩ := infoQ_zero
  have hi := infoQ_is
  have ht : Tryd.prog.underlying 100 = some (.slice 103) := by kernel_rfl
  have hnews : ∀ j u, [Rc.v0 x, Rc.v1 x][j]? = some u → w.cell? ((⟨B, 0, none⟩ : Addr).add j) = some u := by
    intro j u hj
    rw [Addr.add_lit]
    match j, hj with
    | 0, hj => simp at hj; subst hj; exact h0
    | 1, hj => simp at hj; subst hj; exact h1
  have hone : ∀ u ∈ [Rc.v0 x, Rc.v1 x], u.oneCell' = true := by intro u hu; simp [Rc.v0, Rc.v1] at hu; rcases hu with rfl | rfl <;> rfl
  have hl : [Rc.v0 x, Rc.v1 x].length = 1 * infoQ.size := by rw [infoQ_size]; rfl
  obtain ⟨v', w', hr, h2, h3, _⟩ := run_append_own (P := Tryd.prog) w 0 100 ty 103 infoQ z 2 16 ht hi hz.1 infoQ_size infoQ_bytes hz.2 (by omega) _ L.length (cellsQ L) h.owns ⟨B, 0, none⟩ 1 c [Rc.v0 x, Rc.v1 x] rfl hnews hone (by simp only [maxLen]; omega) hlen (Nat.zero_le _)
  have e1 : L.length + 1 = (L ++ [x]).length := by simp
  have e2 : cellsQ L ++ [Rc.v0 x, Rc.v1 x] = cellsQ (L ++ [x]) := by rw [cellsQ_app]; rfl
  rw [e1, e2] at h2
  obtain ⟨g', cap', hv, hrow⟩ := RowQ.of_owns h2 (by simp)
  subst hv
  refine ⟨g', cap', w', by rw [hr, e1], hrow, ⟨h3.os, h3.tape, h3.output, h3.size, fun k hk hn => h3.block k hk (fun e => hn (Option.some.inj e))⟩, ?_⟩
  obtain ⟨cur, hg, hcs, htake⟩ := h.ex
  by_cases hroom : L.length + 1 ≤ cap
  · have hq := run_append_room (P := Tryd.prog) w 100 ty 103 infoQ ht hi g L.length cap cur hg ⟨B, 0, none⟩ 1 c [Rc.v0 x, Rc.v1 x] hl hnews hone hroom (by rw [hl, hcs, infoQ_size, ← Nat.add_mul]; exact Nat.mul_le_mul_right _ hroom)
    rw [hr] at hq
    injection hq with hq1 hq2
    injection hq1 with hp _ _
    injection hp with hp
    injection hp with hp _ _
    exact Or.inl hp
  · have hq := run_append_grow (P := Tryd.prog) w 100 ty 103 infoQ z ht hi hz.1 ⟨g, 0, none⟩ L.length cap (cellsQ L) (by rw [infoQ_size]; exact cellsQ_len L) (World.ownsRow.cells h.owns (g := g) rfl) ⟨B, 0, none⟩ 1 c [Rc.v0 x, Rc.v1 x] hl hnews (by omega) (by omega) (growslice_fits (by omega) (by rw [infoQ_bytes]; exact hlen))
    rw [hr] at hq
    injection hq with hq1 hq2
    injection hq1 with hp _ _
    injection hp with hp
    injection hp with hp _ _
    exact Or.inr hp

/-! ### What an interface value that holds the queue's address calls -/
set_option maxRecDepth 100000 in
theorem load_slice (w : World) (q : Nat) (v : Value) (h : w.cell? ⟨q, 0, none⟩ = some v) : (loadVar 100 ⟨q, 0, none⟩).run Tryd.prog w = .ok v w := by
  have hu : Tryd.prog.underlying 100 = some (.slice 103) := by kernel_rfl
  unfold loadVar isAgg
  simp [run_underlying hu, h]
noncomputable def infoP : TypeInfo := (Tryd.prog.info? 98).get (by kernel_rfl)
set_option maxRecDepth 100000 in
theorem meth_val (name : String) (f : FuncId) (q : Nat) (v : Value) (w : World) (h : w.cell? ⟨q, 0, none⟩ = some v) (hm : (infoP.methods.find? (·.name == name)).map (fun m => (m.path, m.func)) = some (#[], some (f, false))) :
    (method 253 98 (.pointer (some ⟨q, 0, none⟩)) name).run Tryd.prog w = .ok (f, v) w := by
  have e := load_slice w q v h
  have h1 : (typeInfo 98).run Tryd.prog w = .ok infoP w := by kernel_rfl
  have hu : Tryd.prog.underlying 98 = some (.pointer 100) := by kernel_rfl
  have k : ∀ s : String, (Builtin.ssaWrapNilChk_ #[98] 98 #[.pointer (some ⟨q, 0, none⟩), strVal "", strVal s]).run Tryd.prog w = .ok (.pointer (some ⟨q, 0, none⟩)) w := fun s => by kernel_rfl
  obtain ⟨m, h2, h3⟩ := Option.map_eq_some_iff.1 hm
  injection h3 with h3 h4
  unfold method
  simp [h1, h2, h3, h4, follow, receiverAt, Place.get, run_underlying hu, k, e, asAddr]
set_option maxRecDepth 100000 in
theorem meth_len (q : Nat) (v : Value) (w : World) (h : w.cell? ⟨q, 0, none⟩ = some v) : (method 253 98 (.pointer (some ⟨q, 0, none⟩)) "Len").run Tryd.prog w = .ok (49, v) w := meth_val "Len" _ q v w h (by kernel_rfl)
set_option maxRecDepth 100000 in
theorem meth_less (q : Nat) (v : Value) (w : World) (h : w.cell? ⟨q, 0, none⟩ = some v) : (method 253 98 (.pointer (some ⟨q, 0, none⟩)) "Less").run Tryd.prog w = .ok (95, v) w := meth_val "Less" _ q v w h (by kernel_rfl)
set_option maxRecDepth 100000 in
theorem meth_swap (q : Nat) (v : Value) (w : World) (h : w.cell? ⟨q, 0, none⟩ = some v) : (method 253 98 (.pointer (some ⟨q, 0, none⟩)) "Swap").run Tryd.prog w = .ok (98, v) w := meth_val "Swap" _ q v w h (by kernel_rfl)
set_option maxRecDepth 100000 in
theorem meth_push (a : Addr) (w : World) : (method 253 98 (.pointer (some a)) "Push").run Tryd.prog w = .ok (97, .pointer (some a)) w := by kernel_rfl
set_option maxRecDepth 100000 in
theorem meth_pop (a : Addr) (w : World) : (method 253 98 (.pointer (some a)) "Pop").run Tryd.prog w = .ok (96, .pointer (some a)) w := by kernel_rfl
set_option maxRecDepth 100000 in
theorem assert_rc (x : Value) (w : World) : (Instr.typeAssert (.iface 103 x) 20 103 false).run Tryd.prog w = .ok x w := by kernel_rfl
end Go.Proofs.YtomfkmclgabcpaaDoor

namespace Go.Proofs.YtomfkmclgabcpaaDoor
open Go.RowKit Go.Lib

set_option maxHeartbeats 1000000 in
set_option maxRecDepth 100000 in
theorem qPop_raw (w : World) (q g cap n : Nat) (a b : Int) (cq : w.cell? ⟨q, 0, none⟩ = some (.slice (some ⟨g, 0, none⟩) (n + 1) cap)) (fq : w.frozen? ⟨q, 0, none⟩ = false) (c0 : w.cell? ⟨g, n * 2, none⟩ = some (.int .i64 a)) (c1 : w.cell? ⟨g, n * 2 + 1, none⟩ = some (.int .i64 b)) (hl : n ≤ 1000) (hcap : n + 1 ≤ cap) :
    Calls Tryd.prog 96 #[.pointer (some ⟨q, 0, none⟩)] w fun e w' => e = .returned (.iface 103 (.agg #[.int .i64 a, .int .i64 b])) ∧ w' = (w.setCell ⟨q, 0, none⟩ (.slice (some ⟨g, 0, none⟩) n cap)).alloc (.cells #[.int .i64 a, .int .i64 b] 103) := by
  have lq := World.block_lt_of_cell? w _ cq
  have lg := World.block_lt_of_cell? w _ c0
  simp only at lq lg
  go_enter Tryd.func96, Tryd.ntmps96
  go_wp2_with fail
  go_ret
  exact ⟨rfl, rfl⟩
/-- The last one taken. -/
theorem qPop_any (w : World) (q g cap : Nat) (L : List Rc) (x : Rc) (h : Que w q g cap (L ++ [x])) (hl : L.length ≤ 1000) :
    Calls Tryd.prog 96 #[.pointer (some ⟨q, 0, none⟩)] w fun e w' => e = .returned (.iface 103 (.agg #[Rc.v0 x, Rc.v1 x])) ∧ Que w' q g cap L ∧ Keep (InQ q g) w w' := by
  have hlen : (L ++ [x]).length = L.length + 1 := by simp
  have hx : (L ++ [x])[L.length]! = x := by simp
  have c0 := h.row.c0 L.length (by omega)
  have c1 := h.row.c1 L.length (by omega)
  rw [hx] at c0 c1
  refine (qPop_raw w q g cap L.length _ _ (by rw [← hlen]; exact h.cq) h.fq c0 c1 hl (by rw [← hlen]; exact h.row.le)).mono ?_
  rintro e w' ⟨rfl, rfl⟩
  have h1 : Que (w.setCell ⟨q, 0, none⟩ (.slice (some ⟨g, 0, none⟩) L.length cap)) q g cap L :=
    ⟨World.cell?_setCell_same _ _ _ h.cq, by rw [World.frozen?_setCell]; exact h.fq, by simpa [World.setCell] using h.lq, h.ne, h.row.drop.past q 0 h.ne _⟩
  exact ⟨rfl, h1.below ((Below.refl _ _).alloc (Nat.le_refl _) _), (Keep.setCell (InQ q g) w q 0 _ (Or.inl rfl)).trans (Keep.alloc (InQ q g) _ _)⟩

/-- One pair put behind, as one step of a region that draws its order. -/
theorem step_appendQ {ops : Array Oper} {o : Oper} {a : Act} {w : World} {K : Act → World → Prop} {Q : Exit → Act → World → Prop} {E : Prop}
    (hg : o.guard = none) (s x : Operand) (hop : o.op = Op.call { callee := Callee.builtin Builtin.append, args := #[s, x], argTypes := #[100, 100] })
    (g cap : Nat) (L : List Rc) (y : Rc) (B c : Nat) (hs : a.eval s = .slice (some ⟨g, 0, none⟩) L.length cap) (hx : a.eval x = .slice (some ⟨B, 0, none⟩) 1 c)
    (h : RowQ w g cap L) (h0 : w.cell? ⟨B, 0, none⟩ = some (Rc.v0 y)) (h1 : w.cell? ⟨B, 1, none⟩ = some (Rc.v1 y)) (hlen : (L.length + 1) * 16 ≤ 140737488355328)
    (hK : ∀ g' cap' w', RowQ w' g' cap' (L ++ [y]) → Keep (fun b => b = g) w w' → (g' = g ∨ g' = w.heap.size) → K (a.put o.dst (.slice (some ⟨g', 0, none⟩) (L.length + 1) cap')) w') :
    if Region.wanted o (yielded ops a.tmps) = true then Oper.wp Tryd.prog o a w K Q else E := by
  have hw : Region.wanted o (yielded ops a.tmps) = true := by simp [Region.wanted, hg]
  rw [if_pos hw]
  obtain ⟨g', cap', w', hr, hrow, hk, hg'⟩ := run_appendQ w o.type g cap L h y B c h0 h1 hlen
  unfold Oper.wp
  simp [execOp, hop, resolve, invoke, builtin, hs, hx, hr, Result.andThen]
  exact hK g' cap' w' hrow hk hg'

set_option maxHeartbeats 1000000 in
set_option maxRecDepth 100000 in
/-- One put behind. -/
theorem qPush_any (w : World) (q g cap : Nat) (L : List Rc) (x : Rc) (h : Que w q g cap L) (hl : L.length ≤ 1000) :
    Calls Tryd.prog 97 #[.pointer (some ⟨q, 0, none⟩), .iface 103 (.agg #[Rc.v0 x, Rc.v1 x])] w fun e w' => ∃ g' cap', e = .returned (.tuple #[]) ∧ Que w' q g' cap' (L ++ [x]) ∧ Keep (InQ q g) w w' ∧ (g' = g ∨ w.heap.size ≤ g') := by
  have cq := h.cq
  have fq := h.fq
  have lq := h.lq
  have lg := h.row.lt
  have ne := h.ne
  have BA := (Below.refl w.heap.size w).alloc (Nat.le_refl _) (.cells #[Rc.v0 x, Rc.v1 x] 103)
  have HQ := Lib.hid (h.below BA).drew
  have HB := Lib.hid BA.drew
  have x0 : (w.alloc (.cells #[Rc.v0 x, Rc.v1 x] 103)).drew.cell? ⟨w.heap.size, 0, none⟩ = some (Rc.v0 x) := by simp
  have x1 : (w.alloc (.cells #[Rc.v0 x, Rc.v1 x] 103)).drew.cell? ⟨w.heap.size, 1, none⟩ = some (Rc.v1 x) := by simp
  have HX0 := Lib.hid x0
  have HX1 := Lib.hid x1
  clear h x0 x1 BA
  go_enter Tryd.func97, Tryd.ntmps97
  have ha := fun w => assert_rc (.agg #[Rc.v0 x, Rc.v1 x]) w
  go_wp2_with fail
  generalize hW : (w.alloc (.cells #[Rc.v0 x, Rc.v1 x] 103)).drew = W at HQ HB HX0 HX1
  have cqW := HQ.out.cq
  go_region_law (refine step_appendQ rfl (.tmp 7) (.tmp 10) rfl g cap L x w.heap.size 1 (by simp [Act.eval]) (by simp [Act.eval]) HQ.out.row HX0.out HX1.out (by omega) ?_; intro g' cap' w' hr hk hg'; have cq' := (World.cell?_of_block (a := ⟨q, 0, none⟩) (hk.block q HQ.out.lq HQ.out.ne.symm)).trans HQ.out.cq; have fq' := (World.frozen?_of_block (a := ⟨q, 0, none⟩) (hk.block q HQ.out.lq HQ.out.ne.symm)).trans HQ.out.fq; have HH := Lib.hid (And.intro hr (And.intro hk hg')); clear hr hk hg')
  all_goals go_end0
  all_goals
    obtain ⟨hr, hk, hg'⟩ := HH.out
    have hs := HB.out.size
    have hn : g' ≠ q := by
      rcases hg' with e | e
      · rw [e]; exact ne
      · have := HQ.out.lq
        omega
    have hw := hk.size
    refine ⟨g', cap', rfl, ⟨?_, by rw [World.frozen?_setCell]; exact fq', by simp [World.setCell]; omega, hn, hr.past q 0 hn _⟩, ((Keep.of HB.out).trans (hk.mono fun b hb => Or.inr hb)).trans (Keep.setCell (InQ q g) _ q 0 _ (Or.inl rfl)), by omega⟩
    rw [World.cell?_setCell_same _ _ _ cq']
    simp
end Go.Proofs.YtomfkmclgabcpaaDoor

namespace Go.Proofs.YtomfkmclgabcpaaDoor
open Go.RowKit Go.Lib

theorem Que.swap {w w1 : World} {q g cap i j : Nat} {L : List Rc} (h : Que w q g cap L) (hr : RowQ w1 g cap (exch L i j)) (hk : Keep (fun b => b = g) w w1) : Que w1 q g cap (exch L i j) :=
  ⟨by rw [exch_len]; exact (World.cell?_of_block (a := ⟨q, 0, none⟩) (hk.block q h.lq h.ne.symm)).trans h.cq, (World.frozen?_of_block (a := ⟨q, 0, none⟩) (hk.block q h.lq h.ne.symm)).trans h.fq, Nat.lt_of_lt_of_le h.lq hk.size, h.ne, hr⟩

set_option maxHeartbeats 1000000 in
set_option maxRecDepth 100000 in
/-- heap.up. -/
theorem up_any (w : World) (q g cap j : Nat) (L : List Rc) (h : Que w q g cap L) (hj : j < L.length) (hl : L.length ≤ 1000) :
    Calls Tryd.prog 53 #[.iface 98 (.pointer (some ⟨q, 0, none⟩)), .int .i64 j] w fun e w' => e = .returned (.tuple #[]) ∧ ∃ L', Alike L L' ∧ Que w' q g cap L' ∧ Keep (InQ q g) w w' := by
  have HQ0 := Lib.hid h
  clear h
  go_enter Tryd.func53, Tryd.ntmps53
  go_wp2_with fail
  go_loopw [1] (fun v wr => ∃ (k : Nat), v = .int .i64 k ∧ k < L.length ∧ ∃ Lr, Hid (Alike L Lr) ∧ Hid (Que wr q g cap Lr) ∧ Hid (Keep (InQ q g) w wr)) (fun v _ => (RowKit.intOf v).toNat)
  case atStart => exact ⟨j, rfl, hj, L, Lib.hid (Alike.refl L), HQ0, Lib.hid (Keep.refl _ _)⟩
  case round =>
    obtain ⟨k, rfl, hk, Lr, HA, HQ, HK⟩ := hrel
    by_cases hk0 : k = 0
    · subst hk0
      go_wp2_with fail
      go_end0
      exact ⟨rfl, Lr, HA.out, HQ.out, HK.out⟩
    · obtain ⟨i, hi⟩ : ∃ i, i = (k - 1) / 2 := ⟨_, rfl⟩
      have hkl : k < Lr.length := by have := HA.out.1; omega
      have e1 : ((k : Int) - 1) / 2 = (i : Int) := by omega
      have e2 : ¬ (i : Int) = (k : Int) := by omega
      have hik : i < k := by omega
      have m1 := meth_less q _ wr HQ.out.cq
      have HL := Lib.hid (qLess_any wr g cap k i Lr HQ.out.row (by omega) (by omega))
      clear hi
      go_wp2_with fail
      refine HL.out.mono ?_
      rintro e w1 ⟨rfl, hb1⟩
      have HQ1 := Lib.hid (HQ.out.below hb1)
      have HK1 := Lib.hid (HK.out.trans (Keep.of hb1))
      clear hb1 HL m1
      generalize decide ((Lr[k]!.2 : Int) < Lr[i]!.2) = b
      cases b with
      | false =>
        go_wp2_with fail
        go_end0
        exact ⟨rfl, Lr, HA.out, HQ1.out, HK1.out⟩
      | true =>
        have m2 := meth_swap q _ w1 HQ1.out.cq
        have HS := Lib.hid (qSwap_any w1 g cap i k Lr HQ1.out.row (by omega) (by omega))
        go_wp2_with fail
        refine HS.out.mono ?_
        rintro e w2 ⟨rfl, hr, hk2⟩
        have HQ2 := Lib.hid (HQ1.out.swap hr hk2)
        have HA2 := Lib.hid (HA.out.trans (exch_alike Lr i k (by omega) (by omega)))
        have HK2 := Lib.hid (HK1.out.trans (hk2.mono fun b hb => Or.inr hb))
        clear hr hk2 HS m2
        go_wp2_with fail
        go_roundw
        case rel => exact ⟨i, rfl, by omega, _, HA2, HQ2, HK2⟩
        case measure => simp [RowKit.intOf]; omega
/-! ### down, Push, Pop -/
/-- Two compared, two exchanged: their places told as the walk has them. -/
theorem qLess_at (w : World) (g cap i j : Nat) (x y : Int) (L : List Rc) (h : RowQ w g cap L) (hi : i < L.length) (hj : j < L.length) (hx : x = i) (hy : y = j) :
    Calls Tryd.prog 95 #[.slice (some ⟨g, 0, none⟩) L.length cap, .int .i64 x, .int .i64 y] w fun e w' => e = .returned (.bool (decide ((L[i]!.2 : Int) < L[j]!.2))) ∧ Below w.heap.size w w' := by
  subst hx hy; exact qLess_any w g cap i j L h hi hj
theorem qSwap_at (w : World) (g cap i j : Nat) (x y : Int) (L : List Rc) (h : RowQ w g cap L) (hi : i < L.length) (hj : j < L.length) (hx : x = i) (hy : y = j) :
    Calls Tryd.prog 98 #[.slice (some ⟨g, 0, none⟩) L.length cap, .int .i64 x, .int .i64 y] w fun e w' => e = .returned (.tuple #[]) ∧ RowQ w' g cap (exch L i j) ∧ Keep (fun b => b = g) w w' := by
  subst hx hy; exact qSwap_any w g cap i j L h hi hj

set_option maxHeartbeats 4000000 in
set_option maxRecDepth 100000 in
/-- heap.down. -/
theorem down_any (w : World) (q g cap n : Nat) (L : List Rc) (h : Que w q g cap L) (hn : n < L.length) (hl : L.length ≤ 1000) :
    Calls Tryd.prog 54 #[.iface 98 (.pointer (some ⟨q, 0, none⟩)), .int .i64 0, .int .i64 n] w fun e w' => ∃ v, e = .returned v ∧ ∃ L', Alike L L' ∧ Que w' q g cap L' ∧ Keep (InQ q g) w w' := by
  have HQ0 := Lib.hid h
  clear h
  go_enter Tryd.func54, Tryd.ntmps54
  go_wp2_with fail
  go_loopw [7] (fun v wr => ∃ (k : Nat), v = .int .i64 k ∧ k ≤ n ∧ ∃ Lr, Hid (Alike L Lr) ∧ Hid (Que wr q g cap Lr) ∧ Hid (Keep (InQ q g) w wr)) (fun v _ => n - (RowKit.intOf v).toNat)
  case atStart => exact ⟨0, rfl, Nat.zero_le _, L, Lib.hid (Alike.refl L), HQ0, Lib.hid (Keep.refl _ _)⟩
  case round =>
    obtain ⟨k, rfl, hk, Lr, HA, HQwr, HKwr⟩ := hrel
    have hnl : n < Lr.length := by have := HA.out.1; omega
    by_cases h1 : 2 * k + 1 < n
    · obtain ⟨j1, hj1⟩ : ∃ j1, j1 = 2 * k + 1 := ⟨_, rfl⟩
      have e2 : ¬ 2 * (k : Int) + 1 ≥ (n : Int) := by omega
      have e3 : ¬ 2 * (k : Int) + 1 < 0 := by omega
      by_cases h2 : j1 + 1 < n
      · obtain ⟨j2, hj2⟩ : ∃ j2, j2 = j1 + 1 := ⟨_, rfl⟩
        have e5 : 2 * (k : Int) + 1 + 1 < (n : Int) := by omega
        have m1 := meth_less q _ wr HQwr.out.cq
        go_wp2_with fail
        refine (qLess_at wr g cap j2 j1 _ _ Lr HQwr.out.row (by omega) (by omega) (by omega) (by omega)).mono ?_
        rintro e w1 ⟨rfl, hb1⟩
        have HQw1 := Lib.hid (HQwr.out.below hb1)
        have HKw1 := Lib.hid (HKwr.out.trans (Keep.of hb1))
        clear hb1 m1
        generalize decide ((Lr[j2]!.2 : Int) < Lr[j1]!.2) = b
        cases b with
        | false =>
          have m3 := meth_less q _ w1 HQw1.out.cq
          go_wp2_with fail
          refine (qLess_at w1 g cap j1 k _ _ Lr HQw1.out.row (by omega) (by omega) (by omega) (by omega)).mono ?_
          rintro e w5 ⟨rfl, hb5⟩
          have HQ5 := Lib.hid (HQw1.out.below hb5)
          have HK5 := Lib.hid (HKw1.out.trans (Keep.of hb5))
          clear hb5 m3
          generalize decide ((Lr[j1]!.2 : Int) < Lr[k]!.2) = b5
          cases b5 with
          | false =>
            go_wp2_with fail
            go_ret
            exact ⟨_, rfl, Lr, HA.out, HQ5.out, HK5.out⟩
          | true =>
            have m4 := meth_swap q _ w5 HQ5.out.cq
            go_wp2_with fail
            refine (qSwap_at w5 g cap k j1 _ _ Lr HQ5.out.row (by omega) (by omega) (by omega) (by omega)).mono ?_
            rintro e w6 ⟨rfl, hr, hk6⟩
            have HQ6 := Lib.hid (HQ5.out.swap hr hk6)
            have HA6 := Lib.hid (HA.out.trans (exch_alike Lr k j1 (by omega) (by omega)))
            have HK6 := Lib.hid (HK5.out.trans (hk6.mono fun b hb => Or.inr hb))
            clear hr hk6 m4
            go_wp2_with fail
            go_roundw
            case rel => exact ⟨j1, congrArg _ (by omega), by omega, _, HA6, HQ6, HK6⟩
            case measure => simp [RowKit.intOf]; omega
        | true =>
          have m3 := meth_less q _ w1 HQw1.out.cq
          go_wp2_with fail
          refine (qLess_at w1 g cap j2 k _ _ Lr HQw1.out.row (by omega) (by omega) (by omega) (by omega)).mono ?_
          rintro e w5 ⟨rfl, hb5⟩
          have HQ5 := Lib.hid (HQw1.out.below hb5)
          have HK5 := Lib.hid (HKw1.out.trans (Keep.of hb5))
          clear hb5 m3
          generalize decide ((Lr[j2]!.2 : Int) < Lr[k]!.2) = b5
          cases b5 with
          | false =>
            go_wp2_with fail
            go_ret
            exact ⟨_, rfl, Lr, HA.out, HQ5.out, HK5.out⟩
          | true =>
            have m4 := meth_swap q _ w5 HQ5.out.cq
            go_wp2_with fail
            refine (qSwap_at w5 g cap k j2 _ _ Lr HQ5.out.row (by omega) (by omega) (by omega) (by omega)).mono ?_
            rintro e w6 ⟨rfl, hr, hk6⟩
            have HQ6 := Lib.hid (HQ5.out.swap hr hk6)
            have HA6 := Lib.hid (HA.out.trans (exch_alike Lr k j2 (by omega) (by omega)))
            have HK6 := Lib.hid (HK5.out.trans (hk6.mono fun b hb => Or.inr hb))
            clear hr hk6 m4
            go_wp2_with fail
            go_roundw
            case rel => exact ⟨j2, congrArg _ (by omega), by omega, _, HA6, HQ6, HK6⟩
            case measure => simp [RowKit.intOf]; omega
      · have e5 : ¬ 2 * (k : Int) + 1 + 1 < (n : Int) := by omega
        have m3 := meth_less q _ wr HQwr.out.cq
        go_wp2_with fail
        refine (qLess_at wr g cap j1 k _ _ Lr HQwr.out.row (by omega) (by omega) (by omega) (by omega)).mono ?_
        rintro e w5 ⟨rfl, hb5⟩
        have HQ5 := Lib.hid (HQwr.out.below hb5)
        have HK5 := Lib.hid (HKwr.out.trans (Keep.of hb5))
        clear hb5 m3
        generalize decide ((Lr[j1]!.2 : Int) < Lr[k]!.2) = b5
        cases b5 with
        | false =>
          go_wp2_with fail
          go_ret
          exact ⟨_, rfl, Lr, HA.out, HQ5.out, HK5.out⟩
        | true =>
          have m4 := meth_swap q _ w5 HQ5.out.cq
          go_wp2_with fail
          refine (qSwap_at w5 g cap k j1 _ _ Lr HQ5.out.row (by omega) (by omega) (by omega) (by omega)).mono ?_
          rintro e w6 ⟨rfl, hr, hk6⟩
          have HQ6 := Lib.hid (HQ5.out.swap hr hk6)
          have HA6 := Lib.hid (HA.out.trans (exch_alike Lr k j1 (by omega) (by omega)))
          have HK6 := Lib.hid (HK5.out.trans (hk6.mono fun b hb => Or.inr hb))
          clear hr hk6 m4
          go_wp2_with fail
          go_roundw
          case rel => exact ⟨j1, congrArg _ (by omega), by omega, _, HA6, HQ6, HK6⟩
          case measure => simp [RowKit.intOf]; omega
    · have e2 : 2 * (k : Int) + 1 ≥ (n : Int) := by omega
      go_wp2_with fail
      go_ret
      exact ⟨_, rfl, Lr, HA.out, HQwr.out, HKwr.out⟩
end Go.Proofs.YtomfkmclgabcpaaDoor

namespace Go.Proofs.YtomfkmclgabcpaaDoor
open Go.RowKit Go.Lib

set_option maxHeartbeats 1000000 in
set_option maxRecDepth 100000 in
/-- heap.Push. -/
theorem heapPush_any (w : World) (q g cap : Nat) (L : List Rc) (x : Rc) (h : Que w q g cap L) (hl : L.length ≤ 900) :
    Calls Tryd.prog 48 #[.iface 98 (.pointer (some ⟨q, 0, none⟩)), .iface 103 (.agg #[Rc.v0 x, Rc.v1 x])] w fun e w' => e = .returned (.tuple #[]) ∧ ∃ g' cap' L', Que w' q g' cap' L' ∧ L'.length = L.length + 1 ∧ (∀ e, e ∈ L' ↔ e = x ∨ e ∈ L) ∧ Keep (InQ q g) w w' ∧ (g' = g ∨ w.heap.size ≤ g') := by
  have HQ0 := Lib.hid h
  have m0 := fun w => meth_push ⟨q, 0, none⟩ w
  clear h
  go_enter Tryd.func48, Tryd.ntmps48
  go_wp2_with fail
  refine (qPush_any w q g cap L x HQ0.out (by omega)).mono ?_
  rintro e w1 ⟨g1, cap1, rfl, hq1, hk1, hg1⟩
  have hlen : (L ++ [x]).length = L.length + 1 := by simp
  have m1 := meth_len q _ w1 hq1.cq
  rw [hlen] at m1
  have HQ1 := Lib.hid hq1; have HK1 := Lib.hid hk1; have HG1 := Lib.hid hg1; have HL := Lib.hid hlen
  clear hq1 hk1 hg1 hlen m0
  go_wp2_with fail
  refine (qLen_any w1 _ _ _).mono ?_
  rintro e w2 ⟨rfl, rfl⟩
  clear m1
  go_wp2_with fail
  refine (up_any w2 q g1 cap1 L.length (L ++ [x]) HQ1.out (by have := HL.out; omega) (by have := HL.out; omega)).mono ?_
  rintro e w3 ⟨rfl, L2, ha, hq2, hk2⟩
  have HH := Lib.hid (And.intro ha (And.intro hq2 hk2))
  clear ha hq2 hk2
  go_wp2_with fail
  go_end0
  obtain ⟨ha, hq2, hk2⟩ := HH.out
  refine ⟨rfl, g1, cap1, L2, hq2, ha.1.trans HL.out, fun e => ?_, HK1.out.then hk2 fun b hb => ?_, HG1.out⟩
  · rw [← ha.2 e, List.mem_append, List.mem_singleton, or_comm]
  · rcases hb with e | e
    · exact Or.inl (Or.inl e)
    · rcases HG1.out with e2 | e2
      · exact Or.inl (Or.inr (e.trans e2))
      · exact Or.inr (by omega)

set_option maxHeartbeats 1000000 in
set_option maxRecDepth 100000 in
/-- heap.Pop. -/
theorem heapPop_any (w : World) (q g cap n : Nat) (L : List Rc) (h : Que w q g cap L) (hn : L.length = n + 1) (hl : L.length ≤ 900) :
    Calls Tryd.prog 50 #[.iface 98 (.pointer (some ⟨q, 0, none⟩))] w fun e w' => ∃ x L', e = .returned (.iface 103 (.agg #[Rc.v0 x, Rc.v1 x])) ∧ Que w' q g cap L' ∧ L'.length = n ∧ (∀ e, e ∈ L ↔ e = x ∨ e ∈ L') ∧ Keep (InQ q g) w w' := by
  have m0 := meth_len q _ w h.cq
  rw [hn] at m0
  have HQ0 := Lib.hid h
  have HN := Lib.hid hn
  have hn9 : n ≤ 899 := by omega
  clear h hn hl
  go_enter Tryd.func50, Tryd.ntmps50
  go_wp2_with fail
  refine (qLen_any w _ _ _).mono ?_
  rintro e w1 ⟨rfl, rfl⟩
  clear m0
  have m1 := meth_swap q _ w1 HQ0.out.cq
  go_wp2_with fail
  refine (qSwap_at w1 g cap 0 n _ _ L HQ0.out.row (by have := HN.out; omega) (by have := HN.out; omega) (by rfl) (by omega)).mono ?_
  rintro e w4 ⟨rfl, hr, hk1⟩
  have HQ1 := Lib.hid (HQ0.out.swap hr hk1)
  have HA1 := Lib.hid (exch_alike L 0 n (by have := HN.out; omega) (by have := HN.out; omega))
  have HK1 := Lib.hid (hk1.mono (S' := InQ q g) fun b hb => Or.inr hb)
  clear hr hk1 m1
  generalize exch L 0 n = L1 at HQ1 HA1
  go_wp2_with fail
  refine (down_any w4 q g cap n L1 HQ1.out (by have := HA1.out.1; have := HN.out; omega) (by have := HA1.out.1; have := HN.out; omega)).mono ?_
  rintro e w2 ⟨v, rfl, L2, ha, hq2, hk2⟩
  have HA2 := Lib.hid (HA1.out.trans ha)
  obtain ⟨L3, x, h3⟩ : ∃ L3 x, L2 = L3 ++ [x] := by
    have h0 : L2 ≠ [] := by
      intro e
      have e1 := HA2.out.1
      have e2 := HN.out
      rw [e, List.length_nil] at e1
      omega
    exact ⟨_, _, (List.dropLast_concat_getLast h0).symm⟩
  subst h3
  have h3l : L3.length = n := by
    have e1 := HA2.out.1
    have e2 := HN.out
    rw [List.length_append, List.length_singleton] at e1
    omega
  have HQ2 := Lib.hid hq2; have HK2 := Lib.hid (HK1.out.trans hk2)
  have HL3 := Lib.hid h3l
  have m3 := fun w => meth_pop ⟨q, 0, none⟩ w
  clear ha hq2 hk2 h3l
  go_wp2_with fail
  refine (qPop_any w2 q g cap L3 x HQ2.out (by have := HL3.out; omega)).mono ?_
  rintro e w3 ⟨rfl, hq3, hk3⟩
  have HH := Lib.hid (And.intro hq3 hk3)
  clear hq3 hk3
  go_wp2_with fail
  go_ret
  obtain ⟨hq3, hk3⟩ := HH.out
  refine ⟨x, L3, rfl, hq3, HL3.out, fun e => ?_, HK2.out.trans hk3⟩
  rw [HA2.out.2 e, List.mem_append, List.mem_singleton, or_comm]
end Go.Proofs.YtomfkmclgabcpaaDoor

namespace Go.Proofs.YtomfkmclgabcpaaDoor
open Go.RowKit Go.Lib
open SpfP (upd tot)

/-- A block of two cells stays where it is none of those that are turned. -/
theorem Box.still {w w1 : World} {S : Nat → Prop} {b : Nat} {x y : Value} (h : Box w b x y) (hk : Keep S w w1) (hs : ¬ S b) : Box w1 b x y := by
  have hb := hk.block b h.lt hs
  exact ⟨Nat.lt_of_lt_of_le h.lt hk.size, (World.cell?_of_block (a := ⟨b, 0, none⟩) hb).trans h.c0, (World.cell?_of_block (a := ⟨b, 1, none⟩) hb).trans h.c1, (World.frozen?_of_block (a := ⟨b, 0, none⟩) hb).trans h.f0, (World.frozen?_of_block (a := ⟨b, 1, none⟩) hb).trans h.f1⟩
/-- heap.Push, the pair told as the walk has it. -/
theorem heapPush_at (w : World) (q g cap v s : Nat) (L : List Rc) (h : Que w q g cap L) (hl : L.length ≤ 900) :
    Calls Tryd.prog 48 #[.iface 98 (.pointer (some ⟨q, 0, none⟩)), .iface 103 (.agg #[.int .i64 v, .int .i64 s])] w fun e w' => e = .returned (.tuple #[]) ∧ ∃ g' cap' L', Que w' q g' cap' L' ∧ L'.length = L.length + 1 ∧ (∀ e, e ∈ L' ↔ e = (v, s) ∨ e ∈ L) ∧ Keep (InQ q g) w w' ∧ (g' = g ∨ w.heap.size ≤ g') :=
  heapPush_any w q g cap L (v, s) h hl
theorem heapPop_at (w : World) (q g cap n : Nat) (L : List Rc) (h : Que w q g cap L) (hn : L.length = n + 1) (hl : L.length ≤ 900) :
    Calls Tryd.prog 50 #[.iface 98 (.pointer (some ⟨q, 0, none⟩))] w fun e w' => ∃ v s : Nat, ∃ L', e = .returned (.iface 103 (.agg #[.int .i64 v, .int .i64 s])) ∧ Que w' q g cap L' ∧ L'.length = n ∧ (∀ e, e ∈ L ↔ e = (v, s) ∨ e ∈ L') ∧ Keep (InQ q g) w w' :=
  (heapPop_any w q g cap n L h hn hl).mono fun _ _ ⟨x, L', h1, h2⟩ => ⟨x.1, x.2, L', h1, h2⟩

/-- The sums lie at f, the queue at q; what was there before the world w0 is as it was. -/
structure St (w0 w : World) (f q n g cap : Nat) (d : Nat → Nat) (L : List Rc) : Prop where
  vec : Vec w f n (fun i => (d i : Int))
  que : Que w q g cap L
  fq : f < q
  hf : w0.heap.size ≤ f
  hg : w0.heap.size ≤ g
  nf : g ≠ f
  bel : Below w0.heap.size w0 w
  few : 2 * tot d n + L.length ≤ 257
section
variable {w0 w w1 : World} {f q n g cap : Nat} {d : Nat → Nat} {L : List Rc}
theorem St.len (h : St w0 w f q n g cap d L) : L.length ≤ 257 := by have := h.few; omega
theorem St.inside (h : St w0 w f q n g cap d L) (b : Nat) (hb : InQ q g b) : w0.heap.size ≤ b := by
  rcases hb with e | e
  · rw [e]; have := h.fq; have := h.hf; omega
  · rw [e]; exact h.hg
theorem St.below (h : St w0 w f q n g cap d L) (hb : Below w.heap.size w w1) : St w0 w1 f q n g cap d L :=
  ⟨h.vec.keep hb, h.que.below hb, h.fq, h.hf, h.hg, h.nf, h.bel.trans (hb.mono h.bel.size), h.few⟩
theorem St.drew (h : St w0 w f q n g cap d L) : St w0 w.drew f q n g cap d L :=
  ⟨h.vec.drew, h.que.drew, h.fq, h.hf, h.hg, h.nf, h.bel.drew, h.few⟩
/-- A call has turned the queue. -/
theorem St.turn {g' cap' : Nat} {L' : List Rc} (h : St w0 w f q n g cap d L) (hq : Que w1 q g' cap' L') (hk : Keep (InQ q g) w w1) (hg : g' = g ∨ w.heap.size ≤ g') (hl : 2 * tot d n + L'.length ≤ 257) : St w0 w1 f q n g' cap' d L' := by
  have hs := h.bel.size
  have hv := h.vec.lt
  have hb := hk.block f h.vec.lt (fun e => by
    rcases e with e | e
    · have := h.fq; omega
    · exact h.nf e.symm)
  refine ⟨⟨Nat.lt_of_lt_of_le h.vec.lt hk.size, fun i hi => (World.cell?_of_block (w := w) (a := ⟨f, i, none⟩) hb).trans (h.vec.c i hi), fun i => (World.frozen?_of_block (w := w) (a := ⟨f, i, none⟩) hb).trans (h.vec.f i)⟩, hq, h.fq, h.hf, ?_, ?_, h.bel.trans (hk.below h.inside hs), hl⟩
  · rcases hg with e | e
    · rw [e]; exact h.hg
    · omega
  · rcases hg with e | e
    · rw [e]; exact h.nf
    · omega
/-- One sum put anew. -/
theorem St.put (h : St w0 w f q n g cap d L) (m x : Nat) (hl : 2 * tot (upd d m x) n + L.length ≤ 257) : St w0 (w.setCell ⟨f, m, none⟩ (.int .i64 x)) f q n g cap (upd d m x) L :=
  ⟨(h.vec.set m x).congr fun i _ => by
      unfold upd
      by_cases e : i = m
      · rw [if_pos e, if_pos e]
      · rw [if_neg e, if_neg e], h.que.past f m (by have := h.fq; omega) h.nf _, h.fq, h.hf, h.hg, h.nf, h.bel.setCell (p := ⟨f, m, none⟩) h.hf _, hl⟩
end

/-- The beginning: the sums laid, an empty queue. -/
theorem St.start {w0 w : World} {f n fr : Nat} (hv : Vec w f n (fun _ => 16)) (hb : Below w0.heap.size w0 w) (hf : w0.heap.size ≤ f) (h8 : n ≤ 8) :
    St w0 (((w.setCell ⟨f, fr, none⟩ (.int .i64 0)).alloc (.cells #[] 103)).alloc (.cells #[.slice (some ⟨w.heap.size, 0, none⟩) 0 0] 100)) f (w.heap.size + 1) n w.heap.size 0 (BellP.st fr) [] := by
  have hlt := hv.lt
  have hs : (w.setCell ⟨f, fr, none⟩ (.int .i64 0)).heap.size = w.heap.size := by simp [World.setCell]
  have v1 := (hv.set fr 0).keep (((Below.refl _ _).alloc (Nat.le_refl _) (.cells #[] 103)).alloc (by simp) (.cells #[.slice (some ⟨w.heap.size, 0, none⟩) 0 0] 100))
  generalize hW : w.setCell ⟨f, fr, none⟩ (.int .i64 0) = W at hs v1 ⊢
  have hz : W.heap.size = w.heap.size := hs
  refine ⟨v1.congr fun i _ => ?_, ⟨?_, ?_, ?_, by omega, ⟨⟨#[], ?_, rfl, rfl⟩, Nat.le_refl _, Nat.zero_le _⟩⟩, by omega, hf, by have := hb.size; omega, by omega, ?_, ?_⟩
  · show (if i = fr then (0 : Int) else 16) = ((BellP.st fr i : Nat) : Int)
    unfold BellP.st
    split <;> rfl
  · rw [← hz]; simp
  · rw [← hz]; simp
  · rw [← hz]; simp
  · rw [← hz]
    have := (MapKept.heap_alloc W (.cells #[] 103)).1
    rw [(Below.refl (W.alloc (.cells #[] 103)).heap.size (W.alloc (.cells #[] 103))).alloc (Nat.le_refl _) (.cells #[.slice (some ⟨W.heap.size, 0, none⟩) 0 0] 100) |>.block W.heap.size (by simp)]
    exact this
  · rw [← hW]
    exact ((hb.setCell (p := ⟨f, fr, none⟩) hf _).alloc (by have := hb.size; simp [World.setCell]; omega) _).alloc (by have := hb.size; simp [World.setCell]; omega) _
  · have := SpfP.tot_le (d := BellP.st fr) n (fun i _ => BellP.st_bd fr i)
    simp only [List.length_nil]
    omega

/-! ### How much is left to do, read off memory -/
def vecAt (w : World) (f i : Nat) : Nat := match w.cell? ⟨f, i, none⟩ with
  | some (.int _ z) => z.toNat
  | _ => 0
def lenAt (w : World) (q : Nat) : Nat := match w.cell? ⟨q, 0, none⟩ with
  | some (.slice _ n _) => n
  | _ => 0
def left (w : World) (f q n : Nat) : Nat := 2 * tot (vecAt w f) n + lenAt w q
theorem St.left {w0 w : World} {f q n g cap : Nat} {d : Nat → Nat} {L : List Rc} (h : St w0 w f q n g cap d L) : left w f q n = 2 * tot d n + L.length := by
  unfold Proofs.YtomfkmclgabcpaaDoor.left
  have h1 : lenAt w q = L.length := by unfold lenAt; rw [h.que.cq]
  have h2 : tot (vecAt w f) n = tot d n := SpfP.tot_congr n fun i hi => by
    unfold vecAt; rw [h.vec.c i hi]; simp
  rw [h1, h2]
end Go.Proofs.YtomfkmclgabcpaaDoor

namespace Go.Proofs.YtomfkmclgabcpaaDoor
open Go.RowKit Go.Lib
open SpfP (upd tot Fall Mid Sym)

set_option maxHeartbeats 4000000 in
set_option maxRecDepth 100000 in
theorem distances_any (w : World) (g n fr : Nat) (C : MatP.T) (h1 : 1 ≤ n) (h8 : n ≤ 8) (hfr : fr < n) (hC : BellP.Cost C) (hS : Sym C) (hG : Grid w g n n (fun i j => (C i j : Int))) :
    Calls Tryd.prog 41 #[.slice (some ⟨g, 0, none⟩) n n, .int .i64 fr] w fun e w' => ∃ f, w.heap.size ≤ f ∧ e = .returned (.slice (some ⟨f, 0, none⟩) n n) ∧ Vec w' f n (fun i => (BellP.far n C fr i : Int)) ∧ Below w.heap.size w w' := by
  have HG := Lib.hid hG; have HC := Lib.hid hC; have HS := Lib.hid hS
  have HF0 := Lib.hid (Fall.start hC hfr)
  clear hG hC hS
  go_enter Tryd.func41, Tryd.ntmps41
  go_wp2_with fail
  refine (repeat_any _ 16 w.heap.size n h1 h8 (by simp) (by simp)).mono ?_
  rintro e w1 ⟨f, hf, rfl, hv, hb⟩
  have HB1 := Lib.hid (((Below.refl w.heap.size w).alloc (Nat.le_refl _) _).trans (hb.mono (by simp)))
  have hf1 : w.heap.size ≤ f := by simp at hf; omega
  have c0 := hv.c fr hfr
  have f0 := hv.f fr
  have HV1 := Lib.hid hv
  clear hv hb hf
  go_wp2_with fail
  have S0 := St.start (fr := fr) HV1.out HB1.out hf1 h8
  refine (heapPush_at _ (w1.heap.size + 1) w1.heap.size 0 fr 0 [] S0.que (by simp)).mono ?_
  rintro e w2 ⟨rfl, gq, cap, L, hq, hl, hm, hk, hg⟩
  have HS2 := Lib.hid (S0.turn hq hk hg (by have := SpfP.tot_le (d := BellP.st fr) n (fun i _ => BellP.st_bd fr i); simp at hl; omega))
  have HF2 := Lib.hid (HF0.out.perm (L' := L) fun e => by rw [hm e]; simp)
  clear S0 hq hl hm hk hg HF0 HB1 HV1 c0 f0
  generalize w1.heap.size + 1 = q at HS2 ⊢
  clear hf1
  go_wp2_with fail
  go_loopw [27] (fun _ wr => ∃ gq cap d L, Hid (St w wr f q n gq cap d L) ∧ Hid (Fall n C fr d L)) (fun _ wr => left wr f q n)
  case atStart => exact ⟨gq, cap, _, L, HS2, HF2⟩
  case round =>
    clear HS2 HF2
    obtain ⟨gq, cap, d, L, HT, HF⟩ := hrel
    have cq := HT.out.que.cq
    have hm0 := Lib.hid HT.out.left
    cases L with
    | nil =>
      go_wp2_with fail
      refine (qLen_any wr _ _ _).mono ?_
      rintro e w3 ⟨rfl, rfl⟩
      go_wp2_with fail
      go_ret
      exact ⟨f, HT.out.hf, rfl, HT.out.vec.congr fun i hi => by rw [HF.out.far HS.out i hi], HT.out.bel⟩
    | cons x r =>
      have hxr : (x :: r).length = r.length + 1 := rfl
      generalize hL : x :: r = L at HT HF cq hm0 hxr
      clear hL
      generalize hn : r.length = m at hxr
      rw [hxr] at cq
      have HN := Lib.hid hxr
      have hm257 : m + 1 ≤ 257 := by have := HT.out.len; omega
      clear hxr hn
      go_wp2_with fail
      refine (qLen_any wr _ _ _).mono ?_
      rintro e w3 ⟨rfl, rfl⟩
      go_wp2_with fail
      refine (heapPop_at w3 q gq cap m L HT.out.que HN.out (by have := HN.out; omega)).mono ?_
      rintro e w4 ⟨v, s, L4, rfl, hq, hl, hmm, hk⟩
      have HF4 := Lib.hid (HF.out.perm (L' := (v, s) :: L4) fun e => by rw [hmm e]; simp)
      have few := HT.out.few
      have HM0 : Hid (2 * tot d n + L4.length + 1 = left w3 f q n) := Lib.hid (by rw [hm0.out, HN.out, hl]; omega)
      have HT4 := Lib.hid (HT.out.turn hq hk (Or.inl rfl) (by have := HN.out; omega))
      obtain ⟨hvn, hds, hs15⟩ := HF4.out.q (v, s) (by simp)
      have HDS := Lib.hid hds
      have cv := HT4.out.vec.c v hvn
      have ha := fun w => assert_rc (.agg #[.int .i64 (v : Int), .int .i64 (s : Int)]) w
      have a0 : ∀ W : World, (W.alloc (.cells #[.int .i64 (v : Int), .int .i64 (s : Int)] 103)).cell? ⟨W.heap.size, 0, none⟩ = some (.int .i64 (v : Int)) := fun W => by simp
      clear hq hl hmm hk few cq hm0 HN hds
      have HT5 := Lib.hid (HT4.out.below ((Below.refl w4.heap.size w4).alloc (Nat.le_refl _) (.cells #[.int .i64 (v : Int), .int .i64 (s : Int)] 103)))
      have HB5 := Lib.hid (Box.new w4 (.int .i64 (v : Int)) (.int .i64 (s : Int)) 103)
      have hqa : q < w4.heap.size := HT4.out.que.lq
      have hga : gq < w4.heap.size := HT4.out.que.row.lt
      clear a0 cv HT4
      go_wp2_with fail
      generalize w4.alloc (.cells #[.int .i64 (v : Int), .int .i64 (s : Int)] 103) = w5 at HT5 HB5 ⊢
      generalize w4.heap.size = a at HB5 hqa hga ⊢
      clear ha
      have cv := HT5.out.vec.c v hvn
      have b0 := HB5.out.c0
      have b1 := HB5.out.c1
      by_cases hcmp : d v < s
      · have HF5 := Lib.hid (HF4.out.skip hcmp)
        have t : (s : Int) > (d v : Int) := by omega
        go_region
        go_wp2_with fail
        go_roundw
        case rel => exact ⟨gq, cap, d, L4, Lib.hid HT5.out.drew, HF5⟩
        case measure => rw [← HM0.out, HT5.out.drew.left]; omega
      · have HF5 := Lib.hid (HF4.out.take hcmp)
        have t : ¬ (s : Int) > (d v : Int) := by omega
        go_region
        have HT6 := Lib.hid HT5.out.drew
        have HB6 : Hid (Box w5.drew a (.int .i64 (v : Int)) (.int .i64 (s : Int))) := Lib.hid ⟨HB5.out.lt, HB5.out.c0, HB5.out.c1, HB5.out.f0, HB5.out.f1⟩
        have HG6 := Lib.hid (HG.out.below HT6.out.bel HG.out.lt)
        generalize w5.drew = w6 at HT6 HB6 HG6 ⊢
        have o6 := HG6.out.o v hvn
        clear cv b0 b1 HT5 HB5 t
        have b0 := HB6.out.c0
        have b1 := HB6.out.c1
        have hfq := HT6.out.fq
        have HM6 := Lib.hid (Nat.le_of_eq HM0.out)
        have HN6 : Hid (gq ≠ a) := Lib.hid (by omega)
        clear HF4 HDS hcmp HM0 HF
        go_wp2_with fail
        go_loopw [50] (fun x wi => ∃ k : Nat, ∃ gqi capi di Li, x = .int .i64 k ∧ k ≤ n ∧ Hid (St w wi f q n gqi capi di Li) ∧ Hid (Mid n C fr v s k di Li) ∧ Hid (Box wi a (.int .i64 (v : Int)) (.int .i64 (s : Int))) ∧ Hid (gqi ≠ a) ∧ Hid (2 * tot di n + Li.length + 1 ≤ left w3 f q n)) (fun x _ => n - (RowKit.intOf x).toNat)
        case atStart => exact ⟨0, gq, cap, d, L4, rfl, Nat.zero_le _, HT6, HF5, HB6, HN6, HM6⟩
        case round =>
          clear HT6 HF5 HB6 HN6 HM6 HG6 o6 b0 b1 HT hga
          obtain ⟨k, gqi, capi, di, Li, rfl, hk, HTi, HFi, HBi, HNi, HMi⟩ := hrel
          by_cases hkn : k < n
          · have HGi := Lib.hid (HG.out.below HTi.out.bel HG.out.lt)
            have ei := HGi.out.e v hvn k hkn
            have b1 := HBi.out.c1
            have HA := Lib.hid (add_yes s (C v k) (by omega) (HC.out.bd v k))
            generalize hc : C v k = c at ei HA
            generalize hz : DistP.add s c = z at HA
            have HZ : Hid (DistP.add s (C v k) = z) := Lib.hid (by rw [hc]; exact hz)
            clear hc hz
            go_wp2_with fail
            refine (HA.out _).mono ?_
            rintro e w7 ⟨rfl, hb7⟩
            have HT7 := Lib.hid (HTi.out.below hb7)
            have HB7 := Lib.hid (HBi.out.kept hb7)
            have cf := HT7.out.vec.c k hkn
            have ff := HT7.out.vec.f k
            clear hb7 HTi HBi HA ei b1 HGi
            by_cases hlt : z < di k
            · have t : (z : Int) < (di k : Int) := by omega
              have HP := Lib.hid fun (Li' : List Rc) (hp : ∀ e, e ∈ Li' ↔ e = (k, z) ∨ e ∈ Li) => HFi.out.near HC.out HS.out hfr (L' := Li') hkn (by rw [HZ.out]; exact hlt) (by rw [HZ.out]; exact hp)
              have hT := SpfP.tot_upd di k z n hkn
              have few := HT7.out.few
              have HT8 := Lib.hid (HT7.out.put k z (by omega))
              have HB8 := Lib.hid (HB7.out.still (Keep.setCell (fun b => b = f) w7 f k (.int .i64 (z : Int)) rfl) (by omega))
              have HT257 := Lib.hid few
              have HTot := Lib.hid hT
              clear few hT
              go_wp2_with fail
              refine (heapPush_at _ q gqi capi k z Li HT8.out.que (by have := HT8.out.len; omega)).mono ?_
              rintro e w9 ⟨rfl, g9, cap9, L9, hq, hl, hmm, hk9, hg9⟩
              have hne : g9 ≠ a := by
                rcases hg9 with e | e
                · rw [e]; exact HNi.out
                · have := HB8.out.lt
                  omega
              have HT9 := Lib.hid (HT8.out.turn hq hk9 hg9 (by have := HT257.out; have := HTot.out; omega))
              have HB9 := Lib.hid (HB8.out.still hk9 (fun e => by
                rcases e with e | e
                · omega
                · exact HNi.out e.symm))
              have HN9 := Lib.hid hne
              have HF9 := Lib.hid (HP.out L9 hmm)
              rw [HZ.out] at HF9
              have HM9 : Hid (2 * tot (upd di k z) n + L9.length + 1 ≤ left w3 f q n) := Lib.hid (by have := HMi.out; have := HTot.out; omega)
              clear hq hl hmm hk9 hg9 hne HT8 HB8
              go_wp2_with fail
              go_roundw
              case rel => exact ⟨k + 1, g9, cap9, _, L9, by go_num, by omega, HT9, HF9, HB9, HN9, HM9⟩
              case measure => simp [RowKit.intOf]; omega
            · have t : ¬ (z : Int) < (di k : Int) := by omega
              have HF8 := Lib.hid (HFi.out.stay hkn (by rw [HZ.out]; exact hlt))
              go_wp2_with fail
              go_roundw
              case rel => exact ⟨k + 1, gqi, capi, di, Li, by go_num, by omega, HT7, HF8, HB7, HNi, HMi⟩
              case measure => simp [RowKit.intOf]; omega
          · obtain rfl : k = n := by omega
            go_wp2_with fail
            go_roundw
            case rel => exact ⟨gqi, capi, di, Li, HTi, Lib.hid HFi.out.back⟩
            case measure => rw [HTi.out.left]; have := HMi.out; omega
end Go.Proofs.YtomfkmclgabcpaaDoor
