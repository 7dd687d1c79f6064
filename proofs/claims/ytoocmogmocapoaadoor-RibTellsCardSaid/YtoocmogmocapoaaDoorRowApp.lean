/-
  A ROW THAT THE CALL OWNS, of whatever cells, appended to: what stays, and where it lies behind it.
-/
import Derived.Test.YtoocmogmocapoaaDoorBoxes
import Derived.Laws.AppendOwn
import Derived.Laws.AppendOwnNone
import Derived.Laws.OwnMore
namespace Go.Proofs.YtoocmogmocapoaaDoor
open Go.RowKit

/-- A row v became v': nothing but its own block and new ones has turned; v' lies in that block or in a new one. -/
structure AppTo (w : World) (v : Value) (w' : World) (v' : Value) : Prop where
  grown : w.grownBy w' v.ownBlock
  to : ∀ j, v'.ownBlock = some j → v.ownBlock = some j ∨ w.heap.size ≤ j
theorem AppTo.refl (w : World) (v : Value) : AppTo w v w v := ⟨⟨rfl, rfl, rfl, Nat.le_refl _, fun _ _ _ => rfl⟩, fun _ h => Or.inl h⟩
theorem AppTo.size {w w' : World} {v v' : Value} (h : AppTo w v w' v') : w.heap.size ≤ w'.heap.size := h.grown.size
theorem AppTo.trans {w w1 w2 : World} {v v1 v2 : Value} (h : AppTo w v w1 v1) (k : AppTo w1 v1 w2 v2) : AppTo w v w2 v2 := by
  refine ⟨⟨k.grown.os.trans h.grown.os, k.grown.tape.trans h.grown.tape, k.grown.output.trans h.grown.output, Nat.le_trans h.grown.size k.grown.size, fun i hi hn => ?_⟩, fun j hj => ?_⟩
  · refine (k.grown.block i (Nat.lt_of_lt_of_le hi h.grown.size) fun e => ?_).trans (h.grown.block i hi hn)
    rcases h.to i e.symm with h1 | h1
    · exact hn h1.symm
    · omega
  · rcases k.to j hj with h1 | h1
    · exact h.to j h1
    · exact Or.inr (Nat.le_trans h.grown.size h1)
/-- Nothing that was there turned before. -/
theorem AppTo.after {w w1 w2 : World} {v v2 : Value} (h : Below w.heap.size w w1) (k : AppTo w1 v w2 v2) : AppTo w v w2 v2 :=
  AppTo.trans ⟨⟨h.os, h.tape, h.output, h.size, fun i hi _ => h.block i hi⟩, fun _ h => Or.inl h⟩ k
theorem AppTo.then {w w1 w2 : World} {v v1 : Value} (h : AppTo w v w1 v1) (k : Below w1.heap.size w1 w2) : AppTo w v w2 v1 :=
  h.trans ⟨⟨k.os, k.tape, k.output, k.size, fun i hi _ => k.block i hi⟩, fun _ h => Or.inl h⟩
theorem AppTo.below {w w' : World} {v v' : Value} {n : Nat} (h : AppTo w v w' v') (hv : ∀ j, v.ownBlock = some j → n ≤ j) (hn : n ≤ w.heap.size) : Below n w w' :=
  ⟨h.grown.os, h.grown.tape, h.grown.output, h.grown.size, fun k hk => h.grown.block k (by omega) (fun e => by have := hv k e.symm; omega)⟩
theorem AppTo.block {w w' : World} {v v' : Value} (h : AppTo w v w' v') {b : Nat} (hb : b < w.heap.size) (hn : v.ownBlock ≠ some b) : w'.heap[b]? = w.heap[b]? :=
  h.grown.block b hb fun e => hn e.symm
theorem AppTo.ne {w w' : World} {v v' : Value} (h : AppTo w v w' v') {b : Nat} (hb : b < w.heap.size) (hn : v.ownBlock ≠ some b) : v'.ownBlock ≠ some b := fun e => by
  rcases h.to b e with h1 | h1
  · exact hn h1
  · omega
theorem Box.ofBlock {w w1 : World} {b : Nat} {x y : Value} (h : Box w b x y) (hb : w1.heap[b]? = w.heap[b]?) (hs : w.heap.size ≤ w1.heap.size) : Box w1 b x y :=
  ⟨Nat.lt_of_lt_of_le h.lt hs, (World.cell?_of_block (w := w) (a := ⟨b, 0, none⟩) hb).trans h.c0, (World.cell?_of_block (w := w) (a := ⟨b, 1, none⟩) hb).trans h.c1,
    (World.frozen?_of_block (w := w) (a := ⟨b, 0, none⟩) hb).trans h.f0, (World.frozen?_of_block (w := w) (a := ⟨b, 1, none⟩) hb).trans h.f1⟩
theorem Box.app {w w1 : World} {b : Nat} {x y v v' : Value} (h : Box w b x y) (k : AppTo w v w1 v') (hn : v.ownBlock ≠ some b) : Box w1 b x y := h.ofBlock (k.block h.lt hn) k.size

/-- A row that the call owns, kept. -/
theorem rowKeepN {w w1 : World} {base n s : Nat} {T : TypeId} {v : Value} {xs : List Value} (h : w.ownsRow base T s v n xs) (hb : ∀ g, v.ownBlock = some g → w1.heap[g]? = w.heap[g]?) : w1.ownsRow base T s v n xs := by
  obtain ⟨h1, h2⟩ := h
  refine ⟨h1, ?_⟩
  rcases h2 with h2 | ⟨g, cap, cur, rfl, hg0, hg, rest⟩
  · exact Or.inl h2
  · exact Or.inr ⟨g, cap, cur, rfl, hg0, by rw [hb g rfl]; exact hg, rest⟩

/-- Cells appended to a row that the call owns. -/
theorem run_app {P : Program} (w : World) (base : Nat) (t ty e : TypeId) (i : TypeInfo) (z : Value) (size bytes : Nat) (ht : P.underlying t = some (.slice e)) (hi : P.info? e = some i) (hz : i.zero = some z)
    (hsize : i.size = size) (hby : i.bytes = bytes) (hzs : z.cells.size = size) (hsz : 0 < size)
    (v : Value) (n : Nat) (xs : List Value) (hown : w.ownsRow base e size v n xs)
    (a : Addr) (m c : Nat) (hm : 0 < m) (news : List Value) (hl : news.length = m * size) (hnews : ∀ j u, news[j]? = some u → w.cell? (a.add j) = some u) (h1 : ∀ u ∈ news, u.oneCell' = true)
    (h63 : n + m ≤ maxLen) (hbytes : (n + m) * bytes ≤ 140737488355328) (hbase : base ≤ w.heap.size) :
    ∃ v' w', (Builtin.append_ #[t, t] ty #[v, .slice (some a) m c]).run P w = .ok v' w' ∧ w'.ownsRow base e size v' (n + m) (xs ++ news) ∧ AppTo w v w' v' := by
  obtain ⟨v', w', hr, h2, h3, _⟩ := run_append_own (P := P) w base t ty e i z size bytes ht hi hz hsize hby hzs hsz v n xs hown a m c news hl hnews h1 h63 hbytes hbase
  subst hsize; subst hby
  have hm63 : n + m ≤ 9223372036854775807 := by simp only [maxLen] at h63; omega
  refine ⟨v', w', hr, h2, ⟨h3, ?_⟩⟩
  rcases hown.2 with ⟨rfl, hn⟩ | ⟨g, cap, cur, rfl, hbg, hg, hnc, hcm, hcs, htake⟩
  · have hq := run_append_nil (P := P) w t ty e i z ht hi hz a m c news hl hnews (by omega) (by omega) (by have : m * i.bytes ≤ (n + m) * i.bytes := Nat.mul_le_mul_right _ (by omega)
                                                                                                           omega)
    rw [hr] at hq
    injection hq with hq1 hq2
    rw [hq1]
    intro j hj
    exact Or.inr (Nat.le_of_eq (Option.some.inj hj))
  · by_cases hroom : n + m ≤ cap
    · have hq := run_append_room (P := P) w t ty e i ht hi g n cap cur hg a m c news hl hnews h1 hroom (by rw [hl, hcs, ← Nat.add_mul]; exact Nat.mul_le_mul_right _ hroom)
      rw [hr] at hq
      injection hq with hq1 hq2
      rw [hq1]
      intro j hj
      exact Or.inl hj
    · have hq := run_append_grow (P := P) w t ty e i z ht hi hz ⟨g, 0, none⟩ n cap xs hown.1 (hown.cells (g := g) rfl) a m c news hl hnews (by omega) (by omega) (growslice_fits (by omega) hbytes)
      rw [hr] at hq
      injection hq with hq1 hq2
      rw [hq1]
      intro j hj
      exact Or.inr (Nat.le_of_eq (Option.some.inj hj))
end Go.Proofs.YtoocmogmocapoaaDoor
