/-
  A HEAP IN MEMORY: a block of three cells that holds the slice of the things, that of their places and that of their keys; what stays where other blocks are written into.
-/
import Derived.Test.YtmfajaalbklfeaaDoorHeapPlain
import Derived.Test.YtmfajaalbklfeaaDoorKeep
import Derived.Test.YtmfajaalbklfeaaDoorVec
import Derived.Lib.SmallJoins
namespace Go.Proofs.YtmfajaalbklfeaaDoor
open Go.RowKit HeapP

def zsN (L : List Nat) : List Int := L.map fun (a : Nat) => (a : Int)
theorem zsN_len (L : List Nat) : (zsN L).length = L.length := by simp [zsN]
theorem zsN_app (L : List Nat) (x : Nat) : zsN (L ++ [x]) = zsN L ++ [(x : Int)] := by simp [zsN]
theorem zsN_at (L : List Nat) (i : Nat) (h : i < L.length) : (cellsI (zsN L))[i]? = some (.int .i64 (L[i]! : Int)) := by
  unfold cellsI zsN
  rw [List.getElem?_map, List.getElem?_map, List.getElem?_eq_getElem h, getElem!_pos L i h]; rfl
theorem zsN_set (L : List Nat) (k x : Nat) : cellsI (zsN (L.set k x)) = (cellsI (zsN L)).set k (.int .i64 (x : Int)) := by
  unfold cellsI zsN
  rw [List.map_set, List.map_set]

/-- Block g holds the things of L; there is room for cap. -/
structure RowT (w : World) (g cap : Nat) (L : List Nat) : Prop where
  ex : ∃ cur, w.heap[g]? = some (.cells cur 3 (0, 0)) ∧ cur.size = cap * 1 ∧ cur.toList.take (L.length * 1) = cellsI (zsN L)
  le : L.length ≤ cap
  mx : cap ≤ maxLen
section
variable {w w1 : World} {g cap : Nat} {L : List Nat}
theorem RowT.lt (h : RowT w g cap L) : g < w.heap.size := by
  obtain ⟨_, h1, _⟩ := h.ex
  exact (Array.getElem?_eq_some_iff.1 h1).1
theorem RowT.c (h : RowT w g cap L) (i : Nat) (hi : i < L.length) : w.cell? ⟨g, i, none⟩ = some (.int .i64 (L[i]! : Int)) := by
  obtain ⟨cur, h1, _, h3⟩ := h.ex
  have := zsN_at L i hi
  rw [← h3, List.getElem?_take_of_lt (by omega)] at this
  simp only [World.cell?, h1]
  simpa using this
theorem RowT.fz (h : RowT w g cap L) (j : Nat) : w.frozen? ⟨g, j, none⟩ = false := by
  obtain ⟨cur, h1, _⟩ := h.ex
  simp [World.frozen?, h1]
theorem RowT.frame (h : RowT w g cap L) (hb : w1.heap[g]? = w.heap[g]?) : RowT w1 g cap L := by
  obtain ⟨cur, h1, h2⟩ := h.ex
  exact ⟨⟨cur, hb.trans h1, h2⟩, h.le, h.mx⟩
theorem RowT.drew (h : RowT w g cap L) : RowT w.drew g cap L := h.frame rfl
theorem RowT.past (h : RowT w g cap L) (c o : Nat) (hc : g ≠ c) (v : Value) : RowT (w.setCell ⟨c, o, none⟩ v) g cap L := h.frame (Below.heap_setCell _ _ _ _ hc)
theorem RowT.set (h : RowT w g cap L) (k x : Nat) : RowT (w.setCell ⟨g, k, none⟩ (.int .i64 (x : Int))) g cap (L.set k x) := by
  obtain ⟨cur, h1, h2, h3⟩ := h.ex
  refine ⟨⟨_, Joins.block_setCell h1 _, by simpa using h2, ?_⟩, by simpa using h.le, h.mx⟩
  rw [Array.toList_setIfInBounds, List.length_set, List.take_set, h3, zsN_set]
theorem RowT.drop {x : Nat} (h : RowT w g cap (L ++ [x])) : RowT w g cap L := by
  obtain ⟨cur, h1, h2, h3⟩ := h.ex
  have hl := h.le
  rw [List.length_append] at hl
  refine ⟨⟨cur, h1, h2, ?_⟩, by omega, h.mx⟩
  have e := congrArg (List.take L.length) h3
  have hc : cellsI (zsN L) = (cellsI (zsN L) ++ cellsI [(x : Int)]).take L.length := by
    rw [List.take_left' (by rw [cellsI_len, zsN_len])]
  rw [List.take_take, zsN_app, cellsI_app, ← hc, Nat.mul_one, List.length_append, Nat.min_eq_left (by omega)] at e
  rwa [Nat.mul_one]
theorem RowT.own (h : RowT w g cap L) : OwnI w 0 (.slice (some ⟨g, 0, none⟩) L.length cap) (zsN L) := by
  obtain ⟨cur, h1, h2, h3⟩ := h.ex
  unfold OwnI
  rw [zsN_len]
  exact ⟨by rw [cellsI_len, zsN_len, Nat.mul_one], Or.inr ⟨g, cap, cur, rfl, Nat.zero_le _, h1, h.le, h.mx, h2, h3⟩⟩
end
theorem OwnI.row {w : World} {v : Value} {L : List Nat} (h : OwnI w 0 v (zsN L)) (hL : 0 < L.length) : ∃ g cap, v = .slice (some ⟨g, 0, none⟩) L.length cap ∧ RowT w g cap L := by
  unfold OwnI at h
  rw [zsN_len] at h
  obtain ⟨_, ⟨_, hn⟩ | ⟨g, cap, cur, hv, _, hg, hcap, hm, hs, hc⟩⟩ := h
  · omega
  · exact ⟨g, cap, hv, ⟨cur, hg, hs, hc⟩, hcap, hm⟩
theorem OwnI.frame {w w1 : World} {base : Nat} {v : Value} {l : List Int} (h : OwnI w base v l) (hb : ∀ g, v.ownBlock = some g → g < w.heap.size → w1.heap[g]? = w.heap[g]?) : OwnI w1 base v l := by
  obtain ⟨h1, h2⟩ := h
  refine ⟨h1, ?_⟩
  rcases h2 with h2 | ⟨g, cap, cur, hv, hg0, hg, rest⟩
  · exact Or.inl h2
  · exact Or.inr ⟨g, cap, cur, hv, hg0, by rw [hb g (by rw [hv]; rfl) (Array.getElem?_eq_some_iff.1 hg).1]; exact hg, rest⟩
theorem OwnI.len {w : World} {base : Nat} {v : Value} {L : List Nat} (h : OwnI w base v (zsN L)) : ∃ p c, v = .slice p L.length c ∧ L.length ≤ c := by
  unfold OwnI at h
  rw [zsN_len] at h
  obtain ⟨_, ⟨hv, hn⟩ | ⟨g, cap, cur, hv, _, hg, hcap, _⟩⟩ := h
  · rw [hn]; exact ⟨none, 0, hv, Nat.le_refl _⟩
  · exact ⟨_, cap, hv, hcap⟩
theorem Vec.stay {w w1 : World} {S : Nat → Prop} {g n : Nat} {d : Nat → Int} (h : Vec w g n d) (hk : Keep S w w1) (hs : ¬ S g) : Vec w1 g n d := by
  have hb := hk.block g h.lt hs
  exact ⟨Nat.lt_of_lt_of_le h.lt hk.size, fun i hi => (World.cell?_of_block (w := w) (a := ⟨g, i, none⟩) hb).trans (h.c i hi), fun i => (World.frozen?_of_block (w := w) (a := ⟨g, i, none⟩) hb).trans (h.f i)⟩
theorem Vec.past {w : World} {g n : Nat} {d : Nat → Int} (h : Vec w g n d) (c o : Nat) (hc : g ≠ c) (v : Value) : Vec (w.setCell ⟨c, o, none⟩ v) g n d :=
  h.stay (Keep.setCell (fun b => b = c) w c o v rfl) hc

/-- THE HEAP: the block q holds three slices: the things tv, in their order L; the block p their places; the block k their keys. -/
structure Hp (w : World) (q : Nat) (tv : Value) (p k n : Nat) (ky : Nat → Int) (L : List Nat) : Prop where
  c0 : w.cell? ⟨q, 0, none⟩ = some tv
  c1 : w.cell? ⟨q, 1, none⟩ = some (.slice (some ⟨p, 0, none⟩) n n)
  c2 : w.cell? ⟨q, 2, none⟩ = some (.slice (some ⟨k, 0, none⟩) n n)
  fz : ∀ o, w.frozen? ⟨q, o, none⟩ = false
  lq : q < w.heap.size
  own : OwnI w 0 tv (zsN L)
  pl : ∃ f, Vec w p n f ∧ Pl f L n
  kys : Vec w k n ky
  qp : p ≠ q
  qk : k ≠ q
  pk : k ≠ p
  out : ∀ g, tv.ownBlock = some g → g ≠ q ∧ g ≠ p ∧ g ≠ k
  bd : ∀ a ∈ L, a < n
  mx : n ≤ 5000
/-- What a call that turns a heap may turn. -/
def InH (q : Nat) (tv : Value) (p k : Nat) : Nat → Prop := fun b => b = q ∨ b = p ∨ b = k ∨ tv.ownBlock = some b
section
variable {w w1 : World} {q p k n : Nat} {tv : Value} {ky : Nat → Int} {L : List Nat}
theorem Hp.nodup (h : Hp w q tv p k n ky L) : L.Nodup := by obtain ⟨f, _, hp⟩ := h.pl; exact hp.nodup
theorem Hp.len (h : Hp w q tv p k n ky L) : L.length ≤ n := bd_len h.nodup h.bd
theorem Hp.th (h : Hp w q tv p k n ky L) (hL : 0 < L.length) : ∃ g cap, tv = .slice (some ⟨g, 0, none⟩) L.length cap ∧ RowT w g cap L ∧ g ≠ q ∧ g ≠ p ∧ g ≠ k := by
  obtain ⟨g, cap, hv, hr⟩ := h.own.row hL
  obtain ⟨h1, h2, h3⟩ := h.out g (by rw [hv]; rfl)
  exact ⟨g, cap, hv, hr, h1, h2, h3⟩
theorem Hp.keep {S : Nat → Prop} (h : Hp w q tv p k n ky L) (hk : Keep S w w1) (hs : ∀ b, InH q tv p k b → ¬ S b) : Hp w1 q tv p k n ky L := by
  have hb := hk.block q h.lq (hs q (Or.inl rfl))
  obtain ⟨f, hv, hp⟩ := h.pl
  exact ⟨(World.cell?_of_block (w := w) (a := ⟨q, 0, none⟩) hb).trans h.c0, (World.cell?_of_block (w := w) (a := ⟨q, 1, none⟩) hb).trans h.c1, (World.cell?_of_block (w := w) (a := ⟨q, 2, none⟩) hb).trans h.c2,
    fun o => (World.frozen?_of_block (w := w) (a := ⟨q, o, none⟩) hb).trans (h.fz o), Nat.lt_of_lt_of_le h.lq hk.size,
    h.own.frame fun g hg hlt => hk.block g hlt (hs g (Or.inr (Or.inr (Or.inr hg)))), ⟨f, hv.stay hk (hs p (Or.inr (Or.inl rfl))), hp⟩, h.kys.stay hk (hs k (Or.inr (Or.inr (Or.inl rfl)))), h.qp, h.qk, h.pk, h.out, h.bd, h.mx⟩
theorem Hp.below (h : Hp w q tv p k n ky L) (hb : Below w.heap.size w w1) : Hp w1 q tv p k n ky L :=
  h.keep (S := fun _ => False) (Keep.of hb) (fun _ _ e => e)
theorem Hp.drew (h : Hp w q tv p k n ky L) : Hp w.drew q tv p k n ky L := h.below (Below.refl _ _).drew
theorem Hp.keys (h : Hp w q tv p k n ky L) {ky' : Nat → Int} (e : ∀ i, i < n → ky i = ky' i) : Hp w q tv p k n ky' L :=
  ⟨h.c0, h.c1, h.c2, h.fz, h.lq, h.own, h.pl, h.kys.congr e, h.qp, h.qk, h.pk, h.out, h.bd, h.mx⟩
/-- Its blocks lie in memory. -/
theorem Hp.lt (h : Hp w q tv p k n ky L) {b : Nat} (hb : InH q tv p k b) : b < w.heap.size := by
  obtain ⟨f, hv, _⟩ := h.pl
  rcases hb with rfl | rfl | rfl | hb
  · exact h.lq
  · exact hv.lt
  · exact h.kys.lt
  · have h2 := h.own
    obtain ⟨_, ⟨hv, _⟩ | ⟨g, cap, cur, hv, _, hg, _⟩⟩ := h2
    · rw [hv] at hb; cases hb
    · rw [hv] at hb
      obtain rfl : g = b := Option.some.inj hb
      exact (Array.getElem?_eq_some_iff.1 hg).1
end
end Go.Proofs.YtmfajaalbklfeaaDoor
