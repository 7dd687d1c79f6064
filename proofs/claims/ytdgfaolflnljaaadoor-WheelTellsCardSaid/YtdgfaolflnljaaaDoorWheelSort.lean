/-
  slices.SortFunc on a list of due ids: by due time, then by id.
-/
import Derived.Test.YtdgfaolflnljaaaDoorWheelCmp
import Derived.Test.YtdgfaolflnljaaaDoorWheelTake
import Derived.Shelf.SlSortCmp.NoneTotal
namespace Go.Proofs.YtdgfaolflnljaaaDoor
open Go.RowKit Go.Lib Go.Sort WheelP

namespace WheelP
/-- One is told ahead of another one. -/
def ltD (x y : Du) : Prop := x.2 < y.2 ∨ (x.2 = y.2 ∧ x.1 < y.1)
instance : DecidableRel ltD := fun x y => by unfold ltD; infer_instance
theorem ltD_irrefl (x : Du) : ¬ ltD x x := by unfold ltD; omega
theorem ltD_trans {x y z : Du} (h : ltD x y) (k : ltD y z) : ltD x z := by unfold ltD at *; omega
theorem ltD_tot {x y : Du} (h : ¬ ltD x y) (k : ¬ ltD y x) : x = y := by unfold ltD at *; exact Prod.ext (by omega) (by omega)
/-- Two lists in their order with the same members are one. -/
theorem one_list : ∀ {l m : List Du}, l.Pairwise ltD → m.Pairwise ltD → (∀ p, p ∈ l ↔ p ∈ m) → l = m
  | [], [], _, _, _ => rfl
  | [], b :: s, _, _, h => by have := (h b).2 (by simp); simp at this
  | a :: r, [], _, _, h => by have := (h a).1 (by simp); simp at this
  | a :: r, b :: s, h1, h2, h => by
    obtain ⟨a1, a2⟩ := List.pairwise_cons.1 h1
    obtain ⟨b1, b2⟩ := List.pairwise_cons.1 h2
    have hab : a = b := by
      rcases List.mem_cons.1 ((h a).1 (by simp)) with e | ha
      · exact e
      · rcases List.mem_cons.1 ((h b).2 (by simp)) with e | hb
        · exact e.symm
        · exact absurd (ltD_trans (a1 b hb) (b1 a ha)) (ltD_irrefl a)
    subst hab
    rw [one_list a2 b2 (fun p => ⟨fun hp => by
      rcases List.mem_cons.1 ((h p).1 (by simp [hp])) with e | hp'
      · exact absurd (e ▸ a1 p hp) (ltD_irrefl _)
      · exact hp', fun hp => by
      rcases List.mem_cons.1 ((h p).2 (by simp [hp])) with e | hp'
      · exact absurd (e ▸ b1 p hp) (ltD_irrefl _)
      · exact hp'⟩)]
end WheelP

theorem lt_is (x y : Du) : ltOf cmpD x y = decide (ltD x y) := by
  unfold ltOf cmpD or2 Lib.compareInt
  rw [Bool.eq_iff_iff, decide_eq_true_eq, decide_eq_true_eq]
  unfold ltD
  rcases Nat.lt_trichotomy x.2 y.2 with h | h | h
  · rw [if_pos (show (x.2 : Int) < y.2 by omega)]
    simp
    omega
  · rw [if_neg (show ¬ (x.2 : Int) < y.2 by omega), if_neg (show ¬ (y.2 : Int) < x.2 by omega), if_pos rfl]
    rcases Nat.lt_trichotomy x.1 y.1 with h1 | h1 | h1
    · rw [if_pos (show (x.1 : Int) < y.1 by omega)]; simp; omega
    · rw [if_neg (show ¬ (x.1 : Int) < y.1 by omega), if_neg (show ¬ (y.1 : Int) < x.1 by omega)]; simp; omega
    · rw [if_neg (show ¬ (x.1 : Int) < y.1 by omega), if_pos (show (y.1 : Int) < x.1 by omega)]; simp; omega
  · rw [if_neg (show ¬ (x.2 : Int) < y.2 by omega), if_pos (show (y.2 : Int) < x.2 by omega)]
    simp
    omega
theorem swo_D : SWO (ltOf cmpD) where
  irrefl x := by rw [lt_is]; simpa using ltD_irrefl x
  trans x y z h1 h2 := by
    rw [lt_is, decide_eq_true_eq] at *
    exact ltD_trans h1 h2
  ntrans x y z h1 h2 := by
    rw [lt_is, decide_eq_false_iff_not] at *
    unfold ltD at *
    omega

theorem flat_D (d : Array Du) : (flatK encD 2 d).toList = cellsD d.toList := by
  apply List.ext_getElem?
  intro j
  by_cases hj : j < d.size * 2
  · have h1 : (flatK encD 2 d).toList[j]? = some ((flatK encD 2 d)[j]!) := by
      rw [Array.getElem?_toList, getElem!_pos _ j (by rw [size_flatK]; exact hj), Array.getElem?_eq_getElem]
    rw [h1, get_flatK _ _ _ _ hj]
    clear h1
    obtain ⟨i, hi⟩ : ∃ i, j = i * 2 ∨ j = i * 2 + 1 := ⟨j / 2, by omega⟩
    have hi3 : i < d.size := by omega
    have h2 : i < d.toList.length := by rw [Array.length_toList]; exact hi3
    obtain ⟨c0, c1⟩ := cellsD_at d.toList i h2
    have hd : d.toList[i]! = d[i]! := by
      rw [getElem!_pos d.toList i h2, getElem!_pos d i hi3, Array.getElem_toList]
    rw [hd] at c0 c1
    rcases hi with rfl | rfl
    · rw [c0, show i * 2 % 2 = 0 by omega, show i * 2 / 2 = i by omega]
      rfl
    · rw [c1, show (i * 2 + 1) % 2 = 1 by omega, show (i * 2 + 1) / 2 = i by omega]
      rfl
  · rw [List.getElem?_eq_none (by rw [Array.length_toList, size_flatK]; omega), List.getElem?_eq_none (by rw [cellsD_len, Array.length_toList]; omega)]
theorem holds_D {w : World} {g : Nat} {cur : Array Value} {e : TypeId} {L : List Du} (hb : w.heap[g]? = some (.cells cur e (0, 0))) (ht : cur.toList.take (L.length * 2) = cellsD L) : HoldsK encD 2 w g 0 L.toArray := by
  intro j hj
  rw [size_flatK, List.size_toArray] at hj
  refine ⟨?_, by simp [World.frozen?, hb]⟩
  have h1 : (cellsD L)[j]? = some ((flatK encD 2 L.toArray)[j]!) := by
    have := flat_D L.toArray
    simp only at this
    rw [← this, Array.getElem?_toList, getElem!_pos _ j (by rw [size_flatK, List.size_toArray]; exact hj), Array.getElem?_eq_getElem]
  rw [← ht, List.getElem?_take_of_lt hj] at h1
  simp only [World.cell?, hb, Nat.zero_add, id]
  simpa using h1
theorem heap_sortedK {w : World} {g n : Nat} {os : Array Obj} {cur : Array Value} {e : TypeId} {fr : Nat × Nat} (d : Array Du) (hb : w.heap[g]? = some (.cells cur e fr)) :
    (sortWorldK encD 2 w g 0 n d os).heap[g]? = some (.cells (putCells id 0 (flatK encD 2 d) cur) e fr) := by
  have hg : g < w.heap.size := (Array.getElem?_eq_some_iff.1 hb).1
  unfold sortWorldK
  rw [heap_grow_old _ _ (by unfold putRowK; rw [size_putRow]; exact hg)]
  simp [putRowK, putRow, mapBlock, Sort.ahead, Array.getElem?_modify, hb, onCells]
theorem keep_sortedK {w : World} {g n : Nat} {os : Array Obj} (d : Array Du) : Keep (fun x => x = g) w (sortWorldK encD 2 w g 0 n d os) := by
  unfold sortWorldK
  refine ⟨rfl, rfl, rfl, by rw [size_grow]; unfold putRowK; rw [size_putRow]; exact Nat.le_add_right _ _, fun k hk hne => ?_⟩
  rw [heap_grow_old _ _ (by unfold putRowK; rw [size_putRow]; exact hk)]
  have : g ≠ k := fun e => hne e.symm
  simp [putRowK, putRow, mapBlock, Sort.ahead, Array.getElem?_modify, this]
theorem own_sortedK {w : World} {base g cap n : Nat} {os : Array Obj} {cur : Array Value} {L : List Du} (d : Array Du) (hl : d.size = L.length) (hbase : base ≤ g) (hb : w.heap[g]? = some (.cells cur 52 (0, 0)))
    (h1 : L.length ≤ cap) (h2 : cap ≤ maxLen) (h3 : cur.size = cap * 2) : OwnD (sortWorldK encD 2 w g 0 n d os) base (.slice (some ⟨g, 0, none⟩) L.length cap) d.toList := by
  have hl' : d.toList.length = L.length := by rw [Array.length_toList]; exact hl
  refine ⟨by rw [cellsD_len], .inr ⟨g, cap, _, by rw [hl'], hbase, heap_sortedK d hb, by rw [hl']; exact h1, h2, by simp [putCells, h3], ?_⟩⟩
  rw [← flat_D]
  apply List.ext_getElem?
  intro j
  by_cases hj : j < d.toList.length * 2
  · have hj2 : j < d.size * 2 := by simpa using hj
    rw [List.getElem?_take_of_lt hj, Array.getElem?_toList, Array.getElem?_toList]
    have hc : j < cur.size := by rw [h3]; omega
    simp [putCells, hj2, hc]
  · rw [List.getElem?_take_eq_none (by omega), List.getElem?_eq_none (by rw [Array.length_toList, size_flatK]; simp at hj; omega)]

theorem isAgg_D (w : World) : (isAgg 52).run Tryd.prog w = .ok true w := Tryd.isAgg52 w
theorem size_D (w : World) : (Go.sizeOf 52).run Tryd.prog w = .ok 2 w := Tryd.sizeOf52 w
set_option maxRecDepth 100000 in
/-- The list sorted. -/
theorem sort_any (w : World) (base : Nat) (v : Value) (L : List Du) (h : OwnD w base v L) (hn : L.Nodup) (hsz : L.length ≤ 64) :
    Calls Tryd.prog 20 #[v, .func (.func 21) #[] #[]] w fun e w' => e = .returned (.tuple #[]) ∧ ∃ L' : List Du, L'.Perm L ∧ L'.Pairwise ltD ∧ OwnD w' base v L' ∧ Keep (fun x => v.ownBlock = some x) w w' := by
  by_cases hL : L = []
  · subst hL
    have hv : ∃ p c, v = .slice p 0 c := by
      obtain ⟨_, ⟨hv, _⟩ | ⟨g, cap, cur, hv, _⟩⟩ := id h
      · exact ⟨none, 0, hv⟩
      · exact ⟨_, cap, hv⟩
    obtain ⟨p, c, rfl⟩ := hv
    refine (AnyF.slices_SortFunc_none Tryd.sortT p c _ w).mono ?_
    rintro e w' ⟨rfl, rfl⟩
    exact ⟨rfl, [], List.Perm.refl _, List.Pairwise.nil, h, Keep.refl _ _⟩
  · obtain ⟨h1, ⟨_, hl⟩ | ⟨g, cap, cur, rfl, hg0, hg, hcap, hmx, hcs, ht⟩⟩ := id h
    · exact absurd (List.length_eq_zero_iff.1 hl) hL
    · have eg : ∀ args w, (callFunc 21 args).run Tryd.prog w = .ok (.enter 21 args) w := enters_of Tryd.func21 (by kernel_rfl) rfl
      have hS := AnyQ.slices_SortFunc Tryd.sortT 2 isAgg_D size_D encD (fun _ => rfl) (fun x u hu => by simp [encD, Du.v0, Du.v1] at hu; rcases hu with rfl | rfl <;> rfl) cmpD swo_D 21 #[] g 0 cap L.toArray w eg
        (fun _ _ _ _ x y => compare_any x y _) (holds_D hg ht) (Array.getElem?_eq_some_iff.1 hg).1 (by rw [List.size_toArray]; omega)
      rw [List.size_toArray] at hS
      refine hS.mono ?_
      rintro e w' ⟨rfl, d', n, os, ⟨hp1, _, hp3⟩, hso, rfl⟩
      have hp1 : d'.size = L.length := by simpa using hp1
      have hperm : d'.toList.Perm L := by
        have e1 : d'.extract 0 L.length = d' := by rw [← hp1]; exact Array.extract_size
        have e2 : L.toArray.extract 0 L.length = L.toArray := by
          have := Array.extract_size (xs := L.toArray)
          rwa [List.size_toArray] at this
        rw [e1, e2] at hp3
        simpa using hp3
      refine ⟨rfl, d'.toList, hperm, ?_, own_sortedK d' hp1 hg0 hg hcap hmx hcs, (keep_sortedK d').mono fun x hx => by rw [hx]; rfl⟩
      have hnd : d'.toList.Nodup := hperm.nodup_iff.2 hn
      rw [List.pairwise_iff_getElem]
      intro i j hi hj hij
      have hi' : i < d'.size := by simpa using hi
      have hj' : j < d'.size := by simpa using hj
      have hlt := hso i j (Nat.zero_le _) hij (by omega)
      rw [lt_is, decide_eq_false_iff_not, getElem!_pos d' i hi', getElem!_pos d' j hj'] at hlt
      rw [Array.getElem_toList, Array.getElem_toList]
      by_cases hc : ltD d'[i] d'[j]
      · exact hc
      · have := ltD_tot hc hlt
        have hne := List.pairwise_iff_getElem.1 hnd i j hi hj hij
        rw [Array.getElem_toList, Array.getElem_toList] at hne
        exact absurd this hne
end Go.Proofs.YtdgfaolflnljaaaDoor
