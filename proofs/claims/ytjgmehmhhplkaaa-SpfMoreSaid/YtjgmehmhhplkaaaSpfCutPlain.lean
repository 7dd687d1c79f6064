/-
  PLAIN FACTS on how far nodes are with a link less, with a link more.
-/
import Derived.Test.YtjgmehmhhplkaaaSpfPlain
namespace Go.Proofs.Ytjgmehmhhplkaaa
open Go.RowKit

namespace SpfP
open BellP (Cost far ct)
theorem less_has {l : List Lk} {x : Lk} (hx : x ∈ l) : (less l x.1 x.2.1).length ≠ l.length := by
  intro e
  unfold less at e
  have := List.filter_eq_self.1 (List.filter_sublist.eq_of_length e) x hx
  simp [bond] at this
theorem cut_ct {n : Int} {l : List Lk} (h : Right n l) {x : Lk} (hx : x ∈ l) (i j : Nat) : ct (less l x.1 x.2.1) i j = if ((i : Int) = x.1 ∧ (j : Int) = x.2.1) ∨ ((i : Int) = x.2.1 ∧ (j : Int) = x.1) then 16 else ct l i j := by
  unfold ct
  rw [cost_less h x.1 x.2.1 (less_has hx) i j]
  split <;> rfl
/-- With a link less none is nearer. -/
theorem cut_le {m : Nat} {l : List Lk} (h : Right m l) {x : Lk} (hx : x ∈ l) {t : Nat} (ht : t < m) (b : Nat) (hb : b < m) : far m (ct l) t b ≤ far m (ct (less l x.1 x.2.1)) t b := by
  have hC := BellP.ct_cost h
  refine far_mono (BellP.ct_cost (right_less h x.1 x.2.1)) hC (fun i j _ _ => ?_) ht b hb
  rw [cut_ct h hx]
  split
  · exact hC.bd i j
  · exact Nat.le_refl _
/-- The one by whom it is reached is cut off: it is farther. -/
theorem cut_more {m : Nat} {l : List Lk} (h : Right m l) {x : Lk} (hx : x ∈ l) {t : Nat} (ht : t < m) (b : Nat) (hb : b < m) (hbt : b ≠ t) (hd : far m (ct l) t b < 16) (u : Int) (hu : ups m (ct l) t b = [u]) (hp : (u = x.1 ∧ (b : Int) = x.2.1) ∨ (u = x.2.1 ∧ (b : Int) = x.1)) : far m (ct l) t b < far m (ct (less l x.1 x.2.1)) t b := by
  have hC := BellP.ct_cost h
  have hC' := BellP.ct_cost (right_less h x.1 x.2.1)
  have h1 := cut_le h hx ht b hb
  rcases far_by hC' ht b hb hbt with h2 | ⟨j, h2, h3, h4⟩
  · omega
  · by_cases e : far m (ct (less l x.1 x.2.1)) t b ≤ far m (ct l) t b
    · exfalso
      have h5 := cut_le h hx ht j h2
      have h6 := BellP.far_step hC ht b j hb h2
      have h7 := cut_ct h hx b j
      split at h7
      · omega
      · rename_i h8
        have h9 : (j : Int) ∈ ups m (ct l) t b := (mem_upsTo m (ct l) t b j m).2 ⟨j, h2, rfl, (isUp_iff m (ct l) t b j).2 ⟨h3, hd, by omega⟩⟩
        rw [hu, List.mem_singleton] at h9
        subst h9
        rcases hp with ⟨p1, p2⟩ | ⟨p1, p2⟩
        · exact h8 (Or.inr ⟨p2, p1⟩)
        · exact h8 (Or.inl ⟨p2, p1⟩)
    · omega
/-- With a link more none is farther. -/
theorem more_le {m : Nat} {l : List Lk} {x : Lk} (h : Right m l) (h' : Right m (l ++ [x])) {t : Nat} (ht : t < m) (b : Nat) (hb : b < m) : far m (ct (l ++ [x])) t b ≤ far m (ct l) t b := by
  refine far_mono (BellP.ct_cost h) (BellP.ct_cost h') (fun i j _ _ => ?_) ht b hb
  have h1 := costG_more m l x h' i j
  have h2 := BellP.ct_int h i j
  have h3 := BellP.ct_int h' i j
  rw [h1] at h3
  split at h3
  · rename_i hb
    have h0 : linkBad m x = 0 := h'.1 x (by simp)
    have h4 := (linkBad_zero m x).1 h0
    have h5 : costG l i j = 16 := by
      rcases costG_is m l h i j with ⟨e, _⟩ | ⟨_, e, _⟩ | ⟨_, y, hy, hyb, _⟩
      · rcases (tie_iff _ _ _).1 hb with ⟨e1, e2⟩ | ⟨e1, e2⟩ <;> omega
      · exact e
      · exfalso
        have h6 := right_one h' (x := x) (y := y) (by simp) (by simp [hy]) hb hyb
        subst h6
        have h7 := (List.pairwise_append.1 h'.2).2.2 x hy x (by simp)
        simp [bond] at h7
    omega
  · omega
/-- By the link that is more each end is no farther than its cost from the other one. -/
theorem more_step {m : Nat} {l : List Lk} {x : Lk} (h' : Right m (l ++ [x])) {t : Nat} (ht : t < m) : ∃ a b c : Nat, x = ((a : Int), (b : Int), (c : Int)) ∧ a < m ∧ b < m ∧ c ≤ 15 ∧ far m (ct (l ++ [x])) t a ≤ far m (ct (l ++ [x])) t b + c ∧ far m (ct (l ++ [x])) t b ≤ far m (ct (l ++ [x])) t a + c := by
  have h0 : linkBad m x = 0 := h'.1 x (by simp)
  obtain ⟨p, q, r⟩ := x
  have h4 : 0 ≤ p ∧ p < m ∧ 0 ≤ q ∧ q < m ∧ 1 ≤ r ∧ r ≤ 15 ∧ p ≠ q := (linkBad_zero m _).1 h0
  obtain ⟨a, rfl⟩ : ∃ a : Nat, p = a := ⟨p.toNat, by omega⟩
  obtain ⟨b, rfl⟩ : ∃ b : Nat, q = b := ⟨q.toNat, by omega⟩
  obtain ⟨c, rfl⟩ : ∃ c : Nat, r = c := ⟨r.toNat, by omega⟩
  have hC := BellP.ct_cost h'
  have h1 : costG (l ++ [((a : Int), (b : Int), (c : Int))]) a b = c := by rw [costG_more m l _ h' a b, if_pos (by simp [bond])]
  have h2 := BellP.ct_int h' a b
  have h3 := BellP.far_step hC ht a b (by omega) (by omega)
  have h5 := BellP.far_step hC ht b a (by omega) (by omega)
  have h6 := ct_sym (l ++ [((a : Int), (b : Int), (c : Int))]) a b
  exact ⟨a, b, c, rfl, by omega, by omega, by omega, by omega, by omega⟩
end SpfP
end Go.Proofs.Ytjgmehmhhplkaaa
