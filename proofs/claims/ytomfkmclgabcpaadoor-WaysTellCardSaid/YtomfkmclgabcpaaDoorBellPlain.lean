/-
  PLAIN FACTS on rounds: what nodes think of one node, round by round; what stays; how many rounds there are; no way is shorter.
-/
import Derived.Test.YtomfkmclgabcpaaDoorMatPlain
import Derived.Test.YtomfkmclgabcpaaDoorRowsTo
import Derived.Test.YtomfkmclgabcpaaDoorGraphPlain
namespace Go.Proofs.YtomfkmclgabcpaaDoor
open Go.RowKit

namespace BellP
open MatP (T Bd one pw mul wl en)
/-- Costs between nodes: none of a node to itself, at least 1 else. -/
structure Cost (C : T) : Prop where
  bd : Bd C
  dg : ∀ i, C i i = 0
  off : ∀ i j, i ≠ j → 1 ≤ C i j
/-- The least sum over the first nodes but one's own. -/
def est (C : T) (i : Nat) (d : Nat → Nat) : Nat → Nat
  | 0 => 16
  | m + 1 => if m = i then est C i d m else DistP.least (est C i d m) (DistP.add (C i m) (d m))
def rd (n : Nat) (C : T) (to : Nat) (d : Nat → Nat) : Nat → Nat := fun i => if i = to then 0 else est C i d n
def st (to : Nat) : Nat → Nat := fun i => if i = to then 0 else 16
def it (n : Nat) (C : T) (to : Nat) (d : Nat → Nat) : Nat → Nat → Nat
  | 0 => d
  | r + 1 => rd n C to (it n C to d r)
/-- What they think in the end. -/
def far (n : Nat) (C : T) (to : Nat) : Nat → Nat := it n C to (st to) n
def vec (n : Nat) (d : Nat → Nat) : List Int := rowTo n fun i => (d i : Int)
theorem vec_len (n : Nat) (d : Nat → Nat) : (vec n d).length = n := rowTo_len _ _
theorem vec_at (n : Nat) (d : Nat → Nat) (i : Nat) (h : i < n) : (vec n d)[i]! = (d i : Int) := by
  rw [getElem!_pos _ i (by rw [vec_len]; exact h)]; simp [vec, rowTo]
theorem vec_more (n : Nat) (d : Nat → Nat) : vec (n + 1) d = vec n d ++ [(d n : Int)] := rowTo_more _ _
theorem vec_congr {n : Nat} {d d' : Nat → Nat} (h : ∀ i, i < n → d i = d' i) : vec n d = vec n d' := by
  unfold vec rowTo
  exact List.map_congr_left fun i hi => by rw [h i (List.mem_range.1 hi)]
theorem vec_inj {n : Nat} {d d' : Nat → Nat} (h : vec n d = vec n d') (i : Nat) (hi : i < n) : d i = d' i := by
  have h1 := vec_at n d i hi
  rw [h, vec_at n d' i hi] at h1
  omega
theorem est_bd (C : T) (i : Nat) (d : Nat → Nat) : ∀ m, est C i d m ≤ 16
  | 0 => Nat.le_refl _
  | m + 1 => by
    have := est_bd C i d m
    rw [est]; split
    · exact this
    · rw [MatP.least_eq]; omega
theorem est_own (C : T) (i : Nat) (d : Nat → Nat) : est C i d (i + 1) = est C i d i := by rw [est, if_pos rfl]
theorem est_other (C : T) (i : Nat) (d : Nat → Nat) (m : Nat) (h : m ≠ i) : est C i d (m + 1) = DistP.least (est C i d m) (DistP.add (C i m) (d m)) := by rw [est, if_neg h]
theorem rd_bd (n : Nat) (C : T) (to : Nat) (d : Nat → Nat) (i : Nat) : rd n C to d i ≤ 16 := by
  unfold rd; split
  · omega
  · exact est_bd _ _ _ _
theorem st_bd (to i : Nat) : st to i ≤ 16 := by unfold st; split <;> omega
theorem it_bd (n : Nat) (C : T) (to : Nat) {d : Nat → Nat} (h : ∀ i, d i ≤ 16) : ∀ r i, it n C to d r i ≤ 16
  | 0, i => h i
  | _ + 1, i => rd_bd _ _ _ _ i
theorem far_bd (n : Nat) (C : T) (to i : Nat) : far n C to i ≤ 16 := it_bd n C to (st_bd to) n i
theorem est_le (C : T) (i : Nat) (d : Nat → Nat) : ∀ m j, j < m → j ≠ i → est C i d m ≤ C i j + d j
  | 0, j, h, _ => by omega
  | m + 1, j, h, hj => by
    rw [est]
    by_cases e : m = i
    · rw [if_pos e]; exact est_le C i d m j (by omega) hj
    · rw [if_neg e, MatP.least_eq, MatP.add_eq]
      by_cases e2 : j = m
      · subst e2; omega
      · have := est_le C i d m j (by omega) hj
        omega
theorem est_at (C : T) (i : Nat) (d : Nat → Nat) : ∀ m, est C i d m = 16 ∨ ∃ j, j < m ∧ j ≠ i ∧ est C i d m = C i j + d j
  | 0 => Or.inl rfl
  | m + 1 => by
    have hb := est_bd C i d m
    rw [est]
    by_cases e : m = i
    · rw [if_pos e]
      rcases est_at C i d m with h | ⟨j, h1, h2, h3⟩
      · exact Or.inl h
      · exact Or.inr ⟨j, by omega, h2, h3⟩
    · rw [if_neg e, MatP.least_eq, MatP.add_eq]
      by_cases e2 : est C i d m ≤ C i m + d m
      · rcases est_at C i d m with h | ⟨j, h1, h2, h3⟩
        · left; omega
        · right; exact ⟨j, by omega, h2, by omega⟩
      · right; exact ⟨m, by omega, e, by omega⟩
theorem est_mono (C : T) (i : Nat) {d d' : Nat → Nat} : ∀ m, (∀ j, j < m → d j ≤ d' j) → est C i d m ≤ est C i d' m
  | 0, _ => Nat.le_refl _
  | m + 1, h => by
    have h1 := est_mono C i m (fun j hj => h j (by omega))
    have h2 := h m (by omega)
    simp only [est, MatP.least_eq, MatP.add_eq]
    split
    · exact h1
    · omega
theorem est_congr (C : T) (i : Nat) {d d' : Nat → Nat} (m : Nat) (h : ∀ j, j < m → d j = d' j) : est C i d m = est C i d' m :=
  Nat.le_antisymm (est_mono C i m fun j hj => by rw [h j hj]; exact Nat.le_refl _) (est_mono C i m fun j hj => by rw [h j hj]; exact Nat.le_refl _)
theorem est_cost {C C' : T} (i : Nat) (d : Nat → Nat) : ∀ m, (∀ j, j < m → C i j = C' i j) → est C i d m = est C' i d m
  | 0, _ => rfl
  | m + 1, h => by
    rw [est, est, est_cost i d m (fun j hj => h j (by omega)), h m (by omega)]
theorem rd_mono (n : Nat) (C : T) (to : Nat) {d d' : Nat → Nat} (h : ∀ j, j < n → d j ≤ d' j) (i : Nat) : rd n C to d i ≤ rd n C to d' i := by
  unfold rd; split
  · exact Nat.le_refl _
  · exact est_mono C i n h
theorem rd_congr (n : Nat) (C : T) (to : Nat) {d d' : Nat → Nat} (h : ∀ j, j < n → d j = d' j) (i : Nat) : rd n C to d i = rd n C to d' i := by
  unfold rd; split
  · rfl
  · exact est_congr C i n h
/-- From the beginning on none is farther behind a round. -/
theorem it_fall (n : Nat) (C : T) (to : Nat) : ∀ r i, it n C to (st to) (r + 1) i ≤ it n C to (st to) r i
  | 0, i => by
    show rd n C to (st to) i ≤ st to i
    by_cases e : i = to
    · unfold rd; rw [if_pos e]; omega
    · have := rd_bd n C to (st to) i
      unfold st; rw [if_neg e]; exact this
  | r + 1, i => rd_mono n C to (fun j _ => it_fall n C to r j) i
theorem pw_left {n : Nat} {A : T} (hA : Bd A) : ∀ m i k, i < n → k < n → pw n A (m + 1) i k = mul n A (pw n A m) i k
  | 0, i, k, hi, hk => by
    show mul n one A i k = mul n A one i k
    rw [MatP.one_mul hA i k hi, MatP.mul_one hA i k hk]
  | m + 1, i, k, hi, hk => by
    show mul n (pw n A (m + 1)) A i k = mul n A (mul n (pw n A m) A) i k
    rw [← MatP.mul_assoc]
    exact MatP.mul_congr (fun i j hi hj => pw_left hA m i j hi hj) (fun _ _ _ _ => rfl) i k hi hk
/-- So many rounds, so many steps. -/
theorem it_pw {n : Nat} {C : T} (hC : Cost C) {to : Nat} (ht : to < n) : ∀ r i, i < n → it n C to (st to) r i = pw n C r i to
  | 0, i, _ => rfl
  | r + 1, i, hi => by
    have ih := it_pw hC ht r
    by_cases e : i = to
    · have h1 : it n C to (st to) (r + 1) i = 0 := if_pos e
      have h2 := MatP.pw_drop (n := n) (A := C) (fun i _ => hC.dg i) i to ht 0 (r + 1)
      have h3 : pw n C 0 i to = 0 := by rw [e]; exact MatP.one_dg to
      rw [Nat.zero_add] at h2
      omega
    · rw [pw_left hC.bd r i to hi ht]
      have h1 : it n C to (st to) (r + 1) i = est C i (it n C to (st to) r) n := if_neg e
      apply Nat.le_antisymm
      · rcases MatP.mul_at n C (pw n C r) i to with h | ⟨j, hj, h⟩
        · rw [h, h1]; exact est_bd _ _ _ _
        · rw [h, ← ih j hj]
          by_cases ej : j = i
          · subst ej
            have := it_fall n C to r j
            omega
          · rw [h1]; exact est_le C i _ n j hj ej
      · rw [h1]
        rcases est_at C i (it n C to (st to) r) n with h | ⟨j, hj, _, h⟩
        · rw [h]; exact MatP.mul_bd _ _ _ _ _
        · rw [h, ih j hj]; exact MatP.mul_le C (pw n C r) hj
theorem pw_enough {n : Nat} {A : T} (hd : ∀ i, A i i = 0) (i k : Nat) (hi : i < n) (hk : k < n) : pw n A (n - 1) i k = pw n A n i k := by
  have hdr := MatP.pw_drop (n := n) (A := A) (fun i _ => hd i) i k hk
  apply Nat.le_antisymm
  · rcases MatP.pw_at n A n i k hi hk with h | ⟨l, h1, h2, h3, h4⟩
    · rw [h]; exact MatP.pw_bd n A _ i k
    · obtain ⟨m, m1, m2, m3, m4⟩ := MatP.short A n _ l i (Nat.le_refl _) hi h2
      have g1 := MatP.pw_le n A m.length m i rfl hi m4
      rw [m2, h3] at g1
      have g2 := hdr m.length (n - 1 - m.length)
      rw [show m.length + (n - 1 - m.length) = n - 1 by omega] at g2
      omega
  · have := hdr (n - 1) 1
    rwa [show n - 1 + 1 = n by omega] at this
/-- From fewer rounds than there are nodes on all stays. -/
theorem it_far {n : Nat} {C : T} (hC : Cost C) {to : Nat} (ht : to < n) (i : Nat) (hi : i < n) : ∀ r, it n C to (st to) (n - 1 + r) i = far n C to i := by
  have h0 : ∀ i, i < n → it n C to (st to) (n - 1) i = far n C to i := fun i hi => by
    unfold far
    rw [it_pw hC ht _ i hi, it_pw hC ht _ i hi]
    exact pw_enough hC.dg i to hi ht
  have h1 : ∀ i, i < n → rd n C to (far n C to) i = far n C to i := fun i hi => by
    have e : far n C to i = rd n C to (it n C to (st to) (n - 1)) i := by
      unfold far
      rw [show it n C to (st to) n = it n C to (st to) (n - 1 + 1) by rw [show n - 1 + 1 = n by omega]]
      rfl
    rw [e]
    exact rd_congr n C to (fun j hj => (h0 j hj).symm) i
  intro r
  have : ∀ r i, i < n → it n C to (st to) (n - 1 + r) i = far n C to i := by
    intro r
    induction r with
    | zero => exact h0
    | succ r ih =>
      intro i hi
      show rd n C to (it n C to (st to) (n - 1 + r)) i = _
      rw [rd_congr n C to ih i, h1 i hi]
  exact this r i hi
theorem far_fixed {n : Nat} {C : T} (hC : Cost C) {to : Nat} (ht : to < n) (i : Nat) (hi : i < n) : rd n C to (far n C to) i = far n C to i := by
  rw [← it_far hC ht i hi 1]
  show _ = rd n C to (it n C to (st to) (n - 1 + 0)) i
  exact (rd_congr n C to (fun j hj => it_far hC ht j hj 0) i).symm
/-- A round that changes nothing: it is the end. -/
theorem same_far {n : Nat} {C : T} (hC : Cost C) {to : Nat} (ht : to < n) (r : Nat) (h : ∀ i, i < n → it n C to (st to) (r + 1) i = it n C to (st to) r i) (i : Nat) (hi : i < n) : it n C to (st to) r i = far n C to i := by
  have : ∀ s, ∀ i, i < n → it n C to (st to) (r + s) i = it n C to (st to) r i := by
    intro s
    induction s with
    | zero => exact fun _ _ => rfl
    | succ s ih =>
      intro i hi
      show rd n C to (it n C to (st to) (r + s)) i = _
      rw [rd_congr n C to ih i]
      exact h i hi
  have h1 := this (n - 1) i hi
  rw [Nat.add_comm, it_far hC ht i hi r] at h1
  exact h1.symm
/-- Whether the next round changes anything. -/
theorem step_iff {n : Nat} {C : T} (hC : Cost C) {to : Nat} (ht : to < n) (r : Nat) : vec n (it n C to (st to) (r + 1)) = vec n (it n C to (st to) r) ↔ vec n (it n C to (st to) r) = vec n (far n C to) := by
  constructor
  · intro h
    exact vec_congr fun i hi => same_far hC ht r (fun i hi => vec_inj h i hi) i hi
  · intro h
    refine vec_congr fun i hi => ?_
    show rd n C to (it n C to (st to) r) i = _
    rw [rd_congr n C to (fun j hj => vec_inj h j hj) i, far_fixed hC ht i hi]
    exact (vec_inj h i hi).symm
/-- In just so many rounds they come to it. -/
structure Cnt (n : Nat) (C : T) (to r : Nat) : Prop where
  lt : r < n
  at_ : vec n (it n C to (st to) r) = vec n (far n C to)
  first : ∀ s, s < r → vec n (it n C to (st to) s) ≠ vec n (far n C to)
theorem cnt_is {n : Nat} {C : T} (hC : Cost C) {to : Nat} (ht : to < n) : ∃ r, Cnt n C to r := by
  have : ∀ k, (∃ r, r ≤ k ∧ vec n (it n C to (st to) r) = vec n (far n C to) ∧ ∀ s, s < r → vec n (it n C to (st to) s) ≠ vec n (far n C to)) ∨ ∀ s, s ≤ k → vec n (it n C to (st to) s) ≠ vec n (far n C to) := by
    intro k
    induction k with
    | zero =>
      by_cases h : vec n (it n C to (st to) 0) = vec n (far n C to)
      · exact Or.inl ⟨0, Nat.le_refl _, h, fun s hs => by omega⟩
      · exact Or.inr fun s hs => by
          obtain rfl : s = 0 := by omega
          exact h
    | succ k ih =>
      rcases ih with ⟨r, h1, h2, h3⟩ | h0
      · exact Or.inl ⟨r, by omega, h2, h3⟩
      · by_cases h : vec n (it n C to (st to) (k + 1)) = vec n (far n C to)
        · exact Or.inl ⟨k + 1, Nat.le_refl _, h, fun s hs => h0 s (by omega)⟩
        · exact Or.inr fun s hs => by
            by_cases e : s = k + 1
            · rw [e]; exact h
            · exact h0 s (by omega)
  rcases this (n - 1) with ⟨r, h1, h2, h3⟩ | h
  · exact ⟨r, by omega, h2, h3⟩
  · exact absurd (vec_congr fun i hi => it_far hC ht i hi 0) (h (n - 1) (Nat.le_refl _))
theorem Cnt.more {n : Nat} {C : T} {to r : Nat} (h : Cnt n C to r) (hC : Cost C) (ht : to < n) (s : Nat) (hs : s < r) : vec n (it n C to (st to) (s + 1)) ≠ vec n (it n C to (st to) s) :=
  fun e => h.first s hs ((step_iff hC ht s).1 e)
theorem Cnt.done {n : Nat} {C : T} {to r : Nat} (h : Cnt n C to r) (hC : Cost C) (ht : to < n) : vec n (it n C to (st to) (r + 1)) = vec n (it n C to (st to) r) :=
  (step_iff hC ht r).2 h.at_
/-- Behind so many rounds what is thought of the near ones is right, whatever was thought at first. -/
theorem it_near {n : Nat} {C : T} (hC : Cost C) {to : Nat} (ht : to < n) (d : Nat → Nat) : ∀ r i, i < n → it n C to d r i = far n C to i ∨ (min r 16 ≤ it n C to d r i ∧ min r 16 ≤ far n C to i)
  | 0, i, _ => Or.inr ⟨by omega, by omega⟩
  | r + 1, i, hi => by
    rw [← far_fixed hC ht i hi]
    show rd n C to (it n C to d r) i = _ ∨ (_ ≤ rd n C to (it n C to d r) i ∧ _)
    by_cases e : i = to
    · left; unfold rd; rw [if_pos e, if_pos e]
    · have h1 : ∀ d, rd n C to d i = est C i d n := fun d => if_neg e
      rw [h1, h1]
      have : ∀ m, m ≤ n → est C i (it n C to d r) m = est C i (far n C to) m ∨ (min (r + 1) 16 ≤ est C i (it n C to d r) m ∧ min (r + 1) 16 ≤ est C i (far n C to) m) := by
        intro m
        induction m with
        | zero => exact fun _ => Or.inl rfl
        | succ m ih =>
          intro hm
          have ih := ih (by omega)
          simp only [est, MatP.least_eq, MatP.add_eq]
          split
          · exact ih
          · have h2 := it_near hC ht d r m (by omega)
            have h3 := hC.off i m (by omega)
            omega
      exact this n (Nat.le_refl _)
/-- Behind sixteen rounds they think it. -/
theorem it_all {n : Nat} {C : T} (hC : Cost C) {to : Nat} (ht : to < n) {d : Nat → Nat} (hd : ∀ i, d i ≤ 16) (r : Nat) (hr : 16 ≤ r) (i : Nat) (hi : i < n) : it n C to d r i = far n C to i := by
  have h1 := it_bd n C to hd r i
  have h2 := far_bd n C to i
  rcases it_near hC ht d r i hi with h | h
  · exact h
  · omega
/-- No way is shorter. -/
theorem far_step {n : Nat} {C : T} (hC : Cost C) {to : Nat} (ht : to < n) (i j : Nat) (hi : i < n) (hj : j < n) : far n C to i ≤ C i j + far n C to j := by
  by_cases e : i = to
  · have h := far_fixed hC ht i hi
    have : rd n C to (far n C to) i = 0 := if_pos e
    omega
  · by_cases ej : j = i
    · subst ej; omega
    · have h := far_fixed hC ht i hi
      have h2 : rd n C to (far n C to) i = est C i (far n C to) n := if_neg e
      have h3 := est_le C i (far n C to) n j hj ej
      omega
theorem far_to {n : Nat} {C : T} (hC : Cost C) {to : Nat} (ht : to < n) : far n C to to = 0 := by
  rw [← far_fixed hC ht to ht]; exact if_pos rfl
theorem far_wl {n : Nat} {C : T} (hC : Cost C) {to : Nat} (ht : to < n) : ∀ (l : List Nat) (x : Nat), x < n → (∀ y ∈ l, y < n) → en x l = to → far n C to x ≤ wl C x l
  | [], x, _, _, h => by
    have : x = to := h
    subst this
    rw [far_to hC ht]; omega
  | y :: r, x, hx, hl, h => by
    have h1 := far_wl hC ht r y (hl y (by simp)) (fun z hz => hl z (by simp [hz])) h
    have h2 := far_step hC ht x y hx (hl y (by simp))
    simp only [wl]; omega
/-- The costs of links. -/
def ct (l : List Lk) : T := fun i j => (costG l i j).toNat
theorem ct_int {n : Int} {l : List Lk} (h : Right n l) (i j : Nat) : ((ct l i j : Nat) : Int) = costG l i j := by
  unfold ct
  rcases costG_is n l h i j with ⟨_, e⟩ | ⟨_, e, _⟩ | ⟨_, y, _, _, e, h1, h2⟩ <;> omega
theorem ct_cost {n : Int} {l : List Lk} (h : Right n l) : Cost (ct l) := by
  refine ⟨fun i j => ?_, fun i => ?_, fun i j hij => ?_⟩
  · have := ct_int h i j
    rcases costG_is n l h i j with ⟨_, e⟩ | ⟨_, e, _⟩ | ⟨_, y, _, _, e, h1, h2⟩ <;> omega
  · have := ct_int h i i
    rcases costG_is n l h i i with ⟨_, e⟩ | ⟨h0, _⟩ | ⟨h0, _⟩ <;> omega
  · have := ct_int h i j
    rcases costG_is n l h i j with ⟨h0, e⟩ | ⟨_, e, _⟩ | ⟨_, y, _, _, e, h1, h2⟩ <;> omega
end BellP
end Go.Proofs.YtomfkmclgabcpaaDoor
