/-
  PLAIN FACTS on tables of distances: one taken after the other, all powers at once, in place and as the document has it; lists of rows that are such tables.
-/
import Derived.Test.YtomfkmclgabcpaaDoorDist
import Derived.Test.YtomfkmclgabcpaaDoorGridArg
import Derived.Test.YtomfkmclgabcpaaDoorRowsTo
namespace Go.Proofs.YtomfkmclgabcpaaDoor
open Go.RowKit

namespace MatP
theorem least_eq (a b : Nat) : DistP.least a b = min a b := by unfold DistP.least; split <;> omega
theorem add_eq (a b : Nat) : DistP.add a b = min (a + b) 16 := by unfold DistP.add; split <;> omega
/-- A table: a distance for each two nodes. -/
abbrev T := Nat → Nat → Nat
def Bd (A : T) : Prop := ∀ i j, A i j ≤ 16
def one : T := fun i j => if i = j then 0 else 16
theorem one_bd : Bd one := fun i j => by unfold one; split <;> omega
theorem one_dg (i : Nat) : one i i = 0 := if_pos rfl
theorem one_off {i j : Nat} (h : i ≠ j) : one i j = 16 := if_neg h
def mulTo (A B : T) (i k : Nat) : Nat → Nat
  | 0 => 16
  | m + 1 => DistP.least (mulTo A B i k m) (DistP.add (A i m) (B m k))
def mul (n : Nat) (A B : T) : T := fun i k => mulTo A B i k n
def min2 (A B : T) : T := fun i k => DistP.least (A i k) (B i k)
theorem mulTo_bd (A B : T) (i k : Nat) : ∀ m, mulTo A B i k m ≤ 16
  | 0 => Nat.le_refl _
  | m + 1 => by
    have := mulTo_bd A B i k m
    simp only [mulTo, least_eq]; omega
theorem mul_bd (n : Nat) (A B : T) : Bd (mul n A B) := fun i k => mulTo_bd A B i k n
theorem min2_bd {A B : T} (h : Bd A) : Bd (min2 A B) := fun i k => by
  have := h i k
  simp only [min2, least_eq]; omega
theorem mulTo_le (A B : T) (i k : Nat) : ∀ m j, j < m → mulTo A B i k m ≤ A i j + B j k
  | 0, j, h => by omega
  | m + 1, j, h => by
    simp only [mulTo, least_eq, add_eq]
    by_cases e : j = m
    · subst e; omega
    · have := mulTo_le A B i k m j (by omega)
      omega
theorem mulTo_at (A B : T) (i k : Nat) : ∀ m, mulTo A B i k m = 16 ∨ ∃ j, j < m ∧ mulTo A B i k m = A i j + B j k
  | 0 => Or.inl rfl
  | m + 1 => by
    simp only [mulTo, least_eq, add_eq]
    have hb := mulTo_bd A B i k m
    by_cases e : mulTo A B i k m ≤ A i m + B m k
    · rcases mulTo_at A B i k m with h | ⟨j, hj, h⟩
      · left; omega
      · right; exact ⟨j, by omega, by omega⟩
    · right; exact ⟨m, by omega, by omega⟩
theorem mul_le {n : Nat} (A B : T) {i j k : Nat} (h : j < n) : mul n A B i k ≤ A i j + B j k := mulTo_le A B i k n j h
theorem mul_at (n : Nat) (A B : T) (i k : Nat) : mul n A B i k = 16 ∨ ∃ j, j < n ∧ mul n A B i k = A i j + B j k := mulTo_at A B i k n
/-- What is at least as small as all sums is at least as small as their least. -/
theorem le_mul {n x : Nat} {A B : T} {i k : Nat} (hx : x ≤ 16) (h : ∀ j, j < n → x ≤ A i j + B j k) : x ≤ mul n A B i k := by
  rcases mul_at n A B i k with e | ⟨j, hj, e⟩
  · omega
  · have := h j hj; omega
theorem mul_congr {n : Nat} {A A' B B' : T} (hA : ∀ i j, i < n → j < n → A i j = A' i j) (hB : ∀ i j, i < n → j < n → B i j = B' i j) (i k : Nat) (hi : i < n) (hk : k < n) : mul n A B i k = mul n A' B' i k := by
  apply Nat.le_antisymm
  · exact le_mul (mul_bd _ _ _ _ _) fun j hj => by rw [← hA i j hi hj, ← hB j k hj hk]; exact mul_le A B hj
  · exact le_mul (mul_bd _ _ _ _ _) fun j hj => by rw [hA i j hi hj, hB j k hj hk]; exact mul_le A' B' hj
theorem mul_mono {n : Nat} {A A' B B' : T} (i k : Nat) (hA : ∀ j, j < n → A i j ≤ A' i j) (hB : ∀ j, j < n → B j k ≤ B' j k) : mul n A B i k ≤ mul n A' B' i k :=
  le_mul (mul_bd _ _ _ _ _) fun j hj => by
    have h1 := hA j hj; have h2 := hB j hj
    have h3 := mul_le A B hj (i := i) (k := k)
    omega
theorem mul_assoc (n : Nat) (A B C : T) (i k : Nat) : mul n (mul n A B) C i k = mul n A (mul n B C) i k := by
  apply Nat.le_antisymm
  · refine le_mul (mul_bd _ _ _ _ _) fun j hj => ?_
    rcases mul_at n B C j k with e | ⟨x, hx, e⟩
    · have := mul_bd n (mul n A B) C i k; omega
    · have h1 := mul_le (mul n A B) C hx (i := i) (k := k)
      have h2 := mul_le A B hj (i := i) (k := x)
      omega
  · refine le_mul (mul_bd _ _ _ _ _) fun j hj => ?_
    rcases mul_at n A B i j with e | ⟨x, hx, e⟩
    · have := mul_bd n A (mul n B C) i k; omega
    · have h1 := mul_le A (mul n B C) hx (i := i) (k := k)
      have h2 := mul_le B C hj (i := x) (k := k)
      omega
theorem one_mul {n : Nat} {A : T} (h : Bd A) (i k : Nat) (hi : i < n) : mul n one A i k = A i k := by
  apply Nat.le_antisymm
  · have := mul_le one A hi (i := i) (k := k)
    rw [one_dg] at this; omega
  · refine le_mul (h i k) fun j hj => ?_
    by_cases e : i = j
    · subst e; omega
    · rw [one_off e]; have := h i k; omega
theorem mul_one {n : Nat} {A : T} (h : Bd A) (i k : Nat) (hk : k < n) : mul n A one i k = A i k := by
  apply Nat.le_antisymm
  · have := mul_le A one hk (i := i) (k := k)
    rw [one_dg] at this; omega
  · refine le_mul (h i k) fun j hj => ?_
    by_cases e : j = k
    · subst e; omega
    · rw [one_off e]; have := h i k; omega

/-- S is all powers of A at once: the greatest table that is no more than One and A and closed under going on. -/
structure Star (n : Nat) (A S : T) : Prop where
  bd : ∀ i j, i < n → j < n → S i j ≤ 16
  le : ∀ i j, i < n → j < n → S i j ≤ A i j
  dg : ∀ i, i < n → S i i = 0
  tri : ∀ i j k, i < n → j < n → k < n → S i k ≤ S i j + S j k
  top : ∀ U : T, (∀ i j, i < n → j < n → U i j ≤ 16 ∧ U i j ≤ A i j) → (∀ i, i < n → U i i = 0) → (∀ i j k, i < n → j < n → k < n → U i k ≤ U i j + U j k) → ∀ i j, i < n → j < n → U i j ≤ S i j
theorem Star.below {n : Nat} {A S S' : T} (h : Star n A S) (h' : Star n A S') (i j : Nat) (hi : i < n) (hj : j < n) : S i j ≤ S' i j :=
  h'.top S (fun i j hi hj => ⟨h.bd i j hi hj, h.le i j hi hj⟩) h.dg h.tri i j hi hj
theorem Star.same {n : Nat} {A S S' : T} (h : Star n A S) (h' : Star n A S') (i j : Nat) (hi : i < n) (hj : j < n) : S i j = S' i j :=
  Nat.le_antisymm (h.below h' i j hi hj) (h'.below h i j hi hj)
/-- Of a star the star is itself. -/
theorem Star.again {n : Nat} {A S : T} (h : Star n A S) : Star n S S :=
  ⟨h.bd, fun _ _ _ _ => Nat.le_refl _, h.dg, h.tri, fun _ hU _ _ i j hi hj => (hU i j hi hj).2⟩
/-- A star taken with itself is itself. -/
theorem Star.twice {n : Nat} {A S : T} (h : Star n A S) (i k : Nat) (hi : i < n) (hk : k < n) : mul n S S i k = S i k := by
  apply Nat.le_antisymm
  · have := mul_le S S hk (i := i) (k := k)
    rw [h.dg k hk] at this; omega
  · exact le_mul (h.bd i k hi hk) fun j hj => h.tri i j k hi hj hk
/-- A star is One, or one step and a star. -/
theorem Star.step {n : Nat} {A S : T} (h : Star n A S) (i k : Nat) (hi : i < n) (hk : k < n) : S i k = min (mul n A S i k) (one i k) := by
  apply Nat.le_antisymm
  · have h1 : S i k ≤ mul n A S i k := le_mul (h.bd i k hi hk) fun j hj => by
      have h1 := h.tri i j k hi hj hk
      have h2 := h.le i j hi hj
      omega
    have h2 : S i k ≤ one i k := by
      by_cases e : i = k
      · subst e; rw [h.dg i hi]; omega
      · rw [one_off e]; exact h.bd i k hi hk
    omega
  · refine h.top (fun i k => min (mul n A S i k) (one i k)) (fun i j hi hj => ?_) (fun i hi => ?_) (fun i j k hi hj hk => ?_) i k hi hk
    · have h1 := mul_le A S hj (i := i) (k := j)
      have h2 := one_bd i j
      rw [h.dg j hj] at h1
      omega
    · show min (mul n A S i i) (one i i) = 0
      rw [one_dg]; omega
    · by_cases e1 : i = j
      · subst e1; omega
      · by_cases e2 : j = k
        · subst e2; omega
        · simp only [one_off e1, one_off e2]
          have b1 := mul_bd n A S i j
          have b2 := mul_bd n A S j k
          have b3 := mul_bd n A S i k
          rcases mul_at n A S i j with e | ⟨x, hx, e⟩
          · omega
          · rcases mul_at n A S j k with f | ⟨y, hy, f⟩
            · omega
            · have h1 := mul_le A S hx (i := i) (k := k)
              have h2 := h.le j y hj hy
              have h3 := h.tri x j k hx hj hk
              have h4 := h.tri j y k hj hy hk
              omega
/-- With One or without. -/
theorem Star.with {n : Nat} {A S : T} (h : Star n A S) : Star n (min2 A one) S := by
  refine ⟨h.bd, fun i j hi hj => ?_, h.dg, h.tri, fun U hU hd ht i j hi hj => h.top U (fun i j hi hj => ⟨(hU i j hi hj).1, ?_⟩) hd ht i j hi hj⟩
  · have h1 := h.le i j hi hj
    have h2 : S i j ≤ one i j := by
      by_cases e : i = j
      · subst e; rw [h.dg i hi]; omega
      · rw [one_off e]; exact h.bd i j hi hj
    simp only [min2, least_eq]; omega
  · have := (hU i j hi hj).2
    simp only [min2, least_eq] at this; omega

/-! ### Walks -/
/-- How long a walk is. -/
def wl (A : T) : Nat → List Nat → Nat
  | _, [] => 0
  | x, y :: r => A x y + wl A y r
/-- Where it ends. -/
def en : Nat → List Nat → Nat
  | x, [] => x
  | _, y :: r => en y r
theorem wl_app (A : T) : ∀ (l : List Nat) (x : Nat) (m : List Nat), wl A x (l ++ m) = wl A x l + wl A (en x l) m
  | [], _, _ => by simp [wl, en]
  | y :: r, _, m => by simp only [List.cons_append, wl, en]; rw [wl_app A r y m]; omega
theorem en_app : ∀ (l : List Nat) (x : Nat) (m : List Nat), en x (l ++ m) = en (en x l) m
  | [], _, _ => rfl
  | y :: r, _, m => en_app r y m
theorem many : ∀ {l m : List Nat}, l.Nodup → (∀ n ∈ l, n ∈ m) → l.length ≤ m.length := by
  intro l
  induction l with
  | nil => intro m _ _; simp
  | cons x r ih =>
    intro m hn hs
    have hx : x ∈ m := hs x (by simp)
    obtain ⟨h1, h2⟩ := List.nodup_cons.1 hn
    have h3 := ih (m := m.erase x) h2 (fun n hn' => (List.mem_erase_of_ne (fun e => h1 (by rw [← e]; exact hn'))).2 (hs n (by simp [hn'])))
    rw [List.length_erase_of_mem hx] at h3
    have := List.length_pos_of_mem hx
    simp only [List.length_cons]
    omega
/-- A walk that comes to a node twice has a shorter one. -/
theorem cut (A : T) : ∀ (l : List Nat) (x : Nat), ¬ (x :: l).Nodup → ∃ m, m.length < l.length ∧ en x m = en x l ∧ wl A x m ≤ wl A x l ∧ ∀ y ∈ m, y ∈ l := by
  intro l
  induction l with
  | nil => intro x h; exact absurd (by simp) h
  | cons y r ih =>
    intro x h
    by_cases hx : x ∈ y :: r
    · obtain ⟨s, t, e⟩ := List.append_of_mem hx
      refine ⟨t, ?_, ?_, ?_, fun z hz => ?_⟩
      · rw [e]; simp; omega
      · rw [e, en_app]; rfl
      · rw [e, wl_app]; simp only [wl]; omega
      · rw [e]; simp [hz]
    · have h2 : ¬ (y :: r).Nodup := fun h3 => h (List.nodup_cons.2 ⟨hx, h3⟩)
      obtain ⟨m, h3, h4, h5, h6⟩ := ih y h2
      refine ⟨y :: m, ?_, ?_, ?_, fun z hz => ?_⟩
      · simp; omega
      · exact h4
      · simp only [wl]; omega
      · rcases List.mem_cons.1 hz with e | h7
        · simp [e]
        · simp [h6 z h7]
theorem short (A : T) (n : Nat) : ∀ (k : Nat) (l : List Nat) (x : Nat), l.length ≤ k → x < n → (∀ y ∈ l, y < n) → ∃ m, m.length < n ∧ en x m = en x l ∧ wl A x m ≤ wl A x l ∧ ∀ y ∈ m, y < n
  | 0, l, x, h, hx, hl => by
    have e : l = [] := List.length_eq_zero_iff.1 (by omega)
    subst e
    exact ⟨[], by simp; omega, rfl, Nat.le_refl _, hl⟩
  | k + 1, l, x, h, hx, hl => by
    by_cases hn : (x :: l).Nodup
    · have := many (m := List.range n) hn (fun y hy => List.mem_range.2 (by
        rcases List.mem_cons.1 hy with e | hy
        · omega
        · exact hl y hy))
      simp at this
      exact ⟨l, by omega, rfl, Nat.le_refl _, hl⟩
    · obtain ⟨m, h1, h2, h3, h4⟩ := cut A l x hn
      obtain ⟨m', g1, g2, g3, g4⟩ := short A n k m x (by omega) hx (fun y hy => hl y (h4 y hy))
      exact ⟨m', g1, by rw [g2, h2], by omega, g4⟩

/-! ### Powers -/
def pw (n : Nat) (A : T) : Nat → T
  | 0 => one
  | m + 1 => mul n (pw n A m) A
theorem pw_bd (n : Nat) (A : T) : ∀ m, Bd (pw n A m)
  | 0 => one_bd
  | _ + 1 => mul_bd _ _ _
theorem pw_le (n : Nat) (A : T) : ∀ (m : Nat) (l : List Nat) (x : Nat), l.length = m → x < n → (∀ y ∈ l, y < n) → pw n A m x (en x l) ≤ wl A x l
  | 0, l, x, h, _, _ => by
    have e : l = [] := List.length_eq_zero_iff.1 h
    subst e
    simp [pw, en, one]
  | m + 1, l, x, h, hx, hl => by
    rcases List.eq_nil_or_concat l with e | ⟨s, y, e⟩
    · subst e; simp at h
    · rw [List.concat_eq_append] at e
      subst e
      have h1 := pw_le n A m s x (by simp at h; omega) hx (fun y hy => hl y (by simp [hy]))
      rw [wl_app, en_app]
      simp only [wl, en, pw]
      have he : en x s < n := by
        have : ∀ (s : List Nat) (x : Nat), x < n → (∀ y ∈ s, y < n) → en x s < n := by
          intro s
          induction s with
          | nil => intro x h _; exact h
          | cons y r ih => intro x _ h; exact ih y (h y (by simp)) (fun z hz => h z (by simp [hz]))
        exact this s x hx (fun y hy => hl y (by simp [hy]))
      have h2 := mul_le (pw n A m) A he (i := x) (k := y)
      omega
theorem pw_at (n : Nat) (A : T) : ∀ (m i k : Nat), i < n → k < n → pw n A m i k = 16 ∨ ∃ l, l.length = m ∧ (∀ y ∈ l, y < n) ∧ en i l = k ∧ wl A i l = pw n A m i k
  | 0, i, k, _, _ => by
    by_cases e : i = k
    · subst e
      exact Or.inr ⟨[], rfl, by simp, rfl, (one_dg i).symm⟩
    · exact Or.inl (one_off e)
  | m + 1, i, k, hi, hk => by
    simp only [pw]
    have hb := mul_bd n (pw n A m) A i k
    rcases mul_at n (pw n A m) A i k with h | ⟨j, hj, h⟩
    · exact Or.inl h
    · rcases pw_at n A m i j hi hj with g | ⟨l, g1, g2, g3, g4⟩
      · left; omega
      · right
        refine ⟨l ++ [k], by simp [g1], fun y hy => ?_, by rw [en_app]; rfl, ?_⟩
        · rcases List.mem_append.1 hy with h7 | h7
          · exact g2 y h7
          · simp at h7; omega
        · rw [wl_app, g3, g4, h]; rfl
/-- The least of the first powers. -/
def lw (n : Nat) (A : T) : Nat → T
  | 0 => one
  | m + 1 => min2 (lw n A m) (pw n A (m + 1))
theorem lw_bd (n : Nat) (A : T) : ∀ m, Bd (lw n A m)
  | 0 => one_bd
  | m + 1 => min2_bd (lw_bd n A m)
theorem lw_le (n : Nat) (A : T) (i k : Nat) : ∀ m m', m' ≤ m → lw n A m i k ≤ pw n A m' i k
  | 0, m', h => by
    obtain rfl : m' = 0 := by omega
    exact Nat.le_refl _
  | m + 1, m', h => by
    simp only [lw, min2, least_eq]
    by_cases e : m' = m + 1
    · subst e; omega
    · have := lw_le n A i k m m' (by omega)
      omega
theorem lw_at (n : Nat) (A : T) (i k : Nat) : ∀ m, ∃ m', m' ≤ m ∧ lw n A m i k = pw n A m' i k
  | 0 => ⟨0, Nat.le_refl _, rfl⟩
  | m + 1 => by
    simp only [lw, min2, least_eq]
    obtain ⟨m', h1, h2⟩ := lw_at n A i k m
    by_cases e : lw n A m i k ≤ pw n A (m + 1) i k
    · exact ⟨m', by omega, by omega⟩
    · exact ⟨m + 1, Nat.le_refl _, by omega⟩
/-- What is closed under going on, and no more than One and A, is no more than a power. -/
theorem le_pw {n : Nat} {A U : T} (hU : ∀ i j, i < n → j < n → U i j ≤ 16 ∧ U i j ≤ A i j) (hd : ∀ i, i < n → U i i = 0) (ht : ∀ i j k, i < n → j < n → k < n → U i k ≤ U i j + U j k) : ∀ m i k, i < n → k < n → U i k ≤ pw n A m i k
  | 0, i, k, hi, hk => by
    by_cases e : i = k
    · subst e; rw [hd i hi]; omega
    · show U i k ≤ one i k
      rw [one_off e]; exact (hU i k hi hk).1
  | m + 1, i, k, hi, hk => le_mul (hU i k hi hk).1 fun j hj => by
    have h1 := le_pw hU hd ht m i j hi hj
    have h2 := (hU j k hj hk).2
    have h3 := ht i j k hi hj hk
    omega
theorem lw_star {n : Nat} {A : T} (hA : Bd A) : Star n A (lw n A n) := by
  refine ⟨fun i j _ _ => lw_bd n A n i j, fun i j hi hj => ?_, fun i hi => ?_, fun i j k hi hj hk => ?_, fun U hU hd ht i j hi hj => ?_⟩
  · have h1 := lw_le n A i j n 1 (by omega)
    have h2 := one_mul hA i j hi
    simp only [pw] at h1
    omega
  · have h1 := lw_le n A i i n 0 (by omega)
    simp only [pw, one_dg] at h1
    omega
  · obtain ⟨a, _, ha⟩ := lw_at n A i j n
    obtain ⟨b, _, hb⟩ := lw_at n A j k n
    have hx := lw_bd n A n i k
    rcases pw_at n A a i j hi hj with h | ⟨l, l1, l2, l3, l4⟩
    · omega
    · rcases pw_at n A b j k hj hk with h | ⟨r, r1, r2, r3, r4⟩
      · omega
      · obtain ⟨m, m1, m2, m3, m4⟩ := short A n _ (l ++ r) i (Nat.le_refl _) hi (fun y hy => by
          rcases List.mem_append.1 hy with h7 | h7
          · exact l2 y h7
          · exact r2 y h7)
        have e : en i (l ++ r) = k := by rw [en_app, l3, r3]
        have f : wl A i (l ++ r) = wl A i l + wl A j r := by rw [wl_app, l3]
        have h1 := pw_le n A m.length m i rfl hi m4
        rw [m2, e] at h1
        have h2 := lw_le n A i k n m.length (by omega)
        omega
  · obtain ⟨m, _, h⟩ := lw_at n A i j n
    rw [h]
    exact le_pw hU hd ht m i j hi hj
theorem pw_drop {n : Nat} {A : T} (hd : ∀ i, i < n → A i i = 0) (i k : Nat) (hk : k < n) : ∀ m d, pw n A (m + d) i k ≤ pw n A m i k
  | _, 0 => Nat.le_refl _
  | m, d + 1 => by
    have h1 := pw_drop hd i k hk m d
    have h2 := mul_le (pw n A (m + d)) A hk (i := i) (k := k)
    rw [hd k hk] at h2
    show mul n (pw n A (m + d)) A i k ≤ _
    omega
/-- With One among it, the last power is the least. -/
theorem pw_star {n : Nat} {A : T} (hA : Bd A) (i k : Nat) (hi : i < n) (hk : k < n) : pw n (min2 A one) n i k = lw n A n i k := by
  have hB : Bd (min2 A one) := min2_bd hA
  have h1 := (lw_star (n := n) hA).with.same (lw_star hB) i k hi hk
  rw [h1]
  apply Nat.le_antisymm
  · obtain ⟨m, hm, h⟩ := lw_at n (min2 A one) i k n
    rw [h]
    have := pw_drop (n := n) (A := min2 A one) (fun i _ => by simp [min2, one_dg, DistP.least]) i k hk m (n - m)
    rwa [show m + (n - m) = n by omega] at this
  · exact lw_le n _ i k n n (Nat.le_refl _)

/-! ### In place -/
def upd (R : T) (p q x : Nat) : T := fun i j => if i = p ∧ j = q then x else R i j
def relax (R : T) (j i k : Nat) : T := upd R i k (DistP.least (R i k) (DistP.add (R i j) (R j k)))
def fwK (R : T) (j i : Nat) : Nat → T
  | 0 => R
  | k + 1 => relax (fwK R j i k) j i k
def fwI (n : Nat) (R : T) (j : Nat) : Nat → T
  | 0 => R
  | i + 1 => fwK (fwI n R j i) j i n
def fwJ (n : Nat) (R : T) : Nat → T
  | 0 => R
  | j + 1 => fwI n (fwJ n R j) j n
theorem upd_bd {R : T} (h : Bd R) (p q x : Nat) (hx : x ≤ 16) : Bd (upd R p q x) := fun i j => by
  unfold upd; split
  · exact hx
  · exact h i j
theorem relax_bd {R : T} (h : Bd R) (j i k : Nat) : Bd (relax R j i k) := upd_bd h _ _ _ (by have := h i k; rw [least_eq]; omega)
theorem fwK_bd {R : T} (h : Bd R) (j i : Nat) : ∀ k, Bd (fwK R j i k)
  | 0 => h
  | k + 1 => relax_bd (fwK_bd h j i k) _ _ _
theorem fwI_bd {n : Nat} {R : T} (h : Bd R) (j : Nat) : ∀ i, Bd (fwI n R j i)
  | 0 => h
  | i + 1 => fwK_bd (fwI_bd h j i) _ _ _
theorem fwJ_bd {n : Nat} {R : T} (h : Bd R) : ∀ j, Bd (fwJ n R j)
  | 0 => h
  | j + 1 => fwI_bd (fwJ_bd h j) _ _
theorem fwK_is {R : T} (hb : Bd R) (j i : Nat) (hd : R j j = 0) : ∀ k p q, fwK R j i k p q = if p = i ∧ q < k then min (R p q) (R i j + R j q) else R p q
  | 0, p, q => by rw [if_neg (by omega)]; rfl
  | k + 1, p, q => by
    have ih := fwK_is hb j i hd k
    simp only [fwK, relax, upd, least_eq, add_eq]
    by_cases h : p = i ∧ q = k
    · obtain ⟨rfl, rfl⟩ := h
      rw [if_pos ⟨rfl, rfl⟩, if_pos ⟨rfl, by omega⟩, ih p q, if_neg (by omega), ih p j, ih j q]
      have b := hb p q
      by_cases e1 : j < q
      · rw [if_pos ⟨rfl, e1⟩, if_neg (by omega), hd]; omega
      · rw [if_neg (by omega), if_neg (by omega)]; omega
    · rw [if_neg h, ih p q]
      by_cases e : p = i ∧ q < k
      · rw [if_pos e, if_pos (by omega)]
      · rw [if_neg e, if_neg (by omega)]
theorem fwI_is {n : Nat} {R : T} (hb : Bd R) (j : Nat) (hd : R j j = 0) (hj : j < n) : ∀ i p q, q < n → fwI n R j i p q = if p < i then min (R p q) (R p j + R j q) else R p q
  | 0, p, q, _ => by rw [if_neg (by omega)]; rfl
  | i + 1, p, q, hq => by
    have ih := fwI_is hb j hd hj i
    have hd' : fwI n R j i j j = 0 := by
      rw [ih j j hj, hd]; split <;> omega
    simp only [fwI]
    rw [fwK_is (fwI_bd hb j i) j i hd']
    by_cases h : p = i
    · subst h
      rw [if_pos ⟨rfl, hq⟩, if_pos (by omega), ih p q hq, if_neg (by omega), ih p j hj, if_neg (by omega), ih j q hq, hd]
      split <;> omega
    · rw [if_neg (by omega), ih p q hq]
      by_cases e : p < i
      · rw [if_pos e, if_pos (by omega)]
      · rw [if_neg e, if_neg (by omega)]
/-- Behind step j. -/
theorem fwJ_step {n : Nat} {R : T} (hb : Bd R) (j : Nat) (hj : j < n) (hd : fwJ n R j j j = 0) (p q : Nat) (hp : p < n) (hq : q < n) : fwJ n R (j + 1) p q = min (fwJ n R j p q) (fwJ n R j p j + fwJ n R j j q) := by
  simp only [fwJ]
  rw [fwI_is (fwJ_bd hb j) j hd hj n p q hq, if_pos hp]
theorem fwJ_dg {n : Nat} {R : T} (hb : Bd R) (hd : ∀ i, i < n → R i i = 0) : ∀ j, j ≤ n → ∀ i, i < n → fwJ n R j i i = 0
  | 0, _, i, hi => hd i hi
  | j + 1, hj, i, hi => by
    have ih := fwJ_dg hb hd j (by omega)
    rw [fwJ_step hb j (by omega) (ih j (by omega)) i i hi hi, ih i hi]; omega
theorem fwJ_tri {n : Nat} {R : T} (hb : Bd R) (hd : ∀ i, i < n → R i i = 0) : ∀ j, j ≤ n → ∀ m i k, m < j → i < n → k < n → fwJ n R j i k ≤ fwJ n R j i m + fwJ n R j m k
  | 0, _, m, _, _, h, _, _ => by omega
  | j + 1, hj, m, i, k, hm, hi, hk => by
    have ih := fwJ_tri hb hd j (by omega)
    have dg := fwJ_dg hb hd j (by omega)
    have st := fwJ_step hb j (by omega) (dg j (by omega))
    have hjn : j < n := by omega
    have hmn : m < n := by omega
    rw [st i k hi hk, st i m hi hmn, st m k hmn hk]
    by_cases e : m = j
    · subst e
      have := dg m hmn
      omega
    · have h1 := ih m i k (by omega) hi hk
      have h2 := ih m i j (by omega) hi hjn
      have h3 := ih m j k (by omega) hjn hk
      have h4 := ih m j j (by omega) hjn hjn
      omega
theorem fwJ_le {n : Nat} {R : T} (hb : Bd R) (hd : ∀ i, i < n → R i i = 0) : ∀ j, j ≤ n → ∀ i k, i < n → k < n → fwJ n R j i k ≤ R i k
  | 0, _, i, k, _, _ => Nat.le_refl _
  | j + 1, hj, i, k, hi, hk => by
    have ih := fwJ_le hb hd j (by omega) i k hi hk
    rw [fwJ_step hb j (by omega) (fwJ_dg hb hd j (by omega) j (by omega)) i k hi hk]
    omega
theorem fwJ_top {n : Nat} {R U : T} (hb : Bd R) (hd : ∀ i, i < n → R i i = 0) (hU : ∀ i j, i < n → j < n → U i j ≤ R i j) (ht : ∀ i j k, i < n → j < n → k < n → U i k ≤ U i j + U j k) : ∀ j, j ≤ n → ∀ i k, i < n → k < n → U i k ≤ fwJ n R j i k
  | 0, _, i, k, hi, hk => hU i k hi hk
  | j + 1, hj, i, k, hi, hk => by
    have ih := fwJ_top hb hd hU ht j (by omega)
    rw [fwJ_step hb j (by omega) (fwJ_dg hb hd j (by omega) j (by omega)) i k hi hk]
    have h1 := ih i k hi hk
    have h2 := ih i j hi (by omega)
    have h3 := ih j k (by omega) hk
    have h4 := ht i j k hi (by omega) hk
    omega
/-- What mat.Star makes. -/
def fw (n : Nat) (A : T) : T := fwJ n (min2 one A) n
theorem fw_bd (n : Nat) (A : T) : Bd (fw n A) := fwJ_bd (min2_bd one_bd) n
theorem fw_star (n : Nat) (A : T) : Star n A (fw n A) := by
  have hb : Bd (min2 one A) := min2_bd one_bd
  have hd : ∀ i, i < n → min2 one A i i = 0 := fun i _ => by simp only [min2, one_dg, least_eq]; omega
  refine ⟨fun i j _ _ => fw_bd n A i j, fun i j hi hj => ?_, fun i hi => fwJ_dg hb hd n (Nat.le_refl _) i hi, fun i j k hi hj hk => fwJ_tri hb hd n (Nat.le_refl _) j i k hj hi hk, fun U hU hd' ht i j hi hj => ?_⟩
  · have h1 := fwJ_le hb hd n (Nat.le_refl _) i j hi hj
    have h2 : min2 one A i j ≤ A i j := by simp only [min2, least_eq]; omega
    exact Nat.le_trans h1 h2
  · refine fwJ_top hb hd (fun i j hi hj => ?_) ht n (Nat.le_refl _) i j hi hj
    have h1 := hU i j hi hj
    simp only [min2, least_eq]
    by_cases e : i = j
    · subst e; rw [one_dg, hd' i hi]; omega
    · rw [one_off e]; omega
theorem fw_lw {n : Nat} {A : T} (hA : Bd A) (i k : Nat) (hi : i < n) (hk : k < n) : fw n A i k = lw n A n i k := (fw_star n A).same (lw_star hA) i k hi hk
theorem fw_pw {n : Nat} {A : T} (hA : Bd A) (i k : Nat) (hi : i < n) (hk : k < n) : fw n A i k = pw n (min2 A one) n i k := by rw [pw_star hA i k hi hk]; exact fw_lw hA i k hi hk
end MatP

/-! ### Lists of rows -/
/-- The rows of a table. -/
def rowsN (n : Nat) (A : MatP.T) : List (List Int) := rowsF n fun i j => (A i j : Int)
theorem rowsN_len (n : Nat) (A : MatP.T) : (rowsN n A).length = n := rowsF_len n _
theorem rowsN_row (n : Nat) (A : MatP.T) : ∀ r ∈ rowsN n A, r.length = n := rowsF_row n _
theorem rowsN_at (n : Nat) (A : MatP.T) (i : Nat) (h : i < n) : (rowsN n A)[i]! = (List.range n).map fun j => (A i j : Int) := rowsF_at n _ i h
theorem rowsN_congr {n : Nat} {A B : MatP.T} (h : ∀ i j, i < n → j < n → A i j = B i j) : rowsN n A = rowsN n B := by
  unfold rowsN rowsF
  refine List.map_congr_left fun i hi => List.map_congr_left fun j hj => ?_
  show ((A i j : Nat) : Int) = ((B i j : Nat) : Int)
  rw [h i j (List.mem_range.1 hi) (List.mem_range.1 hj)]
/-- What is wrong with a table's numbers of rows and columns. -/
def shapeBad (M : List (List Int)) : Int := if 1 ≤ M.length ∧ M.length ≤ 8 ∧ ∀ r ∈ M, r.length = M.length then 0 else 3
/-- What is wrong with a table. -/
def matBad (M : List (List Int)) : Int := if 1 ≤ M.length ∧ M.length ≤ 8 ∧ ∀ r ∈ M, r.length = M.length then if ∀ r ∈ M, ∀ d ∈ r, 0 ≤ d ∧ d ≤ 16 then 0 else 1 else 3
theorem shape_zero {M : List (List Int)} (h : shapeBad M = 0) : 1 ≤ M.length ∧ M.length ≤ 8 ∧ ∀ r ∈ M, r.length = M.length := by
  unfold shapeBad at h
  split at h
  · assumption
  · omega
theorem shape_mat {M : List (List Int)} (h : shapeBad M ≠ 0) : shapeBad M = 3 ∧ matBad M = 3 := by
  unfold shapeBad matBad at *
  split at h
  · exact absurd rfl h
  · rename_i g
    exact ⟨if_neg g, if_neg g⟩
theorem mat_shape {M : List (List Int)} (h : shapeBad M = 0) : matBad M = if ∀ r ∈ M, ∀ d ∈ r, 0 ≤ d ∧ d ≤ 16 then 0 else 1 := if_pos (shape_zero h)
theorem mat_zero {M : List (List Int)} (h : matBad M = 0) : 1 ≤ M.length ∧ M.length ≤ 8 ∧ (∀ r ∈ M, r.length = M.length) ∧ ∀ r ∈ M, ∀ d ∈ r, 0 ≤ d ∧ d ≤ 16 := by
  unfold matBad at h
  split at h
  · rename_i g
    split at h
    · rename_i g2
      exact ⟨g.1, g.2.1, g.2.2, g2⟩
    · omega
  · omega
theorem mat_rows {n : Nat} {A : MatP.T} (h1 : 1 ≤ n) (h8 : n ≤ 8) (hA : MatP.Bd A) : matBad (rowsN n A) = 0 := by
  unfold matBad
  rw [if_pos ⟨by rw [rowsN_len]; exact h1, by rw [rowsN_len]; exact h8, fun r hr => by rw [rowsN_len]; exact rowsN_row n A r hr⟩, if_pos]
  intro r hr d hd
  simp only [rowsN, rowsF, List.mem_map] at hr
  obtain ⟨i, _, rfl⟩ := hr
  simp only [List.mem_map] at hd
  obtain ⟨j, _, rfl⟩ := hd
  have := hA i j
  omega
/-- A right table is one of distances. -/
theorem mat_tab {M : List (List Int)} (h : matBad M = 0) : ∃ (n : Nat) (A : MatP.T), 1 ≤ n ∧ n ≤ 8 ∧ MatP.Bd A ∧ M = rowsN n A := by
  obtain ⟨h1, h2, h3, h4⟩ := mat_zero h
  refine ⟨M.length, fun i j => min (M[i]!)[j]!.toNat 16, h1, h2, fun i j => Nat.min_le_right _ _, ?_⟩
  refine List.ext_getElem (by rw [rowsN_len]) fun i hi _ => ?_
  have hr : M[i] ∈ M := List.getElem_mem hi
  refine List.ext_getElem (by rw [h3 _ hr, ← getElem!_pos (rowsN _ _) i (by rw [rowsN_len]; exact hi), rowsN_at _ _ i hi]; simp) fun j hj _ => ?_
  have hd := h4 _ hr _ (List.getElem_mem hj)
  simp only [rowsN, rowsF, List.getElem_map, List.getElem_range]
  rw [getElem!_pos M i hi, getElem!_pos _ j hj]
  omega
/-- What is wrong with two tables that are to be taken one after the other. -/
def mulBad (M M' : List (List Int)) : Int := if matBad M ≠ 0 then matBad M else if matBad M' ≠ 0 then matBad M' else if M.length ≠ M'.length then 3 else 0
theorem mul_tab {M M' : List (List Int)} (h : mulBad M M' = 0) : ∃ (n : Nat) (A B : MatP.T), 1 ≤ n ∧ n ≤ 8 ∧ MatP.Bd A ∧ MatP.Bd B ∧ M = rowsN n A ∧ M' = rowsN n B := by
  unfold mulBad at h
  split at h
  · exact absurd h ‹_›
  · rename_i h1
    split at h
    · exact absurd h ‹_›
    · rename_i h2
      split at h
      · omega
      · rename_i h3
        obtain ⟨n, A, g1, g2, g3, g4⟩ := mat_tab (Classical.not_not.1 h1)
        obtain ⟨m, B, k1, k2, k3, k4⟩ := mat_tab (Classical.not_not.1 h2)
        have e : M.length = M'.length := Classical.not_not.1 h3
        rw [g4, k4, rowsN_len, rowsN_len] at e
        subst e
        exact ⟨n, A, B, g1, g2, g3, k3, g4, k4⟩
theorem mul_rows {n : Nat} {A B : MatP.T} (h1 : 1 ≤ n) (h8 : n ≤ 8) (hA : MatP.Bd A) (hB : MatP.Bd B) : mulBad (rowsN n A) (rowsN n B) = 0 := by
  unfold mulBad
  rw [mat_rows h1 h8 hA, mat_rows h1 h8 hB, rowsN_len, rowsN_len]
  simp
end Go.Proofs.YtomfkmclgabcpaaDoor
