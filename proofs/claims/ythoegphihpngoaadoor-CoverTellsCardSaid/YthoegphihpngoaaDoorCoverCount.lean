/-
  PLAIN FACTS (of no program): how many addresses the networks of a list have.
-/
import Derived.Test.YthoegphihpngoaaDoorCoverGood
namespace Go.Proofs.YthoegphihpngoaaDoor

/-- How many numbers below n have a property. -/
def cnt (P : Nat → Bool) : Nat → Nat
  | 0 => 0
  | n + 1 => cnt P n + (if P n = true then 1 else 0)
theorem cnt_le (P : Nat → Bool) : ∀ n, cnt P n ≤ n
  | 0 => Nat.le_refl _
  | n + 1 => by rw [cnt]; have := cnt_le P n; split <;> omega
theorem cnt_mono {P Q : Nat → Bool} : ∀ n, (∀ a, a < n → P a = true → Q a = true) → cnt P n ≤ cnt Q n
  | 0, _ => Nat.le_refl _
  | n + 1, h => by
    rw [cnt, cnt]
    have h1 := cnt_mono n (fun a ha => h a (by omega))
    have h2 := h n (by omega)
    split
    · rw [if_pos (h2 (by assumption))]; omega
    · omega
theorem cnt_congr {P Q : Nat → Bool} (n : Nat) (h : ∀ a, a < n → P a = Q a) : cnt P n = cnt Q n :=
  Nat.le_antisymm (cnt_mono n fun a ha hp => by rw [← h a ha]; exact hp) (cnt_mono n fun a ha hp => by rw [h a ha]; exact hp)
theorem cnt_or (P Q : Nat → Bool) : ∀ n, cnt (fun a => P a || Q a) n ≤ cnt P n + cnt Q n
  | 0 => Nat.le_refl _
  | n + 1 => by
    rw [cnt, cnt, cnt]
    have := cnt_or P Q n
    cases P n <;> cases Q n <;> simp <;> omega
theorem cnt_apart (P Q : Nat → Bool) : ∀ n, (∀ a, a < n → P a = true → Q a = false) → cnt (fun a => P a || Q a) n = cnt P n + cnt Q n
  | 0, _ => rfl
  | n + 1, h => by
    rw [cnt, cnt, cnt]
    have h1 := cnt_apart P Q n (fun a ha => h a (by omega))
    have h2 := h n (by omega)
    cases hp : P n
    · cases Q n <;> simp <;> omega
    · rw [h2 hp]; simp; omega
theorem cnt_stretch (lo hi : Nat) (h : lo ≤ hi) : ∀ n, cnt (fun a => decide (lo ≤ a ∧ a < hi)) n = min n hi - min n lo
  | 0 => by simp [cnt]
  | n + 1 => by
    rw [cnt, cnt_stretch lo hi h n]
    by_cases h1 : lo ≤ n ∧ n < hi
    · rw [if_pos (decide_eq_true h1)]; omega
    · rw [if_neg (by simpa using h1)]; omega
theorem cnt_none : ∀ n, cnt (fun _ => false) n = 0
  | 0 => rfl
  | n + 1 => by rw [cnt, cnt_none n]; rfl

/-- The numbers of addresses, added. -/
def sumSz (c : List Nt) : Nat := (c.map Nt.sz).sum
theorem sum_count {N : Nat} (hN : N = 4294967296) : ∀ c : List Nt, Good c → sumSz c = cnt (fun a => anyHas c a) N
  | [], _ => by unfold sumSz anyHas; simp [cnt_none]
  | x :: r, h => by
    have xV := h.1 x (by simp)
    have hp := h.2
    rw [List.pairwise_cons] at hp
    have ih := sum_count hN r ⟨fun y hy => h.1 y (by simp [hy]), hp.2⟩
    have e1 : sumSz (x :: r) = x.sz + sumSz r := by unfold sumSz; simp
    have e2 : cnt (fun a => PrefP.has x.1 x.2 a) N = x.sz := by
      rw [cnt_congr N (Q := fun a => decide (x.1 ≤ a ∧ a < x.hi)) (fun a ha => by
        have := xV.has a (by omega)
        rw [Bool.eq_iff_iff, this, decide_eq_true_eq]), cnt_stretch x.1 x.hi (Nat.le_of_lt x.hi_gt)]
      have h1 := xV.hi_le
      have h2 : x.hi = x.1 + x.sz := rfl
      omega
    rw [e1, ih]
    have e3 : cnt (fun a => anyHas (x :: r) a) N = cnt (fun a => PrefP.has x.1 x.2 a || anyHas r a) N := cnt_congr N fun a _ => by unfold anyHas; rw [List.any_cons]
    rw [e3, cnt_apart _ _ N (fun a ha hx => by
      have hx2 := (xV.has a (by omega)).1 hx
      unfold anyHas
      rw [List.any_eq_false]
      intro y hy
      have yV := h.1 y (by simp [hy])
      rw [yV.has a (by omega)]
      have := (hp.1 y hy).1
      omega), e2]
/-- So many addresses has a list. -/
theorem size_count {N : Nat} (hN : N = 4294967296) (l : List Nt) (h : ∀ x ∈ l, x.V) : sumSz (cov l) = cnt (fun a => anyHas l a) N := by
  rw [sum_count hN (cov l) (cov_good l h)]
  exact cnt_congr N fun a ha => cov_any l h a (by omega)
theorem anyHas_app (l m : List Nt) (a : Nat) : anyHas (l ++ m) a = (anyHas l a || anyHas m a) := by
  unfold anyHas; rw [List.any_append]
theorem sizes (l m : List Nt) (hl : ∀ x ∈ l, x.V) (hm : ∀ x ∈ m, x.V) : sumSz (cov (l ++ m)) ≤ sumSz (cov l) + sumSz (cov m) ∧ sumSz (cov l) ≤ sumSz (cov (l ++ m)) ∧ sumSz (cov m) ≤ sumSz (cov (l ++ m)) ∧ sumSz (cov (l ++ m)) ≤ 4294967296 := by
  obtain ⟨N, hN⟩ : ∃ N, N = 4294967296 := ⟨_, rfl⟩
  have hlm : ∀ x ∈ l ++ m, x.V := fun x hx => by
    rw [List.mem_append] at hx
    rcases hx with hx | hx
    · exact hl x hx
    · exact hm x hx
  rw [size_count hN l hl, size_count hN m hm, size_count hN (l ++ m) hlm, ← hN]
  have e : cnt (fun a => anyHas (l ++ m) a) N = cnt (fun a => anyHas l a || anyHas m a) N := cnt_congr N fun a _ => anyHas_app l m a
  refine ⟨by rw [e]; exact cnt_or _ _ N, ?_, ?_, cnt_le _ N⟩
  · exact cnt_mono N fun a _ h => by rw [anyHas_app, h]; rfl
  · exact cnt_mono N fun a _ h => by rw [anyHas_app, h]; simp
theorem size_le (l : List Nt) (h : ∀ x ∈ l, x.V) : sumSz (cov l) ≤ 4294967296 := by
  obtain ⟨N, hN⟩ : ∃ N, N = 4294967296 := ⟨_, rfl⟩
  rw [size_count hN l h, ← hN]
  exact cnt_le _ N
theorem size_one (x : Nt) (h : x.V) : sumSz (cov [x]) = x.sz := by
  rw [cov_same [x] ⟨by simpa using h, by simp⟩]
  unfold sumSz; simp
end Go.Proofs.YthoegphihpngoaaDoor
