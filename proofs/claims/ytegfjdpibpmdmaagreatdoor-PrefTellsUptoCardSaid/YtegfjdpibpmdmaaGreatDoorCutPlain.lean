/-
  Plain facts about cutting a text at a byte: what is cut can be joined, how many cuts are enough, and when the pieces are all there are. No condition; no Go program is named here.
-/
import Derived.Lib.Split
namespace Go.Proofs.YtegfjdpibpmdmaaGreatDoor.CutP
open Go.Lib

theorem getD_at {l : List UInt8} {i : Nat} (h : i < l.length) : l.getD i 0 = l[i] := by
  simp [List.getD, List.getElem?_eq_getElem h]

theorem occ_at (x : UInt8) (s : List UInt8) (i : Nat) (hi : i + 1 ≤ s.length) : occAt s [x] i = (s.getD i 0 == x) := by
  rw [occAt_iff_take s [x] i (by simpa using hi)]
  have hl : i < s.length := by omega
  rw [show s.drop i = s[i] :: s.drop (i + 1) from List.drop_eq_getElem_cons hl, getD_at hl]
  rw [show [x].length = 1 from rfl, List.take_succ_cons, List.take_zero]
  rw [Bool.eq_iff_iff]
  simp

theorem index_hit (x : UInt8) (d r : List UInt8) (h : ∀ c ∈ d, c ≠ x) : index (d ++ x :: r) [x] = d.length := by
  refine index_first (by simp) ?_ ?_
  · rw [occ_at x _ _ (by simp), getD_at (by simp)]
    simp
  · intro j hj
    rw [occ_at x _ _ (by simp; omega)]
    have : (d ++ x :: r).getD j 0 = d[j] := by rw [getD_at (by simp; omega), List.getElem_append_left hj]
    rw [this]
    exact beq_eq_false_iff_ne.2 (h _ (List.getElem_mem hj))
theorem index_miss (x : UInt8) (d : List UInt8) (h : ∀ c ∈ d, c ≠ x) : index d [x] = -1 := by
  refine index_none fun j hj => ?_
  by_cases hl : j + 1 ≤ d.length
  · rw [occ_at x _ _ hl]
    have : d.getD j 0 = d[j] := by simp [List.getD, show j < d.length by omega]
    rw [this]
    exact beq_eq_false_iff_ne.2 (h _ (List.getElem_mem _))
  · cases e : occAt d [x] j with
    | false => rfl
    | true => rcases occAt_room e with h1 | h1
              · simp at h1; omega
              · cases h1

theorem cut_hit (x : UInt8) (k : Nat) (d r : List UInt8) (h : ∀ c ∈ d, c ≠ x) : splitK [x] 0 (k + 1) (d ++ x :: r) = d :: splitK [x] 0 k r := by
  rw [splitK, index_hit x d r h]
  rw [if_neg (by simp)]
  simp
theorem cut_miss (x : UInt8) (k : Nat) (d : List UInt8) (h : ∀ c ∈ d, c ≠ x) : splitK [x] 0 k d = [d] := by
  cases k with
  | zero => rfl
  | succ k => rw [splitK, index_miss x d h]; rfl

/-- What is cut, joined. -/
theorem index_form (x : UInt8) {s : List UInt8} {i : Nat} (h : index s [x] = i) : s = s.take i ++ x :: s.drop (i + 1) := by
  rcases index_spec s [x] with ⟨e, _⟩ | ⟨j, e, hj, ho, _⟩
  · omega
  · have : i = j := by omega
    subst this
    have hr : i + 1 ≤ s.length := by
      rcases occAt_room ho with h1 | h1
      · simpa using h1
      · cases h1
    rw [occ_at x _ _ hr] at ho
    have e46 : s[i]'(by omega) = x := by
      have := eq_of_beq ho
      simpa [List.getD, List.getElem?_eq_getElem (show i < s.length by omega)] using this
    conv => lhs; rw [← List.take_append_drop i s, List.drop_eq_getElem_cons (show i < s.length by omega), e46]
theorem cut_back (x : UInt8) (k : Nat) (s p : List UInt8) (r : List (List UInt8)) (h : splitK [x] 0 (k + 1) s = p :: r) (hr : r ≠ []) : ∃ t, s = p ++ x :: t ∧ splitK [x] 0 k t = r := by
  rw [splitK] at h
  split at h
  · simp only [List.cons.injEq] at h
    exact absurd h.2.symm hr
  · rename_i hne
    simp only [List.cons.injEq] at h
    have hi : index s [x] = ((index s [x]).toNat : Int) := by
      have h1 := index_ge s [x]
      have h2 : index s [x] ≠ -1 := fun e => hne (by rw [e]; rfl)
      omega
    refine ⟨s.drop ((index s [x]).toNat + 1), ?_, h.2⟩
    rw [← h.1]
    simpa using index_form x hi
theorem cut_last (x : UInt8) (k : Nat) (s p : List UInt8) (h : splitK [x] 0 k s = [p]) : s = p := by
  cases k with
  | zero => simpa [splitK] using h
  | succ k =>
    rw [splitK] at h
    split at h
    · simpa using h
    · simp only [List.cons.injEq] at h
      cases k with
      | zero => simp [splitK] at h
      | succ k =>
        have := h.2
        rw [splitK] at this
        split at this <;> simp at this

/-- More cuts than there are bytes change nothing. -/
theorem cut_more (c : UInt8) : ∀ (k j : Nat) (s : List UInt8), s.length ≤ k → k ≤ j → splitK [c] 0 j s = splitK [c] 0 k s
  | 0, j, s, h, _ => by
    obtain rfl : s = [] := by cases s <;> simp_all
    cases j with
    | zero => rfl
    | succ j => rfl
  | k + 1, 0, s, _, hj => by omega
  | k + 1, j + 1, s, h, hj => by
    rw [splitK, splitK]
    split
    · rfl
    · rename_i hne
      rw [cut_more c k j _ (by simp; omega) (by omega)]


/-- If there are no more pieces than cuts allowed, more cuts change nothing. -/
theorem cut_enough (c : UInt8) : ∀ (k j : Nat) (s : List UInt8), k ≤ j → (splitK [c] 0 k s).length ≤ k → splitK [c] 0 j s = splitK [c] 0 k s
  | 0, _, s, _, h => by simp [splitK] at h
  | k + 1, 0, s, hj, _ => by omega
  | k + 1, j + 1, s, hj, h => by
    rw [splitK] at h
    rw [splitK, splitK]
    split
    · rfl
    · rename_i hne
      rw [if_neg hne, List.length_cons] at h
      rw [cut_enough c k j _ (by omega) (by omega)]
/-- More cuts never give fewer pieces. -/
theorem cut_grows (c : UInt8) : ∀ (k j : Nat) (s : List UInt8), k ≤ j → (splitK [c] 0 k s).length ≤ (splitK [c] 0 j s).length
  | 0, 0, _, _ => Nat.le_refl _
  | 0, j + 1, s, _ => by
    rw [splitK, splitK]
    split <;> simp
  | k + 1, 0, _, h => by omega
  | k + 1, j + 1, s, h => by
    rw [splitK, splitK]
    split
    · exact Nat.le_refl _
    · rw [List.length_cons, List.length_cons]
      exact Nat.succ_le_succ (cut_grows c k j _ (by omega))
theorem cut_le (c : UInt8) : ∀ (k : Nat) (s : List UInt8), (splitK [c] 0 k s).length ≤ k + 1
  | 0, _ => by simp [splitK]
  | k + 1, s => by
    rw [splitK]
    split
    · simp
    · rw [List.length_cons]
      exact Nat.succ_le_succ (cut_le c k _)

/-- All pieces of a text. -/
def cutAll (c : UInt8) (l : List UInt8) : List (List UInt8) := splitK [c] 0 l.length l
/-- Four pieces are all pieces if one cut more gives no fifth. -/
theorem four_all (c : UInt8) (l : List UInt8) (n : Nat) : (cutAll c l).length = n ↔ (splitK [c] 0 n l).length = n := by
  unfold cutAll
  by_cases h : n ≤ l.length
  · constructor
    · intro e
      have h1 := cut_grows c n l.length l h
      have h2 : (splitK [c] 0 n l).length ≤ n := by omega
      rw [← cut_enough c n l.length l h h2]
      exact e
    · intro e
      rw [cut_enough c n l.length l h (by omega)]
      exact e
  · rw [cut_more c l.length n l (Nat.le_refl _) (by omega)]
theorem four_same (c : UInt8) (l : List UInt8) (n : Nat) (h : (splitK [c] 0 n l).length = n) : cutAll c l = splitK [c] 0 n l := by
  unfold cutAll
  by_cases hl : n ≤ l.length
  · rw [cut_enough c n l.length l hl (by omega)]
  · rw [cut_more c l.length n l (Nat.le_refl _) (by omega)]
theorem cutAll_le (c : UInt8) (l : List UInt8) : (cutAll c l).length ≤ l.length + 1 := cut_le c _ _
end Go.Proofs.YtegfjdpibpmdmaaGreatDoor.CutP
