/-
  PLAIN: links as numbers; what Check, Costs, Near and Cut ask of them.
-/
namespace Go.Proofs.YtomfkmclgabcpaaDoor

/-- A link: its two ends and its cost. -/
abbrev Lk := Int × Int × Int
/-- Two nodes are the ends of a link, in either order. -/
def bond (a b : Int) (x : Lk) : Bool := (x.1 == a && x.2.1 == b) || (x.1 == b && x.2.1 == a)
theorem tie_iff (a b : Int) (x : Lk) : bond a b x = true ↔ (x.1 = a ∧ x.2.1 = b) ∨ (x.1 = b ∧ x.2.1 = a) := by simp [bond]
theorem tie_not (a b : Int) (x : Lk) : bond a b x = false ↔ ¬ ((x.1 = a ∧ x.2.1 = b) ∨ (x.1 = b ∧ x.2.1 = a)) := by rw [← tie_iff]; simp
theorem tie_swap (a b : Int) (x : Lk) : bond a b x = bond b a x := by unfold bond; rw [Bool.or_comm]
theorem tie_ends (a b : Int) (x : Lk) : bond a b x = decide (min x.1 x.2.1 = min a b ∧ max x.1 x.2.1 = max a b) := by
  rw [Bool.eq_iff_iff, tie_iff, decide_eq_true_iff]
  omega
/-- A link's own fault. -/
def linkBad (n : Int) (x : Lk) : Int :=
  if x.1 < 0 ∨ n ≤ x.1 ∨ x.2.1 < 0 ∨ n ≤ x.2.1 ∨ x.2.2 < 1 ∨ 15 < x.2.2 then 1 else if x.1 = x.2.1 then 3 else 0
theorem linkBad_zero (n : Int) (x : Lk) : linkBad n x = 0 ↔ 0 ≤ x.1 ∧ x.1 < n ∧ 0 ≤ x.2.1 ∧ x.2.1 < n ∧ 1 ≤ x.2.2 ∧ x.2.2 ≤ 15 ∧ x.1 ≠ x.2.1 := by
  unfold linkBad
  split
  · constructor
    · intro h; omega
    · intro h; omega
  · split
    · constructor
      · intro h; omega
      · intro h; omega
    · constructor
      · intro _; omega
      · intro _; rfl
/-- The fault of further links behind some that are right. -/
def badFrom (n : Int) : List Lk → List Lk → Int
  | _, [] => 0
  | s, x :: r => if linkBad n x ≠ 0 then linkBad n x else if s.any (bond x.1 x.2.1) then 5 else badFrom n (s ++ [x]) r
/-- The fault of nodes and links. -/
def gBad (n : Int) (l : List Lk) : Int := if n < 1 ∨ 8 < n then 1 else badFrom n [] l
/-- Right links, each pair of ends told once. -/
def Right (n : Int) (l : List Lk) : Prop := (∀ x ∈ l, linkBad n x = 0) ∧ l.Pairwise (fun y x => bond x.1 x.2.1 y = false)
theorem badFrom_zero (n : Int) : ∀ (r s : List Lk), Right n s → (badFrom n s r = 0 ↔ Right n (s ++ r))
  | [], s, h => by simp [badFrom, h]
  | x :: r, s, h => by
    rw [badFrom]
    by_cases h1 : linkBad n x = 0
    · by_cases h2 : s.any (bond x.1 x.2.1) = true
      · rw [if_neg (by simp [h1]), if_pos h2]
        constructor
        · intro h; simp at h
        · intro h'
          obtain ⟨y, hy, ht⟩ := List.any_eq_true.1 h2
          have := (List.pairwise_append.1 h'.2).2.2 y hy x (by simp)
          rw [ht] at this
          cases this
      · rw [if_neg (by simp [h1]), if_neg h2]
        have hs : Right n (s ++ [x]) := by
          refine ⟨fun y hy => ?_, List.pairwise_append.2 ⟨h.2, by simp, fun y hy z hz => ?_⟩⟩
          · rcases List.mem_append.1 hy with hy | hy
            · exact h.1 y hy
            · simp at hy; rw [hy]; exact h1
          · simp at hz
            rw [hz]
            have : ¬ bond x.1 x.2.1 y = true := fun e => h2 (List.any_eq_true.2 ⟨y, hy, e⟩)
            simpa using this
        rw [badFrom_zero n r (s ++ [x]) hs, List.append_assoc]; rfl
    · rw [if_pos h1]
      constructor
      · intro h'; exact absurd h' h1
      · intro h'; exact absurd (h'.1 x (by simp)) h1
theorem right_nil (n : Int) : Right n [] := ⟨by simp, by simp⟩
theorem gBad_zero (n : Int) (l : List Lk) : gBad n l = 0 ↔ (1 ≤ n ∧ n ≤ 8) ∧ Right n l := by
  unfold gBad
  split
  · constructor
    · intro h; omega
    · intro h; omega
  · rw [badFrom_zero n l [] (right_nil n), List.nil_append]
    constructor
    · intro h; exact ⟨by omega, h⟩
    · intro h; exact h.2
/-- The cost between two nodes. -/
def costG (l : List Lk) (a b : Int) : Int := if a = b then 0 else match l.find? (bond a b) with | some x => x.2.2 | none => 16
theorem costG_nil (a b : Int) : costG [] a b = if a = b then 0 else 16 := rfl
theorem tie_other (a b : Int) (x y : Lk) (h : bond a b x = true) (h' : bond a b y = true) : bond x.1 x.2.1 y = true := by
  rw [tie_iff] at *; omega
/-- One link more. -/
theorem costG_more (n : Int) (l : List Lk) (x : Lk) (h : Right n (l ++ [x])) (a b : Int) : costG (l ++ [x]) a b = if bond a b x = true then x.2.2 else costG l a b := by
  have hx := (linkBad_zero n x).1 (h.1 x (by simp))
  have hn : ∀ y ∈ l, bond x.1 x.2.1 y = false := fun y hy => (List.pairwise_append.1 h.2).2.2 y hy x (by simp)
  unfold costG
  by_cases hab : a = b
  · have ht : bond a b x = false := by rw [tie_not]; omega
    rw [if_pos hab, if_pos hab, ht]; rfl
  · rw [if_neg hab, if_neg hab, List.find?_append]
    by_cases ht : bond a b x = true
    · have e : l.find? (bond a b) = none := by
        rw [List.find?_eq_none]
        intro y hy h'
        have := tie_other a b x y ht h'
        rw [hn y hy] at this
        cases this
      rw [e, if_pos ht]
      simp [ht]
    · rw [if_neg ht]
      simp only [Bool.not_eq_true] at ht
      cases e : l.find? (bond a b) with
      | none => simp [ht]
      | some y => simp
/-- A cost of right links. -/
theorem costG_is (n : Int) (l : List Lk) (h : Right n l) (a b : Int) : (a = b ∧ costG l a b = 0) ∨ (a ≠ b ∧ costG l a b = 16 ∧ ∀ y ∈ l, bond a b y = false) ∨ (a ≠ b ∧ ∃ y ∈ l, bond a b y = true ∧ costG l a b = y.2.2 ∧ 1 ≤ y.2.2 ∧ y.2.2 ≤ 15) := by
  unfold costG
  by_cases hab : a = b
  · exact Or.inl ⟨hab, if_pos hab⟩
  · rw [if_neg hab]
    right
    cases e : l.find? (bond a b) with
    | none =>
      rw [List.find?_eq_none] at e
      exact Or.inl ⟨hab, rfl, fun y hy => by simpa using e y hy⟩
    | some y =>
      have hm := List.mem_of_find?_eq_some e
      have hy := (linkBad_zero n y).1 (h.1 y hm)
      exact Or.inr ⟨hab, y, hm, List.find?_some e, rfl, by omega, by omega⟩
/-- The links without one. -/
def less (l : List Lk) (a b : Int) : List Lk := l.filter fun x => !(bond a b x)
/-- The neighbours below k. -/
def nearG (l : List Lk) (a : Int) : Nat → List Int
  | 0 => []
  | k + 1 => if (k : Int) ≠ a ∧ costG l a k < 16 then nearG l a k ++ [(k : Int)] else nearG l a k
theorem nearG_len (l : List Lk) (a : Int) : ∀ k, (nearG l a k).length ≤ k
  | 0 => Nat.le_refl _
  | k + 1 => by
    have := nearG_len l a k
    rw [nearG]; split
    · simp; omega
    · omega
end Go.Proofs.YtomfkmclgabcpaaDoor
