/-
  PLAIN: links told in another order and turned round; links without one; neighbours.
-/
import Derived.Test.YtomfkmclgabcpaaDoorGraphPlain
namespace Go.Proofs.YtomfkmclgabcpaaDoor

theorem costG_swap (l : List Lk) (a b : Int) : costG l a b = costG l b a := by
  unfold costG
  by_cases h : a = b
  · rw [if_pos h, if_pos h.symm]
  · rw [if_neg h, if_neg (fun e => h e.symm), show bond a b = bond b a from funext (tie_swap a b)]
theorem mem_near (l : List Lk) (a x : Int) : ∀ k : Nat, x ∈ nearG l a k ↔ (0 ≤ x ∧ x < k) ∧ x ≠ a ∧ costG l a x < 16
  | 0 => by
    rw [nearG]
    constructor
    · intro h; simp at h
    · intro h; omega
  | k + 1 => by
    have ih := mem_near l a x k
    rw [nearG]
    split
    · rename_i h
      rw [List.mem_append, ih, List.mem_singleton]
      constructor
      · rintro (h' | h')
        · exact ⟨by omega, h'.2⟩
        · subst h'; exact ⟨by omega, h⟩
      · intro h'
        by_cases e : x = k
        · exact Or.inr e
        · exact Or.inl ⟨by omega, h'.2⟩
    · rename_i h
      rw [ih]
      constructor
      · intro h'; exact ⟨by omega, h'.2⟩
      · intro h'
        refine ⟨?_, h'.2⟩
        by_cases e : x = k
        · subst e; exact absurd h'.2 h
        · omega
theorem near_both (l : List Lk) (m i k : Nat) (hi : i < m) (hk : k < m) : decide ((k : Int) ∈ nearG l i m) = decide ((i : Int) ∈ nearG l k m) := by
  rw [decide_eq_decide, mem_near, mem_near, costG_swap l i k]
  constructor
  · intro h; exact ⟨by omega, fun e => h.2.1 e.symm, h.2.2⟩
  · intro h; exact ⟨by omega, fun e => h.2.1 e.symm, h.2.2⟩
/-- In right links two links between the same nodes are one. -/
theorem pair_one {a b : Int} {x y : Lk} (tx : bond a b x = true) (ty : bond a b y = true) : ∀ l : List Lk, l.Pairwise (fun y x => bond x.1 x.2.1 y = false) → x ∈ l → y ∈ l → x = y
  | [], _, hx, _ => by simp at hx
  | z :: r, h, hx, hy => by
    obtain ⟨h1, h2⟩ := List.pairwise_cons.1 h
    rcases List.mem_cons.1 hx with e | hx
    · rcases List.mem_cons.1 hy with e' | hy
      · rw [e, e']
      · have := h1 y hy
        rw [← e, tie_other a b y x ty tx] at this
        cases this
    · rcases List.mem_cons.1 hy with e' | hy
      · have := h1 x hx
        rw [← e', tie_other a b x y tx ty] at this
        cases this
      · exact pair_one tx ty r h2 hx hy
theorem right_one {n : Int} {l : List Lk} (h : Right n l) {a b : Int} {x y : Lk} (hx : x ∈ l) (hy : y ∈ l) (tx : bond a b x = true) (ty : bond a b y = true) : x = y := pair_one tx ty l h.2 hx hy
/-- A link turned round. -/
def swp (x : Lk) : Lk := (x.2.1, x.1, x.2.2)
theorem tie_swp (a b : Int) (x : Lk) : bond a b (swp x) = bond a b x := by
  rw [Bool.eq_iff_iff, tie_iff, tie_iff]
  show (x.2.1 = a ∧ x.1 = b) ∨ (x.2.1 = b ∧ x.1 = a) ↔ _
  omega
theorem tie_by_swp (x y : Lk) : bond (swp x).1 (swp x).2.1 y = bond x.1 x.2.1 y := tie_swap x.2.1 x.1 y
/-- The links from the last to the first, each turned round. -/
def backG (l : List Lk) : List Lk := l.reverse.map swp
theorem backG_cons (x : Lk) (l : List Lk) : backG (x :: l) = backG l ++ [swp x] := by simp [backG]
theorem backG_len (l : List Lk) : (backG l).length = l.length := by simp [backG]
theorem right_back {n : Int} {l : List Lk} (h : Right n l) : Right n (backG l) := by
  refine ⟨fun y hy => ?_, ?_⟩
  · simp only [backG, List.mem_map, List.mem_reverse] at hy
    obtain ⟨x, hx, rfl⟩ := hy
    have := (linkBad_zero n x).1 (h.1 x hx)
    rw [linkBad_zero]
    show 0 ≤ x.2.1 ∧ x.2.1 < n ∧ 0 ≤ x.1 ∧ x.1 < n ∧ 1 ≤ x.2.2 ∧ x.2.2 ≤ 15 ∧ x.2.1 ≠ x.1
    omega
  · unfold backG
    rw [List.pairwise_map, List.pairwise_reverse]
    refine h.2.imp (fun {p q} hpq => ?_)
    rw [tie_by_swp, tie_swp]
    cases hq : bond p.1 p.2.1 q with
    | false => rfl
    | true =>
      have : bond q.1 q.2.1 p = true := by rw [tie_iff] at hq ⊢; omega
      rw [hpq] at this
      cases this
theorem cost_back {n : Int} {l : List Lk} (h : Right n l) (a b : Int) : costG (backG l) a b = costG l a b := by
  rcases costG_is n l h a b with ⟨e, h1⟩ | ⟨e, h1, h2⟩ | ⟨e, y, hy, ty, h1, _⟩
  · rcases costG_is n _ (right_back h) a b with ⟨_, g1⟩ | ⟨g, _⟩ | ⟨g, _⟩
    · rw [h1, g1]
    · exact absurd e g
    · exact absurd e g
  · rcases costG_is n _ (right_back h) a b with ⟨g, _⟩ | ⟨_, g1, _⟩ | ⟨_, z, hz, tz, _⟩
    · exact absurd g e
    · rw [h1, g1]
    · simp only [backG, List.mem_map, List.mem_reverse] at hz
      obtain ⟨x, hx, rfl⟩ := hz
      rw [tie_swp, h2 x hx] at tz
      cases tz
  · rcases costG_is n _ (right_back h) a b with ⟨g, _⟩ | ⟨_, _, g2⟩ | ⟨_, z, hz, tz, g1, _⟩
    · exact absurd g e
    · have := g2 (swp y) (by simp only [backG, List.mem_map, List.mem_reverse]; exact ⟨y, hy, rfl⟩)
      rw [tie_swp, ty] at this
      cases this
    · simp only [backG, List.mem_map, List.mem_reverse] at hz
      obtain ⟨x, hx, rfl⟩ := hz
      rw [tie_swp] at tz
      rw [h1, g1, right_one h hx hy tz ty]
      rfl
theorem right_less {n : Int} {l : List Lk} (h : Right n l) (a b : Int) : Right n (less l a b) :=
  ⟨fun x hx => h.1 x (List.mem_filter.1 hx).1, h.2.filter _⟩
theorem cost_less {n : Int} {l : List Lk} (h : Right n l) (a b : Int) (hl : (less l a b).length ≠ l.length) (i k : Int) : costG (less l a b) i k = if (i = a ∧ k = b) ∨ (i = b ∧ k = a) then 16 else costG l i k := by
  have hab : a ≠ b := by
    intro e
    subst e
    refine hl ?_
    unfold less
    rw [List.filter_eq_self.2]
    intro x hx
    have := (linkBad_zero n x).1 (h.1 x hx)
    have ht : bond a a x = false := by rw [tie_not]; omega
    rw [ht]; rfl
  unfold costG less
  by_cases hik : i = k
  · rw [if_pos hik, if_pos hik, if_neg (by omega)]
  · rw [if_neg hik, if_neg hik, List.find?_filter]
    by_cases hp : (i = a ∧ k = b) ∨ (i = b ∧ k = a)
    · rw [if_pos hp]
      have e : (fun x => decide ((!(bond a b x)) = true ∧ bond i k x = true)) = fun _ => false := by
        funext x
        have : bond i k x = bond a b x := by
          rcases hp with ⟨rfl, rfl⟩ | ⟨rfl, rfl⟩
          · rfl
          · exact tie_swap _ _ x
        rw [this]
        cases bond a b x <;> rfl
      rw [e, List.find?_eq_none.2 (by simp)]
    · rw [if_neg hp]
      have e : (fun x => decide ((!(bond a b x)) = true ∧ bond i k x = true)) = bond i k := by
        funext x
        cases h1 : bond i k x with
        | false => simp
        | true =>
          have h2 : bond a b x = false := by rw [tie_not]; rw [tie_iff] at h1; omega
          simp [h2]
      rw [e]
end Go.Proofs.YtomfkmclgabcpaaDoor
