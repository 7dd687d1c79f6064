/-
  PLAIN FACTS on networks (of no program): what is left of an address by a mask; which networks are right; which have an address, or another network.
-/
import Derived.Test.YtoocmogmocapoaaDoorMaskPlain
namespace Go.Proofs.YtoocmogmocapoaaDoor

/-- What is left of an address by its first n bits. -/
def PrefP.cut (a n : Nat) : Nat := a &&& MaskP.mk n
theorem PrefP.cut_le (a n : Nat) : PrefP.cut a n ≤ a := Nat.and_le_left
theorem PrefP.cut_lt (a n : Nat) : PrefP.cut a n < 4294967296 := Nat.lt_of_le_of_lt Nat.and_le_right (MaskP.lt n)
theorem PrefP.cut_int (a n : Nat) (ha : a < 4294967296) : bits .and .u32 (a : Int) (MaskP.mk n : Int) = (PrefP.cut a n : Int) := u32_and_nat _ _ ha (MaskP.lt n)
theorem PrefP.cut_cut (a n k : Nat) (hn : n ≤ 32) (hk : k ≤ 32) (h : k ≤ n) : PrefP.cut (PrefP.cut a n) k = PrefP.cut a k := by
  unfold PrefP.cut
  rw [Nat.and_assoc, Nat.and_comm (MaskP.mk n), MaskP.and_more k n hk hn h]
theorem PrefP.cut_cut' (a n k : Nat) (hn : n ≤ 32) (hk : k ≤ 32) (h : n ≤ k) : PrefP.cut (PrefP.cut a n) k = PrefP.cut a n := by
  unfold PrefP.cut
  rw [Nat.and_assoc, MaskP.and_more n k hn hk h]
theorem PrefP.cut_all (a : Nat) (ha : a < 4294967296) : PrefP.cut a 32 = a := by
  unfold PrefP.cut
  rw [show MaskP.mk 32 = 2 ^ 32 - 1 by decide, Nat.and_two_pow_sub_one_eq_mod]
  omega
/-- The bit behind the first n ones. -/
def PrefP.bit (n : Nat) : Nat := 2 ^ (31 - n)
theorem PrefP.bit_lt (n : Nat) : PrefP.bit n < 4294967296 := Nat.lt_of_le_of_lt (Nat.pow_le_pow_right (by decide) (show 31 - n ≤ 31 by omega)) (by decide)
theorem PrefP.or_int (a n : Nat) (ha : a < 4294967296) : bits .or .u32 (a : Int) (2 ^ (31 - n) % 4294967296) = ((a ||| PrefP.bit n : Nat) : Int) := by
  have h := PrefP.bit_lt n
  have e : (2 ^ (31 - n) % 4294967296 : Int) = (PrefP.bit n : Int) := by
    rw [Int.emod_eq_of_lt (Int.pow_nonneg (by decide)) (by have h' : ((PrefP.bit n : Nat) : Int) < 4294967296 := by omega
                                                           rw [PrefP.bit, Int.natCast_pow] at h'; exact h')]
    rw [PrefP.bit, Int.natCast_pow]; rfl
  rw [e, u32_or_nat _ _ ha h]

/-! ### Both halves -/
theorem PrefP.mk_bit (n : Nat) (hn : n < 32) : MaskP.mk (n + 1) = MaskP.mk n ||| PrefP.bit n := (MaskP.or_bit n hn).symm
theorem PrefP.bit_mk (n : Nat) (hn : n < 32) : PrefP.bit n &&& MaskP.mk n = 0 := MaskP.upto31 (P := fun n => PrefP.bit n &&& MaskP.mk n = 0) (by decide +kernel) n hn
theorem PrefP.bit_mk1 (n : Nat) (hn : n < 32) : PrefP.bit n &&& MaskP.mk (n + 1) = PrefP.bit n := MaskP.upto31 (P := fun n => PrefP.bit n &&& MaskP.mk (n + 1) = PrefP.bit n) (by decide +kernel) n hn
theorem PrefP.bit_pos (n : Nat) : 0 < PrefP.bit n := Nat.two_pow_pos _
theorem PrefP.cut_bit (a n : Nat) (hn : n < 32) : PrefP.cut a n &&& PrefP.bit n = 0 := by
  unfold PrefP.cut
  rw [Nat.and_assoc, Nat.and_comm (MaskP.mk n), PrefP.bit_mk n hn, Nat.and_zero]
theorem PrefP.half0 (a n : Nat) (hn : n < 32) (hc : PrefP.cut a n = a) : PrefP.cut a (n + 1) = a := by
  rw [← hc, PrefP.cut_cut' a n (n + 1) (by omega) (by omega) (by omega)]
theorem PrefP.half1 (a n : Nat) (hn : n < 32) (hc : PrefP.cut a n = a) : PrefP.cut (a ||| PrefP.bit n) (n + 1) = a ||| PrefP.bit n := by
  have h := PrefP.half0 a n hn hc
  unfold PrefP.cut at h ⊢
  rw [Nat.and_or_distrib_right, h, PrefP.bit_mk1 n hn]
theorem PrefP.half1_up (a n : Nat) (hn : n < 32) (hc : PrefP.cut a n = a) : PrefP.cut (a ||| PrefP.bit n) n = a := by
  unfold PrefP.cut at hc ⊢
  rw [Nat.and_or_distrib_right, hc, PrefP.bit_mk n hn, Nat.or_zero]
theorem PrefP.half1_lt (a n : Nat) (ha : a < 4294967296) : a ||| PrefP.bit n < 4294967296 := Nat.or_lt_two_pow (n := 32) ha (PrefP.bit_lt n)
theorem PrefP.half_less (a n : Nat) (hn : n < 32) (hc : PrefP.cut a n = a) : a < a ||| PrefP.bit n := by
  refine Nat.lt_of_le_of_ne Nat.left_le_or fun h => ?_
  have h1 : (a ||| PrefP.bit n) &&& PrefP.bit n = a &&& PrefP.bit n := by rw [← h]
  have h2 := PrefP.cut_bit a n hn
  rw [hc] at h2
  rw [Nat.and_or_distrib_right, h2, Nat.zero_or, Nat.and_self] at h1
  have := PrefP.bit_pos n
  omega
theorem PrefP.and_bit (x n : Nat) : x &&& PrefP.bit n = 0 ∨ x &&& PrefP.bit n = PrefP.bit n := by
  unfold PrefP.bit
  cases hb : x.testBit (31 - n) with
  | false =>
    refine Or.inl (Nat.eq_of_testBit_eq fun i => ?_)
    rw [Nat.testBit_and, Nat.testBit_two_pow, Nat.zero_testBit]
    by_cases hi : 31 - n = i
    · rw [← hi, hb, Bool.false_and]
    · rw [decide_eq_false hi, Bool.and_false]
  | true =>
    refine Or.inr (Nat.eq_of_testBit_eq fun i => ?_)
    rw [Nat.testBit_and, Nat.testBit_two_pow]
    by_cases hi : 31 - n = i
    · rw [← hi, hb, Bool.true_and]
    · rw [decide_eq_false hi, Bool.and_false]
theorem PrefP.cut_more (x n : Nat) (hn : n < 32) : PrefP.cut x (n + 1) = PrefP.cut x n ||| (x &&& PrefP.bit n) := by
  unfold PrefP.cut
  rw [PrefP.mk_bit n hn, Nat.and_or_distrib_left]
/-- An address of a network is in one half, one of no other network in none. -/
theorem PrefP.halves (a n x : Nat) (hn : n < 32) (hc : PrefP.cut a n = a) :
    (PrefP.cut x n = a ∧ ((PrefP.cut x (n + 1) = a ∧ PrefP.cut x (n + 1) ≠ a ||| PrefP.bit n) ∨ (PrefP.cut x (n + 1) ≠ a ∧ PrefP.cut x (n + 1) = a ||| PrefP.bit n))) ∨
    (PrefP.cut x n ≠ a ∧ PrefP.cut x (n + 1) ≠ a ∧ PrefP.cut x (n + 1) ≠ a ||| PrefP.bit n) := by
  have hl := PrefP.half_less a n hn hc
  have hd : PrefP.cut (PrefP.cut x (n + 1)) n = PrefP.cut x n := PrefP.cut_cut x (n + 1) n (by omega) (by omega) (by omega)
  by_cases h : PrefP.cut x n = a
  · refine Or.inl ⟨h, ?_⟩
    rcases PrefP.and_bit x n with hb | hb
    · refine Or.inl ?_
      have e : PrefP.cut x (n + 1) = a := by rw [PrefP.cut_more x n hn, hb, h, Nat.or_zero]
      exact ⟨e, by omega⟩
    · refine Or.inr ?_
      have e : PrefP.cut x (n + 1) = a ||| PrefP.bit n := by rw [PrefP.cut_more x n hn, hb, h]
      exact ⟨by omega, e⟩
  · refine Or.inr ⟨h, fun e => h ?_, fun e => h ?_⟩
    · rw [← hd, e, hc]
    · rw [← hd, e, PrefP.half1_up a n hn hc]

/-- Is a network right? 0: yes; 1: its length is none; 3: a bit is set behind its length. -/
def PrefP.chk (a : Nat) (l : Int) : Int := if l < 0 ∨ 32 < l then 1 else if PrefP.cut a l.toNat = a then 0 else 3
/-- Has a network an address? -/
def PrefP.has (a : Nat) (l : Int) (x : Nat) : Bool := !decide (l < 0) && !decide (32 < l) && ((PrefP.cut x l.toNat : Int) == (a : Int))
/-- Is the first network within the second one? -/
def PrefP.in (a : Nat) (l : Int) (b : Nat) (k : Int) : Bool := (PrefP.chk a l == 0) && decide (k ≤ l) && PrefP.has b k a
/-- Is the first network ahead of the second one? -/
def PrefP.less (a : Nat) (l : Int) (b : Nat) (k : Int) : Bool := if a = b then decide (l < k) else decide (a < b)

theorem PrefP.chk_range (a : Nat) (l : Int) (h : l < 0 ∨ 32 < l) : PrefP.chk a l = 1 := if_pos h
theorem PrefP.chk_ok (a n : Nat) (hn : n ≤ 32) (h : PrefP.cut a n = a) : PrefP.chk a (n : Int) = 0 := by
  unfold PrefP.chk
  rw [if_neg (by omega), if_pos (by simpa using h)]
theorem PrefP.chk_form (a n : Nat) (hn : n ≤ 32) (h : PrefP.cut a n ≠ a) : PrefP.chk a (n : Int) = 3 := by
  unfold PrefP.chk
  rw [if_neg (by omega), if_neg (by simpa using h)]
/-- A network's three ways. -/
theorem PrefP.chk_cases (a : Nat) (l : Int) : ((l < 0 ∨ 32 < l) ∧ PrefP.chk a l = 1) ∨ (∃ n : Nat, l = (n : Int) ∧ n ≤ 32 ∧ PrefP.cut a n ≠ a ∧ PrefP.chk a l = 3) ∨ (∃ n : Nat, l = (n : Int) ∧ n ≤ 32 ∧ PrefP.cut a n = a ∧ PrefP.chk a l = 0) := by
  by_cases h : l < 0 ∨ 32 < l
  · exact Or.inl ⟨h, PrefP.chk_range a l h⟩
  · obtain ⟨n, rfl⟩ := Int.eq_ofNat_of_zero_le (show 0 ≤ l by omega)
    by_cases hc : PrefP.cut a n = a
    · exact Or.inr (Or.inr ⟨n, rfl, by omega, hc, PrefP.chk_ok a n (by omega) hc⟩)
    · exact Or.inr (Or.inl ⟨n, rfl, by omega, hc, PrefP.chk_form a n (by omega) hc⟩)
theorem PrefP.chk_zero (a : Nat) (l : Int) (h : PrefP.chk a l = 0) : ∃ n : Nat, l = (n : Int) ∧ n ≤ 32 ∧ PrefP.cut a n = a := by
  rcases PrefP.chk_cases a l with ⟨_, h1⟩ | ⟨_, _, _, _, h1⟩ | ⟨n, h1, h2, h3, _⟩
  · omega
  · omega
  · exact ⟨n, h1, h2, h3⟩
theorem PrefP.has_range (a : Nat) (l : Int) (x : Nat) (h : l < 0 ∨ 32 < l) : PrefP.has a l x = false := by
  unfold PrefP.has
  rcases h with h | h <;> simp [h]
theorem PrefP.has_eq (a n x : Nat) (hn : n ≤ 32) : PrefP.has a (n : Int) x = ((PrefP.cut x n : Int) == (a : Int)) := by
  unfold PrefP.has
  rw [decide_eq_false (show ¬ ((n : Int) < 0) by omega), decide_eq_false (show ¬ ((32 : Int) < n) by omega)]
  simp
theorem PrefP.has_iff (a : Nat) (l : Int) (x : Nat) : PrefP.has a l x = true ↔ ∃ n : Nat, l = (n : Int) ∧ n ≤ 32 ∧ PrefP.cut x n = a := by
  by_cases h : l < 0 ∨ 32 < l
  · rw [PrefP.has_range a l x h]
    constructor
    · intro h; simp at h
    · rintro ⟨n, rfl, hn, _⟩; omega
  · obtain ⟨n, rfl⟩ := Int.eq_ofNat_of_zero_le (show 0 ≤ l by omega)
    rw [PrefP.has_eq a n x (by omega)]
    constructor
    · intro hc
      exact ⟨n, rfl, by omega, by have := eq_of_beq hc; omega⟩
    · rintro ⟨k, hk, _, hc⟩
      obtain rfl : n = k := by omega
      rw [hc]; simp
theorem PrefP.in_iff (a : Nat) (l : Int) (b : Nat) (k : Int) : PrefP.in a l b k = true ↔ ∃ n m : Nat, l = (n : Int) ∧ k = (m : Int) ∧ n ≤ 32 ∧ m ≤ n ∧ PrefP.cut a n = a ∧ PrefP.cut a m = b := by
  unfold PrefP.in
  rw [Bool.and_eq_true, Bool.and_eq_true, PrefP.has_iff, beq_iff_eq, decide_eq_true_iff]
  constructor
  · rintro ⟨⟨h1, h2⟩, m, rfl, hm, h3⟩
    obtain ⟨n, rfl, hn, h4⟩ := PrefP.chk_zero a l h1
    exact ⟨n, m, rfl, rfl, hn, by omega, h4, h3⟩
  · rintro ⟨n, m, rfl, rfl, hn, hm, h1, h2⟩
    exact ⟨⟨PrefP.chk_ok a n hn h1, by omega⟩, m, rfl, by omega, h2⟩

/-! ### One within the other -/
theorem PrefP.nest (a : Nat) (l : Int) (b : Nat) (k : Int) (x : Nat) (h1 : PrefP.has a l x = true) (h2 : PrefP.has b k x = true) : PrefP.in a l b k = true ∨ PrefP.in b k a l = true := by
  obtain ⟨n, rfl, hn, ha⟩ := (PrefP.has_iff _ _ _).1 h1
  obtain ⟨m, rfl, hm, hb⟩ := (PrefP.has_iff _ _ _).1 h2
  rcases Nat.le_total m n with h | h
  · refine Or.inl ((PrefP.in_iff _ _ _ _).2 ⟨n, m, rfl, rfl, hn, h, ?_, ?_⟩)
    · rw [← ha, PrefP.cut_cut _ _ _ hn hn (Nat.le_refl n)]
    · rw [← ha, PrefP.cut_cut _ _ _ hn hm h, hb]
  · refine Or.inr ((PrefP.in_iff _ _ _ _).2 ⟨m, n, rfl, rfl, hm, h, ?_, ?_⟩)
    · rw [← hb, PrefP.cut_cut _ _ _ hm hm (Nat.le_refl m)]
    · rw [← hb, PrefP.cut_cut _ _ _ hm hn h, ha]
theorem PrefP.in_anti (a : Nat) (l : Int) (b : Nat) (k : Int) (h1 : PrefP.in a l b k = true) (h2 : PrefP.in b k a l = true) : a = b ∧ l = k := by
  obtain ⟨n, m, rfl, rfl, hn, hm, ha, hb⟩ := (PrefP.in_iff _ _ _ _).1 h1
  obtain ⟨n', m', hn', hm', _, hmm, hc, hd⟩ := (PrefP.in_iff _ _ _ _).1 h2
  obtain rfl : m = n' := by omega
  obtain rfl : n = m' := by omega
  obtain rfl : n = m := by omega
  exact ⟨by rw [← ha, hb], rfl⟩
theorem PrefP.in_trans (a : Nat) (l : Int) (b : Nat) (k : Int) (c : Nat) (j : Int) (h1 : PrefP.in a l b k = true) (h2 : PrefP.in b k c j = true) : PrefP.in a l c j = true := by
  obtain ⟨n, m, rfl, rfl, hn, hm, ha, hb⟩ := (PrefP.in_iff _ _ _ _).1 h1
  obtain ⟨n', q, hn', rfl, _, hq, hc, hd⟩ := (PrefP.in_iff _ _ _ _).1 h2
  obtain rfl : m = n' := by omega
  refine (PrefP.in_iff _ _ _ _).2 ⟨n, q, rfl, rfl, hn, by omega, ha, ?_⟩
  rw [← hd, ← hb, PrefP.cut_cut _ _ _ (by omega) (by omega) hq]
theorem PrefP.in_has (a : Nat) (l : Int) (b : Nat) (k : Int) (x : Nat) (h1 : PrefP.in a l b k = true) (h2 : PrefP.has a l x = true) : PrefP.has b k x = true := by
  obtain ⟨n, m, rfl, rfl, hn, hm, ha, hb⟩ := (PrefP.in_iff _ _ _ _).1 h1
  obtain ⟨n', hn', _, hx⟩ := (PrefP.has_iff _ _ _).1 h2
  obtain rfl : n = n' := by omega
  refine (PrefP.has_iff _ _ _).2 ⟨m, rfl, by omega, ?_⟩
  rw [← hb, ← hx, PrefP.cut_cut _ _ _ (by omega) (by omega) hm]

theorem PrefP.cut_zero (a : Nat) : PrefP.cut a 0 = 0 := by
  unfold PrefP.cut
  rw [show MaskP.mk 0 = 0 by decide, Nat.and_zero]
theorem PrefP.in_cut (a : Nat) (n m : Nat) (hn : n ≤ 32) (hm : m ≤ n) (hc : PrefP.cut a n = a) : PrefP.in a (n : Int) (PrefP.cut a m) (m : Int) = true :=
  (PrefP.in_iff _ _ _ _).2 ⟨n, m, rfl, rfl, hn, hm, hc, rfl⟩

/-! ### One ahead of the other -/
theorem PrefP.less_iff (a : Nat) (l : Int) (b : Nat) (k : Int) : PrefP.less a l b k = true ↔ a < b ∨ a = b ∧ l < k := by
  unfold PrefP.less
  by_cases h : a = b
  · rw [if_pos h, decide_eq_true_iff]; omega
  · rw [if_neg h, decide_eq_true_iff]; omega
theorem PrefP.less_self (a : Nat) (l : Int) : PrefP.less a l a l = false := by
  rw [Bool.eq_false_iff, ne_eq, PrefP.less_iff]; omega
theorem PrefP.less_one (a : Nat) (l : Int) (b : Nat) (k : Int) (h : ¬ (a = b ∧ l = k)) : PrefP.less a l b k = !PrefP.less b k a l := by
  cases h1 : PrefP.less b k a l with
  | true =>
    rw [PrefP.less_iff] at h1
    rw [Bool.not_true, Bool.eq_false_iff, ne_eq, PrefP.less_iff]; omega
  | false =>
    rw [Bool.eq_false_iff, ne_eq, PrefP.less_iff] at h1
    rw [Bool.not_false, PrefP.less_iff]; omega
theorem PrefP.less_trans (a : Nat) (l : Int) (b : Nat) (k : Int) (c : Nat) (j : Int) (h1 : PrefP.less a l b k = true) (h2 : PrefP.less b k c j = true) : PrefP.less a l c j = true := by
  rw [PrefP.less_iff] at h1 h2 ⊢; omega
theorem PrefP.in_less (a : Nat) (l : Int) (b : Nat) (k : Int) (h : PrefP.in a l b k = true) (hne : ¬ (a = b ∧ l = k)) : PrefP.less b k a l = true := by
  obtain ⟨n, m, rfl, rfl, hn, hm, ha, hb⟩ := (PrefP.in_iff _ _ _ _).1 h
  rw [PrefP.less_iff]
  have := PrefP.cut_le a m
  omega
end Go.Proofs.YtoocmogmocapoaaDoor
