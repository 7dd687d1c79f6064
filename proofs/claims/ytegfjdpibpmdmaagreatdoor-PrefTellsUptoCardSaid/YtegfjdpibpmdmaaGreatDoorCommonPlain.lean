/-
  PLAIN FACTS on the greatest common network (of no program): two addresses have as many first bits in common as their difference has zeros ahead.
-/
import Derived.Test.YtegfjdpibpmdmaaGreatDoorPrefPlain
import Derived.Lib.ItoaNum
namespace Go.Proofs.YtegfjdpibpmdmaaGreatDoor

theorem MaskP.bits_fin : ∀ k : Fin 33, ∀ i : Fin 32, (MaskP.mk k.val).testBit i.val = decide (32 - k.val ≤ i.val) := by decide +kernel
theorem MaskP.bit_at (k i : Nat) (hk : k ≤ 32) (hi : i < 32) : (MaskP.mk k).testBit i = decide (32 - k ≤ i) := MaskP.bits_fin ⟨k, by omega⟩ ⟨i, hi⟩
theorem PrefP.high_bit (x i : Nat) (hx : x < 4294967296) (hi : 32 ≤ i) : x.testBit i = false :=
  Nat.testBit_lt_two_pow (Nat.lt_of_lt_of_le hx (Nat.pow_le_pow_right (n := 2) (by decide) hi))
theorem PrefP.cut_small (x k : Nat) (hx : x < 4294967296) (hk : k ≤ 32) : PrefP.cut x k = 0 ↔ x < 2 ^ (32 - k) := by
  unfold PrefP.cut
  constructor
  · intro h
    refine Nat.lt_pow_two_of_testBit x fun i hi => ?_
    by_cases h32 : i < 32
    · have h1 : (x &&& MaskP.mk k).testBit i = false := by rw [h, Nat.zero_testBit]
      rw [Nat.testBit_and, MaskP.bit_at k i hk h32, decide_eq_true hi, Bool.and_true] at h1
      exact h1
    · exact PrefP.high_bit x i hx (by omega)
  · intro h
    refine Nat.eq_of_testBit_eq fun i => ?_
    rw [Nat.testBit_and, Nat.zero_testBit]
    by_cases hi : 32 - k ≤ i
    · rw [Nat.testBit_lt_two_pow (Nat.lt_of_lt_of_le h (Nat.pow_le_pow_right (n := 2) (by decide) hi)), Bool.false_and]
    · rw [MaskP.bit_at k i hk (by omega), decide_eq_false hi, Bool.and_false]
theorem PrefP.xor_zero (x y : Nat) : x ^^^ y = 0 ↔ x = y := by
  constructor
  · intro h
    refine Nat.eq_of_testBit_eq fun i => ?_
    have h1 : (x ^^^ y).testBit i = false := by rw [h, Nat.zero_testBit]
    rw [Nat.testBit_xor] at h1
    cases hx : x.testBit i <;> cases hy : y.testBit i <;> simp_all
  · rintro rfl
    exact Nat.xor_self x
theorem PrefP.cut_xor (a b k : Nat) : PrefP.cut (a ^^^ b) k = 0 ↔ PrefP.cut a k = PrefP.cut b k := by
  unfold PrefP.cut
  rw [Nat.and_xor_distrib_right, PrefP.xor_zero]
theorem PrefP.bitLen_iff (x j : Nat) (hx : x < 4294967296) (hj : j ≤ 32) : Lib.bitLen x ≤ j ↔ x < 2 ^ j := by
  constructor
  · intro h
    by_cases h0 : x = 0
    · rw [h0]; exact Nat.two_pow_pos j
    · have hb := Lib.bitLenAux_bounds 64 x (Nat.lt_trans hx (by decide)) h0
      exact Nat.lt_of_lt_of_le hb.2.2 (Nat.pow_le_pow_right (by decide) h)
  · exact Lib.bitLen_le x j (by omega)
/-- How many first bits two addresses have in common. -/
def PrefP.same (a b : Nat) : Nat := 32 - Lib.bitLen (a ^^^ b)
theorem PrefP.xor_lt (a b : Nat) (ha : a < 4294967296) (hb : b < 4294967296) : a ^^^ b < 4294967296 := Nat.xor_lt_two_pow (n := 32) ha hb
theorem PrefP.same_iff (a b k : Nat) (ha : a < 4294967296) (hb : b < 4294967296) (hk : k ≤ 32) : k ≤ PrefP.same a b ↔ PrefP.cut a k = PrefP.cut b k := by
  have hx := PrefP.xor_lt a b ha hb
  have hl := (PrefP.bitLen_iff (a ^^^ b) 32 hx (by decide)).2 hx
  rw [← PrefP.cut_xor, PrefP.cut_small _ _ hx hk, ← PrefP.bitLen_iff _ _ hx (by omega)]
  unfold PrefP.same
  omega
theorem PrefP.same_int (a b : Nat) (ha : a < 4294967296) (hb : b < 4294967296) : 32 - (Lib.bitLen (a ^^^ b) : Int) = (PrefP.same a b : Int) := by
  have hx := PrefP.xor_lt a b ha hb
  have hl := (PrefP.bitLen_iff (a ^^^ b) 32 hx (by decide)).2 hx
  unfold PrefP.same
  omega
/-- The length of the greatest common network. -/
def PrefP.com (a n b m : Nat) : Nat := min (min n m) (PrefP.same a b)
theorem PrefP.com_iff (a n b m k : Nat) (ha : a < 4294967296) (hb : b < 4294967296) (hn : n ≤ 32) : k ≤ PrefP.com a n b m ↔ k ≤ n ∧ k ≤ m ∧ PrefP.cut a k = PrefP.cut b k := by
  unfold PrefP.com
  rw [Nat.le_min, Nat.le_min]
  constructor
  · rintro ⟨⟨h1, h2⟩, h3⟩
    exact ⟨h1, h2, (PrefP.same_iff a b k ha hb (by omega)).1 h3⟩
  · rintro ⟨h1, h2, h3⟩
    exact ⟨⟨h1, h2⟩, (PrefP.same_iff a b k ha hb (by omega)).2 h3⟩
theorem PrefP.com_comm (a n b m : Nat) : PrefP.com a n b m = PrefP.com b m a n := by
  unfold PrefP.com PrefP.same
  rw [Nat.min_comm n m, Nat.xor_comm a b]
theorem PrefP.com_cut (a n b m : Nat) (ha : a < 4294967296) (hb : b < 4294967296) (hn : n ≤ 32) : PrefP.cut a (PrefP.com a n b m) = PrefP.cut b (PrefP.com a n b m) :=
  ((PrefP.com_iff a n b m _ ha hb hn).1 (Nat.le_refl _)).2.2
theorem PrefP.com_le (a n b m : Nat) : PrefP.com a n b m ≤ n ∧ PrefP.com a n b m ≤ m := by
  unfold PrefP.com
  omega
/-- Whatever has both has it. -/
theorem PrefP.com_in (a n b m c : Nat) (j : Int) (ha : a < 4294967296) (hb : b < 4294967296) (h1 : PrefP.in a (n : Int) c j = true) (h2 : PrefP.in b (m : Int) c j = true) :
    PrefP.in (PrefP.cut a (PrefP.com a n b m)) (PrefP.com a n b m : Int) c j = true := by
  obtain ⟨n', q, e1, rfl, hn, hq, hca, hc⟩ := (PrefP.in_iff _ _ _ _).1 h1
  obtain ⟨m', q', e2, e3, hm, hq', hcb, hd⟩ := (PrefP.in_iff _ _ _ _).1 h2
  obtain rfl : n = n' := by omega
  obtain rfl : m = m' := by omega
  obtain rfl : q = q' := by omega
  have hk : q ≤ PrefP.com a n b m := (PrefP.com_iff a n b m q ha hb hn).2 ⟨hq, hq', hc.trans hd.symm⟩
  have hl := PrefP.com_le a n b m
  refine (PrefP.in_iff _ _ _ _).2 ⟨_, q, rfl, rfl, by omega, hk, PrefP.cut_cut _ _ _ (by omega) (by omega) (Nat.le_refl _), ?_⟩
  rw [PrefP.cut_cut _ _ _ (by omega) (by omega) hk, hc]
end Go.Proofs.YtegfjdpibpmdmaaGreatDoor
