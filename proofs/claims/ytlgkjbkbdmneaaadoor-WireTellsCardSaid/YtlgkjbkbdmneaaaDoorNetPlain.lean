/-
  PLAIN FACTS (of no program): a right network is a stretch of addresses, from its own one on, of a power of two, at a multiple of it; two such are one within the other or apart.
-/
import Derived.Test.YtlgkjbkbdmneaaaDoorNetList
namespace Go.Proofs.YtlgkjbkbdmneaaaDoor

/-- A network's number of addresses. -/
def Nt.sz (x : Nt) : Nat := 2 ^ (32 - x.2.toNat)
/-- Where it ends. -/
def Nt.hi (x : Nt) : Nat := x.1 + x.sz
/-- A right network. -/
def Nt.V (x : Nt) : Prop := x.1 < 4294967296 ∧ PrefP.chk x.1 x.2 = 0
theorem Nt.sz_pos (x : Nt) : 0 < x.sz := Nat.two_pow_pos _

theorem mk_shape (n : Nat) (hn : n ≤ 32) : MaskP.mk n = (2 ^ n - 1) * 2 ^ (32 - n) := by
  have H : ∀ k : Fin 33, MaskP.mk k.val = (2 ^ k.val - 1) * 2 ^ (32 - k.val) := by decide +kernel
  exact H ⟨n, by omega⟩
theorem cut_div (a n : Nat) (ha : a < 4294967296) (hn : n ≤ 32) : PrefP.cut a n = a / 2 ^ (32 - n) * 2 ^ (32 - n) := by
  unfold PrefP.cut
  rw [mk_shape n hn]
  refine Nat.eq_of_testBit_eq fun i => ?_
  rw [Nat.testBit_and, Nat.testBit_mul_two_pow, Nat.testBit_mul_two_pow, Nat.testBit_two_pow_sub_one, Nat.testBit_div_two_pow]
  by_cases h : 32 - n ≤ i
  · rw [decide_eq_true h, Bool.true_and, Bool.true_and, show i - (32 - n) + (32 - n) = i by omega]
    by_cases h2 : i - (32 - n) < n
    · rw [decide_eq_true h2, Bool.and_true]
    · rw [decide_eq_false h2, Bool.and_false]
      have : a.testBit i = false := Nat.testBit_lt_two_pow (Nat.lt_of_lt_of_le ha (by
        have : 2 ^ 32 ≤ 2 ^ i := Nat.pow_le_pow_right (by decide) (by omega)
        omega))
      rw [this]
  · rw [decide_eq_false h, Bool.false_and, Bool.and_false, Bool.false_and]

/-- What a right network is. -/
theorem Nt.V.len {x : Nt} (h : x.V) : ∃ n : Nat, x.2 = (n : Int) ∧ n ≤ 32 ∧ x.sz = 2 ^ (32 - n) ∧ x.sz ∣ x.1 := by
  obtain ⟨n, h1, h2, h3⟩ := PrefP.chk_zero x.1 x.2 h.2
  have e : x.sz = 2 ^ (32 - n) := by unfold Nt.sz; rw [h1]; rfl
  refine ⟨n, h1, h2, e, ?_⟩
  rw [cut_div x.1 n h.1 h2] at h3
  rw [e]
  exact ⟨x.1 / 2 ^ (32 - n), by rw [Nat.mul_comm]; exact h3.symm⟩
theorem Nt.V.of {x : Nt} (n : Nat) (hx : x.1 < 4294967296) (h1 : x.2 = (n : Int)) (h2 : n ≤ 32) (h3 : 2 ^ (32 - n) ∣ x.1) : x.V := by
  refine ⟨hx, ?_⟩
  rw [h1]
  refine PrefP.chk_ok x.1 n h2 ?_
  rw [cut_div x.1 n hx h2]
  exact Nat.div_mul_cancel h3
theorem step_le {d a b : Nat} (h1 : d ∣ a) (h2 : d ∣ b) (h : a < b) : a + d ≤ b := by
  obtain ⟨i, rfl⟩ := h1
  obtain ⟨j, rfl⟩ := h2
  have hij : i < j := Nat.lt_of_mul_lt_mul_left h
  have := Nat.mul_le_mul_left d hij
  rwa [Nat.mul_succ] at this
theorem Nt.V.hi_le {x : Nt} (h : x.V) : x.hi ≤ 4294967296 := by
  obtain ⟨n, _, hn, e, hd⟩ := h.len
  refine step_le hd ?_ h.1
  rw [e, show (4294967296 : Nat) = 2 ^ 32 by decide]
  exact Nat.pow_dvd_pow 2 (by omega)
theorem sz_dvd {x y : Nt} {n m : Nat} (hx : x.sz = 2 ^ (32 - n)) (hy : y.sz = 2 ^ (32 - m)) (h : m ≤ n) : x.sz ∣ y.sz := by
  rw [hx, hy]; exact Nat.pow_dvd_pow 2 (by omega)
theorem sz_iff {x y : Nt} {n m : Nat} (hn : n ≤ 32) (hm : m ≤ 32) (hx : x.sz = 2 ^ (32 - n)) (hy : y.sz = 2 ^ (32 - m)) : x.sz ≤ y.sz ↔ m ≤ n := by
  rw [hx, hy, Nat.pow_le_pow_iff_right (by decide)]; omega

theorem Nt.V.has {x : Nt} (h : x.V) (a : Nat) (ha : a < 4294967296) : PrefP.has x.1 x.2 a = true ↔ x.1 ≤ a ∧ a < x.hi := by
  obtain ⟨n, h1, hn, e, hd⟩ := h.len
  rw [h1, PrefP.has_eq x.1 n a hn, beq_iff_eq, cut_div a n ha hn]
  unfold Nt.hi
  rw [e] at hd ⊢
  have hp : 0 < 2 ^ (32 - n) := Nat.two_pow_pos _
  generalize 2 ^ (32 - n) = s at hd hp ⊢
  obtain ⟨q, hq⟩ := hd
  rw [hq]
  constructor
  · intro h2
    have h3 : a / s * s = s * q := by exact_mod_cast h2
    have h4 := Nat.div_add_mod a s
    have h5 := Nat.mod_lt a hp
    rw [Nat.mul_comm] at h4
    omega
  · rintro ⟨h2, h3⟩
    have h4 : a / s = q := Nat.div_eq_of_lt_le (by rw [Nat.mul_comm]; exact h2) (by rw [Nat.succ_mul, Nat.mul_comm]; exact h3)
    rw [h4, Nat.mul_comm]
theorem Nt.V.in {x y : Nt} (hx : x.V) (hy : y.V) : PrefP.in x.1 x.2 y.1 y.2 = true ↔ y.1 ≤ x.1 ∧ x.hi ≤ y.hi := by
  obtain ⟨n, h1, hn, e, hd⟩ := hx.len
  obtain ⟨m, k1, hm, f, hf⟩ := hy.len
  have hh := hy.has x.1 hx.1
  unfold PrefP.in
  rw [hx.2, beq_self_eq_true, Bool.true_and, Bool.and_eq_true, decide_eq_true_eq, hh, k1, h1]
  have sp := x.sz_pos
  have hxh : x.hi = x.1 + x.sz := rfl
  have hyh : y.hi = y.1 + y.sz := rfl
  constructor
  · rintro ⟨h2, h3, h4⟩
    have hdv := sz_dvd e f (show m ≤ n by omega)
    exact ⟨h3, step_le hd (Nat.dvd_add (Nat.dvd_trans hdv hf) hdv) h4⟩
  · rintro ⟨h2, h3⟩
    have := (sz_iff hn hm e f).1 (by omega)
    omega
/-- One within the other, or apart. -/
theorem Nt.V.nest {x y : Nt} (hx : x.V) (hy : y.V) : (y.1 ≤ x.1 ∧ x.hi ≤ y.hi) ∨ (x.1 ≤ y.1 ∧ y.hi ≤ x.hi) ∨ x.hi ≤ y.1 ∨ y.hi ≤ x.1 := by
  obtain ⟨n, _, hn, e, hd⟩ := hx.len
  obtain ⟨m, _, hm, f, hf⟩ := hy.len
  have go : ∀ {x y : Nt}, x.sz ∣ y.sz → x.sz ∣ x.1 → y.sz ∣ y.1 → (y.1 ≤ x.1 ∧ x.hi ≤ y.hi) ∨ x.hi ≤ y.1 ∨ y.hi ≤ x.1 := by
    intro x y h1 h2 h3
    have hyl := Nat.dvd_trans h1 h3
    have hyh : x.sz ∣ y.hi := Nat.dvd_add hyl h1
    by_cases c1 : x.1 < y.1
    · exact Or.inr (Or.inl (step_le h2 hyl c1))
    · by_cases c2 : x.1 < y.hi
      · exact Or.inl ⟨by omega, step_le h2 hyh c2⟩
      · exact Or.inr (Or.inr (by omega))
  rcases Nat.le_total m n with h | h
  · rcases go (sz_dvd e f h) hd hf with h | h | h
    · exact Or.inl h
    · exact Or.inr (Or.inr (Or.inl h))
    · exact Or.inr (Or.inr (Or.inr h))
  · rcases go (sz_dvd f e h) hf hd with h | h | h
    · exact Or.inr (Or.inl h)
    · exact Or.inr (Or.inr (Or.inr h))
    · exact Or.inr (Or.inr (Or.inl h))
theorem Nt.V.ext {x y : Nt} (hx : x.V) (hy : y.V) (h1 : x.1 = y.1) (h2 : x.sz = y.sz) : x = y := by
  obtain ⟨n, a1, hn, e, _⟩ := hx.len
  obtain ⟨m, k1, hm, f, _⟩ := hy.len
  have i1 := (sz_iff hn hm e f).1 (by omega)
  have i2 := (sz_iff hm hn f e).1 (by omega)
  refine Prod.ext h1 ?_
  rw [a1, k1]; omega
theorem Nt.V.lt {x y : Nt} (hx : x.V) (hy : y.V) : Nt.lt x y = true ↔ x.1 < y.1 ∨ (x.1 = y.1 ∧ y.sz < x.sz) := by
  obtain ⟨n, a1, hn, e, _⟩ := hx.len
  obtain ⟨m, k1, hm, f, _⟩ := hy.len
  have i1 := sz_iff hn hm e f
  have i2 := sz_iff hm hn f e
  -- PrefP.less, as the order has it
  unfold Nt.lt PrefP.less
  rw [a1, k1]
  by_cases h : x.1 = y.1
  · rw [if_pos h, decide_eq_true_eq]; omega
  · rw [if_neg h, decide_eq_true_eq]; omega

end Go.Proofs.YtlgkjbkbdmneaaaDoor
