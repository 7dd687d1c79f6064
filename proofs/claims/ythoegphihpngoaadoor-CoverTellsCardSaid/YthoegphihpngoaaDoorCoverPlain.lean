/-
  PLAIN FACTS (of no program): a right network is a stretch of addresses, from its own one on, of a power of two, at a multiple of it; two such are one within the other or apart; two halves.
-/
import Derived.Test.YthoegphihpngoaaDoorCoverWhole
namespace Go.Proofs.YthoegphihpngoaaDoor

/-- A network's number of addresses. -/
def Nt.sz (x : Nt) : Nat := 2 ^ (32 - x.2.toNat)
/-- Where it ends. -/
def Nt.hi (x : Nt) : Nat := x.1 + x.sz
/-- A right network. -/
def Nt.V (x : Nt) : Prop := x.1 < 4294967296 ∧ PrefP.chk x.1 x.2 = 0
theorem Nt.sz_pos (x : Nt) : 0 < x.sz := Nat.two_pow_pos _

theorem mk_shape (n : Nat) (hn : n ≤ 32) : MaskP.mk n = (2 ^ n - 1) * 2 ^ (32 - n) := by
  have H : ∀ k : Fin 33, MaskP.mk k.val = (2 ^ k.val - 1) * 2 ^ (32 - k.val) := by decide +kernel
  exact H ⟨n, by omega⟩
theorem cut_div (a n : Nat) (ha : a < 4294967296) (hn : n ≤ 32) : PrefP.cut a n = a / 2 ^ (32 - n) * 2 ^ (32 - n) := by
  unfold PrefP.cut
  rw [mk_shape n hn]
  refine Nat.eq_of_testBit_eq fun i => ?_
  rw [Nat.testBit_and, Nat.testBit_mul_two_pow, Nat.testBit_mul_two_pow, Nat.testBit_two_pow_sub_one, Nat.testBit_div_two_pow]
  by_cases h : 32 - n ≤ i
  · rw [decide_eq_true h, Bool.true_and, Bool.true_and, show i - (32 - n) + (32 - n) = i by omega]
    by_cases h2 : i - (32 - n) < n
    · rw [decide_eq_true h2, Bool.and_true]
    · rw [decide_eq_false h2, Bool.and_false]
      have : a.testBit i = false := Nat.testBit_lt_two_pow (Nat.lt_of_lt_of_le ha (by
        have : 2 ^ 32 ≤ 2 ^ i := Nat.pow_le_pow_right (by decide) (by omega)
        omega))
      rw [this]
  · rw [decide_eq_false h, Bool.false_and, Bool.and_false, Bool.false_and]

/-- What a right network is. -/
theorem Nt.V.len {x : Nt} (h : x.V) : ∃ n : Nat, x.2 = (n : Int) ∧ n ≤ 32 ∧ x.sz = 2 ^ (32 - n) ∧ x.sz ∣ x.1 := by
  obtain ⟨n, h1, h2, h3⟩ := PrefP.chk_zero x.1 x.2 h.2
  have e : x.sz = 2 ^ (32 - n) := by unfold Nt.sz; rw [h1]; rfl
  refine ⟨n, h1, h2, e, ?_⟩
  rw [cut_div x.1 n h.1 h2] at h3
  rw [e]
  exact ⟨x.1 / 2 ^ (32 - n), by rw [Nat.mul_comm]; exact h3.symm⟩
theorem Nt.V.of {x : Nt} (n : Nat) (hx : x.1 < 4294967296) (h1 : x.2 = (n : Int)) (h2 : n ≤ 32) (h3 : 2 ^ (32 - n) ∣ x.1) : x.V := by
  refine ⟨hx, ?_⟩
  rw [h1]
  refine PrefP.chk_ok x.1 n h2 ?_
  rw [cut_div x.1 n hx h2]
  exact Nat.div_mul_cancel h3
theorem step_le {d a b : Nat} (h1 : d ∣ a) (h2 : d ∣ b) (h : a < b) : a + d ≤ b := by
  obtain ⟨i, rfl⟩ := h1
  obtain ⟨j, rfl⟩ := h2
  have hij : i < j := Nat.lt_of_mul_lt_mul_left h
  have := Nat.mul_le_mul_left d hij
  rwa [Nat.mul_succ] at this
theorem Nt.V.hi_le {x : Nt} (h : x.V) : x.hi ≤ 4294967296 := by
  obtain ⟨n, _, hn, e, hd⟩ := h.len
  refine step_le hd ?_ h.1
  rw [e, show (4294967296 : Nat) = 2 ^ 32 by decide]
  exact Nat.pow_dvd_pow 2 (by omega)
theorem sz_dvd {x y : Nt} {n m : Nat} (hx : x.sz = 2 ^ (32 - n)) (hy : y.sz = 2 ^ (32 - m)) (h : m ≤ n) : x.sz ∣ y.sz := by
  rw [hx, hy]; exact Nat.pow_dvd_pow 2 (by omega)
theorem sz_iff {x y : Nt} {n m : Nat} (hn : n ≤ 32) (hm : m ≤ 32) (hx : x.sz = 2 ^ (32 - n)) (hy : y.sz = 2 ^ (32 - m)) : x.sz ≤ y.sz ↔ m ≤ n := by
  rw [hx, hy, Nat.pow_le_pow_iff_right (by decide)]; omega

theorem Nt.V.has {x : Nt} (h : x.V) (a : Nat) (ha : a < 4294967296) : PrefP.has x.1 x.2 a = true ↔ x.1 ≤ a ∧ a < x.hi := by
  obtain ⟨n, h1, hn, e, hd⟩ := h.len
  rw [h1, PrefP.has_eq x.1 n a hn, beq_iff_eq, cut_div a n ha hn]
  unfold Nt.hi
  rw [e] at hd ⊢
  have hp : 0 < 2 ^ (32 - n) := Nat.two_pow_pos _
  generalize 2 ^ (32 - n) = s at hd hp ⊢
  obtain ⟨q, hq⟩ := hd
  rw [hq]
  constructor
  · intro h2
    have h3 : a / s * s = s * q := by exact_mod_cast h2
    have h4 := Nat.div_add_mod a s
    have h5 := Nat.mod_lt a hp
    rw [Nat.mul_comm] at h4
    omega
  · rintro ⟨h2, h3⟩
    have h4 : a / s = q := Nat.div_eq_of_lt_le (by rw [Nat.mul_comm]; exact h2) (by rw [Nat.succ_mul, Nat.mul_comm]; exact h3)
    rw [h4, Nat.mul_comm]
theorem Nt.V.in {x y : Nt} (hx : x.V) (hy : y.V) : PrefP.in x.1 x.2 y.1 y.2 = true ↔ y.1 ≤ x.1 ∧ x.hi ≤ y.hi := by
  obtain ⟨n, h1, hn, e, hd⟩ := hx.len
  obtain ⟨m, k1, hm, f, hf⟩ := hy.len
  have hh := hy.has x.1 hx.1
  unfold PrefP.in
  rw [hx.2, beq_self_eq_true, Bool.true_and, Bool.and_eq_true, decide_eq_true_eq, hh, k1, h1]
  have sp := x.sz_pos
  have hxh : x.hi = x.1 + x.sz := rfl
  have hyh : y.hi = y.1 + y.sz := rfl
  constructor
  · rintro ⟨h2, h3, h4⟩
    have hdv := sz_dvd e f (show m ≤ n by omega)
    exact ⟨h3, step_le hd (Nat.dvd_add (Nat.dvd_trans hdv hf) hdv) h4⟩
  · rintro ⟨h2, h3⟩
    have := (sz_iff hn hm e f).1 (by omega)
    omega
/-- One within the other, or apart. -/
theorem Nt.V.nest {x y : Nt} (hx : x.V) (hy : y.V) : (y.1 ≤ x.1 ∧ x.hi ≤ y.hi) ∨ (x.1 ≤ y.1 ∧ y.hi ≤ x.hi) ∨ x.hi ≤ y.1 ∨ y.hi ≤ x.1 := by
  obtain ⟨n, _, hn, e, hd⟩ := hx.len
  obtain ⟨m, _, hm, f, hf⟩ := hy.len
  have go : ∀ {x y : Nt}, x.sz ∣ y.sz → x.sz ∣ x.1 → y.sz ∣ y.1 → (y.1 ≤ x.1 ∧ x.hi ≤ y.hi) ∨ x.hi ≤ y.1 ∨ y.hi ≤ x.1 := by
    intro x y h1 h2 h3
    have hyl := Nat.dvd_trans h1 h3
    have hyh : x.sz ∣ y.hi := Nat.dvd_add hyl h1
    by_cases c1 : x.1 < y.1
    · exact Or.inr (Or.inl (step_le h2 hyl c1))
    · by_cases c2 : x.1 < y.hi
      · exact Or.inl ⟨by omega, step_le h2 hyh c2⟩
      · exact Or.inr (Or.inr (by omega))
  rcases Nat.le_total m n with h | h
  · rcases go (sz_dvd e f h) hd hf with h | h | h
    · exact Or.inl h
    · exact Or.inr (Or.inr (Or.inl h))
    · exact Or.inr (Or.inr (Or.inr h))
  · rcases go (sz_dvd f e h) hf hd with h | h | h
    · exact Or.inr (Or.inl h)
    · exact Or.inr (Or.inr (Or.inr h))
    · exact Or.inr (Or.inr (Or.inl h))
theorem Nt.V.ext {x y : Nt} (hx : x.V) (hy : y.V) (h1 : x.1 = y.1) (h2 : x.sz = y.sz) : x = y := by
  obtain ⟨n, a1, hn, e, _⟩ := hx.len
  obtain ⟨m, k1, hm, f, _⟩ := hy.len
  have i1 := (sz_iff hn hm e f).1 (by omega)
  have i2 := (sz_iff hm hn f e).1 (by omega)
  refine Prod.ext h1 ?_
  rw [a1, k1]; omega
theorem Nt.V.lt {x y : Nt} (hx : x.V) (hy : y.V) : Nt.lt x y = true ↔ x.1 < y.1 ∨ (x.1 = y.1 ∧ y.sz < x.sz) := by
  obtain ⟨n, a1, hn, e, _⟩ := hx.len
  obtain ⟨m, k1, hm, f, _⟩ := hy.len
  have i1 := sz_iff hn hm e f
  have i2 := sz_iff hm hn f e
  -- PrefP.less, as the order has it
  unfold Nt.lt PrefP.less
  rw [a1, k1]
  by_cases h : x.1 = y.1
  · rw [if_pos h, decide_eq_true_eq]; omega
  · rw [if_neg h, decide_eq_true_eq]; omega

/-- Two halves of one. -/
theorem Nt.V.wh {x y u : Nt} (hx : x.V) (h : wh x y = some u) : u.V ∧ y.V ∧ u.1 = x.1 ∧ y.1 = x.hi ∧ y.sz = x.sz ∧ u.sz = 2 * x.sz := by
  obtain ⟨n, a1, hn, e, hd⟩ := hx.len
  unfold Go.Proofs.YthoegphihpngoaaDoor.wh at h
  by_cases h0 : x.2 = 0
  · rw [if_pos h0] at h; exact absurd h (by simp)
  · rw [if_neg h0] at h
    by_cases h1 : PrefP.cut x.1 (x.2.toNat - 1) = x.1 ∧ y = (x.1 ||| PrefP.bit (x.2.toNat - 1), x.2)
    · rw [if_pos h1] at h
      have hu := (Option.some.inj h).symm
      obtain ⟨c1, c2⟩ := h1
      obtain ⟨m, rfl⟩ : ∃ m, n = m + 1 := ⟨n - 1, by omega⟩
      rw [a1, show (((m + 1 : Nat) : Int)).toNat - 1 = m by omega] at c1 c2
      rw [a1, show (((m + 1 : Nat) : Int) - 1) = (m : Int) by omega] at hu
      have c3 := c1
      rw [cut_div x.1 m hx.1 (by omega)] at c3
      have dv : 2 ^ (32 - m) ∣ x.1 := ⟨x.1 / 2 ^ (32 - m), by rw [Nat.mul_comm]; exact c3.symm⟩
      have pw : 2 ^ (32 - m) = 2 * 2 ^ (32 - (m + 1)) := by rw [show 32 - m = (32 - (m + 1)) + 1 by omega, Nat.pow_succ]; omega
      have hb : PrefP.bit m = 2 ^ (32 - (m + 1)) := by unfold PrefP.bit; rw [show 31 - m = 32 - (m + 1) by omega]
      have ho : x.1 ||| PrefP.bit m = x.1 + 2 ^ (32 - (m + 1)) := by
        rw [hb]
        obtain ⟨q, hq⟩ := dv
        rw [hq, pw, show 2 * 2 ^ (32 - (m + 1)) * q = 2 ^ (32 - (m + 1)) * (2 * q) by rw [Nat.mul_comm 2, Nat.mul_assoc]]
        have h2 : 2 * q ||| 1 = 2 * q + 1 := by
          rw [Nat.or_comm]
          have := Nat.two_pow_add_eq_or_of_lt (i := 1) (b := 1) (by decide) q
          rw [Nat.pow_one] at this
          rw [this, Nat.or_comm]
        have h3 : 2 ^ (32 - (m + 1)) * (2 * q) ||| 2 ^ (32 - (m + 1)) * 1 = 2 ^ (32 - (m + 1)) * (2 * q ||| 1) := by
          rw [Nat.mul_comm _ (2 * q), Nat.mul_comm _ 1, Nat.mul_comm _ (2 * q ||| 1), ← Nat.shiftLeft_eq, ← Nat.shiftLeft_eq, ← Nat.shiftLeft_eq, Nat.shiftLeft_or_distrib]
        rw [Nat.mul_one] at h3
        rw [h3, h2, Nat.mul_add, Nat.mul_one]
      have uV : u.V := by rw [hu]; exact Nt.V.of m hx.1 rfl (by omega) dv
      have us : u.sz = 2 ^ (32 - m) := by rw [hu]; unfold Nt.sz; rfl
      have hin : x.1 + 2 ^ (32 - m) ≤ 4294967296 := by
        have := uV.hi_le
        unfold Nt.hi at this
        rw [us, hu] at this
        exact this
      have yV : y.V := by
        rw [c2]
        refine Nt.V.of (m + 1) (by simp only; rw [ho]; have := Nat.two_pow_pos (32 - (m + 1)); omega) rfl (by omega) ?_
        simp only
        rw [ho]
        exact Nat.dvd_add (e ▸ hd) (Nat.dvd_refl _)
      have ys : y.sz = 2 ^ (32 - (m + 1)) := by rw [c2]; unfold Nt.sz; rfl
      refine ⟨uV, yV, by rw [hu], ?_, by rw [ys, e], by rw [us, e, pw]⟩
      unfold Nt.hi
      rw [c2, e]
      exact ho
    · rw [if_neg h1] at h; exact absurd h (by simp)
end Go.Proofs.YthoegphihpngoaaDoor
