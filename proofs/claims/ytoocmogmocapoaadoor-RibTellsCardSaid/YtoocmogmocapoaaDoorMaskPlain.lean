/-
  PLAIN FACTS on masks (of no program): the number whose first n of 32 bits are 1; how many bits are 1; what one more bit makes of it.
-/
import Derived.Lib.BitFns
import Derived.Laws.BitsAllLaws
namespace Go.Proofs.YtoocmogmocapoaaDoor

/-- The number whose first n bits of 32 are 1, the others 0. -/
def MaskP.mk (n : Nat) : Nat := 4294967296 - 2 ^ (32 - n)
/-- How many bits of a number below 2^32 are 1. -/
def MaskP.pop (m : Nat) : Nat := Lib.onesCount (m / 16777216) + Lib.onesCount (m / 65536 % 256) + Lib.onesCount (m / 256 % 256) + Lib.onesCount (m % 256)

theorem MaskP.upto32 {P : Nat → Prop} (h : ∀ i : Fin 33, P i.val) (n : Nat) (hn : n ≤ 32) : P n := h ⟨n, by omega⟩
theorem MaskP.upto31 {P : Nat → Prop} (h : ∀ i : Fin 32, P i.val) (n : Nat) (hn : n < 32) : P n := h ⟨n, hn⟩
theorem MaskP.upto2 {P : Nat → Nat → Prop} (h : ∀ i j : Fin 33, P i.val j.val) (n k : Nat) (hn : n ≤ 32) (hk : k ≤ 32) : P n k := h ⟨n, by omega⟩ ⟨k, by omega⟩

theorem MaskP.lt (n : Nat) : MaskP.mk n < 4294967296 := by
  have := Nat.two_pow_pos (32 - n)
  unfold MaskP.mk
  omega
theorem MaskP.shl (n : Nat) (h : n ≤ 32) : 4294967295 * 2 ^ (32 - n) % 4294967296 = MaskP.mk n := MaskP.upto32 (P := fun n => 4294967295 * 2 ^ (32 - n) % 4294967296 = MaskP.mk n) (by decide +kernel) n h
theorem MaskP.pop_mk (n : Nat) (h : n ≤ 32) : MaskP.pop (MaskP.mk n) = n := MaskP.upto32 (P := fun n => MaskP.pop (MaskP.mk n) = n) (by decide +kernel) n h
theorem MaskP.or_bit (n : Nat) (h : n < 32) : MaskP.mk n ||| 2 ^ (31 - n) = MaskP.mk (n + 1) := MaskP.upto31 (P := fun n => MaskP.mk n ||| 2 ^ (31 - n) = MaskP.mk (n + 1)) (by decide +kernel) n h
theorem MaskP.and_more (n k : Nat) (hn : n ≤ 32) (hk : k ≤ 32) (h : n ≤ k) : MaskP.mk n &&& MaskP.mk k = MaskP.mk n :=
  MaskP.upto2 (P := fun n k => n ≤ k → MaskP.mk n &&& MaskP.mk k = MaskP.mk n) (by decide +kernel) n k hn hk h
theorem MaskP.left (n : Nat) (h : n ≤ 32) : 4294967295 - MaskP.mk n + 1 = 2 ^ (32 - n) := MaskP.upto32 (P := fun n => 4294967295 - MaskP.mk n + 1 = 2 ^ (32 - n)) (by decide +kernel) n h
theorem MaskP.pop_le (m : Nat) (h : m < 4294967296) : MaskP.pop m ≤ 32 := by
  have h1 := Lib.onesCount_le8 ⟨m / 16777216, by omega⟩
  have h2 := Lib.onesCount_le8 ⟨m / 65536 % 256, by omega⟩
  have h3 := Lib.onesCount_le8 ⟨m / 256 % 256, by omega⟩
  have h4 := Lib.onesCount_le8 ⟨m % 256, by omega⟩
  unfold MaskP.pop
  simp only at h1 h2 h3 h4
  omega
theorem MaskP.inj (n k : Nat) (hn : n ≤ 32) (hk : k ≤ 32) (h : MaskP.mk n = MaskP.mk k) : n = k := by
  rw [← MaskP.pop_mk n hn, ← MaskP.pop_mk k hk, h]
theorem MaskP.or_int (n : Nat) (h : n < 32) : bits .or .u32 (MaskP.mk n : Int) ((2 ^ (31 - n) : Nat) : Int) = (MaskP.mk (n + 1) : Int) := by
  have hl := MaskP.lt n
  have h2 : 2 ^ (31 - n) < 4294967296 := Nat.lt_of_le_of_lt (Nat.pow_le_pow_right (by decide) (show 31 - n ≤ 31 by omega)) (by decide)
  rw [u32_or_nat _ _ hl h2, MaskP.or_bit n h]
theorem MaskP.and_int (n k : Nat) (hn : n ≤ 32) (hk : k ≤ 32) (h : n ≤ k) : bits .and .u32 (MaskP.mk n : Int) (MaskP.mk k : Int) = (MaskP.mk n : Int) := by
  rw [u32_and_nat _ _ (MaskP.lt n) (MaskP.lt k), MaskP.and_more n k hn hk h]
theorem MaskP.pop8 (i : Nat) (h : i < 256) : Lib.pop8 (i : Int) = (Lib.onesCount i : Int) := Lib.pop8_eq ⟨i, h⟩
theorem MaskP.and255 (z : Int) (h0 : 0 ≤ z) (h1 : z < 4294967296) : bits .and .u32 z 255 = z % 256 := by
  have := u32_and z 255 h0 h1 (by decide) (by decide)
  rw [this]
  show ((z.toNat &&& 255 : Nat) : Int) = _
  rw [nat_mask8]
  omega
theorem MaskP.pop_int (m : Nat) (h : m < 4294967296) : (Lib.pop8 ((m : Int) / 16777216) + Lib.pop8 ((m : Int) / 65536 % 256) + Lib.pop8 ((m : Int) / 256 % 256) + Lib.pop8 ((m : Int) % 256)) % 256 = (MaskP.pop m : Int) := by
  have e1 := MaskP.pop8 (m / 16777216) (by omega)
  have e2 := MaskP.pop8 (m / 65536 % 256) (by omega)
  have e3 := MaskP.pop8 (m / 256 % 256) (by omega)
  have e4 := MaskP.pop8 (m % 256) (by omega)
  have hl := MaskP.pop_le m h
  unfold MaskP.pop at hl ⊢
  rw [show (m : Int) / 16777216 = ((m / 16777216 : Nat) : Int) by omega, show (m : Int) / 65536 % 256 = ((m / 65536 % 256 : Nat) : Int) by omega, show (m : Int) / 256 % 256 = ((m / 256 % 256 : Nat) : Int) by omega, show (m : Int) % 256 = ((m % 256 : Nat) : Int) by omega, e1, e2, e3, e4]
  omega
/-- The length whose mask m is, if there is one. -/
def MaskP.len (m : Nat) : Option Nat := if MaskP.mk (MaskP.pop m) = m then some (MaskP.pop m) else none
theorem MaskP.len_mk (n : Nat) (h : n ≤ 32) : MaskP.len (MaskP.mk n) = some n := by
  unfold MaskP.len
  rw [MaskP.pop_mk n h, if_pos rfl]
theorem MaskP.len_some (m n : Nat) (hm : m < 4294967296) (h : MaskP.len m = some n) : n ≤ 32 ∧ MaskP.mk n = m ∧ MaskP.pop m = n := by
  unfold MaskP.len at h
  by_cases hc : MaskP.mk (MaskP.pop m) = m
  · rw [if_pos hc] at h
    have hp := Option.some.inj h
    rw [hp] at hc
    exact ⟨hp ▸ MaskP.pop_le m hm, hc, hp⟩
  · rw [if_neg hc] at h
    exact absurd h (by simp)
theorem MaskP.len_none (m : Nat) (h : MaskP.len m = none) (n : Nat) (hn : n ≤ 32) : MaskP.mk n ≠ m := by
  intro hc
  rw [← hc, MaskP.len_mk n hn] at h
  exact absurd h (by simp)
/-- math/bits' table of how many bits of a byte are 1, as the translation lays it, is the library's. -/
theorem MaskP.fold : ({ data := (([0, 1, 1, 2, 1, 2, 2, 3, 1, 2, 2, 3, 2, 3, 3, 4, 1, 2, 2, 3, 2, 3, 3, 4, 2, 3, 3, 4, 3, 4, 4, 5, 1, 2, 2, 3, 2, 3, 3, 4, 2, 3, 3, 4, 3, 4, 4, 5, 2, 3, 3, 4, 3, 4, 4, 5, 3, 4, 4, 5, 4, 5, 5, 6].append [1, 2, 2, 3, 2, 3, 3, 4, 2, 3, 3, 4, 3, 4, 4, 5, 2, 3, 3, 4, 3, 4, 4, 5, 3, 4, 4, 5, 4, 5, 5, 6, 2, 3, 3, 4, 3, 4, 4, 5, 3, 4, 4, 5, 4, 5, 5, 6, 3, 4, 4, 5, 4, 5, 5, 6, 4, 5, 5, 6, 5, 6, 6, 7]).append ([1, 2, 2, 3, 2, 3, 3, 4, 2, 3, 3, 4, 3, 4, 4, 5, 2, 3, 3, 4, 3, 4, 4, 5, 3, 4, 4, 5, 4, 5, 5, 6, 2, 3, 3, 4, 3, 4, 4, 5, 3, 4, 4, 5, 4, 5, 5, 6, 3, 4, 4, 5, 4, 5, 5, 6, 4, 5, 5, 6, 5, 6, 6, 7].append [2, 3, 3, 4, 3, 4, 4, 5, 3, 4, 4, 5, 4, 5, 5, 6, 3, 4, 4, 5, 4, 5, 5, 6, 4, 5, 5, 6, 5, 6, 6, 7, 3, 4, 4, 5, 4, 5, 5, 6, 4, 5, 5, 6, 5, 6, 6, 7, 4, 5, 5, 6, 5, 6, 6, 7, 5, 6, 6, 7, 6, 7, 7, 8])).toArray } : ByteArray) = Lib.pop8tab := by decide +kernel
end Go.Proofs.YtoocmogmocapoaaDoor
