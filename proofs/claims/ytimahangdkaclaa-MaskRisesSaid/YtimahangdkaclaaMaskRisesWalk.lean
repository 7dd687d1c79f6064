/-
  The statement MaskRises' function answers true at every two numbers; what lay in memory stays.
-/
import Derived.Test.YtimahangdkaclaaMaskCode
namespace Go.Proofs.Ytimahangdkaclaa
open Go.RowKit

theorem MaskP.flip (n : Nat) (h : n ≤ 32) : (wrap64 (wrap64 (bits .xor .u32 IntKind.u32.max (MaskP.mk n : Int)) + 1) == wrap64 (2 ^ (32 - n))) = true :=
  MaskP.upto32 (P := fun n => (wrap64 (wrap64 (bits .xor .u32 IntKind.u32.max (MaskP.mk n : Int)) + 1) == wrap64 (2 ^ (32 - n))) = true) (by decide +kernel) n h

theorem mask_some (b : Int) (w : World) : ∃ v e1, Calls Try.prog 4 #[.int .i64 b] w fun e w' => e = .returned (.tuple #[v, e1]) ∧ w = w' := by
  by_cases hB : b < 0 ∨ 32 < b
  · exact ⟨_, _, mask_no b hB w⟩
  · obtain ⟨k, rfl⟩ := Int.eq_ofNat_of_zero_le (show 0 ≤ b by omega)
    exact ⟨_, _, mask_yes k (by omega) w⟩

set_option maxHeartbeats 1000000 in
theorem maskRises_bad1 (a b : Int) (w : World) (hA : a < 0 ∨ 32 < a) :
    Calls Try.prog 3 #[.int .i64 a, .int .i64 b] w fun e w' => e = .returned (.bool true) ∧ Below w.heap.size w w' := by
  have HA := Lib.hid hA
  obtain ⟨v, e1, hc⟩ := mask_some b w
  have HB := Lib.hid hc; clear hc
  have h8 : ((MaskP.mk 8 : Nat) : Int) = 4278190080 := by decide +kernel
  rcases hA with hA | hA
  · go_enter Try.func3, Try.ntmps3
    go_wp2_with fail
    refine (mask_no a HA.out _).mono ?_
    rintro e w1 ⟨rfl, rfl⟩
    go_wp2_with fail
    refine HB.out.mono ?_
    rintro e w1 ⟨rfl, rfl⟩
    go_wp2_with fail
    refine (mask_yes 8 (by decide) _).mono ?_
    rintro e w1 ⟨rfl, rfl⟩
    go_wp2_with fail
    go_ret
    exact ⟨rfl, Below.refl _ _⟩
  · have hA0 : ¬ (a < 0) := by omega
    go_enter Try.func3, Try.ntmps3
    go_wp2_with fail
    refine (mask_no a HA.out _).mono ?_
    rintro e w1 ⟨rfl, rfl⟩
    go_wp2_with fail
    refine HB.out.mono ?_
    rintro e w1 ⟨rfl, rfl⟩
    go_wp2_with fail
    refine (mask_yes 8 (by decide) _).mono ?_
    rintro e w1 ⟨rfl, rfl⟩
    go_wp2_with fail
    go_ret
    exact ⟨rfl, Below.refl _ _⟩

set_option maxHeartbeats 1000000 in
theorem maskRises_bad2 (n : Nat) (b : Int) (w : World) (hA : n ≤ 32) (hB : b < 0 ∨ 32 < b) :
    Calls Try.prog 3 #[.int .i64 n, .int .i64 b] w fun e w' => e = .returned (.bool true) ∧ Below w.heap.size w w' := by
  have HB := Lib.hid hB
  have h8 : ((MaskP.mk 8 : Nat) : Int) = 4278190080 := by decide +kernel
  have h0 : ¬ ((n : Int) < 0) := by omega
  have h1 : ¬ ((32 : Int) < n) := by omega
  rcases hB with hB | hB
  · go_enter Try.func3, Try.ntmps3
    go_wp2_with fail
    refine (mask_yes n hA _).mono ?_
    rintro e w1 ⟨rfl, rfl⟩
    go_wp2_with fail
    refine (mask_no b HB.out _).mono ?_
    rintro e w1 ⟨rfl, rfl⟩
    go_wp2_with fail
    refine (mask_yes 8 (by decide) _).mono ?_
    rintro e w1 ⟨rfl, rfl⟩
    go_wp2_with fail
    go_ret
    exact ⟨rfl, Below.refl _ _⟩
  · have hB0 : ¬ (b < 0) := by omega
    go_enter Try.func3, Try.ntmps3
    go_wp2_with fail
    refine (mask_yes n hA _).mono ?_
    rintro e w1 ⟨rfl, rfl⟩
    go_wp2_with fail
    refine (mask_no b HB.out _).mono ?_
    rintro e w1 ⟨rfl, rfl⟩
    go_wp2_with fail
    refine (mask_yes 8 (by decide) _).mono ?_
    rintro e w1 ⟨rfl, rfl⟩
    go_wp2_with fail
    go_ret
    exact ⟨rfl, Below.refl _ _⟩

set_option maxHeartbeats 1000000 in
theorem maskRises_good (n k : Nat) (w : World) (hA : n ≤ 32) (hB : k ≤ 32) :
    Calls Try.prog 3 #[.int .i64 n, .int .i64 k] w fun e w' => e = .returned (.bool true) ∧ Below w.heap.size w w' := by
  have h8 : ((MaskP.mk 8 : Nat) : Int) = 4278190080 := by decide +kernel
  have HL := Lib.hid (fun w => len_yes (MaskP.mk n) n (MaskP.lt n) (MaskP.len_mk n hA) w)
  rcases Nat.lt_or_ge k n with hlt | hge
  · have hc : (k : Int) < (n : Int) := by omega
    go_enter Try.func3, Try.ntmps3
    go_wp2_with fail
    refine (mask_yes n hA _).mono ?_
    rintro e w1 ⟨rfl, rfl⟩
    go_wp2_with fail
    refine (mask_yes k hB _).mono ?_
    rintro e w1 ⟨rfl, rfl⟩
    go_wp2_with fail
    refine (mask_yes 8 (by decide) _).mono ?_
    rintro e w1 ⟨rfl, rfl⟩
    go_wp2_with fail
    refine (HL.out _).mono ?_
    rintro e w1 ⟨rfl, hb⟩
    go_wp2_with fail
    go_ret
    refine ⟨?_, hb⟩
    rw [MaskP.flip n hA]
    rfl
  · have hc : ¬ ((k : Int) < (n : Int)) := by omega
    have hd := MaskP.and_int n k hA hB hge
    go_enter Try.func3, Try.ntmps3
    go_wp2_with fail
    refine (mask_yes n hA _).mono ?_
    rintro e w1 ⟨rfl, rfl⟩
    go_wp2_with fail
    refine (mask_yes k hB _).mono ?_
    rintro e w1 ⟨rfl, rfl⟩
    go_wp2_with fail
    refine (mask_yes 8 (by decide) _).mono ?_
    rintro e w1 ⟨rfl, rfl⟩
    go_wp2_with fail
    refine (HL.out _).mono ?_
    rintro e w1 ⟨rfl, hb⟩
    go_wp2_with fail
    go_ret
    refine ⟨?_, hb⟩
    rw [MaskP.flip n hA]
    rfl

theorem maskRises_walk (a b : Int) (w : World) :
    Calls Try.prog 3 #[.int .i64 a, .int .i64 b] w fun e w' => e = .returned (.bool true) ∧ Below w.heap.size w w' := by
  by_cases hA : a < 0 ∨ 32 < a
  · exact maskRises_bad1 a b w hA
  · obtain ⟨n, rfl⟩ := Int.eq_ofNat_of_zero_le (show 0 ≤ a by omega)
    by_cases hB : b < 0 ∨ 32 < b
    · exact maskRises_bad2 n b w (by omega) hB
    · obtain ⟨k, rfl⟩ := Int.eq_ofNat_of_zero_le (show 0 ≤ b by omega)
      exact maskRises_good n k w (by omega) (by omega)
end Go.Proofs.Ytimahangdkaclaa
