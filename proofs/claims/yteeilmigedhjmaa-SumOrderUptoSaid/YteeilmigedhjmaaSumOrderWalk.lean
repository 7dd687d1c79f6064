/-
  THE LAW SumOrder, walked: at every two lists of bytes that a slice takes together it returns true; what lay in memory stays.
-/
import Derived.Test.YteeilmigedhjmaaSummed
import Derived.Test.YteeilmigedhjmaaByteJoin
namespace Go.Proofs.Yteeilmigedhjmaa
open Go.RowKit Go.Lib

set_option maxHeartbeats 400000 in
set_option maxRecDepth 100000 in
theorem sumOrder_walk (w : World) (va vb : Value) (a b : List Nat) (hlen : a.length + b.length ≤ 140737488355328) (hA : ArgB w va a) (hB : ArgB w vb b) (sa : Sl va) (sb : Sl vb) (hy : Byt a) (hz : Byt b) :
    Calls Try.prog 4 #[va, vb] w fun x w' => x = .returned (.bool true) ∧ Below w.heap.size w w' := by
  have HA := Lib.hid hA; have HB := Lib.hid hB; have SA := Lib.hid sa; have SB := Lib.hid sb; have HY := Lib.hid hy; have HZ := Lib.hid hz
  have H0 := Lib.hid (summed_any w)
  obtain ⟨pa, ca, ea, -, -⟩ := hA
  obtain ⟨pb, cb, eb, -, -⟩ := hB
  subst ea eb
  clear sa sb hy hz
  go_enter Try.func4, Try.ntmps4
  go_wp2_with fail
  refine H0.out.mono ?_
  rintro x w1 ⟨rfl, b1⟩
  have HB1 := Lib.hid b1
  clear b1 H0
  by_cases h1 : a.length % 2 = 0
  · have e1 : Int.tmod (a.length : Int) 2 = 0 := by rw [Int.tmod_eq_emod_of_nonneg (by omega)]; omega
    by_cases h2 : b.length % 2 = 0
    · have e2 : Int.tmod (b.length : Int) 2 = 0 := by rw [Int.tmod_eq_emod_of_nonneg (by omega)]; omega
      have HQ := Lib.hid (sm_swap a b h1 h2)
      clear h1 h2
      have HO2 := Lib.hid (OwnB.empty w1)
      have HB2 := Lib.hid (Below.two HB1.out (below_alloc w1 #[] 5))
      have hw1 := HB1.out.size
      go_wp2_with (at_builtin; refine wpList_plain rfl fun _ hK => wp_append_BV _ _ rfl w1.heap.size (.slice (some ⟨w1.heap.size, 0, none⟩) 0 0) (.slice pa a.length ca) [] a rfl rfl HO2.out ?q1 SA.out ?q2 ?q3 ?_)
      case q1 => exact HA.out.below HB2.out
      case q2 => simp only [List.length_nil]; omega
      case q3 => simp
      intro v3 w3 o3 b3
      refine hK _ _ ?_
      clear hK
      have HB3 := Lib.hid (HB2.out.trans (b3.mono hw1))
      have z3 : w1.heap.size ≤ w3.heap.size := Nat.le_trans (by simp) b3.size
      have HO3 := Lib.hid o3
      clear b3 o3 HO2
      go_wp2_with (at_builtin; refine wpList_plain rfl fun _ hK => wp_append_BV _ _ rfl w1.heap.size v3 (.slice pb b.length cb) ([] ++ a) b rfl rfl HO3.out ?r1 SB.out ?r2 z3 ?_)
      case r1 => exact HB.out.below HB3.out
      case r2 => simpa using hlen
      intro v4 w4 o4 b4
      refine hK _ _ ?_
      clear hK
      have HB4 := Lib.hid (HB3.out.trans (b4.mono hw1))
      have HS := Lib.hid (sum_any w4 v4 (a ++ b) (by rw [List.length_append]; exact hlen) (HY.out.app HZ.out) o4.arg)
      clear b4 o4 HO3
      go_wp2_with fail
      refine HS.out.mono ?_
      rintro x w5 ⟨rfl, b5⟩
      have HB5 := Lib.hid (Below.two HB4.out b5)
      clear b5 HS z3
      have HO6 := Lib.hid (OwnB.empty w5)
      have HB6 := Lib.hid (Below.two HB5.out (below_alloc w5 #[] 5))
      have hw5 := HB5.out.size
      go_wp2_with (at_builtin; refine wpList_plain rfl fun _ hK => wp_append_BV _ _ rfl w5.heap.size (.slice (some ⟨w5.heap.size, 0, none⟩) 0 0) (.slice pb b.length cb) [] b rfl rfl HO6.out ?q1 SB.out ?q2 ?q3 ?_)
      case q1 => exact HB.out.below HB6.out
      case q2 => simp only [List.length_nil]; omega
      case q3 => simp
      intro v7 w7 o7 b7
      refine hK _ _ ?_
      clear hK
      have HB7 := Lib.hid (HB6.out.trans (b7.mono hw5))
      have z7 : w5.heap.size ≤ w7.heap.size := Nat.le_trans (by simp) b7.size
      have HO7 := Lib.hid o7
      clear b7 o7 HO6
      go_wp2_with (at_builtin; refine wpList_plain rfl fun _ hK => wp_append_BV _ _ rfl w5.heap.size v7 (.slice pa a.length ca) ([] ++ b) a rfl rfl HO7.out ?r1 SA.out ?r2 z7 ?_)
      case r1 => exact HA.out.below HB7.out
      case r2 => simpa [Nat.add_comm] using hlen
      intro v8 w8 o8 b8
      refine hK _ _ ?_
      clear hK
      have HB8 := Lib.hid (HB7.out.trans (b8.mono hw5))
      have HS := Lib.hid (sum_any w8 v8 (b ++ a) (by rw [List.length_append]; omega) (HZ.out.app HY.out) o8.arg)
      rw [← HQ.out] at HS
      clear b8 o8 HO7
      go_wp2_with fail
      refine HS.out.mono ?_
      rintro x w9 ⟨rfl, b9⟩
      have HB9 := Lib.hid (Below.two HB8.out b9)
      clear b9 HS
      generalize sm (a ++ b) = m
      go_wp2_with fail
      go_ret
      exact ⟨rfl, HB9.out⟩
    · have e2 : Int.tmod (b.length : Int) 2 = 1 := by rw [Int.tmod_eq_emod_of_nonneg (by omega)]; omega
      go_wp2_with fail
      go_ret
      exact ⟨rfl, HB1.out⟩
  · have e1 : Int.tmod (a.length : Int) 2 = 1 := by rw [Int.tmod_eq_emod_of_nonneg (by omega)]; omega
    go_wp2_with fail
    go_ret
    exact ⟨rfl, HB1.out⟩
end Go.Proofs.Yteeilmigedhjmaa
