/-
  The document's Plus at two distances; the statement DistTells' function answers true at every two numbers; what lay in memory stays. Condition: the library's variable errors.errorType is as its text lays it.
-/
import Derived.Test.YtbadelfnjmcfoaaDoorDistFar
import Derived.Test.YtbadelfnjmcfoaaDoorErrTold
namespace Go.Proofs.YtbadelfnjmcfoaaDoor
open Go.RowKit

set_option maxHeartbeats 400000 in
theorem refPlus_any (n m : Nat) (hn : n ≤ 16) (hm : m ≤ 16) (w : World) : Calls Tryd.prog 7 #[.int .i64 n, .int .i64 m] w fun e w' => e = .returned (.int .i64 (DistP.add n m : Int)) ∧ w = w' := by
  rw [← DistP.add_min]
  go_enter Tryd.func7, Tryd.ntmps7
  go_wp2_with fail
  go_ret
  exact ⟨rfl, rfl⟩

set_option maxHeartbeats 1000000 in
set_option maxRecDepth 100000 in
theorem distTells_00 (a : Nat) (ha : a ≤ 16) (b : Nat) (hb : b ≤ 16) (w : World) (he : ErrType w) : Calls Tryd.prog 3 #[.int .i64 a, .int .i64 b] w fun e w' => e = .returned (.bool true) ∧ Below w.heap.size w w' := by
  have F0 := Lib.hid (refFar_no a ha); have F1 := Lib.hid (refFar_no b hb)
  have C := Lib.hid (distCheck_yes a ha)
  have A := Lib.hid (add_yes a b ha hb); have Q := Lib.hid (less_yes a b ha hb); have P := Lib.hid (refPlus_any a b ha hb)
  have M := DistP.least_min a b
  generalize DistP.add a b = x at A P
  generalize DistP.least a b = y at Q M
  have HE := Lib.hid he; clear he ha hb
  go_enter Tryd.func3, Tryd.ntmps3
  go_wp2_with fail
  refine (F0.out _).mono ?_
  rintro e w0 ⟨rfl, rfl⟩
  go_wp2_with fail
  refine (C.out _).mono ?_
  rintro e w1 ⟨rfl, rfl⟩
  go_wp2_with fail
  refine (same_nil 0 true rfl _).mono ?_
  rintro e w2 ⟨rfl, rfl⟩
  have E2 := HE
  have b2 : Below w.heap.size w w := Below.refl _ _
  go_wp2_with fail
  refine (F1.out _).mono ?_
  rintro e w3 ⟨rfl, rfl⟩
  go_wp2_with fail
  refine (P.out _).mono ?_
  rintro e w4 ⟨rfl, rfl⟩
  go_wp2_with fail
  refine (A.out _).mono ?_
  rintro e w5 ⟨rfl, b5⟩
  have E5 := Lib.hid (E2.out.below b5)
  go_wp2_with fail
  refine (same_nil 0 true rfl _).mono ?_
  rintro e w6 ⟨rfl, rfl⟩
  have b6 : Below w5.heap.size w5 w5 := Below.refl _ _
  go_wp2_with fail
  refine (Q.out _).mono ?_
  rintro e w7 ⟨rfl, b7⟩
  clear E5
  go_wp2_with fail
  refine (same_nil 0 true rfl _).mono ?_
  rintro e w8 ⟨rfl, rfl⟩
  go_wp2_with fail
  go_ret
  exact ⟨rfl, Below.three b2 b5 (Below.three b6 b7 (Below.refl _ _))⟩
set_option maxHeartbeats 1000000 in
set_option maxRecDepth 100000 in
theorem distTells_01 (a : Nat) (ha : a ≤ 16) (b : Int) (hb : DistP.Far b) (w : World) (he : ErrType w) : Calls Tryd.prog 3 #[.int .i64 a, .int .i64 b] w fun e w' => e = .returned (.bool true) ∧ Below w.heap.size w w' := by
  have F0 := Lib.hid (refFar_no a ha); have F1 := Lib.hid (refFar_yes b hb)
  have C := Lib.hid (distCheck_yes a ha)
  have A := Lib.hid (add_no a b (Or.inr hb)); have Q := Lib.hid (less_no a b (Or.inr hb))
  have HE := Lib.hid he; clear he ha hb
  go_enter Tryd.func3, Tryd.ntmps3
  go_wp2_with fail
  refine (F0.out _).mono ?_
  rintro e w0 ⟨rfl, rfl⟩
  go_wp2_with fail
  refine (C.out _).mono ?_
  rintro e w1 ⟨rfl, rfl⟩
  go_wp2_with fail
  refine (same_nil 0 true rfl _).mono ?_
  rintro e w2 ⟨rfl, rfl⟩
  have E2 := HE
  have b2 : Below w.heap.size w w := Below.refl _ _
  go_wp2_with fail
  refine (F1.out _).mono ?_
  rintro e w3 ⟨rfl, rfl⟩
  go_wp2_with fail
  refine (A.out _).mono ?_
  rintro e w5 ⟨rfl, b5⟩
  have E5 := Lib.hid (E2.out.below b5)
  go_wp2_with fail
  refine (same_err 1 1 true rfl _ E5.out).mono ?_
  rintro e w6 ⟨rfl, b6⟩
  go_wp2_with fail
  refine (Q.out _).mono ?_
  rintro e w7 ⟨rfl, b7⟩
  have E7 := Lib.hid ((E5.out.below b6).below b7)
  go_wp2_with fail
  refine (same_err 1 1 true rfl _ E7.out).mono ?_
  rintro e w8 ⟨rfl, b8⟩
  go_wp2_with fail
  go_ret
  exact ⟨rfl, Below.three b2 b5 (Below.three b6 b7 b8)⟩
set_option maxHeartbeats 1000000 in
set_option maxRecDepth 100000 in
theorem distTells_10 (a : Int) (ha : DistP.Far a) (b : Nat) (hb : b ≤ 16) (w : World) (he : ErrType w) : Calls Tryd.prog 3 #[.int .i64 a, .int .i64 b] w fun e w' => e = .returned (.bool true) ∧ Below w.heap.size w w' := by
  have F0 := Lib.hid (refFar_yes a ha); have F1 := Lib.hid (refFar_no b hb)
  have C := Lib.hid (distCheck_no a ha)
  have A := Lib.hid (add_no a b (Or.inl ha)); have Q := Lib.hid (less_no a b (Or.inl ha))
  have HE := Lib.hid he; clear he ha hb
  go_enter Tryd.func3, Tryd.ntmps3
  go_wp2_with fail
  refine (F0.out _).mono ?_
  rintro e w0 ⟨rfl, rfl⟩
  go_wp2_with fail
  refine (C.out _).mono ?_
  rintro e w1 ⟨rfl, rfl⟩
  go_wp2_with fail
  refine (same_err 1 1 true rfl _ HE.out).mono ?_
  rintro e w2 ⟨rfl, b2⟩
  have E2 := Lib.hid (HE.out.below b2)
  go_wp2_with fail
  refine (F1.out _).mono ?_
  rintro e w3 ⟨rfl, rfl⟩
  go_wp2_with fail
  refine (A.out _).mono ?_
  rintro e w5 ⟨rfl, b5⟩
  have E5 := Lib.hid (E2.out.below b5)
  go_wp2_with fail
  refine (same_err 1 1 true rfl _ E5.out).mono ?_
  rintro e w6 ⟨rfl, b6⟩
  go_wp2_with fail
  refine (Q.out _).mono ?_
  rintro e w7 ⟨rfl, b7⟩
  have E7 := Lib.hid ((E5.out.below b6).below b7)
  go_wp2_with fail
  refine (same_err 1 1 true rfl _ E7.out).mono ?_
  rintro e w8 ⟨rfl, b8⟩
  go_wp2_with fail
  go_ret
  exact ⟨rfl, Below.three b2 b5 (Below.three b6 b7 b8)⟩
set_option maxHeartbeats 1000000 in
set_option maxRecDepth 100000 in
theorem distTells_11 (a : Int) (ha : DistP.Far a) (b : Int) (hb : DistP.Far b) (w : World) (he : ErrType w) : Calls Tryd.prog 3 #[.int .i64 a, .int .i64 b] w fun e w' => e = .returned (.bool true) ∧ Below w.heap.size w w' := by
  have F0 := Lib.hid (refFar_yes a ha); have F1 := Lib.hid (refFar_yes b hb)
  have C := Lib.hid (distCheck_no a ha)
  have A := Lib.hid (add_no a b (Or.inl ha)); have Q := Lib.hid (less_no a b (Or.inl ha))
  have HE := Lib.hid he; clear he ha hb
  go_enter Tryd.func3, Tryd.ntmps3
  go_wp2_with fail
  refine (F0.out _).mono ?_
  rintro e w0 ⟨rfl, rfl⟩
  go_wp2_with fail
  refine (C.out _).mono ?_
  rintro e w1 ⟨rfl, rfl⟩
  go_wp2_with fail
  refine (same_err 1 1 true rfl _ HE.out).mono ?_
  rintro e w2 ⟨rfl, b2⟩
  have E2 := Lib.hid (HE.out.below b2)
  go_wp2_with fail
  refine (F1.out _).mono ?_
  rintro e w3 ⟨rfl, rfl⟩
  go_wp2_with fail
  refine (A.out _).mono ?_
  rintro e w5 ⟨rfl, b5⟩
  have E5 := Lib.hid (E2.out.below b5)
  go_wp2_with fail
  refine (same_err 1 1 true rfl _ E5.out).mono ?_
  rintro e w6 ⟨rfl, b6⟩
  go_wp2_with fail
  refine (Q.out _).mono ?_
  rintro e w7 ⟨rfl, b7⟩
  have E7 := Lib.hid ((E5.out.below b6).below b7)
  go_wp2_with fail
  refine (same_err 1 1 true rfl _ E7.out).mono ?_
  rintro e w8 ⟨rfl, b8⟩
  go_wp2_with fail
  go_ret
  exact ⟨rfl, Below.three b2 b5 (Below.three b6 b7 b8)⟩

theorem distTells_walk (w : World) (a b : Int) (he : ErrType w) : Calls Tryd.prog 3 #[.int .i64 a, .int .i64 b] w fun e w' => e = .returned (.bool true) ∧ Below w.heap.size w w' := by
  rcases DistP.cases a with ha | ⟨n, rfl, ha⟩ <;> rcases DistP.cases b with hb | ⟨m, rfl, hb⟩
  · exact distTells_11 a ha b hb w he
  · exact distTells_10 a ha m hb w he
  · exact distTells_01 n ha b hb w he
  · exact distTells_00 n ha m hb w he
end Go.Proofs.YtbadelfnjmcfoaaDoor
