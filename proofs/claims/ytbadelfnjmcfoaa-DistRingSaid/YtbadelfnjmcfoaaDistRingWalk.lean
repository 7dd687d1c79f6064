/-
  The statement DistRing's function answers true at every three numbers; what lay in memory stays.
-/
import Derived.Test.YtbadelfnjmcfoaaDistOrderWalk
import Derived.Test.YtbadelfnjmcfoaaDistFar
namespace Go.Proofs.Ytbadelfnjmcfoaa
open Go.RowKit

theorem DistP.add_add (a b c : Nat) : DistP.add (DistP.add a b) c = DistP.add a (DistP.add b c) := by unfold DistP.add; (repeat' split) <;> omega
theorem DistP.add_least (a b c : Nat) : DistP.least (DistP.add a b) (DistP.add a c) = DistP.add a (DistP.least b c) := by unfold DistP.add DistP.least; (repeat' split) <;> omega
theorem DistP.add_ge (a b : Nat) (h : a ≤ 16) : a ≤ DistP.add a b := by unfold DistP.add; split <;> omega
theorem DistP.least_1 (a b : Nat) : DistP.least a b ≤ a := by unfold DistP.least; split <;> omega
theorem DistP.least_2 (a b : Nat) : DistP.least a b ≤ b := by unfold DistP.least; split <;> omega

set_option maxHeartbeats 1000000 in
set_option maxRecDepth 100000 in
theorem distRing_good (a b c : Nat) (ha : a ≤ 16) (hb : b ≤ 16) (hc : c ≤ 16) (w : World) : Calls Try.prog 3 #[.int .i64 a, .int .i64 b, .int .i64 c] w fun e w' => e = .returned (.bool true) ∧ Below w.heap.size w w' := by
  have h1 := add_yes a b ha hb; have h2 := add_yes b c hb hc; have h3 := add_yes a c ha hc; have h4 := less_yes b c hb hc
  have h5 := add_yes (DistP.add a b) c (DistP.add_le a b) hc; have h6 := add_yes a (DistP.add b c) ha (DistP.add_le b c)
  have h7 := add_yes a (DistP.least b c) ha (DistP.least_le b c hb); have h8 := less_yes (DistP.add a b) (DistP.add a c) (DistP.add_le a b) (DistP.add_le a c)
  rw [DistP.add_add] at h5
  rw [DistP.add_least] at h8
  have g1 : (a : Int) ≤ (DistP.add a b : Int) := by have := DistP.add_ge a b ha; omega
  have g2 : (DistP.least b c : Int) ≤ (b : Int) := by have := DistP.least_1 b c; omega
  have g3 : (DistP.least b c : Int) ≤ (c : Int) := by have := DistP.least_2 b c; omega
  generalize DistP.add a (DistP.add b c) = x at h5 h6
  generalize DistP.add a (DistP.least b c) = p at h7 h8
  generalize DistP.add a b = ab at h1 h5 h8 g1
  generalize DistP.add b c = bc at h2 h6
  generalize DistP.add a c = ac at h3 h8
  generalize DistP.least b c = le at h4 h7 g2 g3
  have H1 := Lib.hid h1; have H2 := Lib.hid h2; have H3 := Lib.hid h3; have H4 := Lib.hid h4; have H5 := Lib.hid h5; have H6 := Lib.hid h6; have H7 := Lib.hid h7; have H8 := Lib.hid h8
  clear h1 h2 h3 h4 h5 h6 h7 h8
  go_enter Try.func3, Try.ntmps3
  go_wp2_with fail
  refine (fact99 _).mono ?_
  rintro e w0 ⟨rfl, b0⟩
  go_wp2_with fail
  refine (H1.out _).mono ?_
  rintro e w1 ⟨rfl, b1⟩
  go_wp2_with fail
  refine (H2.out _).mono ?_
  rintro e w2 ⟨rfl, b2⟩
  go_wp2_with fail
  refine (H3.out _).mono ?_
  rintro e w3 ⟨rfl, b3⟩
  go_wp2_with fail
  refine (H4.out _).mono ?_
  rintro e w4 ⟨rfl, b4⟩
  go_wp2_with fail
  refine (H5.out _).mono ?_
  rintro e w5 ⟨rfl, b5⟩
  go_wp2_with fail
  refine (H6.out _).mono ?_
  rintro e w6 ⟨rfl, b6⟩
  go_wp2_with fail
  refine (H7.out _).mono ?_
  rintro e w7 ⟨rfl, b7⟩
  go_wp2_with fail
  refine (H8.out _).mono ?_
  rintro e w8 ⟨rfl, b8⟩
  go_wp2_with fail
  go_ret
  exact ⟨rfl, Below.two (Below.three (Below.three b0 b1 b2) (Below.three b3 b4 b5) (Below.three b6 b7 b8)) (Below.refl _ _)⟩
set_option maxHeartbeats 1000000 in
set_option maxRecDepth 100000 in
theorem distRing_001 (a : Nat) (ha : a ≤ 16) (b : Nat) (hb : b ≤ 16) (c : Int) (hc : DistP.Far c) (w : World) : Calls Try.prog 3 #[.int .i64 a, .int .i64 b, .int .i64 c] w fun e w' => e = .returned (.bool true) ∧ Below w.heap.size w w' := by
  have H1 := Lib.hid (add_yes a b ha hb)
  generalize DistP.add a b = x0 at H1
  have H2 := Lib.hid (add_no b c (Or.inr hc))
  have H3 := Lib.hid (add_no a c (Or.inr hc))
  have H4 := Lib.hid (less_no b c (Or.inr hc))
  have F0 := Lib.hid (refFar_no a ha)
  have F1 := Lib.hid (refFar_no b hb)
  have F2 := Lib.hid (refFar_yes c hc)
  clear ha hb hc
  go_enter Try.func3, Try.ntmps3
  go_wp2_with fail
  refine (fact99 _).mono ?_
  rintro e w0 ⟨rfl, b0⟩
  go_wp2_with fail
  refine (H1.out _).mono ?_
  rintro e w1 ⟨rfl, b1⟩
  go_wp2_with fail
  refine (H2.out _).mono ?_
  rintro e w2 ⟨rfl, b2⟩
  go_wp2_with fail
  refine (H3.out _).mono ?_
  rintro e w3 ⟨rfl, b3⟩
  go_wp2_with fail
  refine (H4.out _).mono ?_
  rintro e w4 ⟨rfl, b4⟩
  go_wp2_with fail
  refine (F0.out _).mono ?_
  rintro e u0 ⟨rfl, rfl⟩
  go_wp2_with fail
  refine (F1.out _).mono ?_
  rintro e u1 ⟨rfl, rfl⟩
  go_wp2_with fail
  refine (F2.out _).mono ?_
  rintro e u2 ⟨rfl, rfl⟩
  go_wp2_with fail
  go_ret
  exact ⟨rfl, Below.three (Below.three b0 b1 b2) b3 b4⟩
set_option maxHeartbeats 1000000 in
set_option maxRecDepth 100000 in
theorem distRing_010 (a : Nat) (ha : a ≤ 16) (b : Int) (hb : DistP.Far b) (c : Nat) (hc : c ≤ 16) (w : World) : Calls Try.prog 3 #[.int .i64 a, .int .i64 b, .int .i64 c] w fun e w' => e = .returned (.bool true) ∧ Below w.heap.size w w' := by
  have H1 := Lib.hid (add_no a b (Or.inr hb))
  have H2 := Lib.hid (add_no b c (Or.inl hb))
  have H3 := Lib.hid (add_yes a c ha hc)
  generalize DistP.add a c = x2 at H3
  have H4 := Lib.hid (less_no b c (Or.inl hb))
  have F0 := Lib.hid (refFar_no a ha)
  have F1 := Lib.hid (refFar_yes b hb)
  clear ha hb hc
  go_enter Try.func3, Try.ntmps3
  go_wp2_with fail
  refine (fact99 _).mono ?_
  rintro e w0 ⟨rfl, b0⟩
  go_wp2_with fail
  refine (H1.out _).mono ?_
  rintro e w1 ⟨rfl, b1⟩
  go_wp2_with fail
  refine (H2.out _).mono ?_
  rintro e w2 ⟨rfl, b2⟩
  go_wp2_with fail
  refine (H3.out _).mono ?_
  rintro e w3 ⟨rfl, b3⟩
  go_wp2_with fail
  refine (H4.out _).mono ?_
  rintro e w4 ⟨rfl, b4⟩
  go_wp2_with fail
  refine (F0.out _).mono ?_
  rintro e u0 ⟨rfl, rfl⟩
  go_wp2_with fail
  refine (F1.out _).mono ?_
  rintro e u1 ⟨rfl, rfl⟩
  go_wp2_with fail
  go_ret
  exact ⟨rfl, Below.three (Below.three b0 b1 b2) b3 b4⟩
set_option maxHeartbeats 1000000 in
set_option maxRecDepth 100000 in
theorem distRing_011 (a : Nat) (ha : a ≤ 16) (b : Int) (hb : DistP.Far b) (c : Int) (hc : DistP.Far c) (w : World) : Calls Try.prog 3 #[.int .i64 a, .int .i64 b, .int .i64 c] w fun e w' => e = .returned (.bool true) ∧ Below w.heap.size w w' := by
  have H1 := Lib.hid (add_no a b (Or.inr hb))
  have H2 := Lib.hid (add_no b c (Or.inl hb))
  have H3 := Lib.hid (add_no a c (Or.inr hc))
  have H4 := Lib.hid (less_no b c (Or.inl hb))
  have F0 := Lib.hid (refFar_no a ha)
  have F1 := Lib.hid (refFar_yes b hb)
  clear ha hb hc
  go_enter Try.func3, Try.ntmps3
  go_wp2_with fail
  refine (fact99 _).mono ?_
  rintro e w0 ⟨rfl, b0⟩
  go_wp2_with fail
  refine (H1.out _).mono ?_
  rintro e w1 ⟨rfl, b1⟩
  go_wp2_with fail
  refine (H2.out _).mono ?_
  rintro e w2 ⟨rfl, b2⟩
  go_wp2_with fail
  refine (H3.out _).mono ?_
  rintro e w3 ⟨rfl, b3⟩
  go_wp2_with fail
  refine (H4.out _).mono ?_
  rintro e w4 ⟨rfl, b4⟩
  go_wp2_with fail
  refine (F0.out _).mono ?_
  rintro e u0 ⟨rfl, rfl⟩
  go_wp2_with fail
  refine (F1.out _).mono ?_
  rintro e u1 ⟨rfl, rfl⟩
  go_wp2_with fail
  go_ret
  exact ⟨rfl, Below.three (Below.three b0 b1 b2) b3 b4⟩
set_option maxHeartbeats 1000000 in
set_option maxRecDepth 100000 in
theorem distRing_100 (a : Int) (ha : DistP.Far a) (b : Nat) (hb : b ≤ 16) (c : Nat) (hc : c ≤ 16) (w : World) : Calls Try.prog 3 #[.int .i64 a, .int .i64 b, .int .i64 c] w fun e w' => e = .returned (.bool true) ∧ Below w.heap.size w w' := by
  have H1 := Lib.hid (add_no a b (Or.inl ha))
  have H2 := Lib.hid (add_yes b c hb hc)
  generalize DistP.add b c = x1 at H2
  have H3 := Lib.hid (add_no a c (Or.inl ha))
  have H4 := Lib.hid (less_yes b c hb hc)
  generalize DistP.least b c = x3 at H4
  have F0 := Lib.hid (refFar_yes a ha)
  clear ha hb hc
  go_enter Try.func3, Try.ntmps3
  go_wp2_with fail
  refine (fact99 _).mono ?_
  rintro e w0 ⟨rfl, b0⟩
  go_wp2_with fail
  refine (H1.out _).mono ?_
  rintro e w1 ⟨rfl, b1⟩
  go_wp2_with fail
  refine (H2.out _).mono ?_
  rintro e w2 ⟨rfl, b2⟩
  go_wp2_with fail
  refine (H3.out _).mono ?_
  rintro e w3 ⟨rfl, b3⟩
  go_wp2_with fail
  refine (H4.out _).mono ?_
  rintro e w4 ⟨rfl, b4⟩
  go_wp2_with fail
  refine (F0.out _).mono ?_
  rintro e u0 ⟨rfl, rfl⟩
  go_wp2_with fail
  go_ret
  exact ⟨rfl, Below.three (Below.three b0 b1 b2) b3 b4⟩
set_option maxHeartbeats 1000000 in
set_option maxRecDepth 100000 in
theorem distRing_101 (a : Int) (ha : DistP.Far a) (b : Nat) (_hb : b ≤ 16) (c : Int) (hc : DistP.Far c) (w : World) : Calls Try.prog 3 #[.int .i64 a, .int .i64 b, .int .i64 c] w fun e w' => e = .returned (.bool true) ∧ Below w.heap.size w w' := by
  have H1 := Lib.hid (add_no a b (Or.inl ha))
  have H2 := Lib.hid (add_no b c (Or.inr hc))
  have H3 := Lib.hid (add_no a c (Or.inl ha))
  have H4 := Lib.hid (less_no b c (Or.inr hc))
  have F0 := Lib.hid (refFar_yes a ha)
  clear ha hc
  go_enter Try.func3, Try.ntmps3
  go_wp2_with fail
  refine (fact99 _).mono ?_
  rintro e w0 ⟨rfl, b0⟩
  go_wp2_with fail
  refine (H1.out _).mono ?_
  rintro e w1 ⟨rfl, b1⟩
  go_wp2_with fail
  refine (H2.out _).mono ?_
  rintro e w2 ⟨rfl, b2⟩
  go_wp2_with fail
  refine (H3.out _).mono ?_
  rintro e w3 ⟨rfl, b3⟩
  go_wp2_with fail
  refine (H4.out _).mono ?_
  rintro e w4 ⟨rfl, b4⟩
  go_wp2_with fail
  refine (F0.out _).mono ?_
  rintro e u0 ⟨rfl, rfl⟩
  go_wp2_with fail
  go_ret
  exact ⟨rfl, Below.three (Below.three b0 b1 b2) b3 b4⟩
set_option maxHeartbeats 1000000 in
set_option maxRecDepth 100000 in
theorem distRing_110 (a : Int) (ha : DistP.Far a) (b : Int) (hb : DistP.Far b) (c : Nat) (_hc : c ≤ 16) (w : World) : Calls Try.prog 3 #[.int .i64 a, .int .i64 b, .int .i64 c] w fun e w' => e = .returned (.bool true) ∧ Below w.heap.size w w' := by
  have H1 := Lib.hid (add_no a b (Or.inl ha))
  have H2 := Lib.hid (add_no b c (Or.inl hb))
  have H3 := Lib.hid (add_no a c (Or.inl ha))
  have H4 := Lib.hid (less_no b c (Or.inl hb))
  have F0 := Lib.hid (refFar_yes a ha)
  clear ha hb
  go_enter Try.func3, Try.ntmps3
  go_wp2_with fail
  refine (fact99 _).mono ?_
  rintro e w0 ⟨rfl, b0⟩
  go_wp2_with fail
  refine (H1.out _).mono ?_
  rintro e w1 ⟨rfl, b1⟩
  go_wp2_with fail
  refine (H2.out _).mono ?_
  rintro e w2 ⟨rfl, b2⟩
  go_wp2_with fail
  refine (H3.out _).mono ?_
  rintro e w3 ⟨rfl, b3⟩
  go_wp2_with fail
  refine (H4.out _).mono ?_
  rintro e w4 ⟨rfl, b4⟩
  go_wp2_with fail
  refine (F0.out _).mono ?_
  rintro e u0 ⟨rfl, rfl⟩
  go_wp2_with fail
  go_ret
  exact ⟨rfl, Below.three (Below.three b0 b1 b2) b3 b4⟩
set_option maxHeartbeats 1000000 in
set_option maxRecDepth 100000 in
theorem distRing_111 (a : Int) (ha : DistP.Far a) (b : Int) (hb : DistP.Far b) (c : Int) (_hc : DistP.Far c) (w : World) : Calls Try.prog 3 #[.int .i64 a, .int .i64 b, .int .i64 c] w fun e w' => e = .returned (.bool true) ∧ Below w.heap.size w w' := by
  have H1 := Lib.hid (add_no a b (Or.inl ha))
  have H2 := Lib.hid (add_no b c (Or.inl hb))
  have H3 := Lib.hid (add_no a c (Or.inl ha))
  have H4 := Lib.hid (less_no b c (Or.inl hb))
  have F0 := Lib.hid (refFar_yes a ha)
  clear ha hb
  go_enter Try.func3, Try.ntmps3
  go_wp2_with fail
  refine (fact99 _).mono ?_
  rintro e w0 ⟨rfl, b0⟩
  go_wp2_with fail
  refine (H1.out _).mono ?_
  rintro e w1 ⟨rfl, b1⟩
  go_wp2_with fail
  refine (H2.out _).mono ?_
  rintro e w2 ⟨rfl, b2⟩
  go_wp2_with fail
  refine (H3.out _).mono ?_
  rintro e w3 ⟨rfl, b3⟩
  go_wp2_with fail
  refine (H4.out _).mono ?_
  rintro e w4 ⟨rfl, b4⟩
  go_wp2_with fail
  refine (F0.out _).mono ?_
  rintro e u0 ⟨rfl, rfl⟩
  go_wp2_with fail
  go_ret
  exact ⟨rfl, Below.three (Below.three b0 b1 b2) b3 b4⟩

theorem distRing_walk (w : World) (a b c : Int) : Calls Try.prog 3 #[.int .i64 a, .int .i64 b, .int .i64 c] w fun e w' => e = .returned (.bool true) ∧ Below w.heap.size w w' := by
  rcases DistP.cases a with ha | ⟨n, rfl, ha⟩ <;> rcases DistP.cases b with hb | ⟨m, rfl, hb⟩ <;> rcases DistP.cases c with hc | ⟨k, rfl, hc⟩
  · exact distRing_111 a ha b hb c hc w
  · exact distRing_110 a ha b hb k hc w
  · exact distRing_101 a ha m hb c hc w
  · exact distRing_100 a ha m hb k hc w
  · exact distRing_011 n ha b hb c hc w
  · exact distRing_010 n ha b hb k hc w
  · exact distRing_001 n ha m hb c hc w
  · exact distRing_good n m k ha hb hc w
end Go.Proofs.Ytbadelfnjmcfoaa
