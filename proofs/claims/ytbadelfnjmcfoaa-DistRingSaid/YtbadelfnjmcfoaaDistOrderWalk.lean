/-
  The statement DistOrder's function answers true at every three numbers; what lay in memory stays.
-/
import Derived.Test.YtbadelfnjmcfoaaDist
namespace Go.Proofs.Ytbadelfnjmcfoaa
open Go.RowKit

theorem DistP.add99 : DistP.add 9 9 = 16 := by decide
theorem fact99 (w : World) : Calls Try.prog 5 #[.int .i64 9, .int .i64 9] w fun e w' => e = .returned (.tuple #[.int .i64 16, .nilIface]) ∧ Below w.heap.size w w' := by
  have := add_yes 9 9 (by decide) (by decide) w
  rwa [DistP.add99] at this
theorem DistP.add_rises (a b c : Nat) (h : a ≤ b) : DistP.add a c ≤ DistP.add b c := by unfold DistP.add; split <;> split <;> omega

set_option maxHeartbeats 400000 in
set_option maxRecDepth 100000 in
theorem distOrder_1 (a b c : Int) (h : DistP.Far a ∨ DistP.Far c) (v e1 : Value) (h2 : ∀ w, Calls Try.prog 5 #[.int .i64 b, .int .i64 c] w fun e w' => e = .returned (.tuple #[v, e1]) ∧ Below w.heap.size w w') (w : World) : Calls Try.prog 4 #[.int .i64 a, .int .i64 b, .int .i64 c] w fun e w' => e = .returned (.bool true) ∧ Below w.heap.size w w' := by
  have H := Lib.hid (add_no a c h); have H2 := Lib.hid h2; clear h h2
  go_enter Try.func4, Try.ntmps4
  go_wp2_with fail
  refine (fact99 _).mono ?_
  rintro e w1 ⟨rfl, b1⟩
  go_wp2_with fail
  refine (H.out _).mono ?_
  rintro e w2 ⟨rfl, b2⟩
  go_wp2_with fail
  refine (H2.out _).mono ?_
  rintro e w3 ⟨rfl, b3⟩
  go_wp2_with fail
  go_ret
  exact ⟨rfl, Below.three b1 b2 b3⟩
set_option maxHeartbeats 400000 in
set_option maxRecDepth 100000 in
theorem distOrder_2 (a c : Nat) (b : Int) (ha : a ≤ 16) (hc : c ≤ 16) (h : DistP.Far b) (w : World) : Calls Try.prog 4 #[.int .i64 a, .int .i64 b, .int .i64 c] w fun e w' => e = .returned (.bool true) ∧ Below w.heap.size w w' := by
  have H := Lib.hid (add_yes a c ha hc); have H2 := Lib.hid (add_no b c (Or.inl h)); clear h
  generalize DistP.add a c = x at H
  go_enter Try.func4, Try.ntmps4
  go_wp2_with fail
  refine (fact99 _).mono ?_
  rintro e w1 ⟨rfl, b1⟩
  go_wp2_with fail
  refine (H.out _).mono ?_
  rintro e w2 ⟨rfl, b2⟩
  go_wp2_with fail
  refine (H2.out _).mono ?_
  rintro e w3 ⟨rfl, b3⟩
  go_wp2_with fail
  go_ret
  exact ⟨rfl, Below.three b1 b2 b3⟩
set_option maxHeartbeats 400000 in
set_option maxRecDepth 100000 in
theorem distOrder_3 (a b c : Nat) (ha : a ≤ 16) (hb : b ≤ 16) (hc : c ≤ 16) (h : b < a) (w : World) : Calls Try.prog 4 #[.int .i64 a, .int .i64 b, .int .i64 c] w fun e w' => e = .returned (.bool true) ∧ Below w.heap.size w w' := by
  have H := Lib.hid (add_yes a c ha hc); have H2 := Lib.hid (add_yes b c hb hc)
  have h1 : (b : Int) < a := by omega
  generalize DistP.add a c = x at H
  generalize DistP.add b c = y at H2
  clear h
  go_enter Try.func4, Try.ntmps4
  go_wp2_with fail
  refine (fact99 _).mono ?_
  rintro e w1 ⟨rfl, b1⟩
  go_wp2_with fail
  refine (H.out _).mono ?_
  rintro e w2 ⟨rfl, b2⟩
  go_wp2_with fail
  refine (H2.out _).mono ?_
  rintro e w3 ⟨rfl, b3⟩
  go_wp2_with fail
  go_ret
  exact ⟨rfl, Below.three b1 b2 b3⟩
set_option maxHeartbeats 400000 in
set_option maxRecDepth 100000 in
theorem distOrder_4 (a b c : Nat) (ha : a ≤ 16) (hb : b ≤ 16) (hc : c ≤ 16) (h : a ≤ b) (w : World) : Calls Try.prog 4 #[.int .i64 a, .int .i64 b, .int .i64 c] w fun e w' => e = .returned (.bool true) ∧ Below w.heap.size w w' := by
  have H := Lib.hid (add_yes a c ha hc); have H2 := Lib.hid (add_yes b c hb hc); have h2 := DistP.add_rises a b c h
  have h1 : ¬ (b : Int) < a := by omega
  generalize DistP.add a c = x at H h2
  generalize DistP.add b c = y at H2 h2
  have h3 : (x : Int) ≤ y := by omega
  clear h h2
  go_enter Try.func4, Try.ntmps4
  go_wp2_with fail
  refine (fact99 _).mono ?_
  rintro e w1 ⟨rfl, b1⟩
  go_wp2_with fail
  refine (H.out _).mono ?_
  rintro e w2 ⟨rfl, b2⟩
  go_wp2_with fail
  refine (H2.out _).mono ?_
  rintro e w3 ⟨rfl, b3⟩
  go_wp2_with fail
  go_ret
  exact ⟨rfl, Below.three b1 b2 b3⟩

theorem add_some (a b : Int) : ∃ v e1, ∀ w, Calls Try.prog 5 #[.int .i64 a, .int .i64 b] w fun e w' => e = .returned (.tuple #[v, e1]) ∧ Below w.heap.size w w' := by
  rcases DistP.cases a with h | ⟨n, rfl, hn⟩
  · exact ⟨_, _, add_no a b (Or.inl h)⟩
  · rcases DistP.cases b with h | ⟨m, rfl, hm⟩
    · exact ⟨_, _, add_no n b (Or.inr h)⟩
    · exact ⟨_, _, add_yes n m hn hm⟩

theorem distOrder_walk (w : World) (a b c : Int) : Calls Try.prog 4 #[.int .i64 a, .int .i64 b, .int .i64 c] w fun e w' => e = .returned (.bool true) ∧ Below w.heap.size w w' := by
  obtain ⟨v, e1, h2⟩ := add_some b c
  rcases DistP.cases a with h | ⟨n, rfl, hn⟩
  · exact distOrder_1 a b c (Or.inl h) v e1 h2 w
  · rcases DistP.cases c with h | ⟨k, rfl, hk⟩
    · exact distOrder_1 n b c (Or.inr h) v e1 h2 w
    · rcases DistP.cases b with h | ⟨m, rfl, hm⟩
      · exact distOrder_2 n k b hn hk h w
      · rcases Nat.lt_or_ge m n with h | h
        · exact distOrder_3 n m k hn hm hk h w
        · exact distOrder_4 n m k hn hm hk h w
end Go.Proofs.Ytbadelfnjmcfoaa
