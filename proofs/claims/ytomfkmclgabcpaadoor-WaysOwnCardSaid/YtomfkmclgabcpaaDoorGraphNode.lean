/-
  graph.isNode, graph.ends and graph.checkLink at every numbers; what lay in memory stays.
-/
import Derived.Test.YtomfkmclgabcpaaDoorLinkList
import Derived.Test.YtomfkmclgabcpaaDoorErrV
import Derived.Lib.Walk
namespace Go.Proofs.YtomfkmclgabcpaaDoor
open Go.RowKit

set_option maxHeartbeats 400000 in
theorem isNode_yes (n i : Int) (h : 0 ≤ i ∧ i < n) (w : World) : Calls Tryd.prog 43 #[.int .i64 n, .int .i64 i] w fun e w' => e = .returned (.bool true) ∧ w = w' := by
  obtain ⟨h1, h2⟩ := h
  go_enter Tryd.func43, Tryd.ntmps43
  go_wp2_with fail
  go_ret
  exact ⟨rfl, rfl⟩
set_option maxHeartbeats 400000 in
theorem isNode_no (n i : Int) (h : ¬ (0 ≤ i ∧ i < n)) (w : World) : Calls Tryd.prog 43 #[.int .i64 n, .int .i64 i] w fun e w' => e = .returned (.bool false) ∧ w = w' := by
  by_cases h1 : 0 ≤ i
  · have h2 : ¬ (i < n) := fun e => h ⟨h1, e⟩
    clear h
    go_enter Tryd.func43, Tryd.ntmps43
    go_wp2_with fail
    go_ret
    exact ⟨rfl, rfl⟩
  · clear h
    go_enter Tryd.func43, Tryd.ntmps43
    go_wp2_with fail
    go_ret
    exact ⟨rfl, rfl⟩
/-- graph.isNode. -/
theorem isNode_any (n i : Int) (w : World) : Calls Tryd.prog 43 #[.int .i64 n, .int .i64 i] w fun e w' => e = .returned (.bool (decide (0 ≤ i ∧ i < n))) ∧ w = w' := by
  by_cases h : 0 ≤ i ∧ i < n
  · rw [decide_eq_true h]; exact isNode_yes n i h w
  · rw [decide_eq_false h]; exact isNode_no n i h w

/-- A pair (in the block of the result) is returned. -/
theorem bodyPost_pair {fn : Func} {R : Ending → World → Prop} {a : Act} {W : World} {n : Nat} {x y : Value} (hres : fn.results = #[.cell 4 67]) (h4 : a.tmps[4]?.getD undef = .pointer (some ⟨n, 0, none⟩))
    (c0 : W.cell? ⟨n, 0, none⟩ = some x) (c1 : W.cell? ⟨n, 1, none⟩ = some y) (hd : a.defers = []) (hR : R (.returned (.agg #[x, y])) W) : bodyPost Tryd.prog fn R .ret a W := by
  refine bodyPost_ret (v := .agg #[x, y]) ?_ hd hR
  simp [results, hres, go_sem, h4, c0, c1]
set_option maxHeartbeats 400000 in
/-- graph.ends: the two nodes in increasing order. -/
theorem ends_any (a b : Int) (w : World) : Calls Tryd.prog 35 #[.int .i64 a, .int .i64 b] w fun e w' => e = .returned (.agg #[.int .i64 (min a b), .int .i64 (max a b)]) ∧ Below w.heap.size w w' := by
  go_enter Tryd.func35, Tryd.ntmps35
  go_wp2_with fail
  exact bodyPost_pair Tryd.results35 rfl (by simp) (by simp) rfl ⟨rfl, (Below.refl _ w).alloc (Nat.le_refl _) _⟩
set_option maxHeartbeats 400000 in
theorem checkLink_a (n a b c : Int) (h : ¬ (0 ≤ a ∧ a < n)) (w : World) : Calls Tryd.prog 34 #[.int .i64 n, .agg #[.int .i64 a, .int .i64 b, .int .i64 c]] w fun e w' => e = .returned (.iface 25 (.int .i64 1)) ∧ Below w.heap.size w w' := by
  have H := Lib.hid h; clear h
  go_enter Tryd.func34, Tryd.ntmps34
  go_wp2_with fail
  refine (isNode_no n a H.out _).mono ?_
  rintro e w1 ⟨rfl, rfl⟩
  go_wp2_with fail
  go_ret
  exact ⟨rfl, (Below.refl _ w).alloc (Nat.le_refl _) _⟩
set_option maxHeartbeats 400000 in
theorem checkLink_b (n a b c : Int) (h : 0 ≤ a ∧ a < n) (h' : ¬ (0 ≤ b ∧ b < n)) (w : World) : Calls Tryd.prog 34 #[.int .i64 n, .agg #[.int .i64 a, .int .i64 b, .int .i64 c]] w fun e w' => e = .returned (.iface 25 (.int .i64 1)) ∧ Below w.heap.size w w' := by
  have H := Lib.hid h; clear h
  have H' := Lib.hid h'; clear h'
  go_enter Tryd.func34, Tryd.ntmps34
  go_wp2_with fail
  refine (isNode_yes n a H.out _).mono ?_
  rintro e w1 ⟨rfl, rfl⟩
  go_wp2_with fail
  refine (isNode_no n b H'.out _).mono ?_
  rintro e w1 ⟨rfl, rfl⟩
  go_wp2_with fail
  go_ret
  exact ⟨rfl, (Below.refl _ w).alloc (Nat.le_refl _) _⟩
set_option maxHeartbeats 400000 in
theorem checkLink_c (n a b c : Int) (h : 0 ≤ a ∧ a < n) (h' : 0 ≤ b ∧ b < n) (hc : c < 1 ∨ 16 ≤ c) (w : World) : Calls Tryd.prog 34 #[.int .i64 n, .agg #[.int .i64 a, .int .i64 b, .int .i64 c]] w fun e w' => e = .returned (.iface 25 (.int .i64 1)) ∧ Below w.heap.size w w' := by
  have H := Lib.hid h; clear h
  have H' := Lib.hid h'; clear h'
  by_cases h1 : c < 1
  · clear hc
    go_enter Tryd.func34, Tryd.ntmps34
    go_wp2_with fail
    refine (isNode_yes n a H.out _).mono ?_
    rintro e w1 ⟨rfl, rfl⟩
    go_wp2_with fail
    refine (isNode_yes n b H'.out _).mono ?_
    rintro e w1 ⟨rfl, rfl⟩
    go_wp2_with fail
    go_ret
    exact ⟨rfl, (Below.refl _ w).alloc (Nat.le_refl _) _⟩
  · have h2 : 16 ≤ c := by omega
    clear hc
    go_enter Tryd.func34, Tryd.ntmps34
    go_wp2_with fail
    refine (isNode_yes n a H.out _).mono ?_
    rintro e w1 ⟨rfl, rfl⟩
    go_wp2_with fail
    refine (isNode_yes n b H'.out _).mono ?_
    rintro e w1 ⟨rfl, rfl⟩
    go_wp2_with fail
    go_ret
    exact ⟨rfl, (Below.refl _ w).alloc (Nat.le_refl _) _⟩
set_option maxHeartbeats 400000 in
theorem checkLink_d (n a c : Int) (h : 0 ≤ a ∧ a < n) (h1 : ¬ (c < 1)) (h2 : ¬ (16 ≤ c)) (w : World) : Calls Tryd.prog 34 #[.int .i64 n, .agg #[.int .i64 a, .int .i64 a, .int .i64 c]] w fun e w' => e = .returned (.iface 25 (.int .i64 3)) ∧ Below w.heap.size w w' := by
  have H := Lib.hid h; clear h
  go_enter Tryd.func34, Tryd.ntmps34
  go_wp2_with fail
  refine (isNode_yes n a H.out _).mono ?_
  rintro e w1 ⟨rfl, rfl⟩
  go_wp2_with fail
  refine (isNode_yes n a H.out _).mono ?_
  rintro e w1 ⟨rfl, rfl⟩
  go_wp2_with fail
  go_ret
  exact ⟨rfl, (Below.refl _ w).alloc (Nat.le_refl _) _⟩
set_option maxHeartbeats 400000 in
theorem checkLink_ok (n a b c : Int) (h : 0 ≤ a ∧ a < n) (h' : 0 ≤ b ∧ b < n) (h1 : ¬ (c < 1)) (h2 : ¬ (16 ≤ c)) (hab : a ≠ b) (w : World) : Calls Tryd.prog 34 #[.int .i64 n, .agg #[.int .i64 a, .int .i64 b, .int .i64 c]] w fun e w' => e = .returned .nilIface ∧ Below w.heap.size w w' := by
  have H := Lib.hid h; clear h
  have H' := Lib.hid h'; clear h'
  have t : (a == b) = false := by simpa using hab
  clear hab
  go_enter Tryd.func34, Tryd.ntmps34
  go_wp2_with fail
  refine (isNode_yes n a H.out _).mono ?_
  rintro e w1 ⟨rfl, rfl⟩
  go_wp2_with fail
  refine (isNode_yes n b H'.out _).mono ?_
  rintro e w1 ⟨rfl, rfl⟩
  go_wp2_with fail
  go_ret
  exact ⟨rfl, (Below.refl _ w).alloc (Nat.le_refl _) _⟩
/-- graph.checkLink at every link. -/
theorem checkLink_any (n : Int) (x : Lk) (w : World) : Calls Tryd.prog 34 #[.int .i64 n, .agg #[.int .i64 x.1, .int .i64 x.2.1, .int .i64 x.2.2]] w fun e w' => e = .returned (errV (linkBad n x)) ∧ Below w.heap.size w w' := by
  obtain ⟨a, b, c⟩ := x
  by_cases ha : 0 ≤ a ∧ a < n
  · by_cases hb : 0 ≤ b ∧ b < n
    · by_cases hc : c < 1 ∨ 16 ≤ c
      · rw [show linkBad n (a, b, c) = 1 from if_pos (by show a < 0 ∨ n ≤ a ∨ b < 0 ∨ n ≤ b ∨ c < 1 ∨ 15 < c; omega)]
        exact checkLink_c n a b c ha hb hc w
      · have e0 : ¬ (a < 0 ∨ n ≤ a ∨ b < 0 ∨ n ≤ b ∨ c < 1 ∨ 15 < c) := by omega
        by_cases hab : a = b
        · subst hab
          rw [show linkBad n (a, a, c) = 3 from (if_neg e0).trans (if_pos rfl)]
          exact checkLink_d n a c ha (by omega) (by omega) w
        · rw [show linkBad n (a, b, c) = 0 from (if_neg e0).trans (if_neg hab)]
          exact checkLink_ok n a b c ha hb (by omega) (by omega) hab w
    · rw [show linkBad n (a, b, c) = 1 from if_pos (by show a < 0 ∨ n ≤ a ∨ b < 0 ∨ n ≤ b ∨ c < 1 ∨ 15 < c; omega)]
      exact checkLink_b n a b c ha hb w
  · rw [show linkBad n (a, b, c) = 1 from if_pos (by show a < 0 ∨ n ≤ a ∨ b < 0 ∨ n ≤ b ∨ c < 1 ∨ 15 < c; omega)]
    exact checkLink_a n a b c ha w
end Go.Proofs.YtomfkmclgabcpaaDoor
