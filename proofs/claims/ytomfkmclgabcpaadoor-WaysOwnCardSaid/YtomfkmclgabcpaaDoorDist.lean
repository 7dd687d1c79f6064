/-
  dist.Check and dist.Add at every two numbers; what lay in memory stays.
-/
import Derived.Test.YtomfkmclgabcpaaDoorBoxes
import Derived.Lib.Walk
namespace Go.Proofs.YtomfkmclgabcpaaDoor
open Go.RowKit

/-- The sum of two distances, but at most 16. -/
def DistP.add (a b : Nat) : Nat := if a + b ≤ 16 then a + b else 16
/-- The smaller one. -/
def DistP.least (a b : Nat) : Nat := if a ≤ b then a else b
/-- A number that is no distance. -/
def DistP.Far (a : Int) : Prop := a < 0 ∨ 16 < a
theorem DistP.cases (a : Int) : DistP.Far a ∨ ∃ n : Nat, a = (n : Int) ∧ n ≤ 16 := by
  unfold DistP.Far
  by_cases h : a < 0 ∨ 16 < a
  · exact Or.inl h
  · exact Or.inr ⟨a.toNat, by omega, by omega⟩
theorem DistP.add_le (a b : Nat) : DistP.add a b ≤ 16 := by unfold DistP.add; split <;> omega
theorem DistP.least_le (a b : Nat) (h : a ≤ 16) : DistP.least a b ≤ 16 := by unfold DistP.least; split <;> omega

set_option maxHeartbeats 400000 in
theorem distCheck_yes (n : Nat) (h : n ≤ 16) (w : World) : Calls Tryd.prog 59 #[.int .i64 n] w fun e w' => e = .returned .nilIface ∧ w = w' := by
  have h1 : ¬ ((n : Int) < 0) := by omega
  have h2 : ¬ ((16 : Int) < n) := by omega
  go_enter Tryd.func59, Tryd.ntmps59
  go_wp2_with fail
  go_ret
  exact ⟨rfl, rfl⟩
set_option maxHeartbeats 400000 in
theorem distCheck_no (a : Int) (h : DistP.Far a) (w : World) : Calls Tryd.prog 59 #[.int .i64 a] w fun e w' => e = .returned (.iface 25 (.int .i64 1)) ∧ w = w' := by
  rcases h with h | h
  · go_enter Tryd.func59, Tryd.ntmps59
    go_wp2_with fail
    go_ret
    exact ⟨rfl, rfl⟩
  · have h1 : ¬ (a < 0) := by omega
    go_enter Tryd.func59, Tryd.ntmps59
    go_wp2_with fail
    go_ret
    exact ⟨rfl, rfl⟩

set_option maxHeartbeats 400000 in
theorem ofD_no1 (a b : Int) (f : Value) (h : DistP.Far a) (w : World) : Calls Tryd.prog 55 #[.int .i64 a, .int .i64 b, f] w fun e w' => e = .returned (.tuple #[.int .i64 0, .iface 25 (.int .i64 1)]) ∧ w = w' := by
  have H := Lib.hid h; clear h
  go_enter Tryd.func55, Tryd.ntmps55
  go_wp2_with fail
  refine (distCheck_no a H.out _).mono ?_
  rintro e w1 ⟨rfl, rfl⟩
  go_wp2_with fail
  go_ret2
  exact ⟨rfl, rfl⟩
set_option maxHeartbeats 400000 in
theorem ofD_no2 (n : Nat) (b : Int) (f : Value) (hn : n ≤ 16) (h : DistP.Far b) (w : World) : Calls Tryd.prog 55 #[.int .i64 n, .int .i64 b, f] w fun e w' => e = .returned (.tuple #[.int .i64 0, .iface 25 (.int .i64 1)]) ∧ w = w' := by
  have H := Lib.hid h; clear h
  go_enter Tryd.func55, Tryd.ntmps55
  go_wp2_with fail
  refine (distCheck_yes n hn _).mono ?_
  rintro e w1 ⟨rfl, rfl⟩
  go_wp2_with fail
  refine (distCheck_no b H.out _).mono ?_
  rintro e w1 ⟨rfl, rfl⟩
  go_wp2_with fail
  go_ret2
  exact ⟨rfl, rfl⟩
theorem DistP.add_min (n m : Nat) : min ((n : Int) + (m : Int)) 16 = (DistP.add n m : Int) := by unfold DistP.add; split <;> omega
theorem DistP.least_min (n m : Nat) : min (n : Int) (m : Int) = (DistP.least n m : Int) := by unfold DistP.least; split <;> omega

set_option maxHeartbeats 400000 in
theorem add1_any (p q : Addr) (n m : Nat) (hn : n ≤ 16) (hm : m ≤ 16) (w : World) (h1 : w.cell? p = some (.int .i64 n)) (h2 : w.cell? q = some (.int .i64 m)) :
    Calls Tryd.prog 56 #[.pointer (some p), .pointer (some q)] w fun e w' => e = .returned (.int .i64 (DistP.add n m : Int)) ∧ w = w' := by
  rw [← DistP.add_min]
  go_enter Tryd.func56, Tryd.ntmps56
  go_wp2_with fail
  go_ret
  exact ⟨rfl, rfl⟩
set_option maxHeartbeats 400000 in
theorem ofAdd_yes (p q : Addr) (n m : Nat) (hn : n ≤ 16) (hm : m ≤ 16) (w : World) (h1 : w.cell? p = some (.int .i64 n)) (h2 : w.cell? q = some (.int .i64 m)) :
    Calls Tryd.prog 55 #[.int .i64 n, .int .i64 m, .func (.func 56) #[] #[.pointer (some p), .pointer (some q)]] w fun e w' => e = .returned (.tuple #[.int .i64 (DistP.add n m : Int), .nilIface]) ∧ w = w' := by
  have H := Lib.hid (add1_any p q n m hn hm w h1 h2); clear h1 h2
  go_enter Tryd.func55, Tryd.ntmps55
  go_wp2_with fail
  refine (distCheck_yes n hn _).mono ?_
  rintro e w1 ⟨rfl, rfl⟩
  go_wp2_with fail
  refine (distCheck_yes m hm _).mono ?_
  rintro e w1 ⟨rfl, rfl⟩
  go_wp2_with fail
  refine H.out.mono ?_
  rintro e w1 ⟨rfl, rfl⟩
  go_wp2_with fail
  go_ret2
  exact ⟨rfl, rfl⟩
set_option maxHeartbeats 400000 in
theorem add_yes (n m : Nat) (hn : n ≤ 16) (hm : m ≤ 16) (w : World) :
    Calls Tryd.prog 51 #[.int .i64 n, .int .i64 m] w fun e w' => e = .returned (.tuple #[.int .i64 (DistP.add n m : Int), .nilIface]) ∧ Below w.heap.size w w' := by
  go_enter Tryd.func51, Tryd.ntmps51
  go_wp2_with fail
  refine (ofAdd_yes _ _ n m hn hm _ (by go_simp) (by go_simp)).mono ?_
  rintro e w1 ⟨rfl, rfl⟩
  go_wp2_with fail
  go_ret2
  exact ⟨rfl, ((Below.refl _ _).alloc (Nat.le_refl _) _).alloc (by simp) _⟩
set_option maxHeartbeats 400000 in
theorem add_no (a b : Int) (h : DistP.Far a ∨ DistP.Far b) (w : World) :
    Calls Tryd.prog 51 #[.int .i64 a, .int .i64 b] w fun e w' => e = .returned (.tuple #[.int .i64 0, .iface 25 (.int .i64 1)]) ∧ Below w.heap.size w w' := by
  have H : ∀ (f : Value) (w : World), Calls Tryd.prog 55 #[.int .i64 a, .int .i64 b, f] w fun e w' => e = .returned (.tuple #[.int .i64 0, .iface 25 (.int .i64 1)]) ∧ w = w' := by
    intro f w
    rcases DistP.cases a with h1 | ⟨n, rfl, hn⟩
    · exact ofD_no1 a b f h1 w
    · exact ofD_no2 n b f hn (h.resolve_left (by unfold DistP.Far; omega)) w
  have HH := Lib.hid H; clear H h
  go_enter Tryd.func51, Tryd.ntmps51
  go_wp2_with fail
  refine (HH.out _ _).mono ?_
  rintro e w1 ⟨rfl, rfl⟩
  go_wp2_with fail
  go_ret2
  exact ⟨rfl, ((Below.refl _ _).alloc (Nat.le_refl _) _).alloc (by simp) _⟩
end Go.Proofs.YtomfkmclgabcpaaDoor
