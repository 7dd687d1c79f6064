/-
  dist.Less at every two numbers; what lay in memory stays.
-/
import Derived.Test.YtjgmehmhhplkaaaDist
namespace Go.Proofs.Ytjgmehmhhplkaaa
open Go.RowKit

set_option maxHeartbeats 400000 in
theorem less1_any (p q : Addr) (n m : Nat) (w : World) (h1 : w.cell? p = some (.int .i64 n)) (h2 : w.cell? q = some (.int .i64 m)) :
    Calls Try.prog 52 #[.pointer (some p), .pointer (some q)] w fun e w' => e = .returned (.int .i64 (DistP.least n m : Int)) ∧ w = w' := by
  rw [← DistP.least_min]
  go_enter Try.func52, Try.ntmps52
  go_wp2_with fail
  go_ret
  exact ⟨rfl, rfl⟩
set_option maxHeartbeats 400000 in
theorem ofLess_yes (p q : Addr) (n m : Nat) (hn : n ≤ 16) (hm : m ≤ 16) (w : World) (h1 : w.cell? p = some (.int .i64 n)) (h2 : w.cell? q = some (.int .i64 m)) :
    Calls Try.prog 48 #[.int .i64 n, .int .i64 m, .func (.func 52) #[] #[.pointer (some p), .pointer (some q)]] w fun e w' => e = .returned (.tuple #[.int .i64 (DistP.least n m : Int), .nilIface]) ∧ w = w' := by
  have H := Lib.hid (less1_any p q n m w h1 h2); clear h1 h2
  go_enter Try.func48, Try.ntmps48
  go_wp2_with fail
  refine (distCheck_yes n hn _).mono ?_
  rintro e w1 ⟨rfl, rfl⟩
  go_wp2_with fail
  refine (distCheck_yes m hm _).mono ?_
  rintro e w1 ⟨rfl, rfl⟩
  go_wp2_with fail
  refine H.out.mono ?_
  rintro e w1 ⟨rfl, rfl⟩
  go_wp2_with fail
  go_ret2
  exact ⟨rfl, rfl⟩
set_option maxHeartbeats 400000 in
theorem less_yes (n m : Nat) (hn : n ≤ 16) (hm : m ≤ 16) (w : World) :
    Calls Try.prog 43 #[.int .i64 n, .int .i64 m] w fun e w' => e = .returned (.tuple #[.int .i64 (DistP.least n m : Int), .nilIface]) ∧ Below w.heap.size w w' := by
  go_enter Try.func43, Try.ntmps43
  go_wp2_with fail
  refine (ofLess_yes _ _ n m hn hm _ (by go_simp) (by go_simp)).mono ?_
  rintro e w1 ⟨rfl, rfl⟩
  go_wp2_with fail
  go_ret2
  exact ⟨rfl, ((Below.refl _ _).alloc (Nat.le_refl _) _).alloc (by simp) _⟩
set_option maxHeartbeats 400000 in
theorem less_no (a b : Int) (h : DistP.Far a ∨ DistP.Far b) (w : World) :
    Calls Try.prog 43 #[.int .i64 a, .int .i64 b] w fun e w' => e = .returned (.tuple #[.int .i64 0, .iface 60 (.int .i64 1)]) ∧ Below w.heap.size w w' := by
  have H : ∀ (f : Value) (w : World), Calls Try.prog 48 #[.int .i64 a, .int .i64 b, f] w fun e w' => e = .returned (.tuple #[.int .i64 0, .iface 60 (.int .i64 1)]) ∧ w = w' := by
    intro f w
    rcases DistP.cases a with h1 | ⟨n, rfl, hn⟩
    · exact ofD_no1 a b f h1 w
    · exact ofD_no2 n b f hn (h.resolve_left (by unfold DistP.Far; omega)) w
  have HH := Lib.hid H; clear H h
  go_enter Try.func43, Try.ntmps43
  go_wp2_with fail
  refine (HH.out _ _).mono ?_
  rintro e w1 ⟨rfl, rfl⟩
  go_wp2_with fail
  go_ret2
  exact ⟨rfl, ((Below.refl _ _).alloc (Nat.le_refl _) _).alloc (by simp) _⟩
end Go.Proofs.Ytjgmehmhhplkaaa
