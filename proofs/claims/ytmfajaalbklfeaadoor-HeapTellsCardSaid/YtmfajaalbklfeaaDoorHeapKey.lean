/-
  Key of a heap: what it tells.
-/
import Derived.Test.YtmfajaalbklfeaaDoorHeapActs
namespace Go.Proofs.YtmfajaalbklfeaaDoor
open Go.RowKit Go.Lib HeapP

section
variable (w : World) (q : Nat) (tv : Value) (p k n : Nat) (ky : Nat → Int) (L : List Nat) (h : Hp w q tv p k n ky L)
include h

set_option maxHeartbeats 1000000 in
set_option maxRecDepth 100000 in
theorem key_bad (i : Int) (hi : i < 0 ∨ (n : Int) ≤ i) :
    Calls Tryd.prog 7 #[.pointer (some ⟨q, 0, none⟩), .int .i64 i] w fun e w' => e = .returned (.tuple #[.int .i64 0, eV 1]) ∧ w = w' := by
  have HC := Lib.hid (checkKey_bad w q tv p k n ky L h i hi)
  clear h hi
  go_enter Tryd.func7, Tryd.ntmps7
  go_wp2_with fail
  refine HC.out.mono ?_
  rintro e w1 ⟨rfl, rfl⟩
  go_wp2_with fail
  go_ret2
  exact ⟨rfl, rfl⟩
set_option maxHeartbeats 1000000 in
set_option maxRecDepth 100000 in
theorem key_none (a : Nat) (ha : a < n) (hn : a ∉ L) :
    Calls Tryd.prog 7 #[.pointer (some ⟨q, 0, none⟩), .int .i64 a] w fun e w' => e = .returned (.tuple #[.int .i64 0, eV 2]) ∧ w = w' := by
  have HC := Lib.hid (checkKey_none w q tv p k n ky L h a ha hn)
  clear h
  go_enter Tryd.func7, Tryd.ntmps7
  go_wp2_with fail
  refine HC.out.mono ?_
  rintro e w1 ⟨rfl, rfl⟩
  go_wp2_with fail
  go_ret2
  exact ⟨rfl, rfl⟩
set_option maxHeartbeats 1000000 in
set_option maxRecDepth 100000 in
theorem key_ok (a : Nat) (hn : a ∈ L) :
    Calls Tryd.prog 7 #[.pointer (some ⟨q, 0, none⟩), .int .i64 a] w fun e w' => e = .returned (.tuple #[.int .i64 (ky a), .nilIface]) ∧ Below w.heap.size w w' := by
  have ha := h.bd a hn
  have HC := Lib.hid (checkKey_ok w q tv p k n ky L h a hn)
  have c2 := h.c2
  have va := h.kys.c a ha
  have t : (a : Int) < (n : Int) := by omega
  clear h
  go_enter Tryd.func7, Tryd.ntmps7
  go_wp2_with fail
  refine HC.out.mono ?_
  rintro e w1 ⟨rfl, rfl⟩
  go_wp2_with fail
  go_ret2
  exact ⟨rfl, Below.refl _ _⟩
end
end Go.Proofs.YtmfajaalbklfeaaDoor
