/-
  wheel's Clear.
-/
import Derived.Test.YtdgfaolflnljaaaDoorWheelDrop
namespace Go.Proofs.YtdgfaolflnljaaaDoor
open Go.RowKit Go.Lib WheelP Go.Maps

set_option maxHeartbeats 1000000 in
set_option maxRecDepth 100000 in
theorem wClear_bad (w : World) (p : Nat) (i : Int) (hi : i < 0 ∨ 64 ≤ i) :
    Calls Tryd.prog 10 #[.pointer (some ⟨p, 0, none⟩), .int .i64 i] w fun e w' => e = .returned (.iface 27 (.int .i64 1)) ∧ w = w' := by
  have HC := Lib.hid (wCheck_bad w i hi)
  clear hi
  go_enter Tryd.func10, Tryd.ntmps10
  go_wp2_with fail
  refine HC.out.mono ?_
  rintro e w1 ⟨rfl, rfl⟩
  go_wp2_with fail
  go_ret
  exact ⟨rfl, rfl⟩
set_option maxHeartbeats 1000000 in
set_option maxRecDepth 100000 in
theorem wClear_ok (w : World) (p : Nat) (m : Nat → Option Nat) (now : Nat) (f : Nat → Nat) (h : Whl w p m now f) (k : Nat) (hk : k < 64) :
    Calls Tryd.prog 10 #[.pointer (some ⟨p, 0, none⟩), .int .i64 k] w fun e w' => e = .returned (if 0 < f k then .nilIface else .iface 27 (.int .i64 2)) ∧ Whl w' p m now (upd f k 0) ∧ Keep (InW p m) w w' := by
  have HC := Lib.hid (wCheck_ok w k hk)
  have HD := wDrop_any w p m now f h k hk
  by_cases hf : 0 < f k
  · rw [decide_eq_true hf] at HD
    rw [if_pos hf]
    have HD := Lib.hid HD
    clear h hk hf
    go_enter Tryd.func10, Tryd.ntmps10
    go_wp2_with fail
    refine HC.out.mono ?_
    rintro e w1 ⟨rfl, rfl⟩
    go_wp2_with fail
    refine HD.out.mono ?_
    rintro e w1 ⟨rfl, h1, h2⟩
    have H1 := Lib.hid (And.intro h1 h2)
    clear h1 h2
    go_wp2_with fail
    go_ret
    exact ⟨rfl, H1.out⟩
  · rw [decide_eq_false hf] at HD
    rw [if_neg hf]
    have HD := Lib.hid HD
    clear h hk hf
    go_enter Tryd.func10, Tryd.ntmps10
    go_wp2_with fail
    refine HC.out.mono ?_
    rintro e w1 ⟨rfl, rfl⟩
    go_wp2_with fail
    refine HD.out.mono ?_
    rintro e w1 ⟨rfl, h1, h2⟩
    have H1 := Lib.hid (And.intro h1 h2)
    clear h1 h2
    go_wp2_with fail
    go_ret
    exact ⟨rfl, H1.out⟩
end Go.Proofs.YtdgfaolflnljaaaDoor
