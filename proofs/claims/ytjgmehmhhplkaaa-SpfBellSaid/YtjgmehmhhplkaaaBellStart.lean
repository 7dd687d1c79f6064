/-
  bell.Start at every two numbers; what lay in memory stays.
-/
import Derived.Test.YtjgmehmhhplkaaaBellNode
import Derived.Test.YtjgmehmhhplkaaaRepeat
namespace Go.Proofs.Ytjgmehmhhplkaaa
open Go.RowKit Go.Lib

/-- The fault of a number of nodes and a node. -/
def startBad (n to : Int) : Int := if n < 1 ∨ 8 < n then 1 else nodeBad n to
theorem startBad_zero (n to : Int) : startBad n to = 0 ↔ (1 ≤ n ∧ n ≤ 8) ∧ 0 ≤ to ∧ to < n := by
  unfold startBad; split
  · constructor
    · intro h; omega
    · intro h; omega
  · rw [nodeBad_zero]
    constructor
    · intro h; omega
    · intro h; exact h.2

set_option maxHeartbeats 400000 in
set_option maxRecDepth 100000 in
/-- bell.Start at what is no node. -/
theorem start_bad (w : World) (n to : Int) (h : startBad n to ≠ 0) :
    Calls Try.prog 19 #[.int .i64 n, .int .i64 to] w fun e w' => e = .returned (.tuple #[.slice none 0 0, errV (startBad n to)]) ∧ w = w' := by
  by_cases h1 : n < 1
  · rw [show startBad n to = 1 from if_pos (Or.inl h1)]
    go_enter Try.func19, Try.ntmps19
    go_wp2_with fail
    go_ret2
    exact ⟨rfl, rfl⟩
  · by_cases h2 : 8 < n
    · rw [show startBad n to = 1 from if_pos (Or.inr h2)]
      go_enter Try.func19, Try.ntmps19
      go_wp2_with fail
      go_ret2
      exact ⟨rfl, rfl⟩
    · have e : startBad n to = nodeBad n to := if_neg (by omega)
      rw [e] at h ⊢
      have e2 : nodeBad n to = 1 := by
        unfold nodeBad at h ⊢
        split
        · rfl
        · rename_i hh
          rw [if_neg hh] at h
          exact absurd rfl h
      have HC := checkNode_any w n to
      rw [e2] at HC
      rw [e2]
      have HC : Hid (Calls Try.prog 37 #[.int .i64 n, .int .i64 to] w fun e w' => e = .returned (.iface 60 (.int .i64 1)) ∧ w = w') := Lib.hid HC
      clear e h e2
      go_enter Try.func19, Try.ntmps19
      go_wp2_with fail
      refine HC.out.mono ?_
      rintro e w1 ⟨rfl, rfl⟩
      go_wp2_with fail
      go_ret2
      exact ⟨rfl, rfl⟩

set_option maxHeartbeats 1000000 in
set_option maxRecDepth 100000 in
/-- bell.Start at a node. -/
theorem start_ok (w : World) (m t : Nat) (h1 : 1 ≤ m) (h8 : m ≤ 8) (ht : t < m) :
    Calls Try.prog 19 #[.int .i64 m, .int .i64 t] w fun e w' => ∃ g, w.heap.size ≤ g ∧ e = .returned (.tuple #[.slice (some ⟨g, 0, none⟩) m m, .nilIface]) ∧ Vec w' g m (fun i => (BellP.st t i : Int)) ∧ Below w.heap.size w w' := by
  have HC := checkNode_any w m t
  rw [(nodeBad_zero _ _).2 (by omega)] at HC
  have HC : Hid (Calls Try.prog 37 #[.int .i64 m, .int .i64 t] w fun e w' => e = .returned .nilIface ∧ w = w') := Lib.hid HC
  have t1 : ¬ ((m : Int) < 1) := by omega
  have t2 : ¬ ((8 : Int) < m) := by omega
  have BA := (Below.refl w.heap.size w).alloc (Nat.le_refl _) (.cells #[.int .i64 16] 3)
  have HR := Lib.hid (repeat_any (w.alloc (.cells #[.int .i64 16] 3)) 16 w.heap.size m h1 h8 (by simp) (by simp))
  have HBA := Lib.hid BA
  clear BA
  go_enter Try.func19, Try.ntmps19
  go_wp2_with fail
  refine HC.out.mono ?_
  rintro e w1 ⟨rfl, rfl⟩
  clear t1 t2
  go_wp2_with fail
  refine HR.out.mono ?_
  rintro e w1 ⟨g, hg, rfl, hV, hb⟩
  have c0 := hV.c t ht
  have f0 := hV.f t
  have hB : Below w.heap.size w w1 := HBA.out.trans (hb.mono (by simp))
  have hgs : w.heap.size ≤ g := by
    have : (w.alloc (.cells #[.int .i64 16] 3)).heap.size = w.heap.size + 1 := by simp
    omega
  have HV := Lib.hid hV; have HB := Lib.hid hB; have HS := Lib.hid hgs
  clear hV hb hg hB hgs
  go_wp2_with fail
  go_ret2
  refine ⟨g, HS.out, rfl, (HV.out.set t 0).congr fun i _ => ?_, HB.out.setCell (p := ⟨g, t, none⟩) HS.out _⟩
  unfold BellP.st
  by_cases e : i = t
  · rw [if_pos e, if_pos e]; rfl
  · rw [if_neg e, if_neg e]; rfl
end Go.Proofs.Ytjgmehmhhplkaaa
