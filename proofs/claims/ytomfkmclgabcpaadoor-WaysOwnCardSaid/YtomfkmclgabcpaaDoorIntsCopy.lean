/-
  LISTS OF NUMBERS copied by the statements' own ints; a row written over by spoil.
-/
import Derived.Test.YtomfkmclgabcpaaDoorIntList
import Derived.Laws.MakeOwn
import Derived.Deep.RegionHeld3
import Derived.Test.YtomfkmclgabcpaaDoorSpoilInts
import Derived.Test.YtomfkmclgabcpaaDoorIntApp
namespace Go.Proofs.YtomfkmclgabcpaaDoor
open Go.RowKit Go.Lib

set_option maxHeartbeats 1000000 in
set_option maxRecDepth 100000 in
/-- waywardenlaw7.ints. -/
theorem intsCopy_any (w : World) (v : Value) (l : List Int) (hn : l.length * 8 ≤ 140737488355328) (h : ArgI w v l) :
    Calls Tryd.prog 15 #[v] w fun e w' => ∃ u, e = .returned u ∧ OwnI w' w.heap.size u l ∧ Below w.heap.size w w' := by
  have BA := (Below.refl w.heap.size w).alloc (Nat.le_refl _) (.cells #[] 3)
  have HA := Lib.hid (h.below BA)
  have HBA := Lib.hid BA
  obtain ⟨p, c, rfl, _⟩ := h
  clear BA
  go_enter Tryd.func15, Tryd.ntmps15
  go_wp2_with (at_builtin; refine wpl_copyI rfl _ _ rfl w.heap.size _ _ l rfl rfl (World.ownsRow_made w #[] 0 (Nat.le_refl _) (Nat.zero_le _) (by simp)) HA.out hn (by simp) ?_; intro v1 w1 hO1 hb1)
  have HB1 := Lib.hid (HBA.out.trans hb1)
  have HO := Lib.hid hO1
  clear hO1 hb1
  go_wp2_with fail
  go_ret
  exact ⟨_, rfl, HO.out, HB1.out⟩
end Go.Proofs.YtomfkmclgabcpaaDoor
