/-
  math/bits.OnesCount32 and mask.Len, each at every argument; what lay in memory stays.
-/
import Derived.Test.YtlgkjbkbdmneaaaDoorProg
import Derived.Test.YtlgkjbkbdmneaaaDoorMaskPlain
import Derived.Test.YtlgkjbkbdmneaaaDoorMaskMake
import Derived.WalkKit
import Derived.Lib.Hide
import Derived.Lib.Walk
import Derived.Below
import Derived.Deep.QuietTactic
import Derived.BigQuiet
import Derived.WalkSmall
namespace Go.Proofs.YtlgkjbkbdmneaaaDoor
open Go.RowKit

theorem onesCount_any (m : Nat) (h : m < 4294967296) (w : World) :
    Calls Tryd.prog 50 #[.int .u32 m] w fun e w' => e = .returned (.int .i64 (MaskP.pop m : Int)) ∧ Below w.heap.size w w' := by
  have e1 := MaskP.and255 ((m : Int) / 65536) (by omega) (by omega)
  have e2 := MaskP.and255 ((m : Int) / 256) (by omega) (by omega)
  have e3 := MaskP.and255 (m : Int) (by omega) (by omega)
  have b0 : (0 : Int) ≤ (m : Int) / 16777216 := by omega
  have b1 : (m : Int) / 16777216 ≤ 255 := by omega
  go_enter Tryd.func50, Tryd.ntmps50
  go_wp2_with fail
  simp only [MaskP.fold]
  go_quiet (fail)
  go_wp2_with fail
  go_ret
  refine ⟨?_, below_drewN (Below.refl _ _) _⟩
  rw [MaskP.pop_int m h]
  rfl

set_option maxHeartbeats 400000 in
theorem len_yes (m n : Nat) (hm : m < 4294967296) (h : MaskP.len m = some n) (w : World) :
    Calls Tryd.prog 45 #[.int .u32 m] w fun e w' => e = .returned (.tuple #[.int .i64 n, .nilIface]) ∧ Below w.heap.size w w' := by
  obtain ⟨hn, hk, hp⟩ := MaskP.len_some m n hm h
  have C := onesCount_any m hm w
  rw [hp] at C
  have HC := Lib.hid C
  clear C h hp
  have ht : ((MaskP.mk n : Int) == (m : Int)) = true := by rw [hk]; simp
  clear hk
  go_enter Tryd.func45, Tryd.ntmps45
  go_wp2_with fail
  refine HC.out.mono ?_
  rintro e w1 ⟨rfl, hb⟩
  go_wp2_with fail
  refine (firstBits_any n hn _).mono ?_
  rintro e w2 ⟨rfl, rfl⟩
  go_wp2_with fail
  go_ret2
  exact ⟨rfl, hb⟩

set_option maxHeartbeats 400000 in
theorem len_no (m : Nat) (hm : m < 4294967296) (h : MaskP.len m = none) (w : World) :
    Calls Tryd.prog 45 #[.int .u32 m] w fun e w' => e = .returned (.tuple #[.int .i64 0, .iface 27 (.int .i64 3)]) ∧ Below w.heap.size w w' := by
  have hl := MaskP.pop_le m hm
  have hk := MaskP.len_none m h (MaskP.pop m) hl
  have HC := Lib.hid (onesCount_any m hm w)
  clear h
  have ht : ((MaskP.mk (MaskP.pop m) : Int) == (m : Int)) = false := by
    have : ¬ ((MaskP.mk (MaskP.pop m) : Int) = (m : Int)) := by omega
    simpa using this
  clear hk
  generalize MaskP.pop m = n at HC hl ht
  go_enter Tryd.func45, Tryd.ntmps45
  go_wp2_with fail
  refine HC.out.mono ?_
  rintro e w1 ⟨rfl, hb⟩
  go_wp2_with fail
  refine (firstBits_any n hl _).mono ?_
  rintro e w2 ⟨rfl, rfl⟩
  go_wp2_with fail
  go_ret2
  exact ⟨rfl, hb⟩
end Go.Proofs.YtlgkjbkbdmneaaaDoor
