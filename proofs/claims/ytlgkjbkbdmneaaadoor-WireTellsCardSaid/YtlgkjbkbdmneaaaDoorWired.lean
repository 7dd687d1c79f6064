/-
  The statements' own fact on messages (an empty one's bytes); what lay in memory stays.
-/
import Derived.Test.YtlgkjbkbdmneaaaDoorWireEnc
import Derived.Test.YtlgkjbkbdmneaaaDoorSameBytes
namespace Go.Proofs.YtlgkjbkbdmneaaaDoor
open Go.RowKit Go.Lib

set_option maxHeartbeats 1000000 in
set_option maxRecDepth 100000 in
theorem wired_any (w : World) : Calls Tryd.prog 7 #[] w fun x w' => x = .returned (.bool true) ∧ Below w.heap.size w w' := by
  have HE := Lib.hid (encode_ok w true (.slice none 0 0) [] (ArgE.nil w) GoodM.nil)
  go_enter Tryd.func7, Tryd.ntmps7
  go_wp2_with fail
  refine HE.out.mono ?_
  rintro x w1 ⟨v1, rfl, o1, b1⟩
  have B2 := (Below.refl _ w1).alloc (Nat.le_refl _) (.cells #[.int .u8 1, .int .u8 2, .int .u8 0, .int .u8 0] 5)
  have o2 : OwnB (w1.alloc (.cells #[.int .u8 1, .int .u8 2, .int .u8 0, .int .u8 0] 5)) 0 (.slice (some ⟨w1.heap.size, 0, none⟩) 4 4) [1, 2, 0, 0] := OwnB.made w1 0 [1, 2, 0, 0] _ rfl (Nat.zero_le _) (by decide)
  have HS := Lib.hid (sameBytes_any _ v1 _ (enc true []) [1, 2, 0, 0] (by decide) (o1.keep B2).arg o2.arg)
  have HB := Lib.hid (Below.two b1 B2)
  clear o1 b1 B2 o2 HE
  go_wp2_with fail
  refine HS.out.mono ?_
  rintro x w2 ⟨rfl, b2⟩
  rw [show decide (enc true [] = [1, 2, 0, 0]) = true from rfl]
  go_wp2_with fail
  go_ret
  exact ⟨rfl, Below.two HB.out b2⟩
end Go.Proofs.YtlgkjbkbdmneaaaDoor
