/-
  addr.Parse at every text within the form's reach, told by what the text spells; what lay in memory stays.
-/
import Derived.Test.YtegfjdpibpmdmaaGreatDoorAddrText
import Derived.Test.YtegfjdpibpmdmaaGreatDoorAddrParse
import Derived.LaidEql
namespace Go.Proofs.YtegfjdpibpmdmaaGreatDoor
open Go.RowKit

theorem index_one : IndexOne := fun s c w => Tryz.strings_Index_one s c w

theorem AddrP.text_len (a : Nat) : (AddrP.text a).length ≤ 15 := by
  have l3 := AddrP.dig_len _ (AddrP.b3_lt a)
  have l2 := AddrP.dig_len _ (AddrP.b2_lt a)
  have l1 := AddrP.dig_len _ (AddrP.b1_lt a)
  have l0 := AddrP.dig_len _ (AddrP.b0_lt a)
  unfold AddrP.text
  simp only [List.length_append, List.length_cons]
  omega

theorem parse_yes (s : ByteArray) (n : Nat) (w : World) (hs : s.size ≤ 140737488355328) (h : AddrP.parse s.data.toList = some n) :
    Calls Tryz.prog 31 #[.string s] w fun e w' => e = .returned (.tuple #[.int .u32 n, .nilIface]) ∧ Below w.heap.size w w' := by
  refine (parse_any index_one s w hs).mono ?_
  rintro e w' ⟨he, hb⟩
  rw [h] at he
  exact ⟨he, hb⟩
theorem parse_no (s : ByteArray) (w : World) (hs : s.size ≤ 140737488355328) (h : AddrP.parse s.data.toList = none) :
    Calls Tryz.prog 31 #[.string s] w fun e w' => e = .returned (.tuple #[.int .u32 0, .iface 26 (.int .i64 3)]) ∧ Below w.heap.size w w' := by
  refine (parse_any index_one s w hs).mono ?_
  rintro e w' ⟨he, hb⟩
  rw [h] at he
  exact ⟨he, hb⟩
end Go.Proofs.YtegfjdpibpmdmaaGreatDoor
