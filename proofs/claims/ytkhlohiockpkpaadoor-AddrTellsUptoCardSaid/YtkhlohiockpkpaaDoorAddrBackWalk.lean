/-
  The statement AddrBack's function answers true at every address and every text; what lay in memory stays. Conditions: the library's table of powers of ten is as its text lays it, the text is within the form's reach.
-/
import Derived.Test.YtkhlohiockpkpaaDoorAddrText
import Derived.Test.YtkhlohiockpkpaaDoorAddrParse
import Derived.LaidEql
namespace Go.Proofs.YtkhlohiockpkpaaDoor
open Go.RowKit

theorem index_one : IndexOne := fun s c w => Tryd.strings_Index_one s c w

theorem AddrP.text_len (a : Nat) : (AddrP.text a).length ≤ 15 := by
  have l3 := AddrP.dig_len _ (AddrP.b3_lt a)
  have l2 := AddrP.dig_len _ (AddrP.b2_lt a)
  have l1 := AddrP.dig_len _ (AddrP.b1_lt a)
  have l0 := AddrP.dig_len _ (AddrP.b0_lt a)
  unfold AddrP.text
  simp only [List.length_append, List.length_cons]
  omega

theorem parse_yes (s : ByteArray) (n : Nat) (w : World) (hs : s.size ≤ 140737488355328) (h : AddrP.parse s.data.toList = some n) :
    Calls Tryd.prog 6 #[.string s] w fun e w' => e = .returned (.tuple #[.int .u32 n, .nilIface]) ∧ Below w.heap.size w w' := by
  refine (parse_any index_one s w hs).mono ?_
  rintro e w' ⟨he, hb⟩
  rw [h] at he
  exact ⟨he, hb⟩
theorem parse_no (s : ByteArray) (w : World) (hs : s.size ≤ 140737488355328) (h : AddrP.parse s.data.toList = none) :
    Calls Tryd.prog 6 #[.string s] w fun e w' => e = .returned (.tuple #[.int .u32 0, .iface 25 (.int .i64 3)]) ∧ Below w.heap.size w w' := by
  refine (parse_any index_one s w hs).mono ?_
  rintro e w' ⟨he, hb⟩
  rw [h] at he
  exact ⟨he, hb⟩

set_option maxHeartbeats 1000000 in
theorem addrBack_walk (a : Nat) (s : ByteArray) (w : World) (ha : a < 4294967296) (hs : s.size ≤ 140737488355328) (ht : Pow10 w) :
    Calls Tryd.prog 4 #[.int .u32 a, .string s] w fun e w' => e = .returned (.bool true) ∧ Below w.heap.size w w' := by
  have HT := Lib.hid ht; clear ht
  have P1 := Lib.hid (fun w => parse_yes ⟨(AddrP.text a).toArray⟩ a w (by have := AddrP.text_len a; show (AddrP.text a).length ≤ _; omega) (AddrP.parse_text a ha))
  cases hp : AddrP.parse s.data.toList with
  | none =>
    have P2 := Lib.hid (fun w => parse_no s w hs hp); clear hp
    go_enter Tryd.func4, Tryd.ntmps4
    go_wp2_with fail
    refine (text_any a w ha HT.out).mono ?_
    rintro e w1 ⟨rfl, hb1⟩
    go_wp2_with fail
    refine (P1.out w1).mono ?_
    rintro e w2 ⟨rfl, hb2⟩
    go_wp2_with fail
    refine (P2.out w2).mono ?_
    rintro e w3 ⟨rfl, hb3⟩
    go_wp2_with fail
    go_ret
    exact ⟨rfl, (hb1.trans (hb2.mono hb1.size)).trans (hb3.mono (Nat.le_trans hb1.size hb2.size))⟩
  | some n =>
    obtain ⟨hn, htx⟩ := AddrP.text_parse hp
    have P2 := Lib.hid (fun w => parse_yes s n w hs hp); clear hp
    have hse : (⟨(AddrP.text n).toArray⟩ : ByteArray) = s := by
      apply ByteArray.ext
      apply Array.toList_inj.1
      exact htx
    have HX := Lib.hid hse; clear hse htx
    go_enter Tryd.func4, Tryd.ntmps4
    go_wp2_with fail
    refine (text_any a w ha HT.out).mono ?_
    rintro e w1 ⟨rfl, hb1⟩
    go_wp2_with fail
    refine (P1.out w1).mono ?_
    rintro e w2 ⟨rfl, hb2⟩
    go_wp2_with fail
    refine (P2.out w2).mono ?_
    rintro e w3 ⟨rfl, hb3⟩
    have H3 := ((HT.out.below hb1).below hb2).below hb3
    go_wp2_with fail
    refine (text_any n w3 hn H3).mono ?_
    rintro e w4 ⟨rfl, hb4⟩
    rw [HX.out]
    go_wp2_with fail
    go_ret
    exact ⟨rfl, ((hb1.trans (hb2.mono hb1.size)).trans (hb3.mono (Nat.le_trans hb1.size hb2.size))).trans (hb4.mono (Nat.le_trans (Nat.le_trans hb1.size hb2.size) hb3.size))⟩
end Go.Proofs.YtkhlohiockpkpaaDoor
