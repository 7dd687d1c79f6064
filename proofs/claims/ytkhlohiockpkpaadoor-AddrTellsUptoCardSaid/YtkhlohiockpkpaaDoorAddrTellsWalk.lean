/-
  The statement AddrTells' function answers true at every address and every text of at most 2^40 bytes; what lay in memory stays. Conditions: the library's table of powers of ten and its variable errors.errorType are as their texts lay them.
-/
import Derived.Test.YtkhlohiockpkpaaDoorAddrBackWalk
import Derived.Test.YtkhlohiockpkpaaDoorRefAddr
import Derived.Test.YtkhlohiockpkpaaDoorRefText
import Derived.Test.YtkhlohiockpkpaaDoorErrTold
namespace Go.Proofs.YtkhlohiockpkpaaDoor
open Go.RowKit

theorem addrOf_yes (s : ByteArray) (n : Nat) (w : World) (hs : s.size ≤ 1099511627776) (h : AddrP.parse s.data.toList = some n) :
    Calls Tryd.prog 5 #[.string s] w fun e w' => e = .returned (.tuple #[.int .u32 n, .bool true]) ∧ Below w.heap.size w w' := by
  refine (addrOf_any s w hs).mono ?_
  rintro e w' ⟨he, hb⟩
  rw [h] at he
  exact ⟨he, hb⟩
theorem addrOf_no (s : ByteArray) (w : World) (hs : s.size ≤ 1099511627776) (h : AddrP.parse s.data.toList = none) :
    Calls Tryd.prog 5 #[.string s] w fun e w' => e = .returned (.tuple #[.int .u32 0, .bool false]) ∧ Below w.heap.size w w' := by
  refine (addrOf_any s w hs).mono ?_
  rintro e w' ⟨he, hb⟩
  rw [h] at he
  exact ⟨he, hb⟩

theorem below4 {w w1 w2 w3 w4 : World} (h1 : Below w.heap.size w w1) (h2 : Below w1.heap.size w1 w2) (h3 : Below w2.heap.size w2 w3) (h4 : Below w3.heap.size w3 w4) : Below w.heap.size w w4 :=
  ((h1.trans (h2.mono h1.size)).trans (h3.mono (Nat.le_trans h1.size h2.size))).trans (h4.mono (Nat.le_trans (Nat.le_trans h1.size h2.size) h3.size))
theorem below2 {w w1 w2 : World} (h1 : Below w.heap.size w w1) (h2 : Below w1.heap.size w1 w2) : Below w.heap.size w w2 := h1.trans (h2.mono h1.size)

set_option maxHeartbeats 1000000 in
theorem addrTells_walk (a : Nat) (s : ByteArray) (w : World) (ha : a < 4294967296) (hs : s.size ≤ 1099511627776) (ht : Pow10 w) (he : ErrType w) :
    Calls Tryd.prog 3 #[.int .u32 a, .string s] w fun e w' => e = .returned (.bool true) ∧ Below w.heap.size w w' := by
  have HT := Lib.hid ht; have HE := Lib.hid he; clear ht he
  cases hp : AddrP.parse s.data.toList with
  | none =>
    have P1 := Lib.hid (fun w => addrOf_no s w hs hp)
    have P2 := Lib.hid (fun w => parse_no s w (by omega) hp); clear hp
    go_enter Tryd.func3, Tryd.ntmps3
    go_wp2_with fail
    refine (P1.out _).mono ?_
    rintro e w1 ⟨rfl, hb1⟩
    go_wp2_with fail
    refine (P2.out _).mono ?_
    rintro e w2 ⟨rfl, hb2⟩
    have E2 := (HE.out.below hb1).below hb2
    go_wp2_with fail
    refine (same_err 3 3 true rfl _ E2).mono ?_
    rintro e w3 ⟨rfl, hb3⟩
    have T3 := ((HT.out.below hb1).below hb2).below hb3
    go_wp2_with fail
    refine (text_any a _ ha T3).mono ?_
    rintro e w4 ⟨rfl, hb4⟩
    go_wp2_with fail
    refine (refText_any a _ ha).mono ?_
    rintro e w5 ⟨rfl, hb5⟩
    go_wp2_with fail
    go_ret
    exact ⟨rfl, below2 (below4 hb1 hb2 hb3 hb4) hb5⟩
  | some n =>
    have P1 := Lib.hid (fun w => addrOf_yes s n w hs hp)
    have P2 := Lib.hid (fun w => parse_yes s n w (by omega) hp); clear hp
    go_enter Tryd.func3, Tryd.ntmps3
    go_wp2_with fail
    refine (P1.out _).mono ?_
    rintro e w1 ⟨rfl, hb1⟩
    go_wp2_with fail
    refine (P2.out _).mono ?_
    rintro e w2 ⟨rfl, hb2⟩
    go_wp2_with fail
    refine (same_nil 0 true rfl _).mono ?_
    rintro e w3 ⟨rfl, rfl⟩
    have T3 := (HT.out.below hb1).below hb2
    go_wp2_with fail
    refine (text_any a _ ha T3).mono ?_
    rintro e w4 ⟨rfl, hb4⟩
    go_wp2_with fail
    refine (refText_any a _ ha).mono ?_
    rintro e w5 ⟨rfl, hb5⟩
    go_wp2_with fail
    go_ret
    exact ⟨rfl, below4 hb1 hb2 hb4 hb5⟩
end Go.Proofs.YtkhlohiockpkpaaDoor
