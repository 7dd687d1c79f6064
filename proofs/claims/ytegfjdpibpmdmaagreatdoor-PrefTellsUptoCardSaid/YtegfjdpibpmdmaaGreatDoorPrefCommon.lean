/-
  math/bits.LeadingZeros32 at every number, and pref.Common at every two networks; what lay in memory stays.
-/
import Derived.Test.YtegfjdpibpmdmaaGreatDoorPrefCheck
import Derived.Test.YtegfjdpibpmdmaaGreatDoorCommonPlain
import Derived.Test.YtegfjdpibpmdmaaGreatDoorShelf
namespace Go.Proofs.YtegfjdpibpmdmaaGreatDoor
open Go.RowKit

theorem same_any (a b : Nat) (ha : a < 4294967296) (hb : b < 4294967296) (w : World) :
    Calls Tryz.prog 37 #[.int .u32 ((a ^^^ b : Nat) : Int)] w fun e w' => e = .returned (.int .i64 (PrefP.same a b : Int)) ∧ w = w' := by
  have hx := PrefP.xor_lt a b ha hb
  have h := Tryz.bits_LeadingZeros32 ((a ^^^ b : Nat) : Int) w (by omega) (by omega)
  rw [Int.toNat_natCast, PrefP.same_int a b ha hb] at h
  refine h.mono ?_
  rintro e w' ⟨rfl, rfl⟩
  exact ⟨rfl, rfl⟩

theorem min_com {P : Program} (ts : Array TypeId) (t : TypeId) (a n b m : Nat) (w : World) :
    (Builtin.min_ ts t #[.int .i64 (n : Int), .int .i64 (m : Int), .int .i64 (PrefP.same a b : Int)]).run P w = .ok (.int .i64 (PrefP.com a n b m : Int)) w := by
  have e : (if (PrefP.same a b : Int) < (if (m : Int) < (n : Int) then (m : Int) else (n : Int)) then (PrefP.same a b : Int) else (if (m : Int) < (n : Int) then (m : Int) else (n : Int))) = (PrefP.com a n b m : Int) := by
    unfold PrefP.com
    split <;> split <;> omega
  rw [← e]
  simp [Builtin.min_, Builtin.min2]

set_option maxHeartbeats 400000 in
theorem common_bad1 (a : Nat) (l : Int) (b : Nat) (k : Int) (z : Int) (w : World)
    (hc : ∀ w, Calls Tryz.prog 7 #[.agg #[.int .u32 a, .int .i64 l]] w fun e w' => e = .returned (.iface 26 (.int .i64 z)) ∧ Below w.heap.size w w') :
    Calls Tryz.prog 23 #[.agg #[.int .u32 a, .int .i64 l], .agg #[.int .u32 b, .int .i64 k]] w fun e w' => e = .returned (.tuple #[.agg #[.int .u32 0, .int .i64 0], .iface 26 (.int .i64 z)]) ∧ Below w.heap.size w w' := by
  have HC := Lib.hid hc; clear hc
  go_enter Tryz.func23, Tryz.ntmps23
  go_wp2_with fail
  refine (HC.out _).mono ?_
  rintro e w1 ⟨rfl, hb⟩
  obtain ⟨⟨l1, c0, c1, f0, f1⟩, ⟨l2, d0, d1, g0, g1⟩, ⟨l3, e0, e1, i0, i1⟩, hB⟩ := box3 hb; clear hb
  go_wp2_with fail
  exact bodyPost_ret (v := .tuple #[.agg #[.int .u32 0, .int .i64 0], .iface 26 (.int .i64 z)]) (by simp [results, Tryz.results23, go_sem, e0, e1]) rfl ⟨rfl, (hB.setCell (by simp; omega) _).setCell (by simp; omega) _⟩

set_option maxHeartbeats 400000 in
theorem common_bad2 (a n : Nat) (b : Nat) (k : Int) (z : Int) (w : World) (ha : a < 4294967296) (hn : n ≤ 32) (h : PrefP.cut a n = a)
    (hc : ∀ w, Calls Tryz.prog 7 #[.agg #[.int .u32 b, .int .i64 k]] w fun e w' => e = .returned (.iface 26 (.int .i64 z)) ∧ Below w.heap.size w w') :
    Calls Tryz.prog 23 #[.agg #[.int .u32 a, .int .i64 n], .agg #[.int .u32 b, .int .i64 k]] w fun e w' => e = .returned (.tuple #[.agg #[.int .u32 0, .int .i64 0], .iface 26 (.int .i64 z)]) ∧ Below w.heap.size w w' := by
  have HC := Lib.hid hc; clear hc
  have HA := Lib.hid (check_ok a n ha hn h); clear h
  go_enter Tryz.func23, Tryz.ntmps23
  go_wp2_with fail
  refine (HA.out _).mono ?_
  rintro e w1 ⟨rfl, hb⟩
  obtain ⟨B1, B2, B3, hB⟩ := box3 hb; clear hb
  have D3 := Lib.hid B3; clear B1 B3
  obtain ⟨l2, d0, d1, g0, g1⟩ := B2
  go_wp2_with fail
  refine (HC.out _).mono ?_
  rintro e w2 ⟨rfl, hb2⟩
  obtain ⟨l3, e0, e1, i0, i1⟩ := D3.out.kept hb2
  go_wp2_with fail
  exact bodyPost_ret (v := .tuple #[.agg #[.int .u32 0, .int .i64 0], .iface 26 (.int .i64 z)]) (by simp [results, Tryz.results23, go_sem, e0, e1]) rfl ⟨rfl, ((Below.two hB hb2).setCell (by simp; omega) _).setCell (by simp; omega) _⟩

set_option maxHeartbeats 1000000 in
theorem common_yes (a n b m : Nat) (w : World) (ha : a < 4294967296) (hn : n ≤ 32) (h : PrefP.cut a n = a) (hb : b < 4294967296) (hm : m ≤ 32) (h' : PrefP.cut b m = b) :
    Calls Tryz.prog 23 #[.agg #[.int .u32 a, .int .i64 n], .agg #[.int .u32 b, .int .i64 m]] w fun e w' => e = .returned (.tuple #[.agg #[.int .u32 (PrefP.cut a (PrefP.com a n b m) : Int), .int .i64 (PrefP.com a n b m : Int)], .nilIface]) ∧ Below w.heap.size w w' := by
  have HA := Lib.hid (check_ok a n ha hn h); clear h
  have HC := Lib.hid (check_ok b m hb hm h'); clear h'
  have hx := u32_xor_nat a b ha hb
  have hle := PrefP.com_le a n b m
  go_enter Tryz.func23, Tryz.ntmps23
  go_wp2_with fail
  refine (HA.out _).mono ?_
  rintro e w1 ⟨rfl, hb1⟩
  obtain ⟨B1, B2, B3, hB⟩ := box3 hb1; clear hb1
  have D1 := Lib.hid B1
  have D2 := Lib.hid B2
  have D3 := Lib.hid B3; clear B1 B3
  obtain ⟨l2, d0, d1, g0, g1⟩ := B2
  go_wp2_with fail
  refine (HC.out _).mono ?_
  rintro e w2 ⟨rfl, hb2⟩
  obtain ⟨l1, c0, c1, f0, f1⟩ := D1.out.kept hb2
  obtain ⟨l2', d0', d1', g0', g1'⟩ := D2.out.kept hb2
  have D3' := Lib.hid (D3.out.kept hb2)
  have H2 := Below.two hB hb2
  clear D1 D2 D3 hB hb2
  go_wp2_with fail
  refine (same_any a b ha hb _).mono ?_
  rintro e w3 ⟨rfl, rfl⟩
  go_wp2_with fail
  rw [min_com]
  go_wp2_with fail
  refine (around_yes a (PrefP.com a n b m) ha (by omega) _).mono ?_
  rintro e w4 ⟨rfl, hb4⟩
  obtain ⟨l3, e0, e1, i0, i1⟩ := D3'.out.kept hb4
  go_wp2_with fail
  exact bodyPost_ret (v := .tuple #[.agg #[.int .u32 (PrefP.cut a (PrefP.com a n b m) : Int), .int .i64 (PrefP.com a n b m : Int)], .nilIface]) (by simp [results, Tryz.results23, go_sem, e0, e1]) rfl ⟨rfl, ((Below.two H2 hb4).setCell (by simp; omega) _).setCell (by simp; omega) _⟩
end Go.Proofs.YtegfjdpibpmdmaaGreatDoor
