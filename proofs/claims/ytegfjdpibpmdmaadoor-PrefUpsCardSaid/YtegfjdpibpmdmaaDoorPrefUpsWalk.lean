/-
  The statement PrefUps' function answers true at every network and every address; what lay in memory stays. Condition: the library's variable errors.errorType is as its text lays it.
-/
import Derived.Test.YtegfjdpibpmdmaaDoorPrefIn
import Derived.Test.YtegfjdpibpmdmaaDoorErrTold
namespace Go.Proofs.YtegfjdpibpmdmaaDoor
open Go.RowKit

theorem up_top (w : World) :
    Calls Tryd.prog 16 #[.agg #[.int .u32 2147483648, .int .i64 1]] w fun e w' => e = .returned (.tuple #[.agg #[.int .u32 0, .int .i64 0], .nilIface]) ∧ Below w.heap.size w w' := by
  have h := up_yes 2147483648 0 (by decide) (by decide) (by decide +kernel) w
  rw [PrefP.cut_zero] at h
  exact h
theorem up_cut (a m : Nat) (hm : m < 32) (w : World) :
    Calls Tryd.prog 16 #[.agg #[.int .u32 (PrefP.cut a (m + 1) : Int), .int .i64 ((m : Int) + 1)]] w fun e w' => e = .returned (.tuple #[.agg #[.int .u32 (PrefP.cut a m : Int), .int .i64 m], .nilIface]) ∧ Below w.heap.size w w' := by
  have h := up_yes (PrefP.cut a (m + 1)) m (PrefP.cut_lt a _) hm (PrefP.cut_cut _ _ _ (by omega) (by omega) (Nat.le_refl _)) w
  rw [PrefP.cut_cut a (m + 1) m (by omega) (by omega) (by omega)] at h
  exact h

set_option maxHeartbeats 400000 in
theorem prefUps_bad (a : Nat) (z : Int) (k : Int) (x : Nat) (w : World)
    (hc : ∀ w, Calls Tryd.prog 12 #[.agg #[.int .u32 a, .int .i64 z]] w fun e w' => e = .returned (.iface 42 (.int .i64 k)) ∧ Below w.heap.size w w') :
    Calls Tryd.prog 8 #[.agg #[.int .u32 a, .int .i64 z], .int .u32 x] w fun e w' => e = .returned (.bool true) ∧ Below w.heap.size w w' := by
  have HC := Lib.hid hc; clear hc
  go_enter Tryd.func8, Tryd.ntmps8
  go_wp2_with fail
  refine (up_top _).mono ?_
  rintro e w1 ⟨rfl, hb⟩
  obtain ⟨⟨l1, c0, c1, f0, f1⟩, hB⟩ := box1 hb; clear hb
  go_wp2_with fail
  refine (HC.out _).mono ?_
  rintro e w2 ⟨rfl, hb2⟩
  go_wp2_with fail
  go_ret
  exact ⟨rfl, Below.two (hB.alloc (by omega) _) hb2⟩

/-- What the loop keeps: the network that came in, and the one that was come to. -/
def PrefP.UpRel (a n bA bN : Nat) (w : World) (i : Value) (wr : World) : Prop :=
  ∃ j m : Nat, i = .int .i64 (j : Int) ∧ j + m = n ∧ Box wr bA (.int .u32 a) (.int .i64 n) ∧ Box wr bN (.int .u32 (PrefP.cut a m : Int)) (.int .i64 m) ∧ Below w.heap.size w wr

set_option maxHeartbeats 1000000 in
theorem prefUps_good (a n : Nat) (x : Nat) (w : World) (ha : a < 4294967296) (hn : n ≤ 32) (hc : PrefP.cut a n = a) (hx : x < 4294967296) (he : ErrType w) :
    Calls Tryd.prog 8 #[.agg #[.int .u32 a, .int .i64 n], .int .u32 x] w fun e w' => e = .returned (.bool true) ∧ Below w.heap.size w w' := by
  have HE := Lib.hid he; clear he
  have HC := Lib.hid (check_ok a n ha hn hc)
  have HX := Lib.hid hc; clear hc
  go_enter Tryd.func8, Tryd.ntmps8
  go_wp2_with fail
  refine (up_top _).mono ?_
  rintro e w1 ⟨rfl, hb⟩
  obtain ⟨B1, hB⟩ := box1 hb; clear hb
  have D1 := Lib.hid B1
  obtain ⟨l1, c0, c1, f0, f1⟩ := B1
  go_wp2_with fail
  refine (HC.out _).mono ?_
  rintro e w2 ⟨rfl, hb2⟩
  have B2 := (D1.out.alloc _).kept hb2
  have hB2 := Below.two (hB.alloc (by omega) _) hb2
  have LT := Lib.hid (show w.heap.size < w2.heap.size from B2.lt)
  have LE := Lib.hid (show w.heap.size ≤ w2.heap.size from hB2.size)
  clear D1 l1 c0 c1 f0 f1 hB hb2
  have D2 := Lib.hid B2
  obtain ⟨l1, c0, c1, f0, f1⟩ := B2
  go_wp2_with fail
  go_loopw [8] (fun i wr => PrefP.UpRel a n w.heap.size w2.heap.size w i wr) (fun i _ => n - (intOf i).toNat)
  case atStart =>
    refine ⟨0, n, rfl, by omega, D2.out.alloc _, ?_, hB2.alloc (by omega) _⟩
    rw [HX.out]
    exact Box.new _ _ _ _
  case round =>
    obtain ⟨j, m, rfl, hj, BA, BN, hbr⟩ := hrel
    clear c0 c1 f0 f1 D2
    have DA := Lib.hid BA
    obtain ⟨la, a0, a1, _, _⟩ := BA
    cases m with
    | zero =>
      rw [PrefP.cut_zero] at BN
      have DN := Lib.hid BN
      obtain ⟨ln, n0, n1, _, _⟩ := BN
      have h1 : ¬ ((j : Int) < (n : Int)) := by omega
      go_wp2_with fail
      refine (up_none _).mono ?_
      rintro e w3 ⟨rfl, hb3⟩
      obtain ⟨ln', n0', n1', _, _⟩ := DN.out.kept hb3
      go_wp2_with fail
      refine (same_err 2 2 true rfl _ (HE.out.below ((Below.two hbr hb3).alloc (by have := hbr.size; have := hb3.size; omega) _))).mono ?_
      rintro e w4 ⟨rfl, hb4⟩
      obtain ⟨ln2, n02, n12, _, _⟩ := ((DN.out.kept hb3).alloc _).kept hb4
      go_wp2_with fail
      go_ret
      exact ⟨rfl, Below.two ((Below.two hbr hb3).alloc (by have := hbr.size; have := hb3.size; omega) _) hb4⟩
    | succ m =>
      have DN := Lib.hid BN
      obtain ⟨ln, n0, n1, _, _⟩ := BN
      have h1 : (j : Int) < (n : Int) := by omega
      have i1 := PrefP.in_cut a n m hn (by omega) HX.out
      have i2 := PrefP.in_cut (PrefP.cut a (m + 1)) (m + 1) m (by omega) (by omega) (PrefP.cut_cut _ _ _ (by omega) (by omega) (Nat.le_refl _))
      rw [PrefP.cut_cut a (m + 1) m (by omega) (by omega) (by omega), show ((m + 1 : Nat) : Int) = (m : Int) + 1 by omega] at i2
      have I1 := Lib.hid (fun w => i1 ▸ in_any a n (PrefP.cut a m) m ha w)
      have I2 := Lib.hid (fun w => i2 ▸ in_any (PrefP.cut a (m + 1)) ((m : Int) + 1) (PrefP.cut a m) m (PrefP.cut_lt _ _) w)
      have I3 := Lib.hid (fun h => PrefP.in_has _ _ _ _ x i2 h)
      have S1 := hbr.size
      clear i1 i2
      go_wp2_with fail
      refine (up_cut a m (by omega) _).mono ?_
      rintro e w3 ⟨rfl, hb3⟩
      have S3 := hb3.size
      have A3 := Lib.hid (DA.out.kept hb3)
      have N3 := Lib.hid (DN.out.kept hb3)
      have H3 := (Below.two hbr hb3).alloc (Nat.le_trans S1 S3) (.cells #[.int .u32 (PrefP.cut a m : Int), .int .i64 m] 24)
      clear DA DN a0 a1 n0 n1 la ln hb3 hbr
      obtain ⟨la, a0, a1, _, _⟩ := A3.out
      obtain ⟨ln, n0, n1, _, _⟩ := N3.out
      go_wp2_with fail
      refine (I1.out _).mono ?_
      rintro e w4 ⟨rfl, hb4⟩
      have U4 := Lib.hid (box1 hb4).1
      have A4 := Lib.hid ((A3.out.alloc _).kept hb4)
      have N4 := Lib.hid ((N3.out.alloc _).kept hb4)
      have H4 := Below.two H3 hb4
      clear A3 N3 H3 a0 a1 n0 n1 la ln hb4
      obtain ⟨ln, n0, n1, _, _⟩ := N4.out
      obtain ⟨lu, u0, u1, _, _⟩ := U4.out
      go_wp2_with fail
      refine (I2.out _).mono ?_
      rintro e w5 ⟨rfl, hb5⟩
      have U5 := Lib.hid (U4.out.kept hb5)
      have A5 := Lib.hid (A4.out.kept hb5)
      have N5 := Lib.hid (N4.out.kept hb5)
      have H5 := Below.two H4 hb5
      clear A4 N4 U4 H4 n0 n1 ln u0 u1 lu hb5
      obtain ⟨ln, n0, n1, _, _⟩ := N5.out
      cases hh : PrefP.has (PrefP.cut a (m + 1)) ((m : Int) + 1) x with
      | false =>
        have F1 := Lib.hid (fun w => hh ▸ has_any (PrefP.cut a (m + 1)) ((m : Int) + 1) x hx w)
        clear hh
        go_wp2_with fail
        refine (F1.out _).mono ?_
        rintro e w6 ⟨rfl, hb6⟩
        have U6 := Lib.hid (U5.out.kept hb6)
        have A6 := Lib.hid (A5.out.kept hb6)
        have N6 := Lib.hid (N5.out.kept hb6)
        have H6 := Below.two H5 hb6
        clear A5 N5 U5 H5 n0 n1 ln hb6
        obtain ⟨ln, n0, n1, g0, g1⟩ := N6.out
        obtain ⟨lu, u0, u1, _, _⟩ := U6.out
        go_wp2_with fail
        exact ⟨⟨j + 1, m, by simp, by omega, A6.out.other LT.out _ _, N6.out.set _ _, (H6.setCell (p := ⟨w2.heap.size, 0, none⟩) LE.out _).setCell (p := ⟨w2.heap.size, 1, none⟩) LE.out _⟩, by simp [intOf]; omega⟩
      | true =>
        have F1 := Lib.hid (fun w => hh ▸ has_any (PrefP.cut a (m + 1)) ((m : Int) + 1) x hx w)
        have F2 := Lib.hid (fun w => (I3.out hh) ▸ has_any (PrefP.cut a m) (m : Int) x hx w)
        clear hh
        go_wp2_with fail
        refine (F1.out _).mono ?_
        rintro e w6 ⟨rfl, hb6⟩
        have U6 := Lib.hid (U5.out.kept hb6)
        have A6 := Lib.hid (A5.out.kept hb6)
        have N6 := Lib.hid (N5.out.kept hb6)
        have H6 := Below.two H5 hb6
        clear A5 N5 U5 H5 n0 n1 ln hb6
        obtain ⟨lu, u0, u1, _, _⟩ := U6.out
        go_wp2_with fail
        refine (F2.out _).mono ?_
        rintro e w7 ⟨rfl, hb7⟩
        have U7 := Lib.hid (U6.out.kept hb7)
        have A7 := Lib.hid (A6.out.kept hb7)
        have N7 := Lib.hid (N6.out.kept hb7)
        have H7 := Below.two H6 hb7
        clear A6 N6 U6 H6 u0 u1 lu hb7
        obtain ⟨ln, n0, n1, g0, g1⟩ := N7.out
        obtain ⟨lu, u0, u1, _, _⟩ := U7.out
        go_wp2_with fail
        exact ⟨⟨j + 1, m, by simp, by omega, A7.out.other LT.out _ _, N7.out.set _ _, (H7.setCell (p := ⟨w2.heap.size, 0, none⟩) LE.out _).setCell (p := ⟨w2.heap.size, 1, none⟩) LE.out _⟩, by simp [intOf]; omega⟩

theorem prefUps_walk (a : Nat) (z : Int) (x : Nat) (w : World) (ha : a < 4294967296) (hx : x < 4294967296) (he : ErrType w) :
    Calls Tryd.prog 8 #[.agg #[.int .u32 a, .int .i64 z], .int .u32 x] w fun e w' => e = .returned (.bool true) ∧ Below w.heap.size w w' := by
  rcases PrefP.chk_cases a z with ⟨h, _⟩ | ⟨n, rfl, hn, hc, _⟩ | ⟨n, rfl, hn, hc, _⟩
  · exact prefUps_bad a z 1 x w (check_range a z h)
  · exact prefUps_bad a n 3 x w (check_form a n ha hn hc)
  · exact prefUps_good a n x w ha hn hc hx he
end Go.Proofs.YtegfjdpibpmdmaaDoor
