/-
  The law MatTells at every two lists of rows and every number: it tells true; what lay in memory stays. Condition: the library's variable errors.errorType is as its text lays it.
-/
import Derived.Test.YtobfidlfgdlilaaDoorMatTabled
import Derived.Test.YtobfidlfgdlilaaDoorMatStar
import Derived.Test.YtobfidlfgdlilaaDoorRefTable
import Derived.Test.YtobfidlfgdlilaaDoorRefStar
import Derived.Test.YtobfidlfgdlilaaDoorErrOne
namespace Go.Proofs.YtobfidlfgdlilaaDoor
open Go.RowKit Go.Lib

theorem errIs (q : Int) (h : q ≠ 0) (w : World) (hE : ErrType w) : Calls Tryd.prog 6 #[.iface 24 (.int .i64 q), .int .i64 q] w fun r w' => r = .returned (.bool true) ∧ Below w.heap.size w w' := by
  have := sameErr_any q q w hE
  rw [show errV q = .iface 24 (.int .i64 q) from if_neg h, beq_self_eq_true] at this
  exact this

set_option maxHeartbeats 4000000 in
set_option maxRecDepth 100000 in
theorem tells_badany_low (w : World) (va vb : Value) (M : List (List Int)) (N : List (List Int)) (y : Int) (hy : y < 1) (hg : matBad M ≠ 0) (ha : ArgR w va M) (hb : ArgR w vb N) (he : ErrType w) :
    Calls Tryd.prog 3 #[va, vb, .int .i64 y] w fun e w' => e = .returned (.bool true) ∧ Below w.heap.size w w' := by
  have HA := Lib.hid (ha)
  have HB := Lib.hid (hb)
  have HE := Lib.hid (he)
  clear ha hb he
  have HTa := Lib.hid (fun w1 v1 (h1 : ArgR w1 v1 M) => table_any w1 v1 M h1)
  have HCa := Lib.hid (fun w1 v1 (h1 : ArgR w1 v1 M) => matCheck_any w1 v1 M h1)
  have hEV : errV (matBad M) = .iface 24 (.int .i64 (matBad M)) := if_neg hg
  have hE2 : mulBad M N = matBad M := if_pos hg
  have HSt := Lib.hid (fun w1 v1 (h1 : ArgR w1 v1 M) => star_bad w1 v1 M h1 hg)
  have HMu := Lib.hid (fun w1 v1 v2 (h1 : ArgR w1 v1 M) (h2 : ArgR w1 v2 N) => mul_bad w1 v1 v2 M N h1 h2 (by rw [hE2]; exact hg))
  have HEr := Lib.hid (errIs (matBad M) hg)
  have t0 : (matBad M == 0) = false := by simpa using hg
  rw [hEV] at HSt HCa
  rw [hE2, hEV] at HMu
  clear hEV hE2 hg
  generalize matBad M = q at HTa HCa HSt HMu HEr t0
  have HNo := Lib.hid (one_no (n := y) (h := Or.inl hy))
  have HZZ : Hid (Below w.heap.size w w) := Lib.hid (Below.refl _ _)
  go_enter Tryd.func3, Tryd.ntmps3
  go_wp2_with fail
  refine (tabled_any w).mono ?_
  rintro e w1 ⟨rfl, hb1⟩
  have HA' := Lib.hid (HA.out.below hb1)
  have HB' := Lib.hid (HB.out.below hb1)
  have HE' := Lib.hid (HE.out.below hb1)
  have HZZ' := Lib.hid (Below.two HZZ.out hb1)
  clear hb1 HZZ HA HB HE
  have HZZ := HZZ'
  clear HZZ'
  have HA := HA'
  clear HA'
  have HB := HB'
  clear HB'
  have HE := HE'
  clear HE'
  go_wp2_with fail
  refine (HTa.out _ _ HA.out).mono ?_
  rintro e w2' ⟨rfl, rfl⟩
  go_wp2_with fail
  refine (HCa.out _ _ HA.out).mono ?_
  rintro e w3' ⟨rfl, rfl⟩
  go_wp2_with fail
  refine (HEr.out _ HE.out).mono ?_
  rintro e w4 ⟨rfl, hb4⟩
  have HA' := Lib.hid (HA.out.below hb4)
  have HB' := Lib.hid (HB.out.below hb4)
  have HE' := Lib.hid (HE.out.below hb4)
  have HZZ' := Lib.hid (Below.two HZZ.out hb4)
  clear hb4 HZZ HA HB HE
  have HZZ := HZZ'
  clear HZZ'
  have HA := HA'
  clear HA'
  have HB := HB'
  clear HB'
  have HE := HE'
  clear HE'
  go_wp2_with fail
  refine (HSt.out _ _ HA.out).mono ?_
  rintro e w5' ⟨rfl, rfl⟩
  go_wp2_with fail
  refine (HEr.out _ HE.out).mono ?_
  rintro e w6 ⟨rfl, hb6⟩
  have HA' := Lib.hid (HA.out.below hb6)
  have HB' := Lib.hid (HB.out.below hb6)
  have HE' := Lib.hid (HE.out.below hb6)
  have HZZ' := Lib.hid (Below.two HZZ.out hb6)
  clear hb6 HZZ HA HB HE
  have HZZ := HZZ'
  clear HZZ'
  have HA := HA'
  clear HA'
  have HB := HB'
  clear HB'
  have HE := HE'
  clear HE'
  go_wp2_with fail
  refine (sameRows_none w6 none none 0 0).mono ?_
  rintro e w7 ⟨rfl, hb7⟩
  have HA' := Lib.hid (HA.out.below hb7)
  have HB' := Lib.hid (HB.out.below hb7)
  have HE' := Lib.hid (HE.out.below hb7)
  have HZZ' := Lib.hid (Below.two HZZ.out hb7)
  clear hb7 HZZ HA HB HE
  have HZZ := HZZ'
  clear HZZ'
  have HA := HA'
  clear HA'
  have HB := HB'
  clear HB'
  have HE := HE'
  clear HE'
  go_wp2_with fail
  refine (HMu.out _ _ _ HA.out HB.out).mono ?_
  rintro e w8' ⟨rfl, rfl⟩
  go_wp2_with fail
  refine (HEr.out _ HE.out).mono ?_
  rintro e w9 ⟨rfl, hb9⟩
  have HA' := Lib.hid (HA.out.below hb9)
  have HB' := Lib.hid (HB.out.below hb9)
  have HE' := Lib.hid (HE.out.below hb9)
  have HZZ' := Lib.hid (Below.two HZZ.out hb9)
  clear hb9 HZZ HA HB HE
  have HZZ := HZZ'
  clear HZZ'
  have HA := HA'
  clear HA'
  have HB := HB'
  clear HB'
  have HE := HE'
  clear HE'
  go_wp2_with fail
  refine (sameRows_none w9 none none 0 0).mono ?_
  rintro e w10 ⟨rfl, hb10⟩
  have HA' := Lib.hid (HA.out.below hb10)
  have HB' := Lib.hid (HB.out.below hb10)
  have HE' := Lib.hid (HE.out.below hb10)
  have HZZ' := Lib.hid (Below.two HZZ.out hb10)
  clear hb10 HZZ HA HB HE
  have HZZ := HZZ'
  clear HZZ'
  have HA := HA'
  clear HA'
  have HB := HB'
  clear HB'
  have HE := HE'
  clear HE'
  go_wp2_with fail
  refine (HNo.out _).mono ?_
  rintro e w11' ⟨rfl, rfl⟩
  go_wp2_with fail
  refine (errIs 1 (by decide) _ HE.out).mono ?_
  rintro e w12 ⟨rfl, hb12⟩
  have HA' := Lib.hid (HA.out.below hb12)
  have HB' := Lib.hid (HB.out.below hb12)
  have HE' := Lib.hid (HE.out.below hb12)
  have HZZ' := Lib.hid (Below.two HZZ.out hb12)
  clear hb12 HZZ HA HB HE
  have HZZ := HZZ'
  clear HZZ'
  have HA := HA'
  clear HA'
  have HB := HB'
  clear HB'
  have HE := HE'
  clear HE'
  go_wp2_with fail
  refine (sameRows_none w12 none none 0 0).mono ?_
  rintro e w13 ⟨rfl, hb13⟩
  have HA' := Lib.hid (HA.out.below hb13)
  have HB' := Lib.hid (HB.out.below hb13)
  have HE' := Lib.hid (HE.out.below hb13)
  have HZZ' := Lib.hid (Below.two HZZ.out hb13)
  clear hb13 HZZ HA HB HE
  have HZZ := HZZ'
  clear HZZ'
  have HA := HA'
  clear HA'
  have HB := HB'
  clear HB'
  have HE := HE'
  clear HE'
  go_wp2_with fail
  go_ret
  exact ⟨rfl, HZZ.out⟩
set_option maxHeartbeats 4000000 in
set_option maxRecDepth 100000 in
theorem tells_badany_high (w : World) (va vb : Value) (M : List (List Int)) (N : List (List Int)) (y : Int) (hy : 8 < y) (hg : matBad M ≠ 0) (ha : ArgR w va M) (hb : ArgR w vb N) (he : ErrType w) :
    Calls Tryd.prog 3 #[va, vb, .int .i64 y] w fun e w' => e = .returned (.bool true) ∧ Below w.heap.size w w' := by
  have HA := Lib.hid (ha)
  have HB := Lib.hid (hb)
  have HE := Lib.hid (he)
  clear ha hb he
  have HTa := Lib.hid (fun w1 v1 (h1 : ArgR w1 v1 M) => table_any w1 v1 M h1)
  have HCa := Lib.hid (fun w1 v1 (h1 : ArgR w1 v1 M) => matCheck_any w1 v1 M h1)
  have hEV : errV (matBad M) = .iface 24 (.int .i64 (matBad M)) := if_neg hg
  have hE2 : mulBad M N = matBad M := if_pos hg
  have HSt := Lib.hid (fun w1 v1 (h1 : ArgR w1 v1 M) => star_bad w1 v1 M h1 hg)
  have HMu := Lib.hid (fun w1 v1 v2 (h1 : ArgR w1 v1 M) (h2 : ArgR w1 v2 N) => mul_bad w1 v1 v2 M N h1 h2 (by rw [hE2]; exact hg))
  have HEr := Lib.hid (errIs (matBad M) hg)
  have t0 : (matBad M == 0) = false := by simpa using hg
  rw [hEV] at HSt HCa
  rw [hE2, hEV] at HMu
  clear hEV hE2 hg
  generalize matBad M = q at HTa HCa HSt HMu HEr t0
  have t1 : ¬ (y < 1) := by omega
  have HNo := Lib.hid (one_no (n := y) (h := Or.inr hy))
  have HZZ : Hid (Below w.heap.size w w) := Lib.hid (Below.refl _ _)
  go_enter Tryd.func3, Tryd.ntmps3
  go_wp2_with fail
  refine (tabled_any w).mono ?_
  rintro e w1 ⟨rfl, hb1⟩
  have HA' := Lib.hid (HA.out.below hb1)
  have HB' := Lib.hid (HB.out.below hb1)
  have HE' := Lib.hid (HE.out.below hb1)
  have HZZ' := Lib.hid (Below.two HZZ.out hb1)
  clear hb1 HZZ HA HB HE
  have HZZ := HZZ'
  clear HZZ'
  have HA := HA'
  clear HA'
  have HB := HB'
  clear HB'
  have HE := HE'
  clear HE'
  go_wp2_with fail
  refine (HTa.out _ _ HA.out).mono ?_
  rintro e w2' ⟨rfl, rfl⟩
  go_wp2_with fail
  refine (HCa.out _ _ HA.out).mono ?_
  rintro e w3' ⟨rfl, rfl⟩
  go_wp2_with fail
  refine (HEr.out _ HE.out).mono ?_
  rintro e w4 ⟨rfl, hb4⟩
  have HA' := Lib.hid (HA.out.below hb4)
  have HB' := Lib.hid (HB.out.below hb4)
  have HE' := Lib.hid (HE.out.below hb4)
  have HZZ' := Lib.hid (Below.two HZZ.out hb4)
  clear hb4 HZZ HA HB HE
  have HZZ := HZZ'
  clear HZZ'
  have HA := HA'
  clear HA'
  have HB := HB'
  clear HB'
  have HE := HE'
  clear HE'
  go_wp2_with fail
  refine (HSt.out _ _ HA.out).mono ?_
  rintro e w5' ⟨rfl, rfl⟩
  go_wp2_with fail
  refine (HEr.out _ HE.out).mono ?_
  rintro e w6 ⟨rfl, hb6⟩
  have HA' := Lib.hid (HA.out.below hb6)
  have HB' := Lib.hid (HB.out.below hb6)
  have HE' := Lib.hid (HE.out.below hb6)
  have HZZ' := Lib.hid (Below.two HZZ.out hb6)
  clear hb6 HZZ HA HB HE
  have HZZ := HZZ'
  clear HZZ'
  have HA := HA'
  clear HA'
  have HB := HB'
  clear HB'
  have HE := HE'
  clear HE'
  go_wp2_with fail
  refine (sameRows_none w6 none none 0 0).mono ?_
  rintro e w7 ⟨rfl, hb7⟩
  have HA' := Lib.hid (HA.out.below hb7)
  have HB' := Lib.hid (HB.out.below hb7)
  have HE' := Lib.hid (HE.out.below hb7)
  have HZZ' := Lib.hid (Below.two HZZ.out hb7)
  clear hb7 HZZ HA HB HE
  have HZZ := HZZ'
  clear HZZ'
  have HA := HA'
  clear HA'
  have HB := HB'
  clear HB'
  have HE := HE'
  clear HE'
  go_wp2_with fail
  refine (HMu.out _ _ _ HA.out HB.out).mono ?_
  rintro e w8' ⟨rfl, rfl⟩
  go_wp2_with fail
  refine (HEr.out _ HE.out).mono ?_
  rintro e w9 ⟨rfl, hb9⟩
  have HA' := Lib.hid (HA.out.below hb9)
  have HB' := Lib.hid (HB.out.below hb9)
  have HE' := Lib.hid (HE.out.below hb9)
  have HZZ' := Lib.hid (Below.two HZZ.out hb9)
  clear hb9 HZZ HA HB HE
  have HZZ := HZZ'
  clear HZZ'
  have HA := HA'
  clear HA'
  have HB := HB'
  clear HB'
  have HE := HE'
  clear HE'
  go_wp2_with fail
  refine (sameRows_none w9 none none 0 0).mono ?_
  rintro e w10 ⟨rfl, hb10⟩
  have HA' := Lib.hid (HA.out.below hb10)
  have HB' := Lib.hid (HB.out.below hb10)
  have HE' := Lib.hid (HE.out.below hb10)
  have HZZ' := Lib.hid (Below.two HZZ.out hb10)
  clear hb10 HZZ HA HB HE
  have HZZ := HZZ'
  clear HZZ'
  have HA := HA'
  clear HA'
  have HB := HB'
  clear HB'
  have HE := HE'
  clear HE'
  go_wp2_with fail
  refine (HNo.out _).mono ?_
  rintro e w11' ⟨rfl, rfl⟩
  go_wp2_with fail
  refine (errIs 1 (by decide) _ HE.out).mono ?_
  rintro e w12 ⟨rfl, hb12⟩
  have HA' := Lib.hid (HA.out.below hb12)
  have HB' := Lib.hid (HB.out.below hb12)
  have HE' := Lib.hid (HE.out.below hb12)
  have HZZ' := Lib.hid (Below.two HZZ.out hb12)
  clear hb12 HZZ HA HB HE
  have HZZ := HZZ'
  clear HZZ'
  have HA := HA'
  clear HA'
  have HB := HB'
  clear HB'
  have HE := HE'
  clear HE'
  go_wp2_with fail
  refine (sameRows_none w12 none none 0 0).mono ?_
  rintro e w13 ⟨rfl, hb13⟩
  have HA' := Lib.hid (HA.out.below hb13)
  have HB' := Lib.hid (HB.out.below hb13)
  have HE' := Lib.hid (HE.out.below hb13)
  have HZZ' := Lib.hid (Below.two HZZ.out hb13)
  clear hb13 HZZ HA HB HE
  have HZZ := HZZ'
  clear HZZ'
  have HA := HA'
  clear HA'
  have HB := HB'
  clear HB'
  have HE := HE'
  clear HE'
  go_wp2_with fail
  go_ret
  exact ⟨rfl, HZZ.out⟩
set_option maxHeartbeats 4000000 in
set_option maxRecDepth 100000 in
theorem tells_badany_ok (w : World) (va vb : Value) (M : List (List Int)) (N : List (List Int)) (m0 : Nat) (hy : 1 ≤ m0 ∧ m0 ≤ 8) (hg : matBad M ≠ 0) (ha : ArgR w va M) (hb : ArgR w vb N) (he : ErrType w) :
    Calls Tryd.prog 3 #[va, vb, .int .i64 (m0 : Int)] w fun e w' => e = .returned (.bool true) ∧ Below w.heap.size w w' := by
  have HA := Lib.hid (ha)
  have HB := Lib.hid (hb)
  have HE := Lib.hid (he)
  clear ha hb he
  have HTa := Lib.hid (fun w1 v1 (h1 : ArgR w1 v1 M) => table_any w1 v1 M h1)
  have HCa := Lib.hid (fun w1 v1 (h1 : ArgR w1 v1 M) => matCheck_any w1 v1 M h1)
  have hEV : errV (matBad M) = .iface 24 (.int .i64 (matBad M)) := if_neg hg
  have hE2 : mulBad M N = matBad M := if_pos hg
  have HSt := Lib.hid (fun w1 v1 (h1 : ArgR w1 v1 M) => star_bad w1 v1 M h1 hg)
  have HMu := Lib.hid (fun w1 v1 v2 (h1 : ArgR w1 v1 M) (h2 : ArgR w1 v2 N) => mul_bad w1 v1 v2 M N h1 h2 (by rw [hE2]; exact hg))
  have HEr := Lib.hid (errIs (matBad M) hg)
  have t0 : (matBad M == 0) = false := by simpa using hg
  rw [hEV] at HSt HCa
  rw [hE2, hEV] at HMu
  clear hEV hE2 hg
  generalize matBad M = q at HTa HCa HSt HMu HEr t0
  have t1 : ¬ ((m0 : Int) < 1) := by omega
  have t2 : ¬ ((8 : Int) < (m0 : Int)) := by omega
  have HZZ : Hid (Below w.heap.size w w) := Lib.hid (Below.refl _ _)
  go_enter Tryd.func3, Tryd.ntmps3
  go_wp2_with fail
  refine (tabled_any w).mono ?_
  rintro e w1 ⟨rfl, hb1⟩
  have HA' := Lib.hid (HA.out.below hb1)
  have HB' := Lib.hid (HB.out.below hb1)
  have HE' := Lib.hid (HE.out.below hb1)
  have HZZ' := Lib.hid (Below.two HZZ.out hb1)
  clear hb1 HZZ HA HB HE
  have HZZ := HZZ'
  clear HZZ'
  have HA := HA'
  clear HA'
  have HB := HB'
  clear HB'
  have HE := HE'
  clear HE'
  go_wp2_with fail
  refine (HTa.out _ _ HA.out).mono ?_
  rintro e w2' ⟨rfl, rfl⟩
  go_wp2_with fail
  refine (HCa.out _ _ HA.out).mono ?_
  rintro e w3' ⟨rfl, rfl⟩
  go_wp2_with fail
  refine (HEr.out _ HE.out).mono ?_
  rintro e w4 ⟨rfl, hb4⟩
  have HA' := Lib.hid (HA.out.below hb4)
  have HB' := Lib.hid (HB.out.below hb4)
  have HE' := Lib.hid (HE.out.below hb4)
  have HZZ' := Lib.hid (Below.two HZZ.out hb4)
  clear hb4 HZZ HA HB HE
  have HZZ := HZZ'
  clear HZZ'
  have HA := HA'
  clear HA'
  have HB := HB'
  clear HB'
  have HE := HE'
  clear HE'
  go_wp2_with fail
  refine (HSt.out _ _ HA.out).mono ?_
  rintro e w5' ⟨rfl, rfl⟩
  go_wp2_with fail
  refine (HEr.out _ HE.out).mono ?_
  rintro e w6 ⟨rfl, hb6⟩
  have HA' := Lib.hid (HA.out.below hb6)
  have HB' := Lib.hid (HB.out.below hb6)
  have HE' := Lib.hid (HE.out.below hb6)
  have HZZ' := Lib.hid (Below.two HZZ.out hb6)
  clear hb6 HZZ HA HB HE
  have HZZ := HZZ'
  clear HZZ'
  have HA := HA'
  clear HA'
  have HB := HB'
  clear HB'
  have HE := HE'
  clear HE'
  go_wp2_with fail
  refine (sameRows_none w6 none none 0 0).mono ?_
  rintro e w7 ⟨rfl, hb7⟩
  have HA' := Lib.hid (HA.out.below hb7)
  have HB' := Lib.hid (HB.out.below hb7)
  have HE' := Lib.hid (HE.out.below hb7)
  have HZZ' := Lib.hid (Below.two HZZ.out hb7)
  clear hb7 HZZ HA HB HE
  have HZZ := HZZ'
  clear HZZ'
  have HA := HA'
  clear HA'
  have HB := HB'
  clear HB'
  have HE := HE'
  clear HE'
  go_wp2_with fail
  refine (HMu.out _ _ _ HA.out HB.out).mono ?_
  rintro e w8' ⟨rfl, rfl⟩
  go_wp2_with fail
  refine (HEr.out _ HE.out).mono ?_
  rintro e w9 ⟨rfl, hb9⟩
  have HA' := Lib.hid (HA.out.below hb9)
  have HB' := Lib.hid (HB.out.below hb9)
  have HE' := Lib.hid (HE.out.below hb9)
  have HZZ' := Lib.hid (Below.two HZZ.out hb9)
  clear hb9 HZZ HA HB HE
  have HZZ := HZZ'
  clear HZZ'
  have HA := HA'
  clear HA'
  have HB := HB'
  clear HB'
  have HE := HE'
  clear HE'
  go_wp2_with fail
  refine (sameRows_none w9 none none 0 0).mono ?_
  rintro e w10 ⟨rfl, hb10⟩
  have HA' := Lib.hid (HA.out.below hb10)
  have HB' := Lib.hid (HB.out.below hb10)
  have HE' := Lib.hid (HE.out.below hb10)
  have HZZ' := Lib.hid (Below.two HZZ.out hb10)
  clear hb10 HZZ HA HB HE
  have HZZ := HZZ'
  clear HZZ'
  have HA := HA'
  clear HA'
  have HB := HB'
  clear HB'
  have HE := HE'
  clear HE'
  go_wp2_with fail
  refine (oneOf_any w10 m0 (by omega)).mono ?_
  rintro e w11 ⟨u3, rfl, hO, hb11⟩
  have HA' := Lib.hid (HA.out.below hb11)
  have HB' := Lib.hid (HB.out.below hb11)
  have HE' := Lib.hid (HE.out.below hb11)
  have HZZ' := Lib.hid (Below.two HZZ.out hb11)
  have HU := Lib.hid (hO.arg)
  clear hb11 HZZ HA HB HE
  have HZZ := HZZ'
  clear HZZ'
  have HA := HA'
  clear HA'
  have HB := HB'
  clear HB'
  have HE := HE'
  clear HE'
  clear hO
  go_wp2_with fail
  refine (one_yes w11 m0 (by omega) (by omega)).mono ?_
  rintro e w12 ⟨g3, _, rfl, hG, hb12⟩
  have HA' := Lib.hid (HA.out.below hb12)
  have HB' := Lib.hid (HB.out.below hb12)
  have HE' := Lib.hid (HE.out.below hb12)
  have HU' := Lib.hid (HU.out.below hb12)
  have HZZ' := Lib.hid (Below.two HZZ.out hb12)
  have HS := Lib.hid (show ArgR _ _ (rowsN m0 _) from hG.arg)
  clear hb12 HZZ HA HB HE HU
  have HZZ := HZZ'
  clear HZZ'
  have HA := HA'
  clear HA'
  have HB := HB'
  clear HB'
  have HE := HE'
  clear HE'
  have HU := HU'
  clear HU'
  clear hG
  go_wp2_with fail
  refine (same_nil 0 true rfl w12).mono ?_
  rintro e w13' ⟨rfl, rfl⟩
  have HR := sameRows_any w12 _ _ _ _ (by rw [rowsN_len]; omega) (fun r hr => by rw [rowsN_row _ _ r hr]; omega) HS.out HU.out
  rw [decide_eq_true (rfl)] at HR
  have HR := Lib.hid HR
  go_wp2_with fail
  refine (HR.out).mono ?_
  rintro e w14 ⟨rfl, hb14⟩
  have HA' := Lib.hid (HA.out.below hb14)
  have HB' := Lib.hid (HB.out.below hb14)
  have HE' := Lib.hid (HE.out.below hb14)
  have HU' := Lib.hid (HU.out.below hb14)
  have HS' := Lib.hid (HS.out.below hb14)
  have HZZ' := Lib.hid (Below.two HZZ.out hb14)
  clear hb14 HZZ HA HB HE HU HS
  have HZZ := HZZ'
  clear HZZ'
  have HA := HA'
  clear HA'
  have HB := HB'
  clear HB'
  have HE := HE'
  clear HE'
  have HU := HU'
  clear HU'
  have HS := HS'
  clear HS'
  clear HR
  go_wp2_with fail
  go_ret
  exact ⟨rfl, HZZ.out⟩
set_option maxHeartbeats 4000000 in
set_option maxRecDepth 100000 in
theorem tells_okbad_low (w : World) (va vb : Value) (n : Nat) (A : MatP.T) (N : List (List Int)) (y : Int) (hy : y < 1) (h1 : 1 ≤ n) (h8 : n ≤ 8) (hbA : MatP.Bd A) (hg : matBad N ≠ 0) (ha : ArgR w va (rowsN n A)) (hb : ArgR w vb N) (he : ErrType w) :
    Calls Tryd.prog 3 #[va, vb, .int .i64 y] w fun e w' => e = .returned (.bool true) ∧ Below w.heap.size w w' := by
  obtain ⟨pa, ca, rfl⟩ := tab_form ha
  have HA := Lib.hid (ha)
  have HB := Lib.hid (hb)
  have HE := Lib.hid (he)
  clear ha hb he
  have HTa := Lib.hid (fun w1 v1 (h1 : ArgR w1 v1 (rowsN n A)) => table_any w1 v1 (rowsN n A) h1)
  have HCa := Lib.hid (fun w1 v1 (h1 : ArgR w1 v1 (rowsN n A)) => matCheck_any w1 v1 (rowsN n A) h1)
  rw [mat_rows h1 h8 hbA] at HTa
  rw [mat_rows h1 h8 hbA, show errV 0 = Value.nilIface from rfl] at HCa
  have HbA := Lib.hid hbA
  clear hbA
  have hEV : errV (matBad N) = .iface 24 (.int .i64 (matBad N)) := if_neg hg
  have hE2 : mulBad (rowsN n A) N = matBad N := by unfold mulBad; rw [mat_rows h1 h8 HbA.out, if_neg (by simp), if_pos hg]
  have HTb := Lib.hid (fun w1 v1 (h1 : ArgR w1 v1 N) => table_any w1 v1 N h1)
  have HMu := Lib.hid (fun w1 v1 v2 (h1 : ArgR w1 v1 (rowsN n A)) (h2 : ArgR w1 v2 N) => mul_bad w1 v1 v2 _ N h1 h2 (by rw [hE2]; exact hg))
  have HEr := Lib.hid (errIs (matBad N) hg)
  have t0 : (matBad N == 0) = false := by simpa using hg
  rw [hE2, hEV] at HMu
  clear hEV hE2 hg
  generalize matBad N = q at HTb HMu HEr t0
  have HNo := Lib.hid (one_no (n := y) (h := Or.inl hy))
  have HZZ : Hid (Below w.heap.size w w) := Lib.hid (Below.refl _ _)
  go_enter Tryd.func3, Tryd.ntmps3
  go_wp2_with fail
  refine (tabled_any w).mono ?_
  rintro e w1 ⟨rfl, hb1⟩
  have HA' := Lib.hid (HA.out.below hb1)
  have HB' := Lib.hid (HB.out.below hb1)
  have HE' := Lib.hid (HE.out.below hb1)
  have HZZ' := Lib.hid (Below.two HZZ.out hb1)
  clear hb1 HZZ HA HB HE
  have HZZ := HZZ'
  clear HZZ'
  have HA := HA'
  clear HA'
  have HB := HB'
  clear HB'
  have HE := HE'
  clear HE'
  go_wp2_with fail
  refine (HTa.out _ _ HA.out).mono ?_
  rintro e w2' ⟨rfl, rfl⟩
  go_wp2_with fail
  refine (HCa.out _ _ HA.out).mono ?_
  rintro e w3' ⟨rfl, rfl⟩
  go_wp2_with fail
  refine (same_nil 0 true rfl w1).mono ?_
  rintro e w4' ⟨rfl, rfl⟩
  go_wp2_with fail
  refine (starOf_any w1 _ n A h1 h8 HbA.out HA.out).mono ?_
  rintro e w5 ⟨u1, rfl, hO, hb5⟩
  have HA' := Lib.hid (HA.out.below hb5)
  have HB' := Lib.hid (HB.out.below hb5)
  have HE' := Lib.hid (HE.out.below hb5)
  have HZZ' := Lib.hid (Below.two HZZ.out hb5)
  have HU := Lib.hid (hO)
  clear hb5 HZZ HA HB HE
  have HZZ := HZZ'
  clear HZZ'
  have HA := HA'
  clear HA'
  have HB := HB'
  clear HB'
  have HE := HE'
  clear HE'
  clear hO
  go_wp2_with fail
  refine (star_ok w5 _ n A h1 h8 HbA.out HA.out).mono ?_
  rintro e w6 ⟨g1, _, rfl, hG, hb6⟩
  have HA' := Lib.hid (HA.out.below hb6)
  have HB' := Lib.hid (HB.out.below hb6)
  have HE' := Lib.hid (HE.out.below hb6)
  have HU' := Lib.hid (HU.out.below hb6)
  have HZZ' := Lib.hid (Below.two HZZ.out hb6)
  have HS := Lib.hid (show ArgR _ _ (rowsN n _) from hG.arg)
  clear hb6 HZZ HA HB HE HU
  have HZZ := HZZ'
  clear HZZ'
  have HA := HA'
  clear HA'
  have HB := HB'
  clear HB'
  have HE := HE'
  clear HE'
  have HU := HU'
  clear HU'
  clear hG
  go_wp2_with fail
  refine (same_nil 0 true rfl w6).mono ?_
  rintro e w7' ⟨rfl, rfl⟩
  have HR := sameRows_any w6 _ _ _ _ (by rw [rowsN_len]; omega) (fun r hr => by rw [rowsN_row _ _ r hr]; omega) HS.out HU.out
  rw [decide_eq_true (rowsN_congr fun i k hi hk => MatP.fw_lw HbA.out i k hi hk)] at HR
  have HR := Lib.hid HR
  go_wp2_with fail
  refine (HR.out).mono ?_
  rintro e w8 ⟨rfl, hb8⟩
  have HA' := Lib.hid (HA.out.below hb8)
  have HB' := Lib.hid (HB.out.below hb8)
  have HE' := Lib.hid (HE.out.below hb8)
  have HU' := Lib.hid (HU.out.below hb8)
  have HS' := Lib.hid (HS.out.below hb8)
  have HZZ' := Lib.hid (Below.two HZZ.out hb8)
  clear hb8 HZZ HA HB HE HU HS
  have HZZ := HZZ'
  clear HZZ'
  have HA := HA'
  clear HA'
  have HB := HB'
  clear HB'
  have HE := HE'
  clear HE'
  have HU := HU'
  clear HU'
  have HS := HS'
  clear HS'
  clear HR
  clear HS HU
  go_wp2_with fail
  refine (HTb.out _ _ HB.out).mono ?_
  rintro e w9' ⟨rfl, rfl⟩
  go_wp2_with fail
  refine (HMu.out _ _ _ HA.out HB.out).mono ?_
  rintro e w10' ⟨rfl, rfl⟩
  go_wp2_with fail
  refine (HEr.out _ HE.out).mono ?_
  rintro e w11 ⟨rfl, hb11⟩
  have HA' := Lib.hid (HA.out.below hb11)
  have HB' := Lib.hid (HB.out.below hb11)
  have HE' := Lib.hid (HE.out.below hb11)
  have HZZ' := Lib.hid (Below.two HZZ.out hb11)
  clear hb11 HZZ HA HB HE
  have HZZ := HZZ'
  clear HZZ'
  have HA := HA'
  clear HA'
  have HB := HB'
  clear HB'
  have HE := HE'
  clear HE'
  go_wp2_with fail
  refine (sameRows_none w11 none none 0 0).mono ?_
  rintro e w12 ⟨rfl, hb12⟩
  have HA' := Lib.hid (HA.out.below hb12)
  have HB' := Lib.hid (HB.out.below hb12)
  have HE' := Lib.hid (HE.out.below hb12)
  have HZZ' := Lib.hid (Below.two HZZ.out hb12)
  clear hb12 HZZ HA HB HE
  have HZZ := HZZ'
  clear HZZ'
  have HA := HA'
  clear HA'
  have HB := HB'
  clear HB'
  have HE := HE'
  clear HE'
  go_wp2_with fail
  refine (HNo.out _).mono ?_
  rintro e w13' ⟨rfl, rfl⟩
  go_wp2_with fail
  refine (errIs 1 (by decide) _ HE.out).mono ?_
  rintro e w14 ⟨rfl, hb14⟩
  have HA' := Lib.hid (HA.out.below hb14)
  have HB' := Lib.hid (HB.out.below hb14)
  have HE' := Lib.hid (HE.out.below hb14)
  have HZZ' := Lib.hid (Below.two HZZ.out hb14)
  clear hb14 HZZ HA HB HE
  have HZZ := HZZ'
  clear HZZ'
  have HA := HA'
  clear HA'
  have HB := HB'
  clear HB'
  have HE := HE'
  clear HE'
  go_wp2_with fail
  refine (sameRows_none w14 none none 0 0).mono ?_
  rintro e w15 ⟨rfl, hb15⟩
  have HA' := Lib.hid (HA.out.below hb15)
  have HB' := Lib.hid (HB.out.below hb15)
  have HE' := Lib.hid (HE.out.below hb15)
  have HZZ' := Lib.hid (Below.two HZZ.out hb15)
  clear hb15 HZZ HA HB HE
  have HZZ := HZZ'
  clear HZZ'
  have HA := HA'
  clear HA'
  have HB := HB'
  clear HB'
  have HE := HE'
  clear HE'
  go_wp2_with fail
  go_ret
  exact ⟨rfl, HZZ.out⟩
set_option maxHeartbeats 4000000 in
set_option maxRecDepth 100000 in
theorem tells_okbad_high (w : World) (va vb : Value) (n : Nat) (A : MatP.T) (N : List (List Int)) (y : Int) (hy : 8 < y) (h1 : 1 ≤ n) (h8 : n ≤ 8) (hbA : MatP.Bd A) (hg : matBad N ≠ 0) (ha : ArgR w va (rowsN n A)) (hb : ArgR w vb N) (he : ErrType w) :
    Calls Tryd.prog 3 #[va, vb, .int .i64 y] w fun e w' => e = .returned (.bool true) ∧ Below w.heap.size w w' := by
  obtain ⟨pa, ca, rfl⟩ := tab_form ha
  have HA := Lib.hid (ha)
  have HB := Lib.hid (hb)
  have HE := Lib.hid (he)
  clear ha hb he
  have HTa := Lib.hid (fun w1 v1 (h1 : ArgR w1 v1 (rowsN n A)) => table_any w1 v1 (rowsN n A) h1)
  have HCa := Lib.hid (fun w1 v1 (h1 : ArgR w1 v1 (rowsN n A)) => matCheck_any w1 v1 (rowsN n A) h1)
  rw [mat_rows h1 h8 hbA] at HTa
  rw [mat_rows h1 h8 hbA, show errV 0 = Value.nilIface from rfl] at HCa
  have HbA := Lib.hid hbA
  clear hbA
  have hEV : errV (matBad N) = .iface 24 (.int .i64 (matBad N)) := if_neg hg
  have hE2 : mulBad (rowsN n A) N = matBad N := by unfold mulBad; rw [mat_rows h1 h8 HbA.out, if_neg (by simp), if_pos hg]
  have HTb := Lib.hid (fun w1 v1 (h1 : ArgR w1 v1 N) => table_any w1 v1 N h1)
  have HMu := Lib.hid (fun w1 v1 v2 (h1 : ArgR w1 v1 (rowsN n A)) (h2 : ArgR w1 v2 N) => mul_bad w1 v1 v2 _ N h1 h2 (by rw [hE2]; exact hg))
  have HEr := Lib.hid (errIs (matBad N) hg)
  have t0 : (matBad N == 0) = false := by simpa using hg
  rw [hE2, hEV] at HMu
  clear hEV hE2 hg
  generalize matBad N = q at HTb HMu HEr t0
  have t1 : ¬ (y < 1) := by omega
  have HNo := Lib.hid (one_no (n := y) (h := Or.inr hy))
  have HZZ : Hid (Below w.heap.size w w) := Lib.hid (Below.refl _ _)
  go_enter Tryd.func3, Tryd.ntmps3
  go_wp2_with fail
  refine (tabled_any w).mono ?_
  rintro e w1 ⟨rfl, hb1⟩
  have HA' := Lib.hid (HA.out.below hb1)
  have HB' := Lib.hid (HB.out.below hb1)
  have HE' := Lib.hid (HE.out.below hb1)
  have HZZ' := Lib.hid (Below.two HZZ.out hb1)
  clear hb1 HZZ HA HB HE
  have HZZ := HZZ'
  clear HZZ'
  have HA := HA'
  clear HA'
  have HB := HB'
  clear HB'
  have HE := HE'
  clear HE'
  go_wp2_with fail
  refine (HTa.out _ _ HA.out).mono ?_
  rintro e w2' ⟨rfl, rfl⟩
  go_wp2_with fail
  refine (HCa.out _ _ HA.out).mono ?_
  rintro e w3' ⟨rfl, rfl⟩
  go_wp2_with fail
  refine (same_nil 0 true rfl w1).mono ?_
  rintro e w4' ⟨rfl, rfl⟩
  go_wp2_with fail
  refine (starOf_any w1 _ n A h1 h8 HbA.out HA.out).mono ?_
  rintro e w5 ⟨u1, rfl, hO, hb5⟩
  have HA' := Lib.hid (HA.out.below hb5)
  have HB' := Lib.hid (HB.out.below hb5)
  have HE' := Lib.hid (HE.out.below hb5)
  have HZZ' := Lib.hid (Below.two HZZ.out hb5)
  have HU := Lib.hid (hO)
  clear hb5 HZZ HA HB HE
  have HZZ := HZZ'
  clear HZZ'
  have HA := HA'
  clear HA'
  have HB := HB'
  clear HB'
  have HE := HE'
  clear HE'
  clear hO
  go_wp2_with fail
  refine (star_ok w5 _ n A h1 h8 HbA.out HA.out).mono ?_
  rintro e w6 ⟨g1, _, rfl, hG, hb6⟩
  have HA' := Lib.hid (HA.out.below hb6)
  have HB' := Lib.hid (HB.out.below hb6)
  have HE' := Lib.hid (HE.out.below hb6)
  have HU' := Lib.hid (HU.out.below hb6)
  have HZZ' := Lib.hid (Below.two HZZ.out hb6)
  have HS := Lib.hid (show ArgR _ _ (rowsN n _) from hG.arg)
  clear hb6 HZZ HA HB HE HU
  have HZZ := HZZ'
  clear HZZ'
  have HA := HA'
  clear HA'
  have HB := HB'
  clear HB'
  have HE := HE'
  clear HE'
  have HU := HU'
  clear HU'
  clear hG
  go_wp2_with fail
  refine (same_nil 0 true rfl w6).mono ?_
  rintro e w7' ⟨rfl, rfl⟩
  have HR := sameRows_any w6 _ _ _ _ (by rw [rowsN_len]; omega) (fun r hr => by rw [rowsN_row _ _ r hr]; omega) HS.out HU.out
  rw [decide_eq_true (rowsN_congr fun i k hi hk => MatP.fw_lw HbA.out i k hi hk)] at HR
  have HR := Lib.hid HR
  go_wp2_with fail
  refine (HR.out).mono ?_
  rintro e w8 ⟨rfl, hb8⟩
  have HA' := Lib.hid (HA.out.below hb8)
  have HB' := Lib.hid (HB.out.below hb8)
  have HE' := Lib.hid (HE.out.below hb8)
  have HU' := Lib.hid (HU.out.below hb8)
  have HS' := Lib.hid (HS.out.below hb8)
  have HZZ' := Lib.hid (Below.two HZZ.out hb8)
  clear hb8 HZZ HA HB HE HU HS
  have HZZ := HZZ'
  clear HZZ'
  have HA := HA'
  clear HA'
  have HB := HB'
  clear HB'
  have HE := HE'
  clear HE'
  have HU := HU'
  clear HU'
  have HS := HS'
  clear HS'
  clear HR
  clear HS HU
  go_wp2_with fail
  refine (HTb.out _ _ HB.out).mono ?_
  rintro e w9' ⟨rfl, rfl⟩
  go_wp2_with fail
  refine (HMu.out _ _ _ HA.out HB.out).mono ?_
  rintro e w10' ⟨rfl, rfl⟩
  go_wp2_with fail
  refine (HEr.out _ HE.out).mono ?_
  rintro e w11 ⟨rfl, hb11⟩
  have HA' := Lib.hid (HA.out.below hb11)
  have HB' := Lib.hid (HB.out.below hb11)
  have HE' := Lib.hid (HE.out.below hb11)
  have HZZ' := Lib.hid (Below.two HZZ.out hb11)
  clear hb11 HZZ HA HB HE
  have HZZ := HZZ'
  clear HZZ'
  have HA := HA'
  clear HA'
  have HB := HB'
  clear HB'
  have HE := HE'
  clear HE'
  go_wp2_with fail
  refine (sameRows_none w11 none none 0 0).mono ?_
  rintro e w12 ⟨rfl, hb12⟩
  have HA' := Lib.hid (HA.out.below hb12)
  have HB' := Lib.hid (HB.out.below hb12)
  have HE' := Lib.hid (HE.out.below hb12)
  have HZZ' := Lib.hid (Below.two HZZ.out hb12)
  clear hb12 HZZ HA HB HE
  have HZZ := HZZ'
  clear HZZ'
  have HA := HA'
  clear HA'
  have HB := HB'
  clear HB'
  have HE := HE'
  clear HE'
  go_wp2_with fail
  refine (HNo.out _).mono ?_
  rintro e w13' ⟨rfl, rfl⟩
  go_wp2_with fail
  refine (errIs 1 (by decide) _ HE.out).mono ?_
  rintro e w14 ⟨rfl, hb14⟩
  have HA' := Lib.hid (HA.out.below hb14)
  have HB' := Lib.hid (HB.out.below hb14)
  have HE' := Lib.hid (HE.out.below hb14)
  have HZZ' := Lib.hid (Below.two HZZ.out hb14)
  clear hb14 HZZ HA HB HE
  have HZZ := HZZ'
  clear HZZ'
  have HA := HA'
  clear HA'
  have HB := HB'
  clear HB'
  have HE := HE'
  clear HE'
  go_wp2_with fail
  refine (sameRows_none w14 none none 0 0).mono ?_
  rintro e w15 ⟨rfl, hb15⟩
  have HA' := Lib.hid (HA.out.below hb15)
  have HB' := Lib.hid (HB.out.below hb15)
  have HE' := Lib.hid (HE.out.below hb15)
  have HZZ' := Lib.hid (Below.two HZZ.out hb15)
  clear hb15 HZZ HA HB HE
  have HZZ := HZZ'
  clear HZZ'
  have HA := HA'
  clear HA'
  have HB := HB'
  clear HB'
  have HE := HE'
  clear HE'
  go_wp2_with fail
  go_ret
  exact ⟨rfl, HZZ.out⟩
set_option maxHeartbeats 4000000 in
set_option maxRecDepth 100000 in
theorem tells_okbad_ok (w : World) (va vb : Value) (n : Nat) (A : MatP.T) (N : List (List Int)) (m0 : Nat) (hy : 1 ≤ m0 ∧ m0 ≤ 8) (h1 : 1 ≤ n) (h8 : n ≤ 8) (hbA : MatP.Bd A) (hg : matBad N ≠ 0) (ha : ArgR w va (rowsN n A)) (hb : ArgR w vb N) (he : ErrType w) :
    Calls Tryd.prog 3 #[va, vb, .int .i64 (m0 : Int)] w fun e w' => e = .returned (.bool true) ∧ Below w.heap.size w w' := by
  obtain ⟨pa, ca, rfl⟩ := tab_form ha
  have HA := Lib.hid (ha)
  have HB := Lib.hid (hb)
  have HE := Lib.hid (he)
  clear ha hb he
  have HTa := Lib.hid (fun w1 v1 (h1 : ArgR w1 v1 (rowsN n A)) => table_any w1 v1 (rowsN n A) h1)
  have HCa := Lib.hid (fun w1 v1 (h1 : ArgR w1 v1 (rowsN n A)) => matCheck_any w1 v1 (rowsN n A) h1)
  rw [mat_rows h1 h8 hbA] at HTa
  rw [mat_rows h1 h8 hbA, show errV 0 = Value.nilIface from rfl] at HCa
  have HbA := Lib.hid hbA
  clear hbA
  have hEV : errV (matBad N) = .iface 24 (.int .i64 (matBad N)) := if_neg hg
  have hE2 : mulBad (rowsN n A) N = matBad N := by unfold mulBad; rw [mat_rows h1 h8 HbA.out, if_neg (by simp), if_pos hg]
  have HTb := Lib.hid (fun w1 v1 (h1 : ArgR w1 v1 N) => table_any w1 v1 N h1)
  have HMu := Lib.hid (fun w1 v1 v2 (h1 : ArgR w1 v1 (rowsN n A)) (h2 : ArgR w1 v2 N) => mul_bad w1 v1 v2 _ N h1 h2 (by rw [hE2]; exact hg))
  have HEr := Lib.hid (errIs (matBad N) hg)
  have t0 : (matBad N == 0) = false := by simpa using hg
  rw [hE2, hEV] at HMu
  clear hEV hE2 hg
  generalize matBad N = q at HTb HMu HEr t0
  have t1 : ¬ ((m0 : Int) < 1) := by omega
  have t2 : ¬ ((8 : Int) < (m0 : Int)) := by omega
  have HZZ : Hid (Below w.heap.size w w) := Lib.hid (Below.refl _ _)
  go_enter Tryd.func3, Tryd.ntmps3
  go_wp2_with fail
  refine (tabled_any w).mono ?_
  rintro e w1 ⟨rfl, hb1⟩
  have HA' := Lib.hid (HA.out.below hb1)
  have HB' := Lib.hid (HB.out.below hb1)
  have HE' := Lib.hid (HE.out.below hb1)
  have HZZ' := Lib.hid (Below.two HZZ.out hb1)
  clear hb1 HZZ HA HB HE
  have HZZ := HZZ'
  clear HZZ'
  have HA := HA'
  clear HA'
  have HB := HB'
  clear HB'
  have HE := HE'
  clear HE'
  go_wp2_with fail
  refine (HTa.out _ _ HA.out).mono ?_
  rintro e w2' ⟨rfl, rfl⟩
  go_wp2_with fail
  refine (HCa.out _ _ HA.out).mono ?_
  rintro e w3' ⟨rfl, rfl⟩
  go_wp2_with fail
  refine (same_nil 0 true rfl w1).mono ?_
  rintro e w4' ⟨rfl, rfl⟩
  go_wp2_with fail
  refine (starOf_any w1 _ n A h1 h8 HbA.out HA.out).mono ?_
  rintro e w5 ⟨u1, rfl, hO, hb5⟩
  have HA' := Lib.hid (HA.out.below hb5)
  have HB' := Lib.hid (HB.out.below hb5)
  have HE' := Lib.hid (HE.out.below hb5)
  have HZZ' := Lib.hid (Below.two HZZ.out hb5)
  have HU := Lib.hid (hO)
  clear hb5 HZZ HA HB HE
  have HZZ := HZZ'
  clear HZZ'
  have HA := HA'
  clear HA'
  have HB := HB'
  clear HB'
  have HE := HE'
  clear HE'
  clear hO
  go_wp2_with fail
  refine (star_ok w5 _ n A h1 h8 HbA.out HA.out).mono ?_
  rintro e w6 ⟨g1, _, rfl, hG, hb6⟩
  have HA' := Lib.hid (HA.out.below hb6)
  have HB' := Lib.hid (HB.out.below hb6)
  have HE' := Lib.hid (HE.out.below hb6)
  have HU' := Lib.hid (HU.out.below hb6)
  have HZZ' := Lib.hid (Below.two HZZ.out hb6)
  have HS := Lib.hid (show ArgR _ _ (rowsN n _) from hG.arg)
  clear hb6 HZZ HA HB HE HU
  have HZZ := HZZ'
  clear HZZ'
  have HA := HA'
  clear HA'
  have HB := HB'
  clear HB'
  have HE := HE'
  clear HE'
  have HU := HU'
  clear HU'
  clear hG
  go_wp2_with fail
  refine (same_nil 0 true rfl w6).mono ?_
  rintro e w7' ⟨rfl, rfl⟩
  have HR := sameRows_any w6 _ _ _ _ (by rw [rowsN_len]; omega) (fun r hr => by rw [rowsN_row _ _ r hr]; omega) HS.out HU.out
  rw [decide_eq_true (rowsN_congr fun i k hi hk => MatP.fw_lw HbA.out i k hi hk)] at HR
  have HR := Lib.hid HR
  go_wp2_with fail
  refine (HR.out).mono ?_
  rintro e w8 ⟨rfl, hb8⟩
  have HA' := Lib.hid (HA.out.below hb8)
  have HB' := Lib.hid (HB.out.below hb8)
  have HE' := Lib.hid (HE.out.below hb8)
  have HU' := Lib.hid (HU.out.below hb8)
  have HS' := Lib.hid (HS.out.below hb8)
  have HZZ' := Lib.hid (Below.two HZZ.out hb8)
  clear hb8 HZZ HA HB HE HU HS
  have HZZ := HZZ'
  clear HZZ'
  have HA := HA'
  clear HA'
  have HB := HB'
  clear HB'
  have HE := HE'
  clear HE'
  have HU := HU'
  clear HU'
  have HS := HS'
  clear HS'
  clear HR
  clear HS HU
  go_wp2_with fail
  refine (HTb.out _ _ HB.out).mono ?_
  rintro e w9' ⟨rfl, rfl⟩
  go_wp2_with fail
  refine (HMu.out _ _ _ HA.out HB.out).mono ?_
  rintro e w10' ⟨rfl, rfl⟩
  go_wp2_with fail
  refine (HEr.out _ HE.out).mono ?_
  rintro e w11 ⟨rfl, hb11⟩
  have HA' := Lib.hid (HA.out.below hb11)
  have HB' := Lib.hid (HB.out.below hb11)
  have HE' := Lib.hid (HE.out.below hb11)
  have HZZ' := Lib.hid (Below.two HZZ.out hb11)
  clear hb11 HZZ HA HB HE
  have HZZ := HZZ'
  clear HZZ'
  have HA := HA'
  clear HA'
  have HB := HB'
  clear HB'
  have HE := HE'
  clear HE'
  go_wp2_with fail
  refine (sameRows_none w11 none none 0 0).mono ?_
  rintro e w12 ⟨rfl, hb12⟩
  have HA' := Lib.hid (HA.out.below hb12)
  have HB' := Lib.hid (HB.out.below hb12)
  have HE' := Lib.hid (HE.out.below hb12)
  have HZZ' := Lib.hid (Below.two HZZ.out hb12)
  clear hb12 HZZ HA HB HE
  have HZZ := HZZ'
  clear HZZ'
  have HA := HA'
  clear HA'
  have HB := HB'
  clear HB'
  have HE := HE'
  clear HE'
  go_wp2_with fail
  refine (oneOf_any w12 m0 (by omega)).mono ?_
  rintro e w13 ⟨u3, rfl, hO, hb13⟩
  have HA' := Lib.hid (HA.out.below hb13)
  have HB' := Lib.hid (HB.out.below hb13)
  have HE' := Lib.hid (HE.out.below hb13)
  have HZZ' := Lib.hid (Below.two HZZ.out hb13)
  have HU := Lib.hid (hO.arg)
  clear hb13 HZZ HA HB HE
  have HZZ := HZZ'
  clear HZZ'
  have HA := HA'
  clear HA'
  have HB := HB'
  clear HB'
  have HE := HE'
  clear HE'
  clear hO
  go_wp2_with fail
  refine (one_yes w13 m0 (by omega) (by omega)).mono ?_
  rintro e w14 ⟨g3, _, rfl, hG, hb14⟩
  have HA' := Lib.hid (HA.out.below hb14)
  have HB' := Lib.hid (HB.out.below hb14)
  have HE' := Lib.hid (HE.out.below hb14)
  have HU' := Lib.hid (HU.out.below hb14)
  have HZZ' := Lib.hid (Below.two HZZ.out hb14)
  have HS := Lib.hid (show ArgR _ _ (rowsN m0 _) from hG.arg)
  clear hb14 HZZ HA HB HE HU
  have HZZ := HZZ'
  clear HZZ'
  have HA := HA'
  clear HA'
  have HB := HB'
  clear HB'
  have HE := HE'
  clear HE'
  have HU := HU'
  clear HU'
  clear hG
  go_wp2_with fail
  refine (same_nil 0 true rfl w14).mono ?_
  rintro e w15' ⟨rfl, rfl⟩
  have HR := sameRows_any w14 _ _ _ _ (by rw [rowsN_len]; omega) (fun r hr => by rw [rowsN_row _ _ r hr]; omega) HS.out HU.out
  rw [decide_eq_true (rfl)] at HR
  have HR := Lib.hid HR
  go_wp2_with fail
  refine (HR.out).mono ?_
  rintro e w16 ⟨rfl, hb16⟩
  have HA' := Lib.hid (HA.out.below hb16)
  have HB' := Lib.hid (HB.out.below hb16)
  have HE' := Lib.hid (HE.out.below hb16)
  have HU' := Lib.hid (HU.out.below hb16)
  have HS' := Lib.hid (HS.out.below hb16)
  have HZZ' := Lib.hid (Below.two HZZ.out hb16)
  clear hb16 HZZ HA HB HE HU HS
  have HZZ := HZZ'
  clear HZZ'
  have HA := HA'
  clear HA'
  have HB := HB'
  clear HB'
  have HE := HE'
  clear HE'
  have HU := HU'
  clear HU'
  have HS := HS'
  clear HS'
  clear HR
  go_wp2_with fail
  go_ret
  exact ⟨rfl, HZZ.out⟩
set_option maxHeartbeats 4000000 in
set_option maxRecDepth 100000 in
theorem tells_oklen_low (w : World) (va vb : Value) (n : Nat) (A : MatP.T) (m : Nat) (C : MatP.T) (y : Int) (hy : y < 1) (h1 : 1 ≤ n) (h8 : n ≤ 8) (hbA : MatP.Bd A) (hm1 : 1 ≤ m) (hm8 : m ≤ 8) (hbC : MatP.Bd C) (hg : n ≠ m) (ha : ArgR w va (rowsN n A)) (hb : ArgR w vb (rowsN m C)) (he : ErrType w) :
    Calls Tryd.prog 3 #[va, vb, .int .i64 y] w fun e w' => e = .returned (.bool true) ∧ Below w.heap.size w w' := by
  obtain ⟨pa, ca, rfl⟩ := tab_form ha
  obtain ⟨pb, cb, rfl⟩ := tab_form hb
  have HA := Lib.hid (ha)
  have HB := Lib.hid (hb)
  have HE := Lib.hid (he)
  clear ha hb he
  have HTa := Lib.hid (fun w1 v1 (h1 : ArgR w1 v1 (rowsN n A)) => table_any w1 v1 (rowsN n A) h1)
  have HCa := Lib.hid (fun w1 v1 (h1 : ArgR w1 v1 (rowsN n A)) => matCheck_any w1 v1 (rowsN n A) h1)
  rw [mat_rows h1 h8 hbA] at HTa
  rw [mat_rows h1 h8 hbA, show errV 0 = Value.nilIface from rfl] at HCa
  have HbA := Lib.hid hbA
  clear hbA
  have HTb := Lib.hid (fun w1 v1 (h1 : ArgR w1 v1 (rowsN m C)) => table_any w1 v1 (rowsN m C) h1)
  rw [mat_rows hm1 hm8 hbC] at HTb
  have hE2 : mulBad (rowsN n A) (rowsN m C) = 3 := by unfold mulBad; rw [mat_rows h1 h8 HbA.out, mat_rows hm1 hm8 hbC, rowsN_len, rowsN_len, if_neg (by simp), if_neg (by simp), if_pos hg]
  have HMu := Lib.hid (fun w1 v1 v2 (h1 : ArgR w1 v1 (rowsN n A)) (h2 : ArgR w1 v2 (rowsN m C)) => mul_bad w1 v1 v2 _ _ h1 h2 (by rw [hE2]; omega))
  rw [hE2, show errV 3 = .iface 24 (.int .i64 3) from rfl] at HMu
  have HEr := Lib.hid (errIs 3 (by decide))
  have t0 : ((n : Int) != (m : Int)) = true := by
    have : ¬ (n : Int) = m := by omega
    simpa using this
  clear hE2 hg hbC
  have HNo := Lib.hid (one_no (n := y) (h := Or.inl hy))
  have HZZ : Hid (Below w.heap.size w w) := Lib.hid (Below.refl _ _)
  go_enter Tryd.func3, Tryd.ntmps3
  go_wp2_with fail
  refine (tabled_any w).mono ?_
  rintro e w1 ⟨rfl, hb1⟩
  have HA' := Lib.hid (HA.out.below hb1)
  have HB' := Lib.hid (HB.out.below hb1)
  have HE' := Lib.hid (HE.out.below hb1)
  have HZZ' := Lib.hid (Below.two HZZ.out hb1)
  clear hb1 HZZ HA HB HE
  have HZZ := HZZ'
  clear HZZ'
  have HA := HA'
  clear HA'
  have HB := HB'
  clear HB'
  have HE := HE'
  clear HE'
  go_wp2_with fail
  refine (HTa.out _ _ HA.out).mono ?_
  rintro e w2' ⟨rfl, rfl⟩
  go_wp2_with fail
  refine (HCa.out _ _ HA.out).mono ?_
  rintro e w3' ⟨rfl, rfl⟩
  go_wp2_with fail
  refine (same_nil 0 true rfl w1).mono ?_
  rintro e w4' ⟨rfl, rfl⟩
  go_wp2_with fail
  refine (starOf_any w1 _ n A h1 h8 HbA.out HA.out).mono ?_
  rintro e w5 ⟨u1, rfl, hO, hb5⟩
  have HA' := Lib.hid (HA.out.below hb5)
  have HB' := Lib.hid (HB.out.below hb5)
  have HE' := Lib.hid (HE.out.below hb5)
  have HZZ' := Lib.hid (Below.two HZZ.out hb5)
  have HU := Lib.hid (hO)
  clear hb5 HZZ HA HB HE
  have HZZ := HZZ'
  clear HZZ'
  have HA := HA'
  clear HA'
  have HB := HB'
  clear HB'
  have HE := HE'
  clear HE'
  clear hO
  go_wp2_with fail
  refine (star_ok w5 _ n A h1 h8 HbA.out HA.out).mono ?_
  rintro e w6 ⟨g1, _, rfl, hG, hb6⟩
  have HA' := Lib.hid (HA.out.below hb6)
  have HB' := Lib.hid (HB.out.below hb6)
  have HE' := Lib.hid (HE.out.below hb6)
  have HU' := Lib.hid (HU.out.below hb6)
  have HZZ' := Lib.hid (Below.two HZZ.out hb6)
  have HS := Lib.hid (show ArgR _ _ (rowsN n _) from hG.arg)
  clear hb6 HZZ HA HB HE HU
  have HZZ := HZZ'
  clear HZZ'
  have HA := HA'
  clear HA'
  have HB := HB'
  clear HB'
  have HE := HE'
  clear HE'
  have HU := HU'
  clear HU'
  clear hG
  go_wp2_with fail
  refine (same_nil 0 true rfl w6).mono ?_
  rintro e w7' ⟨rfl, rfl⟩
  have HR := sameRows_any w6 _ _ _ _ (by rw [rowsN_len]; omega) (fun r hr => by rw [rowsN_row _ _ r hr]; omega) HS.out HU.out
  rw [decide_eq_true (rowsN_congr fun i k hi hk => MatP.fw_lw HbA.out i k hi hk)] at HR
  have HR := Lib.hid HR
  go_wp2_with fail
  refine (HR.out).mono ?_
  rintro e w8 ⟨rfl, hb8⟩
  have HA' := Lib.hid (HA.out.below hb8)
  have HB' := Lib.hid (HB.out.below hb8)
  have HE' := Lib.hid (HE.out.below hb8)
  have HU' := Lib.hid (HU.out.below hb8)
  have HS' := Lib.hid (HS.out.below hb8)
  have HZZ' := Lib.hid (Below.two HZZ.out hb8)
  clear hb8 HZZ HA HB HE HU HS
  have HZZ := HZZ'
  clear HZZ'
  have HA := HA'
  clear HA'
  have HB := HB'
  clear HB'
  have HE := HE'
  clear HE'
  have HU := HU'
  clear HU'
  have HS := HS'
  clear HS'
  clear HR
  clear HS HU
  go_wp2_with fail
  refine (HTb.out _ _ HB.out).mono ?_
  rintro e w9' ⟨rfl, rfl⟩
  go_wp2_with fail
  refine (HMu.out _ _ _ HA.out HB.out).mono ?_
  rintro e w10' ⟨rfl, rfl⟩
  go_wp2_with fail
  refine (HEr.out _ HE.out).mono ?_
  rintro e w11 ⟨rfl, hb11⟩
  have HA' := Lib.hid (HA.out.below hb11)
  have HB' := Lib.hid (HB.out.below hb11)
  have HE' := Lib.hid (HE.out.below hb11)
  have HZZ' := Lib.hid (Below.two HZZ.out hb11)
  clear hb11 HZZ HA HB HE
  have HZZ := HZZ'
  clear HZZ'
  have HA := HA'
  clear HA'
  have HB := HB'
  clear HB'
  have HE := HE'
  clear HE'
  go_wp2_with fail
  refine (sameRows_none w11 none none 0 0).mono ?_
  rintro e w12 ⟨rfl, hb12⟩
  have HA' := Lib.hid (HA.out.below hb12)
  have HB' := Lib.hid (HB.out.below hb12)
  have HE' := Lib.hid (HE.out.below hb12)
  have HZZ' := Lib.hid (Below.two HZZ.out hb12)
  clear hb12 HZZ HA HB HE
  have HZZ := HZZ'
  clear HZZ'
  have HA := HA'
  clear HA'
  have HB := HB'
  clear HB'
  have HE := HE'
  clear HE'
  go_wp2_with fail
  refine (HNo.out _).mono ?_
  rintro e w13' ⟨rfl, rfl⟩
  go_wp2_with fail
  refine (errIs 1 (by decide) _ HE.out).mono ?_
  rintro e w14 ⟨rfl, hb14⟩
  have HA' := Lib.hid (HA.out.below hb14)
  have HB' := Lib.hid (HB.out.below hb14)
  have HE' := Lib.hid (HE.out.below hb14)
  have HZZ' := Lib.hid (Below.two HZZ.out hb14)
  clear hb14 HZZ HA HB HE
  have HZZ := HZZ'
  clear HZZ'
  have HA := HA'
  clear HA'
  have HB := HB'
  clear HB'
  have HE := HE'
  clear HE'
  go_wp2_with fail
  refine (sameRows_none w14 none none 0 0).mono ?_
  rintro e w15 ⟨rfl, hb15⟩
  have HA' := Lib.hid (HA.out.below hb15)
  have HB' := Lib.hid (HB.out.below hb15)
  have HE' := Lib.hid (HE.out.below hb15)
  have HZZ' := Lib.hid (Below.two HZZ.out hb15)
  clear hb15 HZZ HA HB HE
  have HZZ := HZZ'
  clear HZZ'
  have HA := HA'
  clear HA'
  have HB := HB'
  clear HB'
  have HE := HE'
  clear HE'
  go_wp2_with fail
  go_ret
  exact ⟨rfl, HZZ.out⟩
set_option maxHeartbeats 4000000 in
set_option maxRecDepth 100000 in
theorem tells_oklen_high (w : World) (va vb : Value) (n : Nat) (A : MatP.T) (m : Nat) (C : MatP.T) (y : Int) (hy : 8 < y) (h1 : 1 ≤ n) (h8 : n ≤ 8) (hbA : MatP.Bd A) (hm1 : 1 ≤ m) (hm8 : m ≤ 8) (hbC : MatP.Bd C) (hg : n ≠ m) (ha : ArgR w va (rowsN n A)) (hb : ArgR w vb (rowsN m C)) (he : ErrType w) :
    Calls Tryd.prog 3 #[va, vb, .int .i64 y] w fun e w' => e = .returned (.bool true) ∧ Below w.heap.size w w' := by
  obtain ⟨pa, ca, rfl⟩ := tab_form ha
  obtain ⟨pb, cb, rfl⟩ := tab_form hb
  have HA := Lib.hid (ha)
  have HB := Lib.hid (hb)
  have HE := Lib.hid (he)
  clear ha hb he
  have HTa := Lib.hid (fun w1 v1 (h1 : ArgR w1 v1 (rowsN n A)) => table_any w1 v1 (rowsN n A) h1)
  have HCa := Lib.hid (fun w1 v1 (h1 : ArgR w1 v1 (rowsN n A)) => matCheck_any w1 v1 (rowsN n A) h1)
  rw [mat_rows h1 h8 hbA] at HTa
  rw [mat_rows h1 h8 hbA, show errV 0 = Value.nilIface from rfl] at HCa
  have HbA := Lib.hid hbA
  clear hbA
  have HTb := Lib.hid (fun w1 v1 (h1 : ArgR w1 v1 (rowsN m C)) => table_any w1 v1 (rowsN m C) h1)
  rw [mat_rows hm1 hm8 hbC] at HTb
  have hE2 : mulBad (rowsN n A) (rowsN m C) = 3 := by unfold mulBad; rw [mat_rows h1 h8 HbA.out, mat_rows hm1 hm8 hbC, rowsN_len, rowsN_len, if_neg (by simp), if_neg (by simp), if_pos hg]
  have HMu := Lib.hid (fun w1 v1 v2 (h1 : ArgR w1 v1 (rowsN n A)) (h2 : ArgR w1 v2 (rowsN m C)) => mul_bad w1 v1 v2 _ _ h1 h2 (by rw [hE2]; omega))
  rw [hE2, show errV 3 = .iface 24 (.int .i64 3) from rfl] at HMu
  have HEr := Lib.hid (errIs 3 (by decide))
  have t0 : ((n : Int) != (m : Int)) = true := by
    have : ¬ (n : Int) = m := by omega
    simpa using this
  clear hE2 hg hbC
  have t1 : ¬ (y < 1) := by omega
  have HNo := Lib.hid (one_no (n := y) (h := Or.inr hy))
  have HZZ : Hid (Below w.heap.size w w) := Lib.hid (Below.refl _ _)
  go_enter Tryd.func3, Tryd.ntmps3
  go_wp2_with fail
  refine (tabled_any w).mono ?_
  rintro e w1 ⟨rfl, hb1⟩
  have HA' := Lib.hid (HA.out.below hb1)
  have HB' := Lib.hid (HB.out.below hb1)
  have HE' := Lib.hid (HE.out.below hb1)
  have HZZ' := Lib.hid (Below.two HZZ.out hb1)
  clear hb1 HZZ HA HB HE
  have HZZ := HZZ'
  clear HZZ'
  have HA := HA'
  clear HA'
  have HB := HB'
  clear HB'
  have HE := HE'
  clear HE'
  go_wp2_with fail
  refine (HTa.out _ _ HA.out).mono ?_
  rintro e w2' ⟨rfl, rfl⟩
  go_wp2_with fail
  refine (HCa.out _ _ HA.out).mono ?_
  rintro e w3' ⟨rfl, rfl⟩
  go_wp2_with fail
  refine (same_nil 0 true rfl w1).mono ?_
  rintro e w4' ⟨rfl, rfl⟩
  go_wp2_with fail
  refine (starOf_any w1 _ n A h1 h8 HbA.out HA.out).mono ?_
  rintro e w5 ⟨u1, rfl, hO, hb5⟩
  have HA' := Lib.hid (HA.out.below hb5)
  have HB' := Lib.hid (HB.out.below hb5)
  have HE' := Lib.hid (HE.out.below hb5)
  have HZZ' := Lib.hid (Below.two HZZ.out hb5)
  have HU := Lib.hid (hO)
  clear hb5 HZZ HA HB HE
  have HZZ := HZZ'
  clear HZZ'
  have HA := HA'
  clear HA'
  have HB := HB'
  clear HB'
  have HE := HE'
  clear HE'
  clear hO
  go_wp2_with fail
  refine (star_ok w5 _ n A h1 h8 HbA.out HA.out).mono ?_
  rintro e w6 ⟨g1, _, rfl, hG, hb6⟩
  have HA' := Lib.hid (HA.out.below hb6)
  have HB' := Lib.hid (HB.out.below hb6)
  have HE' := Lib.hid (HE.out.below hb6)
  have HU' := Lib.hid (HU.out.below hb6)
  have HZZ' := Lib.hid (Below.two HZZ.out hb6)
  have HS := Lib.hid (show ArgR _ _ (rowsN n _) from hG.arg)
  clear hb6 HZZ HA HB HE HU
  have HZZ := HZZ'
  clear HZZ'
  have HA := HA'
  clear HA'
  have HB := HB'
  clear HB'
  have HE := HE'
  clear HE'
  have HU := HU'
  clear HU'
  clear hG
  go_wp2_with fail
  refine (same_nil 0 true rfl w6).mono ?_
  rintro e w7' ⟨rfl, rfl⟩
  have HR := sameRows_any w6 _ _ _ _ (by rw [rowsN_len]; omega) (fun r hr => by rw [rowsN_row _ _ r hr]; omega) HS.out HU.out
  rw [decide_eq_true (rowsN_congr fun i k hi hk => MatP.fw_lw HbA.out i k hi hk)] at HR
  have HR := Lib.hid HR
  go_wp2_with fail
  refine (HR.out).mono ?_
  rintro e w8 ⟨rfl, hb8⟩
  have HA' := Lib.hid (HA.out.below hb8)
  have HB' := Lib.hid (HB.out.below hb8)
  have HE' := Lib.hid (HE.out.below hb8)
  have HU' := Lib.hid (HU.out.below hb8)
  have HS' := Lib.hid (HS.out.below hb8)
  have HZZ' := Lib.hid (Below.two HZZ.out hb8)
  clear hb8 HZZ HA HB HE HU HS
  have HZZ := HZZ'
  clear HZZ'
  have HA := HA'
  clear HA'
  have HB := HB'
  clear HB'
  have HE := HE'
  clear HE'
  have HU := HU'
  clear HU'
  have HS := HS'
  clear HS'
  clear HR
  clear HS HU
  go_wp2_with fail
  refine (HTb.out _ _ HB.out).mono ?_
  rintro e w9' ⟨rfl, rfl⟩
  go_wp2_with fail
  refine (HMu.out _ _ _ HA.out HB.out).mono ?_
  rintro e w10' ⟨rfl, rfl⟩
  go_wp2_with fail
  refine (HEr.out _ HE.out).mono ?_
  rintro e w11 ⟨rfl, hb11⟩
  have HA' := Lib.hid (HA.out.below hb11)
  have HB' := Lib.hid (HB.out.below hb11)
  have HE' := Lib.hid (HE.out.below hb11)
  have HZZ' := Lib.hid (Below.two HZZ.out hb11)
  clear hb11 HZZ HA HB HE
  have HZZ := HZZ'
  clear HZZ'
  have HA := HA'
  clear HA'
  have HB := HB'
  clear HB'
  have HE := HE'
  clear HE'
  go_wp2_with fail
  refine (sameRows_none w11 none none 0 0).mono ?_
  rintro e w12 ⟨rfl, hb12⟩
  have HA' := Lib.hid (HA.out.below hb12)
  have HB' := Lib.hid (HB.out.below hb12)
  have HE' := Lib.hid (HE.out.below hb12)
  have HZZ' := Lib.hid (Below.two HZZ.out hb12)
  clear hb12 HZZ HA HB HE
  have HZZ := HZZ'
  clear HZZ'
  have HA := HA'
  clear HA'
  have HB := HB'
  clear HB'
  have HE := HE'
  clear HE'
  go_wp2_with fail
  refine (HNo.out _).mono ?_
  rintro e w13' ⟨rfl, rfl⟩
  go_wp2_with fail
  refine (errIs 1 (by decide) _ HE.out).mono ?_
  rintro e w14 ⟨rfl, hb14⟩
  have HA' := Lib.hid (HA.out.below hb14)
  have HB' := Lib.hid (HB.out.below hb14)
  have HE' := Lib.hid (HE.out.below hb14)
  have HZZ' := Lib.hid (Below.two HZZ.out hb14)
  clear hb14 HZZ HA HB HE
  have HZZ := HZZ'
  clear HZZ'
  have HA := HA'
  clear HA'
  have HB := HB'
  clear HB'
  have HE := HE'
  clear HE'
  go_wp2_with fail
  refine (sameRows_none w14 none none 0 0).mono ?_
  rintro e w15 ⟨rfl, hb15⟩
  have HA' := Lib.hid (HA.out.below hb15)
  have HB' := Lib.hid (HB.out.below hb15)
  have HE' := Lib.hid (HE.out.below hb15)
  have HZZ' := Lib.hid (Below.two HZZ.out hb15)
  clear hb15 HZZ HA HB HE
  have HZZ := HZZ'
  clear HZZ'
  have HA := HA'
  clear HA'
  have HB := HB'
  clear HB'
  have HE := HE'
  clear HE'
  go_wp2_with fail
  go_ret
  exact ⟨rfl, HZZ.out⟩
set_option maxHeartbeats 4000000 in
set_option maxRecDepth 100000 in
theorem tells_oklen_ok (w : World) (va vb : Value) (n : Nat) (A : MatP.T) (m : Nat) (C : MatP.T) (m0 : Nat) (hy : 1 ≤ m0 ∧ m0 ≤ 8) (h1 : 1 ≤ n) (h8 : n ≤ 8) (hbA : MatP.Bd A) (hm1 : 1 ≤ m) (hm8 : m ≤ 8) (hbC : MatP.Bd C) (hg : n ≠ m) (ha : ArgR w va (rowsN n A)) (hb : ArgR w vb (rowsN m C)) (he : ErrType w) :
    Calls Tryd.prog 3 #[va, vb, .int .i64 (m0 : Int)] w fun e w' => e = .returned (.bool true) ∧ Below w.heap.size w w' := by
  obtain ⟨pa, ca, rfl⟩ := tab_form ha
  obtain ⟨pb, cb, rfl⟩ := tab_form hb
  have HA := Lib.hid (ha)
  have HB := Lib.hid (hb)
  have HE := Lib.hid (he)
  clear ha hb he
  have HTa := Lib.hid (fun w1 v1 (h1 : ArgR w1 v1 (rowsN n A)) => table_any w1 v1 (rowsN n A) h1)
  have HCa := Lib.hid (fun w1 v1 (h1 : ArgR w1 v1 (rowsN n A)) => matCheck_any w1 v1 (rowsN n A) h1)
  rw [mat_rows h1 h8 hbA] at HTa
  rw [mat_rows h1 h8 hbA, show errV 0 = Value.nilIface from rfl] at HCa
  have HbA := Lib.hid hbA
  clear hbA
  have HTb := Lib.hid (fun w1 v1 (h1 : ArgR w1 v1 (rowsN m C)) => table_any w1 v1 (rowsN m C) h1)
  rw [mat_rows hm1 hm8 hbC] at HTb
  have hE2 : mulBad (rowsN n A) (rowsN m C) = 3 := by unfold mulBad; rw [mat_rows h1 h8 HbA.out, mat_rows hm1 hm8 hbC, rowsN_len, rowsN_len, if_neg (by simp), if_neg (by simp), if_pos hg]
  have HMu := Lib.hid (fun w1 v1 v2 (h1 : ArgR w1 v1 (rowsN n A)) (h2 : ArgR w1 v2 (rowsN m C)) => mul_bad w1 v1 v2 _ _ h1 h2 (by rw [hE2]; omega))
  rw [hE2, show errV 3 = .iface 24 (.int .i64 3) from rfl] at HMu
  have HEr := Lib.hid (errIs 3 (by decide))
  have t0 : ((n : Int) != (m : Int)) = true := by
    have : ¬ (n : Int) = m := by omega
    simpa using this
  clear hE2 hg hbC
  have t1 : ¬ ((m0 : Int) < 1) := by omega
  have t2 : ¬ ((8 : Int) < (m0 : Int)) := by omega
  have HZZ : Hid (Below w.heap.size w w) := Lib.hid (Below.refl _ _)
  go_enter Tryd.func3, Tryd.ntmps3
  go_wp2_with fail
  refine (tabled_any w).mono ?_
  rintro e w1 ⟨rfl, hb1⟩
  have HA' := Lib.hid (HA.out.below hb1)
  have HB' := Lib.hid (HB.out.below hb1)
  have HE' := Lib.hid (HE.out.below hb1)
  have HZZ' := Lib.hid (Below.two HZZ.out hb1)
  clear hb1 HZZ HA HB HE
  have HZZ := HZZ'
  clear HZZ'
  have HA := HA'
  clear HA'
  have HB := HB'
  clear HB'
  have HE := HE'
  clear HE'
  go_wp2_with fail
  refine (HTa.out _ _ HA.out).mono ?_
  rintro e w2' ⟨rfl, rfl⟩
  go_wp2_with fail
  refine (HCa.out _ _ HA.out).mono ?_
  rintro e w3' ⟨rfl, rfl⟩
  go_wp2_with fail
  refine (same_nil 0 true rfl w1).mono ?_
  rintro e w4' ⟨rfl, rfl⟩
  go_wp2_with fail
  refine (starOf_any w1 _ n A h1 h8 HbA.out HA.out).mono ?_
  rintro e w5 ⟨u1, rfl, hO, hb5⟩
  have HA' := Lib.hid (HA.out.below hb5)
  have HB' := Lib.hid (HB.out.below hb5)
  have HE' := Lib.hid (HE.out.below hb5)
  have HZZ' := Lib.hid (Below.two HZZ.out hb5)
  have HU := Lib.hid (hO)
  clear hb5 HZZ HA HB HE
  have HZZ := HZZ'
  clear HZZ'
  have HA := HA'
  clear HA'
  have HB := HB'
  clear HB'
  have HE := HE'
  clear HE'
  clear hO
  go_wp2_with fail
  refine (star_ok w5 _ n A h1 h8 HbA.out HA.out).mono ?_
  rintro e w6 ⟨g1, _, rfl, hG, hb6⟩
  have HA' := Lib.hid (HA.out.below hb6)
  have HB' := Lib.hid (HB.out.below hb6)
  have HE' := Lib.hid (HE.out.below hb6)
  have HU' := Lib.hid (HU.out.below hb6)
  have HZZ' := Lib.hid (Below.two HZZ.out hb6)
  have HS := Lib.hid (show ArgR _ _ (rowsN n _) from hG.arg)
  clear hb6 HZZ HA HB HE HU
  have HZZ := HZZ'
  clear HZZ'
  have HA := HA'
  clear HA'
  have HB := HB'
  clear HB'
  have HE := HE'
  clear HE'
  have HU := HU'
  clear HU'
  clear hG
  go_wp2_with fail
  refine (same_nil 0 true rfl w6).mono ?_
  rintro e w7' ⟨rfl, rfl⟩
  have HR := sameRows_any w6 _ _ _ _ (by rw [rowsN_len]; omega) (fun r hr => by rw [rowsN_row _ _ r hr]; omega) HS.out HU.out
  rw [decide_eq_true (rowsN_congr fun i k hi hk => MatP.fw_lw HbA.out i k hi hk)] at HR
  have HR := Lib.hid HR
  go_wp2_with fail
  refine (HR.out).mono ?_
  rintro e w8 ⟨rfl, hb8⟩
  have HA' := Lib.hid (HA.out.below hb8)
  have HB' := Lib.hid (HB.out.below hb8)
  have HE' := Lib.hid (HE.out.below hb8)
  have HU' := Lib.hid (HU.out.below hb8)
  have HS' := Lib.hid (HS.out.below hb8)
  have HZZ' := Lib.hid (Below.two HZZ.out hb8)
  clear hb8 HZZ HA HB HE HU HS
  have HZZ := HZZ'
  clear HZZ'
  have HA := HA'
  clear HA'
  have HB := HB'
  clear HB'
  have HE := HE'
  clear HE'
  have HU := HU'
  clear HU'
  have HS := HS'
  clear HS'
  clear HR
  clear HS HU
  go_wp2_with fail
  refine (HTb.out _ _ HB.out).mono ?_
  rintro e w9' ⟨rfl, rfl⟩
  go_wp2_with fail
  refine (HMu.out _ _ _ HA.out HB.out).mono ?_
  rintro e w10' ⟨rfl, rfl⟩
  go_wp2_with fail
  refine (HEr.out _ HE.out).mono ?_
  rintro e w11 ⟨rfl, hb11⟩
  have HA' := Lib.hid (HA.out.below hb11)
  have HB' := Lib.hid (HB.out.below hb11)
  have HE' := Lib.hid (HE.out.below hb11)
  have HZZ' := Lib.hid (Below.two HZZ.out hb11)
  clear hb11 HZZ HA HB HE
  have HZZ := HZZ'
  clear HZZ'
  have HA := HA'
  clear HA'
  have HB := HB'
  clear HB'
  have HE := HE'
  clear HE'
  go_wp2_with fail
  refine (sameRows_none w11 none none 0 0).mono ?_
  rintro e w12 ⟨rfl, hb12⟩
  have HA' := Lib.hid (HA.out.below hb12)
  have HB' := Lib.hid (HB.out.below hb12)
  have HE' := Lib.hid (HE.out.below hb12)
  have HZZ' := Lib.hid (Below.two HZZ.out hb12)
  clear hb12 HZZ HA HB HE
  have HZZ := HZZ'
  clear HZZ'
  have HA := HA'
  clear HA'
  have HB := HB'
  clear HB'
  have HE := HE'
  clear HE'
  go_wp2_with fail
  refine (oneOf_any w12 m0 (by omega)).mono ?_
  rintro e w13 ⟨u3, rfl, hO, hb13⟩
  have HA' := Lib.hid (HA.out.below hb13)
  have HB' := Lib.hid (HB.out.below hb13)
  have HE' := Lib.hid (HE.out.below hb13)
  have HZZ' := Lib.hid (Below.two HZZ.out hb13)
  have HU := Lib.hid (hO.arg)
  clear hb13 HZZ HA HB HE
  have HZZ := HZZ'
  clear HZZ'
  have HA := HA'
  clear HA'
  have HB := HB'
  clear HB'
  have HE := HE'
  clear HE'
  clear hO
  go_wp2_with fail
  refine (one_yes w13 m0 (by omega) (by omega)).mono ?_
  rintro e w14 ⟨g3, _, rfl, hG, hb14⟩
  have HA' := Lib.hid (HA.out.below hb14)
  have HB' := Lib.hid (HB.out.below hb14)
  have HE' := Lib.hid (HE.out.below hb14)
  have HU' := Lib.hid (HU.out.below hb14)
  have HZZ' := Lib.hid (Below.two HZZ.out hb14)
  have HS := Lib.hid (show ArgR _ _ (rowsN m0 _) from hG.arg)
  clear hb14 HZZ HA HB HE HU
  have HZZ := HZZ'
  clear HZZ'
  have HA := HA'
  clear HA'
  have HB := HB'
  clear HB'
  have HE := HE'
  clear HE'
  have HU := HU'
  clear HU'
  clear hG
  go_wp2_with fail
  refine (same_nil 0 true rfl w14).mono ?_
  rintro e w15' ⟨rfl, rfl⟩
  have HR := sameRows_any w14 _ _ _ _ (by rw [rowsN_len]; omega) (fun r hr => by rw [rowsN_row _ _ r hr]; omega) HS.out HU.out
  rw [decide_eq_true (rfl)] at HR
  have HR := Lib.hid HR
  go_wp2_with fail
  refine (HR.out).mono ?_
  rintro e w16 ⟨rfl, hb16⟩
  have HA' := Lib.hid (HA.out.below hb16)
  have HB' := Lib.hid (HB.out.below hb16)
  have HE' := Lib.hid (HE.out.below hb16)
  have HU' := Lib.hid (HU.out.below hb16)
  have HS' := Lib.hid (HS.out.below hb16)
  have HZZ' := Lib.hid (Below.two HZZ.out hb16)
  clear hb16 HZZ HA HB HE HU HS
  have HZZ := HZZ'
  clear HZZ'
  have HA := HA'
  clear HA'
  have HB := HB'
  clear HB'
  have HE := HE'
  clear HE'
  have HU := HU'
  clear HU'
  have HS := HS'
  clear HS'
  clear HR
  go_wp2_with fail
  go_ret
  exact ⟨rfl, HZZ.out⟩
set_option maxHeartbeats 4000000 in
set_option maxRecDepth 100000 in
theorem tells_okok_low (w : World) (va vb : Value) (n : Nat) (A : MatP.T) (B : MatP.T) (y : Int) (hy : y < 1) (h1 : 1 ≤ n) (h8 : n ≤ 8) (hbA : MatP.Bd A) (hbB : MatP.Bd B) (ha : ArgR w va (rowsN n A)) (hb : ArgR w vb (rowsN n B)) (he : ErrType w) :
    Calls Tryd.prog 3 #[va, vb, .int .i64 y] w fun e w' => e = .returned (.bool true) ∧ Below w.heap.size w w' := by
  obtain ⟨pa, ca, rfl⟩ := tab_form ha
  obtain ⟨pb, cb, rfl⟩ := tab_form hb
  have HA := Lib.hid (ha)
  have HB := Lib.hid (hb)
  have HE := Lib.hid (he)
  clear ha hb he
  have HTa := Lib.hid (fun w1 v1 (h1 : ArgR w1 v1 (rowsN n A)) => table_any w1 v1 (rowsN n A) h1)
  have HCa := Lib.hid (fun w1 v1 (h1 : ArgR w1 v1 (rowsN n A)) => matCheck_any w1 v1 (rowsN n A) h1)
  rw [mat_rows h1 h8 hbA] at HTa
  rw [mat_rows h1 h8 hbA, show errV 0 = Value.nilIface from rfl] at HCa
  have HbA := Lib.hid hbA
  clear hbA
  have HTb := Lib.hid (fun w1 v1 (h1 : ArgR w1 v1 (rowsN n B)) => table_any w1 v1 (rowsN n B) h1)
  rw [mat_rows h1 h8 hbB] at HTb
  have HbB := Lib.hid hbB
  clear hbB
  have HNo := Lib.hid (one_no (n := y) (h := Or.inl hy))
  have HZZ : Hid (Below w.heap.size w w) := Lib.hid (Below.refl _ _)
  go_enter Tryd.func3, Tryd.ntmps3
  go_wp2_with fail
  refine (tabled_any w).mono ?_
  rintro e w1 ⟨rfl, hb1⟩
  have HA' := Lib.hid (HA.out.below hb1)
  have HB' := Lib.hid (HB.out.below hb1)
  have HE' := Lib.hid (HE.out.below hb1)
  have HZZ' := Lib.hid (Below.two HZZ.out hb1)
  clear hb1 HZZ HA HB HE
  have HZZ := HZZ'
  clear HZZ'
  have HA := HA'
  clear HA'
  have HB := HB'
  clear HB'
  have HE := HE'
  clear HE'
  go_wp2_with fail
  refine (HTa.out _ _ HA.out).mono ?_
  rintro e w2' ⟨rfl, rfl⟩
  go_wp2_with fail
  refine (HCa.out _ _ HA.out).mono ?_
  rintro e w3' ⟨rfl, rfl⟩
  go_wp2_with fail
  refine (same_nil 0 true rfl w1).mono ?_
  rintro e w4' ⟨rfl, rfl⟩
  go_wp2_with fail
  refine (starOf_any w1 _ n A h1 h8 HbA.out HA.out).mono ?_
  rintro e w5 ⟨u1, rfl, hO, hb5⟩
  have HA' := Lib.hid (HA.out.below hb5)
  have HB' := Lib.hid (HB.out.below hb5)
  have HE' := Lib.hid (HE.out.below hb5)
  have HZZ' := Lib.hid (Below.two HZZ.out hb5)
  have HU := Lib.hid (hO)
  clear hb5 HZZ HA HB HE
  have HZZ := HZZ'
  clear HZZ'
  have HA := HA'
  clear HA'
  have HB := HB'
  clear HB'
  have HE := HE'
  clear HE'
  clear hO
  go_wp2_with fail
  refine (star_ok w5 _ n A h1 h8 HbA.out HA.out).mono ?_
  rintro e w6 ⟨g1, _, rfl, hG, hb6⟩
  have HA' := Lib.hid (HA.out.below hb6)
  have HB' := Lib.hid (HB.out.below hb6)
  have HE' := Lib.hid (HE.out.below hb6)
  have HU' := Lib.hid (HU.out.below hb6)
  have HZZ' := Lib.hid (Below.two HZZ.out hb6)
  have HS := Lib.hid (show ArgR _ _ (rowsN n _) from hG.arg)
  clear hb6 HZZ HA HB HE HU
  have HZZ := HZZ'
  clear HZZ'
  have HA := HA'
  clear HA'
  have HB := HB'
  clear HB'
  have HE := HE'
  clear HE'
  have HU := HU'
  clear HU'
  clear hG
  go_wp2_with fail
  refine (same_nil 0 true rfl w6).mono ?_
  rintro e w7' ⟨rfl, rfl⟩
  have HR := sameRows_any w6 _ _ _ _ (by rw [rowsN_len]; omega) (fun r hr => by rw [rowsN_row _ _ r hr]; omega) HS.out HU.out
  rw [decide_eq_true (rowsN_congr fun i k hi hk => MatP.fw_lw HbA.out i k hi hk)] at HR
  have HR := Lib.hid HR
  go_wp2_with fail
  refine (HR.out).mono ?_
  rintro e w8 ⟨rfl, hb8⟩
  have HA' := Lib.hid (HA.out.below hb8)
  have HB' := Lib.hid (HB.out.below hb8)
  have HE' := Lib.hid (HE.out.below hb8)
  have HU' := Lib.hid (HU.out.below hb8)
  have HS' := Lib.hid (HS.out.below hb8)
  have HZZ' := Lib.hid (Below.two HZZ.out hb8)
  clear hb8 HZZ HA HB HE HU HS
  have HZZ := HZZ'
  clear HZZ'
  have HA := HA'
  clear HA'
  have HB := HB'
  clear HB'
  have HE := HE'
  clear HE'
  have HU := HU'
  clear HU'
  have HS := HS'
  clear HS'
  clear HR
  clear HS HU
  go_wp2_with fail
  refine (HTb.out _ _ HB.out).mono ?_
  rintro e w9' ⟨rfl, rfl⟩
  go_wp2_with fail
  refine (mulOf_any w8 _ _ n A B h1 h8 HbA.out HbB.out HA.out HB.out).mono ?_
  rintro e w10 ⟨u2, rfl, hO, hb10⟩
  have HA' := Lib.hid (HA.out.below hb10)
  have HB' := Lib.hid (HB.out.below hb10)
  have HE' := Lib.hid (HE.out.below hb10)
  have HZZ' := Lib.hid (Below.two HZZ.out hb10)
  have HU := Lib.hid (hO.arg)
  clear hb10 HZZ HA HB HE
  have HZZ := HZZ'
  clear HZZ'
  have HA := HA'
  clear HA'
  have HB := HB'
  clear HB'
  have HE := HE'
  clear HE'
  clear hO
  go_wp2_with fail
  refine (mul_ok w10 _ _ n A B h1 h8 HbA.out HbB.out HA.out HB.out).mono ?_
  rintro e w11 ⟨g2, _, rfl, hG, hb11⟩
  have HA' := Lib.hid (HA.out.below hb11)
  have HB' := Lib.hid (HB.out.below hb11)
  have HE' := Lib.hid (HE.out.below hb11)
  have HU' := Lib.hid (HU.out.below hb11)
  have HZZ' := Lib.hid (Below.two HZZ.out hb11)
  have HS := Lib.hid (show ArgR _ _ (rowsN n _) from hG.arg)
  clear hb11 HZZ HA HB HE HU
  have HZZ := HZZ'
  clear HZZ'
  have HA := HA'
  clear HA'
  have HB := HB'
  clear HB'
  have HE := HE'
  clear HE'
  have HU := HU'
  clear HU'
  clear hG
  go_wp2_with fail
  refine (same_nil 0 true rfl w11).mono ?_
  rintro e w12' ⟨rfl, rfl⟩
  have HR := sameRows_any w11 _ _ _ _ (by rw [rowsN_len]; omega) (fun r hr => by rw [rowsN_row _ _ r hr]; omega) HS.out HU.out
  rw [decide_eq_true (rfl)] at HR
  have HR := Lib.hid HR
  go_wp2_with fail
  refine (HR.out).mono ?_
  rintro e w13 ⟨rfl, hb13⟩
  have HA' := Lib.hid (HA.out.below hb13)
  have HB' := Lib.hid (HB.out.below hb13)
  have HE' := Lib.hid (HE.out.below hb13)
  have HU' := Lib.hid (HU.out.below hb13)
  have HS' := Lib.hid (HS.out.below hb13)
  have HZZ' := Lib.hid (Below.two HZZ.out hb13)
  clear hb13 HZZ HA HB HE HU HS
  have HZZ := HZZ'
  clear HZZ'
  have HA := HA'
  clear HA'
  have HB := HB'
  clear HB'
  have HE := HE'
  clear HE'
  have HU := HU'
  clear HU'
  have HS := HS'
  clear HS'
  clear HR
  clear HS HU
  go_wp2_with fail
  refine (HNo.out _).mono ?_
  rintro e w14' ⟨rfl, rfl⟩
  go_wp2_with fail
  refine (errIs 1 (by decide) _ HE.out).mono ?_
  rintro e w15 ⟨rfl, hb15⟩
  have HA' := Lib.hid (HA.out.below hb15)
  have HB' := Lib.hid (HB.out.below hb15)
  have HE' := Lib.hid (HE.out.below hb15)
  have HZZ' := Lib.hid (Below.two HZZ.out hb15)
  clear hb15 HZZ HA HB HE
  have HZZ := HZZ'
  clear HZZ'
  have HA := HA'
  clear HA'
  have HB := HB'
  clear HB'
  have HE := HE'
  clear HE'
  go_wp2_with fail
  refine (sameRows_none w15 none none 0 0).mono ?_
  rintro e w16 ⟨rfl, hb16⟩
  have HA' := Lib.hid (HA.out.below hb16)
  have HB' := Lib.hid (HB.out.below hb16)
  have HE' := Lib.hid (HE.out.below hb16)
  have HZZ' := Lib.hid (Below.two HZZ.out hb16)
  clear hb16 HZZ HA HB HE
  have HZZ := HZZ'
  clear HZZ'
  have HA := HA'
  clear HA'
  have HB := HB'
  clear HB'
  have HE := HE'
  clear HE'
  go_wp2_with fail
  go_ret
  exact ⟨rfl, HZZ.out⟩
set_option maxHeartbeats 4000000 in
set_option maxRecDepth 100000 in
theorem tells_okok_high (w : World) (va vb : Value) (n : Nat) (A : MatP.T) (B : MatP.T) (y : Int) (hy : 8 < y) (h1 : 1 ≤ n) (h8 : n ≤ 8) (hbA : MatP.Bd A) (hbB : MatP.Bd B) (ha : ArgR w va (rowsN n A)) (hb : ArgR w vb (rowsN n B)) (he : ErrType w) :
    Calls Tryd.prog 3 #[va, vb, .int .i64 y] w fun e w' => e = .returned (.bool true) ∧ Below w.heap.size w w' := by
  obtain ⟨pa, ca, rfl⟩ := tab_form ha
  obtain ⟨pb, cb, rfl⟩ := tab_form hb
  have HA := Lib.hid (ha)
  have HB := Lib.hid (hb)
  have HE := Lib.hid (he)
  clear ha hb he
  have HTa := Lib.hid (fun w1 v1 (h1 : ArgR w1 v1 (rowsN n A)) => table_any w1 v1 (rowsN n A) h1)
  have HCa := Lib.hid (fun w1 v1 (h1 : ArgR w1 v1 (rowsN n A)) => matCheck_any w1 v1 (rowsN n A) h1)
  rw [mat_rows h1 h8 hbA] at HTa
  rw [mat_rows h1 h8 hbA, show errV 0 = Value.nilIface from rfl] at HCa
  have HbA := Lib.hid hbA
  clear hbA
  have HTb := Lib.hid (fun w1 v1 (h1 : ArgR w1 v1 (rowsN n B)) => table_any w1 v1 (rowsN n B) h1)
  rw [mat_rows h1 h8 hbB] at HTb
  have HbB := Lib.hid hbB
  clear hbB
  have t1 : ¬ (y < 1) := by omega
  have HNo := Lib.hid (one_no (n := y) (h := Or.inr hy))
  have HZZ : Hid (Below w.heap.size w w) := Lib.hid (Below.refl _ _)
  go_enter Tryd.func3, Tryd.ntmps3
  go_wp2_with fail
  refine (tabled_any w).mono ?_
  rintro e w1 ⟨rfl, hb1⟩
  have HA' := Lib.hid (HA.out.below hb1)
  have HB' := Lib.hid (HB.out.below hb1)
  have HE' := Lib.hid (HE.out.below hb1)
  have HZZ' := Lib.hid (Below.two HZZ.out hb1)
  clear hb1 HZZ HA HB HE
  have HZZ := HZZ'
  clear HZZ'
  have HA := HA'
  clear HA'
  have HB := HB'
  clear HB'
  have HE := HE'
  clear HE'
  go_wp2_with fail
  refine (HTa.out _ _ HA.out).mono ?_
  rintro e w2' ⟨rfl, rfl⟩
  go_wp2_with fail
  refine (HCa.out _ _ HA.out).mono ?_
  rintro e w3' ⟨rfl, rfl⟩
  go_wp2_with fail
  refine (same_nil 0 true rfl w1).mono ?_
  rintro e w4' ⟨rfl, rfl⟩
  go_wp2_with fail
  refine (starOf_any w1 _ n A h1 h8 HbA.out HA.out).mono ?_
  rintro e w5 ⟨u1, rfl, hO, hb5⟩
  have HA' := Lib.hid (HA.out.below hb5)
  have HB' := Lib.hid (HB.out.below hb5)
  have HE' := Lib.hid (HE.out.below hb5)
  have HZZ' := Lib.hid (Below.two HZZ.out hb5)
  have HU := Lib.hid (hO)
  clear hb5 HZZ HA HB HE
  have HZZ := HZZ'
  clear HZZ'
  have HA := HA'
  clear HA'
  have HB := HB'
  clear HB'
  have HE := HE'
  clear HE'
  clear hO
  go_wp2_with fail
  refine (star_ok w5 _ n A h1 h8 HbA.out HA.out).mono ?_
  rintro e w6 ⟨g1, _, rfl, hG, hb6⟩
  have HA' := Lib.hid (HA.out.below hb6)
  have HB' := Lib.hid (HB.out.below hb6)
  have HE' := Lib.hid (HE.out.below hb6)
  have HU' := Lib.hid (HU.out.below hb6)
  have HZZ' := Lib.hid (Below.two HZZ.out hb6)
  have HS := Lib.hid (show ArgR _ _ (rowsN n _) from hG.arg)
  clear hb6 HZZ HA HB HE HU
  have HZZ := HZZ'
  clear HZZ'
  have HA := HA'
  clear HA'
  have HB := HB'
  clear HB'
  have HE := HE'
  clear HE'
  have HU := HU'
  clear HU'
  clear hG
  go_wp2_with fail
  refine (same_nil 0 true rfl w6).mono ?_
  rintro e w7' ⟨rfl, rfl⟩
  have HR := sameRows_any w6 _ _ _ _ (by rw [rowsN_len]; omega) (fun r hr => by rw [rowsN_row _ _ r hr]; omega) HS.out HU.out
  rw [decide_eq_true (rowsN_congr fun i k hi hk => MatP.fw_lw HbA.out i k hi hk)] at HR
  have HR := Lib.hid HR
  go_wp2_with fail
  refine (HR.out).mono ?_
  rintro e w8 ⟨rfl, hb8⟩
  have HA' := Lib.hid (HA.out.below hb8)
  have HB' := Lib.hid (HB.out.below hb8)
  have HE' := Lib.hid (HE.out.below hb8)
  have HU' := Lib.hid (HU.out.below hb8)
  have HS' := Lib.hid (HS.out.below hb8)
  have HZZ' := Lib.hid (Below.two HZZ.out hb8)
  clear hb8 HZZ HA HB HE HU HS
  have HZZ := HZZ'
  clear HZZ'
  have HA := HA'
  clear HA'
  have HB := HB'
  clear HB'
  have HE := HE'
  clear HE'
  have HU := HU'
  clear HU'
  have HS := HS'
  clear HS'
  clear HR
  clear HS HU
  go_wp2_with fail
  refine (HTb.out _ _ HB.out).mono ?_
  rintro e w9' ⟨rfl, rfl⟩
  go_wp2_with fail
  refine (mulOf_any w8 _ _ n A B h1 h8 HbA.out HbB.out HA.out HB.out).mono ?_
  rintro e w10 ⟨u2, rfl, hO, hb10⟩
  have HA' := Lib.hid (HA.out.below hb10)
  have HB' := Lib.hid (HB.out.below hb10)
  have HE' := Lib.hid (HE.out.below hb10)
  have HZZ' := Lib.hid (Below.two HZZ.out hb10)
  have HU := Lib.hid (hO.arg)
  clear hb10 HZZ HA HB HE
  have HZZ := HZZ'
  clear HZZ'
  have HA := HA'
  clear HA'
  have HB := HB'
  clear HB'
  have HE := HE'
  clear HE'
  clear hO
  go_wp2_with fail
  refine (mul_ok w10 _ _ n A B h1 h8 HbA.out HbB.out HA.out HB.out).mono ?_
  rintro e w11 ⟨g2, _, rfl, hG, hb11⟩
  have HA' := Lib.hid (HA.out.below hb11)
  have HB' := Lib.hid (HB.out.below hb11)
  have HE' := Lib.hid (HE.out.below hb11)
  have HU' := Lib.hid (HU.out.below hb11)
  have HZZ' := Lib.hid (Below.two HZZ.out hb11)
  have HS := Lib.hid (show ArgR _ _ (rowsN n _) from hG.arg)
  clear hb11 HZZ HA HB HE HU
  have HZZ := HZZ'
  clear HZZ'
  have HA := HA'
  clear HA'
  have HB := HB'
  clear HB'
  have HE := HE'
  clear HE'
  have HU := HU'
  clear HU'
  clear hG
  go_wp2_with fail
  refine (same_nil 0 true rfl w11).mono ?_
  rintro e w12' ⟨rfl, rfl⟩
  have HR := sameRows_any w11 _ _ _ _ (by rw [rowsN_len]; omega) (fun r hr => by rw [rowsN_row _ _ r hr]; omega) HS.out HU.out
  rw [decide_eq_true (rfl)] at HR
  have HR := Lib.hid HR
  go_wp2_with fail
  refine (HR.out).mono ?_
  rintro e w13 ⟨rfl, hb13⟩
  have HA' := Lib.hid (HA.out.below hb13)
  have HB' := Lib.hid (HB.out.below hb13)
  have HE' := Lib.hid (HE.out.below hb13)
  have HU' := Lib.hid (HU.out.below hb13)
  have HS' := Lib.hid (HS.out.below hb13)
  have HZZ' := Lib.hid (Below.two HZZ.out hb13)
  clear hb13 HZZ HA HB HE HU HS
  have HZZ := HZZ'
  clear HZZ'
  have HA := HA'
  clear HA'
  have HB := HB'
  clear HB'
  have HE := HE'
  clear HE'
  have HU := HU'
  clear HU'
  have HS := HS'
  clear HS'
  clear HR
  clear HS HU
  go_wp2_with fail
  refine (HNo.out _).mono ?_
  rintro e w14' ⟨rfl, rfl⟩
  go_wp2_with fail
  refine (errIs 1 (by decide) _ HE.out).mono ?_
  rintro e w15 ⟨rfl, hb15⟩
  have HA' := Lib.hid (HA.out.below hb15)
  have HB' := Lib.hid (HB.out.below hb15)
  have HE' := Lib.hid (HE.out.below hb15)
  have HZZ' := Lib.hid (Below.two HZZ.out hb15)
  clear hb15 HZZ HA HB HE
  have HZZ := HZZ'
  clear HZZ'
  have HA := HA'
  clear HA'
  have HB := HB'
  clear HB'
  have HE := HE'
  clear HE'
  go_wp2_with fail
  refine (sameRows_none w15 none none 0 0).mono ?_
  rintro e w16 ⟨rfl, hb16⟩
  have HA' := Lib.hid (HA.out.below hb16)
  have HB' := Lib.hid (HB.out.below hb16)
  have HE' := Lib.hid (HE.out.below hb16)
  have HZZ' := Lib.hid (Below.two HZZ.out hb16)
  clear hb16 HZZ HA HB HE
  have HZZ := HZZ'
  clear HZZ'
  have HA := HA'
  clear HA'
  have HB := HB'
  clear HB'
  have HE := HE'
  clear HE'
  go_wp2_with fail
  go_ret
  exact ⟨rfl, HZZ.out⟩
set_option maxHeartbeats 4000000 in
set_option maxRecDepth 100000 in
theorem tells_okok_ok (w : World) (va vb : Value) (n : Nat) (A : MatP.T) (B : MatP.T) (m0 : Nat) (hy : 1 ≤ m0 ∧ m0 ≤ 8) (h1 : 1 ≤ n) (h8 : n ≤ 8) (hbA : MatP.Bd A) (hbB : MatP.Bd B) (ha : ArgR w va (rowsN n A)) (hb : ArgR w vb (rowsN n B)) (he : ErrType w) :
    Calls Tryd.prog 3 #[va, vb, .int .i64 (m0 : Int)] w fun e w' => e = .returned (.bool true) ∧ Below w.heap.size w w' := by
  obtain ⟨pa, ca, rfl⟩ := tab_form ha
  obtain ⟨pb, cb, rfl⟩ := tab_form hb
  have HA := Lib.hid (ha)
  have HB := Lib.hid (hb)
  have HE := Lib.hid (he)
  clear ha hb he
  have HTa := Lib.hid (fun w1 v1 (h1 : ArgR w1 v1 (rowsN n A)) => table_any w1 v1 (rowsN n A) h1)
  have HCa := Lib.hid (fun w1 v1 (h1 : ArgR w1 v1 (rowsN n A)) => matCheck_any w1 v1 (rowsN n A) h1)
  rw [mat_rows h1 h8 hbA] at HTa
  rw [mat_rows h1 h8 hbA, show errV 0 = Value.nilIface from rfl] at HCa
  have HbA := Lib.hid hbA
  clear hbA
  have HTb := Lib.hid (fun w1 v1 (h1 : ArgR w1 v1 (rowsN n B)) => table_any w1 v1 (rowsN n B) h1)
  rw [mat_rows h1 h8 hbB] at HTb
  have HbB := Lib.hid hbB
  clear hbB
  have t1 : ¬ ((m0 : Int) < 1) := by omega
  have t2 : ¬ ((8 : Int) < (m0 : Int)) := by omega
  have HZZ : Hid (Below w.heap.size w w) := Lib.hid (Below.refl _ _)
  go_enter Tryd.func3, Tryd.ntmps3
  go_wp2_with fail
  refine (tabled_any w).mono ?_
  rintro e w1 ⟨rfl, hb1⟩
  have HA' := Lib.hid (HA.out.below hb1)
  have HB' := Lib.hid (HB.out.below hb1)
  have HE' := Lib.hid (HE.out.below hb1)
  have HZZ' := Lib.hid (Below.two HZZ.out hb1)
  clear hb1 HZZ HA HB HE
  have HZZ := HZZ'
  clear HZZ'
  have HA := HA'
  clear HA'
  have HB := HB'
  clear HB'
  have HE := HE'
  clear HE'
  go_wp2_with fail
  refine (HTa.out _ _ HA.out).mono ?_
  rintro e w2' ⟨rfl, rfl⟩
  go_wp2_with fail
  refine (HCa.out _ _ HA.out).mono ?_
  rintro e w3' ⟨rfl, rfl⟩
  go_wp2_with fail
  refine (same_nil 0 true rfl w1).mono ?_
  rintro e w4' ⟨rfl, rfl⟩
  go_wp2_with fail
  refine (starOf_any w1 _ n A h1 h8 HbA.out HA.out).mono ?_
  rintro e w5 ⟨u1, rfl, hO, hb5⟩
  have HA' := Lib.hid (HA.out.below hb5)
  have HB' := Lib.hid (HB.out.below hb5)
  have HE' := Lib.hid (HE.out.below hb5)
  have HZZ' := Lib.hid (Below.two HZZ.out hb5)
  have HU := Lib.hid (hO)
  clear hb5 HZZ HA HB HE
  have HZZ := HZZ'
  clear HZZ'
  have HA := HA'
  clear HA'
  have HB := HB'
  clear HB'
  have HE := HE'
  clear HE'
  clear hO
  go_wp2_with fail
  refine (star_ok w5 _ n A h1 h8 HbA.out HA.out).mono ?_
  rintro e w6 ⟨g1, _, rfl, hG, hb6⟩
  have HA' := Lib.hid (HA.out.below hb6)
  have HB' := Lib.hid (HB.out.below hb6)
  have HE' := Lib.hid (HE.out.below hb6)
  have HU' := Lib.hid (HU.out.below hb6)
  have HZZ' := Lib.hid (Below.two HZZ.out hb6)
  have HS := Lib.hid (show ArgR _ _ (rowsN n _) from hG.arg)
  clear hb6 HZZ HA HB HE HU
  have HZZ := HZZ'
  clear HZZ'
  have HA := HA'
  clear HA'
  have HB := HB'
  clear HB'
  have HE := HE'
  clear HE'
  have HU := HU'
  clear HU'
  clear hG
  go_wp2_with fail
  refine (same_nil 0 true rfl w6).mono ?_
  rintro e w7' ⟨rfl, rfl⟩
  have HR := sameRows_any w6 _ _ _ _ (by rw [rowsN_len]; omega) (fun r hr => by rw [rowsN_row _ _ r hr]; omega) HS.out HU.out
  rw [decide_eq_true (rowsN_congr fun i k hi hk => MatP.fw_lw HbA.out i k hi hk)] at HR
  have HR := Lib.hid HR
  go_wp2_with fail
  refine (HR.out).mono ?_
  rintro e w8 ⟨rfl, hb8⟩
  have HA' := Lib.hid (HA.out.below hb8)
  have HB' := Lib.hid (HB.out.below hb8)
  have HE' := Lib.hid (HE.out.below hb8)
  have HU' := Lib.hid (HU.out.below hb8)
  have HS' := Lib.hid (HS.out.below hb8)
  have HZZ' := Lib.hid (Below.two HZZ.out hb8)
  clear hb8 HZZ HA HB HE HU HS
  have HZZ := HZZ'
  clear HZZ'
  have HA := HA'
  clear HA'
  have HB := HB'
  clear HB'
  have HE := HE'
  clear HE'
  have HU := HU'
  clear HU'
  have HS := HS'
  clear HS'
  clear HR
  clear HS HU
  go_wp2_with fail
  refine (HTb.out _ _ HB.out).mono ?_
  rintro e w9' ⟨rfl, rfl⟩
  go_wp2_with fail
  refine (mulOf_any w8 _ _ n A B h1 h8 HbA.out HbB.out HA.out HB.out).mono ?_
  rintro e w10 ⟨u2, rfl, hO, hb10⟩
  have HA' := Lib.hid (HA.out.below hb10)
  have HB' := Lib.hid (HB.out.below hb10)
  have HE' := Lib.hid (HE.out.below hb10)
  have HZZ' := Lib.hid (Below.two HZZ.out hb10)
  have HU := Lib.hid (hO.arg)
  clear hb10 HZZ HA HB HE
  have HZZ := HZZ'
  clear HZZ'
  have HA := HA'
  clear HA'
  have HB := HB'
  clear HB'
  have HE := HE'
  clear HE'
  clear hO
  go_wp2_with fail
  refine (mul_ok w10 _ _ n A B h1 h8 HbA.out HbB.out HA.out HB.out).mono ?_
  rintro e w11 ⟨g2, _, rfl, hG, hb11⟩
  have HA' := Lib.hid (HA.out.below hb11)
  have HB' := Lib.hid (HB.out.below hb11)
  have HE' := Lib.hid (HE.out.below hb11)
  have HU' := Lib.hid (HU.out.below hb11)
  have HZZ' := Lib.hid (Below.two HZZ.out hb11)
  have HS := Lib.hid (show ArgR _ _ (rowsN n _) from hG.arg)
  clear hb11 HZZ HA HB HE HU
  have HZZ := HZZ'
  clear HZZ'
  have HA := HA'
  clear HA'
  have HB := HB'
  clear HB'
  have HE := HE'
  clear HE'
  have HU := HU'
  clear HU'
  clear hG
  go_wp2_with fail
  refine (same_nil 0 true rfl w11).mono ?_
  rintro e w12' ⟨rfl, rfl⟩
  have HR := sameRows_any w11 _ _ _ _ (by rw [rowsN_len]; omega) (fun r hr => by rw [rowsN_row _ _ r hr]; omega) HS.out HU.out
  rw [decide_eq_true (rfl)] at HR
  have HR := Lib.hid HR
  go_wp2_with fail
  refine (HR.out).mono ?_
  rintro e w13 ⟨rfl, hb13⟩
  have HA' := Lib.hid (HA.out.below hb13)
  have HB' := Lib.hid (HB.out.below hb13)
  have HE' := Lib.hid (HE.out.below hb13)
  have HU' := Lib.hid (HU.out.below hb13)
  have HS' := Lib.hid (HS.out.below hb13)
  have HZZ' := Lib.hid (Below.two HZZ.out hb13)
  clear hb13 HZZ HA HB HE HU HS
  have HZZ := HZZ'
  clear HZZ'
  have HA := HA'
  clear HA'
  have HB := HB'
  clear HB'
  have HE := HE'
  clear HE'
  have HU := HU'
  clear HU'
  have HS := HS'
  clear HS'
  clear HR
  clear HS HU
  go_wp2_with fail
  refine (oneOf_any w13 m0 (by omega)).mono ?_
  rintro e w14 ⟨u3, rfl, hO, hb14⟩
  have HA' := Lib.hid (HA.out.below hb14)
  have HB' := Lib.hid (HB.out.below hb14)
  have HE' := Lib.hid (HE.out.below hb14)
  have HZZ' := Lib.hid (Below.two HZZ.out hb14)
  have HU := Lib.hid (hO.arg)
  clear hb14 HZZ HA HB HE
  have HZZ := HZZ'
  clear HZZ'
  have HA := HA'
  clear HA'
  have HB := HB'
  clear HB'
  have HE := HE'
  clear HE'
  clear hO
  go_wp2_with fail
  refine (one_yes w14 m0 (by omega) (by omega)).mono ?_
  rintro e w15 ⟨g3, _, rfl, hG, hb15⟩
  have HA' := Lib.hid (HA.out.below hb15)
  have HB' := Lib.hid (HB.out.below hb15)
  have HE' := Lib.hid (HE.out.below hb15)
  have HU' := Lib.hid (HU.out.below hb15)
  have HZZ' := Lib.hid (Below.two HZZ.out hb15)
  have HS := Lib.hid (show ArgR _ _ (rowsN m0 _) from hG.arg)
  clear hb15 HZZ HA HB HE HU
  have HZZ := HZZ'
  clear HZZ'
  have HA := HA'
  clear HA'
  have HB := HB'
  clear HB'
  have HE := HE'
  clear HE'
  have HU := HU'
  clear HU'
  clear hG
  go_wp2_with fail
  refine (same_nil 0 true rfl w15).mono ?_
  rintro e w16' ⟨rfl, rfl⟩
  have HR := sameRows_any w15 _ _ _ _ (by rw [rowsN_len]; omega) (fun r hr => by rw [rowsN_row _ _ r hr]; omega) HS.out HU.out
  rw [decide_eq_true (rfl)] at HR
  have HR := Lib.hid HR
  go_wp2_with fail
  refine (HR.out).mono ?_
  rintro e w17 ⟨rfl, hb17⟩
  have HA' := Lib.hid (HA.out.below hb17)
  have HB' := Lib.hid (HB.out.below hb17)
  have HE' := Lib.hid (HE.out.below hb17)
  have HU' := Lib.hid (HU.out.below hb17)
  have HS' := Lib.hid (HS.out.below hb17)
  have HZZ' := Lib.hid (Below.two HZZ.out hb17)
  clear hb17 HZZ HA HB HE HU HS
  have HZZ := HZZ'
  clear HZZ'
  have HA := HA'
  clear HA'
  have HB := HB'
  clear HB'
  have HE := HE'
  clear HE'
  have HU := HU'
  clear HU'
  have HS := HS'
  clear HS'
  clear HR
  go_wp2_with fail
  go_ret
  exact ⟨rfl, HZZ.out⟩
theorem matTells_walk (w : World) (va vb : Value) (y : Int) (M N : List (List Int)) (ha : ArgR w va M) (hb : ArgR w vb N) (he : ErrType w) :
    Calls Tryd.prog 3 #[va, vb, .int .i64 y] w fun e w' => e = .returned (.bool true) ∧ Below w.heap.size w w' := by
  rcases (show y < 1 ∨ 8 < y ∨ ∃ m0 : Nat, y = (m0 : Int) ∧ 1 ≤ m0 ∧ m0 ≤ 8 by
    by_cases h1 : y < 1
    · exact Or.inl h1
    · by_cases h2 : 8 < y
      · exact Or.inr (Or.inl h2)
      · exact Or.inr (Or.inr ⟨y.toNat, by omega, by omega, by omega⟩)) with hy | hy | ⟨m0, rfl, hy⟩
  · by_cases hm : matBad M = 0
    · obtain ⟨n, A, h1, h8, hA, rfl⟩ := mat_tab hm
      by_cases hn : matBad N = 0
      · obtain ⟨m, C, m1, m8, hC, rfl⟩ := mat_tab hn
        by_cases e : n = m
        · subst e
          exact tells_okok_low w va vb n A C y hy h1 h8 hA hC ha hb he
        · exact tells_oklen_low w va vb n A m C y hy h1 h8 hA m1 m8 hC e ha hb he
      · exact tells_okbad_low w va vb n A N y hy h1 h8 hA hn ha hb he
    · exact tells_badany_low w va vb M N y hy hm ha hb he
  · by_cases hm : matBad M = 0
    · obtain ⟨n, A, h1, h8, hA, rfl⟩ := mat_tab hm
      by_cases hn : matBad N = 0
      · obtain ⟨m, C, m1, m8, hC, rfl⟩ := mat_tab hn
        by_cases e : n = m
        · subst e
          exact tells_okok_high w va vb n A C y hy h1 h8 hA hC ha hb he
        · exact tells_oklen_high w va vb n A m C y hy h1 h8 hA m1 m8 hC e ha hb he
      · exact tells_okbad_high w va vb n A N y hy h1 h8 hA hn ha hb he
    · exact tells_badany_high w va vb M N y hy hm ha hb he
  · by_cases hm : matBad M = 0
    · obtain ⟨n, A, h1, h8, hA, rfl⟩ := mat_tab hm
      by_cases hn : matBad N = 0
      · obtain ⟨m, C, m1, m8, hC, rfl⟩ := mat_tab hn
        by_cases e : n = m
        · subst e
          exact tells_okok_ok w va vb n A C m0 hy h1 h8 hA hC ha hb he
        · exact tells_oklen_ok w va vb n A m C m0 hy h1 h8 hA m1 m8 hC e ha hb he
      · exact tells_okbad_ok w va vb n A N m0 hy h1 h8 hA hn ha hb he
    · exact tells_badany_ok w va vb M N m0 hy hm ha hb he
end Go.Proofs.YtobfidlfgdlilaaDoor
