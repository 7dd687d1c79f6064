/-
  The law MatRises at every three lists of rows and every two numbers: it tells true; what lay in memory stays.
-/
import Derived.Test.YtobfidlfgdlilaaMatRes
import Derived.Test.YtobfidlfgdlilaaRefLeast
namespace Go.Proofs.Ytobfidlfgdlilaa
open Go.RowKit Go.Lib

set_option maxHeartbeats 4000000 in
set_option maxRecDepth 100000 in
theorem rises_0 (w : World) (va vb vc : Value) (M N : List (List Int)) (i k : Int) (ha : ArgR w va M) (hb : ArgR w vb N) (hg : mulBad M N ≠ 0) :
    Calls Try.prog 6 #[va, vb, vc, .int .i64 i, .int .i64 k] w fun e w' => e = .returned (.bool true) ∧ Below w.heap.size w w' := by
  have HA := Lib.hid (ha)
  have HB := Lib.hid (hb)
  have hE : errV (mulBad M N) = .iface 42 (.int .i64 (mulBad M N)) := if_neg hg
  have HM := Lib.hid (fun w1 (h1 : ArgR w1 va M) (h2 : ArgR w1 vb N) => mul_bad w1 va vb M N h1 h2 hg)
  rw [hE] at HM
  clear hE ha hb hg
  generalize mulBad M N = q at HM
  have HZZ : Hid (Below w.heap.size w w) := Lib.hid (Below.refl _ _)
  go_enter Try.func6, Try.ntmps6
  go_wp2_with fail
  refine (one_yes w 1 (by decide) (by decide)).mono ?_
  rintro e w1 ⟨g0, _, rfl, _, hb1⟩
  have HA' := Lib.hid (HA.out.below hb1)
  have HB' := Lib.hid (HB.out.below hb1)
  have HZZ' := Lib.hid (Below.two HZZ.out hb1)
  clear hb1 HZZ HA HB
  have HZZ := HZZ'
  clear HZZ'
  have HA := HA'
  clear HA'
  have HB := HB'
  clear HB'
  go_wp2_with fail
  refine (HM.out _ HA.out HB.out).mono ?_
  rintro e w2' ⟨rfl, rfl⟩
  go_wp2_with fail
  go_ret
  exact ⟨rfl, HZZ.out⟩
set_option maxHeartbeats 4000000 in
set_option maxRecDepth 100000 in
theorem rises_1 (w : World) (va vb vc : Value) (n : Nat) (A B : MatP.T) (O : List (List Int)) (i k : Int) (h1 : 1 ≤ n) (h8 : n ≤ 8) (hbA : MatP.Bd A) (hbB : MatP.Bd B)  (ha : ArgR w va (rowsN n A)) (hb : ArgR w vb (rowsN n B)) (hc : ArgR w vc O) (hg : matBad O ≠ 0) :
    Calls Try.prog 6 #[va, vb, vc, .int .i64 i, .int .i64 k] w fun e w' => e = .returned (.bool true) ∧ Below w.heap.size w w' := by
  obtain ⟨pa, ca, rfl⟩ := tab_form ha
  have HA := Lib.hid (ha)
  have HB := Lib.hid (hb)
  have HC := Lib.hid (hc)
  have HbA := Lib.hid hbA; have HbB := Lib.hid hbB
  clear ha hb hbA hbB
  have hE : errV (matBad O) = .iface 42 (.int .i64 (matBad O)) := if_neg hg
  have HM := Lib.hid (fun w1 (h1 : ArgR w1 vc O) => matCheck_any w1 vc O h1)
  rw [hE] at HM
  clear hE hc hg
  generalize matBad O = q at HM
  have HZZ : Hid (Below w.heap.size w w) := Lib.hid (Below.refl _ _)
  go_enter Try.func6, Try.ntmps6
  go_wp2_with fail
  refine (one_yes w 1 (by decide) (by decide)).mono ?_
  rintro e w1 ⟨g0, _, rfl, _, hb1⟩
  have HA' := Lib.hid (HA.out.below hb1)
  have HB' := Lib.hid (HB.out.below hb1)
  have HC' := Lib.hid (HC.out.below hb1)
  have HZZ' := Lib.hid (Below.two HZZ.out hb1)
  clear hb1 HZZ HA HB HC
  have HZZ := HZZ'
  clear HZZ'
  have HA := HA'
  clear HA'
  have HB := HB'
  clear HB'
  have HC := HC'
  clear HC'
  go_wp2_with fail
  refine (mul_ok w1 _ _ n A B h1 h8 HbA.out HbB.out HA.out HB.out).mono ?_
  rintro e w2 ⟨g1, _, rfl, _, hb2⟩
  have HA' := Lib.hid (HA.out.below hb2)
  have HB' := Lib.hid (HB.out.below hb2)
  have HC' := Lib.hid (HC.out.below hb2)
  have HZZ' := Lib.hid (Below.two HZZ.out hb2)
  clear hb2 HZZ HA HB HC
  have HZZ := HZZ'
  clear HZZ'
  have HA := HA'
  clear HA'
  have HB := HB'
  clear HB'
  have HC := HC'
  clear HC'
  go_wp2_with fail
  refine (HM.out _ HC.out).mono ?_
  rintro e w3' ⟨rfl, rfl⟩
  go_wp2_with fail
  go_ret
  exact ⟨rfl, HZZ.out⟩
set_option maxHeartbeats 4000000 in
set_option maxRecDepth 100000 in
theorem rises_n0 (w : World) (va vb vc : Value) (n : Nat) (A B : MatP.T) (m : Nat) (C : MatP.T) (i k : Int) (h1 : 1 ≤ n) (h8 : n ≤ 8) (hbA : MatP.Bd A) (hbB : MatP.Bd B) (hm1 : 1 ≤ m) (hm8 : m ≤ 8) (hbC : MatP.Bd C) (ha : ArgR w va (rowsN n A)) (hb : ArgR w vb (rowsN n B)) (hc : ArgR w vc (rowsN m C)) (hg : m ≠ n) :
    Calls Try.prog 6 #[va, vb, vc, .int .i64 i, .int .i64 k] w fun e w' => e = .returned (.bool true) ∧ Below w.heap.size w w' := by
  obtain ⟨pa, ca, rfl⟩ := tab_form ha
  obtain ⟨pc, cc, rfl⟩ := tab_form hc
  have HA := Lib.hid (ha)
  have HB := Lib.hid (hb)
  have HC := Lib.hid (hc)
  have HbA := Lib.hid hbA; have HbB := Lib.hid hbB
  clear ha hb hbA hbB
  have HM := Lib.hid (fun w1 (h1 : ArgR w1 (.slice pc m cc) (rowsN m C)) => matCheck_any w1 (.slice pc m cc) (rowsN m C) h1)
  rw [mat_rows hm1 hm8 hbC, show errV 0 = Value.nilIface from rfl] at HM
  have HbC := Lib.hid hbC
  clear hc hbC
  have t0 : ((m : Int) != (n : Int)) = true := by
    have : ¬ (m : Int) = n := by omega
    simpa using this
  clear hg
  have HZZ : Hid (Below w.heap.size w w) := Lib.hid (Below.refl _ _)
  go_enter Try.func6, Try.ntmps6
  go_wp2_with fail
  refine (one_yes w 1 (by decide) (by decide)).mono ?_
  rintro e w1 ⟨g0, _, rfl, _, hb1⟩
  have HA' := Lib.hid (HA.out.below hb1)
  have HB' := Lib.hid (HB.out.below hb1)
  have HC' := Lib.hid (HC.out.below hb1)
  have HZZ' := Lib.hid (Below.two HZZ.out hb1)
  clear hb1 HZZ HA HB HC
  have HZZ := HZZ'
  clear HZZ'
  have HA := HA'
  clear HA'
  have HB := HB'
  clear HB'
  have HC := HC'
  clear HC'
  go_wp2_with fail
  refine (mul_ok w1 _ _ n A B h1 h8 HbA.out HbB.out HA.out HB.out).mono ?_
  rintro e w2 ⟨g1, _, rfl, _, hb2⟩
  have HA' := Lib.hid (HA.out.below hb2)
  have HB' := Lib.hid (HB.out.below hb2)
  have HC' := Lib.hid (HC.out.below hb2)
  have HZZ' := Lib.hid (Below.two HZZ.out hb2)
  clear hb2 HZZ HA HB HC
  have HZZ := HZZ'
  clear HZZ'
  have HA := HA'
  clear HA'
  have HB := HB'
  clear HB'
  have HC := HC'
  clear HC'
  go_wp2_with fail
  refine (HM.out _ HC.out).mono ?_
  rintro e w3' ⟨rfl, rfl⟩
  go_wp2_with fail
  go_ret
  exact ⟨rfl, HZZ.out⟩
set_option maxHeartbeats 4000000 in
set_option maxRecDepth 100000 in
theorem rises_n1 (w : World) (va vb vc : Value) (n : Nat) (A B : MatP.T) (m : Nat) (C : MatP.T) (i k : Int) (h1 : 1 ≤ n) (h8 : n ≤ 8) (hbA : MatP.Bd A) (hbB : MatP.Bd B) (hm1 : 1 ≤ m) (hm8 : m ≤ 8) (hbC : MatP.Bd C) (ha : ArgR w va (rowsN n A)) (hb : ArgR w vb (rowsN n B)) (hc : ArgR w vc (rowsN m C)) (hg : m = n ∧ i < 0) :
    Calls Try.prog 6 #[va, vb, vc, .int .i64 i, .int .i64 k] w fun e w' => e = .returned (.bool true) ∧ Below w.heap.size w w' := by
  obtain ⟨pa, ca, rfl⟩ := tab_form ha
  obtain ⟨pc, cc, rfl⟩ := tab_form hc
  have HA := Lib.hid (ha)
  have HB := Lib.hid (hb)
  have HC := Lib.hid (hc)
  have HbA := Lib.hid hbA; have HbB := Lib.hid hbB
  clear ha hb hbA hbB
  have HM := Lib.hid (fun w1 (h1 : ArgR w1 (.slice pc m cc) (rowsN m C)) => matCheck_any w1 (.slice pc m cc) (rowsN m C) h1)
  rw [mat_rows hm1 hm8 hbC, show errV 0 = Value.nilIface from rfl] at HM
  have HbC := Lib.hid hbC
  clear hc hbC
  have t1 : i < 0 := hg.2
  obtain ⟨rfl, -⟩ := hg
  have HZZ : Hid (Below w.heap.size w w) := Lib.hid (Below.refl _ _)
  go_enter Try.func6, Try.ntmps6
  go_wp2_with fail
  refine (one_yes w 1 (by decide) (by decide)).mono ?_
  rintro e w1 ⟨g0, _, rfl, _, hb1⟩
  have HA' := Lib.hid (HA.out.below hb1)
  have HB' := Lib.hid (HB.out.below hb1)
  have HC' := Lib.hid (HC.out.below hb1)
  have HZZ' := Lib.hid (Below.two HZZ.out hb1)
  clear hb1 HZZ HA HB HC
  have HZZ := HZZ'
  clear HZZ'
  have HA := HA'
  clear HA'
  have HB := HB'
  clear HB'
  have HC := HC'
  clear HC'
  go_wp2_with fail
  refine (mul_ok w1 _ _ m A B hm1 hm8 HbA.out HbB.out HA.out HB.out).mono ?_
  rintro e w2 ⟨g1, _, rfl, _, hb2⟩
  have HA' := Lib.hid (HA.out.below hb2)
  have HB' := Lib.hid (HB.out.below hb2)
  have HC' := Lib.hid (HC.out.below hb2)
  have HZZ' := Lib.hid (Below.two HZZ.out hb2)
  clear hb2 HZZ HA HB HC
  have HZZ := HZZ'
  clear HZZ'
  have HA := HA'
  clear HA'
  have HB := HB'
  clear HB'
  have HC := HC'
  clear HC'
  go_wp2_with fail
  refine (HM.out _ HC.out).mono ?_
  rintro e w3' ⟨rfl, rfl⟩
  go_wp2_with fail
  go_ret
  exact ⟨rfl, HZZ.out⟩
set_option maxHeartbeats 4000000 in
set_option maxRecDepth 100000 in
theorem rises_n2 (w : World) (va vb vc : Value) (n : Nat) (A B : MatP.T) (m : Nat) (C : MatP.T) (i k : Int) (h1 : 1 ≤ n) (h8 : n ≤ 8) (hbA : MatP.Bd A) (hbB : MatP.Bd B) (hm1 : 1 ≤ m) (hm8 : m ≤ 8) (hbC : MatP.Bd C) (ha : ArgR w va (rowsN n A)) (hb : ArgR w vb (rowsN n B)) (hc : ArgR w vc (rowsN m C)) (hg : m = n ∧ 0 ≤ i ∧ (n : Int) ≤ i) :
    Calls Try.prog 6 #[va, vb, vc, .int .i64 i, .int .i64 k] w fun e w' => e = .returned (.bool true) ∧ Below w.heap.size w w' := by
  obtain ⟨pa, ca, rfl⟩ := tab_form ha
  obtain ⟨pc, cc, rfl⟩ := tab_form hc
  have HA := Lib.hid (ha)
  have HB := Lib.hid (hb)
  have HC := Lib.hid (hc)
  have HbA := Lib.hid hbA; have HbB := Lib.hid hbB
  clear ha hb hbA hbB
  have HM := Lib.hid (fun w1 (h1 : ArgR w1 (.slice pc m cc) (rowsN m C)) => matCheck_any w1 (.slice pc m cc) (rowsN m C) h1)
  rw [mat_rows hm1 hm8 hbC, show errV 0 = Value.nilIface from rfl] at HM
  have HbC := Lib.hid hbC
  clear hc hbC
  have t1 : ¬ (i < 0) := by omega
  have t2 : (m : Int) ≤ i := by omega
  obtain ⟨rfl, -⟩ := hg
  have HZZ : Hid (Below w.heap.size w w) := Lib.hid (Below.refl _ _)
  go_enter Try.func6, Try.ntmps6
  go_wp2_with fail
  refine (one_yes w 1 (by decide) (by decide)).mono ?_
  rintro e w1 ⟨g0, _, rfl, _, hb1⟩
  have HA' := Lib.hid (HA.out.below hb1)
  have HB' := Lib.hid (HB.out.below hb1)
  have HC' := Lib.hid (HC.out.below hb1)
  have HZZ' := Lib.hid (Below.two HZZ.out hb1)
  clear hb1 HZZ HA HB HC
  have HZZ := HZZ'
  clear HZZ'
  have HA := HA'
  clear HA'
  have HB := HB'
  clear HB'
  have HC := HC'
  clear HC'
  go_wp2_with fail
  refine (mul_ok w1 _ _ m A B hm1 hm8 HbA.out HbB.out HA.out HB.out).mono ?_
  rintro e w2 ⟨g1, _, rfl, _, hb2⟩
  have HA' := Lib.hid (HA.out.below hb2)
  have HB' := Lib.hid (HB.out.below hb2)
  have HC' := Lib.hid (HC.out.below hb2)
  have HZZ' := Lib.hid (Below.two HZZ.out hb2)
  clear hb2 HZZ HA HB HC
  have HZZ := HZZ'
  clear HZZ'
  have HA := HA'
  clear HA'
  have HB := HB'
  clear HB'
  have HC := HC'
  clear HC'
  go_wp2_with fail
  refine (HM.out _ HC.out).mono ?_
  rintro e w3' ⟨rfl, rfl⟩
  go_wp2_with fail
  go_ret
  exact ⟨rfl, HZZ.out⟩
set_option maxHeartbeats 4000000 in
set_option maxRecDepth 100000 in
theorem rises_n3 (w : World) (va vb vc : Value) (n : Nat) (A B : MatP.T) (m : Nat) (C : MatP.T) (i k : Int) (h1 : 1 ≤ n) (h8 : n ≤ 8) (hbA : MatP.Bd A) (hbB : MatP.Bd B) (hm1 : 1 ≤ m) (hm8 : m ≤ 8) (hbC : MatP.Bd C) (ha : ArgR w va (rowsN n A)) (hb : ArgR w vb (rowsN n B)) (hc : ArgR w vc (rowsN m C)) (hg : m = n ∧ 0 ≤ i ∧ i < n ∧ k < 0) :
    Calls Try.prog 6 #[va, vb, vc, .int .i64 i, .int .i64 k] w fun e w' => e = .returned (.bool true) ∧ Below w.heap.size w w' := by
  obtain ⟨pa, ca, rfl⟩ := tab_form ha
  obtain ⟨pc, cc, rfl⟩ := tab_form hc
  have HA := Lib.hid (ha)
  have HB := Lib.hid (hb)
  have HC := Lib.hid (hc)
  have HbA := Lib.hid hbA; have HbB := Lib.hid hbB
  clear ha hb hbA hbB
  have HM := Lib.hid (fun w1 (h1 : ArgR w1 (.slice pc m cc) (rowsN m C)) => matCheck_any w1 (.slice pc m cc) (rowsN m C) h1)
  rw [mat_rows hm1 hm8 hbC, show errV 0 = Value.nilIface from rfl] at HM
  have HbC := Lib.hid hbC
  clear hc hbC
  have t1 : ¬ (i < 0) := by omega
  have t2 : ¬ ((m : Int) ≤ i) := by omega
  have t3 : k < 0 := by omega
  obtain ⟨rfl, -⟩ := hg
  have HZZ : Hid (Below w.heap.size w w) := Lib.hid (Below.refl _ _)
  go_enter Try.func6, Try.ntmps6
  go_wp2_with fail
  refine (one_yes w 1 (by decide) (by decide)).mono ?_
  rintro e w1 ⟨g0, _, rfl, _, hb1⟩
  have HA' := Lib.hid (HA.out.below hb1)
  have HB' := Lib.hid (HB.out.below hb1)
  have HC' := Lib.hid (HC.out.below hb1)
  have HZZ' := Lib.hid (Below.two HZZ.out hb1)
  clear hb1 HZZ HA HB HC
  have HZZ := HZZ'
  clear HZZ'
  have HA := HA'
  clear HA'
  have HB := HB'
  clear HB'
  have HC := HC'
  clear HC'
  go_wp2_with fail
  refine (mul_ok w1 _ _ m A B hm1 hm8 HbA.out HbB.out HA.out HB.out).mono ?_
  rintro e w2 ⟨g1, _, rfl, _, hb2⟩
  have HA' := Lib.hid (HA.out.below hb2)
  have HB' := Lib.hid (HB.out.below hb2)
  have HC' := Lib.hid (HC.out.below hb2)
  have HZZ' := Lib.hid (Below.two HZZ.out hb2)
  clear hb2 HZZ HA HB HC
  have HZZ := HZZ'
  clear HZZ'
  have HA := HA'
  clear HA'
  have HB := HB'
  clear HB'
  have HC := HC'
  clear HC'
  go_wp2_with fail
  refine (HM.out _ HC.out).mono ?_
  rintro e w3' ⟨rfl, rfl⟩
  go_wp2_with fail
  go_ret
  exact ⟨rfl, HZZ.out⟩
set_option maxHeartbeats 4000000 in
set_option maxRecDepth 100000 in
theorem rises_n4 (w : World) (va vb vc : Value) (n : Nat) (A B : MatP.T) (m : Nat) (C : MatP.T) (i k : Int) (h1 : 1 ≤ n) (h8 : n ≤ 8) (hbA : MatP.Bd A) (hbB : MatP.Bd B) (hm1 : 1 ≤ m) (hm8 : m ≤ 8) (hbC : MatP.Bd C) (ha : ArgR w va (rowsN n A)) (hb : ArgR w vb (rowsN n B)) (hc : ArgR w vc (rowsN m C)) (hg : m = n ∧ 0 ≤ i ∧ i < n ∧ 0 ≤ k ∧ (n : Int) ≤ k) :
    Calls Try.prog 6 #[va, vb, vc, .int .i64 i, .int .i64 k] w fun e w' => e = .returned (.bool true) ∧ Below w.heap.size w w' := by
  obtain ⟨pa, ca, rfl⟩ := tab_form ha
  obtain ⟨pc, cc, rfl⟩ := tab_form hc
  have HA := Lib.hid (ha)
  have HB := Lib.hid (hb)
  have HC := Lib.hid (hc)
  have HbA := Lib.hid hbA; have HbB := Lib.hid hbB
  clear ha hb hbA hbB
  have HM := Lib.hid (fun w1 (h1 : ArgR w1 (.slice pc m cc) (rowsN m C)) => matCheck_any w1 (.slice pc m cc) (rowsN m C) h1)
  rw [mat_rows hm1 hm8 hbC, show errV 0 = Value.nilIface from rfl] at HM
  have HbC := Lib.hid hbC
  clear hc hbC
  have t1 : ¬ (i < 0) := by omega
  have t2 : ¬ ((m : Int) ≤ i) := by omega
  have t3 : ¬ (k < 0) := by omega
  have t4 : (m : Int) ≤ k := by omega
  obtain ⟨rfl, -⟩ := hg
  have HZZ : Hid (Below w.heap.size w w) := Lib.hid (Below.refl _ _)
  go_enter Try.func6, Try.ntmps6
  go_wp2_with fail
  refine (one_yes w 1 (by decide) (by decide)).mono ?_
  rintro e w1 ⟨g0, _, rfl, _, hb1⟩
  have HA' := Lib.hid (HA.out.below hb1)
  have HB' := Lib.hid (HB.out.below hb1)
  have HC' := Lib.hid (HC.out.below hb1)
  have HZZ' := Lib.hid (Below.two HZZ.out hb1)
  clear hb1 HZZ HA HB HC
  have HZZ := HZZ'
  clear HZZ'
  have HA := HA'
  clear HA'
  have HB := HB'
  clear HB'
  have HC := HC'
  clear HC'
  go_wp2_with fail
  refine (mul_ok w1 _ _ m A B hm1 hm8 HbA.out HbB.out HA.out HB.out).mono ?_
  rintro e w2 ⟨g1, _, rfl, _, hb2⟩
  have HA' := Lib.hid (HA.out.below hb2)
  have HB' := Lib.hid (HB.out.below hb2)
  have HC' := Lib.hid (HC.out.below hb2)
  have HZZ' := Lib.hid (Below.two HZZ.out hb2)
  clear hb2 HZZ HA HB HC
  have HZZ := HZZ'
  clear HZZ'
  have HA := HA'
  clear HA'
  have HB := HB'
  clear HB'
  have HC := HC'
  clear HC'
  go_wp2_with fail
  refine (HM.out _ HC.out).mono ?_
  rintro e w3' ⟨rfl, rfl⟩
  go_wp2_with fail
  go_ret
  exact ⟨rfl, HZZ.out⟩
set_option maxHeartbeats 4000000 in
set_option maxRecDepth 100000 in
theorem rises_2 (w : World) (va vb vc : Value) (n : Nat) (A B : MatP.T) (C : MatP.T) (i k : Nat) (hi : i < n) (hk : k < n) (h1 : 1 ≤ n) (h8 : n ≤ 8) (hbA : MatP.Bd A) (hbB : MatP.Bd B) (hbC : MatP.Bd C) (ha : ArgR w va (rowsN n A)) (hb : ArgR w vb (rowsN n B)) (hc : ArgR w vc (rowsN n C)) :
    Calls Try.prog 6 #[va, vb, vc, .int .i64 (i : Int), .int .i64 (k : Int)] w fun e w' => e = .returned (.bool true) ∧ Below w.heap.size w w' := by
  obtain ⟨pa, ca, rfl⟩ := tab_form ha
  obtain ⟨pc, cc, rfl⟩ := tab_form hc
  have HA := Lib.hid (ha)
  have HB := Lib.hid (hb)
  have HC := Lib.hid (hc)
  have HbA := Lib.hid hbA; have HbB := Lib.hid hbB
  clear ha hb hbA hbB
  have HM := Lib.hid (fun w1 (h1 : ArgR w1 (.slice pc n cc) (rowsN n C)) => matCheck_any w1 (.slice pc n cc) (rowsN n C) h1)
  rw [mat_rows h1 h8 hbC, show errV 0 = Value.nilIface from rfl] at HM
  have HbC := Lib.hid hbC
  clear hc hbC
  have t1 : ¬ ((i : Int) < 0) := by omega
  have t2 : ¬ ((n : Int) ≤ (i : Int)) := by omega
  have t3 : ¬ ((k : Int) < 0) := by omega
  have t4 : ¬ ((n : Int) ≤ (k : Int)) := by omega
  have HZZ : Hid (Below w.heap.size w w) := Lib.hid (Below.refl _ _)
  go_enter Try.func6, Try.ntmps6
  go_wp2_with fail
  refine (one_yes w 1 (by decide) (by decide)).mono ?_
  rintro e w1 ⟨g0, _, rfl, _, hb1⟩
  have HA' := Lib.hid (HA.out.below hb1)
  have HB' := Lib.hid (HB.out.below hb1)
  have HC' := Lib.hid (HC.out.below hb1)
  have HZZ' := Lib.hid (Below.two HZZ.out hb1)
  clear hb1 HZZ HA HB HC
  have HZZ := HZZ'
  clear HZZ'
  have HA := HA'
  clear HA'
  have HB := HB'
  clear HB'
  have HC := HC'
  clear HC'
  go_wp2_with fail
  refine (mul_ok w1 _ _ n A B h1 h8 HbA.out HbB.out HA.out HB.out).mono ?_
  rintro e w2 ⟨g1, _, rfl, hG, hb2⟩
  have HA' := Lib.hid (HA.out.below hb2)
  have HB' := Lib.hid (HB.out.below hb2)
  have HC' := Lib.hid (HC.out.below hb2)
  have HZZ' := Lib.hid (Below.two HZZ.out hb2)
  have HX := Lib.hid (hG)
  clear hb2 HZZ HA HB HC
  have HZZ := HZZ'
  clear HZZ'
  have HA := HA'
  clear HA'
  have HB := HB'
  clear HB'
  have HC := HC'
  clear HC'
  clear hG
  go_wp2_with fail
  refine (HM.out _ HC.out).mono ?_
  rintro e w3' ⟨rfl, rfl⟩
  go_wp2_with fail
  clear t1 t2 t3 t4 HM
  refine (leastOf_any w2 _ _ n A C h1 h8 HA.out HC.out).mono ?_
  rintro e w4 ⟨vl, rfl, hO, hb4⟩
  have HA' := Lib.hid (HA.out.below hb4)
  have HB' := Lib.hid (HB.out.below hb4)
  have HC' := Lib.hid (HC.out.below hb4)
  have HX' := Lib.hid (HX.out.keep hb4)
  have HZZ' := Lib.hid (Below.two HZZ.out hb4)
  have HL := Lib.hid (hO.arg)
  clear hb4 HZZ HA HB HC HX
  have HZZ := HZZ'
  clear HZZ'
  have HA := HA'
  clear HA'
  have HB := HB'
  clear HB'
  have HC := HC'
  clear HC'
  have HX := HX'
  clear HX'
  clear hO
  have HbL : Hid (MatP.Bd (MatP.min2 A C)) := Lib.hid (MatP.min2_bd HbA.out)
  go_wp2_with fail
  refine (mul_ok w4 _ _ n (MatP.min2 A C) B h1 h8 HbL.out HbB.out HL.out HB.out).mono ?_
  rintro e w5 ⟨g2, _, rfl, hG, hb5⟩
  have HA' := Lib.hid (HA.out.below hb5)
  have HB' := Lib.hid (HB.out.below hb5)
  have HC' := Lib.hid (HC.out.below hb5)
  have HX' := Lib.hid (HX.out.keep hb5)
  have HL' := Lib.hid (HL.out.below hb5)
  have HZZ' := Lib.hid (Below.two HZZ.out hb5)
  have HY := Lib.hid (hG)
  clear hb5 HZZ HA HB HC HX HL
  have HZZ := HZZ'
  clear HZZ'
  have HA := HA'
  clear HA'
  have HB := HB'
  clear HB'
  have HC := HC'
  clear HC'
  have HX := HX'
  clear HX'
  have HL := HL'
  clear HL'
  clear hG
  go_wp2_with fail
  refine (mul_ok w5 _ _ n B A h1 h8 HbB.out HbA.out HB.out HA.out).mono ?_
  rintro e w6 ⟨g3, _, rfl, hG, hb6⟩
  have HA' := Lib.hid (HA.out.below hb6)
  have HB' := Lib.hid (HB.out.below hb6)
  have HC' := Lib.hid (HC.out.below hb6)
  have HX' := Lib.hid (HX.out.keep hb6)
  have HL' := Lib.hid (HL.out.below hb6)
  have HY' := Lib.hid (HY.out.keep hb6)
  have HZZ' := Lib.hid (Below.two HZZ.out hb6)
  have HZ := Lib.hid (hG)
  clear hb6 HZZ HA HB HC HX HL HY
  have HZZ := HZZ'
  clear HZZ'
  have HA := HA'
  clear HA'
  have HB := HB'
  clear HB'
  have HC := HC'
  clear HC'
  have HX := HX'
  clear HX'
  have HL := HL'
  clear HL'
  have HY := HY'
  clear HY'
  clear hG
  go_wp2_with fail
  refine (mul_ok w6 _ _ n B (MatP.min2 A C) h1 h8 HbB.out HbL.out HB.out HL.out).mono ?_
  rintro e w7 ⟨g4, _, rfl, hG, hb7⟩
  have HA' := Lib.hid (HA.out.below hb7)
  have HB' := Lib.hid (HB.out.below hb7)
  have HC' := Lib.hid (HC.out.below hb7)
  have HX' := Lib.hid (HX.out.keep hb7)
  have HL' := Lib.hid (HL.out.below hb7)
  have HY' := Lib.hid (HY.out.keep hb7)
  have HZ' := Lib.hid (HZ.out.keep hb7)
  have HZZ' := Lib.hid (Below.two HZZ.out hb7)
  have HW := Lib.hid (hG)
  clear hb7 HZZ HA HB HC HX HL HY HZ
  have HZZ := HZZ'
  clear HZZ'
  have HA := HA'
  clear HA'
  have HB := HB'
  clear HB'
  have HC := HC'
  clear HC'
  have HX := HX'
  clear HX'
  have HL := HL'
  clear HL'
  have HY := HY'
  clear HY'
  have HZ := HZ'
  clear HZ'
  clear hG
  have x0 := HX.out.o i hi
  have x1 := HX.out.e i hi k hk
  have y0 := HY.out.o i hi
  have y1 := HY.out.e i hi k hk
  have z0 := HZ.out.o i hi
  have z1 := HZ.out.e i hi k hk
  have v0 := HW.out.o i hi
  have v1 := HW.out.e i hi k hk
  have hl : ∀ i j, MatP.min2 A C i j ≤ A i j := fun i j => by simp only [MatP.min2, MatP.least_eq]; omega
  have e1 : (MatP.mul n (MatP.min2 A C) B i k : Int) ≤ (MatP.mul n A B i k : Int) := by
    have := MatP.mul_mono (n := n) (A := MatP.min2 A C) (A' := A) (B := B) (B' := B) i k (fun j _ => hl i j) (fun j _ => Nat.le_refl _)
    omega
  have e2 : (MatP.mul n B (MatP.min2 A C) i k : Int) ≤ (MatP.mul n B A i k : Int) := by
    have := MatP.mul_mono (n := n) (A := B) (A' := B) (B := MatP.min2 A C) (B' := A) i k (fun j _ => Nat.le_refl _) (fun j _ => hl j k)
    omega
  clear HA HB HC HX HL HY HZ HW hl
  generalize (MatP.mul n A B i k : Int) = x at x1 e1
  generalize (MatP.mul n (MatP.min2 A C) B i k : Int) = y at y1 e1
  generalize (MatP.mul n B A i k : Int) = z at z1 e2
  generalize (MatP.mul n B (MatP.min2 A C) i k : Int) = v at v1 e2
  go_wp2_with fail
  go_still (by kernel_rfl)
  go_wp2_with fail
  go_ret
  exact ⟨rfl, HZZ.out.drew⟩
theorem matRises_walk (w : World) (va vb vc : Value) (i k : Int) (M N O : List (List Int)) (ha : ArgR w va M) (hb : ArgR w vb N) (hc : ArgR w vc O) :
    Calls Try.prog 6 #[va, vb, vc, .int .i64 i, .int .i64 k] w fun e w' => e = .returned (.bool true) ∧ Below w.heap.size w w' := by
  by_cases hg : mulBad M N = 0
  · obtain ⟨n, A, B, h1, h8, hA, hB, rfl, rfl⟩ := mul_tab hg
    by_cases ho : matBad O = 0
    · obtain ⟨m, C, m1, m8, hC, rfl⟩ := mat_tab ho
      by_cases e : m = n
      · by_cases c0 : i < 0
        · exact rises_n1 w va vb vc n A B m C i k h1 h8 hA hB m1 m8 hC ha hb hc ⟨e, c0⟩
        by_cases c1 : (n : Int) ≤ i
        · exact rises_n2 w va vb vc n A B m C i k h1 h8 hA hB m1 m8 hC ha hb hc ⟨e, by omega, c1⟩
        by_cases c2 : k < 0
        · exact rises_n3 w va vb vc n A B m C i k h1 h8 hA hB m1 m8 hC ha hb hc ⟨e, by omega, by omega, c2⟩
        by_cases c3 : (n : Int) ≤ k
        · exact rises_n4 w va vb vc n A B m C i k h1 h8 hA hB m1 m8 hC ha hb hc ⟨e, by omega, by omega, by omega, c3⟩
        obtain ⟨i, rfl⟩ := Int.eq_ofNat_of_zero_le (show 0 ≤ i by omega)
        obtain ⟨k, rfl⟩ := Int.eq_ofNat_of_zero_le (show 0 ≤ k by omega)
        subst e
        exact rises_2 w va vb vc m A B C i k (by omega) (by omega) h1 h8 hA hB hC ha hb hc
      · exact rises_n0 w va vb vc n A B m C i k h1 h8 hA hB m1 m8 hC ha hb hc e
    · exact rises_1 w va vb vc n A B O i k h1 h8 hA hB ha hb hc ho
  · exact rises_0 w va vb vc M N i k ha hb hg
end Go.Proofs.Ytobfidlfgdlilaa
