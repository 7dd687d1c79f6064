/-
  The law MatLaws at every three tables: it tells true; what lay in memory stays.
-/
import Derived.Test.YtobfidlfgdlilaaMatTabled
import Derived.Test.YtobfidlfgdlilaaMatMul
import Derived.Test.YtobfidlfgdlilaaMatRes
namespace Go.Proofs.Ytobfidlfgdlilaa
open Go.RowKit Go.Lib

set_option maxHeartbeats 2000000 in
set_option maxRecDepth 100000 in
theorem laws_1 (w : World) (va vb vc : Value) (M N O : List (List Int)) (ha : ArgR w va M) (hb : ArgR w vb N) (hc : ArgR w vc O) (hg : mulBad M N ≠ 0) :
    Calls Try.prog 3 #[va, vb, vc] w fun e w' => e = .returned (.bool true) ∧ Below w.heap.size w w' := by
  have HA := Lib.hid (ha)
  have HB := Lib.hid (hb)
  have HC := Lib.hid (hc)
  have hE : errV (mulBad M N) = .iface 42 (.int .i64 (mulBad M N)) := if_neg hg
  have HM := Lib.hid (fun w1 (h1 : ArgR w1 va M) (h2 : ArgR w1 vb N) => mul_bad w1 va vb M N h1 h2 hg)
  rw [hE] at HM
  clear hE ha hb hc hg
  generalize mulBad M N = q at HM
  have HZZ : Hid (Below w.heap.size w w) := Lib.hid (Below.refl _ _)
  go_enter Try.func3, Try.ntmps3
  go_wp2_with fail
  refine (tabled_any w).mono ?_
  rintro e w1 ⟨rfl, hb1⟩
  have HA' := Lib.hid (HA.out.below hb1)
  have HB' := Lib.hid (HB.out.below hb1)
  have HC' := Lib.hid (HC.out.below hb1)
  have HZZ' := Lib.hid (Below.two HZZ.out hb1)
  clear hb1 HZZ HA HB HC
  have HZZ := HZZ'
  clear HZZ'
  have HA := HA'
  clear HA'
  have HB := HB'
  clear HB'
  have HC := HC'
  clear HC'
  go_wp2_with fail
  refine (HM.out _ HA.out HB.out).mono ?_
  rintro e w2' ⟨rfl, rfl⟩
  go_wp2_with fail
  refine (mul_res w1 vb vc N O HB.out HC.out).mono ?_
  rintro e w3 ⟨u, x, rfl, hb3⟩
  have HA' := Lib.hid (HA.out.below hb3)
  have HB' := Lib.hid (HB.out.below hb3)
  have HC' := Lib.hid (HC.out.below hb3)
  have HZZ' := Lib.hid (Below.two HZZ.out hb3)
  clear hb3 HZZ HA HB HC
  have HZZ := HZZ'
  clear HZZ'
  have HA := HA'
  clear HA'
  have HB := HB'
  clear HB'
  have HC := HC'
  clear HC'
  go_wp2_with fail
  go_ret
  exact ⟨rfl, HZZ.out⟩
set_option maxHeartbeats 2000000 in
set_option maxRecDepth 100000 in
theorem laws_2 (w : World) (va vb vc : Value) (n : Nat) (A B : MatP.T) (O : List (List Int)) (h1 : 1 ≤ n) (h8 : n ≤ 8) (hbA : MatP.Bd A) (hbB : MatP.Bd B) (ha : ArgR w va (rowsN n A)) (hb : ArgR w vb (rowsN n B)) (hc : ArgR w vc O) (hg : mulBad (rowsN n B) O ≠ 0) :
    Calls Try.prog 3 #[va, vb, vc] w fun e w' => e = .returned (.bool true) ∧ Below w.heap.size w w' := by
  have HA := Lib.hid (ha)
  have HB := Lib.hid (hb)
  have HC := Lib.hid (hc)
  have hE : errV (mulBad (rowsN n B) O) = .iface 42 (.int .i64 (mulBad (rowsN n B) O)) := if_neg hg
  have HM := Lib.hid (fun w1 (h1 : ArgR w1 vb (rowsN n B)) (h2 : ArgR w1 vc O) => mul_bad w1 vb vc _ O h1 h2 hg)
  rw [hE] at HM
  have HbA := Lib.hid hbA; have HbB := Lib.hid hbB
  clear hE ha hb hc hg hbA hbB
  generalize mulBad (rowsN n B) O = q at HM
  have HZZ : Hid (Below w.heap.size w w) := Lib.hid (Below.refl _ _)
  go_enter Try.func3, Try.ntmps3
  go_wp2_with fail
  refine (tabled_any w).mono ?_
  rintro e w1 ⟨rfl, hb1⟩
  have HA' := Lib.hid (HA.out.below hb1)
  have HB' := Lib.hid (HB.out.below hb1)
  have HC' := Lib.hid (HC.out.below hb1)
  have HZZ' := Lib.hid (Below.two HZZ.out hb1)
  clear hb1 HZZ HA HB HC
  have HZZ := HZZ'
  clear HZZ'
  have HA := HA'
  clear HA'
  have HB := HB'
  clear HB'
  have HC := HC'
  clear HC'
  go_wp2_with fail
  refine (mul_ok w1 va vb n A B h1 h8 HbA.out HbB.out HA.out HB.out).mono ?_
  rintro e w2 ⟨g1, _, rfl, _, hb2⟩
  have HA' := Lib.hid (HA.out.below hb2)
  have HB' := Lib.hid (HB.out.below hb2)
  have HC' := Lib.hid (HC.out.below hb2)
  have HZZ' := Lib.hid (Below.two HZZ.out hb2)
  clear hb2 HZZ HA HB HC
  have HZZ := HZZ'
  clear HZZ'
  have HA := HA'
  clear HA'
  have HB := HB'
  clear HB'
  have HC := HC'
  clear HC'
  go_wp2_with fail
  refine (HM.out _ HB.out HC.out).mono ?_
  rintro e w3' ⟨rfl, rfl⟩
  go_wp2_with fail
  go_ret
  exact ⟨rfl, HZZ.out⟩
set_option maxHeartbeats 2000000 in
set_option maxRecDepth 100000 in
theorem laws_3 (w : World) (va vb vc : Value) (n : Nat) (A B C : MatP.T) (h1 : 1 ≤ n) (h8 : n ≤ 8) (hbA : MatP.Bd A) (hbB : MatP.Bd B) (hbC : MatP.Bd C) (ha : ArgR w va (rowsN n A)) (hb : ArgR w vb (rowsN n B)) (hc : ArgR w vc (rowsN n C)) :
    Calls Try.prog 3 #[va, vb, vc] w fun e w' => e = .returned (.bool true) ∧ Below w.heap.size w w' := by
  obtain ⟨pa, ca, rfl⟩ := tab_form ha
  have HA := Lib.hid (ha)
  have HB := Lib.hid (hb)
  have HC := Lib.hid (hc)
  have HbA := Lib.hid hbA; have HbB := Lib.hid hbB; have HbC := Lib.hid hbC
  clear ha hb hc hbA hbB hbC
  have HZZ : Hid (Below w.heap.size w w) := Lib.hid (Below.refl _ _)
  go_enter Try.func3, Try.ntmps3
  go_wp2_with fail
  refine (tabled_any w).mono ?_
  rintro e w1 ⟨rfl, hb1⟩
  have HA' := Lib.hid (HA.out.below hb1)
  have HB' := Lib.hid (HB.out.below hb1)
  have HC' := Lib.hid (HC.out.below hb1)
  have HZZ' := Lib.hid (Below.two HZZ.out hb1)
  clear hb1 HZZ HA HB HC
  have HZZ := HZZ'
  clear HZZ'
  have HA := HA'
  clear HA'
  have HB := HB'
  clear HB'
  have HC := HC'
  clear HC'
  go_wp2_with fail
  refine (mul_ok w1 _ _ n _ _ h1 h8 HbA.out HbB.out HA.out HB.out).mono ?_
  rintro e w2 ⟨g1, _, rfl, hG, hb2⟩
  have HA' := Lib.hid (HA.out.below hb2)
  have HB' := Lib.hid (HB.out.below hb2)
  have HC' := Lib.hid (HC.out.below hb2)
  have HZZ' := Lib.hid (Below.two HZZ.out hb2)
  have HAB := Lib.hid (show ArgR _ _ (rowsN n _) from hG.arg)
  clear hb2 HZZ HA HB HC
  have HZZ := HZZ'
  clear HZZ'
  have HA := HA'
  clear HA'
  have HB := HB'
  clear HB'
  have HC := HC'
  clear HC'
  clear hG
  go_wp2_with fail
  refine (mul_ok w2 _ _ n _ _ h1 h8 HbB.out HbC.out HB.out HC.out).mono ?_
  rintro e w3 ⟨g2, _, rfl, hG, hb3⟩
  have HA' := Lib.hid (HA.out.below hb3)
  have HB' := Lib.hid (HB.out.below hb3)
  have HC' := Lib.hid (HC.out.below hb3)
  have HAB' := Lib.hid (HAB.out.below hb3)
  have HZZ' := Lib.hid (Below.two HZZ.out hb3)
  have HBC := Lib.hid (show ArgR _ _ (rowsN n _) from hG.arg)
  clear hb3 HZZ HA HB HC HAB
  have HZZ := HZZ'
  clear HZZ'
  have HA := HA'
  clear HA'
  have HB := HB'
  clear HB'
  have HC := HC'
  clear HC'
  have HAB := HAB'
  clear HAB'
  clear hG
  go_wp2_with fail
  refine (mul_ok w3 _ _ n _ _ h1 h8 (MatP.mul_bd n _ _) HbC.out HAB.out HC.out).mono ?_
  rintro e w4 ⟨g3, _, rfl, hG, hb4⟩
  have HA' := Lib.hid (HA.out.below hb4)
  have HB' := Lib.hid (HB.out.below hb4)
  have HC' := Lib.hid (HC.out.below hb4)
  have HAB' := Lib.hid (HAB.out.below hb4)
  have HBC' := Lib.hid (HBC.out.below hb4)
  have HZZ' := Lib.hid (Below.two HZZ.out hb4)
  have HX := Lib.hid (show ArgR _ _ (rowsN n _) from hG.arg)
  clear hb4 HZZ HA HB HC HAB HBC
  have HZZ := HZZ'
  clear HZZ'
  have HA := HA'
  clear HA'
  have HB := HB'
  clear HB'
  have HC := HC'
  clear HC'
  have HAB := HAB'
  clear HAB'
  have HBC := HBC'
  clear HBC'
  clear hG
  go_wp2_with fail
  refine (mul_ok w4 _ _ n _ _ h1 h8 HbA.out (MatP.mul_bd n _ _) HA.out HBC.out).mono ?_
  rintro e w5 ⟨g4, _, rfl, hG, hb5⟩
  have HA' := Lib.hid (HA.out.below hb5)
  have HB' := Lib.hid (HB.out.below hb5)
  have HC' := Lib.hid (HC.out.below hb5)
  have HAB' := Lib.hid (HAB.out.below hb5)
  have HBC' := Lib.hid (HBC.out.below hb5)
  have HX' := Lib.hid (HX.out.below hb5)
  have HZZ' := Lib.hid (Below.two HZZ.out hb5)
  have HY := Lib.hid (show ArgR _ _ (rowsN n _) from hG.arg)
  clear hb5 HZZ HA HB HC HAB HBC HX
  have HZZ := HZZ'
  clear HZZ'
  have HA := HA'
  clear HA'
  have HB := HB'
  clear HB'
  have HC := HC'
  clear HC'
  have HAB := HAB'
  clear HAB'
  have HBC := HBC'
  clear HBC'
  have HX := HX'
  clear HX'
  clear hG
  go_wp2_with fail
  refine (one_yes w5 n h1 h8).mono ?_
  rintro e w6 ⟨g5, _, rfl, hG, hb6⟩
  have HA' := Lib.hid (HA.out.below hb6)
  have HB' := Lib.hid (HB.out.below hb6)
  have HC' := Lib.hid (HC.out.below hb6)
  have HAB' := Lib.hid (HAB.out.below hb6)
  have HBC' := Lib.hid (HBC.out.below hb6)
  have HX' := Lib.hid (HX.out.below hb6)
  have HY' := Lib.hid (HY.out.below hb6)
  have HZZ' := Lib.hid (Below.two HZZ.out hb6)
  have HU := Lib.hid (show ArgR _ _ (rowsN n _) from hG.arg)
  clear hb6 HZZ HA HB HC HAB HBC HX HY
  have HZZ := HZZ'
  clear HZZ'
  have HA := HA'
  clear HA'
  have HB := HB'
  clear HB'
  have HC := HC'
  clear HC'
  have HAB := HAB'
  clear HAB'
  have HBC := HBC'
  clear HBC'
  have HX := HX'
  clear HX'
  have HY := HY'
  clear HY'
  clear hG
  go_wp2_with fail
  refine (mul_ok w6 _ _ n _ _ h1 h8 MatP.one_bd HbA.out HU.out HA.out).mono ?_
  rintro e w7 ⟨g6, _, rfl, hG, hb7⟩
  have HA' := Lib.hid (HA.out.below hb7)
  have HB' := Lib.hid (HB.out.below hb7)
  have HC' := Lib.hid (HC.out.below hb7)
  have HAB' := Lib.hid (HAB.out.below hb7)
  have HBC' := Lib.hid (HBC.out.below hb7)
  have HX' := Lib.hid (HX.out.below hb7)
  have HY' := Lib.hid (HY.out.below hb7)
  have HU' := Lib.hid (HU.out.below hb7)
  have HZZ' := Lib.hid (Below.two HZZ.out hb7)
  have HP := Lib.hid (show ArgR _ _ (rowsN n _) from hG.arg)
  clear hb7 HZZ HA HB HC HAB HBC HX HY HU
  have HZZ := HZZ'
  clear HZZ'
  have HA := HA'
  clear HA'
  have HB := HB'
  clear HB'
  have HC := HC'
  clear HC'
  have HAB := HAB'
  clear HAB'
  have HBC := HBC'
  clear HBC'
  have HX := HX'
  clear HX'
  have HY := HY'
  clear HY'
  have HU := HU'
  clear HU'
  clear hG
  go_wp2_with fail
  refine (mul_ok w7 _ _ n _ _ h1 h8 HbA.out MatP.one_bd HA.out HU.out).mono ?_
  rintro e w8 ⟨g7, _, rfl, hG, hb8⟩
  have HA' := Lib.hid (HA.out.below hb8)
  have HB' := Lib.hid (HB.out.below hb8)
  have HC' := Lib.hid (HC.out.below hb8)
  have HAB' := Lib.hid (HAB.out.below hb8)
  have HBC' := Lib.hid (HBC.out.below hb8)
  have HX' := Lib.hid (HX.out.below hb8)
  have HY' := Lib.hid (HY.out.below hb8)
  have HU' := Lib.hid (HU.out.below hb8)
  have HP' := Lib.hid (HP.out.below hb8)
  have HZZ' := Lib.hid (Below.two HZZ.out hb8)
  have HQ := Lib.hid (show ArgR _ _ (rowsN n _) from hG.arg)
  clear hb8 HZZ HA HB HC HAB HBC HX HY HU HP
  have HZZ := HZZ'
  clear HZZ'
  have HA := HA'
  clear HA'
  have HB := HB'
  clear HB'
  have HC := HC'
  clear HC'
  have HAB := HAB'
  clear HAB'
  have HBC := HBC'
  clear HBC'
  have HX := HX'
  clear HX'
  have HY := HY'
  clear HY'
  have HU := HU'
  clear HU'
  have HP := HP'
  clear HP'
  clear hG
  have HS := sameRows_any w8 _ _ _ _ (by rw [rowsN_len]; omega) (fun r hr => by rw [rowsN_row _ _ r hr]; omega) HX.out HY.out
  rw [decide_eq_true (rowsN_congr fun i k _ _ => MatP.mul_assoc n A B C i k)] at HS
  have HS := Lib.hid HS
  go_wp2_with fail
  refine (HS.out).mono ?_
  rintro e w9 ⟨rfl, hb9⟩
  have HA' := Lib.hid (HA.out.below hb9)
  have HB' := Lib.hid (HB.out.below hb9)
  have HC' := Lib.hid (HC.out.below hb9)
  have HAB' := Lib.hid (HAB.out.below hb9)
  have HBC' := Lib.hid (HBC.out.below hb9)
  have HX' := Lib.hid (HX.out.below hb9)
  have HY' := Lib.hid (HY.out.below hb9)
  have HU' := Lib.hid (HU.out.below hb9)
  have HP' := Lib.hid (HP.out.below hb9)
  have HQ' := Lib.hid (HQ.out.below hb9)
  have HZZ' := Lib.hid (Below.two HZZ.out hb9)
  clear hb9 HZZ HA HB HC HAB HBC HX HY HU HP HQ
  have HZZ := HZZ'
  clear HZZ'
  have HA := HA'
  clear HA'
  have HB := HB'
  clear HB'
  have HC := HC'
  clear HC'
  have HAB := HAB'
  clear HAB'
  have HBC := HBC'
  clear HBC'
  have HX := HX'
  clear HX'
  have HY := HY'
  clear HY'
  have HU := HU'
  clear HU'
  have HP := HP'
  clear HP'
  have HQ := HQ'
  clear HQ'
  clear HS
  have HS := sameRows_any w9 _ _ _ _ (by rw [rowsN_len]; omega) (fun r hr => by rw [rowsN_row _ _ r hr]; omega) HP.out HA.out
  rw [decide_eq_true (rowsN_congr fun i k hi _ => MatP.one_mul HbA.out i k hi)] at HS
  have HS := Lib.hid HS
  go_wp2_with fail
  refine (HS.out).mono ?_
  rintro e w10 ⟨rfl, hb10⟩
  have HA' := Lib.hid (HA.out.below hb10)
  have HB' := Lib.hid (HB.out.below hb10)
  have HC' := Lib.hid (HC.out.below hb10)
  have HAB' := Lib.hid (HAB.out.below hb10)
  have HBC' := Lib.hid (HBC.out.below hb10)
  have HX' := Lib.hid (HX.out.below hb10)
  have HY' := Lib.hid (HY.out.below hb10)
  have HU' := Lib.hid (HU.out.below hb10)
  have HP' := Lib.hid (HP.out.below hb10)
  have HQ' := Lib.hid (HQ.out.below hb10)
  have HZZ' := Lib.hid (Below.two HZZ.out hb10)
  clear hb10 HZZ HA HB HC HAB HBC HX HY HU HP HQ
  have HZZ := HZZ'
  clear HZZ'
  have HA := HA'
  clear HA'
  have HB := HB'
  clear HB'
  have HC := HC'
  clear HC'
  have HAB := HAB'
  clear HAB'
  have HBC := HBC'
  clear HBC'
  have HX := HX'
  clear HX'
  have HY := HY'
  clear HY'
  have HU := HU'
  clear HU'
  have HP := HP'
  clear HP'
  have HQ := HQ'
  clear HQ'
  clear HS
  have HS := sameRows_any w10 _ _ _ _ (by rw [rowsN_len]; omega) (fun r hr => by rw [rowsN_row _ _ r hr]; omega) HQ.out HA.out
  rw [decide_eq_true (rowsN_congr fun i k _ hk => MatP.mul_one HbA.out i k hk)] at HS
  have HS := Lib.hid HS
  go_wp2_with fail
  refine (HS.out).mono ?_
  rintro e w11 ⟨rfl, hb11⟩
  have HA' := Lib.hid (HA.out.below hb11)
  have HB' := Lib.hid (HB.out.below hb11)
  have HC' := Lib.hid (HC.out.below hb11)
  have HAB' := Lib.hid (HAB.out.below hb11)
  have HBC' := Lib.hid (HBC.out.below hb11)
  have HX' := Lib.hid (HX.out.below hb11)
  have HY' := Lib.hid (HY.out.below hb11)
  have HU' := Lib.hid (HU.out.below hb11)
  have HP' := Lib.hid (HP.out.below hb11)
  have HQ' := Lib.hid (HQ.out.below hb11)
  have HZZ' := Lib.hid (Below.two HZZ.out hb11)
  clear hb11 HZZ HA HB HC HAB HBC HX HY HU HP HQ
  have HZZ := HZZ'
  clear HZZ'
  have HA := HA'
  clear HA'
  have HB := HB'
  clear HB'
  have HC := HC'
  clear HC'
  have HAB := HAB'
  clear HAB'
  have HBC := HBC'
  clear HBC'
  have HX := HX'
  clear HX'
  have HY := HY'
  clear HY'
  have HU := HU'
  clear HU'
  have HP := HP'
  clear HP'
  have HQ := HQ'
  clear HQ'
  clear HS
  go_wp2_with fail
  go_ret
  exact ⟨rfl, HZZ.out⟩
theorem matLaws_walk (w : World) (va vb vc : Value) (M N O : List (List Int)) (ha : ArgR w va M) (hb : ArgR w vb N) (hc : ArgR w vc O) :
    Calls Try.prog 3 #[va, vb, vc] w fun e w' => e = .returned (.bool true) ∧ Below w.heap.size w w' := by
  by_cases h1 : mulBad M N = 0
  · obtain ⟨n, A, B, g1, g8, gA, gB, rfl, rfl⟩ := mul_tab h1
    by_cases h2 : mulBad (rowsN n B) O = 0
    · obtain ⟨m, B', C, _, _, _, gC, e, rfl⟩ := mul_tab h2
      have e2 := congrArg List.length e
      rw [rowsN_len, rowsN_len] at e2
      subst e2
      exact laws_3 w va vb vc n A B C g1 g8 gA gB gC ha hb hc
    · exact laws_2 w va vb vc n A B O g1 g8 gA gB ha hb hc h2
  · exact laws_1 w va vb vc M N O ha hb hc h1
end Go.Proofs.Ytobfidlfgdlilaa
