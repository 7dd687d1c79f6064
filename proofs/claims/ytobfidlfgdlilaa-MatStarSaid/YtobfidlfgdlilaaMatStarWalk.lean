/-
  The law MatStar at every table and every two numbers: it tells true; what lay in memory stays.
-/
import Derived.Test.YtobfidlfgdlilaaMatTabled
import Derived.Test.YtobfidlfgdlilaaMatStar
import Derived.Test.YtobfidlfgdlilaaMatRes
namespace Go.Proofs.Ytobfidlfgdlilaa
open Go.RowKit Go.Lib

set_option maxHeartbeats 4000000 in
set_option maxRecDepth 100000 in
theorem star_0 (w : World) (va : Value) (M : List (List Int)) (i k : Int) (ha : ArgR w va M) (hg : matBad M ≠ 0) :
    Calls Try.prog 4 #[va, .int .i64 i, .int .i64 k] w fun e w' => e = .returned (.bool true) ∧ Below w.heap.size w w' := by
  have HA := Lib.hid (ha)
  have hE : errV (matBad M) = .iface 42 (.int .i64 (matBad M)) := if_neg hg
  have HM := Lib.hid (fun w1 (h1 : ArgR w1 va M) => star_bad w1 va M h1 hg)
  rw [hE] at HM
  clear hE ha hg
  generalize matBad M = q at HM
  have HZZ : Hid (Below w.heap.size w w) := Lib.hid (Below.refl _ _)
  go_enter Try.func4, Try.ntmps4
  go_wp2_with fail
  refine (tabled_any w).mono ?_
  rintro e w1 ⟨rfl, hb1⟩
  have HA' := Lib.hid (HA.out.below hb1)
  have HZZ' := Lib.hid (Below.two HZZ.out hb1)
  clear hb1 HZZ HA
  have HZZ := HZZ'
  clear HZZ'
  have HA := HA'
  clear HA'
  go_wp2_with fail
  refine (HM.out _ HA.out).mono ?_
  rintro e w2' ⟨rfl, rfl⟩
  go_wp2_with fail
  go_ret
  exact ⟨rfl, HZZ.out⟩
set_option maxHeartbeats 4000000 in
set_option maxRecDepth 100000 in
theorem star_n0 (w : World) (va : Value) (n : Nat) (A : MatP.T) (i k : Int) (h1 : 1 ≤ n) (h8 : n ≤ 8) (hbA : MatP.Bd A) (ha : ArgR w va (rowsN n A)) (hc : i < 0) :
    Calls Try.prog 4 #[va, .int .i64 i, .int .i64 k] w fun e w' => e = .returned (.bool true) ∧ Below w.heap.size w w' := by
  obtain ⟨pa, ca, rfl⟩ := tab_form ha
  have HA := Lib.hid (ha)
  have HbA := Lib.hid hbA
  clear ha hbA

  have HZZ : Hid (Below w.heap.size w w) := Lib.hid (Below.refl _ _)
  go_enter Try.func4, Try.ntmps4
  go_wp2_with fail
  refine (tabled_any w).mono ?_
  rintro e w1 ⟨rfl, hb1⟩
  have HA' := Lib.hid (HA.out.below hb1)
  have HZZ' := Lib.hid (Below.two HZZ.out hb1)
  clear hb1 HZZ HA
  have HZZ := HZZ'
  clear HZZ'
  have HA := HA'
  clear HA'
  go_wp2_with fail
  refine (star_ok w1 _ n A h1 h8 HbA.out HA.out).mono ?_
  rintro e w2 ⟨g1, _, rfl, _, hb2⟩
  have HA' := Lib.hid (HA.out.below hb2)
  have HZZ' := Lib.hid (Below.two HZZ.out hb2)
  clear hb2 HZZ HA
  have HZZ := HZZ'
  clear HZZ'
  have HA := HA'
  clear HA'
  go_wp2_with fail
  go_ret
  exact ⟨rfl, HZZ.out⟩
set_option maxHeartbeats 4000000 in
set_option maxRecDepth 100000 in
theorem star_n1 (w : World) (va : Value) (n : Nat) (A : MatP.T) (i k : Int) (h1 : 1 ≤ n) (h8 : n ≤ 8) (hbA : MatP.Bd A) (ha : ArgR w va (rowsN n A)) (hc : (n : Int) ≤ i) :
    Calls Try.prog 4 #[va, .int .i64 i, .int .i64 k] w fun e w' => e = .returned (.bool true) ∧ Below w.heap.size w w' := by
  obtain ⟨pa, ca, rfl⟩ := tab_form ha
  have HA := Lib.hid (ha)
  have HbA := Lib.hid hbA
  clear ha hbA
  have h0 : ¬ (i < 0) := by omega
  have HZZ : Hid (Below w.heap.size w w) := Lib.hid (Below.refl _ _)
  go_enter Try.func4, Try.ntmps4
  go_wp2_with fail
  refine (tabled_any w).mono ?_
  rintro e w1 ⟨rfl, hb1⟩
  have HA' := Lib.hid (HA.out.below hb1)
  have HZZ' := Lib.hid (Below.two HZZ.out hb1)
  clear hb1 HZZ HA
  have HZZ := HZZ'
  clear HZZ'
  have HA := HA'
  clear HA'
  go_wp2_with fail
  refine (star_ok w1 _ n A h1 h8 HbA.out HA.out).mono ?_
  rintro e w2 ⟨g1, _, rfl, _, hb2⟩
  have HA' := Lib.hid (HA.out.below hb2)
  have HZZ' := Lib.hid (Below.two HZZ.out hb2)
  clear hb2 HZZ HA
  have HZZ := HZZ'
  clear HZZ'
  have HA := HA'
  clear HA'
  go_wp2_with fail
  go_ret
  exact ⟨rfl, HZZ.out⟩
set_option maxHeartbeats 4000000 in
set_option maxRecDepth 100000 in
theorem star_n2 (w : World) (va : Value) (n : Nat) (A : MatP.T) (i k : Int) (h1 : 1 ≤ n) (h8 : n ≤ 8) (hbA : MatP.Bd A) (ha : ArgR w va (rowsN n A)) (hc : 0 ≤ i ∧ i < n ∧ k < 0) :
    Calls Try.prog 4 #[va, .int .i64 i, .int .i64 k] w fun e w' => e = .returned (.bool true) ∧ Below w.heap.size w w' := by
  obtain ⟨pa, ca, rfl⟩ := tab_form ha
  have HA := Lib.hid (ha)
  have HbA := Lib.hid hbA
  clear ha hbA
  have h0 : ¬ (i < 0) := by omega
  have h2 : ¬ ((n : Int) ≤ i) := by omega
  have h3 : k < 0 := by omega
  clear hc
  have HZZ : Hid (Below w.heap.size w w) := Lib.hid (Below.refl _ _)
  go_enter Try.func4, Try.ntmps4
  go_wp2_with fail
  refine (tabled_any w).mono ?_
  rintro e w1 ⟨rfl, hb1⟩
  have HA' := Lib.hid (HA.out.below hb1)
  have HZZ' := Lib.hid (Below.two HZZ.out hb1)
  clear hb1 HZZ HA
  have HZZ := HZZ'
  clear HZZ'
  have HA := HA'
  clear HA'
  go_wp2_with fail
  refine (star_ok w1 _ n A h1 h8 HbA.out HA.out).mono ?_
  rintro e w2 ⟨g1, _, rfl, _, hb2⟩
  have HA' := Lib.hid (HA.out.below hb2)
  have HZZ' := Lib.hid (Below.two HZZ.out hb2)
  clear hb2 HZZ HA
  have HZZ := HZZ'
  clear HZZ'
  have HA := HA'
  clear HA'
  go_wp2_with fail
  go_ret
  exact ⟨rfl, HZZ.out⟩
set_option maxHeartbeats 4000000 in
set_option maxRecDepth 100000 in
theorem star_n3 (w : World) (va : Value) (n : Nat) (A : MatP.T) (i k : Int) (h1 : 1 ≤ n) (h8 : n ≤ 8) (hbA : MatP.Bd A) (ha : ArgR w va (rowsN n A)) (hc : 0 ≤ i ∧ i < n ∧ (n : Int) ≤ k) :
    Calls Try.prog 4 #[va, .int .i64 i, .int .i64 k] w fun e w' => e = .returned (.bool true) ∧ Below w.heap.size w w' := by
  obtain ⟨pa, ca, rfl⟩ := tab_form ha
  have HA := Lib.hid (ha)
  have HbA := Lib.hid hbA
  clear ha hbA
  have h0 : ¬ (i < 0) := by omega
  have h2 : ¬ ((n : Int) ≤ i) := by omega
  have h3 : ¬ (k < 0) := by omega
  have h4 : (n : Int) ≤ k := by omega
  clear hc
  have HZZ : Hid (Below w.heap.size w w) := Lib.hid (Below.refl _ _)
  go_enter Try.func4, Try.ntmps4
  go_wp2_with fail
  refine (tabled_any w).mono ?_
  rintro e w1 ⟨rfl, hb1⟩
  have HA' := Lib.hid (HA.out.below hb1)
  have HZZ' := Lib.hid (Below.two HZZ.out hb1)
  clear hb1 HZZ HA
  have HZZ := HZZ'
  clear HZZ'
  have HA := HA'
  clear HA'
  go_wp2_with fail
  refine (star_ok w1 _ n A h1 h8 HbA.out HA.out).mono ?_
  rintro e w2 ⟨g1, _, rfl, _, hb2⟩
  have HA' := Lib.hid (HA.out.below hb2)
  have HZZ' := Lib.hid (Below.two HZZ.out hb2)
  clear hb2 HZZ HA
  have HZZ := HZZ'
  clear HZZ'
  have HA := HA'
  clear HA'
  go_wp2_with fail
  go_ret
  exact ⟨rfl, HZZ.out⟩
set_option maxHeartbeats 4000000 in
set_option maxRecDepth 100000 in
theorem star_1 (w : World) (va : Value) (n : Nat) (A : MatP.T) (i k : Nat) (h1 : 1 ≤ n) (h8 : n ≤ 8) (hi : i < n) (hk : k < n) (hbA : MatP.Bd A) (ha : ArgR w va (rowsN n A)) :
    Calls Try.prog 4 #[va, .int .i64 i, .int .i64 k] w fun e w' => e = .returned (.bool true) ∧ Below w.heap.size w w' := by
  obtain ⟨pa, ca, rfl⟩ := tab_form ha
  have HA := Lib.hid (ha)
  have HbA := Lib.hid hbA
  have HbS := Lib.hid (MatP.fw_bd n A)
  have HST := Lib.hid (MatP.fw_star n A)
  have t1 : ¬ ((i : Int) < 0) := by omega
  have t2 : ¬ ((n : Int) ≤ (i : Int)) := by omega
  have t3 : ¬ ((k : Int) < 0) := by omega
  have t4 : ¬ ((n : Int) ≤ (k : Int)) := by omega
  have HOne := Lib.hid (star_ok (n := n) (A := A) (h1 := h1) (h8 := h8) (hA := hbA))
  generalize MatP.fw n A = S at HbS HST HOne
  clear ha hbA
  have HZZ : Hid (Below w.heap.size w w) := Lib.hid (Below.refl _ _)
  go_enter Try.func4, Try.ntmps4
  go_wp2_with fail
  refine (tabled_any w).mono ?_
  rintro e w1 ⟨rfl, hb1⟩
  have HA' := Lib.hid (HA.out.below hb1)
  have HZZ' := Lib.hid (Below.two HZZ.out hb1)
  clear hb1 HZZ HA
  have HZZ := HZZ'
  clear HZZ'
  have HA := HA'
  clear HA'
  go_wp2_with fail
  refine (HOne.out w1 _ HA.out).mono ?_
  rintro e w2 ⟨g1, _, rfl, hG, hb2⟩
  have HA' := Lib.hid (HA.out.below hb2)
  have HZZ' := Lib.hid (Below.two HZZ.out hb2)
  have HS := Lib.hid (hG)
  clear hb2 HZZ HA
  have HZZ := HZZ'
  clear HZZ'
  have HA := HA'
  clear HA'
  clear hG HOne
  go_wp2_with fail
  clear t1 t2 t3 t4
  refine (mul_ok w2 _ _ n _ _ h1 h8 HbA.out HbS.out HA.out (show ArgR _ _ (rowsN n _) from HS.out.arg)).mono ?_
  rintro e w3 ⟨g2, _, rfl, hG, hb3⟩
  have HA' := Lib.hid (HA.out.below hb3)
  have HS' := Lib.hid (HS.out.keep hb3)
  have HZZ' := Lib.hid (Below.two HZZ.out hb3)
  have HM := Lib.hid (hG)
  clear hb3 HZZ HA HS
  have HZZ := HZZ'
  clear HZZ'
  have HA := HA'
  clear HA'
  have HS := HS'
  clear HS'
  clear hG
  go_wp2_with fail
  refine (one_yes w3 n h1 h8).mono ?_
  rintro e w4 ⟨g3, _, rfl, hG, hb4⟩
  have HA' := Lib.hid (HA.out.below hb4)
  have HS' := Lib.hid (HS.out.keep hb4)
  have HM' := Lib.hid (HM.out.keep hb4)
  have HZZ' := Lib.hid (Below.two HZZ.out hb4)
  have HU := Lib.hid (hG)
  clear hb4 HZZ HA HS HM
  have HZZ := HZZ'
  clear HZZ'
  have HA := HA'
  clear HA'
  have HS := HS'
  clear HS'
  have HM := HM'
  clear HM'
  clear hG
  go_wp2_with fail
  refine (star_ok w4 _ n _ h1 h8 HbS.out (show ArgR _ _ (rowsN n _) from HS.out.arg)).mono ?_
  rintro e w5 ⟨g4, _, rfl, hG, hb5⟩
  have HA' := Lib.hid (HA.out.below hb5)
  have HS' := Lib.hid (HS.out.keep hb5)
  have HM' := Lib.hid (HM.out.keep hb5)
  have HU' := Lib.hid (HU.out.keep hb5)
  have HZZ' := Lib.hid (Below.two HZZ.out hb5)
  have HT := Lib.hid (show ArgR _ _ (rowsN n _) from hG.arg)
  clear hb5 HZZ HA HS HM HU
  have HZZ := HZZ'
  clear HZZ'
  have HA := HA'
  clear HA'
  have HS := HS'
  clear HS'
  have HM := HM'
  clear HM'
  have HU := HU'
  clear HU'
  clear hG
  go_wp2_with fail
  refine (mul_ok w5 _ _ n _ _ h1 h8 HbS.out HbS.out (show ArgR _ _ (rowsN n _) from HS.out.arg) (show ArgR _ _ (rowsN n _) from HS.out.arg)).mono ?_
  rintro e w6 ⟨g5, _, rfl, hG, hb6⟩
  have HA' := Lib.hid (HA.out.below hb6)
  have HS' := Lib.hid (HS.out.keep hb6)
  have HM' := Lib.hid (HM.out.keep hb6)
  have HU' := Lib.hid (HU.out.keep hb6)
  have HT' := Lib.hid (HT.out.below hb6)
  have HZZ' := Lib.hid (Below.two HZZ.out hb6)
  have HP := Lib.hid (show ArgR _ _ (rowsN n _) from hG.arg)
  clear hb6 HZZ HA HS HM HU HT
  have HZZ := HZZ'
  clear HZZ'
  have HA := HA'
  clear HA'
  have HS := HS'
  clear HS'
  have HM := HM'
  clear HM'
  have HU := HU'
  clear HU'
  have HT := HT'
  clear HT'
  clear hG
  have HR := sameRows_any w6 _ _ _ _ (by rw [rowsN_len]; omega) (fun r hr => by rw [rowsN_row _ _ r hr]; omega) HT.out (show ArgR _ _ (rowsN n _) from HS.out.arg)
  rw [decide_eq_true (rowsN_congr fun i k hi hk => (MatP.fw_star n S).same HST.out.again i k hi hk)] at HR
  have HR := Lib.hid HR
  go_wp2_with fail
  refine (HR.out).mono ?_
  rintro e w7 ⟨rfl, hb7⟩
  have HA' := Lib.hid (HA.out.below hb7)
  have HS' := Lib.hid (HS.out.keep hb7)
  have HM' := Lib.hid (HM.out.keep hb7)
  have HU' := Lib.hid (HU.out.keep hb7)
  have HT' := Lib.hid (HT.out.below hb7)
  have HP' := Lib.hid (HP.out.below hb7)
  have HZZ' := Lib.hid (Below.two HZZ.out hb7)
  clear hb7 HZZ HA HS HM HU HT HP
  have HZZ := HZZ'
  clear HZZ'
  have HA := HA'
  clear HA'
  have HS := HS'
  clear HS'
  have HM := HM'
  clear HM'
  have HU := HU'
  clear HU'
  have HT := HT'
  clear HT'
  have HP := HP'
  clear HP'
  clear HR
  clear HT
  have HR := sameRows_any w7 _ _ _ _ (by rw [rowsN_len]; omega) (fun r hr => by rw [rowsN_row _ _ r hr]; omega) HP.out (show ArgR _ _ (rowsN n _) from HS.out.arg)
  rw [decide_eq_true (rowsN_congr fun i k hi hk => HST.out.twice i k hi hk)] at HR
  have HR := Lib.hid HR
  go_wp2_with fail
  refine (HR.out).mono ?_
  rintro e w8 ⟨rfl, hb8⟩
  have HA' := Lib.hid (HA.out.below hb8)
  have HS' := Lib.hid (HS.out.keep hb8)
  have HM' := Lib.hid (HM.out.keep hb8)
  have HU' := Lib.hid (HU.out.keep hb8)
  have HP' := Lib.hid (HP.out.below hb8)
  have HZZ' := Lib.hid (Below.two HZZ.out hb8)
  clear hb8 HZZ HA HS HM HU HP
  have HZZ := HZZ'
  clear HZZ'
  have HA := HA'
  clear HA'
  have HS := HS'
  clear HS'
  have HM := HM'
  clear HM'
  have HU := HU'
  clear HU'
  have HP := HP'
  clear HP'
  clear HR
  clear HP
  obtain ⟨ba, oa, c9, e9, hba, hsa⟩ := tab_arg HA.out h1
  obtain ⟨rfl, -, rfl⟩ : pa = some ⟨ba, oa, none⟩ ∧ n = n ∧ ca = c9 := by simpa using e9
  obtain ⟨b1, o1, c1, a0, -, a1⟩ := tab_row hsa i hi
  replace a1 := a1 k hk
  have s0 := HS.out.o i hi
  have s1 := HS.out.e i hi k hk
  have m0 := HM.out.o i hi
  have m1 := HM.out.e i hi k hk
  have u0 := HU.out.o i hi
  have u1 := HU.out.e i hi k hk
  have e1 : ((S i k : Int) == min (MatP.mul n A S i k : Int) (MatP.one i k : Int)) = true := by
    have := HST.out.step i k hi hk
    rw [beq_iff_eq]; omega
  have e2 : (S i k : Int) ≤ (A i k : Int) := by
    have := HST.out.le i k hi hk
    omega
  clear HA HS HM HU e9 hba hsa HST HbA HbS
  generalize (MatP.mul n A S i k : Int) = x at m1 e1
  generalize (MatP.one i k : Int) = y at u1 e1
  generalize (S i k : Int) = z at s1 e1 e2
  generalize (A i k : Int) = v at a1 e2
  go_wp2_with fail
  go_still (by kernel_rfl)
  go_wp2_with fail
  go_ret
  exact ⟨rfl, HZZ.out.drew⟩
theorem matStar_walk (w : World) (va : Value) (i k : Int) (M : List (List Int)) (ha : ArgR w va M) :
    Calls Try.prog 4 #[va, .int .i64 i, .int .i64 k] w fun e w' => e = .returned (.bool true) ∧ Below w.heap.size w w' := by
  by_cases hg : matBad M = 0
  · obtain ⟨n, A, h1, h8, hA, rfl⟩ := mat_tab hg
    by_cases c0 : i < 0
    · exact star_n0 w va n A i k h1 h8 hA ha c0
    by_cases c1 : (n : Int) ≤ i
    · exact star_n1 w va n A i k h1 h8 hA ha c1
    by_cases c2 : k < 0
    · exact star_n2 w va n A i k h1 h8 hA ha ⟨by omega, by omega, c2⟩
    by_cases c3 : (n : Int) ≤ k
    · exact star_n3 w va n A i k h1 h8 hA ha ⟨by omega, by omega, c3⟩
    obtain ⟨i, rfl⟩ := Int.eq_ofNat_of_zero_le (show 0 ≤ i by omega)
    obtain ⟨k, rfl⟩ := Int.eq_ofNat_of_zero_le (show 0 ≤ k by omega)
    exact star_1 w va n A i k h1 h8 (by omega) (by omega) hA ha
  · exact star_0 w va M i k ha hg
end Go.Proofs.Ytobfidlfgdlilaa
