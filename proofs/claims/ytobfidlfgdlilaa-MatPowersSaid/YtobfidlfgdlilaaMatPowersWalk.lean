/-
  The law MatPowers at every list of rows: it tells true; what lay in memory stays.
-/
import Derived.Test.YtobfidlfgdlilaaMatStar
import Derived.Test.YtobfidlfgdlilaaMatRes
import Derived.Test.YtobfidlfgdlilaaRefLeast
namespace Go.Proofs.Ytobfidlfgdlilaa
open Go.RowKit Go.Lib

set_option maxHeartbeats 4000000 in
set_option maxRecDepth 100000 in
theorem powers_0 (w : World) (va : Value) (M : List (List Int)) (ha : ArgR w va M) (hg : matBad M ≠ 0) :
    Calls Try.prog 5 #[va] w fun e w' => e = .returned (.bool true) ∧ Below w.heap.size w w' := by
  have HA := Lib.hid (ha)
  have hE : errV (matBad M) = .iface 42 (.int .i64 (matBad M)) := if_neg hg
  have HM := Lib.hid (fun w1 (h1 : ArgR w1 va M) => star_bad w1 va M h1 hg)
  rw [hE] at HM
  clear hE ha hg
  generalize matBad M = q at HM
  have HZZ : Hid (Below w.heap.size w w) := Lib.hid (Below.refl _ _)
  go_enter Try.func5, Try.ntmps5
  go_wp2_with fail
  refine (one_yes w 1 (by decide) (by decide)).mono ?_
  rintro e w1 ⟨g0, _, rfl, _, hb1⟩
  have HA' := Lib.hid (HA.out.below hb1)
  have HZZ' := Lib.hid (Below.two HZZ.out hb1)
  clear hb1 HZZ HA
  have HZZ := HZZ'
  clear HZZ'
  have HA := HA'
  clear HA'
  go_wp2_with fail
  refine (HM.out _ HA.out).mono ?_
  rintro e w2' ⟨rfl, rfl⟩
  go_wp2_with fail
  go_ret
  exact ⟨rfl, HZZ.out⟩
set_option maxHeartbeats 4000000 in
set_option maxRecDepth 100000 in
theorem powers_1 (w : World) (va : Value) (n : Nat) (A : MatP.T) (h1 : 1 ≤ n) (h8 : n ≤ 8) (hbA : MatP.Bd A) (ha : ArgR w va (rowsN n A)) :
    Calls Try.prog 5 #[va] w fun e w' => e = .returned (.bool true) ∧ Below w.heap.size w w' := by
  obtain ⟨pa, ca, rfl⟩ := tab_form ha
  have HA := Lib.hid (ha)
  have HbA := Lib.hid hbA
  clear ha hbA
  have HZZ : Hid (Below w.heap.size w w) := Lib.hid (Below.refl _ _)
  go_enter Try.func5, Try.ntmps5
  go_wp2_with fail
  refine (one_yes w 1 (by decide) (by decide)).mono ?_
  rintro e w1 ⟨g0, _, rfl, _, hb1⟩
  have HA' := Lib.hid (HA.out.below hb1)
  have HZZ' := Lib.hid (Below.two HZZ.out hb1)
  clear hb1 HZZ HA
  have HZZ := HZZ'
  clear HZZ'
  have HA := HA'
  clear HA'
  go_wp2_with fail
  refine (star_ok w1 _ n A h1 h8 HbA.out HA.out).mono ?_
  rintro e w2 ⟨g1, _, rfl, hG, hb2⟩
  have HA' := Lib.hid (HA.out.below hb2)
  have HZZ' := Lib.hid (Below.two HZZ.out hb2)
  have HS := Lib.hid (show ArgR _ _ (rowsN n _) from hG.arg)
  clear hb2 HZZ HA
  have HZZ := HZZ'
  clear HZZ'
  have HA := HA'
  clear HA'
  clear hG
  go_wp2_with fail
  refine (one_yes w2 n h1 h8).mono ?_
  rintro e w3 ⟨g2, _, rfl, hG, hb3⟩
  have HA' := Lib.hid (HA.out.below hb3)
  have HS' := Lib.hid (HS.out.below hb3)
  have HZZ' := Lib.hid (Below.two HZZ.out hb3)
  have HU := Lib.hid (show ArgR _ _ (rowsN n _) from hG.arg)
  clear hb3 HZZ HA HS
  have HZZ := HZZ'
  clear HZZ'
  have HA := HA'
  clear HA'
  have HS := HS'
  clear HS'
  clear hG
  go_wp2_with fail
  refine (leastOf_any w3 _ _ n A MatP.one h1 h8 HA.out HU.out).mono ?_
  rintro e w4 ⟨vb, rfl, hO, hb4⟩
  have HA' := Lib.hid (HA.out.below hb4)
  have HS' := Lib.hid (HS.out.below hb4)
  have HU' := Lib.hid (HU.out.below hb4)
  have HZZ' := Lib.hid (Below.two HZZ.out hb4)
  have HB := Lib.hid (hO.arg)
  clear hb4 HZZ HA HS HU
  have HZZ := HZZ'
  clear HZZ'
  have HA := HA'
  clear HA'
  have HS := HS'
  clear HS'
  have HU := HU'
  clear HU'
  clear hO
  have HbB : Hid (MatP.Bd (MatP.min2 A MatP.one)) := Lib.hid (MatP.min2_bd HbA.out)
  have HFin : Hid (∀ i k, i < n → k < n → MatP.pw n (MatP.min2 A MatP.one) n i k = MatP.fw n A i k) := Lib.hid fun i k hi hk => (MatP.fw_pw HbA.out i k hi hk).symm
  generalize MatP.min2 A MatP.one = B at HB HbB HFin
  generalize MatP.fw n A = S at HS HFin
  clear HA HbA
  go_wp2_with fail
  go_loopw [10, 11] (fun u x wr => ∃ (k : Nat) (g : Nat), x = .int .i64 k ∧ k ≤ n ∧ u = .slice (some ⟨g, 0, none⟩) n n ∧ Hid (Below w4.heap.size w4 wr) ∧ Hid (ArgR wr (.slice (some ⟨g, 0, none⟩) n n) (rowsN n (MatP.pw n B k)))) (fun _ x _ => n - (RowKit.intOf x).toNat)
  case atStart => exact ⟨0, g2, rfl, Nat.zero_le _, rfl, Lib.hid (Below.refl _ _), HU⟩
  case round =>
    clear HU
    obtain ⟨k, g, rfl, hk, rfl, hB, HP⟩ := hrel
    by_cases hkn : k < n
    · have HM := Lib.hid (mul_ok wr (.slice (some ⟨g, 0, none⟩) n n) vb n (MatP.pw n B k) B h1 h8 (MatP.pw_bd n B k) HbB.out HP.out (HB.out.below hB.out))
      go_wp2_with fail
      refine HM.out.mono ?_
      rintro e w9 ⟨g9, -, rfl, hG, hb9⟩
      have HP9 := Lib.hid (show ArgR _ _ (rowsN n (MatP.pw n B (k + 1))) from hG.arg)
      have HB9 := Lib.hid (Below.two hB.out hb9)
      clear hG hb9 HM HP
      go_wp2_with fail
      go_roundw
      case rel => exact ⟨k + 1, g9, by go_num, by omega, rfl, HB9, HP9⟩
      case measure => simp [RowKit.intOf]; omega
    · have e : k = n := by omega
      subst e
      have HR := sameRows_any wr _ _ _ _ (by rw [rowsN_len]; omega) (fun r hr => by rw [rowsN_row _ _ r hr]; omega) HP.out (HS.out.below hB.out)
      rw [decide_eq_true (rowsN_congr HFin.out)] at HR
      have HR := Lib.hid HR
      have HBE := Lib.hid (Below.two HZZ.out hB.out)
      clear HP HS HZZ hB
      go_wp2_with fail
      refine HR.out.mono ?_
      rintro e w9 ⟨rfl, hb9⟩
      have HB9 := Lib.hid (Below.two HBE.out hb9)
      clear hb9
      go_wp2_with fail
      go_ret
      exact ⟨rfl, HB9.out⟩
theorem matPowers_walk (w : World) (va : Value) (M : List (List Int)) (ha : ArgR w va M) :
    Calls Try.prog 5 #[va] w fun e w' => e = .returned (.bool true) ∧ Below w.heap.size w w' := by
  by_cases hg : matBad M = 0
  · obtain ⟨n, A, h1, h8, hA, rfl⟩ := mat_tab hg
    exact powers_1 w va n A h1 h8 hA ha
  · exact powers_0 w va M ha hg
end Go.Proofs.Ytobfidlfgdlilaa
