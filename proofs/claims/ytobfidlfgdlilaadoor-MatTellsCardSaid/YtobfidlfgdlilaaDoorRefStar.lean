/-
  The document's OneOf and StarOf at every table; what lay in memory stays.
-/
import Derived.Test.YtobfidlfgdlilaaDoorRefMul
import Derived.Test.YtobfidlfgdlilaaDoorRefLeast
import Derived.Test.YtobfidlfgdlilaaDoorRefCosts
import Derived.Test.YtobfidlfgdlilaaDoorMatRes
namespace Go.Proofs.YtobfidlfgdlilaaDoor
open Go.RowKit Go.Lib

theorem cost_one (n : Nat) : rowsF n (fun i j => costG [] i j) = rowsN n MatP.one := by
  unfold rowsN rowsF
  refine List.map_congr_left fun i _ => List.map_congr_left fun j _ => ?_
  simp only [costG_nil]
  unfold MatP.one
  by_cases h : i = j
  · rw [if_pos (by omega), if_pos h]; rfl
  · rw [if_neg (by omega), if_neg h]; rfl
set_option maxHeartbeats 400000 in
set_option maxRecDepth 100000 in
/-- waywardenref1.OneOf. -/
theorem oneOf_any (w : World) (n : Nat) (h8 : n ≤ 8) :
    Calls Tryd.prog 13 #[.int .i64 n] w fun e w' => ∃ u, e = .returned u ∧ OwnR w' w.heap.size u (rowsN n MatP.one) ∧ Below w.heap.size w w' := by
  have HC := costsOf_any w n (.slice none 0 0) [] h8 (by simp) ⟨none, 0, rfl, Or.inl rfl⟩
  rw [cost_one] at HC
  have HC := Lib.hid HC
  go_enter Tryd.func13, Tryd.ntmps13
  go_wp2_with fail
  refine HC.out.mono ?_
  rintro e w1 ⟨u, rfl, hO, hb⟩
  have HO := Lib.hid hO; have HB := Lib.hid hb
  clear hO hb
  go_wp2_with fail
  go_ret
  exact ⟨u, rfl, HO.out, HB.out⟩
set_option maxHeartbeats 2000000 in
set_option maxRecDepth 100000 in
/-- waywardenref1.StarOf. -/
theorem starOf_any (w : World) (v : Value) (n : Nat) (A : MatP.T) (h1 : 1 ≤ n) (h8 : n ≤ 8) (hA : MatP.Bd A) (h : ArgR w v (rowsN n A)) :
    Calls Tryd.prog 8 #[v] w fun e w' => ∃ u, e = .returned u ∧ ArgR w' u (rowsN n (MatP.lw n A n)) ∧ Below w.heap.size w w' := by
  obtain ⟨pa, ca, rfl⟩ := tab_form h
  have HA := Lib.hid h; have HbA := Lib.hid hA
  clear h hA
  go_enter Tryd.func8, Tryd.ntmps8
  go_wp2_with fail
  refine (oneOf_any w n h8).mono ?_
  rintro e w1 ⟨u1, rfl, hO, hb⟩
  have HO : Hid (ArgR w1 u1 (rowsN n (MatP.pw n A 0))) := Lib.hid hO.arg
  have HB := Lib.hid hb
  clear hO hb
  go_wp2_with fail
  go_loopw [3, 4, 5] (fun p o x wr => ∃ (k : Nat), x = .int .i64 k ∧ k ≤ n ∧ Hid (Below w.heap.size w wr) ∧ Hid (ArgR wr p (rowsN n (MatP.pw n A k))) ∧ Hid (ArgR wr o (rowsN n (MatP.lw n A k)))) (fun _ _ x _ => n - (RowKit.intOf x).toNat)
  case atStart => exact ⟨0, rfl, Nat.zero_le _, HB, HO, HO⟩
  case round =>
    clear HO HB
    obtain ⟨k, rfl, hk, hB, HP, HO⟩ := hrel
    by_cases hkn : k < n
    · have HC := Lib.hid (mulOf_any wr _ _ n (MatP.pw n A k) A h1 h8 (MatP.pw_bd n A k) HbA.out HP.out (HA.out.below hB.out))
      go_wp2_with fail
      refine HC.out.mono ?_
      rintro e w2 ⟨u2, rfl, hO2, hb2⟩
      have HP2 := Lib.hid (show ArgR w2 u2 (rowsN n (MatP.pw n A (k + 1))) from hO2.arg)
      have HO2 := Lib.hid (HO.out.below hb2)
      have HB2 := Lib.hid (Below.two hB.out hb2)
      clear HC HP HO hO2 hb2
      have HC := Lib.hid (leastOf_any w2 _ _ n (MatP.lw n A k) (MatP.pw n A (k + 1)) h1 h8 HO2.out HP2.out)
      go_wp2_with fail
      refine HC.out.mono ?_
      rintro e w3 ⟨u3, rfl, hO3, hb3⟩
      have HP3 := Lib.hid (HP2.out.below hb3)
      have HO3 := Lib.hid (show ArgR w3 u3 (rowsN n (MatP.lw n A (k + 1))) from hO3.arg)
      have HB3 := Lib.hid (Below.two HB2.out hb3)
      clear HC HP2 HO2 hO3 hb3
      go_wp2_with fail
      go_roundw
      case rel => exact ⟨k + 1, by go_num, by omega, HB3, HP3, HO3⟩
      case measure => simp [RowKit.intOf]; omega
    · have e : k = n := by omega
      subst e
      go_wp2_with fail
      go_ret
      exact ⟨_, rfl, HO.out, hB.out⟩
end Go.Proofs.YtobfidlfgdlilaaDoor
