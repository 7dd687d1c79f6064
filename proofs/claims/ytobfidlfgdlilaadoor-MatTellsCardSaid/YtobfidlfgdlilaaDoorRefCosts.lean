/-
  The document's CostsOf at every list of links and at most eight nodes; what lay in memory stays.
-/
import Derived.Test.YtobfidlfgdlilaaDoorRefCost
import Derived.Test.YtobfidlfgdlilaaDoorRowsOwn
import Derived.Test.YtobfidlfgdlilaaDoorRowsTo
namespace Go.Proofs.YtobfidlfgdlilaaDoor
open Go.RowKit Go.Lib

set_option maxHeartbeats 1000000 in
set_option maxRecDepth 100000 in
/-- waywardenref1.CostsOf. -/
theorem costsOf_any (w : World) (m : Nat) (v : Value) (l : List Lk) (hm : m ≤ 8) (hn : l.length < 4611686018427387904) (h : ArgK w v l) :
    Calls Tryd.prog 25 #[.int .i64 m, v] w fun e w' => ∃ u, e = .returned u ∧ OwnR w' w.heap.size u (rowsF m (fun i j => costG l i j)) ∧ Below w.heap.size w w' := by
  have HK := Lib.hid h; clear h
  go_enter Tryd.func25, Tryd.ntmps25
  go_wp2_with fail
  go_loopw [5, 6] (fun u x wr => ∃ (k : Nat), x = .int .i64 k ∧ k ≤ m ∧ Hid (Below w.heap.size w wr) ∧ Hid (OwnR wr w.heap.size u (rowsTo m k (fun i j => costG l i j)))) (fun _ x _ => m - (RowKit.intOf x).toNat)
  case atStart => exact ⟨0, rfl, Nat.zero_le _, Lib.hid (Below.refl _ _), Lib.hid (OwnR.nil _ _)⟩
  case round =>
    obtain ⟨k, rfl, hk, hB, HO⟩ := hrel
    by_cases hkn : k < m
    · obtain ⟨w0, HW0⟩ : ∃ w0, Hid (w0 = wr) := ⟨wr, Lib.hid rfl⟩
      have HB0 : Hid (Below w.heap.size w w0) := Lib.hid (by rw [HW0.out]; exact hB.out)
      have HO0 := Lib.hid (show OwnR w0 w.heap.size _ _ by rw [HW0.out]; exact HO.out)
      have HS0 : Hid (Below w0.heap.size w0 wr) := Lib.hid (by rw [HW0.out]; exact Below.refl _ _)
      clear HW0 hB HO
      go_wp2_with fail
      go_loopw [7, 8] (fun r x wq => ∃ (j : Nat), x = .int .i64 j ∧ j ≤ m ∧ Hid (Below w0.heap.size w0 wq) ∧ Hid (OwnI wq w0.heap.size r (rowTo j (fun j => costG l k j)))) (fun _ x _ => m - (RowKit.intOf x).toNat)
      case atStart => exact ⟨0, rfl, Nat.zero_le _, HS0, Lib.hid (OwnI.nil _ _)⟩
      case round =>
        obtain ⟨j, rfl, hj, hB2, HI⟩ := hrel
        by_cases hjm : j < m
        · have HC := Lib.hid (costOf_any wr v l k j hn (HK.out.below (Below.two HB0.out hB2.out)))
          have hlen := rowTo_len j (fun j => costG l (k : Int) (j : Int))
          have HLen := Lib.hid hlen; clear hlen
          have HM : Hid (rowTo (j + 1) (fun j => costG l k j) = rowTo j (fun j => costG l k j) ++ [costG l k j]) := Lib.hid (rowTo_more j _)
          generalize costG l (k : Int) (j : Int) = z at HC HM
          have HK2 := Lib.hid (HI.out.keep ((Below.refl wr.heap.size wr).alloc (Nat.le_refl _) (.cells #[.int .i64 z] 3)))
          go_wp2_with fail
          refine HC.out.mono ?_
          rintro e w3 ⟨rfl, rfl⟩
          go_wp2_with (at_builtin; refine wpl_append_oneI rfl _ _ rfl w0.heap.size _ (rowTo j (fun j => costG l k j)) z wr.heap.size 1 rfl rfl HK2.out (by simp) (by rw [HLen.out]; omega) (Nat.le_trans hB2.out.size (by simp)) ?_; intro v' w3 hO3 hg3 _)
          go_roundw
          case rel => exact ⟨j + 1, by go_num, by omega, Lib.hid ((hB2.out.alloc hB2.out.size _).grown hg3 (Nat.le_trans hB2.out.size (by simp)) HI.out.past), Lib.hid (by rw [HM.out]; exact hO3)⟩
          case measure => simp [RowKit.intOf]; omega
        · have e : j = m := by omega
          subst e
          obtain ⟨p7, c7, hv7, _⟩ := HI.out.arg
          rw [rowTo_len] at hv7
          subst hv7
          have HR2 := Lib.hid ((HO0.out.keep hB2.out).keep ((Below.refl wr.heap.size wr).alloc (Nat.le_refl _) (.cells #[.slice p7 j c7] 39)))
          have HI2 := Lib.hid ((HI.out.down HB0.out.size).keep ((Below.refl wr.heap.size wr).alloc (Nat.le_refl _) (.cells #[.slice p7 j c7] 39)))
          have HB3 := Lib.hid (Below.two HB0.out hB2.out)
          have HLen := Lib.hid (rowsTo_len j k (fun i j => costG l (i : Int) (j : Int)))
          have HM : Hid (rowsTo j (k + 1) (fun i j => costG l i j) = rowsTo j k (fun i j => costG l i j) ++ [rowTo j (fun j => costG l k j)]) := Lib.hid (rowsTo_more j k _)
          go_wp2_with (at_builtin; refine wpl_append_oneR rfl _ _ rfl w.heap.size _ _ (.slice p7 j c7) _ wr.heap.size 1 rfl rfl HR2.out HI2.out (by simp) (by rw [HLen.out]; omega) (Nat.le_trans HB3.out.size (by simp)) ?_; intro v' w3 hO3 hg3)
          go_roundw
          case rel => exact ⟨k + 1, by go_num, by omega, Lib.hid ((HB3.out.alloc HB3.out.size _).grown hg3 (Nat.le_trans HB3.out.size (by simp)) HO0.out.past), Lib.hid (by rw [HM.out]; exact hO3)⟩
          case measure => simp [RowKit.intOf]; omega
    · have e : k = m := by omega
      subst e
      go_wp2_with fail
      go_ret
      exact ⟨_, rfl, HO.out, hB.out⟩
end Go.Proofs.YtobfidlfgdlilaaDoor
