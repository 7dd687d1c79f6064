/-
  sum.fold and the document's Folded: both fold a number to sixteen bits; what lay in memory stays.
-/
import Derived.Test.YteeilmigedhjmaaSumPlain
import Derived.Test.YteeilmigedhjmaaBoxes
import Derived.Lib.Walk
import Derived.LoopN
namespace Go.Proofs.Yteeilmigedhjmaa
open Go.RowKit Go.Lib

set_option maxHeartbeats 400000 in
set_option maxRecDepth 100000 in
theorem fold_any (w : World) (n : Nat) (hn : n < 18446744073709551616) :
    Calls Try.prog 14 #[.int .u64 (n : Int)] w fun e w' => e = .returned (.int .u16 (fd n : Int)) ∧ Below w.heap.size w w' := by
  go_enter Try.func14, Try.ntmps14
  go_wp2_with fail
  go_loopw [0] (fun v wr => ∃ (k : Nat), v = .int .u64 k ∧ k < 18446744073709551616 ∧ Hid (fd k = fd n) ∧ Hid (Below w.heap.size w wr)) (fun v _ => (RowKit.intOf v).toNat)
  case atStart => exact ⟨n, rfl, hn, Lib.hid rfl, Lib.hid (Below.refl _ _)⟩
  case round =>
    obtain ⟨k, rfl, hk, HE, hB⟩ := hrel
    by_cases hkn : k ≤ 65535
    · have e := HE.out
      rw [fd_small k hkn] at e
      go_wp2_with fail
      go_ret
      exact ⟨by rw [← e]; rfl, hB.out⟩
    · have e := low16 k hk
      have HT := Lib.hid (fd_step k (by omega))
      go_wp2_with fail
      go_roundw
      case rel => exact ⟨k / 65536 + k % 65536, by go_num, by omega, Lib.hid (HT.out.trans HE.out), hB⟩
      case measure => simp [RowKit.intOf]; omega

set_option maxHeartbeats 400000 in
set_option maxRecDepth 100000 in
theorem folded_any (w : World) (n : Nat) (hn : n < 9223372036854775808) :
    Calls Try.prog 9 #[.int .i64 (n : Int)] w fun e w' => e = .returned (.int .i64 (fd n : Int)) ∧ Below w.heap.size w w' := by
  go_enter Try.func9, Try.ntmps9
  go_wp2_with fail
  go_loopw [0] (fun v wr => ∃ (k : Nat), v = .int .i64 k ∧ k < 9223372036854775808 ∧ Hid (fd k = fd n) ∧ Hid (Below w.heap.size w wr)) (fun v _ => (RowKit.intOf v).toNat)
  case atStart => exact ⟨n, rfl, hn, Lib.hid rfl, Lib.hid (Below.refl _ _)⟩
  case round =>
    obtain ⟨k, rfl, hk, HE, hB⟩ := hrel
    by_cases hkn : k ≤ 65535
    · have e := HE.out
      rw [fd_small k hkn] at e
      go_wp2_with fail
      go_ret
      exact ⟨by rw [← e]; rfl, hB.out⟩
    · have HT := Lib.hid (fd_step k (by omega))
      have e1 : Int.tdiv (k : Int) 65536 = ((k / 65536 : Nat) : Int) := by rw [Int.tdiv_eq_ediv_of_nonneg (by omega)]; omega
      have e2 : Int.tmod (k : Int) 65536 = ((k % 65536 : Nat) : Int) := by rw [Int.tmod_eq_emod_of_nonneg (by omega)]; omega
      go_wp2_with fail
      go_roundw
      case rel => exact ⟨k / 65536 + k % 65536, by go_num, by omega, Lib.hid (HT.out.trans HE.out), hB⟩
      case measure => simp [RowKit.intOf]; omega
end Go.Proofs.Yteeilmigedhjmaa
