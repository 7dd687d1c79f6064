/-
  The document's answer Digits tells the decimal digits of a number from 0 up to 2^62; what lay in memory stays.
-/
import Derived.Test.YtegfjdpibpmdmaaGreatDoorProg
import Derived.WalkKit
import Derived.Lib.Hide
import Derived.Lib.Walk
import Derived.Lib.ItoaLen
import Derived.Below
import Derived.Laws.IdiomStrings
namespace Go.Proofs.YtegfjdpibpmdmaaGreatDoor
open Go.RowKit

theorem DigP.len (n : Nat) (h : n < 4611686018427387904) : (Lib.decDigits n).length ≤ 20 := by
  rw [Lib.decDigits_length]
  exact Lib.nDigits_le20 n (by omega)

set_option maxHeartbeats 400000 in
set_option maxRecDepth 100000 in
theorem digits_one (n : Nat) (w : World) (h : n < 10) :
    Calls Tryz.prog 36 #[.int .i64 n] w fun e w' => e = .returned (.string ⟨(Lib.decDigits n).toArray⟩) ∧ Below w.heap.size w w' := by
  have hb : ((48 + n) % 256 : Nat) = 48 + n := Nat.mod_eq_of_lt (by omega)
  have hcv : (convert 69 9 (.slice (some ⟨w.heap.size, 0, none⟩) 1 1)).run Tryz.prog (w.alloc (.cells #[.int .u8 (48 + (n : Int))] 5)) = .ok (.string ⟨#[UInt8.ofNat (48 + n)]⟩) (w.alloc (.cells #[.int .u8 (48 + (n : Int))] 5)) := by
    refine run_convert_bytes_back (P := Tryz.prog) _ 69 9 5 ⟨w.heap.size, 0, none⟩ 1 [UInt8.ofNat (48 + n)] Tryz.underlying69 Tryz.underlying5 Tryz.underlying9 ?_
    intro j hj
    obtain rfl : j = 0 := by simpa using hj
    simp [Addr.add]
    omega
  clear hb
  have hd0 := Lib.decDigits_one h
  generalize UInt8.ofNat (48 + n) = b at hcv hd0
  have hd := Lib.hid hd0; clear hd0
  go_enter Tryz.func36, Tryz.ntmps36
  go_wp2_with fail
  go_ret
  rw [hd.out]
  exact ⟨rfl, (Below.refl _ _).alloc (Nat.le_refl _) _⟩

theorem DigP.more (n : Nat) (h : ¬ n < 10) : (⟨(Lib.decDigits (n / 10)).toArray⟩ : ByteArray) ++ ⟨(Lib.decDigits (n % 10)).toArray⟩ = ⟨(Lib.decDigits n).toArray⟩ := by
  apply ByteArray.ext
  apply Array.toList_inj.1
  rw [Lib.decDigits.eq_def n, dif_neg h, Lib.decDigits_one (Nat.mod_lt _ (by decide))]
  simp

set_option maxHeartbeats 400000 in
set_option maxRecDepth 100000 in
theorem digits_step (n : Nat) (w : World) (h : 10 ≤ n) (hn : n < 4611686018427387904)
    (ih : Hid (∀ w, Calls Tryz.prog 36 #[.int .i64 ((n / 10 : Nat) : Int)] w fun e w' => e = .returned (.string ⟨(Lib.decDigits (n / 10)).toArray⟩) ∧ Below w.heap.size w w')) :
    Calls Tryz.prog 36 #[.int .i64 n] w fun e w' => e = .returned (.string ⟨(Lib.decDigits n).toArray⟩) ∧ Below w.heap.size w w' := by
  have l1 := DigP.len (n / 10) (by omega)
  have l2 := DigP.len (n % 10) (by omega)
  have D2 := Lib.hid (fun w => digits_one (n % 10) w (Nat.mod_lt _ (by decide)))
  have HM := Lib.hid (DigP.more n (by omega))
  go_enter Tryz.func36, Tryz.ntmps36
  go_wp2_with fail
  refine (ih.out _).mono ?_
  rintro e w1 ⟨rfl, hb1⟩
  go_wp2_with fail
  refine (D2.out _).mono ?_
  rintro e w2 ⟨rfl, hb2⟩
  go_wp2_with fail
  go_ret
  rw [HM.out]
  exact ⟨rfl, hb1.trans (hb2.mono hb1.size)⟩

/-- Digits, whatever the number. -/
theorem digits_any : ∀ (n : Nat) (w : World), n < 4611686018427387904 →
    Calls Tryz.prog 36 #[.int .i64 n] w fun e w' => e = .returned (.string ⟨(Lib.decDigits n).toArray⟩) ∧ Below w.heap.size w w' := by
  intro n
  induction n using Nat.strongRecOn with
  | ind n ih =>
    intro w hn
    by_cases h : n < 10
    · exact digits_one n w h
    · exact digits_step n w (by omega) hn (Lib.hid (fun w => ih (n / 10) (by omega) w (by omega)))
end Go.Proofs.YtegfjdpibpmdmaaGreatDoor
