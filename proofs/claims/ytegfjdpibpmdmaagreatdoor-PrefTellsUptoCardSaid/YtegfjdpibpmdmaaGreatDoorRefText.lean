/-
  The document's answer AddrText tells the text of an address, just as the plain definition does; what lay in memory stays. No condition.
-/
import Derived.Test.YtegfjdpibpmdmaaGreatDoorRefDigits
import Derived.Test.YtegfjdpibpmdmaaGreatDoorAddrText
namespace Go.Proofs.YtegfjdpibpmdmaaGreatDoor
open Go.RowKit

theorem digits_dig (z : Int) (m : Nat) (w : World) (hz : z = m) (hm : m < 256) :
    Calls Tryz.prog 36 #[.int .i64 z] w fun e w' => e = .returned (.string ⟨(AddrP.dig m).toArray⟩) ∧ Below w.heap.size w w' := by
  rw [hz, ← AddrP.dig_eq m (by omega)]
  exact digits_any m w (by omega)

set_option maxHeartbeats 400000 in
theorem refText_any (a : Nat) (w : World) (ha : a < 4294967296) :
    Calls Tryz.prog 35 #[.int .u32 a] w fun e w' => e = .returned (.string ⟨(AddrP.text a).toArray⟩) ∧ Below w.heap.size w w' := by
  have l3 := AddrP.dig_len _ (AddrP.b3_lt a)
  have l2 := AddrP.dig_len _ (AddrP.b2_lt a)
  have l1 := AddrP.dig_len _ (AddrP.b1_lt a)
  have l0 := AddrP.dig_len _ (AddrP.b0_lt a)
  have e2 : bits .and .u32 ((a : Int) / 65536) 255 = (AddrP.b2 a : Nat) := by rw [AddrP.and255 _ (by omega) (by omega)]; unfold AddrP.b2; omega
  have e1 : bits .and .u32 ((a : Int) / 256) 255 = (AddrP.b1 a : Nat) := by rw [AddrP.and255 _ (by omega) (by omega)]; unfold AddrP.b1; omega
  have e0 : bits .and .u32 (a : Int) 255 = (AddrP.b0 a : Nat) := by rw [AddrP.and255 _ (by omega) (by omega)]; unfold AddrP.b0; omega
  have m3 := AddrP.b3_lt a; have m2 := AddrP.b2_lt a; have m1 := AddrP.b1_lt a; have m0 := AddrP.b0_lt a
  have h3 : (a : Int) / 16777216 = (AddrP.b3 a : Nat) := by unfold AddrP.b3; omega
  have H3 := Lib.hid h3; clear h3
  go_enter Tryz.func35, Tryz.ntmps35
  go_wp2_with fail
  refine (digits_dig _ (AddrP.b3 a) _ H3.out m3).mono ?_
  rintro e w1 ⟨rfl, hb1⟩
  go_wp2_with fail
  refine (digits_dig _ (AddrP.b2 a) _ rfl m2).mono ?_
  rintro e w2 ⟨rfl, hb2⟩
  go_wp2_with fail
  refine (digits_dig _ (AddrP.b1 a) _ rfl m1).mono ?_
  rintro e w3 ⟨rfl, hb3⟩
  go_wp2_with fail
  refine (digits_dig _ (AddrP.b0 a) _ rfl m0).mono ?_
  rintro e w4 ⟨rfl, hb4⟩
  go_wp2_with fail
  go_ret
  rw [AddrP.text_bytes]
  exact ⟨rfl, ((hb1.trans (hb2.mono hb1.size)).trans (hb3.mono (Nat.le_trans hb1.size hb2.size))).trans (hb4.mono (Nat.le_trans (Nat.le_trans hb1.size hb2.size) hb3.size))⟩
end Go.Proofs.YtegfjdpibpmdmaaGreatDoor
