/-
  pref.Text at every network whose length is from 0 to 32; what lay in memory stays. Condition: the library's table of powers of ten is as its text lays it.
-/
import Derived.Test.YtegfjdpibpmdmaaGreatDoorAddrCode
import Derived.Test.YtegfjdpibpmdmaaGreatDoorPrefSpell
import Derived.Test.YtegfjdpibpmdmaaGreatDoorBoxes
import Derived.Deep.RegionHeld3
namespace Go.Proofs.YtegfjdpibpmdmaaGreatDoor
open Go.RowKit

theorem PrefP.text_bytes (a n : Nat) : ((⟨(AddrP.text a).toArray⟩ : ByteArray) ++ ⟨#[47]⟩ ++ ⟨(AddrP.dig n).toArray⟩) = ⟨(PrefP.text a n).toArray⟩ := by
  apply ByteArray.ext
  apply Array.toList_inj.1
  unfold PrefP.text
  simp

theorem itoa_small (n : Nat) (hn : n ≤ 32) (w : World) (ht : Pow10 w) :
    Calls Tryz.prog 34 #[.int .i64 n] w fun e w' => e = .returned (.string ⟨(AddrP.dig n).toArray⟩) ∧ Below w.heap.size w w' := by
  have hc := Tryz.strconv_Itoa (n : Int) (by omega) (by omega) w ht
  rw [AddrP.itoa_dig _ (by omega)] at hc
  refine hc.mono ?_
  rintro e w' ⟨rfl, k, os, rfl⟩
  exact ⟨rfl, below_grow _ _ _⟩

set_option maxHeartbeats 1000000 in
theorem netText_any (a n : Nat) (w : World) (ha : a < 4294967296) (hn : n ≤ 32) (ht : Pow10 w) :
    Calls Tryz.prog 16 #[.agg #[.int .u32 a, .int .i64 n]] w fun e w' => e = .returned (.string ⟨(PrefP.text a n).toArray⟩) ∧ Below w.heap.size w w' := by
  have HT := Lib.hid ht; clear ht
  have hla := AddrP.text_len a
  have hld := AddrP.dig_len n (by omega)
  have h1 : ¬ 9223372036854775807 < (AddrP.text a).length + 1 := by omega
  have h2 : ¬ 9223372036854775807 < (AddrP.text a).length + 1 + (AddrP.dig n).length := by omega
  go_enter Tryz.func16, Tryz.ntmps16
  go_wp2_with fail
  go_region_held3 (fun w' => w'.cell? ⟨w.heap.size, 0, none⟩ = some (.int .u32 a) ∧ w'.cell? ⟨w.heap.size, 1, none⟩ = some (.int .i64 n)) (go_keep)
    (first
      | (go_at_call 33; refine (text_any a _ ha (HT.out.below (((Below.refl _ _).alloc (Nat.le_refl _) _).drew))).mono ?_; rintro e w1 ⟨rfl, hb1⟩; obtain ⟨⟨l1, c0, c1, f0, f1⟩, hB⟩ := box1d hb1; clear hb1)
      | (go_at_call 34; refine (itoa_small n hn _ (HT.out.below (by assumption))).mono ?_; rintro e w2 ⟨rfl, hb2⟩; have e0 : w2.cell? ⟨w.heap.size, 0, none⟩ = some (.int .u32 a) := (hb2.cell (p := ⟨w.heap.size, 0, none⟩) (by assumption)).trans (by assumption); have e1 : w2.cell? ⟨w.heap.size, 1, none⟩ = some (.int .i64 n) := (hb2.cell (p := ⟨w.heap.size, 1, none⟩) (by assumption)).trans (by assumption)))
  go_wp2_with fail
  rw [PrefP.text_bytes]
  go_ret
  exact ⟨rfl, Below.two hB hb2⟩
end Go.Proofs.YtegfjdpibpmdmaaGreatDoor
