/-
  addr.Text tells the four bytes of an address in decimal, with dots between them; what lay in memory stays. Condition: the library's table of powers of ten is as its text lays it.
-/
import Derived.Test.YtegfjdpibpmdmaaGreatDoorProg
import Derived.Test.YtegfjdpibpmdmaaGreatDoorAddrPlain
import Derived.Test.YtegfjdpibpmdmaaGreatDoorShelf
import Derived.WalkKit
import Derived.Lib.Hide
import Derived.Lib.LaidTab
import Derived.Laws.BitsAllLaws
import Derived.Below
import Derived.WalkSmall
namespace Go.Proofs.YtegfjdpibpmdmaaGreatDoor
open Go.RowKit

/-- The library's table of powers of ten lies as its text lays it. -/
def Pow10 (w : World) : Prop := Lib.TabIs Tryz.prog w "internal/strconv.uint64pow10" .u64 Lib.pow10Tab

theorem below_grow (w : World) (k : Nat) (os : Array Obj) : Below w.heap.size w (Go.Sort.grow (w.drewN k) os) := by
  have h1 : Below w.heap.size w (w.drewN k) := below_drewN (Below.refl _ _) k
  have hd : (w.drewN k).heap = w.heap := by simp
  refine h1.trans ⟨rfl, rfl, rfl, by simp [Go.Sort.grow], fun i hi => ?_⟩
  show ((w.drewN k).heap ++ os)[i]? = _
  rw [hd, Array.getElem?_append_left hi]

theorem pow10_global : Tryz.prog.globalNamed "internal/strconv.uint64pow10" = some 4 := by kernel_rfl
theorem Pow10.below {w w' : World} (h : Pow10 w) (hb : Below w.heap.size w w') : Pow10 w' := by
  unfold Pow10 Lib.TabIs World.var? at h ⊢
  rw [pow10_global] at h ⊢
  simp only [Option.bind_some] at h ⊢
  have hlt : 4 < w.heap.size := by
    rcases Nat.lt_or_ge 4 w.heap.size with h' | h'
    · exact h'
    · rw [Array.getElem?_eq_none h'] at h; cases h
  rw [hb.block _ hlt]
  exact h

theorem AddrP.itoa_dig (n : Nat) (h : n < 1000) : Lib.itoa (n : Int) = AddrP.dig n := by
  rw [← AddrP.dig_eq n h]
  unfold Lib.itoa
  rw [if_neg (by omega)]
  simp

theorem AddrP.and255 (z : Int) (h0 : 0 ≤ z) (h1 : z < 4294967296) : bits .and .u32 z 255 = ((z.toNat % 256 : Nat) : Int) := by
  have := u32_and z 255 h0 h1 (by decide) (by decide)
  rw [this]
  show ((z.toNat &&& 255 : Nat) : Int) = _
  rw [nat_mask8]

set_option maxHeartbeats 400000 in
theorem byteText_any (z : Int) (m : Nat) (w : World) (h0 : 0 ≤ z) (h1 : z < 4294967296) (hz : (m : Int) = z % 256) (ht : Pow10 w) :
    Calls Tryz.prog 45 #[.int .u32 z] w fun e w' => e = .returned (.string ⟨(AddrP.dig m).toArray⟩) ∧ Below w.heap.size w w' := by
  have hb := AddrP.and255 z h0 h1
  rw [show z.toNat % 256 = m by omega] at hb
  have hm : m < 256 := by omega
  have hc := Tryz.strconv_Itoa (m : Int) (by omega) (by omega) w ht
  rw [AddrP.itoa_dig _ (by omega)] at hc
  have HC := Lib.hid hc; clear hc hz
  go_enter Tryz.func45, Tryz.ntmps45
  go_wp2_with (go_at_call 34; refine HC.out.mono ?_; rintro e w' ⟨rfl, k, os, rfl⟩)
  go_ret
  exact ⟨rfl, below_grow _ _ _⟩

theorem AddrP.text_bytes (a : Nat) : ((⟨(AddrP.dig (AddrP.b3 a)).toArray⟩ : ByteArray) ++ ⟨#[46]⟩ ++ ⟨(AddrP.dig (AddrP.b2 a)).toArray⟩ ++ ⟨#[46]⟩ ++ ⟨(AddrP.dig (AddrP.b1 a)).toArray⟩ ++ ⟨#[46]⟩ ++ ⟨(AddrP.dig (AddrP.b0 a)).toArray⟩) = ⟨(AddrP.text a).toArray⟩ := by
  apply ByteArray.ext
  apply Array.toList_inj.1
  unfold AddrP.text
  simp

set_option maxHeartbeats 400000 in
theorem text_any (a : Nat) (w : World) (ha : a < 4294967296) (ht : Pow10 w) :
    Calls Tryz.prog 33 #[.int .u32 a] w fun e w' => e = .returned (.string ⟨(AddrP.text a).toArray⟩) ∧ Below w.heap.size w w' := by
  have HT := Lib.hid ht; clear ht
  have l3 := AddrP.dig_len _ (AddrP.b3_lt a)
  have l2 := AddrP.dig_len _ (AddrP.b2_lt a)
  have l1 := AddrP.dig_len _ (AddrP.b1_lt a)
  have l0 := AddrP.dig_len _ (AddrP.b0_lt a)
  go_enter Tryz.func33, Tryz.ntmps33
  go_wp2_with fail
  refine (byteText_any _ (AddrP.b3 a) _ (by omega) (by omega) (by unfold AddrP.b3; omega) HT.out).mono ?_
  rintro e w1 ⟨rfl, hb1⟩
  have H1 := HT.out.below hb1
  go_wp2_with fail
  refine (byteText_any _ (AddrP.b2 a) _ (by omega) (by omega) (by unfold AddrP.b2; omega) H1).mono ?_
  rintro e w2 ⟨rfl, hb2⟩
  have H2 := H1.below hb2
  go_wp2_with fail
  refine (byteText_any _ (AddrP.b1 a) _ (by omega) (by omega) (by unfold AddrP.b1; omega) H2).mono ?_
  rintro e w3 ⟨rfl, hb3⟩
  have H3 := H2.below hb3
  go_wp2_with fail
  refine (byteText_any _ (AddrP.b0 a) _ (by omega) (by omega) (by unfold AddrP.b0; omega) H3).mono ?_
  rintro e w4 ⟨rfl, hb4⟩
  go_wp2_with fail
  go_ret
  rw [AddrP.text_bytes]
  exact ⟨rfl, ((hb1.trans (hb2.mono hb1.size)).trans (hb3.mono (Nat.le_trans hb1.size hb2.size))).trans (hb4.mono (Nat.le_trans (Nat.le_trans hb1.size hb2.size) hb3.size))⟩
end Go.Proofs.YtegfjdpibpmdmaaGreatDoor
