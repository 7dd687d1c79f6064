/-
  wire.number at at most four bytes; the world stays as it was.
-/
import Derived.Test.YtlgkjbkbdmneaaaDoorByteList
import Derived.Test.YtlgkjbkbdmneaaaDoorWireRead
import Derived.Lib.Hide
import Derived.LoopN
import Derived.Lib.Walk
import Derived.Laws.BitsAllLaws
namespace Go.Proofs.YtlgkjbkbdmneaaaDoor
open Go.RowKit Go.Lib

theorem or_more (n x : Nat) (hn : n < 16777216) (hx : x < 256) : bits .or .u32 ((n * 256 : Nat) : Int) (x : Int) = ((n * 256 + x : Nat) : Int) := by
  rw [u32_or_nat _ _ (by omega) (by omega)]
  have := Nat.two_pow_add_eq_or_of_lt (i := 8) (b := x) (by omega) n
  rw [show 2 ^ 8 * n = n * 256 by omega] at this
  rw [this]
theorem num_take (l : List Nat) (k : Nat) (h : k < l.length) : num (l.take (k + 1)) = num (l.take k) * 256 + l[k]! := by
  rw [List.take_succ_eq_append_getElem h, num_snoc, getElem!_pos l k h]
theorem num_take_lt (l : List Nat) (k : Nat) (hb : Byt l) (hk : k ≤ 3) : num (l.take k) < 16777216 :=
  Nat.lt_of_lt_of_le (num_lt _ (hb.take k)) (Nat.le_trans (Nat.pow_le_pow_right (by decide) (show (l.take k).length ≤ 3 by rw [List.length_take]; omega)) (by decide))

set_option maxHeartbeats 400000 in
set_option maxRecDepth 100000 in
theorem number_any (w : World) (b off c : Nat) (l : List Nat) (hl : l.length ≤ 4) (hb : Byt l) (hs : SeenB w b off l) :
    Calls Tryd.prog 46 #[.slice (some ⟨b, off, none⟩) l.length c] w fun x w' => x = .returned (.int .u32 (num l : Int)) ∧ w' = w := by
  have HS := Lib.hid hs; have HY := Lib.hid hb
  clear hs hb
  go_enter Tryd.func46, Tryd.ntmps46
  go_wp2_with fail
  go_loopw [8, 3] (fun vk vn wr => ∃ (k : Nat), vk = .int .i64 k ∧ k ≤ l.length ∧ vn = .int .u32 (num (l.take k) : Int) ∧ wr = w) (fun vk _ _ => l.length - (RowKit.intOf vk).toNat)
  case atStart => exact ⟨0, rfl, Nat.zero_le _, rfl, rfl⟩
  case round =>
    obtain ⟨k, rfl, hk, rfl, rfl⟩ := hrel
    by_cases hkn : k < l.length
    · have c0 := HS.out k hkn
      have hx : l[k]! < 256 := HY.out _ (by rw [getElem!_pos l k hkn]; exact List.getElem_mem hkn)
      have hn := num_take_lt l k HY.out (by omega)
      have HE := Lib.hid (num_take l k hkn)
      have e2 := or_more _ _ hn hx
      generalize l[k]! = x at *
      generalize num (l.take k) = n at *
      go_wp2_with fail
      go_roundw
      case rel => exact ⟨k + 1, by go_num, by omega, by rw [HE.out, ← e2]; rfl, trivial⟩
      case measure => simp [RowKit.intOf]; omega
    · have e0 : l.take k = l := List.take_of_length_le (by omega)
      rw [e0]
      go_wp2_with fail
      go_ret
      exact ⟨rfl, rfl⟩
end Go.Proofs.YtlgkjbkbdmneaaaDoor
