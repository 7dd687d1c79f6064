/-
  addr.parseByte tells the number below 256 whose digits a text is, and that it is one, or 0 and that it is none. No condition but the form's own reach of a text.
-/
import Derived.Test.YtegfjdpibpmdmaaGreatDoorProg
import Derived.Test.YtegfjdpibpmdmaaGreatDoorAddrPlain
import Derived.WalkKit
import Derived.Lib.Hide
namespace Go.Proofs.YtegfjdpibpmdmaaGreatDoor
open Go.RowKit

/-- What parseByte tells of a text. -/
def AddrP.pbN (l : List UInt8) : Nat := if AddrP.okB l then AddrP.num l else 0

def AddrP.Byte (s : ByteArray) (w : World) (e : Ending) (w' : World) : Prop :=
  e = .returned (.tuple #[.int .u32 (AddrP.pbN s.data.toList : Nat), .bool (AddrP.okB s.data.toList)]) ∧ w = w'

theorem AddrP.byte_no {s : ByteArray} {w : World} (h : AddrP.okB s.data.toList = false) : AddrP.Byte s w (.returned (.tuple #[.int .u32 0, .bool false])) w := by
  unfold AddrP.Byte AddrP.pbN
  rw [h]; exact ⟨rfl, rfl⟩
theorem AddrP.byte_yes {s : ByteArray} {w : World} {n : Int} (h : AddrP.okB s.data.toList = true) (hn : n = (AddrP.num s.data.toList : Nat)) : AddrP.Byte s w (.returned (.tuple #[.int .u32 n, .bool true])) w := by
  unfold AddrP.Byte AddrP.pbN
  rw [h, hn]; exact ⟨rfl, rfl⟩

theorem AddrP.take_snoc (s : ByteArray) (k : Nat) (h : k < s.size) : s.data.toList.take (k + 1) = s.data.toList.take k ++ [s[k]] := by
  rw [List.take_succ_eq_append_getElem (by simpa using h)]; rfl
theorem AddrP.size_len (s : ByteArray) : s.data.toList.length = s.size := by simp

theorem AddrP.ok_short {s : ByteArray} (h : s.size < 1) : AddrP.okB s.data.toList = false := by
  unfold AddrP.okB
  rw [AddrP.size_len]
  have : s.size = 0 := by omega
  simp [this]
theorem AddrP.ok_long {s : ByteArray} (h : 3 < s.size) : AddrP.okB s.data.toList = false := by
  unfold AddrP.okB
  rw [AddrP.size_len]
  simp [h]

theorem AddrP.ok_zero {s : ByteArray} (h : 1 < s.size) (hc : (s[0].toNat : Int) = 48) : AddrP.okB s.data.toList = false := by
  unfold AddrP.okB
  rw [AddrP.size_len]
  have e : s.data.toList.getD 0 0 = 48 := by
    rw [CutP.getD_at (by rw [AddrP.size_len]; omega)]
    apply UInt8.toNat_inj.1
    have : s.data.toList[0]'(by rw [AddrP.size_len]; omega) = s[0] := rfl
    rw [this]
    simp
    omega
  rw [e]
  simp [h]

/-- The loop: the number of the digits so far, and that they are digits. -/
def AddrP.Rel (s : ByteArray) (n i : Value) : Prop :=
  ∃ k : Nat, k ≤ s.size ∧ i = .int .i64 k ∧ n = .int .u32 (AddrP.num (s.data.toList.take k) : Nat) ∧ (s.data.toList.take k).all AddrP.isDig = true

/-- A round: one digit more. -/
theorem AddrP.rel_step {s : ByteArray} {k : Nat} {n : Int} (hk : k < s.size) (h3 : s.size ≤ 3) (ha : (s.data.toList.take k).all AddrP.isDig = true) (h1 : 48 ≤ (s[k].toNat : Int)) (h2 : (s[k].toNat : Int) ≤ 57)
    (hn : n = ((AddrP.num (s.data.toList.take k) : Nat) : Int) * 10 % 4294967296 + ((s[k].toNat : Int) - 48)) : AddrP.Rel s (.int .u32 (n % 4294967296)) (.int .i64 ((k : Int) + 1)) := by
  have hlt := AddrP.num_take_lt (show k ≤ 3 by omega) ha
  refine ⟨k + 1, hk, by simp, ?_, ?_⟩
  · rw [AddrP.take_snoc s k hk, hn]
    unfold AddrP.num at hlt ⊢
    rw [AddrP.numFrom_snoc]
    have e : ((AddrP.numFrom 0 (s.data.toList.take k) : Nat) : Int) * 10 % 4294967296 + ((s[k].toNat : Int) - 48) = ((AddrP.numFrom 0 (s.data.toList.take k) * 10 + (s[k].toNat - 48) : Nat) : Int) := by omega
    rw [e]
    have e2 : ((AddrP.numFrom 0 (s.data.toList.take k) * 10 + (s[k].toNat - 48) : Nat) : Int) % 4294967296 = ((AddrP.numFrom 0 (s.data.toList.take k) * 10 + (s[k].toNat - 48) : Nat) : Int) := by omega
    rw [e2]
  · rw [AddrP.take_snoc s k hk, List.all_append, ha]
    simpa using (AddrP.isDig_iff s[k]).2 ⟨h1, h2⟩
theorem AddrP.ok_nondig {s : ByteArray} {k : Nat} (hk : k < s.size) (h : (s[k].toNat : Int) < 48 ∨ 57 < (s[k].toNat : Int)) : AddrP.okB s.data.toList = false := by
  have hd : AddrP.isDig s[k] = false := by
    cases e : AddrP.isDig s[k] with
    | false => rfl
    | true => have := (AddrP.isDig_iff s[k]).1 e; omega
  have ha : s.data.toList.all AddrP.isDig = false := by
    cases e : s.data.toList.all AddrP.isDig with
    | false => rfl
    | true =>
      have hm : s[k] ∈ s.data.toList := by
        rw [show s[k] = s.data.toList[k]'(by rw [AddrP.size_len]; exact hk) from rfl]
        exact List.getElem_mem _
      rw [List.all_eq_true.1 e _ hm] at hd
      cases hd
  unfold AddrP.okB
  rw [ha]
  simp
theorem AddrP.ok_end {s : ByteArray} {k : Nat} (hk : k ≤ s.size) (hge : s.size ≤ k) (h0 : 0 < s.size) (h3 : s.size ≤ 3) (hc : ¬ ((s[0].toNat : Int) = 48 ∧ 1 < s.size)) (ha : (s.data.toList.take k).all AddrP.isDig = true) :
    s.data.toList.take k = s.data.toList ∧ AddrP.okB s.data.toList = !decide (255 < AddrP.num s.data.toList) := by
  have e : s.data.toList.take k = s.data.toList := List.take_of_length_le (by rw [AddrP.size_len]; omega)
  rw [e] at ha
  refine ⟨e, ?_⟩
  unfold AddrP.okB
  rw [ha, AddrP.size_len, CutP.getD_at (by rw [AddrP.size_len]; omega), show s.data.toList[0]'(by rw [AddrP.size_len]; omega) = s[0] from rfl]
  have h48 : (s[0] == 48 && decide (1 < s.size)) = false := by
    cases e1 : (s[0] == 48 && decide (1 < s.size)) with
    | false => rfl
    | true =>
      simp only [Bool.and_eq_true, beq_iff_eq, decide_eq_true_eq] at e1
      exact absurd ⟨by rw [e1.1]; rfl, e1.2⟩ hc
  rw [h48]
  have : (s.size == 0 || decide (3 < s.size)) = false := by
    rw [Bool.or_eq_false_iff]
    exact ⟨beq_eq_false_iff_ne.2 (by omega), decide_eq_false (by omega)⟩
  rw [this]
  simp

set_option maxHeartbeats 400000 in
theorem parseByte_short (s : ByteArray) (w : World) (h : s.size < 1) :
    Calls Tryz.prog 42 #[.string s] w (AddrP.Byte s w) := by
  have hz : ((s.size : Int) == 0) = true := beq_iff_eq.2 (by omega)
  go_enter Tryz.func42, Tryz.ntmps42
  go_wp2
  go_ret2
  exact AddrP.byte_no (AddrP.ok_short h)

set_option maxHeartbeats 400000 in
theorem parseByte_long (s : ByteArray) (w : World) (h : 3 < s.size) :
    Calls Tryz.prog 42 #[.string s] w (AddrP.Byte s w) := by
  have hz : ((s.size : Int) == 0) = false := beq_eq_false_iff_ne.2 (by omega)
  go_enter Tryz.func42, Tryz.ntmps42
  go_wp2
  go_ret2
  exact AddrP.byte_no (AddrP.ok_long h)

set_option maxHeartbeats 400000 in
theorem parseByte_zero (s : ByteArray) (w : World) (h : 1 < s.size) (h3 : s.size ≤ 3) (hc : (s[0].toNat : Int) = 48) :
    Calls Tryz.prog 42 #[.string s] w (AddrP.Byte s w) := by
  have hz : ((s.size : Int) == 0) = false := beq_eq_false_iff_ne.2 (by omega)
  have hb : ((s[0].toNat : Int) == 48) = true := beq_iff_eq.2 hc
  have HC := Lib.hid hc; clear hc
  go_enter Tryz.func42, Tryz.ntmps42
  go_wp2
  go_ret2
  exact AddrP.byte_no (AddrP.ok_zero h HC.out)

set_option maxHeartbeats 400000 in
theorem parseByte_loop (s : ByteArray) (w : World) (h : 0 < s.size) (h3 : s.size ≤ 3) (hc : ¬ ((s[0].toNat : Int) = 48 ∧ 1 < s.size)) :
    Calls Tryz.prog 42 #[.string s] w (AddrP.Byte s w) := by
  have hz : ((s.size : Int) == 0) = false := beq_eq_false_iff_ne.2 (by omega)
  have HC := Lib.hid hc; clear hc
  by_cases hb : (s[0].toNat : Int) = 48
  · have hb1 : ((s[0].toNat : Int) == 48) = true := beq_iff_eq.2 hb
    have h1 : ¬ 1 < s.size := fun e => HC.out ⟨hb, e⟩
    clear hb
    go_enter Tryz.func42, Tryz.ntmps42
    go_wp2
    go_loop [4, 5] (fun n i => AddrP.Rel s n i) (fun _ i => s.size - (intOf i).toNat)
    case atStart => exact ⟨0, Nat.zero_le _, rfl, rfl, rfl⟩
    case round =>
      obtain ⟨k, hk, rfl, rfl, hall⟩ := hrel
      have HA := Lib.hid hall; clear hall
      by_cases hlt : k < s.size
      · go_wp2
        · go_ret2
          exact AddrP.byte_no (AddrP.ok_nondig hlt ‹_›)
        · exact ⟨AddrP.rel_step hlt h3 HA.out (by omega) (by omega) rfl, by simp [intOf]; omega⟩
        · go_ret2
          exact AddrP.byte_no (AddrP.ok_nondig hlt (Or.inl ‹_›))
      · have hgt : s.size ≤ k := by omega
        obtain ⟨e1, e2⟩ := AddrP.ok_end hk hgt h h3 HC.out HA.out
        have E1 := Lib.hid e1; have E2 := Lib.hid e2; clear e1 e2
        go_wp2
        · go_ret2
          refine AddrP.byte_no ?_
          rename_i h5 _
          rw [E2.out, ← E1.out]
          simp
          omega
        · go_ret2
          refine AddrP.byte_yes ?_ (by rw [E1.out])
          rw [E2.out, ← E1.out]
          simp
          omega
  · have hb1 : ((s[0].toNat : Int) == 48) = false := beq_eq_false_iff_ne.2 hb
    clear hb
    go_enter Tryz.func42, Tryz.ntmps42
    go_wp2
    go_loop [4, 5] (fun n i => AddrP.Rel s n i) (fun _ i => s.size - (intOf i).toNat)
    case atStart => exact ⟨0, Nat.zero_le _, rfl, rfl, rfl⟩
    case round =>
      obtain ⟨k, hk, rfl, rfl, hall⟩ := hrel
      have HA := Lib.hid hall; clear hall
      by_cases hlt : k < s.size
      · go_wp2
        · go_ret2
          exact AddrP.byte_no (AddrP.ok_nondig hlt ‹_›)
        · exact ⟨AddrP.rel_step hlt h3 HA.out (by omega) (by omega) rfl, by simp [intOf]; omega⟩
        · go_ret2
          exact AddrP.byte_no (AddrP.ok_nondig hlt (Or.inl ‹_›))
      · have hgt : s.size ≤ k := by omega
        obtain ⟨e1, e2⟩ := AddrP.ok_end hk hgt h h3 HC.out HA.out
        have E1 := Lib.hid e1; have E2 := Lib.hid e2; clear e1 e2
        go_wp2
        · go_ret2
          refine AddrP.byte_no ?_
          rename_i h5 _
          rw [E2.out, ← E1.out]
          simp
          omega
        · go_ret2
          refine AddrP.byte_yes ?_ (by rw [E1.out])
          rw [E2.out, ← E1.out]
          simp
          omega

/-- parseByte, WHATEVER THE TEXT. -/
theorem parseByte_any (s : ByteArray) (w : World) : Calls Tryz.prog 42 #[.string s] w (AddrP.Byte s w) := by
  by_cases h0 : s.size < 1
  · exact parseByte_short s w h0
  · by_cases h3 : 3 < s.size
    · exact parseByte_long s w h3
    · by_cases hc : (s[0].toNat : Int) = 48 ∧ 1 < s.size
      · exact parseByte_zero s w hc.2 (by omega) hc.1
      · exact parseByte_loop s w (by omega) (by omega) hc
end Go.Proofs.YtegfjdpibpmdmaaGreatDoor
