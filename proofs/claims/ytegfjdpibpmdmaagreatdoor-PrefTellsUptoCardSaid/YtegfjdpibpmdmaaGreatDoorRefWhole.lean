/-
  The document's answer Whole tells the number whose decimal digits a text is, up to 2^30, or -1; what lay in memory stays. No condition.
-/
import Derived.Test.YtegfjdpibpmdmaaGreatDoorAddrByte
import Derived.Test.YtegfjdpibpmdmaaGreatDoorRefDigits
import Derived.Lib.Strings
namespace Go.Proofs.YtegfjdpibpmdmaaGreatDoor
open Go.RowKit

/-- Is a text the digits of a number up to 2^30? -/
def WholeP.ok (l : List UInt8) : Bool := !(l.length == 0 || decide (10 < l.length)) && l.all AddrP.isDig && !decide (1073741824 < AddrP.num l) && (Lib.decDigits (AddrP.num l) == l)
def WholeP.whole (l : List UInt8) : Int := if WholeP.ok l then (AddrP.num l : Int) else -1
def WholeP.Told (s : ByteArray) (w : World) (e : Ending) (w' : World) : Prop := e = .returned (.int .i64 (WholeP.whole s.data.toList)) ∧ Below w.heap.size w w'

theorem WholeP.no {s : ByteArray} {w w' : World} (h : WholeP.ok s.data.toList = false) (hb : Below w.heap.size w w') : WholeP.Told s w (.returned (.int .i64 (-1))) w' := by
  unfold WholeP.Told WholeP.whole
  rw [h]; exact ⟨rfl, hb⟩
theorem WholeP.yes {s : ByteArray} {w w' : World} {n : Int} (h : WholeP.ok s.data.toList = true) (hn : n = (AddrP.num s.data.toList : Nat)) (hb : Below w.heap.size w w') : WholeP.Told s w (.returned (.int .i64 n)) w' := by
  unfold WholeP.Told WholeP.whole
  rw [h, hn]; exact ⟨rfl, hb⟩
theorem WholeP.short {s : ByteArray} (h : s.size < 1) : WholeP.ok s.data.toList = false := by
  unfold WholeP.ok
  rw [AddrP.size_len]
  have : s.size = 0 := by omega
  simp [this]
theorem WholeP.long {s : ByteArray} (h : 10 < s.size) : WholeP.ok s.data.toList = false := by
  unfold WholeP.ok
  rw [AddrP.size_len]
  simp [h]
theorem WholeP.nondig {s : ByteArray} {k : Nat} (hk : k < s.size) (h : (s[k].toNat : Int) < 48 ∨ 57 < (s[k].toNat : Int)) : WholeP.ok s.data.toList = false := by
  have hd : AddrP.isDig s[k] = false := by
    cases e : AddrP.isDig s[k] with
    | false => rfl
    | true => have := (AddrP.isDig_iff s[k]).1 e; omega
  have ha : s.data.toList.all AddrP.isDig = false := by
    cases e : s.data.toList.all AddrP.isDig with
    | false => rfl
    | true =>
      have hm : s[k] ∈ s.data.toList := by
        rw [show s[k] = s.data.toList[k]'(by rw [AddrP.size_len]; exact hk) from rfl]
        exact List.getElem_mem _
      rw [List.all_eq_true.1 e _ hm] at hd
      cases hd
  unfold WholeP.ok
  rw [ha]
  simp
theorem WholeP.num_lt {s : ByteArray} {k : Nat} (hk : k ≤ 10) (h : (s.data.toList.take k).all AddrP.isDig = true) : AddrP.num (s.data.toList.take k) < 10000000000 := by
  have h1 := AddrP.numFrom_lt _ 0 h
  have hl : (s.data.toList.take k).length ≤ 10 := Nat.le_trans (List.length_take_le _ _) hk
  have h2 : 10 ^ (s.data.toList.take k).length ≤ 10000000000 := Nat.le_trans (Nat.pow_le_pow_right (by decide) hl) (by decide)
  unfold AddrP.num
  omega
/-- The loop: the number of the digits so far, and that they are digits. -/
def WholeP.Rel (s : ByteArray) (n i : Value) : Prop :=
  ∃ k : Nat, k ≤ s.size ∧ i = .int .i64 k ∧ n = .int .i64 (AddrP.num (s.data.toList.take k) : Nat) ∧ (s.data.toList.take k).all AddrP.isDig = true
theorem WholeP.rel_step {s : ByteArray} {k : Nat} {n : Int} (hk : k < s.size) (ha : (s.data.toList.take k).all AddrP.isDig = true) (h1 : 48 ≤ (s[k].toNat : Int)) (h2 : (s[k].toNat : Int) ≤ 57)
    (hn : n = 10 * ((AddrP.num (s.data.toList.take k) : Nat) : Int) + ((s[k].toNat : Int) - 48)) : WholeP.Rel s (.int .i64 n) (.int .i64 ((k : Int) + 1)) := by
  refine ⟨k + 1, hk, by simp, ?_, ?_⟩
  · rw [AddrP.take_snoc s k hk, hn]
    unfold AddrP.num
    rw [AddrP.numFrom_snoc]
    have e : 10 * ((AddrP.numFrom 0 (s.data.toList.take k) : Nat) : Int) + ((s[k].toNat : Int) - 48) = ((AddrP.numFrom 0 (s.data.toList.take k) * 10 + (s[k].toNat - 48) : Nat) : Int) := by omega
    rw [e]
  · rw [AddrP.take_snoc s k hk, List.all_append, ha]
    simpa using (AddrP.isDig_iff s[k]).2 ⟨h1, h2⟩
theorem WholeP.fin {s : ByteArray} {k : Nat} (hge : s.size ≤ k) (h0 : 0 < s.size) (h10 : s.size ≤ 10) (ha : (s.data.toList.take k).all AddrP.isDig = true) :
    s.data.toList.take k = s.data.toList ∧ WholeP.ok s.data.toList = (!decide (1073741824 < AddrP.num s.data.toList) && (Lib.decDigits (AddrP.num s.data.toList) == s.data.toList)) := by
  have e : s.data.toList.take k = s.data.toList := List.take_of_length_le (by rw [AddrP.size_len]; omega)
  rw [e] at ha
  refine ⟨e, ?_⟩
  unfold WholeP.ok
  rw [ha, AddrP.size_len]
  have : (s.size == 0 || decide (10 < s.size)) = false := by
    rw [Bool.or_eq_false_iff]
    exact ⟨beq_eq_false_iff_ne.2 (by omega), decide_eq_false (by omega)⟩
  rw [this]
  simp

set_option maxHeartbeats 400000 in
theorem whole_short (s : ByteArray) (w : World) (h : s.size < 1) :
    Calls Tryz.prog 29 #[.string s] w (WholeP.Told s w) := by
  have hz : ((s.size : Int) == 0) = true := beq_iff_eq.2 (by omega)
  go_enter Tryz.func29, Tryz.ntmps29
  go_wp2_with fail
  go_ret
  exact WholeP.no (WholeP.short h) (Below.refl _ _)
set_option maxHeartbeats 400000 in
theorem whole_long (s : ByteArray) (w : World) (h : 10 < s.size) :
    Calls Tryz.prog 29 #[.string s] w (WholeP.Told s w) := by
  have hz : ((s.size : Int) == 0) = false := beq_eq_false_iff_ne.2 (by omega)
  go_enter Tryz.func29, Tryz.ntmps29
  go_wp2_with fail
  go_ret
  exact WholeP.no (WholeP.long h) (Below.refl _ _)

set_option maxHeartbeats 400000 in
theorem whole_loop (s : ByteArray) (w : World) (h : 0 < s.size) (h10 : s.size ≤ 10) :
    Calls Tryz.prog 29 #[.string s] w (WholeP.Told s w) := by
  have hz : ((s.size : Int) == 0) = false := beq_eq_false_iff_ne.2 (by omega)
  go_enter Tryz.func29, Tryz.ntmps29
  go_wp2_with fail
  go_loop [3, 4] (fun n i => WholeP.Rel s n i) (fun _ i => s.size - (intOf i).toNat)
  case atStart => exact ⟨0, Nat.zero_le _, rfl, rfl, rfl⟩
  case round =>
    obtain ⟨k, hk, rfl, rfl, hall⟩ := hrel
    have hnum := WholeP.num_lt (show k ≤ 10 by omega) hall
    have HA := Lib.hid hall; clear hall
    by_cases hlt : k < s.size
    · go_wp2_with fail
      · go_ret
        exact WholeP.no (WholeP.nondig hlt ‹_›) (Below.refl _ _)
      · exact ⟨WholeP.rel_step hlt HA.out (by omega) (by omega) rfl, by simp [intOf]; omega⟩
      · go_ret
        exact WholeP.no (WholeP.nondig hlt (Or.inl ‹_›)) (Below.refl _ _)
    · have hgt : s.size ≤ k := by omega
      obtain ⟨e1, e2⟩ := WholeP.fin hgt h h10 HA.out
      rw [e1] at hnum ⊢
      have E1 := Lib.hid e1; have E2 := Lib.hid e2; clear e1 e2
      generalize hgm : AddrP.num s.data.toList = m at hnum E2
      have HG := Lib.hid hgm; clear hgm
      by_cases hm : 1073741824 < m
      · go_wp2_with fail
        go_ret
        exact WholeP.no (by rw [E2.out, decide_eq_true hm]; rfl) (Below.refl _ _)
      · go_wp2_with fail
        refine (digits_any m _ (by omega)).mono ?_
        rintro e w1 ⟨rfl, hb1⟩
        by_cases he : (⟨(Lib.decDigits m).toArray⟩ : ByteArray) = s
        · rw [he]
          have HE := Lib.hid he; clear he
          go_wp2_with fail
          go_ret
          exact WholeP.yes (by rw [E2.out, ← HE.out]; simp; omega) (by rw [HG.out]) hb1
        · have hq : (Lib.decDigits m == s.toList) = false := beq_eq_false_iff_ne.2 fun e => he (by
            apply ByteArray.ext
            apply Array.toList_inj.1
            rw [Lib.toList_data] at e
            exact e)
          have hq' : (Lib.decDigits m == s.data.toList) = false := by rw [← Lib.toList_data]; exact hq
          have HQ := Lib.hid hq'; clear he hq'
          go_wp2_with fail
          go_ret
          exact WholeP.no (by rw [E2.out, HQ.out]; simp) hb1

/-- Whole, whatever the text. -/
theorem whole_any (s : ByteArray) (w : World) : Calls Tryz.prog 29 #[.string s] w (WholeP.Told s w) := by
  by_cases h0 : s.size < 1
  · exact whole_short s w h0
  · by_cases h10 : 10 < s.size
    · exact whole_long s w h10
    · exact whole_loop s w (by omega) (by omega)
end Go.Proofs.YtegfjdpibpmdmaaGreatDoor
