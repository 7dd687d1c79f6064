/-
  THE LAW SumJoins, walked: at every two lists of bytes that a slice takes together it returns true; what lay in memory stays.
-/
import Derived.Test.YteeilmigedhjmaaSummed
import Derived.Test.YteeilmigedhjmaaByteJoin
namespace Go.Proofs.Yteeilmigedhjmaa
open Go.RowKit Go.Lib

set_option maxHeartbeats 400000 in
set_option maxRecDepth 100000 in
theorem sumJoins_walk (w : World) (va vb : Value) (a b : List Nat) (hlen : a.length + b.length ≤ 140737488355328) (hA : ArgB w va a) (hB : ArgB w vb b) (sa : Sl va) (sb : Sl vb) (hy : Byt a) (hz : Byt b) :
    Calls Try.prog 7 #[va, vb] w fun x w' => x = .returned (.bool true) ∧ Below w.heap.size w w' := by
  have HA := Lib.hid hA; have HB := Lib.hid hB; have SA := Lib.hid sa; have SB := Lib.hid sb; have HY := Lib.hid hy; have HZ := Lib.hid hz
  have H0 := Lib.hid (four_sum w)
  obtain ⟨pa, ca, ea, -, -⟩ := hA
  obtain ⟨pb, cb, eb, -, -⟩ := hB
  subst ea eb
  clear sa sb hy hz
  go_enter Try.func7, Try.ntmps7
  go_wp2_with fail
  refine H0.out.mono ?_
  rintro x w1 ⟨rfl, b1⟩
  have HB1 := Lib.hid b1
  clear b1 H0
  by_cases h1 : a.length % 2 = 0
  · have e1 : Int.tmod (a.length : Int) 2 = 0 := by rw [Int.tmod_eq_emod_of_nonneg (by omega)]; omega
    have HQ := Lib.hid (sm_two a b h1)
    have HS := Lib.hid (sum_any w1 (.slice pa a.length ca) a (by omega) HY.out (HA.out.below HB1.out))
    have hm := sm_le a
    have hk := sm_le b
    clear h1
    go_wp2_with fail
    refine HS.out.mono ?_
    rintro x w2 ⟨rfl, b2⟩
    have HB2 := Lib.hid (Below.two HB1.out b2)
    have HS := Lib.hid (sum_any w2 (.slice pb b.length cb) b (by omega) HZ.out (HB.out.below HB2.out))
    clear b2
    have HJ : Hid ((65535 : Int) - (sm a : Int) + 65535 - (sm b : Int) = ((65535 - sm a + (65535 - sm b) : Nat) : Int)) := Lib.hid (by omega)
    have HF := fun w' => Lib.hid (folded_any w' (65535 - sm a + (65535 - sm b)) (by omega))
    have hf := fd_le (65535 - sm a + (65535 - sm b))
    generalize 65535 - sm a + (65535 - sm b) = z at HJ HF hf HQ
    generalize sm a = m at hm HJ ⊢
    go_wp2_with fail
    refine HS.out.mono ?_
    rintro x w3 ⟨rfl, b3⟩
    have HB3 := Lib.hid (Below.two HB2.out b3)
    generalize sm b = k at hk HJ ⊢
    clear b3 HS
    go_wp2_with fail
    rw [HJ.out]
    refine (HF _).out.mono ?_
    rintro x w4 ⟨rfl, b4⟩
    have HB4 := Lib.hid (Below.two HB3.out b4)
    clear b4 HF
    generalize fd z = f at hf HQ
    have HO5 := Lib.hid (OwnB.empty w4)
    have HB5 := Lib.hid (Below.two HB4.out (below_alloc w4 #[] 5))
    have hw4 := HB4.out.size
    go_wp2_with (at_builtin; refine wpList_plain rfl fun _ hK => wp_append_BV _ _ rfl w4.heap.size (.slice (some ⟨w4.heap.size, 0, none⟩) 0 0) (.slice pa a.length ca) [] a rfl rfl HO5.out ?q1 SA.out ?q2 ?q3 ?_)
    case q1 => exact HA.out.below HB5.out
    case q2 => simp only [List.length_nil]; omega
    case q3 => simp
    intro v6 w6 o6 b6
    refine hK _ _ ?_
    clear hK
    have HB6 := Lib.hid (HB5.out.trans (b6.mono hw4))
    have z6 : w4.heap.size ≤ w6.heap.size := Nat.le_trans (by simp) b6.size
    have HO6 := Lib.hid o6
    clear b6 o6 HO5
    go_wp2_with (at_builtin; refine wpList_plain rfl fun _ hK => wp_append_BV _ _ rfl w4.heap.size v6 (.slice pb b.length cb) ([] ++ a) b rfl rfl HO6.out ?r1 SB.out ?r2 z6 ?_)
    case r1 => exact HB.out.below HB6.out
    case r2 => simpa using hlen
    intro v7 w7 o7 b7
    refine hK _ _ ?_
    clear hK
    have HB7 := Lib.hid (HB6.out.trans (b7.mono hw4))
    have HS := Lib.hid (sum_any w7 v7 (a ++ b) (by rw [List.length_append]; exact hlen) (HY.out.app HZ.out) o7.arg)
    have HE : Hid ((sm (a ++ b) : Int) = 65535 - (f : Int)) := Lib.hid (by rw [HQ.out]; omega)
    have hs := sm_le (a ++ b)
    generalize sm (a ++ b) = s at HS HE hs
    clear b7 o7 HO6 HQ
    go_wp2_with fail
    refine HS.out.mono ?_
    rintro x w8 ⟨rfl, b8⟩
    have HB8 := Lib.hid (Below.two HB7.out b8)
    have e := HE.out
    clear b8 HS HE
    go_wp2_with fail
    go_ret
    exact ⟨rfl, HB8.out⟩
  · have e1 : Int.tmod (a.length : Int) 2 = 1 := by rw [Int.tmod_eq_emod_of_nonneg (by omega)]; omega
    go_wp2_with fail
    go_ret
    exact ⟨rfl, HB1.out⟩
end Go.Proofs.Yteeilmigedhjmaa
