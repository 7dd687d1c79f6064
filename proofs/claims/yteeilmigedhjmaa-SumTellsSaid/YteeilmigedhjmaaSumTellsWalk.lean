/-
  THE LAW SumTells, walked: at every list of bytes and every three numbers it returns true; what lay in memory stays.
-/
import Derived.Test.YteeilmigedhjmaaSumRef
import Derived.Test.YteeilmigedhjmaaSummed
namespace Go.Proofs.Yteeilmigedhjmaa
open Go.RowKit Go.Lib

set_option maxHeartbeats 400000 in
set_option maxRecDepth 100000 in
theorem sumTells_walk (w : World) (v : Value) (l : List Nat) (s o n : Nat) (hl : l.length ≤ 140737488355328) (hy : Byt l) (h : ArgB w v l) (hs : s < 65536) (ho : o < 65536) (hn : n < 65536) :
    Calls Try.prog 3 #[v, .int .u16 (s : Int), .int .u16 (o : Int), .int .u16 (n : Int)] w fun x w' => x = .returned (.bool true) ∧ Below w.heap.size w w' := by
  have HA := Lib.hid h; have HY := Lib.hid hy; have HL := Lib.hid hl
  have hz := swz_le s o n hn
  have hp := swp_le s o n
  have hf := fd_le (swz s o n)
  have hm := sm_le l
  have HZ : Hid ((65535 : Int) - s + 65535 - o + n = (swz s o n : Int)) := Lib.hid (by unfold swz; omega)
  have HP : Hid ((swp s o n : Int) = 65535 - (fd (swz s o n) : Int)) := Lib.hid (by unfold swp; omega)
  have HF := fun w' => Lib.hid (folded_any w' (swz s o n) (by omega))
  have HW := fun w' => Lib.hid (swap_any w' s o n hs ho hn)
  clear h hy hl
  generalize swz s o n = z at hz hf HZ HP HF
  generalize swp s o n = r at hp HP HW
  generalize fd z = f at hf HP HF
  have HS := fun w' (b : Below w.heap.size w w') => Lib.hid (sum_any w' v l HL.out HY.out (HA.out.below b))
  have HO := fun w' (b : Below w.heap.size w w') => Lib.hid (sumOf_any w' v l HL.out HY.out (HA.out.below b))
  have HR := fun w' (b : Below w.heap.size w w') => Lib.hid (right_any w' v l HL.out HY.out (HA.out.below b))
  clear HA HY HL
  have e0 : ((sm l : Int) == 0) = decide (sm l = 0) := by
    rw [Bool.eq_iff_iff]
    simp
  have HE := Lib.hid e0
  clear e0
  generalize decide (sm l = 0) = q at HE HR
  generalize sm l = m at hm HS HO HE
  have H0 := Lib.hid (summed_any w)
  go_enter Try.func3, Try.ntmps3
  go_wp2_with fail
  refine H0.out.mono ?_
  rintro x w1 ⟨rfl, b1⟩
  have HB1 := Lib.hid b1
  clear b1 H0
  go_wp2_with fail
  rw [HZ.out]
  refine (HF _).out.mono ?_
  rintro x w2 ⟨rfl, b2⟩
  have HB2 := Lib.hid (Below.two HB1.out b2)
  clear b2 HB1 HF
  go_wp2_with fail
  refine (HS _ HB2.out).out.mono ?_
  rintro x w3 ⟨rfl, b3⟩
  have HB3 := Lib.hid (Below.two HB2.out b3)
  clear b3 HB2 HS
  go_wp2_with fail
  refine (HO _ HB3.out).out.mono ?_
  rintro x w4 ⟨rfl, b4⟩
  have HB4 := Lib.hid (Below.two HB3.out b4)
  clear b4 HB3
  go_wp2_with fail
  refine (HR _ HB4.out).out.mono ?_
  rintro x w5 ⟨rfl, b5⟩
  have HB5 := Lib.hid (Below.two HB4.out b5)
  clear b5 HB4
  go_wp2_with fail
  refine (HO _ HB5.out).out.mono ?_
  rintro x w6 ⟨rfl, b6⟩
  have HB6 := Lib.hid (Below.two HB5.out b6)
  have e0 := HE.out
  have e1 : (q == q) = true := by simp
  clear b6 HB5 HE
  go_wp2_with fail
  refine (HW _).out.mono ?_
  rintro x w7 ⟨rfl, b7⟩
  have HB7 := Lib.hid (Below.two HB6.out b7)
  have e2 := HP.out
  clear b7 HB6
  go_wp2_with fail
  go_ret
  exact ⟨rfl, HB7.out⟩
end Go.Proofs.Yteeilmigedhjmaa
