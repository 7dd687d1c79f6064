/-
  THE LAW SumSets, walked: at every list of bytes that a slice takes with two more and every number it returns true; what lay in memory stays.
-/
import Derived.Test.YteeilmigedhjmaaSummed
import Derived.Test.YteeilmigedhjmaaByteJoin
namespace Go.Proofs.Yteeilmigedhjmaa
open Go.RowKit Go.Lib

theorem two_byt (n : Nat) (h : n < 65536) : Byt [n / 256, n % 256] := fun x hx => by
  simp at hx
  omega
theorem two_cells (n : Nat) : [Value.int .u8 ((n : Int) / 256), Value.int .u8 ((n : Int) % 256)] = cellsB [n / 256, n % 256] := by
  simp only [cellsB, List.map_cons, List.map_nil]
  congr 3 <;> omega

set_option maxHeartbeats 400000 in
set_option maxRecDepth 100000 in
theorem sumSets_walk (w : World) (v : Value) (l : List Nat) (o : Nat) (ho : o < 65536) (hlen : l.length + 2 ≤ 140737488355328) (hA : ArgB w v l) (sa : Sl v) (hy : Byt l) :
    Calls Try.prog 5 #[v, .int .u16 (o : Int)] w fun x w' => x = .returned (.bool true) ∧ Below w.heap.size w w' := by
  have HA := Lib.hid hA; have SA := Lib.hid sa; have HY := Lib.hid hy
  have H0 := Lib.hid (summed_any w)
  obtain ⟨pa, ca, ea, -, -⟩ := hA
  subst ea
  clear sa hy
  go_enter Try.func5, Try.ntmps5
  go_wp2_with fail
  refine H0.out.mono ?_
  rintro x w1 ⟨rfl, b1⟩
  have HB1 := Lib.hid b1
  clear b1 H0
  by_cases h1 : l.length % 2 = 0
  · have e1 : Int.tmod (l.length : Int) 2 = 0 := by rw [Int.tmod_eq_emod_of_nonneg (by omega)]; omega
    have HR := Lib.hid (sm_right l h1)
    have HO := Lib.hid (sm_other l o ho h1)
    have hm := sm_le l
    have HS := Lib.hid (sum_any w1 (.slice pa l.length ca) l (by omega) HY.out (HA.out.below HB1.out))
    clear h1
    generalize sm l = s at HR HO hm HS
    go_wp2_with fail
    refine HS.out.mono ?_
    rintro x w2 ⟨rfl, b2⟩
    have HB2 := Lib.hid (Below.two HB1.out b2)
    clear b2 HS
    have HO3 := Lib.hid (OwnB.empty w2)
    have HB3 := Lib.hid (Below.two HB2.out (below_alloc w2 #[] 5))
    have hw2 := HB2.out.size
    go_wp2_with (at_builtin; refine wpList_plain rfl fun _ hK => wp_append_BV _ _ rfl w2.heap.size (.slice (some ⟨w2.heap.size, 0, none⟩) 0 0) (.slice pa l.length ca) [] l rfl rfl HO3.out ?q1 SA.out ?q2 ?q3 ?_)
    case q1 => exact HA.out.below HB3.out
    case q2 => simp only [List.length_nil]; omega
    case q3 => simp
    intro v4 w4 o4 b4
    refine hK _ _ ?_
    clear hK
    have HB4 := Lib.hid (HB3.out.trans (b4.mono hw2))
    have z4 : w2.heap.size ≤ w4.heap.size := Nat.le_trans (by simp) b4.size
    have HO4 := Lib.hid o4
    clear b4 o4 HO3
    go_wp2_with (at_builtin; refine wpList_plain rfl fun _ hK => wp_append_B _ _ rfl w2.heap.size v4 ([] ++ l) [s / 256, s % 256] ⟨w4.heap.size, 0, none⟩ 2 2 rfl rfl ?r1 rfl (by omega) ?r2 (by simpa using hlen) ?r3 ?_)
    case r1 => exact HO4.out.keep (below_alloc w4 _ _)
    case r2 => exact laidB w4 [s / 256, s % 256] _ _ (two_cells s)
    case r3 => exact Nat.le_trans z4 (by simp)
    intro v5 w5 o5 a5
    refine hK _ _ ?_
    clear hK
    have b5 := a5.below (n := w2.heap.size) (fun j hj => (HO4.out.lt j hj).1) (Nat.le_trans z4 (by simp))
    have HB5 := Lib.hid ((Below.two HB4.out (below_alloc w4 _ _)).trans (b5.mono hw2))
    have HX := Lib.hid o5.arg
    clear o5 a5 b5 HO4 z4
    have HO6 := Lib.hid (OwnB.empty w5)
    have HC6 := Lib.hid (below_alloc w5 #[] 5)
    go_wp2_with (at_builtin; refine wpList_plain rfl fun _ hK => wp_append_BV _ _ rfl w5.heap.size (.slice (some ⟨w5.heap.size, 0, none⟩) 0 0) (.slice pa l.length ca) [] l rfl rfl HO6.out ?q1 SA.out ?q2 ?q3 ?_)
    case q1 => exact HA.out.below (Below.two HB5.out HC6.out)
    case q2 => simp only [List.length_nil]; omega
    case q3 => simp
    intro v7 w7 o7 b7
    refine hK _ _ ?_
    clear hK
    have HC7 := Lib.hid (HC6.out.trans b7)
    have z7 : w5.heap.size ≤ w7.heap.size := Nat.le_trans (by simp) b7.size
    have HO7 := Lib.hid o7
    clear b7 o7 HO6 HC6
    go_wp2_with (at_builtin; refine wpList_plain rfl fun _ hK => wp_append_B _ _ rfl w5.heap.size v7 ([] ++ l) [o / 256, o % 256] ⟨w7.heap.size, 0, none⟩ 2 2 rfl rfl ?r1 rfl (by omega) ?r2 (by simpa using hlen) ?r3 ?_)
    case r1 => exact HO7.out.keep (below_alloc w7 _ _)
    case r2 => exact laidB w7 [o / 256, o % 256] _ _ (two_cells o)
    case r3 => exact Nat.le_trans z7 (by simp)
    intro v8 w8 o8 a8
    refine hK _ _ ?_
    clear hK
    have b8 := a8.below (n := w5.heap.size) (fun j hj => (HO7.out.lt j hj).1) (Nat.le_trans z7 (by simp))
    have HC8 := Lib.hid ((Below.two HC7.out (below_alloc w7 _ _)).trans b8)
    have HV := Lib.hid o8.arg
    clear o8 a8 b8 HO7 z7 HC7
    have HT := Lib.hid (right_any w8 v5 (l ++ [s / 256, s % 256]) (by simpa using hlen) (HY.out.app (two_byt s (by omega))) (HX.out.below HC8.out))
    rw [HR.out] at HT
    go_wp2_with fail
    refine HT.out.mono ?_
    rintro x w9 ⟨rfl, b9⟩
    have HB9 := Lib.hid (Below.two HB5.out (HC8.out.trans (b9.mono HC8.out.size)))
    have HT := Lib.hid (right_any w9 v8 (l ++ [o / 256, o % 256]) (by simpa using hlen) (HY.out.app (two_byt o ho)) (HV.out.below b9))
    clear b9 HV HX HC8 HR
    have q0 : decide ((0 : Nat) = 0) = true := rfl
    go_wp2_with fail
    refine HT.out.mono ?_
    rintro x w10 ⟨rfl, b10⟩
    have HB10 := Lib.hid (Below.two HB9.out b10)
    clear b10 HT HB9 q0
    have eo : Int.tmod (o : Int) 65535 = ((o % 65535 : Nat) : Int) := by rw [Int.tmod_eq_emod_of_nonneg (by omega)]; omega
    have es : Int.tmod (s : Int) 65535 = ((s % 65535 : Nat) : Int) := by rw [Int.tmod_eq_emod_of_nonneg (by omega)]; omega
    by_cases c1 : o % 65535 = s % 65535
    · by_cases c2 : s = 65535
      · by_cases c3 : o = 0
        · have eq : decide (sm (l ++ [o / 256, o % 256]) = 0) = false := decide_eq_false fun h => by
            have := (HO.out.1 h).2
            omega
          rw [eq]
          subst c2 c3
          clear HO eq eo es c1
          go_wp2_with fail
          go_ret
          exact ⟨rfl, HB10.out⟩
        · have eq : decide (sm (l ++ [o / 256, o % 256]) = 0) = true := decide_eq_true (HO.out.2 ⟨c1, Or.inr c3⟩)
          rw [eq]
          subst c2
          have HT3 : Hid (((o : Int) != 0) = true) := Lib.hid (by
            have : ¬ (o : Int) = 0 := by omega
            simpa using this)
          rw [c1] at eo
          clear HO eq c1
          go_wp2_with fail
          go_ret
          exact ⟨by show Ending.returned (Value.bool ((o : Int) != 0)) = _; rw [HT3.out], HB10.out⟩
      · have eq : decide (sm (l ++ [o / 256, o % 256]) = 0) = true := decide_eq_true (HO.out.2 ⟨c1, Or.inl c2⟩)
        rw [eq]
        have t2 : ((s : Int) == 65535) = false := by
          have : ¬ (s : Int) = 65535 := by omega
          simpa using this
        rw [c1] at eo
        clear HO eq c1
        generalize s % 65535 = y at eo es
        go_wp2_with fail
        go_ret
        exact ⟨rfl, HB10.out⟩
    · have eq : decide (sm (l ++ [o / 256, o % 256]) = 0) = false := decide_eq_false fun h => c1 (HO.out.1 h).1
      rw [eq]
      have t1 : (((o % 65535 : Nat) : Int) == ((s % 65535 : Nat) : Int)) = false := by
        have : ¬ ((o % 65535 : Nat) : Int) = ((s % 65535 : Nat) : Int) := by omega
        simpa using this
      clear HO eq c1
      generalize o % 65535 = x at eo t1
      generalize s % 65535 = y at es t1
      go_wp2_with fail
      go_ret
      exact ⟨rfl, HB10.out⟩
  · have e1 : Int.tmod (l.length : Int) 2 = 1 := by rw [Int.tmod_eq_emod_of_nonneg (by omega)]; omega
    go_wp2_with fail
    go_ret
    exact ⟨rfl, HB1.out⟩
end Go.Proofs.Yteeilmigedhjmaa
