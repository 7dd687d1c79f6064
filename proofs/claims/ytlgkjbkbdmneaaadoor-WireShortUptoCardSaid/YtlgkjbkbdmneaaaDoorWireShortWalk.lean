/-
  THE LAW WireShort, walked: at every two lists of bytes that a slice takes together it returns true; what lay in memory stays.
-/
import Derived.Test.YtlgkjbkbdmneaaaDoorWired
import Derived.Test.YtlgkjbkbdmneaaaDoorWireDec
import Derived.Test.YtlgkjbkbdmneaaaDoorErrOne
import Derived.Test.YtlgkjbkbdmneaaaDoorByteArg
namespace Go.Proofs.YtlgkjbkbdmneaaaDoor
open Go.RowKit Go.Lib

theorem dec_more {b s : List Nat} {ask ask' : Bool} {l l' : List En} {k k' : Int} (h : DecIs b ask l k) (h' : DecIs (b ++ s) ask' l' k') : k ≠ 3 ∨ k' = 3 := by
  rcases h with ⟨rfl, _⟩ | ⟨rfl, _⟩ | ⟨rfl, _, _, hn⟩
  · exact Or.inl (by decide)
  · exact Or.inl (by decide)
  · right
    rcases h' with ⟨_, g, e⟩ | ⟨_, _, _, hp, _⟩ | ⟨hk, _⟩
    · exact absurd (Pre.back (s := s) (IsEnc.pre ⟨_, _, g, e⟩)) hn
    · exact absurd (Pre.back hp) hn
    · exact hk

set_option maxHeartbeats 400000 in
set_option maxRecDepth 100000 in
theorem wireShort_walk (w : World) (vb vm : Value) (bl ml : List Nat) (hlen : bl.length + ml.length ≤ 140737488355328) (hB : ArgB w vb bl) (hM : ArgB w vm ml) (sb : Sl vb) (sm : Sl vm) (hy : Byt bl) (hz : Byt ml) (hT : ErrType w) :
    Calls Tryd.prog 5 #[vb, vm] w fun x w' => x = .returned (.bool true) ∧ Below w.heap.size w w' := by
  have HB := Lib.hid hB; have HM := Lib.hid hM; have HY := Lib.hid hy; have HZ := Lib.hid hz; have HET := Lib.hid hT; have SB := Lib.hid sb; have SM := Lib.hid sm
  have HW := Lib.hid (wired_any w)
  clear hB hM hy hz hT sb sm
  go_enter Tryd.func5, Tryd.ntmps5
  go_wp2_with fail
  refine HW.out.mono ?_
  rintro x w1 ⟨rfl, b1⟩
  have HT1 := Lib.hid b1
  have HD := Lib.hid (decode_any w1 vb bl (by omega) HY.out (HB.out.below HT1.out))
  clear b1 HW
  go_wp2_with fail
  refine HD.out.mono ?_
  rintro x w2 ⟨ask2, v2, l2, k2, rfl, dec2, o2, b2⟩
  obtain ⟨p2, c2, hv2, -, -⟩ := o2.arg
  subst hv2
  have B3 := (Below.refl _ w2).alloc (Nat.le_refl _) (.cells #[.bool ask2, .slice p2 l2.length c2] 24)
  have HT3 := Lib.hid (Below.two (Below.two HT1.out b2) B3)
  have HK2 := Lib.hid dec2
  clear HD o2 b2 B3 dec2
  have z3 : (w2.alloc (.cells #[.bool ask2, .slice p2 l2.length c2] 24)).heap.size = w2.heap.size + 1 := by simp
  have B4 := (Below.refl _ (w2.alloc (.cells #[.bool ask2, .slice p2 l2.length c2] 24))).alloc (Nat.le_refl _) (.cells #[] 5)
  have o4 := OwnB.made (w2.alloc (.cells #[.bool ask2, .slice p2 l2.length c2] 24)) (w2.heap.size + 1) [] #[] rfl (by omega) (by decide)
  rw [z3] at o4
  have HO4 := Lib.hid o4
  have HT4 := Lib.hid (Below.two HT3.out B4)
  have z4 := B4.size
  rw [z3] at z4
  have hw2 := HT3.out.size
  rw [z3] at hw2
  clear o4 B4
  go_wp2_with (at_builtin; refine wpList_plain rfl fun _ hK => wp_append_BV _ _ rfl (w2.heap.size + 1) (.slice (some ⟨w2.heap.size + 1, 0, none⟩) 0 0) vb [] bl rfl rfl HO4.out ?q1 SB.out ?q2 z4 ?_)
  case q1 => exact HB.out.below HT4.out
  case q2 => simpa using (show bl.length ≤ 140737488355328 by omega)
  intro v5 w5 o5 b5
  refine hK _ _ ?_
  clear hK
  have HT5 := Lib.hid (HT4.out.trans (b5.mono (show w.heap.size ≤ w2.heap.size + 1 by omega)))
  have HO5 := Lib.hid o5
  have z5 : w2.heap.size + 1 ≤ w5.heap.size := Nat.le_trans z4 b5.size
  clear b5 o5 HO4
  go_wp2_with (at_builtin; refine wpList_plain rfl fun _ hK => wp_append_BV _ _ rfl (w2.heap.size + 1) v5 vm ([] ++ bl) ml rfl rfl HO5.out ?r1 SM.out ?r2 z5 ?_)
  case r1 => exact HM.out.below HT5.out
  case r2 => simpa using hlen
  intro v6 w6 o6 b6
  refine hK _ _ ?_
  clear hK
  have HT6 := Lib.hid (HT5.out.trans (b6.mono (show w.heap.size ≤ w2.heap.size + 1 by omega)))
  have HD := Lib.hid (decode_any w6 v6 (bl ++ ml) (by rw [List.length_append]; omega) (HY.out.app HZ.out) o6.arg)
  clear b6 o6 HO5
  go_wp2_with fail
  refine HD.out.mono ?_
  rintro x w7 ⟨ask7, v7, l7, k7, rfl, dec7, o7, b7⟩
  obtain ⟨p7, c7, hv7, -, -⟩ := o7.arg
  subst hv7
  have B8 := (Below.refl _ w7).alloc (Nat.le_refl _) (.cells #[.bool ask7, .slice p7 l7.length c7] 24)
  have HT8 := Lib.hid (Below.two (Below.two HT6.out b7) B8)
  have hor := dec_more HK2.out dec7
  have HS := Lib.hid (sameErr_any k2 3 _ (HET.out.below HT8.out))
  clear HD o7 b7 B8 dec7 HK2
  generalize errV k2 = e2 at HS ⊢
  rcases hor with hk | rfl
  · have h3 : (k2 == 3) = false := by simpa using hk
    rw [h3] at HS
    generalize errV k7 = e7
    clear hk h3
    go_wp2_with fail
    refine HS.out.mono ?_
    rintro x w9 ⟨rfl, b9⟩
    have HT9 := Lib.hid (Below.two HT8.out b9)
    clear b9 HS
    go_wp2_with fail
    go_ret
    exact ⟨rfl, HT9.out⟩
  · rw [show errV 3 = Value.iface 27 (.int .i64 3) from rfl]
    generalize (k2 == 3) = q at HS
    go_wp2_with fail
    refine HS.out.mono ?_
    rintro x w9 ⟨rfl, b9⟩
    have HT9 := Lib.hid (Below.two HT8.out b9)
    clear b9 HS
    cases q
    · go_wp2_with fail
      go_ret
      exact ⟨rfl, HT9.out⟩
    · go_wp2_with fail
      go_ret
      exact ⟨rfl, HT9.out⟩
end Go.Proofs.YtlgkjbkbdmneaaaDoor
