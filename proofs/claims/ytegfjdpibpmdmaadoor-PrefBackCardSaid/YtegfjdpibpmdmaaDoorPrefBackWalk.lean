/-
  The statement PrefBack's function answers true at every network and every text; what lay in memory stays. Conditions: the library's listed variables are as its text lays them, the text is within the form's reach.
-/
import Derived.Test.YtegfjdpibpmdmaaDoorPrefKnown
namespace Go.Proofs.YtegfjdpibpmdmaaDoor
open Go.RowKit

/-- A text is no right network's, or one's. -/
theorem told_of (s : ByteArray) : (∀ a n, ¬ PrefP.Is s.data.toList a n) ∨ ∃ b m, PrefP.Is s.data.toList b m := by
  by_cases h : ∃ b m, PrefP.Is s.data.toList b m
  · exact Or.inr h
  · exact Or.inl fun a n hi => h ⟨a, n, hi⟩

set_option maxHeartbeats 1000000 in
theorem back_tail_bad (a : Nat) (l : Int) (z : Int) (s : ByteArray) (w : World) (hs : s.size ≤ 140737488355328) (hw : Spell w)
    (hc : ∀ w, Calls Tryd.prog 12 #[.agg #[.int .u32 a, .int .i64 l]] w fun e w' => e = .returned (.iface 42 (.int .i64 z)) ∧ Below w.heap.size w w') :
    Calls Tryd.prog 3 #[.agg #[.int .u32 a, .int .i64 l], .string s] w fun e w' => e = .returned (.bool true) ∧ Below w.heap.size w w' := by
  have HW := Lib.hid hw; clear hw
  have HC := Lib.hid hc; clear hc
  rcases told_of s with h | ⟨b, m, h⟩
  · have HP := Lib.hid (fun w hw => netParse_not s w hs h hw); clear h
    go_enter Tryd.func3, Tryd.ntmps3
    go_wp2_with fail
    refine (known_any _ (HW.out.below ((Below.refl _ _).alloc (Nat.le_refl _) _))).mono ?_
    rintro e w1 ⟨rfl, hb⟩
    obtain ⟨B1, H1⟩ := box1 hb; clear hb
    have A1 := Lib.hid B1; clear B1
    go_wp2_with fail
    refine (HP.out _ (HW.out.below H1)).mono ?_
    rintro e w2 ⟨rfl, hb2⟩
    have A2 := Lib.hid (A1.out.kept hb2)
    have H2 := Below.two H1 hb2
    clear A1 H1 hb2
    obtain ⟨la, a0, a1, _, _⟩ := A2.out
    go_wp2_with fail
    refine (HC.out _).mono ?_
    rintro e w3 ⟨rfl, hb3⟩
    go_wp2_with fail
    go_ret
    exact ⟨rfl, Below.two (H2.alloc H2.size _) hb3⟩
  · obtain ⟨hb, hm, hd, ht⟩ := id h
    have HP := Lib.hid (fun w hw => netParse_is s b m w h hw); clear h
    obtain rfl := PrefP.bytes_eq ht.symm
    have HK := Lib.hid (check_ok b m hb hm hd); clear hd ht hs
    go_enter Tryd.func3, Tryd.ntmps3
    go_wp2_with fail
    refine (known_any _ (HW.out.below ((Below.refl _ _).alloc (Nat.le_refl _) _))).mono ?_
    rintro e w1 ⟨rfl, hq⟩
    obtain ⟨B1, H1⟩ := box1 hq; clear hq
    have A1 := Lib.hid B1; clear B1
    go_wp2_with fail
    refine (HP.out _ (HW.out.below H1)).mono ?_
    rintro e w2 ⟨rfl, hb2⟩
    have A2 := Lib.hid (A1.out.kept hb2)
    have H2 := Below.two H1 hb2
    clear A1 H1 hb2
    go_wp2_with fail
    refine (netText_any b m _ hb hm (HW.out.below (H2.alloc H2.size _)).pow).mono ?_
    rintro e w3 ⟨rfl, hb3⟩
    have N3 := Lib.hid (box1 hb3).1
    have A3 := Lib.hid ((A2.out.alloc _).kept hb3)
    have H3 := Below.two (H2.alloc H2.size _) hb3
    clear A2 H2 hb3
    obtain ⟨ln, n0, n1, _, _⟩ := N3.out
    go_wp2_with fail
    refine (HK.out _).mono ?_
    rintro e w4 ⟨rfl, hb4⟩
    have A4 := Lib.hid (A3.out.kept hb4)
    have H4 := Below.two H3 hb4
    clear A3 H3 hb4 ln n0 n1 N3
    obtain ⟨la, a0, a1, _, _⟩ := A4.out
    go_wp2_with fail
    refine (HC.out _).mono ?_
    rintro e w5 ⟨rfl, hb5⟩
    go_wp2_with fail
    go_ret
    exact ⟨rfl, Below.two H4 hb5⟩

set_option maxHeartbeats 1000000 in
theorem back_tail_ok (a n : Nat) (s : ByteArray) (w : World) (ha : a < 4294967296) (hn : n ≤ 32) (hc : PrefP.cut a n = a) (hs : s.size ≤ 140737488355328) (hw : Spell w) :
    Calls Tryd.prog 3 #[.agg #[.int .u32 a, .int .i64 n], .string s] w fun e w' => e = .returned (.bool true) ∧ Below w.heap.size w w' := by
  have HW := Lib.hid hw; clear hw
  have HC := Lib.hid (check_ok a n ha hn hc)
  have HB := Lib.hid (fun w hw => netParse_is ⟨(PrefP.text a n).toArray⟩ a n w ⟨ha, hn, hc, rfl⟩ hw); clear hc
  rcases told_of s with h | ⟨b, m, h⟩
  · have HP := Lib.hid (fun w hw => netParse_not s w hs h hw); clear h
    go_enter Tryd.func3, Tryd.ntmps3
    go_wp2_with fail
    refine (known_any _ (HW.out.below ((Below.refl _ _).alloc (Nat.le_refl _) _))).mono ?_
    rintro e w1 ⟨rfl, hb⟩
    obtain ⟨B1, H1⟩ := box1 hb; clear hb
    have A1 := Lib.hid B1; clear B1
    go_wp2_with fail
    refine (HP.out _ (HW.out.below H1)).mono ?_
    rintro e w2 ⟨rfl, hb2⟩
    have A2 := Lib.hid (A1.out.kept hb2)
    have H2 := Below.two H1 hb2
    clear A1 H1 hb2
    obtain ⟨la, a0, a1, _, _⟩ := A2.out
    go_wp2_with fail
    refine (HC.out _).mono ?_
    rintro e w3 ⟨rfl, hb3⟩
    have A3 := Lib.hid ((A2.out.alloc _).kept hb3)
    have H3 := Below.two (H2.alloc H2.size _) hb3
    clear A2 H2 hb3 la a0 a1
    obtain ⟨la, a0, a1, _, _⟩ := A3.out
    go_wp2_with fail
    refine (netText_any a n _ ha hn (HW.out.below H3).pow).mono ?_
    rintro e w4 ⟨rfl, hb4⟩
    have A4 := Lib.hid (A3.out.kept hb4)
    have H4 := Below.two H3 hb4
    clear A3 H3 hb4 la a0 a1
    go_wp2_with fail
    refine (HB.out _ (HW.out.below H4)).mono ?_
    rintro e w5 ⟨rfl, hb5⟩
    obtain ⟨la, a0, a1, _, _⟩ := A4.out.kept hb5
    have H5 := Below.two H4 hb5
    go_wp2_with fail
    go_ret
    exact ⟨rfl, H5.alloc H5.size _⟩
  · obtain ⟨hb, hm, hd, ht⟩ := id h
    have HP := Lib.hid (fun w hw => netParse_is s b m w h hw); clear h
    obtain rfl := PrefP.bytes_eq ht.symm
    have HK := Lib.hid (check_ok b m hb hm hd); clear hd ht hs
    go_enter Tryd.func3, Tryd.ntmps3
    go_wp2_with fail
    refine (known_any _ (HW.out.below ((Below.refl _ _).alloc (Nat.le_refl _) _))).mono ?_
    rintro e w1 ⟨rfl, hq⟩
    obtain ⟨B1, H1⟩ := box1 hq; clear hq
    have A1 := Lib.hid B1; clear B1
    go_wp2_with fail
    refine (HP.out _ (HW.out.below H1)).mono ?_
    rintro e w2 ⟨rfl, hb2⟩
    have A2 := Lib.hid (A1.out.kept hb2)
    have H2 := Below.two H1 hb2
    clear A1 H1 hb2
    go_wp2_with fail
    refine (netText_any b m _ hb hm (HW.out.below (H2.alloc H2.size _)).pow).mono ?_
    rintro e w3 ⟨rfl, hb3⟩
    have N3 := Lib.hid (box1 hb3).1
    have A3 := Lib.hid ((A2.out.alloc _).kept hb3)
    have H3 := Below.two (H2.alloc H2.size _) hb3
    clear A2 H2 hb3
    obtain ⟨ln, n0, n1, _, _⟩ := N3.out
    go_wp2_with fail
    refine (HK.out _).mono ?_
    rintro e w4 ⟨rfl, hb4⟩
    have A4 := Lib.hid (A3.out.kept hb4)
    have H4 := Below.two H3 hb4
    clear A3 H3 hb4 ln n0 n1 N3
    obtain ⟨la, a0, a1, _, _⟩ := A4.out
    go_wp2_with fail
    refine (HC.out _).mono ?_
    rintro e w5 ⟨rfl, hb5⟩
    have A5 := Lib.hid (A4.out.kept hb5)
    have H5 := Below.two H4 hb5
    clear A4 H4 hb5 la a0 a1
    obtain ⟨la, a0, a1, _, _⟩ := A5.out
    go_wp2_with fail
    refine (netText_any a n _ ha hn (HW.out.below H5).pow).mono ?_
    rintro e w6 ⟨rfl, hb6⟩
    have A6 := Lib.hid (A5.out.kept hb6)
    have H6 := Below.two H5 hb6
    clear A5 H5 hb6 la a0 a1
    go_wp2_with fail
    refine (HB.out _ (HW.out.below H6)).mono ?_
    rintro e w7 ⟨rfl, hb7⟩
    obtain ⟨la, a0, a1, _, _⟩ := A6.out.kept hb7
    have H7 := Below.two H6 hb7
    go_wp2_with fail
    go_ret
    exact ⟨rfl, H7.alloc H7.size _⟩

theorem prefBack_walk (a : Nat) (l : Int) (s : ByteArray) (w : World) (ha : a < 4294967296) (hs : s.size ≤ 140737488355328) (hw : Spell w) :
    Calls Tryd.prog 3 #[.agg #[.int .u32 a, .int .i64 l], .string s] w fun e w' => e = .returned (.bool true) ∧ Below w.heap.size w w' := by
  rcases PrefP.chk_cases a l with ⟨h, _⟩ | ⟨n, rfl, hn, hc, _⟩ | ⟨n, rfl, hn, hc, _⟩
  · exact back_tail_bad a l 1 s w hs hw (check_range a l h)
  · exact back_tail_bad a n 3 s w hs hw (check_form a n ha hn hc)
  · exact back_tail_ok a n s w ha hn hc hs hw
end Go.Proofs.YtegfjdpibpmdmaaDoor
