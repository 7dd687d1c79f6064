/-
  The statement PrefNests' function answers true at every three networks and every address; what lay in memory stays. Conditions: the library's listed variables are as its text lays them.
-/
import Derived.Test.YtegfjdpibpmdmaaDoorPrefKnown
import Derived.Test.YtegfjdpibpmdmaaDoorPrefIn
namespace Go.Proofs.YtegfjdpibpmdmaaDoor
open Go.RowKit

set_option maxHeartbeats 1000000 in
theorem nests_1 (a : Nat) (l : Int) (b : Nat) (k : Int) (c : Nat) (j : Int) (x : Nat) (w : World) (ha : a < 4294967296) (hx : x < 4294967296) (hw : Spell w)
    (hax : PrefP.has a l x = false) (hab : PrefP.in a l b k = false) :
    Calls Tryd.prog 4 #[.agg #[.int .u32 a, .int .i64 l], .agg #[.int .u32 b, .int .i64 k], .agg #[.int .u32 c, .int .i64 j], .int .u32 x] w fun e w' => e = .returned (.bool true) ∧ Below w.heap.size w w' := by
  have HW := Lib.hid hw; clear hw
  go_enter Tryd.func4, Tryd.ntmps4
  go_wp2_with fail
  refine (known_any _ (HW.out.below ((((Below.refl _ _).alloc (Nat.le_refl _) _).alloc (by simp) _).alloc (by simp; omega) _))).mono ?_
  rintro e w1 ⟨rfl, hq⟩
  obtain ⟨B1, B2, B3, hB⟩ := box3 hq; clear hq
  have K := held3 ⟨B1.c0, B1.c1, B2.c0, B2.c1, B3.c0, B3.c1, hB⟩ (Below.refl _ _)
  clear B1 B2 B3 hB
  go_wp2_with fail
  refine (has_any _ _ _ hx _).mono ?_
  rintro e v0 ⟨rfl, hq⟩
  have K0 := held3 K hq; clear hq K
  rw [hax]
  go_wp2_with fail
  refine (in_any _ _ _ _ ha _).mono ?_
  rintro e v1 ⟨rfl, hq⟩
  have K1 := held3 K0 hq; clear hq K0
  rw [hab]
  go_wp2_with fail
  refine (in_any _ _ _ _ ha _).mono ?_
  rintro e v2 ⟨rfl, hq⟩
  have K2 := held3 K1 hq; clear hq K1
  rw [hab]
  go_wp2_with fail
  refine (in_any _ _ _ _ ha _).mono ?_
  rintro e v3 ⟨rfl, hq⟩
  have K3 := held3 K2 hq; clear hq K2
  rw [hab]
  go_wp2_with fail
  go_ret
  exact ⟨rfl, K3.2.2.2.2.2.2⟩

set_option maxHeartbeats 1000000 in
theorem nests_2 (a : Nat) (l : Int) (b : Nat) (k : Int) (c : Nat) (j : Int) (x : Nat) (w : World) (ha : a < 4294967296) (hx : x < 4294967296) (hw : Spell w)
    (hax : PrefP.has a l x = true) (hbx : PrefP.has b k x = false) (hab : PrefP.in a l b k = false) :
    Calls Tryd.prog 4 #[.agg #[.int .u32 a, .int .i64 l], .agg #[.int .u32 b, .int .i64 k], .agg #[.int .u32 c, .int .i64 j], .int .u32 x] w fun e w' => e = .returned (.bool true) ∧ Below w.heap.size w w' := by
  have HW := Lib.hid hw; clear hw
  go_enter Tryd.func4, Tryd.ntmps4
  go_wp2_with fail
  refine (known_any _ (HW.out.below ((((Below.refl _ _).alloc (Nat.le_refl _) _).alloc (by simp) _).alloc (by simp; omega) _))).mono ?_
  rintro e w1 ⟨rfl, hq⟩
  obtain ⟨B1, B2, B3, hB⟩ := box3 hq; clear hq
  have K := held3 ⟨B1.c0, B1.c1, B2.c0, B2.c1, B3.c0, B3.c1, hB⟩ (Below.refl _ _)
  clear B1 B2 B3 hB
  go_wp2_with fail
  refine (has_any _ _ _ hx _).mono ?_
  rintro e v0 ⟨rfl, hq⟩
  have K0 := held3 K hq; clear hq K
  rw [hax]
  go_wp2_with fail
  refine (has_any _ _ _ hx _).mono ?_
  rintro e v1 ⟨rfl, hq⟩
  have K1 := held3 K0 hq; clear hq K0
  rw [hbx]
  go_wp2_with fail
  refine (in_any _ _ _ _ ha _).mono ?_
  rintro e v2 ⟨rfl, hq⟩
  have K2 := held3 K1 hq; clear hq K1
  rw [hab]
  go_wp2_with fail
  refine (in_any _ _ _ _ ha _).mono ?_
  rintro e v3 ⟨rfl, hq⟩
  have K3 := held3 K2 hq; clear hq K2
  rw [hab]
  go_wp2_with fail
  refine (in_any _ _ _ _ ha _).mono ?_
  rintro e v4 ⟨rfl, hq⟩
  have K4 := held3 K3 hq; clear hq K3
  rw [hab]
  go_wp2_with fail
  go_ret
  exact ⟨rfl, K4.2.2.2.2.2.2⟩

set_option maxHeartbeats 1000000 in
theorem nests_3 (a : Nat) (l : Int) (b : Nat) (k : Int) (c : Nat) (j : Int) (x : Nat) (w : World) (ha : a < 4294967296) (hb : b < 4294967296) (hx : x < 4294967296) (hw : Spell w)
    (hax : PrefP.has a l x = true) (hbx : PrefP.has b k x = true) (hab : PrefP.in a l b k = false) (hba : PrefP.in b k a l = true) :
    Calls Tryd.prog 4 #[.agg #[.int .u32 a, .int .i64 l], .agg #[.int .u32 b, .int .i64 k], .agg #[.int .u32 c, .int .i64 j], .int .u32 x] w fun e w' => e = .returned (.bool true) ∧ Below w.heap.size w w' := by
  have HW := Lib.hid hw; clear hw
  go_enter Tryd.func4, Tryd.ntmps4
  go_wp2_with fail
  refine (known_any _ (HW.out.below ((((Below.refl _ _).alloc (Nat.le_refl _) _).alloc (by simp) _).alloc (by simp; omega) _))).mono ?_
  rintro e w1 ⟨rfl, hq⟩
  obtain ⟨B1, B2, B3, hB⟩ := box3 hq; clear hq
  have K := held3 ⟨B1.c0, B1.c1, B2.c0, B2.c1, B3.c0, B3.c1, hB⟩ (Below.refl _ _)
  clear B1 B2 B3 hB
  go_wp2_with fail
  refine (has_any _ _ _ hx _).mono ?_
  rintro e v0 ⟨rfl, hq⟩
  have K0 := held3 K hq; clear hq K
  rw [hax]
  go_wp2_with fail
  refine (has_any _ _ _ hx _).mono ?_
  rintro e v1 ⟨rfl, hq⟩
  have K1 := held3 K0 hq; clear hq K0
  rw [hbx]
  go_wp2_with fail
  refine (in_any _ _ _ _ ha _).mono ?_
  rintro e v2 ⟨rfl, hq⟩
  have K2 := held3 K1 hq; clear hq K1
  rw [hab]
  go_wp2_with fail
  refine (in_any _ _ _ _ hb _).mono ?_
  rintro e v3 ⟨rfl, hq⟩
  have K3 := held3 K2 hq; clear hq K2
  rw [hba]
  go_wp2_with fail
  refine (in_any _ _ _ _ ha _).mono ?_
  rintro e v4 ⟨rfl, hq⟩
  have K4 := held3 K3 hq; clear hq K3
  rw [hab]
  go_wp2_with fail
  refine (in_any _ _ _ _ ha _).mono ?_
  rintro e v5 ⟨rfl, hq⟩
  have K5 := held3 K4 hq; clear hq K4
  rw [hab]
  go_wp2_with fail
  refine (in_any _ _ _ _ ha _).mono ?_
  rintro e v6 ⟨rfl, hq⟩
  have K6 := held3 K5 hq; clear hq K5
  rw [hab]
  go_wp2_with fail
  go_ret
  exact ⟨rfl, K6.2.2.2.2.2.2⟩

set_option maxHeartbeats 1000000 in
theorem nests_40 (a : Nat) (l : Int) (b : Nat) (k : Int) (c : Nat) (j : Int) (x : Nat) (w : World) (ha : a < 4294967296) (hb : b < 4294967296) (hx : x < 4294967296) (hw : Spell w)
    (hax : PrefP.has a l x = false) (hab : PrefP.in a l b k = true) (hba : PrefP.in b k a l = false) (hbc : PrefP.in b k c j = false) :
    Calls Tryd.prog 4 #[.agg #[.int .u32 a, .int .i64 l], .agg #[.int .u32 b, .int .i64 k], .agg #[.int .u32 c, .int .i64 j], .int .u32 x] w fun e w' => e = .returned (.bool true) ∧ Below w.heap.size w w' := by
  have HW := Lib.hid hw; clear hw
  go_enter Tryd.func4, Tryd.ntmps4
  go_wp2_with fail
  refine (known_any _ (HW.out.below ((((Below.refl _ _).alloc (Nat.le_refl _) _).alloc (by simp) _).alloc (by simp; omega) _))).mono ?_
  rintro e w1 ⟨rfl, hq⟩
  obtain ⟨B1, B2, B3, hB⟩ := box3 hq; clear hq
  have K := held3 ⟨B1.c0, B1.c1, B2.c0, B2.c1, B3.c0, B3.c1, hB⟩ (Below.refl _ _)
  clear B1 B2 B3 hB
  go_wp2_with fail
  refine (has_any _ _ _ hx _).mono ?_
  rintro e v0 ⟨rfl, hq⟩
  have K0 := held3 K hq; clear hq K
  rw [hax]
  go_wp2_with fail
  refine (in_any _ _ _ _ ha _).mono ?_
  rintro e v1 ⟨rfl, hq⟩
  have K1 := held3 K0 hq; clear hq K0
  rw [hab]
  go_wp2_with fail
  refine (in_any _ _ _ _ hb _).mono ?_
  rintro e v2 ⟨rfl, hq⟩
  have K2 := held3 K1 hq; clear hq K1
  rw [hba]
  go_wp2_with fail
  refine (in_any _ _ _ _ ha _).mono ?_
  rintro e v3 ⟨rfl, hq⟩
  have K3 := held3 K2 hq; clear hq K2
  rw [hab]
  go_wp2_with fail
  refine (in_any _ _ _ _ hb _).mono ?_
  rintro e v4 ⟨rfl, hq⟩
  have K4 := held3 K3 hq; clear hq K3
  rw [hbc]
  go_wp2_with fail
  refine (in_any _ _ _ _ ha _).mono ?_
  rintro e v5 ⟨rfl, hq⟩
  have K5 := held3 K4 hq; clear hq K4
  rw [hab]
  go_wp2_with fail
  refine (has_any _ _ _ hx _).mono ?_
  rintro e v6 ⟨rfl, hq⟩
  have K6 := held3 K5 hq; clear hq K5
  rw [hax]
  go_wp2_with fail
  go_ret
  exact ⟨rfl, K6.2.2.2.2.2.2⟩

set_option maxHeartbeats 1000000 in
theorem nests_50 (a : Nat) (l : Int) (c : Nat) (j : Int) (x : Nat) (w : World) (ha : a < 4294967296) (hx : x < 4294967296) (hw : Spell w)
    (hax : PrefP.has a l x = false) (hab : PrefP.in a l a l = true) (hba : PrefP.in a l a l = true) (hbc : PrefP.in a l c j = false) :
    Calls Tryd.prog 4 #[.agg #[.int .u32 a, .int .i64 l], .agg #[.int .u32 a, .int .i64 l], .agg #[.int .u32 c, .int .i64 j], .int .u32 x] w fun e w' => e = .returned (.bool true) ∧ Below w.heap.size w w' := by
  have HW := Lib.hid hw; clear hw
  go_enter Tryd.func4, Tryd.ntmps4
  go_wp2_with fail
  refine (known_any _ (HW.out.below ((((Below.refl _ _).alloc (Nat.le_refl _) _).alloc (by simp) _).alloc (by simp; omega) _))).mono ?_
  rintro e w1 ⟨rfl, hq⟩
  obtain ⟨B1, B2, B3, hB⟩ := box3 hq; clear hq
  have K := held3 ⟨B1.c0, B1.c1, B2.c0, B2.c1, B3.c0, B3.c1, hB⟩ (Below.refl _ _)
  clear B1 B2 B3 hB
  go_wp2_with fail
  refine (has_any _ _ _ hx _).mono ?_
  rintro e v0 ⟨rfl, hq⟩
  have K0 := held3 K hq; clear hq K
  rw [hax]
  go_wp2_with fail
  refine (in_any _ _ _ _ ha _).mono ?_
  rintro e v1 ⟨rfl, hq⟩
  have K1 := held3 K0 hq; clear hq K0
  rw [hab]
  go_wp2_with fail
  refine (in_any _ _ _ _ ha _).mono ?_
  rintro e v2 ⟨rfl, hq⟩
  have K2 := held3 K1 hq; clear hq K1
  rw [hba]
  go_wp2_with fail
  refine (in_any _ _ _ _ ha _).mono ?_
  rintro e v3 ⟨rfl, hq⟩
  have K3 := held3 K2 hq; clear hq K2
  rw [hab]
  go_wp2_with fail
  refine (in_any _ _ _ _ ha _).mono ?_
  rintro e v4 ⟨rfl, hq⟩
  have K4 := held3 K3 hq; clear hq K3
  rw [hbc]
  go_wp2_with fail
  refine (in_any _ _ _ _ ha _).mono ?_
  rintro e v5 ⟨rfl, hq⟩
  have K5 := held3 K4 hq; clear hq K4
  rw [hab]
  go_wp2_with fail
  refine (has_any _ _ _ hx _).mono ?_
  rintro e v6 ⟨rfl, hq⟩
  have K6 := held3 K5 hq; clear hq K5
  rw [hax]
  go_wp2_with fail
  go_ret
  exact ⟨rfl, K6.2.2.2.2.2.2⟩

set_option maxHeartbeats 1000000 in
theorem nests_41 (a : Nat) (l : Int) (b : Nat) (k : Int) (c : Nat) (j : Int) (x : Nat) (w : World) (ha : a < 4294967296) (hb : b < 4294967296) (hx : x < 4294967296) (hw : Spell w)
    (hax : PrefP.has a l x = false) (hab : PrefP.in a l b k = true) (hba : PrefP.in b k a l = false) (hbc : PrefP.in b k c j = true) (hac : PrefP.in a l c j = true) :
    Calls Tryd.prog 4 #[.agg #[.int .u32 a, .int .i64 l], .agg #[.int .u32 b, .int .i64 k], .agg #[.int .u32 c, .int .i64 j], .int .u32 x] w fun e w' => e = .returned (.bool true) ∧ Below w.heap.size w w' := by
  have HW := Lib.hid hw; clear hw
  go_enter Tryd.func4, Tryd.ntmps4
  go_wp2_with fail
  refine (known_any _ (HW.out.below ((((Below.refl _ _).alloc (Nat.le_refl _) _).alloc (by simp) _).alloc (by simp; omega) _))).mono ?_
  rintro e w1 ⟨rfl, hq⟩
  obtain ⟨B1, B2, B3, hB⟩ := box3 hq; clear hq
  have K := held3 ⟨B1.c0, B1.c1, B2.c0, B2.c1, B3.c0, B3.c1, hB⟩ (Below.refl _ _)
  clear B1 B2 B3 hB
  go_wp2_with fail
  refine (has_any _ _ _ hx _).mono ?_
  rintro e v0 ⟨rfl, hq⟩
  have K0 := held3 K hq; clear hq K
  rw [hax]
  go_wp2_with fail
  refine (in_any _ _ _ _ ha _).mono ?_
  rintro e v1 ⟨rfl, hq⟩
  have K1 := held3 K0 hq; clear hq K0
  rw [hab]
  go_wp2_with fail
  refine (in_any _ _ _ _ hb _).mono ?_
  rintro e v2 ⟨rfl, hq⟩
  have K2 := held3 K1 hq; clear hq K1
  rw [hba]
  go_wp2_with fail
  refine (in_any _ _ _ _ ha _).mono ?_
  rintro e v3 ⟨rfl, hq⟩
  have K3 := held3 K2 hq; clear hq K2
  rw [hab]
  go_wp2_with fail
  refine (in_any _ _ _ _ hb _).mono ?_
  rintro e v4 ⟨rfl, hq⟩
  have K4 := held3 K3 hq; clear hq K3
  rw [hbc]
  go_wp2_with fail
  refine (in_any _ _ _ _ ha _).mono ?_
  rintro e v5 ⟨rfl, hq⟩
  have K5 := held3 K4 hq; clear hq K4
  rw [hac]
  go_wp2_with fail
  refine (in_any _ _ _ _ ha _).mono ?_
  rintro e v6 ⟨rfl, hq⟩
  have K6 := held3 K5 hq; clear hq K5
  rw [hab]
  go_wp2_with fail
  refine (has_any _ _ _ hx _).mono ?_
  rintro e v7 ⟨rfl, hq⟩
  have K7 := held3 K6 hq; clear hq K6
  rw [hax]
  go_wp2_with fail
  go_ret
  exact ⟨rfl, K7.2.2.2.2.2.2⟩

set_option maxHeartbeats 1000000 in
theorem nests_51 (a : Nat) (l : Int) (c : Nat) (j : Int) (x : Nat) (w : World) (ha : a < 4294967296) (hx : x < 4294967296) (hw : Spell w)
    (hax : PrefP.has a l x = false) (hab : PrefP.in a l a l = true) (hba : PrefP.in a l a l = true) (hbc : PrefP.in a l c j = true) (hac : PrefP.in a l c j = true) :
    Calls Tryd.prog 4 #[.agg #[.int .u32 a, .int .i64 l], .agg #[.int .u32 a, .int .i64 l], .agg #[.int .u32 c, .int .i64 j], .int .u32 x] w fun e w' => e = .returned (.bool true) ∧ Below w.heap.size w w' := by
  have HW := Lib.hid hw; clear hw
  go_enter Tryd.func4, Tryd.ntmps4
  go_wp2_with fail
  refine (known_any _ (HW.out.below ((((Below.refl _ _).alloc (Nat.le_refl _) _).alloc (by simp) _).alloc (by simp; omega) _))).mono ?_
  rintro e w1 ⟨rfl, hq⟩
  obtain ⟨B1, B2, B3, hB⟩ := box3 hq; clear hq
  have K := held3 ⟨B1.c0, B1.c1, B2.c0, B2.c1, B3.c0, B3.c1, hB⟩ (Below.refl _ _)
  clear B1 B2 B3 hB
  go_wp2_with fail
  refine (has_any _ _ _ hx _).mono ?_
  rintro e v0 ⟨rfl, hq⟩
  have K0 := held3 K hq; clear hq K
  rw [hax]
  go_wp2_with fail
  refine (in_any _ _ _ _ ha _).mono ?_
  rintro e v1 ⟨rfl, hq⟩
  have K1 := held3 K0 hq; clear hq K0
  rw [hab]
  go_wp2_with fail
  refine (in_any _ _ _ _ ha _).mono ?_
  rintro e v2 ⟨rfl, hq⟩
  have K2 := held3 K1 hq; clear hq K1
  rw [hba]
  go_wp2_with fail
  refine (in_any _ _ _ _ ha _).mono ?_
  rintro e v3 ⟨rfl, hq⟩
  have K3 := held3 K2 hq; clear hq K2
  rw [hab]
  go_wp2_with fail
  refine (in_any _ _ _ _ ha _).mono ?_
  rintro e v4 ⟨rfl, hq⟩
  have K4 := held3 K3 hq; clear hq K3
  rw [hbc]
  go_wp2_with fail
  refine (in_any _ _ _ _ ha _).mono ?_
  rintro e v5 ⟨rfl, hq⟩
  have K5 := held3 K4 hq; clear hq K4
  rw [hac]
  go_wp2_with fail
  refine (in_any _ _ _ _ ha _).mono ?_
  rintro e v6 ⟨rfl, hq⟩
  have K6 := held3 K5 hq; clear hq K5
  rw [hab]
  go_wp2_with fail
  refine (has_any _ _ _ hx _).mono ?_
  rintro e v7 ⟨rfl, hq⟩
  have K7 := held3 K6 hq; clear hq K6
  rw [hax]
  go_wp2_with fail
  go_ret
  exact ⟨rfl, K7.2.2.2.2.2.2⟩

set_option maxHeartbeats 1000000 in
theorem nests_42 (a : Nat) (l : Int) (b : Nat) (k : Int) (c : Nat) (j : Int) (x : Nat) (w : World) (ha : a < 4294967296) (hb : b < 4294967296) (hx : x < 4294967296) (hw : Spell w)
    (hax : PrefP.has a l x = true) (hbx : PrefP.has b k x = true) (hab : PrefP.in a l b k = true) (hba : PrefP.in b k a l = false) (hbc : PrefP.in b k c j = false) :
    Calls Tryd.prog 4 #[.agg #[.int .u32 a, .int .i64 l], .agg #[.int .u32 b, .int .i64 k], .agg #[.int .u32 c, .int .i64 j], .int .u32 x] w fun e w' => e = .returned (.bool true) ∧ Below w.heap.size w w' := by
  have HW := Lib.hid hw; clear hw
  go_enter Tryd.func4, Tryd.ntmps4
  go_wp2_with fail
  refine (known_any _ (HW.out.below ((((Below.refl _ _).alloc (Nat.le_refl _) _).alloc (by simp) _).alloc (by simp; omega) _))).mono ?_
  rintro e w1 ⟨rfl, hq⟩
  obtain ⟨B1, B2, B3, hB⟩ := box3 hq; clear hq
  have K := held3 ⟨B1.c0, B1.c1, B2.c0, B2.c1, B3.c0, B3.c1, hB⟩ (Below.refl _ _)
  clear B1 B2 B3 hB
  go_wp2_with fail
  refine (has_any _ _ _ hx _).mono ?_
  rintro e v0 ⟨rfl, hq⟩
  have K0 := held3 K hq; clear hq K
  rw [hax]
  go_wp2_with fail
  refine (has_any _ _ _ hx _).mono ?_
  rintro e v1 ⟨rfl, hq⟩
  have K1 := held3 K0 hq; clear hq K0
  rw [hbx]
  go_wp2_with fail
  refine (in_any _ _ _ _ ha _).mono ?_
  rintro e v2 ⟨rfl, hq⟩
  have K2 := held3 K1 hq; clear hq K1
  rw [hab]
  go_wp2_with fail
  refine (in_any _ _ _ _ ha _).mono ?_
  rintro e v3 ⟨rfl, hq⟩
  have K3 := held3 K2 hq; clear hq K2
  rw [hab]
  go_wp2_with fail
  refine (in_any _ _ _ _ hb _).mono ?_
  rintro e v4 ⟨rfl, hq⟩
  have K4 := held3 K3 hq; clear hq K3
  rw [hba]
  go_wp2_with fail
  refine (in_any _ _ _ _ ha _).mono ?_
  rintro e v5 ⟨rfl, hq⟩
  have K5 := held3 K4 hq; clear hq K4
  rw [hab]
  go_wp2_with fail
  refine (in_any _ _ _ _ hb _).mono ?_
  rintro e v6 ⟨rfl, hq⟩
  have K6 := held3 K5 hq; clear hq K5
  rw [hbc]
  go_wp2_with fail
  refine (in_any _ _ _ _ ha _).mono ?_
  rintro e v7 ⟨rfl, hq⟩
  have K7 := held3 K6 hq; clear hq K6
  rw [hab]
  go_wp2_with fail
  refine (has_any _ _ _ hx _).mono ?_
  rintro e v8 ⟨rfl, hq⟩
  have K8 := held3 K7 hq; clear hq K7
  rw [hax]
  go_wp2_with fail
  refine (has_any _ _ _ hx _).mono ?_
  rintro e v9 ⟨rfl, hq⟩
  have K9 := held3 K8 hq; clear hq K8
  rw [hbx]
  go_wp2_with fail
  go_ret
  exact ⟨rfl, K9.2.2.2.2.2.2⟩

set_option maxHeartbeats 1000000 in
theorem nests_52 (a : Nat) (l : Int) (c : Nat) (j : Int) (x : Nat) (w : World) (ha : a < 4294967296) (hx : x < 4294967296) (hw : Spell w)
    (hax : PrefP.has a l x = true) (hbx : PrefP.has a l x = true) (hab : PrefP.in a l a l = true) (hba : PrefP.in a l a l = true) (hbc : PrefP.in a l c j = false) :
    Calls Tryd.prog 4 #[.agg #[.int .u32 a, .int .i64 l], .agg #[.int .u32 a, .int .i64 l], .agg #[.int .u32 c, .int .i64 j], .int .u32 x] w fun e w' => e = .returned (.bool true) ∧ Below w.heap.size w w' := by
  have HW := Lib.hid hw; clear hw
  go_enter Tryd.func4, Tryd.ntmps4
  go_wp2_with fail
  refine (known_any _ (HW.out.below ((((Below.refl _ _).alloc (Nat.le_refl _) _).alloc (by simp) _).alloc (by simp; omega) _))).mono ?_
  rintro e w1 ⟨rfl, hq⟩
  obtain ⟨B1, B2, B3, hB⟩ := box3 hq; clear hq
  have K := held3 ⟨B1.c0, B1.c1, B2.c0, B2.c1, B3.c0, B3.c1, hB⟩ (Below.refl _ _)
  clear B1 B2 B3 hB
  go_wp2_with fail
  refine (has_any _ _ _ hx _).mono ?_
  rintro e v0 ⟨rfl, hq⟩
  have K0 := held3 K hq; clear hq K
  rw [hax]
  go_wp2_with fail
  refine (has_any _ _ _ hx _).mono ?_
  rintro e v1 ⟨rfl, hq⟩
  have K1 := held3 K0 hq; clear hq K0
  rw [hbx]
  go_wp2_with fail
  refine (in_any _ _ _ _ ha _).mono ?_
  rintro e v2 ⟨rfl, hq⟩
  have K2 := held3 K1 hq; clear hq K1
  rw [hab]
  go_wp2_with fail
  refine (in_any _ _ _ _ ha _).mono ?_
  rintro e v3 ⟨rfl, hq⟩
  have K3 := held3 K2 hq; clear hq K2
  rw [hab]
  go_wp2_with fail
  refine (in_any _ _ _ _ ha _).mono ?_
  rintro e v4 ⟨rfl, hq⟩
  have K4 := held3 K3 hq; clear hq K3
  rw [hba]
  go_wp2_with fail
  refine (in_any _ _ _ _ ha _).mono ?_
  rintro e v5 ⟨rfl, hq⟩
  have K5 := held3 K4 hq; clear hq K4
  rw [hab]
  go_wp2_with fail
  refine (in_any _ _ _ _ ha _).mono ?_
  rintro e v6 ⟨rfl, hq⟩
  have K6 := held3 K5 hq; clear hq K5
  rw [hbc]
  go_wp2_with fail
  refine (in_any _ _ _ _ ha _).mono ?_
  rintro e v7 ⟨rfl, hq⟩
  have K7 := held3 K6 hq; clear hq K6
  rw [hab]
  go_wp2_with fail
  refine (has_any _ _ _ hx _).mono ?_
  rintro e v8 ⟨rfl, hq⟩
  have K8 := held3 K7 hq; clear hq K7
  rw [hax]
  go_wp2_with fail
  refine (has_any _ _ _ hx _).mono ?_
  rintro e v9 ⟨rfl, hq⟩
  have K9 := held3 K8 hq; clear hq K8
  rw [hbx]
  go_wp2_with fail
  go_ret
  exact ⟨rfl, K9.2.2.2.2.2.2⟩

set_option maxHeartbeats 1000000 in
theorem nests_43 (a : Nat) (l : Int) (b : Nat) (k : Int) (c : Nat) (j : Int) (x : Nat) (w : World) (ha : a < 4294967296) (hb : b < 4294967296) (hx : x < 4294967296) (hw : Spell w)
    (hax : PrefP.has a l x = true) (hbx : PrefP.has b k x = true) (hab : PrefP.in a l b k = true) (hba : PrefP.in b k a l = false) (hbc : PrefP.in b k c j = true) (hac : PrefP.in a l c j = true) :
    Calls Tryd.prog 4 #[.agg #[.int .u32 a, .int .i64 l], .agg #[.int .u32 b, .int .i64 k], .agg #[.int .u32 c, .int .i64 j], .int .u32 x] w fun e w' => e = .returned (.bool true) ∧ Below w.heap.size w w' := by
  have HW := Lib.hid hw; clear hw
  go_enter Tryd.func4, Tryd.ntmps4
  go_wp2_with fail
  refine (known_any _ (HW.out.below ((((Below.refl _ _).alloc (Nat.le_refl _) _).alloc (by simp) _).alloc (by simp; omega) _))).mono ?_
  rintro e w1 ⟨rfl, hq⟩
  obtain ⟨B1, B2, B3, hB⟩ := box3 hq; clear hq
  have K := held3 ⟨B1.c0, B1.c1, B2.c0, B2.c1, B3.c0, B3.c1, hB⟩ (Below.refl _ _)
  clear B1 B2 B3 hB
  go_wp2_with fail
  refine (has_any _ _ _ hx _).mono ?_
  rintro e v0 ⟨rfl, hq⟩
  have K0 := held3 K hq; clear hq K
  rw [hax]
  go_wp2_with fail
  refine (has_any _ _ _ hx _).mono ?_
  rintro e v1 ⟨rfl, hq⟩
  have K1 := held3 K0 hq; clear hq K0
  rw [hbx]
  go_wp2_with fail
  refine (in_any _ _ _ _ ha _).mono ?_
  rintro e v2 ⟨rfl, hq⟩
  have K2 := held3 K1 hq; clear hq K1
  rw [hab]
  go_wp2_with fail
  refine (in_any _ _ _ _ ha _).mono ?_
  rintro e v3 ⟨rfl, hq⟩
  have K3 := held3 K2 hq; clear hq K2
  rw [hab]
  go_wp2_with fail
  refine (in_any _ _ _ _ hb _).mono ?_
  rintro e v4 ⟨rfl, hq⟩
  have K4 := held3 K3 hq; clear hq K3
  rw [hba]
  go_wp2_with fail
  refine (in_any _ _ _ _ ha _).mono ?_
  rintro e v5 ⟨rfl, hq⟩
  have K5 := held3 K4 hq; clear hq K4
  rw [hab]
  go_wp2_with fail
  refine (in_any _ _ _ _ hb _).mono ?_
  rintro e v6 ⟨rfl, hq⟩
  have K6 := held3 K5 hq; clear hq K5
  rw [hbc]
  go_wp2_with fail
  refine (in_any _ _ _ _ ha _).mono ?_
  rintro e v7 ⟨rfl, hq⟩
  have K7 := held3 K6 hq; clear hq K6
  rw [hac]
  go_wp2_with fail
  refine (in_any _ _ _ _ ha _).mono ?_
  rintro e v8 ⟨rfl, hq⟩
  have K8 := held3 K7 hq; clear hq K7
  rw [hab]
  go_wp2_with fail
  refine (has_any _ _ _ hx _).mono ?_
  rintro e v9 ⟨rfl, hq⟩
  have K9 := held3 K8 hq; clear hq K8
  rw [hax]
  go_wp2_with fail
  refine (has_any _ _ _ hx _).mono ?_
  rintro e v10 ⟨rfl, hq⟩
  have K10 := held3 K9 hq; clear hq K9
  rw [hbx]
  go_wp2_with fail
  go_ret
  exact ⟨rfl, K10.2.2.2.2.2.2⟩

set_option maxHeartbeats 1000000 in
theorem nests_53 (a : Nat) (l : Int) (c : Nat) (j : Int) (x : Nat) (w : World) (ha : a < 4294967296) (hx : x < 4294967296) (hw : Spell w)
    (hax : PrefP.has a l x = true) (hbx : PrefP.has a l x = true) (hab : PrefP.in a l a l = true) (hba : PrefP.in a l a l = true) (hbc : PrefP.in a l c j = true) (hac : PrefP.in a l c j = true) :
    Calls Tryd.prog 4 #[.agg #[.int .u32 a, .int .i64 l], .agg #[.int .u32 a, .int .i64 l], .agg #[.int .u32 c, .int .i64 j], .int .u32 x] w fun e w' => e = .returned (.bool true) ∧ Below w.heap.size w w' := by
  have HW := Lib.hid hw; clear hw
  go_enter Tryd.func4, Tryd.ntmps4
  go_wp2_with fail
  refine (known_any _ (HW.out.below ((((Below.refl _ _).alloc (Nat.le_refl _) _).alloc (by simp) _).alloc (by simp; omega) _))).mono ?_
  rintro e w1 ⟨rfl, hq⟩
  obtain ⟨B1, B2, B3, hB⟩ := box3 hq; clear hq
  have K := held3 ⟨B1.c0, B1.c1, B2.c0, B2.c1, B3.c0, B3.c1, hB⟩ (Below.refl _ _)
  clear B1 B2 B3 hB
  go_wp2_with fail
  refine (has_any _ _ _ hx _).mono ?_
  rintro e v0 ⟨rfl, hq⟩
  have K0 := held3 K hq; clear hq K
  rw [hax]
  go_wp2_with fail
  refine (has_any _ _ _ hx _).mono ?_
  rintro e v1 ⟨rfl, hq⟩
  have K1 := held3 K0 hq; clear hq K0
  rw [hbx]
  go_wp2_with fail
  refine (in_any _ _ _ _ ha _).mono ?_
  rintro e v2 ⟨rfl, hq⟩
  have K2 := held3 K1 hq; clear hq K1
  rw [hab]
  go_wp2_with fail
  refine (in_any _ _ _ _ ha _).mono ?_
  rintro e v3 ⟨rfl, hq⟩
  have K3 := held3 K2 hq; clear hq K2
  rw [hab]
  go_wp2_with fail
  refine (in_any _ _ _ _ ha _).mono ?_
  rintro e v4 ⟨rfl, hq⟩
  have K4 := held3 K3 hq; clear hq K3
  rw [hba]
  go_wp2_with fail
  refine (in_any _ _ _ _ ha _).mono ?_
  rintro e v5 ⟨rfl, hq⟩
  have K5 := held3 K4 hq; clear hq K4
  rw [hab]
  go_wp2_with fail
  refine (in_any _ _ _ _ ha _).mono ?_
  rintro e v6 ⟨rfl, hq⟩
  have K6 := held3 K5 hq; clear hq K5
  rw [hbc]
  go_wp2_with fail
  refine (in_any _ _ _ _ ha _).mono ?_
  rintro e v7 ⟨rfl, hq⟩
  have K7 := held3 K6 hq; clear hq K6
  rw [hac]
  go_wp2_with fail
  refine (in_any _ _ _ _ ha _).mono ?_
  rintro e v8 ⟨rfl, hq⟩
  have K8 := held3 K7 hq; clear hq K7
  rw [hab]
  go_wp2_with fail
  refine (has_any _ _ _ hx _).mono ?_
  rintro e v9 ⟨rfl, hq⟩
  have K9 := held3 K8 hq; clear hq K8
  rw [hax]
  go_wp2_with fail
  refine (has_any _ _ _ hx _).mono ?_
  rintro e v10 ⟨rfl, hq⟩
  have K10 := held3 K9 hq; clear hq K9
  rw [hbx]
  go_wp2_with fail
  go_ret
  exact ⟨rfl, K10.2.2.2.2.2.2⟩

theorem prefNests_walk (a : Nat) (l : Int) (b : Nat) (k : Int) (c : Nat) (j : Int) (x : Nat) (w : World) (ha : a < 4294967296) (hb : b < 4294967296) (hx : x < 4294967296) (hw : Spell w) :
    Calls Tryd.prog 4 #[.agg #[.int .u32 a, .int .i64 l], .agg #[.int .u32 b, .int .i64 k], .agg #[.int .u32 c, .int .i64 j], .int .u32 x] w fun e w' => e = .returned (.bool true) ∧ Below w.heap.size w w' := by
  cases hab : PrefP.in a l b k with
  | false =>
    cases hax : PrefP.has a l x with
    | false => exact nests_1 a l b k c j x w ha hx hw hax hab
    | true =>
      cases hbx : PrefP.has b k x with
      | false => exact nests_2 a l b k c j x w ha hx hw hax hbx hab
      | true =>
        have hba : PrefP.in b k a l = true := by
          rcases PrefP.nest a l b k x hax hbx with h | h
          · rw [hab] at h; cases h
          · exact h
        exact nests_3 a l b k c j x w ha hb hx hw hax hbx hab hba
  | true =>
    cases hba : PrefP.in b k a l with
    | false =>
      cases hax : PrefP.has a l x with
      | false =>
        cases hbc : PrefP.in b k c j with
        | false => exact nests_40 a l b k c j x w ha hb hx hw hax hab hba hbc
        | true => exact nests_41 a l b k c j x w ha hb hx hw hax hab hba hbc (PrefP.in_trans a l b k c j hab hbc)
      | true =>
        have hbx := PrefP.in_has a l b k x hab hax
        cases hbc : PrefP.in b k c j with
        | false => exact nests_42 a l b k c j x w ha hb hx hw hax hbx hab hba hbc
        | true => exact nests_43 a l b k c j x w ha hb hx hw hax hbx hab hba hbc (PrefP.in_trans a l b k c j hab hbc)
    | true =>
      obtain ⟨rfl, rfl⟩ := PrefP.in_anti a l b k hab hba
      cases hax : PrefP.has a l x with
      | false =>
        cases hbc : PrefP.in a l c j with
        | false => exact nests_50 a l c j x w ha hx hw hax hab hba hbc
        | true => exact nests_51 a l c j x w ha hx hw hax hab hba hbc hbc
      | true =>
        cases hbc : PrefP.in a l c j with
        | false => exact nests_52 a l c j x w ha hx hw hax hax hab hba hbc
        | true => exact nests_53 a l c j x w ha hx hw hax hax hab hba hbc hbc
end Go.Proofs.YtegfjdpibpmdmaaDoor
