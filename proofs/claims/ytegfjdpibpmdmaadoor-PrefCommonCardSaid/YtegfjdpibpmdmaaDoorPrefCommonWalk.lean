/-
  The statement PrefCommon's function answers true at every three networks; what lay in memory stays. Conditions: the library's listed variables are as its text lays them.
-/
import Derived.Test.YtegfjdpibpmdmaaDoorPrefKnown
import Derived.Test.YtegfjdpibpmdmaaDoorPrefIn
import Derived.Test.YtegfjdpibpmdmaaDoorPrefCommon
namespace Go.Proofs.YtegfjdpibpmdmaaDoor
open Go.RowKit

set_option maxHeartbeats 1000000 in
theorem prefCommon_bad1 (a : Nat) (l : Int) (b : Nat) (k : Int) (c : Nat) (j : Int) (z : Int) (w : World) (hw : Spell w)
    (hc : ∀ w, Calls Tryd.prog 12 #[.agg #[.int .u32 a, .int .i64 l]] w fun e w' => e = .returned (.iface 42 (.int .i64 z)) ∧ Below w.heap.size w w') :
    Calls Tryd.prog 6 #[.agg #[.int .u32 a, .int .i64 l], .agg #[.int .u32 b, .int .i64 k], .agg #[.int .u32 c, .int .i64 j]] w fun e w' => e = .returned (.bool true) ∧ Below w.heap.size w w' := by
  have HW := Lib.hid hw; clear hw
  have HC := Lib.hid hc
  have HM := Lib.hid (fun w => common_bad1 a l b k z w hc); clear hc
  go_enter Tryd.func6, Tryd.ntmps6
  go_wp2_with fail
  refine (known_any _ (HW.out.below ((((Below.refl _ _).alloc (Nat.le_refl _) _).alloc (by simp) _).alloc (by simp; omega) _))).mono ?_
  rintro e w1 ⟨rfl, hq⟩
  obtain ⟨B1, B2, B3, hB⟩ := box3 hq; clear hq
  have K := held3 ⟨B1.c0, B1.c1, B2.c0, B2.c1, B3.c0, B3.c1, hB⟩ (Below.refl _ _)
  clear B1 B2 B3 hB
  go_wp2_with fail
  refine (HM.out _).mono ?_
  rintro e w2 ⟨rfl, hq⟩
  have K2 := held3 K hq; clear hq K
  have K2' := held3 K2 ((Below.refl _ _).alloc (Nat.le_refl _) (.cells #[.int .u32 0, .int .i64 0] 24))
  have hl : w.heap.size < w2.heap.size := World.block_lt_of_cell? _ _ K2.1
  go_wp2_with fail
  refine (HC.out _).mono ?_
  rintro e w3 ⟨rfl, hq⟩
  have K3 := held3 K2' hq; clear hq K2 K2'
  go_wp2_with fail
  go_ret
  exact ⟨rfl, K3.2.2.2.2.2.2⟩

set_option maxHeartbeats 1000000 in
theorem prefCommon_bad2 (a n : Nat) (b : Nat) (k : Int) (c : Nat) (j : Int) (z : Int) (w : World) (ha : a < 4294967296) (hn : n ≤ 32) (h : PrefP.cut a n = a) (hw : Spell w)
    (hc : ∀ w, Calls Tryd.prog 12 #[.agg #[.int .u32 b, .int .i64 k]] w fun e w' => e = .returned (.iface 42 (.int .i64 z)) ∧ Below w.heap.size w w') :
    Calls Tryd.prog 6 #[.agg #[.int .u32 a, .int .i64 n], .agg #[.int .u32 b, .int .i64 k], .agg #[.int .u32 c, .int .i64 j]] w fun e w' => e = .returned (.bool true) ∧ Below w.heap.size w w' := by
  have HW := Lib.hid hw; clear hw
  have HC := Lib.hid hc
  have HM := Lib.hid (fun w => common_bad2 a n b k z w ha hn h hc); clear hc
  have HA := Lib.hid (check_ok a n ha hn h); clear h
  go_enter Tryd.func6, Tryd.ntmps6
  go_wp2_with fail
  refine (known_any _ (HW.out.below ((((Below.refl _ _).alloc (Nat.le_refl _) _).alloc (by simp) _).alloc (by simp; omega) _))).mono ?_
  rintro e w1 ⟨rfl, hq⟩
  obtain ⟨B1, B2, B3, hB⟩ := box3 hq; clear hq
  have K := held3 ⟨B1.c0, B1.c1, B2.c0, B2.c1, B3.c0, B3.c1, hB⟩ (Below.refl _ _)
  clear B1 B2 B3 hB
  go_wp2_with fail
  refine (HM.out _).mono ?_
  rintro e w2 ⟨rfl, hq⟩
  have K2 := held3 K hq; clear hq K
  have K2' := held3 K2 ((Below.refl _ _).alloc (Nat.le_refl _) (.cells #[.int .u32 0, .int .i64 0] 24))
  have hl : w.heap.size < w2.heap.size := World.block_lt_of_cell? _ _ K2.1
  go_wp2_with fail
  refine (HA.out _).mono ?_
  rintro e w3 ⟨rfl, hq⟩
  have K3 := held3 K2' hq; clear hq K2 K2'
  go_wp2_with fail
  refine (HC.out _).mono ?_
  rintro e w4 ⟨rfl, hq⟩
  have K4 := held3 K3 hq; clear hq K3
  go_wp2_with fail
  go_ret
  exact ⟨rfl, K4.2.2.2.2.2.2⟩

set_option maxHeartbeats 2000000 in
theorem prefCommon_yes (a n b m : Nat) (c : Nat) (j : Int) (w : World) (ha : a < 4294967296) (hn : n ≤ 32) (h : PrefP.cut a n = a) (hb : b < 4294967296) (hm : m ≤ 32) (h' : PrefP.cut b m = b) (hw : Spell w) (p q : Bool)
    (hp : PrefP.in a (n : Int) c j = p) (hq : PrefP.in b (m : Int) c j = q) :
    Calls Tryd.prog 6 #[.agg #[.int .u32 a, .int .i64 n], .agg #[.int .u32 b, .int .i64 m], .agg #[.int .u32 c, .int .i64 j]] w fun e w' => e = .returned (.bool true) ∧ Below w.heap.size w w' := by
  have HW := Lib.hid hw; clear hw
  have hle := PrefP.com_le a n b m
  have i1 := PrefP.in_cut a n (PrefP.com a n b m) hn hle.1 h
  have i2 := PrefP.in_cut b m (PrefP.com a n b m) hm hle.2 h'
  rw [← PrefP.com_cut a n b m ha hb hn] at i2
  have HN := Lib.hid (fun w => common_yes a n b m w ha hn h hb hm h')
  have hM := fun w => common_yes b m a n w hb hm h' ha hn h
  rw [← PrefP.com_comm a n b m, ← PrefP.com_cut a n b m ha hb hn] at hM
  have HM := Lib.hid hM
  have hin : p = true → q = true → PrefP.in (PrefP.cut a (PrefP.com a n b m)) (PrefP.com a n b m : Int) c j = true := fun h1 h2 => PrefP.com_in a n b m c j ha hb (hp.trans h1) (hq.trans h2)
  have hcl := PrefP.cut_lt a (PrefP.com a n b m)
  generalize PrefP.cut a (PrefP.com a n b m) = v at *
  generalize PrefP.com a n b m = u at *
  have I1 := Lib.hid (fun w => i1 ▸ in_any a n v u ha w)
  have I2 := Lib.hid (fun w => i2 ▸ in_any b m v u hb w)
  have I3 := Lib.hid (fun w => hp ▸ in_any a n c j ha w)
  have I4 := Lib.hid (fun w => hq ▸ in_any b m c j hb w)
  have I5 := Lib.hid (fun (h1 : p = true) (h2 : q = true) w => (hin h1 h2) ▸ in_any v u c j hcl w)
  clear i1 i2 hp hq hin hM h h' hle
  go_enter Tryd.func6, Tryd.ntmps6
  go_wp2_with fail
  refine (known_any _ (HW.out.below ((((Below.refl _ _).alloc (Nat.le_refl _) _).alloc (by simp) _).alloc (by simp; omega) _))).mono ?_
  rintro e w1 ⟨rfl, hq⟩
  obtain ⟨B1, B2, B3, hB⟩ := box3 hq; clear hq
  have K := held3 ⟨B1.c0, B1.c1, B2.c0, B2.c1, B3.c0, B3.c1, hB⟩ (Below.refl _ _)
  clear B1 B2 B3 hB
  go_wp2_with fail
  refine (HN.out _).mono ?_
  rintro e w2 ⟨rfl, hq⟩
  have K2 := held3 K hq; clear hq K
  have K2' := Lib.hid (held3 K2 ((Below.refl _ _).alloc (Nat.le_refl _) (.cells #[.int .u32 (v : Int), .int .i64 (u : Int)] 24)))
  have hl : w.heap.size < w2.heap.size := World.block_lt_of_cell? _ _ K2.1
  have hl1 : w.heap.size + 1 < w2.heap.size := World.block_lt_of_cell? _ _ K2.2.2.1
  go_wp2_with fail
  refine (HM.out _).mono ?_
  rintro e w3 ⟨rfl, hq⟩
  have N3 := Lib.hid (box1 hq).1
  have K3 := held3 K2'.out hq; clear hq K2 K2' hl hl1
  have K3' := Lib.hid (held3 K3 ((Below.refl _ _).alloc (Nat.le_refl _) (.cells #[.int .u32 (v : Int), .int .i64 (u : Int)] 24)))
  have hl : w.heap.size < w3.heap.size := World.block_lt_of_cell? _ _ K3.1
  have hl1 : w.heap.size + 1 < w3.heap.size := World.block_lt_of_cell? _ _ K3.2.2.1
  obtain ⟨ln, n0, n1, _, _⟩ := N3.out
  go_wp2_with fail
  refine (I1.out _).mono ?_
  rintro e w4 ⟨rfl, hq⟩
  have N4 := Lib.hid ((N3.out.alloc _).kept hq)
  have K4 := held3 K3'.out hq; clear hq K3 K3' hl hl1 N3 ln n0 n1
  obtain ⟨ln, n0, n1, _, _⟩ := N4.out
  go_wp2_with fail
  refine (I2.out _).mono ?_
  rintro e w5 ⟨rfl, hq⟩
  have N5 := Lib.hid (N4.out.kept hq)
  have K5 := held3 K4 hq; clear hq K4 N4 ln n0 n1
  go_wp2_with fail
  refine (I3.out _).mono ?_
  rintro e w6 ⟨rfl, hq⟩
  have N6 := Lib.hid (N5.out.kept hq)
  have K6 := held3 K5 hq; clear hq K5 N5
  cases p with
  | false =>
    go_wp2_with fail
    go_ret
    exact ⟨rfl, K6.2.2.2.2.2.2⟩
  | true =>
    have I6 := Lib.hid (I5.out rfl); clear I5
    go_wp2_with fail
    refine (I4.out _).mono ?_
    rintro e w7 ⟨rfl, hq⟩
    have N7 := Lib.hid (N6.out.kept hq)
    have K7 := held3 K6 hq; clear hq K6 N6
    cases q with
    | false =>
      go_wp2_with fail
      go_ret
      exact ⟨rfl, K7.2.2.2.2.2.2⟩
    | true =>
      have I7 := Lib.hid (I6.out rfl); clear I6
      obtain ⟨ln, n0, n1, _, _⟩ := N7.out
      go_wp2_with fail
      refine (I7.out _).mono ?_
      rintro e w8 ⟨rfl, hq⟩
      have K8 := held3 K7 hq; clear hq K7
      go_wp2_with fail
      go_ret
      exact ⟨rfl, K8.2.2.2.2.2.2⟩

theorem prefCommon_walk (a : Nat) (l : Int) (b : Nat) (k : Int) (c : Nat) (j : Int) (w : World) (ha : a < 4294967296) (hb : b < 4294967296) (hw : Spell w) :
    Calls Tryd.prog 6 #[.agg #[.int .u32 a, .int .i64 l], .agg #[.int .u32 b, .int .i64 k], .agg #[.int .u32 c, .int .i64 j]] w fun e w' => e = .returned (.bool true) ∧ Below w.heap.size w w' := by
  rcases PrefP.chk_cases a l with ⟨h, _⟩ | ⟨n, rfl, hn, hc, _⟩ | ⟨n, rfl, hn, hc, _⟩
  · exact prefCommon_bad1 a l b k c j 1 w hw (check_range a l h)
  · exact prefCommon_bad1 a n b k c j 3 w hw (check_form a n ha hn hc)
  · rcases PrefP.chk_cases b k with ⟨h, _⟩ | ⟨m, rfl, hm, hd, _⟩ | ⟨m, rfl, hm, hd, _⟩
    · exact prefCommon_bad2 a n b k c j 1 w ha hn hc hw (check_range b k h)
    · exact prefCommon_bad2 a n b m c j 3 w ha hn hc hw (check_form b m hb hm hd)
    · exact prefCommon_yes a n b m c j w ha hn hc hb hm hd hw _ _ rfl rfl
end Go.Proofs.YtegfjdpibpmdmaaDoor
