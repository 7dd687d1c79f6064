/-
  The statement PrefHalves' function answers true at every network and every address; what lay in memory stays. Conditions: the library's listed variables are as its text lays them.
-/
import Derived.Test.YtegfjdpibpmdmaaDoorPrefKnown
import Derived.Test.YtegfjdpibpmdmaaDoorPrefHalves
namespace Go.Proofs.YtegfjdpibpmdmaaDoor
open Go.RowKit

set_option maxHeartbeats 1000000 in
theorem prefHalves_bad (a : Nat) (z : Int) (k : Int) (x : Nat) (w : World) (hw : Spell w)
    (hc : ∀ w, Calls Tryd.prog 12 #[.agg #[.int .u32 a, .int .i64 z]] w fun e w' => e = .returned (.iface 42 (.int .i64 k)) ∧ Below w.heap.size w w') :
    Calls Tryd.prog 5 #[.agg #[.int .u32 a, .int .i64 z], .int .u32 x] w fun e w' => e = .returned (.bool true) ∧ Below w.heap.size w w' := by
  have HW := Lib.hid hw; clear hw
  have HC := Lib.hid hc
  have HH := Lib.hid (fun w => halves_bad a z k w hc); clear hc
  go_enter Tryd.func5, Tryd.ntmps5
  go_wp2_with fail
  refine (known_any _ (HW.out.below ((Below.refl _ _).alloc (Nat.le_refl _) _))).mono ?_
  rintro e w1 ⟨rfl, hb⟩
  obtain ⟨B1, hB⟩ := box1 hb; clear hb
  have D1 := Lib.hid B1
  obtain ⟨l1, c0, c1, _, _⟩ := B1
  go_wp2_with fail
  refine (HH.out _).mono ?_
  rintro e w2 ⟨rfl, hb2⟩
  have H2 := Below.two hB hb2
  obtain ⟨l1', c0', c1', _, _⟩ := D1.out.kept hb2
  clear D1 c0 c1 l1 hB hb2
  have hl1 : w.heap.size < w2.heap.size + 1 := by omega
  go_wp2_with fail
  refine (HC.out _).mono ?_
  rintro e w3 ⟨rfl, hb3⟩
  go_wp2_with fail
  go_ret
  exact ⟨rfl, Below.two ((H2.alloc H2.size _).alloc (by simp; omega) _) hb3⟩

set_option maxHeartbeats 1000000 in
theorem prefHalves_none (a : Nat) (ha : a < 4294967296) (x : Nat) (w : World) (hw : Spell w) :
    Calls Tryd.prog 5 #[.agg #[.int .u32 a, .int .i64 32], .int .u32 x] w fun e w' => e = .returned (.bool true) ∧ Below w.heap.size w w' := by
  have HW := Lib.hid hw; clear hw
  have HC := Lib.hid (check_ok a 32 ha (by decide) (PrefP.cut_all a ha))
  go_enter Tryd.func5, Tryd.ntmps5
  go_wp2_with fail
  refine (known_any _ (HW.out.below ((Below.refl _ _).alloc (Nat.le_refl _) _))).mono ?_
  rintro e w1 ⟨rfl, hb⟩
  obtain ⟨B1, hB⟩ := box1 hb; clear hb
  have D1 := Lib.hid B1
  obtain ⟨l1, c0, c1, _, _⟩ := B1
  go_wp2_with fail
  refine (halves_none a ha _).mono ?_
  rintro e w2 ⟨rfl, hb2⟩
  have H2 := Below.two hB hb2
  have D2 := Lib.hid (((D1.out.kept hb2).alloc (.cells #[.int .u32 0, .int .i64 0] 24)).alloc (.cells #[.int .u32 0, .int .i64 0] 24))
  obtain ⟨l1', c0', c1', _, _⟩ := D1.out.kept hb2
  clear D1 c0 c1 l1 hB hb2
  have hl1 : w.heap.size < w2.heap.size + 1 := by omega
  go_wp2_with fail
  refine (HC.out _).mono ?_
  rintro e w3 ⟨rfl, hb3⟩
  obtain ⟨l3, e0, e1, _, _⟩ := D2.out.kept hb3
  go_wp2_with fail
  go_ret
  exact ⟨rfl, Below.two ((H2.alloc H2.size _).alloc (by simp; omega) _) hb3⟩

theorem up_half0 (a n : Nat) (ha : a < 4294967296) (hn : n < 32) (hc : PrefP.cut a n = a) (w : World) :
    Calls Tryd.prog 16 #[.agg #[.int .u32 a, .int .i64 ((n : Int) + 1)]] w fun e w' => e = .returned (.tuple #[.agg #[.int .u32 a, .int .i64 n], .nilIface]) ∧ Below w.heap.size w w' := by
  have h := up_yes a n ha hn (PrefP.half0 a n hn hc) w
  rw [hc] at h
  exact h
theorem up_half1 (a n : Nat) (ha : a < 4294967296) (hn : n < 32) (hc : PrefP.cut a n = a) (w : World) :
    Calls Tryd.prog 16 #[.agg #[.int .u32 ((a ||| PrefP.bit n : Nat) : Int), .int .i64 ((n : Int) + 1)]] w fun e w' => e = .returned (.tuple #[.agg #[.int .u32 a, .int .i64 n], .nilIface]) ∧ Below w.heap.size w w' := by
  have h := up_yes (a ||| PrefP.bit n) n (PrefP.half1_lt a n ha) hn (PrefP.half1 a n hn hc) w
  rw [PrefP.half1_up a n hn hc] at h
  exact h

set_option maxHeartbeats 2000000 in
theorem prefHalves_yes (a n : Nat) (x : Nat) (w : World) (ha : a < 4294967296) (hn : n < 32) (hc : PrefP.cut a n = a) (hx : x < 4294967296) (hw : Spell w) (p q r : Bool)
    (hp : PrefP.has a ((n : Int) + 1) x = p) (hq : PrefP.has (a ||| PrefP.bit n) ((n : Int) + 1) x = q) (hr : PrefP.has a (n : Int) x = r) (hs : (p = true ∧ q = false ∧ r = true) ∨ (p = false ∧ q = true ∧ r = true) ∨ (p = false ∧ q = false ∧ r = false)) :
    Calls Tryd.prog 5 #[.agg #[.int .u32 a, .int .i64 n], .int .u32 x] w fun e w' => e = .returned (.bool true) ∧ Below w.heap.size w w' := by
  have HW := Lib.hid hw; clear hw
  have HH := Lib.hid (halves_yes a n ha hn hc)
  have U0 := Lib.hid (up_half0 a n ha hn hc)
  have U1 := Lib.hid (up_half1 a n ha hn hc)
  have hl : PrefP.less a ((n : Int) + 1) (a ||| PrefP.bit n) ((n : Int) + 1) = true := (PrefP.less_iff _ _ _ _).2 (Or.inl (PrefP.half_less a n hn hc))
  have HL := Lib.hid (fun w => hl ▸ less_any a ((n : Int) + 1) (a ||| PrefP.bit n) ((n : Int) + 1) w)
  have HP := Lib.hid (fun w => hp ▸ has_any a ((n : Int) + 1) x hx w)
  have HQ := Lib.hid (fun w => hq ▸ has_any (a ||| PrefP.bit n) ((n : Int) + 1) x hx w)
  have HR := Lib.hid (fun w => hr ▸ has_any a (n : Int) x hx w)
  clear hl hp hq hr hc
  rcases hs with ⟨rfl, rfl, rfl⟩ | ⟨rfl, rfl, rfl⟩ | ⟨rfl, rfl, rfl⟩
  all_goals
    go_enter Tryd.func5, Tryd.ntmps5
    go_wp2_with fail
    refine (known_any _ (HW.out.below ((Below.refl _ _).alloc (Nat.le_refl _) _))).mono ?_
    rintro e w1 ⟨rfl, hb⟩
    obtain ⟨B1, hB⟩ := box1 hb; clear hb
    have A1 := Lib.hid B1
    obtain ⟨l1, c0, c1, _, _⟩ := B1
    go_wp2_with fail
    refine (HH.out _).mono ?_
    rintro e w2 ⟨rfl, hb2⟩
    have H2 := Below.two hB hb2
    have A2 := Lib.hid (A1.out.kept hb2)
    clear A1 c0 c1 l1 hB hb2
    go_wp2_with fail
    refine (U0.out _).mono ?_
    rintro e w3 ⟨rfl, hb3⟩
    obtain ⟨P3, Q3, _⟩ := box2 hb3
    have HP3 := Lib.hid P3
    have HQ3 := Lib.hid Q3
    have A3 := Lib.hid (((A2.out.alloc _).alloc _).kept hb3)
    have H3 := Below.two ((H2.alloc H2.size _).alloc (by have := H2.size; simp; omega) _) hb3
    clear A2 H2 hb3
    obtain ⟨l2, d0, d1, _, _⟩ := Q3
    clear P3
    go_wp2_with fail
    refine (U1.out _).mono ?_
    rintro e w4 ⟨rfl, hb4⟩
    have U4 := Lib.hid (box1 hb4).1
    have P4 := Lib.hid ((HP3.out.alloc _).kept hb4)
    have Q4 := Lib.hid ((HQ3.out.alloc _).kept hb4)
    have A4 := Lib.hid ((A3.out.alloc _).kept hb4)
    have H4 := Below.two (H3.alloc H3.size _) hb4
    clear HP3 HQ3 A3 H3 hb4 l2 d0 d1
    obtain ⟨lu, u0, u1, _, _⟩ := U4.out
    obtain ⟨lp, p0, p1, _, _⟩ := P4.out
    obtain ⟨lq, q0, q1, _, _⟩ := Q4.out
    obtain ⟨la, a0, a1, _, _⟩ := A4.out
    go_wp2_with fail
    refine (HL.out _).mono ?_
    rintro e w5 ⟨rfl, hb5⟩
    have P5 := Lib.hid ((P4.out.alloc _).kept hb5)
    have Q5 := Lib.hid ((Q4.out.alloc _).kept hb5)
    have A5 := Lib.hid ((A4.out.alloc _).kept hb5)
    have H5 := Below.two (H4.alloc H4.size _) hb5
    clear U4 P4 Q4 A4 H4 hb5 lu u0 u1 lp p0 p1 lq q0 q1 la a0 a1
    obtain ⟨lp, p0, p1, _, _⟩ := P5.out
    go_wp2_with fail
    refine (HP.out _).mono ?_
    rintro e w6 ⟨rfl, hb6⟩
    have Q6 := Lib.hid (Q5.out.kept hb6)
    have A6 := Lib.hid (A5.out.kept hb6)
    have H6 := Below.two H5 hb6
    clear P5 Q5 A5 H5 hb6 lp p0 p1
    obtain ⟨lq, q0, q1, _, _⟩ := Q6.out
    go_wp2_with fail
    refine (HQ.out _).mono ?_
    rintro e w7 ⟨rfl, hb7⟩
    have A7 := Lib.hid (A6.out.kept hb7)
    have H7 := Below.two H6 hb7
    clear Q6 A6 H6 hb7 lq q0 q1
    obtain ⟨la, a0, a1, _, _⟩ := A7.out
    go_wp2_with fail
    refine (HR.out _).mono ?_
    rintro e w8 ⟨rfl, hb8⟩
    go_wp2_with fail
    go_ret
    exact ⟨rfl, Below.two H7 hb8⟩

theorem prefHalves_walk (a : Nat) (l : Int) (x : Nat) (w : World) (ha : a < 4294967296) (hx : x < 4294967296) (hw : Spell w) :
    Calls Tryd.prog 5 #[.agg #[.int .u32 a, .int .i64 l], .int .u32 x] w fun e w' => e = .returned (.bool true) ∧ Below w.heap.size w w' := by
  rcases PrefP.chk_cases a l with ⟨h, _⟩ | ⟨n, rfl, hn, hc, _⟩ | ⟨n, rfl, hn, hc, _⟩
  · exact prefHalves_bad a l 1 x w hw (check_range a l h)
  · exact prefHalves_bad a n 3 x w hw (check_form a n ha hn hc)
  · by_cases h32 : n = 32
    · subst h32
      exact prefHalves_none a ha x w hw
    · have hlt : n < 32 := by omega
      have e1 : PrefP.has a ((n : Int) + 1) x = ((PrefP.cut x (n + 1) : Int) == (a : Int)) := PrefP.has_eq a (n + 1) x (by omega)
      have e2 : PrefP.has (a ||| PrefP.bit n) ((n : Int) + 1) x = ((PrefP.cut x (n + 1) : Int) == ((a ||| PrefP.bit n : Nat) : Int)) := PrefP.has_eq _ (n + 1) x (by omega)
      have e3 : PrefP.has a (n : Int) x = ((PrefP.cut x n : Int) == (a : Int)) := PrefP.has_eq a n x (by omega)
      have hT : ∀ u v : Nat, u = v → ((u : Int) == (v : Int)) = true := fun u v h => by rw [h]; simp
      have hF : ∀ u v : Nat, u ≠ v → ((u : Int) == (v : Int)) = false := fun u v h => by
        have : ¬ ((u : Int) = (v : Int)) := by omega
        simpa using this
      refine prefHalves_yes a n x w ha hlt hc hx hw _ _ _ rfl rfl rfl ?_
      rw [e1, e2, e3]
      rcases PrefP.halves a n x hlt hc with ⟨h1, ⟨h2, h3⟩ | ⟨h2, h3⟩⟩ | ⟨h1, h2, h3⟩
      · exact Or.inl ⟨hT _ _ h2, hF _ _ h3, hT _ _ h1⟩
      · exact Or.inr (Or.inl ⟨hF _ _ h2, hT _ _ h3, hT _ _ h1⟩)
      · exact Or.inr (Or.inr ⟨hF _ _ h2, hF _ _ h3, hF _ _ h1⟩)
end Go.Proofs.YtegfjdpibpmdmaaDoor
