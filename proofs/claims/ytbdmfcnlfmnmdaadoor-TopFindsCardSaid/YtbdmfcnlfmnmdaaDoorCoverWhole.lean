/-
  cover.whole at a right network and any other one: the network whose halves they are, if there is one; what lay in memory stays.
-/
import Derived.Test.YtbdmfcnlfmnmdaaDoorPrefHalves
import Derived.Test.YtbdmfcnlfmnmdaaDoorPrefUp
import Derived.Test.YtbdmfcnlfmnmdaaDoorSortRow
namespace Go.Proofs.YtbdmfcnlfmnmdaaDoor
open Go.RowKit

/-- The network whose halves two are. -/
def wh (x y : Nt) : Option Nt :=
  if x.2 = 0 then none else if PrefP.cut x.1 (x.2.toNat - 1) = x.1 ∧ y = (x.1 ||| PrefP.bit (x.2.toNat - 1), x.2) then some (x.1, x.2 - 1) else none
theorem wh_zero (x y : Nt) (h : x.2 = 0) : wh x y = none := if_pos h
theorem wh_no1 (a n : Nat) (y : Nt) (h : PrefP.cut a n ≠ a) : wh (a, (n : Int) + 1) y = none := by
  unfold wh
  rw [if_neg (by simp only; omega), if_neg (by
    simp only
    rintro ⟨h1, _⟩
    rw [show ((n : Int) + 1).toNat - 1 = n by omega] at h1
    exact h h1)]
theorem wh_no2 (a n : Nat) (y : Nt) (h : ¬ (y.1 = a ||| PrefP.bit n ∧ y.2 = (n : Int) + 1)) : wh (a, (n : Int) + 1) y = none := by
  unfold wh
  rw [if_neg (by simp only; omega), if_neg (by
    simp only
    rintro ⟨_, h2⟩
    rw [show ((n : Int) + 1).toNat - 1 = n by omega] at h2
    exact h (by rw [h2]; exact ⟨rfl, rfl⟩))]
theorem wh_yes (a n : Nat) (h : PrefP.cut a n = a) : wh (a, (n : Int) + 1) (a ||| PrefP.bit n, (n : Int) + 1) = some (a, (n : Int)) := by
  unfold wh
  rw [if_neg (by simp only; omega), if_pos (by
    simp only
    rw [show ((n : Int) + 1).toNat - 1 = n by omega]
    exact ⟨h, rfl⟩)]
  simp

/-- What whole answers. -/
def whV : Option Nt → Value
  | none => .tuple #[.agg #[.int .u32 0, .int .i64 0], .bool false]
  | some u => .tuple #[.agg #[.int .u32 (u.1 : Int), .int .i64 u.2], .bool true]

set_option maxHeartbeats 1000000 in
set_option maxRecDepth 100000 in
theorem whole_zero (y : Nt) (w : World) :
    Calls Tryd.prog 50 #[.agg #[.int .u32 0, .int .i64 0], .agg #[.int .u32 (y.1 : Int), .int .i64 y.2]] w fun e w' => e = .returned (whV none) ∧ Below w.heap.size w w' := by
  have HU := Lib.hid up_none
  unfold whV
  go_enter Tryd.func50, Tryd.ntmps50
  go_wp2_with fail
  refine (HU.out _).mono ?_
  rintro e w1 ⟨rfl, hb⟩
  obtain ⟨B1, B2, B3, hB⟩ := box3 hb; clear hb B1 B2
  have R := ((B3.set (.int .u32 0) (.int .i64 0)).alloc (.cells #[.int .u32 0, .int .i64 0] 32))
  have r0 := R.c0
  have r1 := R.c1
  obtain ⟨l3, e0, e1, i0, i1⟩ := B3
  clear R
  go_wp2_with fail
  exact bodyPost_ret (v := .tuple #[.agg #[.int .u32 0, .int .i64 0], .bool false]) (by simp [results, Tryd.results50, go_sem, r0, r1]) rfl ⟨rfl, ((hB.setCell (by simp; omega) _).setCell (by simp; omega) _).alloc (by simp; have := hB.size; omega) _⟩

set_option maxHeartbeats 1000000 in
set_option maxRecDepth 100000 in
theorem whole_succ (a n : Nat) (y : Nt) (ha : a < 4294967296) (hn : n < 32) (hc : PrefP.cut a (n + 1) = a) (w : World) :
    Calls Tryd.prog 50 #[.agg #[.int .u32 a, .int .i64 ((n : Int) + 1)], .agg #[.int .u32 (y.1 : Int), .int .i64 y.2]] w fun e w' => e = .returned (whV (wh (a, (n : Int) + 1) y)) ∧ Below w.heap.size w w' := by
  have HU := Lib.hid (up_yes a n ha hn hc)
  have hcc : PrefP.cut (PrefP.cut a n) n = PrefP.cut a n := PrefP.cut_cut a n n (by omega) (by omega) (Nat.le_refl _)
  have HH := Lib.hid (halves_yes (PrefP.cut a n) n (PrefP.cut_lt a n) hn hcc)
  by_cases h1 : PrefP.cut a n = a
  · rw [h1] at HU HH
    by_cases h2 : y.1 = a ||| PrefP.bit n ∧ y.2 = (n : Int) + 1
    · have ey : y = (a ||| PrefP.bit n, (n : Int) + 1) := Prod.ext h2.1 h2.2
      subst ey
      rw [wh_yes a n h1]
      clear h2
      unfold whV
      go_enter Tryd.func50, Tryd.ntmps50
      go_wp2_with fail
      refine (HU.out _).mono ?_
      rintro e w1 ⟨rfl, hb⟩
      obtain ⟨B1, B2, B3, hB⟩ := box3 hb; clear hb
      have D1 := Lib.hid B1; have D2 := Lib.hid B2; have D3 := Lib.hid B3
      clear B1 B2 B3
      go_wp2_with fail
      refine (HH.out _).mono ?_
      rintro e w2 ⟨rfl, hb2⟩
      obtain ⟨⟨l6, k0, k1, j0, j1⟩, hb3⟩ := box1 hb2; clear hb2
      have hB2 := Below.two hB hb3
      have R := (((D3.out.kept hb3).set (.int .u32 (a : Int)) (.int .i64 (n : Int))).alloc (.cells #[.int .u32 (a : Int), .int .i64 ((n : Int) + 1)] 32)).alloc (.cells #[.int .u32 ((a ||| PrefP.bit n : Nat) : Int), .int .i64 ((n : Int) + 1)] 32)
      have r0 := R.c0
      have r1 := R.c1
      obtain ⟨l1, c0, c1, f0, f1⟩ := D1.out.kept hb3
      obtain ⟨l2, d0, d1, g0, g1⟩ := D2.out.kept hb3
      obtain ⟨l3, e0, e1, i0, i1⟩ := D3.out.kept hb3
      clear R
      go_wp2_with fail
      exact bodyPost_ret (v := .tuple #[.agg #[.int .u32 (a : Int), .int .i64 (n : Int)], .bool true]) (by simp [results, Tryd.results50, go_sem, r0, r1]) rfl ⟨rfl, (((hB2.setCell (by simp; omega) _).setCell (by simp; omega) _).alloc (by simp; have := hB2.size; omega) _).alloc (by simp; have := hB2.size; omega) _⟩
    · rw [wh_no2 a n y h2]
      by_cases h3 : y.1 = a ||| PrefP.bit n
      · have t3 : (((n : Int) + 1) == y.2) = false := by
          have : ¬ ((n : Int) + 1) = y.2 := fun h => h2 ⟨h3, h.symm⟩
          simpa using this
        rw [h3]
        clear h2
        unfold whV
        go_enter Tryd.func50, Tryd.ntmps50
        go_wp2_with fail
        refine (HU.out _).mono ?_
        rintro e w1 ⟨rfl, hb⟩
        obtain ⟨B1, B2, B3, hB⟩ := box3 hb; clear hb
        have D1 := Lib.hid B1; have D2 := Lib.hid B2; have D3 := Lib.hid B3
        clear B1 B2 B3
        go_wp2_with fail
        refine (HH.out _).mono ?_
        rintro e w2 ⟨rfl, hb2⟩
        obtain ⟨⟨l6, k0, k1, j0, j1⟩, hb3⟩ := box1 hb2; clear hb2
        have hB2 := Below.two hB hb3
        have R := (((D3.out.kept hb3).set (.int .u32 0) (.int .i64 0)).alloc (.cells #[.int .u32 (a : Int), .int .i64 ((n : Int) + 1)] 32)).alloc (.cells #[.int .u32 ((a ||| PrefP.bit n : Nat) : Int), .int .i64 ((n : Int) + 1)] 32)
        have r0 := R.c0
        have r1 := R.c1
        obtain ⟨l1, c0, c1, f0, f1⟩ := D1.out.kept hb3
        obtain ⟨l2, d0, d1, g0, g1⟩ := D2.out.kept hb3
        obtain ⟨l3, e0, e1, i0, i1⟩ := D3.out.kept hb3
        clear R
        go_wp2_with fail
        exact bodyPost_ret (v := .tuple #[.agg #[.int .u32 0, .int .i64 0], .bool false]) (by simp [results, Tryd.results50, go_sem, r0, r1]) rfl ⟨rfl, (((hB2.setCell (by simp; omega) _).setCell (by simp; omega) _).alloc (by simp; have := hB2.size; omega) _).alloc (by simp; have := hB2.size; omega) _⟩
      · have t3 : (((a ||| PrefP.bit n : Nat) : Int) == (y.1 : Int)) = false := by
          have : ¬ ((a ||| PrefP.bit n : Nat) : Int) = (y.1 : Int) := fun h => h3 (by omega)
          simpa using this
        clear h2
        unfold whV
        go_enter Tryd.func50, Tryd.ntmps50
        go_wp2_with fail
        refine (HU.out _).mono ?_
        rintro e w1 ⟨rfl, hb⟩
        obtain ⟨B1, B2, B3, hB⟩ := box3 hb; clear hb
        have D1 := Lib.hid B1; have D2 := Lib.hid B2; have D3 := Lib.hid B3
        clear B1 B2 B3
        go_wp2_with fail
        refine (HH.out _).mono ?_
        rintro e w2 ⟨rfl, hb2⟩
        obtain ⟨⟨l6, k0, k1, j0, j1⟩, hb3⟩ := box1 hb2; clear hb2
        have hB2 := Below.two hB hb3
        have R := (((D3.out.kept hb3).set (.int .u32 0) (.int .i64 0)).alloc (.cells #[.int .u32 (a : Int), .int .i64 ((n : Int) + 1)] 32)).alloc (.cells #[.int .u32 ((a ||| PrefP.bit n : Nat) : Int), .int .i64 ((n : Int) + 1)] 32)
        have r0 := R.c0
        have r1 := R.c1
        obtain ⟨l1, c0, c1, f0, f1⟩ := D1.out.kept hb3
        obtain ⟨l2, d0, d1, g0, g1⟩ := D2.out.kept hb3
        obtain ⟨l3, e0, e1, i0, i1⟩ := D3.out.kept hb3
        clear R
        go_wp2_with fail
        exact bodyPost_ret (v := .tuple #[.agg #[.int .u32 0, .int .i64 0], .bool false]) (by simp [results, Tryd.results50, go_sem, r0, r1]) rfl ⟨rfl, (((hB2.setCell (by simp; omega) _).setCell (by simp; omega) _).alloc (by simp; have := hB2.size; omega) _).alloc (by simp; have := hB2.size; omega) _⟩
  · rw [wh_no1 a n y h1]
    have t1 : ((PrefP.cut a n : Int) == (a : Int)) = false := by
      have : ¬ ((PrefP.cut a n : Int) = (a : Int)) := by omega
      simpa using this
    unfold whV
    go_enter Tryd.func50, Tryd.ntmps50
    go_wp2_with fail
    refine (HU.out _).mono ?_
    rintro e w1 ⟨rfl, hb⟩
    obtain ⟨B1, B2, B3, hB⟩ := box3 hb; clear hb
    have D1 := Lib.hid B1; have D2 := Lib.hid B2; have D3 := Lib.hid B3
    clear B1 B2 B3
    go_wp2_with fail
    refine (HH.out _).mono ?_
    rintro e w2 ⟨rfl, hb2⟩
    obtain ⟨⟨l6, k0, k1, j0, j1⟩, hb3⟩ := box1 hb2; clear hb2
    have hB2 := Below.two hB hb3
    have R := (((D3.out.kept hb3).set (.int .u32 0) (.int .i64 0)).alloc (.cells #[.int .u32 ((PrefP.cut a n : Nat) : Int), .int .i64 ((n : Int) + 1)] 32)).alloc (.cells #[.int .u32 ((PrefP.cut a n ||| PrefP.bit n : Nat) : Int), .int .i64 ((n : Int) + 1)] 32)
    have r0 := R.c0
    have r1 := R.c1
    obtain ⟨l1, c0, c1, f0, f1⟩ := D1.out.kept hb3
    obtain ⟨l2, d0, d1, g0, g1⟩ := D2.out.kept hb3
    obtain ⟨l3, e0, e1, i0, i1⟩ := D3.out.kept hb3
    clear R
    go_wp2_with fail
    exact bodyPost_ret (v := .tuple #[.agg #[.int .u32 0, .int .i64 0], .bool false]) (by simp [results, Tryd.results50, go_sem, r0, r1]) rfl ⟨rfl, (((hB2.setCell (by simp; omega) _).setCell (by simp; omega) _).alloc (by simp; have := hB2.size; omega) _).alloc (by simp; have := hB2.size; omega) _⟩

/-- cover.whole at a right network. -/
theorem whole_any (x y : Nt) (hx : x.1 < 4294967296) (h0 : PrefP.chk x.1 x.2 = 0) (w : World) :
    Calls Tryd.prog 50 #[.agg #[.int .u32 (x.1 : Int), .int .i64 x.2], .agg #[.int .u32 (y.1 : Int), .int .i64 y.2]] w fun e w' => e = .returned (whV (wh x y)) ∧ Below w.heap.size w w' := by
  obtain ⟨a, z⟩ := x
  obtain ⟨n, hz, hn, hc⟩ := PrefP.chk_zero a z h0
  simp only at hz hx
  subst hz
  cases n with
  | zero =>
    have ea : a = 0 := by rw [← hc]; simp [PrefP.cut, MaskP.mk]
    subst ea
    rw [wh_zero _ _ rfl]
    exact whole_zero y w
  | succ m => exact whole_succ a m y hx (by omega) hc w
end Go.Proofs.YtbdmfcnlfmnmdaaDoor
