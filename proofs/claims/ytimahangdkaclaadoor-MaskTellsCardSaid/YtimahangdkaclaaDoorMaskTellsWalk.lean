/-
  The statement MaskTells' function answers true at every number and every mask; what lay in memory stays. Condition: the library's variable errors.errorType is as its text lays it.
-/
import Derived.Test.YtimahangdkaclaaDoorMaskCode
import Derived.Test.YtimahangdkaclaaDoorRefMask
import Derived.Test.YtimahangdkaclaaDoorErrTold
namespace Go.Proofs.YtimahangdkaclaaDoor
open Go.RowKit

/-- What the law's own search has found below j. -/
def MaskP.Found (m j : Nat) (e at1 : Value) : Prop :=
  ((∀ i, i < j → MaskP.mk i ≠ m) ∧ e = .int .i64 3 ∧ at1 = .int .i64 0) ∨ (∃ i : Nat, i < j ∧ MaskP.mk i = m ∧ e = .int .i64 0 ∧ at1 = .int .i64 (i : Int))
theorem MaskP.found0 (m : Nat) : MaskP.Found m 0 (.int .i64 3) (.int .i64 0) := Or.inl ⟨fun i h => absurd h (Nat.not_lt_zero i), rfl, rfl⟩
theorem MaskP.found_no {m j : Nat} {e at1 : Value} (h : MaskP.Found m j e at1) (hc : MaskP.mk j ≠ m) : MaskP.Found m (j + 1) e at1 := by
  rcases h with ⟨h, h1, h2⟩ | ⟨i, hi, h1, h2, h3⟩
  · refine Or.inl ⟨fun i hi => ?_, h1, h2⟩
    rcases Nat.lt_or_ge i j with hl | hg
    · exact h i hl
    · rw [show i = j by omega]; exact hc
  · exact Or.inr ⟨i, by omega, h1, h2, h3⟩
theorem MaskP.found_yes {m j : Nat} (hc : MaskP.mk j = m) : MaskP.Found m (j + 1) (.int .i64 0) (.int .i64 (j : Int)) := Or.inr ⟨j, by omega, hc, rfl, rfl⟩

theorem Below.two {w w1 w2 : World} (h1 : Below w.heap.size w w1) (h2 : Below w1.heap.size w1 w2) : Below w.heap.size w w2 := h1.trans (h2.mono h1.size)
theorem Below.three {w w1 w2 w3 : World} (h1 : Below w.heap.size w w1) (h2 : Below w1.heap.size w1 w2) (h3 : Below w2.heap.size w2 w3) : Below w.heap.size w w3 := Below.two (Below.two h1 h2) h3

set_option maxHeartbeats 1000000 in
theorem maskTells_good (n : Nat) (m : Nat) (w : World) (hn : n ≤ 32) (hm : m < 4294967296) (he : ErrType w) :
    Calls Tryd.prog 3 #[.int .i64 n, .int .u32 m] w fun e w' => e = .returned (.bool true) ∧ Below w.heap.size w w' := by
  have HE := Lib.hid he; clear he
  have h0 : ¬ ((n : Int) < 0) := by omega
  have h1 : ¬ ((32 : Int) < n) := by omega
  go_enter Tryd.func3, Tryd.ntmps3
  go_wp2_with fail
  refine (maskOf_any n hn _).mono ?_
  rintro e w0 ⟨rfl, rfl⟩
  go_wp2_with fail
  refine (mask_yes n hn _).mono ?_
  rintro e w1 ⟨rfl, rfl⟩
  go_wp2_with fail
  refine (same_nil 0 true rfl _).mono ?_
  rintro e w2 ⟨rfl, rfl⟩
  have hb2 : Below w.heap.size w w := Below.refl _ _
  have E2 := Lib.hid HE.out
  go_wp2_with fail
  go_loop [5, 10, 11] (fun e at1 i => ∃ j : Nat, i = .int .i64 (j : Int) ∧ j ≤ 33 ∧ MaskP.Found m j e at1) (fun _ _ i => 33 - (intOf i).toNat)
  case atStart => exact ⟨0, rfl, by omega, MaskP.found0 m⟩
  case round =>
    obtain ⟨j, rfl, hj, hf⟩ := hrel
    by_cases hlt : j ≤ 32
    · have hle : (j : Int) ≤ 32 := by omega
      by_cases hc : MaskP.mk j = m
      · have ht : ((MaskP.mk j : Int) == (m : Int)) = true := by rw [hc]; simp
        have HC := Lib.hid hc; clear hc hf
        go_wp2_with fail
        refine (maskOf_any j hlt _).mono ?_
        rintro e w5 ⟨rfl, rfl⟩
        go_wp2_with fail
        exact ⟨⟨j + 1, by simp, by omega, MaskP.found_yes HC.out⟩, by simp [intOf]; omega⟩
      · have ht : ((MaskP.mk j : Int) == (m : Int)) = false := by
          have : ¬ ((MaskP.mk j : Int) = (m : Int)) := by omega
          simpa using this
        have HC := Lib.hid hc
        have HF := Lib.hid hf; clear hc hf
        go_wp2_with fail
        refine (maskOf_any j hlt _).mono ?_
        rintro e w5 ⟨rfl, rfl⟩
        go_wp2_with fail
        exact ⟨⟨j + 1, by simp, by omega, MaskP.found_no HF.out HC.out⟩, by simp [intOf]; omega⟩
    · obtain rfl : j = 33 := by omega
      rcases hf with ⟨hn, rfl, rfl⟩ | ⟨i, hi, hc, rfl, rfl⟩
      · have hl : MaskP.len m = none := by
          cases hq : MaskP.len m with
          | none => rfl
          | some q =>
            obtain ⟨h1, h2, _⟩ := MaskP.len_some m q hm hq
            exact absurd h2 (hn q (by omega))
        have HL := Lib.hid (fun w => len_no m hm hl w); clear hl hn
        go_wp2_with fail
        refine (HL.out _).mono ?_
        rintro e w5 ⟨rfl, hb5⟩
        go_wp2_with fail
        refine (same_err 3 3 true rfl _ (E2.out.below hb5)).mono ?_
        rintro e w6 ⟨rfl, hb6⟩
        go_wp2_with fail
        go_ret
        exact ⟨rfl, Below.three hb2 hb5 hb6⟩
      · have hl : MaskP.len m = some i := by rw [← hc]; exact MaskP.len_mk i (by omega)
        have HL := Lib.hid (fun w => len_yes m i hm hl w); clear hl hc
        go_wp2_with fail
        refine (HL.out _).mono ?_
        rintro e w5 ⟨rfl, hb5⟩
        go_wp2_with fail
        refine (same_nil 0 true rfl _).mono ?_
        rintro e w6 ⟨rfl, rfl⟩
        go_wp2_with fail
        go_ret
        exact ⟨rfl, Below.two hb2 hb5⟩

set_option maxHeartbeats 1000000 in
theorem maskTells_low (z : Int) (m : Nat) (w : World) (hz : z < 0) (hm : m < 4294967296) (he : ErrType w) :
    Calls Tryd.prog 3 #[.int .i64 z, .int .u32 m] w fun e w' => e = .returned (.bool true) ∧ Below w.heap.size w w' := by
  have HE := Lib.hid he; clear he
  have HZ := Lib.hid (show z < 0 ∨ 32 < z from Or.inl hz)
  go_enter Tryd.func3, Tryd.ntmps3
  go_wp2_with fail
  refine (mask_no z HZ.out _).mono ?_
  rintro e w1 ⟨rfl, rfl⟩
  go_wp2_with fail
  refine (same_err 1 1 true rfl _ HE.out).mono ?_
  rintro e w2 ⟨rfl, hb2⟩
  have E2 := Lib.hid (HE.out.below hb2)
  go_wp2_with fail
  go_loop [5, 10, 11] (fun e at1 i => ∃ j : Nat, i = .int .i64 (j : Int) ∧ j ≤ 33 ∧ MaskP.Found m j e at1) (fun _ _ i => 33 - (intOf i).toNat)
  case atStart => exact ⟨0, rfl, by omega, MaskP.found0 m⟩
  case round =>
    obtain ⟨j, rfl, hj, hf⟩ := hrel
    by_cases hlt : j ≤ 32
    · have hle : (j : Int) ≤ 32 := by omega
      by_cases hc : MaskP.mk j = m
      · have ht : ((MaskP.mk j : Int) == (m : Int)) = true := by rw [hc]; simp
        have HC := Lib.hid hc; clear hc hf
        go_wp2_with fail
        refine (maskOf_any j hlt _).mono ?_
        rintro e w5 ⟨rfl, rfl⟩
        go_wp2_with fail
        exact ⟨⟨j + 1, by simp, by omega, MaskP.found_yes HC.out⟩, by simp [intOf]; omega⟩
      · have ht : ((MaskP.mk j : Int) == (m : Int)) = false := by
          have : ¬ ((MaskP.mk j : Int) = (m : Int)) := by omega
          simpa using this
        have HC := Lib.hid hc
        have HF := Lib.hid hf; clear hc hf
        go_wp2_with fail
        refine (maskOf_any j hlt _).mono ?_
        rintro e w5 ⟨rfl, rfl⟩
        go_wp2_with fail
        exact ⟨⟨j + 1, by simp, by omega, MaskP.found_no HF.out HC.out⟩, by simp [intOf]; omega⟩
    · obtain rfl : j = 33 := by omega
      rcases hf with ⟨hn, rfl, rfl⟩ | ⟨i, hi, hc, rfl, rfl⟩
      · have hl : MaskP.len m = none := by
          cases hq : MaskP.len m with
          | none => rfl
          | some q =>
            obtain ⟨h1, h2, _⟩ := MaskP.len_some m q hm hq
            exact absurd h2 (hn q (by omega))
        have HL := Lib.hid (fun w => len_no m hm hl w); clear hl hn
        go_wp2_with fail
        refine (HL.out _).mono ?_
        rintro e w5 ⟨rfl, hb5⟩
        go_wp2_with fail
        refine (same_err 3 3 true rfl _ (E2.out.below hb5)).mono ?_
        rintro e w6 ⟨rfl, hb6⟩
        go_wp2_with fail
        go_ret
        exact ⟨rfl, Below.three hb2 hb5 hb6⟩
      · have hl : MaskP.len m = some i := by rw [← hc]; exact MaskP.len_mk i (by omega)
        have HL := Lib.hid (fun w => len_yes m i hm hl w); clear hl hc
        go_wp2_with fail
        refine (HL.out _).mono ?_
        rintro e w5 ⟨rfl, hb5⟩
        go_wp2_with fail
        refine (same_nil 0 true rfl _).mono ?_
        rintro e w6 ⟨rfl, rfl⟩
        go_wp2_with fail
        go_ret
        exact ⟨rfl, Below.two hb2 hb5⟩

set_option maxHeartbeats 1000000 in
theorem maskTells_high (z : Int) (m : Nat) (w : World) (hz : 32 < z) (hm : m < 4294967296) (he : ErrType w) :
    Calls Tryd.prog 3 #[.int .i64 z, .int .u32 m] w fun e w' => e = .returned (.bool true) ∧ Below w.heap.size w w' := by
  have HE := Lib.hid he; clear he
  have HZ := Lib.hid (show z < 0 ∨ 32 < z from Or.inr hz)
  have h0 : ¬ (z < 0) := by omega
  go_enter Tryd.func3, Tryd.ntmps3
  go_wp2_with fail
  refine (mask_no z HZ.out _).mono ?_
  rintro e w1 ⟨rfl, rfl⟩
  go_wp2_with fail
  refine (same_err 1 1 true rfl _ HE.out).mono ?_
  rintro e w2 ⟨rfl, hb2⟩
  have E2 := Lib.hid (HE.out.below hb2)
  go_wp2_with fail
  go_loop [5, 10, 11] (fun e at1 i => ∃ j : Nat, i = .int .i64 (j : Int) ∧ j ≤ 33 ∧ MaskP.Found m j e at1) (fun _ _ i => 33 - (intOf i).toNat)
  case atStart => exact ⟨0, rfl, by omega, MaskP.found0 m⟩
  case round =>
    obtain ⟨j, rfl, hj, hf⟩ := hrel
    by_cases hlt : j ≤ 32
    · have hle : (j : Int) ≤ 32 := by omega
      by_cases hc : MaskP.mk j = m
      · have ht : ((MaskP.mk j : Int) == (m : Int)) = true := by rw [hc]; simp
        have HC := Lib.hid hc; clear hc hf
        go_wp2_with fail
        refine (maskOf_any j hlt _).mono ?_
        rintro e w5 ⟨rfl, rfl⟩
        go_wp2_with fail
        exact ⟨⟨j + 1, by simp, by omega, MaskP.found_yes HC.out⟩, by simp [intOf]; omega⟩
      · have ht : ((MaskP.mk j : Int) == (m : Int)) = false := by
          have : ¬ ((MaskP.mk j : Int) = (m : Int)) := by omega
          simpa using this
        have HC := Lib.hid hc
        have HF := Lib.hid hf; clear hc hf
        go_wp2_with fail
        refine (maskOf_any j hlt _).mono ?_
        rintro e w5 ⟨rfl, rfl⟩
        go_wp2_with fail
        exact ⟨⟨j + 1, by simp, by omega, MaskP.found_no HF.out HC.out⟩, by simp [intOf]; omega⟩
    · obtain rfl : j = 33 := by omega
      rcases hf with ⟨hn, rfl, rfl⟩ | ⟨i, hi, hc, rfl, rfl⟩
      · have hl : MaskP.len m = none := by
          cases hq : MaskP.len m with
          | none => rfl
          | some q =>
            obtain ⟨h1, h2, _⟩ := MaskP.len_some m q hm hq
            exact absurd h2 (hn q (by omega))
        have HL := Lib.hid (fun w => len_no m hm hl w); clear hl hn
        go_wp2_with fail
        refine (HL.out _).mono ?_
        rintro e w5 ⟨rfl, hb5⟩
        go_wp2_with fail
        refine (same_err 3 3 true rfl _ (E2.out.below hb5)).mono ?_
        rintro e w6 ⟨rfl, hb6⟩
        go_wp2_with fail
        go_ret
        exact ⟨rfl, Below.three hb2 hb5 hb6⟩
      · have hl : MaskP.len m = some i := by rw [← hc]; exact MaskP.len_mk i (by omega)
        have HL := Lib.hid (fun w => len_yes m i hm hl w); clear hl hc
        go_wp2_with fail
        refine (HL.out _).mono ?_
        rintro e w5 ⟨rfl, hb5⟩
        go_wp2_with fail
        refine (same_nil 0 true rfl _).mono ?_
        rintro e w6 ⟨rfl, rfl⟩
        go_wp2_with fail
        go_ret
        exact ⟨rfl, Below.two hb2 hb5⟩

theorem maskTells_walk (z : Int) (m : Nat) (w : World) (hm : m < 4294967296) (he : ErrType w) :
    Calls Tryd.prog 3 #[.int .i64 z, .int .u32 m] w fun e w' => e = .returned (.bool true) ∧ Below w.heap.size w w' := by
  by_cases h0 : z < 0
  · exact maskTells_low z m w h0 hm he
  · by_cases h1 : 32 < z
    · exact maskTells_high z m w h1 hm he
    · obtain ⟨n, rfl⟩ := Int.eq_ofNat_of_zero_le (show 0 ≤ z by omega)
      exact maskTells_good n m w (by omega) hm he
end Go.Proofs.YtimahangdkaclaaDoor
