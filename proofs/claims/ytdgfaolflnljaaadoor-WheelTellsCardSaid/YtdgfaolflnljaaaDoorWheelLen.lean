/-
  wheel's Len.
-/
import Derived.Test.YtdgfaolflnljaaaDoorWheelDrop
namespace Go.Proofs.YtdgfaolflnljaaaDoor
open Go.RowKit Go.Lib WheelP Go.Maps

namespace WheelP
/-- How many there are in the slots ahead of slot i. -/
def cntB (f : Nat → Nat) (i : Nat) : Nat := ((List.range 64).filter fun k => decide (0 < f k ∧ f k % 64 < i)).length
theorem cntB_zero (f : Nat → Nat) : cntB f 0 = 0 := by
  unfold cntB
  rw [List.length_eq_zero_iff, List.filter_eq_nil_iff]
  intro k _
  simp
theorem sl_pos (f : Nat → Nat) (i k : Nat) : 0 < sl f i k ↔ (0 < f k ∧ f k % 64 = i) := by
  unfold sl
  by_cases h : f k % 64 = i
  · rw [if_pos h]; omega
  · rw [if_neg h]; omega
theorem cntB_more (f : Nat → Nat) (i : Nat) : cntB f (i + 1) = cntB f i + cnt (sl f i) := by
  unfold cntB cnt
  induction List.range 64 with
  | nil => rfl
  | cons k l ih =>
    simp only [List.filter_cons]
    have e1 : decide (0 < f k ∧ f k % 64 < i + 1) = (decide (0 < f k ∧ f k % 64 < i) || decide (0 < sl f i k)) := by
      rw [Bool.eq_iff_iff]
      simp only [Bool.or_eq_true, decide_eq_true_eq, sl_pos]
      omega
    have e2 : ¬ (decide (0 < f k ∧ f k % 64 < i) = true ∧ decide (0 < sl f i k) = true) := by
      simp only [decide_eq_true_eq, sl_pos]
      omega
    rw [e1]
    cases h1 : decide (0 < f k ∧ f k % 64 < i) <;> cases h2 : decide (0 < sl f i k) <;> simp_all <;> omega
theorem cntB_all (f : Nat → Nat) : cntB f 64 = cnt f := by
  unfold cntB cnt
  congr 1
  refine List.filter_congr fun k _ => ?_
  rw [Bool.eq_iff_iff]
  simp only [decide_eq_true_eq]
  have := Nat.mod_lt (f k) (show 64 > 0 by omega)
  omega
theorem cntB_le (f : Nat → Nat) (i : Nat) : cntB f i ≤ 64 := Nat.le_trans (List.length_filter_le _ _) (by simp)
end WheelP

set_option maxHeartbeats 2000000 in
set_option maxRecDepth 100000 in
theorem wLen_any (w : World) (p : Nat) (m : Nat → Option Nat) (now : Nat) (f : Nat → Nat) (h : Whl w p m now f) :
    Calls Tryd.prog 13 #[.pointer (some ⟨p, 0, none⟩)] w fun e w' => e = .returned (.int .i64 (cnt f)) ∧ w = w' := by
  have hr := h.range
  have hidx := fun i hi => idx_any w m i hi
  have hlen := cellsM_len m
  have HW := Lib.hid h
  clear h
  generalize cellsM m = cs at hr hidx hlen
  have HI := Lib.hid hidx
  clear hidx
  go_enter Tryd.func13, Tryd.ntmps13
  go_wp2_with (refine wpList_load_mid rfl 42 _ rfl p 1 rfl cs _ hr Tryd.underlying42 rfl (by rw [hlen]; exact arr_info) ?_)
  clear hr hlen
  go_loopw [3, 10] (fun v3 v10 wr => ∃ i : Nat, v3 = .int .i64 (cntB f i) ∧ v10 = .int .i64 i ∧ i ≤ 64 ∧ wr = w) (fun _ v10 _ => 65 - (intOf v10).toNat)
  case atStart => exact ⟨0, by rw [cntB_zero]; rfl, rfl, by omega, rfl⟩
  case round =>
    obtain ⟨i, rfl, rfl, hi, rfl⟩ := hrel
    by_cases hlt : i < 64
    · have t : (i : Int) < 64 := by omega
      have hx := HI.out i hlt
      have hmore := Lib.hid (cntB_more f i)
      have hle := cntB_le f i
      obtain ⟨a, ha⟩ : ∃ a, a = cntB f i := ⟨_, rfl⟩
      rw [← ha] at hle hmore ⊢
      have HA := Lib.hid ha
      clear ha
      cases hm : m i with
      | none =>
        rw [hm] at hx
        have hln : ∀ ty, (Builtin.len_ #[41] ty #[.map none]).run Tryd.prog wr = .ok (.int .i64 0) wr := fun ty => len_nil (w := wr) Tryd.underlying41 ty
        have hz : cnt (sl f i) = 0 := by
          rw [cnt_congr (g' := fun _ => 0) (HW.out.no i hlt hm)]
          decide
        have hm2 : cntB f (i + 1) = a := by rw [hmore.out, hz]; rfl
        have HM := Lib.hid hm2
        clear hm2 hz
        go_wp2_with fail
        go_roundw
        case rel => exact ⟨i + 1, by rw [HM.out], by go_num, by omega, trivial⟩
        case measure => simp [intOf]; omega
      | some b =>
        rw [hm] at hx
        have hown := (HW.out.mp i b hlt hm).2
        unfold MapAt at hown
        have hsz := size_dt (sl f i)
        obtain ⟨c, hc⟩ : ∃ c, c = cnt (sl f i) := ⟨_, rfl⟩
        have hcl : c ≤ 64 := by rw [hc]; exact cnt_le _
        rw [← hc] at hsz hmore
        have HM := Lib.hid hmore.out
        clear hc hmore
        go_wp2_with (at_len; refine wpList_len_own _ rfl _ 41 rfl 3 3 Tryd.underlying41 _ b 64 _ rfl hown ?_; rw [hsz])
        go_roundw
        case rel => exact ⟨i + 1, by rw [HM.out]; go_num, by go_num, by omega, trivial⟩
        case measure => simp [intOf]; omega
    · have t : ¬ (i : Int) < 64 := by omega
      have hi64 : i = 64 := by omega
      subst hi64
      rw [cntB_all]
      clear hlt hi
      go_wp2_with fail
      go_ret
      exact ⟨rfl, rfl⟩
end Go.Proofs.YtdgfaolflnljaaaDoor
