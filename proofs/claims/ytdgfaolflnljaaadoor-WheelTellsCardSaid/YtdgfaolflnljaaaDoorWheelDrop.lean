/-
  wheel's check and drop: an id's due time struck, wherever it lies.
-/
import Derived.Test.YtdgfaolflnljaaaDoorWheelMem
namespace Go.Proofs.YtdgfaolflnljaaaDoor
open Go.RowKit Go.Lib WheelP Go.Maps

set_option maxHeartbeats 1000000 in
set_option maxRecDepth 100000 in
theorem wCheck_bad (w : World) (i : Int) (hi : i < 0 ∨ 64 ≤ i) :
    Calls Tryd.prog 17 #[.int .i64 i] w fun e w' => e = .returned (.iface 27 (.int .i64 1)) ∧ w = w' := by
  by_cases t : i < 0
  · clear hi
    go_enter Tryd.func17, Tryd.ntmps17
    go_wp2_with fail
    go_ret
    exact ⟨rfl, rfl⟩
  · have t2 : i ≥ 64 := by omega
    clear hi
    go_enter Tryd.func17, Tryd.ntmps17
    go_wp2_with fail
    go_ret
    exact ⟨rfl, rfl⟩
set_option maxHeartbeats 1000000 in
set_option maxRecDepth 100000 in
theorem wCheck_ok (w : World) (k : Nat) (hk : k < 64) :
    Calls Tryd.prog 17 #[.int .i64 k] w fun e w' => e = .returned .nilIface ∧ w = w' := by
  have t : ¬ (k : Int) < 0 := by omega
  have t2 : ¬ (k : Int) ≥ 64 := by omega
  clear hk
  go_enter Tryd.func17, Tryd.ntmps17
  go_wp2_with fail
  go_ret
  exact ⟨rfl, rfl⟩

theorem keep_map {w w1 : World} {b : Nat} (h : w.mapTurned w1 b) : Keep (fun x => x = b) w w1 := by
  have g := h.grown
  exact ⟨g.os, g.tape, g.output, g.size, fun k hk hn => g.block k hk (by simpa using hn)⟩

set_option maxHeartbeats 2000000 in
set_option maxRecDepth 100000 in
theorem wDrop_any (w : World) (p : Nat) (m : Nat → Option Nat) (now : Nat) (f : Nat → Nat) (h : Whl w p m now f) (k : Nat) (hk : k < 64) :
    Calls Tryd.prog 18 #[.pointer (some ⟨p, 0, none⟩), .int .i64 k] w fun e w' => e = .returned (.bool (decide (0 < f k))) ∧ Whl w' p m now (upd f k 0) ∧ Keep (InW p m) w w' := by
  have hr := h.range
  have hidx := fun i hi => idx_any w m i hi
  have hlen := cellsM_len m
  have HW := Lib.hid h
  have hkey := key_nat k (by omega)
  have hk2 := hk
  clear h hk
  generalize cellsM m = cs at hr hidx hlen
  have HI := Lib.hid hidx
  clear hidx
  go_enter Tryd.func18, Tryd.ntmps18
  go_wp2_with (refine wpList_load_mid rfl 42 _ rfl p 1 rfl cs _ hr Tryd.underlying42 rfl (by rw [hlen]; exact arr_info) ?_)
  clear hr hlen
  go_loopw [13] (fun v13 wr => ∃ i : Nat, v13 = .int .i64 i ∧ i ≤ 64 ∧ Hid (∀ j, j < i → sl f j k = 0) ∧ wr = w) (fun v13 _ => 65 - (intOf v13).toNat)
  case atStart => exact ⟨0, rfl, by omega, Lib.hid (fun j hj => by omega), rfl⟩
  case round =>
    obtain ⟨i, rfl, hi, H0, rfl⟩ := hrel
    by_cases hlt : i < 64
    · have t : (i : Int) < 64 := by omega
      have hx := HI.out i hlt
      cases hm : m i with
      | none =>
        rw [hm] at hx
        have hlook := look_nil (w := wr) true int_law Tryd.underlying41 (zero_int wr) hkey
        rw [if_pos rfl] at hlook
        have hz := Lib.hid (HW.out.no i hlt hm k hk2)
        go_wp2_with fail
        go_roundw
        case rel => exact ⟨i + 1, by go_num, by omega, Lib.hid (fun j hj => by
          by_cases e : j = i
          · rw [e]; exact hz.out
          · exact H0.out j (by omega)), trivial⟩
        case measure => simp [intOf]; omega
      | some b =>
        rw [hm] at hx
        have hown := (HW.out.mp i b hlt hm).2
        unfold MapAt at hown
        have hhas := has_at (sl f i) k hk2
        by_cases hf : 0 < sl f i k
        · rw [decide_eq_true hf] at hhas
          have hfk : 0 < f k ∧ f k % 64 = i := by
            unfold sl at hf
            split at hf
            · exact ⟨hf, by assumption⟩
            · omega
          have HF := Lib.hid hfk
          clear hf hfk
          go_wp2_with (first
            | (at_lookup; refine wpList_lookup_own_ok_int _ rfl _ _ 41 rfl 3 3 .i64 int_law Tryd.underlying41 Tryd.underlying3 (zero_int _) b 64 (dt (sl f i)) rfl hown _ _ rfl hkey ?_; intro c hat hwc; rw [hhas]; clear hat hwc)
            | (at_delete; refine wpList_delete_own _ rfl _ _ 41 3 rfl 3 int_law Tryd.underlying41 _ b 64 (dt (sl f i)) rfl hown _ _ rfl hkey ?_; intro w1 hown1 hturn1))
          go_ret
          refine ⟨by rw [decide_eq_true HF.out.1]; rfl, HW.out.strike hlt hm HF.out.2 (keep_map hturn1) (owns_del hown1), (keep_map hturn1).mono fun x hx => Or.inr ⟨i, hlt, by rw [hm, hx]⟩⟩
        · rw [decide_eq_false hf] at hhas
          have hz := Lib.hid (Nat.eq_zero_of_not_pos hf)
          clear hf
          go_wp2_with (at_lookup; refine wpList_lookup_own_ok_int _ rfl _ _ 41 rfl 3 3 .i64 int_law Tryd.underlying41 Tryd.underlying3 (zero_int _) b 64 (dt (sl f i)) rfl hown _ _ rfl hkey ?_; intro c hat hwc; rw [hhas]; clear hat hwc)
          go_roundw
          case rel => exact ⟨i + 1, by go_num, by omega, Lib.hid (fun j hj => by
            by_cases e : j = i
            · rw [e]; exact hz.out
            · exact H0.out j (by omega)), trivial⟩
          case measure => simp [intOf]; omega
    · have t : ¬ (i : Int) < 64 := by omega
      have hi64 : i = 64 := by omega
      have hz : f k = 0 := by
        have h1 := H0.out (f k % 64) (by omega)
        unfold sl at h1
        rwa [if_pos rfl] at h1
      have HZ := Lib.hid hz
      clear hz hi64
      go_wp2_with fail
      go_ret
      refine ⟨by rw [HZ.out]; rfl, by rw [upd_zero _ _ HZ.out]; exact HW.out, Keep.refl _ _⟩
end Go.Proofs.YtdgfaolflnljaaaDoor
