/-
  The document's SumOf at every list of bytes, and the statements' own example; what lay in memory stays.
-/
import Derived.Test.YteeilmigedhjmaaSumSum
namespace Go.Proofs.Yteeilmigedhjmaa
open Go.RowKit Go.Lib

set_option maxHeartbeats 400000 in
set_option maxRecDepth 100000 in
theorem sumOf_some (w : World) (b off c : Nat) (l : List Nat) (hn : l.length ≤ 140737488355328) (hy : Byt l) (hb : b < w.heap.size) (hs : SeenB w b off l) :
    Calls Try.prog 11 #[.slice (some ⟨b, off, none⟩) l.length c] w fun e w' => e = .returned (.int .i64 (sm l : Int)) ∧ Below w.heap.size w w' := by
  have HS := Lib.hid hs
  have HY := Lib.hid hy
  have HM := fun k => Lib.hid (tot_more l k)
  clear hs hy
  go_enter Try.func11, Try.ntmps11
  go_wp2_with fail
  go_loopw [4, 3] (fun v t wr => ∃ (k n : Nat), v = .int .i64 k ∧ k ≤ l.length ∧ t = .int .i64 n ∧ n ≤ 9187343239835811840 ∧ Hid (n = tot true (l.take k)) ∧ Hid (Below w.heap.size w wr)) (fun v _ _ => l.length - (RowKit.intOf v).toNat)
  case atStart => exact ⟨0, 0, rfl, Nat.zero_le _, rfl, Nat.zero_le _, Lib.hid rfl, Lib.hid (Below.refl _ _)⟩
  case round =>
    obtain ⟨k, n, rfl, hk, rfl, hnn, HE, hB⟩ := hrel
    by_cases hkn : k < l.length
    · have S := HS.out.below hB.out hb
      have a0 := S k hkn
      have hx : l[k]! < 256 := HY.out _ (by rw [getElem!_pos l k hkn]; exact List.getElem_mem hkn)
      have hle := tot_take_le l (k + 1) HY.out hn
      have ht := (HM k).out hkn
      rw [← HE.out] at ht
      clear S
      by_cases h2 : k % 2 = 0
      · rw [if_pos h2] at ht
        rw [ht] at hle
        have HT := Lib.hid ht
        generalize l[k]! = x at a0 hx hle HT
        clear ht
        have e2 : Int.tmod (k : Int) 2 = 0 := by rw [Int.tmod_eq_emod_of_nonneg (by omega)]; omega
        go_wp2_with fail
        go_roundw
        case rel => exact ⟨k + 1, n + 256 * x, by go_num, by omega, by go_num, by omega, Lib.hid HT.out.symm, hB⟩
        case measure => simp [RowKit.intOf]; omega
      · rw [if_neg h2] at ht
        rw [ht] at hle
        have HT := Lib.hid ht
        generalize l[k]! = x at a0 hx hle HT
        clear ht
        have e2 : Int.tmod (k : Int) 2 = 1 := by rw [Int.tmod_eq_emod_of_nonneg (by omega)]; omega
        go_wp2_with fail
        go_roundw
        case rel => exact ⟨k + 1, n + x, by go_num, by omega, by go_num, by omega, Lib.hid HT.out.symm, hB⟩
        case measure => simp [RowKit.intOf]; omega
    · have hl := HE.out
      rw [List.take_of_length_le (by omega)] at hl
      have HQ : Hid (sm l = 65535 - fd n) := Lib.hid (by rw [hl]; rfl)
      clear hl
      have hf := fd_le n
      have HF := fun w' => Lib.hid (folded_any w' n (by omega))
      go_wp2_with fail
      refine (HF _).out.mono ?_
      rintro x w2 ⟨rfl, b2⟩
      have HT2 := Lib.hid (Below.two hB.out b2)
      clear b2
      generalize fd n = z at hf HQ
      have HR : Hid (((65535 - z : Nat) : Int) = 65535 - (z : Int)) := Lib.hid (by omega)
      go_wp2_with fail
      go_ret
      exact ⟨by rw [HQ.out, HR.out]; rfl, HT2.out⟩

set_option maxHeartbeats 400000 in
set_option maxRecDepth 100000 in
theorem sumOf_none (w : World) (p : Option Addr) (c : Nat) :
    Calls Try.prog 11 #[.slice p 0 c] w fun e w' => e = .returned (.int .i64 (sm [] : Int)) ∧ Below w.heap.size w w' := by
  have HF := fun w' => Lib.hid (show Calls Try.prog 9 #[.int .i64 0] w' fun e w'' => e = .returned (.int .i64 0) ∧ Below w'.heap.size w' w'' from folded_any w' 0 (by omega))
  go_enter Try.func11, Try.ntmps11
  go_wp2_with fail
  refine wp_loop_rounds 1 ?_
  rw [rounds_succ]
  go_wp2_with fail
  refine (HF _).out.mono ?_
  rintro x w2 ⟨rfl, b2⟩
  have HT2 := Lib.hid b2
  clear b2
  go_wp2_with fail
  go_ret
  exact ⟨rfl, HT2.out⟩

/-- SumOf at every list. -/
theorem sumOf_any (w : World) (v : Value) (l : List Nat) (hn : l.length ≤ 140737488355328) (hy : Byt l) (h : ArgB w v l) :
    Calls Try.prog 11 #[v] w fun e w' => e = .returned (.int .i64 (sm l : Int)) ∧ Below w.heap.size w w' := by
  obtain ⟨p, c, rfl, _, h⟩ := h
  rcases h with rfl | ⟨b, off, rfl, hb, hs⟩
  · exact sumOf_none w p c
  · exact sumOf_some w b off c l hn hy hb hs
end Go.Proofs.Yteeilmigedhjmaa
