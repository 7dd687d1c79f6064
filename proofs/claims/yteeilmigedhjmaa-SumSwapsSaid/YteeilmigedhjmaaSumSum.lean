/-
  sum.Sum at every list of bytes; what lay in memory stays.
-/
import Derived.Test.YteeilmigedhjmaaSumFold
import Derived.Test.YteeilmigedhjmaaByteList
namespace Go.Proofs.Yteeilmigedhjmaa
open Go.RowKit Go.Lib

set_option maxHeartbeats 400000 in
set_option maxRecDepth 100000 in
theorem sum_some (w : World) (b off c : Nat) (l : List Nat) (hn : l.length ≤ 140737488355328) (hy : Byt l) (hb : b < w.heap.size) (hs : SeenB w b off l) :
    Calls Try.prog 10 #[.slice (some ⟨b, off, none⟩) l.length c] w fun e w' => e = .returned (.int .u16 (sm l : Int)) ∧ Below w.heap.size w w' := by
  have HS := Lib.hid hs
  have HY := Lib.hid hy
  have HM := fun k => Lib.hid (tot_more l k)
  clear hs hy
  go_enter Try.func10, Try.ntmps10
  go_wp2_with fail
  go_loopw [8, 3] (fun v t wr => ∃ (k n : Nat), v = .int .i64 k ∧ k ≤ l.length ∧ t = .int .u64 n ∧ n ≤ 9187343239835811840 ∧ Hid (n = tot true (l.take k)) ∧ Hid (Below w.heap.size w wr)) (fun v _ _ => l.length - (RowKit.intOf v).toNat)
  case atStart => exact ⟨0, 0, rfl, Nat.zero_le _, rfl, Nat.zero_le _, Lib.hid rfl, Lib.hid (Below.refl _ _)⟩
  case round =>
    obtain ⟨k, n, rfl, hk, rfl, hnn, HE, hB⟩ := hrel
    by_cases hkn : k < l.length
    · have S := HS.out.below hB.out hb
      have a0 := S k hkn
      have hx : l[k]! < 256 := HY.out _ (by rw [getElem!_pos l k hkn]; exact List.getElem_mem hkn)
      have hle := tot_take_le l (k + 1) HY.out hn
      have ht := (HM k).out hkn
      rw [← HE.out] at ht
      clear S
      by_cases h2 : k % 2 = 0
      · rw [if_pos h2] at ht
        rw [ht] at hle
        have HT := Lib.hid ht
        generalize l[k]! = x at a0 hx hle HT
        clear ht
        have e2 : Int.tmod (k : Int) 2 = 0 := by rw [Int.tmod_eq_emod_of_nonneg (by omega)]; omega
        go_wp2_with fail
        go_roundw
        case rel => exact ⟨k + 1, n + 256 * x, by go_num, by omega, by go_num, by omega, Lib.hid HT.out.symm, hB⟩
        case measure => simp [RowKit.intOf]; omega
      · rw [if_neg h2] at ht
        rw [ht] at hle
        have HT := Lib.hid ht
        generalize l[k]! = x at a0 hx hle HT
        clear ht
        have e2 : Int.tmod (k : Int) 2 = 1 := by rw [Int.tmod_eq_emod_of_nonneg (by omega)]; omega
        go_wp2_with fail
        go_roundw
        case rel => exact ⟨k + 1, n + x, by go_num, by omega, by go_num, by omega, Lib.hid HT.out.symm, hB⟩
        case measure => simp [RowKit.intOf]; omega
    · have hl := HE.out
      rw [List.take_of_length_le (by omega)] at hl
      have HQ : Hid (sm l = flp (fd n)) := Lib.hid (by rw [hl]; rfl)
      clear hl
      have hf := fd_le n
      have e2 := flip16 (fd n) (by omega)
      have HF := fun w' => Lib.hid (fold_any w' n (by omega))
      go_wp2_with fail
      refine (HF _).out.mono ?_
      rintro x w2 ⟨rfl, b2⟩
      have HT2 := Lib.hid (Below.two hB.out b2)
      clear b2
      go_wp2_with fail
      go_ret
      exact ⟨by rw [HQ.out]; rfl, HT2.out⟩

set_option maxHeartbeats 400000 in
set_option maxRecDepth 100000 in
theorem sum_none (w : World) (p : Option Addr) (c : Nat) :
    Calls Try.prog 10 #[.slice p 0 c] w fun e w' => e = .returned (.int .u16 (sm [] : Int)) ∧ Below w.heap.size w w' := by
  have e2 := flip16 0 (by decide)
  have HF := fun w' => Lib.hid (show Calls Try.prog 14 #[.int .u64 0] w' fun e w'' => e = .returned (.int .u16 0) ∧ Below w'.heap.size w' w'' from fold_any w' 0 (by omega))
  go_enter Try.func10, Try.ntmps10
  go_wp2_with fail
  refine wp_loop_rounds 1 ?_
  rw [rounds_succ]
  go_wp2_with fail
  refine (HF _).out.mono ?_
  rintro x w2 ⟨rfl, b2⟩
  have HT2 := Lib.hid b2
  clear b2
  go_wp2_with fail
  go_ret
  exact ⟨rfl, HT2.out⟩

/-- sum.Sum at every list. -/
theorem sum_any (w : World) (v : Value) (l : List Nat) (hn : l.length ≤ 140737488355328) (hy : Byt l) (h : ArgB w v l) :
    Calls Try.prog 10 #[v] w fun e w' => e = .returned (.int .u16 (sm l : Int)) ∧ Below w.heap.size w w' := by
  obtain ⟨p, c, rfl, _, h⟩ := h
  rcases h with rfl | ⟨b, off, rfl, hb, hs⟩
  · exact sum_none w p c
  · exact sum_some w b off c l hn hy hb hs

set_option maxHeartbeats 400000 in
set_option maxRecDepth 100000 in
theorem right_any (w : World) (v : Value) (l : List Nat) (hn : l.length ≤ 140737488355328) (hy : Byt l) (h : ArgB w v l) :
    Calls Try.prog 12 #[v] w fun e w' => e = .returned (.bool (decide (sm l = 0))) ∧ Below w.heap.size w w' := by
  have HC := Lib.hid (sum_any w v l hn hy h)
  clear hn hy h
  go_enter Try.func12, Try.ntmps12
  go_wp2_with fail
  refine HC.out.mono ?_
  rintro x w2 ⟨rfl, b2⟩
  have HT2 := Lib.hid b2
  have e : ((sm l : Int) == 0) = decide (sm l = 0) := by
    rw [Bool.eq_iff_iff]
    simp
  clear b2 HC
  go_wp2_with fail
  go_ret
  exact ⟨by rw [← e]; rfl, HT2.out⟩

set_option maxHeartbeats 400000 in
set_option maxRecDepth 100000 in
theorem swap_any (w : World) (s o n : Nat) (hs : s < 65536) (ho : o < 65536) (hn : n < 65536) :
    Calls Try.prog 13 #[.int .u16 (s : Int), .int .u16 (o : Int), .int .u16 (n : Int)] w fun e w' => e = .returned (.int .u16 (swp s o n : Int)) ∧ Below w.heap.size w w' := by
  have e1 := flip16 s hs
  have e2 := flip16 o ho
  have h1 := flp_le s
  have h2 := flp_le o
  have hz := swz_le s o n hn
  have hf := fd_le (swz s o n)
  have HE := Lib.hid (flip16 (fd (swz s o n)) (by omega))
  have HF := fun w' => Lib.hid (fold_any w' (swz s o n) (by omega))
  have HQ : Hid (swp s o n = flp (fd (swz s o n))) := Lib.hid rfl
  have HZ : Hid (((flp s + flp o + n : Nat) : Int) = (swz s o n : Int)) := Lib.hid rfl
  clear hz
  generalize swz s o n = z at HE HF HQ HZ hf
  generalize swp s o n = r at HQ ⊢
  generalize flp s = s' at e1 h1 HZ
  generalize flp o = o' at e2 h2 HZ
  have a1 : IntKind.u64.wrap (s' : Int) = s' := by rw [IntKind.wrap_u64]; omega
  have a2 : IntKind.u64.wrap (o' : Int) = o' := by rw [IntKind.wrap_u64]; omega
  have a3 : IntKind.u64.wrap ((s' : Int) + o') = (s' : Int) + o' := by rw [IntKind.wrap_u64]; omega
  have a4 : IntKind.u64.wrap ((s' : Int) + o' + n) = z := by rw [IntKind.wrap_u64, ← HZ.out]; omega
  go_enter Try.func13, Try.ntmps13
  go_wp2_with fail
  refine (HF _).out.mono ?_
  rintro x w2 ⟨rfl, b2⟩
  have HT2 := Lib.hid b2
  have e3 := HE.out
  clear b2 e1 e2 HE HF
  go_wp2_with fail
  go_ret
  exact ⟨by rw [HQ.out]; rfl, HT2.out⟩
end Go.Proofs.Yteeilmigedhjmaa
