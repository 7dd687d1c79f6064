/-
  graph.unlinked: rows of numbers in memory.
-/
import Derived.Test.YtomfkmclgabcpaaDoorGraphNode
import Derived.Test.YtomfkmclgabcpaaDoorGrid
namespace Go.Proofs.YtomfkmclgabcpaaDoor
open Go.RowKit

/-- The costs of no link. -/
def apart (i j : Nat) : Int := if i = j then 0 else 16
theorem apart_same (p q j : Nat) : (if p = j ∧ j ≤ q then (0 : Int) else apart p q) = if p = j ∧ j + 1 ≤ q then 0 else apart p q := by
  unfold apart
  repeat' split
  all_goals omega
theorem apart_set (p q j k : Nat) (h : ¬ j = k) : (if p = k ∧ q = j then (16 : Int) else if p = k ∧ j ≤ q then 0 else apart p q) = if p = k ∧ j + 1 ≤ q then 0 else apart p q := by
  unfold apart
  repeat' split
  all_goals omega

set_option maxHeartbeats 1000000 in
set_option maxRecDepth 100000 in
/-- graph.unlinked. -/
theorem unlinked_any (w : World) (n : Nat) (hn : n ≤ 8) :
    Calls Tryd.prog 31 #[.int .i64 n] w fun e w' => e = .returned (.slice (some ⟨w.heap.size, 0, none⟩) n n) ∧ Grid w' w.heap.size n n apart ∧ Below w.heap.size w w' := by
  have hm1 := run_make_row' (P := Tryd.prog) 29 23 _ 24 Tryd.underlying29 info_ints rfl .i64 .i64 n (by omega) (by omega)
  have hm2 := run_make_row' (P := Tryd.prog) 23 3 _ 8 Tryd.underlying23 info_int rfl .i64 .i64 n (by omega) (by omega)
  go_enter Tryd.func31, Tryd.ntmps31
  go_wp2_with fail
  go_loopw [10] (fun v wr => ∃ (k : Nat), v = .int .i64 k ∧ k ≤ n ∧ Hid (Below w.heap.size w wr) ∧ Hid (wr.heap.size = w.heap.size + 1 + k) ∧ Hid (Grid wr w.heap.size n k apart)) (fun v _ => n - (intOf v).toNat)
  case atStart => exact ⟨0, rfl, Nat.zero_le _, Lib.hid ((Below.refl _ w).alloc (Nat.le_refl _) _), Lib.hid (by simp), Lib.hid (Grid.new w n _ _)⟩
  case round =>
    obtain ⟨k, rfl, hk, hB, HZ, HG⟩ := hrel
    by_cases hkn : k < n
    · have hA := (Below.refl wr.heap.size wr).alloc (Nat.le_refl _) (.cells (madeCells #[.int .i64 0] n) 3)
      have GA := HG.out.below hA HG.out.lt
      have c0 := GA.r k (Nat.le_refl _) hkn
      have f0 := GA.fo k
      clear hA GA
      have G1 := Lib.hid (HG.out.row HZ.out hkn 3)
      have c1 := G1.out.o k (Nat.lt_succ_self k)
      have hz := HZ.out
      go_wp2_with fail
      have HB1 : Hid (Below w.heap.size w ((wr.alloc (.cells (madeCells #[.int .i64 0] n) 3)).setCell ⟨w.heap.size, k, none⟩ (.slice (some ⟨w.heap.size + 1 + k, 0, none⟩) n n))) := Lib.hid ((hB.out.alloc hB.out.size _).setCell (p := ⟨w.heap.size, k, none⟩) (Nat.le_refl _) _)
      have HZ1 : Hid (((wr.alloc (.cells (madeCells #[.int .i64 0] n) 3)).setCell ⟨w.heap.size, k, none⟩ (.slice (some ⟨w.heap.size + 1 + k, 0, none⟩) n n)).heap.size = w.heap.size + 1 + k + 1) := Lib.hid (by simp [World.setCell, hz])
      clear c0 f0 c1 hz
      go_loopw [23] (fun v wq => ∃ (j : Nat), v = .int .i64 j ∧ j ≤ n ∧ Hid (Below w.heap.size w wq) ∧ Hid (wq.heap.size = w.heap.size + 1 + k + 1) ∧ Hid (Grid wq w.heap.size n (k + 1) (fun p q => if p = k ∧ j ≤ q then 0 else apart p q))) (fun v _ => n - (intOf v).toNat)
      case atStart => exact ⟨0, rfl, Nat.zero_le _, HB1, HZ1, Lib.hid (G1.out.congr fun p _ q _ => by simp)⟩
      case round =>
        obtain ⟨j, rfl, hj, hB2, HZ2, HG2⟩ := hrel
        by_cases hjn : j < n
        · by_cases hjk : j = k
          · subst hjk
            go_wp2_with fail
            go_roundw
            case rel =>
              refine ⟨j + 1, by go_num, by omega, hB2, HZ2, Lib.hid (HG2.out.congr fun p _ q _ => ?_)⟩
              exact apart_same p q j
            case measure => simp [intOf]; omega
          · have t1 : ((j : Int) == (k : Int)) = false := by
              have : ¬ (j : Int) = k := by omega
              simpa using this
            have c0 := HG2.out.o k (Nat.lt_succ_self k)
            have c1 := HG2.out.e k (Nat.lt_succ_self k) j hjn
            have f1 := HG2.out.fe k (Nat.lt_succ_self k) j
            generalize (if k = k ∧ j ≤ j then (0 : Int) else apart k j) = z at c1
            go_wp2_with fail
            go_roundw
            case rel =>
              refine ⟨j + 1, by go_num, by omega, Lib.hid (hB2.out.setCell (p := ⟨w.heap.size + 1 + k, j, none⟩) (show w.heap.size ≤ w.heap.size + 1 + k by omega) _), Lib.hid (by simpa [World.setCell] using HZ2.out), Lib.hid ((HG2.out.set k j (Nat.lt_succ_self k) 16).congr fun p _ q _ => ?_)⟩
              exact apart_set p q j k hjk
            case measure => simp [intOf]; omega
        · have hjn' : j = n := by omega
          subst hjn'
          go_wp2_with fail
          go_roundw
          case rel =>
            refine ⟨k + 1, by go_num, by omega, hB2, Lib.hid (by rw [HZ2.out]; omega), Lib.hid (HG2.out.congr fun p _ q hq => if_neg (by omega))⟩
          case measure => simp [intOf]; omega
    · have e : k = n := by omega
      subst e
      go_wp2_with fail
      go_ret
      exact ⟨rfl, HG.out, hB.out⟩
end Go.Proofs.YtomfkmclgabcpaaDoor
