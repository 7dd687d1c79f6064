/-
  mat.unreached and mat.diagonal.
-/
import Derived.Test.YtjgmehmhhplkaaaMatPlain
import Derived.StillTailTactics
namespace Go.Proofs.Ytjgmehmhhplkaaa
open Go.RowKit Go.Lib

theorem far_set (p q j k : Nat) : (if p = k ∧ q = j then (16 : Int) else if p = k ∧ j ≤ q then 0 else 16) = if p = k ∧ j + 1 ≤ q then 0 else 16 := by
  repeat' split
  all_goals omega

set_option maxHeartbeats 1000000 in
set_option maxRecDepth 100000 in
/-- mat.unreached. -/
theorem unreached_any (w : World) (n : Nat) (hn : n ≤ 8) :
    Calls Try.prog 51 #[.int .i64 n] w fun e w' => e = .returned (.slice (some ⟨w.heap.size, 0, none⟩) n n) ∧ Grid w' w.heap.size n n (fun _ _ => 16) ∧ Below w.heap.size w w' := by
  have hm1 := run_make_row' (P := Try.prog) 31 24 _ 24 Try.underlying31 info_ints rfl .i64 .i64 n (by omega) (by omega)
  have hm2 := run_make_row' (P := Try.prog) 24 3 _ 8 Try.underlying24 info_int rfl .i64 .i64 n (by omega) (by omega)
  go_enter Try.func51, Try.ntmps51
  go_wp2_with fail
  go_loopw [10] (fun v wr => ∃ (k : Nat), v = .int .i64 k ∧ k ≤ n ∧ Hid (Below w.heap.size w wr) ∧ Hid (wr.heap.size = w.heap.size + 1 + k) ∧ Hid (Grid wr w.heap.size n k (fun _ _ => 16))) (fun v _ => n - (RowKit.intOf v).toNat)
  case atStart => exact ⟨0, rfl, Nat.zero_le _, Lib.hid ((Below.refl _ w).alloc (Nat.le_refl _) _), Lib.hid (by simp), Lib.hid (Grid.new w n _ _)⟩
  case round =>
    obtain ⟨k, rfl, hk, hB, HZ, HG⟩ := hrel
    by_cases hkn : k < n
    · have hA := (Below.refl wr.heap.size wr).alloc (Nat.le_refl _) (.cells (madeCells #[.int .i64 0] n) 3)
      have GA := HG.out.below hA HG.out.lt
      have c0 := GA.r k (Nat.le_refl _) hkn
      have f0 := GA.fo k
      clear hA GA
      have G1 := Lib.hid (HG.out.row HZ.out hkn 3)
      have c1 := G1.out.o k (Nat.lt_succ_self k)
      have hz := HZ.out
      go_wp2_with fail
      have HB1 : Hid (Below w.heap.size w ((wr.alloc (.cells (madeCells #[.int .i64 0] n) 3)).setCell ⟨w.heap.size, k, none⟩ (.slice (some ⟨w.heap.size + 1 + k, 0, none⟩) n n))) := Lib.hid ((hB.out.alloc hB.out.size _).setCell (p := ⟨w.heap.size, k, none⟩) (Nat.le_refl _) _)
      have HZ1 : Hid (((wr.alloc (.cells (madeCells #[.int .i64 0] n) 3)).setCell ⟨w.heap.size, k, none⟩ (.slice (some ⟨w.heap.size + 1 + k, 0, none⟩) n n)).heap.size = w.heap.size + 1 + k + 1) := Lib.hid (by simp [World.setCell, hz])
      clear c0 f0 c1 hz
      go_loopw [23] (fun v wq => ∃ (j : Nat), v = .int .i64 j ∧ j ≤ n ∧ Hid (Below w.heap.size w wq) ∧ Hid (wq.heap.size = w.heap.size + 1 + k + 1) ∧ Hid (Grid wq w.heap.size n (k + 1) (fun p q => if p = k ∧ j ≤ q then 0 else 16))) (fun v _ => n - (RowKit.intOf v).toNat)
      case atStart => exact ⟨0, rfl, Nat.zero_le _, HB1, HZ1, Lib.hid (G1.out.congr fun p _ q _ => by simp)⟩
      case round =>
        obtain ⟨j, rfl, hj, hB2, HZ2, HG2⟩ := hrel
        by_cases hjn : j < n
        · have c0 := HG2.out.o k (Nat.lt_succ_self k)
          have c1 := HG2.out.e k (Nat.lt_succ_self k) j hjn
          have f1 := HG2.out.fe k (Nat.lt_succ_self k) j
          generalize (if k = k ∧ j ≤ j then (0 : Int) else 16) = z at c1
          go_wp2_with fail
          go_roundw
          case rel =>
            refine ⟨j + 1, by go_num, by omega, Lib.hid (hB2.out.setCell (p := ⟨w.heap.size + 1 + k, j, none⟩) (show w.heap.size ≤ w.heap.size + 1 + k by omega) _), Lib.hid (by simpa [World.setCell] using HZ2.out), Lib.hid ((HG2.out.set k j (Nat.lt_succ_self k) 16).congr fun p _ q _ => ?_)⟩
            exact far_set p q j k
          case measure => simp [RowKit.intOf]; omega
        · have hjn' : j = n := by omega
          subst hjn'
          go_wp2_with fail
          go_roundw
          case rel =>
            refine ⟨k + 1, by go_num, by omega, hB2, Lib.hid (by rw [HZ2.out]; omega), Lib.hid (HG2.out.congr fun p _ q hq => if_neg (by omega))⟩
          case measure => simp [RowKit.intOf]; omega
    · have e : k = n := by omega
      subst e
      go_wp2_with fail
      go_ret
      exact ⟨rfl, HG.out, hB.out⟩

theorem diag_set (p q k : Nat) : (if p = k ∧ q = k then (0 : Int) else if p = q ∧ p < k then 0 else 16) = if p = q ∧ p < k + 1 then 0 else 16 := by
  repeat' split
  all_goals omega
theorem diag_one (n p q : Nat) (hp : p < n) : (if p = q ∧ p < n then (0 : Int) else 16) = (MatP.one p q : Int) := by
  unfold MatP.one
  repeat' split
  all_goals omega

set_option maxHeartbeats 1000000 in
set_option maxRecDepth 100000 in
/-- mat.diagonal. -/
theorem diagonal_any (w : World) (n : Nat) (hn : n ≤ 8) :
    Calls Try.prog 42 #[.int .i64 n] w fun e w' => ∃ g, w.heap.size ≤ g ∧ e = .returned (.slice (some ⟨g, 0, none⟩) n n) ∧ Grid w' g n n (fun i j => (MatP.one i j : Int)) ∧ Below w.heap.size w w' := by
  go_enter Try.func42, Try.ntmps42
  go_wp2_with fail
  refine (unreached_any w n hn).mono ?_
  rintro e w1 ⟨rfl, hG, hb⟩
  have HG1 := Lib.hid hG; have HB1 := Lib.hid hb
  have HS := Lib.hid (Nat.le_refl w.heap.size)
  clear hG hb
  obtain ⟨g, HGS⟩ : ∃ g, Hid (w.heap.size = g) := ⟨_, Lib.hid rfl⟩
  rw [HGS.out] at HG1
  rw [show (Value.slice (some ⟨w.heap.size, 0, none⟩) n n) = .slice (some ⟨g, 0, none⟩) n n by rw [HGS.out]]
  go_wp2_with fail
  go_loopw [9] (fun v wr => ∃ (k : Nat), v = .int .i64 k ∧ k ≤ n ∧ Hid (Below w.heap.size w wr) ∧ Hid (Grid wr g n n (fun p q => if p = q ∧ p < k then 0 else 16))) (fun v _ => n - (RowKit.intOf v).toNat)
  case atStart => exact ⟨0, rfl, Nat.zero_le _, HB1, Lib.hid (HG1.out.congr fun p _ q _ => by simp)⟩
  case round =>
    clear HB1 HG1
    obtain ⟨k, rfl, hk, hB, HG⟩ := hrel
    by_cases hkn : k < n
    · have c0 := HG.out.o k hkn
      have c1 := HG.out.e k hkn k hkn
      have f1 := HG.out.fe k hkn k
      generalize (if k = k ∧ k < k then (0 : Int) else 16) = z at c1
      go_wp2_with fail
      go_roundw
      case rel =>
        refine ⟨k + 1, by go_num, by omega, Lib.hid (hB.out.setCell (p := ⟨g + 1 + k, k, none⟩) (show w.heap.size ≤ g + 1 + k by have := HGS.out; omega) _), Lib.hid ((HG.out.set k k hkn 0).congr fun p _ q _ => ?_)⟩
        exact diag_set p q k
      case measure => simp [RowKit.intOf]; omega
    · have e : k = n := by omega
      subst e
      go_wp2_with fail
      go_ret
      exact ⟨g, by have := HGS.out; omega, rfl, HG.out.congr fun p hp q _ => diag_one _ p q hp, hB.out⟩
end Go.Proofs.Ytjgmehmhhplkaaa
