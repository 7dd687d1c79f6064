/-
  slices.Repeat of one number, as often as a heap may have things; what lay in memory stays.
-/
import Derived.Test.YtmfajaalbklfeaaDoorRowX
import Derived.Test.YtmfajaalbklfeaaDoorShelf
namespace Go.Proofs.YtmfajaalbklfeaaDoor
open Go.RowKit Go.Lib

set_option maxHeartbeats 2000000 in
set_option maxRecDepth 100000 in
theorem repeatN_any (w : World) (x : Int) (b n : Nat) (h5 : n ≤ 5000) (hb : b < w.heap.size) (hx : w.cell? ⟨b, 0, none⟩ = some (.int .i64 x)) :
    Calls Tryd.prog 12 #[.slice (some ⟨b, 0, none⟩) 1 1, .int .i64 n] w fun e w' => ∃ g, w.heap.size ≤ g ∧ e = .returned (.slice (some ⟨g, 0, none⟩) n n) ∧ Vec w' g n (fun _ => x) ∧ Below w.heap.size w w' := by
  have HM : Hid (∀ w, Calls Tryd.prog 20 #[.int .u64 1, .int .u64 n] w fun e w' => e = .returned (.tuple #[.int .u64 0, .int .u64 n]) ∧ w = w') := Lib.hid fun w => by
    have := Tryd.bits_Mul 1 n (by omega) (by omega) w
    rw [show 1 * n / 18446744073709551616 = 0 by omega, show 1 * n % 18446744073709551616 = n by omega] at this
    exact this.mono fun _ _ h => ⟨h.1, h.2.symm⟩
  obtain ⟨m0, hm0⟩ : ∃ m0, m0 = Nat.min 1 n := ⟨_, rfl⟩
  have hm1 : m0 ≤ n ∧ m0 ≤ 1 ∧ (1 ≤ n → 1 ≤ m0) := by rw [hm0]; simp only [Nat.min_def]; split <;> omega
  have BA := (Below.refl w.heap.size w).alloc (Nat.le_refl _) (.cells (madeCells #[.int .i64 0] n) 3)
  have HX := (BA.cell (p := ⟨b, 0, none⟩) hb).trans hx
  have HG := show (w.alloc (.cells (madeCells #[.int .i64 0] n) 3)).heap[w.heap.size]? = some (.cells (rowX x n 0).toArray 3 (0, 0)) by rw [(MapKept.heap_alloc w _).1]; simp [rowX_made x n]
  have hm := run_make_row' (P := Tryd.prog) 22 3 _ 8 Tryd.underlying22 info_int rfl .i64 .i64 n (by omega) (by omega)
  obtain ⟨w2, hc, HG2, hb2⟩ := copy_more _ w w.heap.size w.heap.size n 0 m0 x ⟨b, 0, none⟩ 1 1 n n HG hm0 (fun j hj => by
    obtain rfl : j = 0 := by omega
    rw [Addr.add_lit]; exact HX) (by omega) (Nat.le_refl _) BA
  rw [Nat.zero_add] at HG2
  clear hm0
  have HH2 := Lib.hid HG2; have HB2 := Lib.hid hb2
  clear hx BA HX HG hb2 HG2
  go_enter Tryd.func12, Tryd.ntmps12
  go_wp2_with fail
  refine (HM.out _).mono ?_
  rintro e w1 ⟨rfl, rfl⟩
  go_wp2_with fail
  go_loopw [8] (fun v wr => ∃ (k : Nat), v = .int .i64 k ∧ (1 ≤ n → 1 ≤ k) ∧ k ≤ n ∧ Hid (wr.heap[w.heap.size]? = some (.cells (rowX x n k).toArray 3 (0, 0))) ∧ Hid (Below w.heap.size w wr)) (fun v _ => n - (intOf v).toNat)
  case atStart => exact ⟨m0, rfl, hm1.2.2, hm1.1, HH2, HB2⟩
  case round =>
    clear HH2 HB2 hc hm HM
    obtain ⟨k, rfl, h0, hk, HG, HB⟩ := hrel
    by_cases hkn : k < n
    · obtain ⟨m, hmm⟩ : ∃ m, m = Nat.min k (n - k) := ⟨_, rfl⟩
      have h0 := h0 (by omega)
      have hm1 : 1 ≤ m ∧ k + m ≤ n := by rw [hmm]; simp only [Nat.min_def]; split <;> omega
      obtain ⟨w3, hc, HG3, hb3⟩ := copy_more wr.drew w w.heap.size w.heap.size n k m x ⟨w.heap.size, 0, none⟩ k n (n - k) (n - k) HG.out hmm (fun j hj => by
        have hmk : m ≤ k := by rw [hmm]; exact Nat.min_le_left _ _
        have e : (rowX x n k)[j]? = some (.int .i64 x) := rowX_at x n k j (by omega)
        have hg : wr.drew.heap[w.heap.size]? = some (.cells (rowX x n k).toArray 3 (0, 0)) := HG.out
        rw [Addr.add_lit, Nat.zero_add]
        simp only [World.cell?, hg]
        simpa using e) hm1.2 (Nat.le_refl _) HB.out.drew
      have HH3 := Lib.hid HG3; have HB3 := Lib.hid hb3
      clear HG3 hb3 hmm
      go_wp2_with fail
      go_region
      go_wp2_with fail
      go_roundw
      case rel => exact ⟨k + m, by go_num, fun _ => by omega, hm1.2, HH3, HB3⟩
      case measure => simp [RowKit.intOf]; omega
    · obtain rfl : k = n := by omega
      go_wp2_with fail
      go_ret
      exact ⟨w.heap.size, Nat.le_refl _, rfl, rowX_vec HG.out, HB.out⟩
end Go.Proofs.YtmfajaalbklfeaaDoor
