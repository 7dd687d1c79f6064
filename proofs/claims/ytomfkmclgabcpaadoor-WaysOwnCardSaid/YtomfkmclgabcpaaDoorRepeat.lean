/-
  slices.Repeat of one number, so often as there may be nodes; what lay in memory stays.
-/
import Derived.Test.YtomfkmclgabcpaaDoorVec
import Derived.Laws.CopyOwn
import Derived.Deep.RegionLaw
import Derived.LoopN
namespace Go.Proofs.YtomfkmclgabcpaaDoor
open Go.RowKit Go.Lib

set_option maxHeartbeats 1000000 in
set_option maxRecDepth 100000 in
theorem mul64_at (n : Nat) (h : n ≤ 8) (w : World) : Calls Tryd.prog 58 #[.int .u64 1, .int .u64 n] w fun e w' => e = .returned (.tuple #[.int .u64 0, .int .u64 n]) ∧ w = w' := by
  have : n = 0 ∨ n = 1 ∨ n = 2 ∨ n = 3 ∨ n = 4 ∨ n = 5 ∨ n = 6 ∨ n = 7 ∨ n = 8 := by omega
  rcases this with rfl | rfl | rfl | rfl | rfl | rfl | rfl | rfl | rfl
  all_goals
    go_enter Tryd.func58, Tryd.ntmps58
    go_wp2_with fail
    go_ret2
    exact ⟨rfl, rfl⟩
set_option maxHeartbeats 1000000 in
set_option maxRecDepth 100000 in
theorem mul_at (n : Nat) (h : n ≤ 8) (w : World) : Calls Tryd.prog 52 #[.int .u64 1, .int .u64 n] w fun e w' => e = .returned (.tuple #[.int .u64 0, .int .u64 n]) ∧ w = w' := by
  go_enter Tryd.func52, Tryd.ntmps52
  go_wp2_with fail
  refine (mul64_at n h _).mono ?_
  rintro e w1 ⟨rfl, rfl⟩
  go_wp2_with fail
  go_ret2
  exact ⟨rfl, rfl⟩
/-- A row whose first k numbers are x, the rest 0. -/
def rowX (x : Int) (n k : Nat) : List Value := List.replicate k (.int .i64 x) ++ List.replicate (n - k) (.int .i64 0)
theorem rowX_len (x : Int) (n k : Nat) (h : k ≤ n) : (rowX x n k).length = n := by simp [rowX]; omega
theorem rowX_made (x : Int) (n : Nat) : madeCells #[.int .i64 0] n = (rowX x n 0).toArray := by
  apply Array.ext
  · simp [madeCells, rowX]
  · intro i h1 h2
    simp [madeCells, rowX, Nat.mod_one]
theorem rowX_more (x : Int) (n k m : Nat) (h : k + m ≤ n) : splice (rowX x n k) k (List.replicate m (.int .i64 x)) = rowX x n (k + m) := by
  unfold splice rowX
  rw [List.take_left' (by simp), List.length_replicate, List.drop_append, List.drop_eq_nil_of_le (by simp), List.nil_append, List.drop_replicate, List.length_replicate, ← List.append_assoc, List.replicate_append_replicate]
  congr 2
  omega
theorem rowX_at (x : Int) (n k j : Nat) (h : j < k) : (rowX x n k)[j]? = some (.int .i64 x) := by
  unfold rowX
  rw [List.getElem?_append_left (by simpa using h)]
  simp [h]

theorem info_one : (Tryd.prog.info? 3).map (·.size) = some 1 := by kernel_rfl
/-- So many more numbers copied into the row. -/
theorem copy_more (w w0 : World) (B g n k m : Nat) (x : Int) (sp : Addr) (sl sc dl dc : Nat) (hg : w.heap[g]? = some (.cells (rowX x n k).toArray 3 (0, 0))) (hm : m = Nat.min sl dl) (hs : ∀ j, j < m → w.cell? (sp.add j) = some (.int .i64 x)) (hk : k + m ≤ n) (hB : B ≤ g) (hb : Below B w0 w) :
    ∃ w', (Builtin.copy_ #[23, 23] 3 #[.slice (some ⟨g, k, none⟩) dl dc, .slice (some sp) sl sc]).run Tryd.prog w = .ok (.int .i64 m) w' ∧ w'.heap[g]? = some (.cells (rowX x n (k + m)).toArray 3 (0, 0)) ∧ Below B w0 w' := by
  have h := run_copy_row (P := Tryd.prog) w 23 23 3 3 g k dl dc sp sl sc (rowX x n k).toArray 3 (List.replicate m (.int .i64 x)) Tryd.underlying23 info_one hg (by rw [List.length_replicate, hm]) (fun j v hj => by
    obtain ⟨h1, h2⟩ := List.getElem?_eq_some_iff.1 hj
    rw [List.length_replicate] at h1
    rw [List.getElem_replicate] at h2
    rw [← h2]; exact hs j h1) (by rw [List.length_replicate]; simp [rowX_len x n k (by omega)]; omega) (fun v hv => by rw [List.eq_of_mem_replicate hv]; rfl)
  rw [List.length_replicate] at h
  refine ⟨_, h, ?_, below_setRow hb hB _⟩
  rw [setRow_heap w g _ _ 3 (0, 0) hg]
  have e := rowX_more x n k m hk
  unfold splice at e
  rw [List.length_replicate] at e
  rw [← e, List.append_assoc]
theorem rowX_vec {w : World} {g n : Nat} {x : Int} (h : w.heap[g]? = some (.cells (rowX x n n).toArray 3 (0, 0))) : Vec w g n (fun _ => x) := by
  refine ⟨(Array.getElem?_eq_some_iff.1 h).1, fun i hi => ?_, fun i => ?_⟩
  · simp only [World.cell?, h]
    simpa using rowX_at x n n i hi
  · simp [World.frozen?, h]
set_option maxHeartbeats 2000000 in
set_option maxRecDepth 100000 in
theorem repeat_any (w : World) (x : Int) (b n : Nat) (h1 : 1 ≤ n) (h8 : n ≤ 8) (hb : b < w.heap.size) (hx : w.cell? ⟨b, 0, none⟩ = some (.int .i64 x)) :
    Calls Tryd.prog 47 #[.slice (some ⟨b, 0, none⟩) 1 1, .int .i64 n] w fun e w' => ∃ g, w.heap.size ≤ g ∧ e = .returned (.slice (some ⟨g, 0, none⟩) n n) ∧ Vec w' g n (fun _ => x) ∧ Below w.heap.size w w' := by
  have HM := Lib.hid (mul_at n h8)
  have BA := (Below.refl w.heap.size w).alloc (Nat.le_refl _) (.cells (madeCells #[.int .i64 0] n) 3)
  have HX := (BA.cell (p := ⟨b, 0, none⟩) hb).trans hx
  have HG := show (w.alloc (.cells (madeCells #[.int .i64 0] n) 3)).heap[w.heap.size]? = some (.cells (rowX x n 0).toArray 3 (0, 0)) by rw [(MapKept.heap_alloc w _).1]; simp [rowX_made x n]
  have hm := run_make_row' (P := Tryd.prog) 23 3 _ 8 Tryd.underlying23 info_int rfl .i64 .i64 n (by omega) (by omega)
  obtain ⟨w2, hc, HG2, hb2⟩ := copy_more _ w w.heap.size w.heap.size n 0 1 x ⟨b, 0, none⟩ 1 1 n n HG (by simp [Nat.min_def]; omega) (fun j hj => by
    obtain rfl : j = 0 := by omega
    rw [Addr.add_lit]; exact HX) (by omega) (Nat.le_refl _) BA
  have HH2 := Lib.hid HG2; have HB2 := Lib.hid hb2
  clear hx BA HX HG hb2 HG2
  go_enter Tryd.func47, Tryd.ntmps47
  go_wp2_with fail
  refine (HM.out _).mono ?_
  rintro e w1 ⟨rfl, rfl⟩
  go_wp2_with fail
  go_loopw [8] (fun v wr => ∃ (k : Nat), v = .int .i64 k ∧ 1 ≤ k ∧ k ≤ n ∧ Hid (wr.heap[w.heap.size]? = some (.cells (rowX x n k).toArray 3 (0, 0))) ∧ Hid (Below w.heap.size w wr)) (fun v _ => n - (intOf v).toNat)
  case atStart => exact ⟨1, rfl, Nat.le_refl _, h1, HH2, HB2⟩
  case round =>
    clear HH2 HB2 hc hm HM
    obtain ⟨k, rfl, h0, hk, HG, HB⟩ := hrel
    by_cases hkn : k < n
    · obtain ⟨m, hmm⟩ : ∃ m, m = Nat.min k (n - k) := ⟨_, rfl⟩
      have hm1 : 1 ≤ m ∧ k + m ≤ n := by rw [hmm]; simp only [Nat.min_def]; split <;> omega
      obtain ⟨w3, hc, HG3, hb3⟩ := copy_more wr.drew w w.heap.size w.heap.size n k m x ⟨w.heap.size, 0, none⟩ k n (n - k) (n - k) HG.out hmm (fun j hj => by
        have hmk : m ≤ k := by rw [hmm]; exact Nat.min_le_left _ _
        have e : (rowX x n k)[j]? = some (.int .i64 x) := rowX_at x n k j (by omega)
        have hg : wr.drew.heap[w.heap.size]? = some (.cells (rowX x n k).toArray 3 (0, 0)) := HG.out
        rw [Addr.add_lit, Nat.zero_add]
        simp only [World.cell?, hg]
        simpa using e) hm1.2 (Nat.le_refl _) HB.out.drew
      have HH3 := Lib.hid HG3; have HB3 := Lib.hid hb3
      clear HG3 hb3 hmm
      go_wp2_with fail
      go_region
      go_wp2_with fail
      trace_state
      go_roundw
      case rel => exact ⟨k + m, by go_num, by omega, hm1.2, HH3, HB3⟩
      case measure => simp [RowKit.intOf]; omega
    · obtain rfl : k = n := by omega
      go_wp2_with fail
      go_ret
      exact ⟨w.heap.size, Nat.le_refl _, rfl, rowX_vec HG.out, HB.out⟩
end Go.Proofs.YtomfkmclgabcpaaDoor
