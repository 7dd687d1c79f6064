/-
  A row of numbers that is filled with one number by copying, step by step.
-/
import Derived.Test.YtmfajaalbklfeaaDoorVec
import Derived.Laws.CopyOwn
import Derived.Deep.RegionLaw
import Derived.LoopN
namespace Go.Proofs.YtmfajaalbklfeaaDoor
open Go.RowKit Go.Lib

/-- A row whose first k numbers are x, the rest 0. -/
def rowX (x : Int) (n k : Nat) : List Value := List.replicate k (.int .i64 x) ++ List.replicate (n - k) (.int .i64 0)
theorem rowX_len (x : Int) (n k : Nat) (h : k ≤ n) : (rowX x n k).length = n := by simp [rowX]; omega
theorem rowX_made (x : Int) (n : Nat) : madeCells #[.int .i64 0] n = (rowX x n 0).toArray := by
  apply Array.ext
  · simp [madeCells, rowX]
  · intro i h1 h2
    simp [madeCells, rowX, Nat.mod_one]
theorem rowX_more (x : Int) (n k m : Nat) (h : k + m ≤ n) : splice (rowX x n k) k (List.replicate m (.int .i64 x)) = rowX x n (k + m) := by
  unfold splice rowX
  rw [List.take_left' (by simp), List.length_replicate, List.drop_append, List.drop_eq_nil_of_le (by simp), List.nil_append, List.drop_replicate, List.length_replicate, ← List.append_assoc, List.replicate_append_replicate]
  congr 2
  omega
theorem rowX_at (x : Int) (n k j : Nat) (h : j < k) : (rowX x n k)[j]? = some (.int .i64 x) := by
  unfold rowX
  rw [List.getElem?_append_left (by simpa using h)]
  simp [h]

theorem info_one : (Tryd.prog.info? 3).map (·.size) = some 1 := by kernel_rfl
/-- So many more numbers copied into the row. -/
theorem copy_more (w w0 : World) (B g n k m : Nat) (x : Int) (sp : Addr) (sl sc dl dc : Nat) (hg : w.heap[g]? = some (.cells (rowX x n k).toArray 3 (0, 0))) (hm : m = Nat.min sl dl) (hs : ∀ j, j < m → w.cell? (sp.add j) = some (.int .i64 x)) (hk : k + m ≤ n) (hB : B ≤ g) (hb : Below B w0 w) :
    ∃ w', (Builtin.copy_ #[22, 22] 3 #[.slice (some ⟨g, k, none⟩) dl dc, .slice (some sp) sl sc]).run Tryd.prog w = .ok (.int .i64 m) w' ∧ w'.heap[g]? = some (.cells (rowX x n (k + m)).toArray 3 (0, 0)) ∧ Below B w0 w' := by
  have h := run_copy_row (P := Tryd.prog) w 22 22 3 3 g k dl dc sp sl sc (rowX x n k).toArray 3 (List.replicate m (.int .i64 x)) Tryd.underlying22 info_one hg (by rw [List.length_replicate, hm]) (fun j v hj => by
    obtain ⟨h1, h2⟩ := List.getElem?_eq_some_iff.1 hj
    rw [List.length_replicate] at h1
    rw [List.getElem_replicate] at h2
    rw [← h2]; exact hs j h1) (by rw [List.length_replicate]; simp [rowX_len x n k (by omega)]; omega) (fun v hv => by rw [List.eq_of_mem_replicate hv]; rfl)
  rw [List.length_replicate] at h
  refine ⟨_, h, ?_, below_setRow hb hB _⟩
  rw [setRow_heap w g _ _ 3 (0, 0) hg]
  have e := rowX_more x n k m hk
  unfold splice at e
  rw [List.length_replicate] at e
  rw [← e, List.append_assoc]
theorem rowX_vec {w : World} {g n : Nat} {x : Int} (h : w.heap[g]? = some (.cells (rowX x n n).toArray 3 (0, 0))) : Vec w g n (fun _ => x) := by
  refine ⟨(Array.getElem?_eq_some_iff.1 h).1, fun i hi => ?_, fun i => ?_⟩
  · simp only [World.cell?, h]
    simpa using rowX_at x n n i hi
  · simp [World.frozen?, h]
end Go.Proofs.YtmfajaalbklfeaaDoor
