/-
  LISTS OF NETWORKS in memory: an argument that is read, a slice that the call owns; the order in which they stand.
-/
import Derived.Test.YtbdmfcnlfmnmdaaDoorSortPdq
import Derived.Laws.AppendOwn
namespace Go.Proofs.YtbdmfcnlfmnmdaaDoor
open Go.RowKit

/-- Networks in their order. -/
def srt (l : List Nt) : List Nt := l.mergeSort fun x y => !Nt.lt y x
theorem srt_of (l : List Nt) (d' : Array Nt) (hp : Go.Sort.PermIn 0 l.length l.toArray d') (hs : Go.Sort.SortedIn Nt.lt 0 l.length d') : d'.toList = srt l := by
  have h := Go.Sort.sorted_unique_holds (lt := Nt.lt) Nt.swo Nt.tot l.toArray d' (by simpa using hp) (by simpa using hs)
  simpa [srt] using h
theorem srt_perm (l : List Nt) : (srt l).Perm l := List.mergeSort_perm l _
theorem srt_len (l : List Nt) : (srt l).length = l.length := (srt_perm l).length_eq
theorem srt_mem (l : List Nt) (x : Nt) : x ∈ srt l ↔ x ∈ l := (srt_perm l).mem_iff
theorem srt_sorted (l : List Nt) : (srt l).Pairwise fun x y => Nt.lt y x = false := by
  have h := List.pairwise_mergeSort (le := fun x y => !Nt.lt y x) (fun a b c h1 h2 => by
    simp only [Bool.not_eq_true'] at h1 h2 ⊢
    exact Nt.swo.ntrans _ _ _ h2 h1) (fun a b => by
    cases h1 : Nt.lt b a <;> cases h2 : Nt.lt a b <;> simp
    rw [Nt.lt_iff] at h1 h2; omega) l
  exact h.imp (by intro a b h; simpa using h)
/-- In whatever order they come. -/
theorem srt_congr {l m : List Nt} (h : l.Perm m) : srt l = srt m := by
  refine List.Perm.eq_of_pairwise (le := fun x y => Nt.lt y x = false) (fun a b _ _ h1 h2 => Nt.tot a b h2 h1) (srt_sorted l) (srt_sorted m) ((srt_perm l).trans (h.trans (srt_perm m).symm))
end Go.Proofs.YtbdmfcnlfmnmdaaDoor
