/-
  heap.New, Put, Drop, Key, Min and Len on the heap in memory.
-/
import Derived.Test.YtmfajaalbklfeaaDoorHeapFns
import Derived.Test.YtmfajaalbklfeaaDoorRepeatN
import Derived.OwnWalk
namespace Go.Proofs.YtmfajaalbklfeaaDoor
open Go.RowKit Go.Lib HeapP

/-- An error of the document's as a value. -/
abbrev eV (z : Int) : Value := .iface 30 (.int .i64 z)

set_option maxHeartbeats 1000000 in
set_option maxRecDepth 100000 in
theorem new_bad (w : World) (n : Int) (h : n < 0 ∨ 5000 < n) :
    Calls Tryd.prog 5 #[.int .i64 n] w fun e w' => e = .returned (.tuple #[.pointer none, eV 1]) ∧ w = w' := by
  by_cases t : n < 0
  · clear h
    go_enter Tryd.func5, Tryd.ntmps5
    go_wp2_with fail
    go_ret2
    exact ⟨rfl, rfl⟩
  · have t2 : n > 5000 := by omega
    clear h
    go_enter Tryd.func5, Tryd.ntmps5
    go_wp2_with fail
    go_ret2
    exact ⟨rfl, rfl⟩

/-- A block of three cells laid just now. -/
theorem box3_new (w : World) (x y z : Value) (T : TypeId) : (w.alloc (.cells #[x, y, z] T)).cell? ⟨w.heap.size, 0, none⟩ = some x ∧ (w.alloc (.cells #[x, y, z] T)).cell? ⟨w.heap.size, 1, none⟩ = some y ∧ (w.alloc (.cells #[x, y, z] T)).cell? ⟨w.heap.size, 2, none⟩ = some z := by
  refine ⟨?_, ?_, ?_⟩ <;> simp

set_option maxHeartbeats 1000000 in
set_option maxRecDepth 100000 in
theorem new_ok (w : World) (n : Nat) (h : n ≤ 5000) :
    Calls Tryd.prog 5 #[.int .i64 n] w fun e w' => ∃ q p k, e = .returned (.tuple #[.pointer (some ⟨q, 0, none⟩), .nilIface]) ∧ w.heap.size ≤ q ∧ w.heap.size ≤ p ∧ w.heap.size ≤ k ∧ Hp w' q (.slice none 0 0) p k n (fun _ => 0) [] ∧ Below w.heap.size w w' := by
  have t : ¬ (n : Int) < 0 := by omega
  have t2 : ¬ (n : Int) > 5000 := by omega
  have HR := Lib.hid (repeatN_any (w.alloc (.cells #[.int .i64 (-1)] 3)) (-1) w.heap.size n h (by simp) (by simp))
  have hm := fun n (h : 0 ≤ n) (h2 : n ≤ 5000) => run_make_row' (P := Tryd.prog) 22 3 _ 8 Tryd.underlying22 info_int rfl .i64 .i64 n (by omega) (by omega)
  go_enter Tryd.func5, Tryd.ntmps5
  go_wp2_with fail
  refine HR.out.mono ?_
  rintro e w1 ⟨p, hp, rfl, hv, hb⟩
  have hp' : w.heap.size < p := by simp at hp; omega
  have HV := Lib.hid hv
  have HB := Lib.hid (((Below.refl w.heap.size w).alloc (Nat.le_refl _) (.cells #[.int .i64 (-1)] 3)).trans (hb.mono (by simp)))
  clear hv hb hp HR
  have hm := hm n (by omega) h
  go_wp2_with fail
  go_ret2
  have hs := HB.out.size
  have hlt := HV.out.lt
  have h3 := box3_new (w1.alloc (.cells (madeCells #[.int .i64 0] n) 3)) (.slice none 0 0) (.slice (some ⟨p, 0, none⟩) n n) (.slice (some ⟨w1.heap.size, 0, none⟩) n n) 44
  have hz : (w1.alloc (.cells (madeCells #[.int .i64 0] n) 3)).heap.size = w1.heap.size + 1 := by simp
  rw [hz] at h3
  have B1 := (Below.refl w1.heap.size w1).alloc (Nat.le_refl _) (.cells (madeCells #[.int .i64 0] n) 3)
  have B2 := B1.alloc B1.size (.cells #[.slice none 0 0, .slice (some ⟨p, 0, none⟩) n n, .slice (some ⟨w1.heap.size, 0, none⟩) n n] 44)
  have B3 := (Below.refl (w1.heap.size + 1) (w1.alloc (.cells (madeCells #[.int .i64 0] n) 3))).alloc (by simp) (.cells #[.slice none 0 0, .slice (some ⟨p, 0, none⟩) n n, .slice (some ⟨w1.heap.size, 0, none⟩) n n] 44)
  refine ⟨w1.heap.size + 1, p, w1.heap.size, rfl, by omega, by omega, hs, ⟨h3.1, h3.2.1, h3.2.2, fun o => ?_, by simp, OwnI.nil _ 0, ⟨fun _ => -1, HV.out.keep B2, ⟨fun m hm => by simp at hm, fun _ _ _ => rfl⟩⟩, (Vec.made w1 n 3).below B3 (by omega), by omega, by omega, by omega, fun g hg => by simp [Value.ownBlock] at hg, fun a ha => by simp at ha, h⟩, HB.out.trans (B2.mono hs)⟩
  rw [← hz, frozen?_alloc_cells]
  exact frozen_past _ _ (Nat.le_refl _)
end Go.Proofs.YtmfajaalbklfeaaDoor
