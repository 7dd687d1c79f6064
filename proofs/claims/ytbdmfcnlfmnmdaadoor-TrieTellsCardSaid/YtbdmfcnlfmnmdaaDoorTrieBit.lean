/-
  trie.bit at every address and every depth; trie.New: a new table.
-/
import Derived.Test.YtbdmfcnlfmnmdaaDoorTrieHeap
import Derived.Test.YtbdmfcnlfmnmdaaDoorMaskMake
namespace Go.Proofs.YtbdmfcnlfmnmdaaDoor
open Go.RowKit

set_option maxHeartbeats 400000 in
set_option maxRecDepth 100000 in
theorem bit_any (a d : Nat) (hd : d ≤ 32) (w : World) :
    Calls Tryd.prog 31 #[.int .u32 a, .int .i64 d] w fun e w' => e = .returned (.int .u32 (TrieP.bt a d : Int)) ∧ w' = w := by
  go_enter Tryd.func31, Tryd.ntmps31
  go_wp2_with fail
  go_ret
  refine ⟨?_, rfl⟩
  unfold TrieP.bt
  simp

/-- The tree of an empty table. -/
def Tm.new (tb : Nat) : Tm := fun a d => if a = 0 ∧ d = 0 then some ⟨tb, false, 0⟩ else none
theorem Tm.new_some (tb a d : Nat) (x : Nd) (h : Tm.new tb a d = some x) : a = 0 ∧ d = 0 ∧ x = ⟨tb, false, 0⟩ := by
  unfold Tm.new at h
  split at h
  · rename_i e; exact ⟨e.1, e.2, (Option.some.inj h).symm⟩
  · exact absurd h (by simp)
theorem Tm.new_root (tb : Nat) : Tm.new tb 0 0 = some ⟨tb, false, 0⟩ := if_pos ⟨rfl, rfl⟩
theorem Tm.new_deep (tb a d : Nat) : Tm.new tb a (d + 1) = none := if_neg (by omega)
theorem Tm.new_val (tb : Nat) (n : Nt) : (Tm.new tb).val n = none := by
  cases h : (Tm.new tb).val n with
  | none => rfl
  | some z =>
    obtain ⟨d, x, _, h2, h3, _⟩ := (Tm.val_some n z).1 h
    obtain ⟨_, _, rfl⟩ := Tm.new_some _ _ _ _ h2
    exact absurd h3 (by simp)
theorem Tri.new (w : World) (T : TypeId) : Tri (w.alloc (.cells #[.pointer none, .pointer none, .bool false, .int .i64 0, .int .i64 0] T)) (Tm.new w.heap.size) w.heap.size 0 := by
  refine ⟨⟨?_, ?_⟩, ⟨_, Tm.new_root _, rfl⟩, ?_, ?_, ?_, ?_, ?_⟩
  · intro a d x h
    obtain ⟨rfl, rfl, rfl⟩ := Tm.new_some _ _ _ _ h
    exact ⟨by decide, by decide, PrefP.cut_zero 0⟩
  · intro a d x h
    rw [Tm.new_deep] at h
    exact absurd h (by simp)
  · intro a d x a' d' y h h' _
    obtain ⟨rfl, rfl, rfl⟩ := Tm.new_some _ _ _ _ h
    obtain ⟨rfl, rfl, rfl⟩ := Tm.new_some _ _ _ _ h'
    exact ⟨rfl, rfl⟩
  · intro a d x h
    obtain ⟨rfl, rfl, rfl⟩ := Tm.new_some _ _ _ _ h
    simp
  · intro a d x h o ho
    obtain ⟨rfl, rfl, rfl⟩ := Tm.new_some _ _ _ _ h
    rw [World.cell?_alloc_new]
    match o with
    | 0 => simp [nc, Tm.new_deep, pt]
    | 1 => simp [nc, Tm.new_deep, pt]
    | 2 => simp [nc]
    | 3 => simp [nc]
    | n + 4 => omega
  · intro a d x h o
    obtain ⟨rfl, rfl, rfl⟩ := Tm.new_some _ _ _ _ h
    simp
  · simp
theorem Tm.new_bl (tb b : Nat) (h : (Tm.new tb).Bl b) : b = tb := by
  obtain ⟨a, d, x, h1, h2⟩ := h
  obtain ⟨_, _, rfl⟩ := Tm.new_some _ _ _ _ h1
  exact h2.symm

set_option maxHeartbeats 400000 in
set_option maxRecDepth 100000 in
theorem new_any (w : World) :
    Calls Tryd.prog 7 #[] w fun e w' => e = .returned (.pointer (some ⟨w.heap.size, 0, none⟩)) ∧ Tri w' (Tm.new w.heap.size) w.heap.size 0 ∧ Below w.heap.size w w' ∧ w'.heap.size = w.heap.size + 1 := by
  go_enter Tryd.func7, Tryd.ntmps7
  go_wp2_with fail
  go_ret
  exact ⟨rfl, Tri.new w _, (Below.refl _ _).alloc (Nat.le_refl _) _, by simp⟩
end Go.Proofs.YtbdmfcnlfmnmdaaDoor
