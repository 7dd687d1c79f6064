/-
  A WHEEL IN MEMORY: a block that holds the current time and 64 maps, each nil or in a block of its own; what stays where other blocks are written into.
-/
import Derived.Test.YtdgfaolflnljaaaDoorWheelMap
import Derived.Test.YtdgfaolflnljaaaDoorKeep
import Derived.Deep.MidRow
namespace Go.Proofs.YtdgfaolflnljaaaDoor
open Go.RowKit Go.Lib WheelP Go.Maps

/-- The wheel: block p; its maps lie in the blocks m; the current time is now; f tells what is due. -/
structure Whl (w : World) (p : Nat) (m : Nat → Option Nat) (now : Nat) (f : Nat → Nat) : Prop where
  c0 : w.cell? ⟨p, 0, none⟩ = some (.int .i64 (now : Int))
  cm : ∀ i, i < 64 → w.cell? ⟨p, 1 + i, none⟩ = some (.map (m i))
  fz : ∀ o, w.frozen? ⟨p, o, none⟩ = false
  lt : p < w.heap.size
  mp : ∀ i b, i < 64 → m i = some b → b ≠ p ∧ MapAt w b (sl f i)
  no : ∀ i, i < 64 → m i = none → ∀ k, k < 64 → sl f i k = 0
  one : ∀ i j b, i < 64 → j < 64 → m i = some b → m j = some b → i = j
  late : ∀ k, k < 64 → f k = 0 ∨ (now < f k ∧ f k ≤ 1099511627776)
  nle : now ≤ 1099511627776
/-- The blocks that a call on a wheel may turn. -/
def InW (p : Nat) (m : Nat → Option Nat) : Nat → Prop := fun b => b = p ∨ ∃ i, i < 64 ∧ m i = some b
section
variable {w w1 : World} {p now : Nat} {m : Nat → Option Nat} {f : Nat → Nat}
theorem Whl.keep {S : Nat → Prop} (h : Whl w p m now f) (hk : Keep S w w1) (hs : ∀ b, InW p m b → ¬ S b) : Whl w1 p m now f := by
  have hb := hk.block p h.lt (hs p (Or.inl rfl))
  exact ⟨(World.cell?_of_block (w := w) (a := ⟨p, 0, none⟩) hb).trans h.c0, fun i hi => (World.cell?_of_block (w := w) (a := ⟨p, 1 + i, none⟩) hb).trans (h.cm i hi),
    fun o => (World.frozen?_of_block (w := w) (a := ⟨p, o, none⟩) hb).trans (h.fz o), Nat.lt_of_lt_of_le h.lt hk.size,
    fun i b hi hm => ⟨(h.mp i b hi hm).1, (h.mp i b hi hm).2.frame (hk.block b (h.mp i b hi hm).2.lt (hs b (Or.inr ⟨i, hi, hm⟩)))⟩, h.no, h.one, h.late, h.nle⟩
theorem Whl.below (h : Whl w p m now f) (hb : Below w.heap.size w w1) : Whl w1 p m now f :=
  h.keep (S := fun _ => False) (Keep.of hb) (fun _ _ e => e)
theorem Whl.drewN (h : Whl w p m now f) (n : Nat) : Whl (w.drewN n) p m now f := h.below (Below.drewN (Below.refl _ _) _)
theorem Whl.in (h : Whl w p m now f) {b : Nat} (hb : InW p m b) : b < w.heap.size := by
  rcases hb with rfl | ⟨i, hi, hm⟩
  · exact h.lt
  · exact (h.mp i b hi hm).2.lt
theorem Whl.congr (h : Whl w p m now f) {g : Nat → Nat} (e : ∀ k, k < 64 → f k = g k) : Whl w p m now g :=
  ⟨h.c0, h.cm, h.fz, h.lt, fun i b hi hm => ⟨(h.mp i b hi hm).1, (h.mp i b hi hm).2.congr fun k hk => by unfold sl; rw [e k hk]⟩,
    fun i hi hm k hk => by have := h.no i hi hm k hk; unfold sl at this ⊢; rwa [← e k hk], h.one, fun k hk => by rw [← e k hk]; exact h.late k hk, h.nle⟩
/-- One id struck, its slot's map turned. -/
theorem Whl.strike (h : Whl w p m now f) {i b k : Nat} (hi : i < 64) (hm : m i = some b) (hf : f k % 64 = i) (ht : Keep (fun x => x = b) w w1) (hn : MapAt w1 b (upd (sl f i) k 0)) : Whl w1 p m now (upd f k 0) := by
  have hp := (h.mp i b hi hm).1
  have hb := ht.block p h.lt (fun e => hp e.symm)
  refine ⟨(World.cell?_of_block (w := w) (a := ⟨p, 0, none⟩) hb).trans h.c0, fun i hi => (World.cell?_of_block (w := w) (a := ⟨p, 1 + i, none⟩) hb).trans (h.cm i hi),
    fun o => (World.frozen?_of_block (w := w) (a := ⟨p, o, none⟩) hb).trans (h.fz o), Nat.lt_of_lt_of_le h.lt ht.size, fun j c hj hc => ?_, fun j hj hc l hl => ?_, h.one, fun l hl => ?_, h.nle⟩
  · refine ⟨(h.mp j c hj hc).1, ?_⟩
    rw [sl_strike]
    by_cases e : j = i
    · subst e
      rw [hm] at hc
      cases hc
      exact hn
    · have hz : sl f j k = 0 := by unfold sl; rw [if_neg (by omega)]
      rw [upd_zero _ _ hz]
      refine (h.mp j c hj hc).2.frame (ht.block c (h.mp j c hj hc).2.lt fun ec => ?_)
      subst ec
      exact e (h.one j i c hj hi hc hm)
  · rw [sl_strike]
    by_cases e : l = k
    · rw [e, upd_at]
    · rw [upd_ne _ _ _ _ e]; exact h.no j hj hc l hl
  · by_cases e : l = k
    · rw [e, upd_at]; exact Or.inl rfl
    · rw [upd_ne _ _ _ _ e]; exact h.late l hl
end

/-! ### The array of the maps, as a value -/
def cellsM (m : Nat → Option Nat) : List Value := (List.range 64).map fun i => .map (m i)
theorem cellsM_len (m : Nat → Option Nat) : (cellsM m).length = 64 := by simp [cellsM]
theorem cellsM_at (m : Nat → Option Nat) (i : Nat) (h : i < 64) : (cellsM m)[i]? = some (.map (m i)) := by
  unfold cellsM
  rw [List.getElem?_map, List.getElem?_range h]; rfl
theorem Whl.range {w : World} {p now : Nat} {m : Nat → Option Nat} {f : Nat → Nat} (h : Whl w p m now f) : w.rangeAt p 1 (cellsM m) := by
  intro j v hv
  have hj : j < 64 := by rw [← cellsM_len m]; exact (List.getElem?_eq_some_iff.1 hv).1
  rw [cellsM_at m j hj] at hv
  cases hv
  exact h.cm j hj
theorem arr_info : (Tryd.prog.info? 42).map (·.size) = some 64 := by kernel_rfl
theorem idx_any (w : World) (m : Nat → Option Nat) (i : Nat) (hi : i < 64) :
    (Instr.index 42 (.agg (cellsM m).toArray) (.int .i64 (i : Int))).run Tryd.prog w = .ok (.map (m i)) w := by
  have hu := run_underlying Tryd.underlying42 w
  have hat := cellsM_at m i hi
  generalize cellsM m = cs at hat
  unfold Instr.index
  simp [asIntOf, hu, Result.andThen, part, hat]
  intro h64
  omega
end Go.Proofs.YtdgfaolflnljaaaDoor
