/-
  mat.shorter at three distances; a table, read row by row.
-/
import Derived.Test.YtjgmehmhhplkaaaMatDiag
import Derived.Test.YtjgmehmhhplkaaaDistLess
import Derived.Test.YtjgmehmhhplkaaaMatCheck
namespace Go.Proofs.Ytjgmehmhhplkaaa
open Go.RowKit Go.Lib

set_option maxHeartbeats 400000 in
set_option maxRecDepth 100000 in
/-- mat.shorter. -/
theorem shorter_any (d a b : Nat) (hd : d ≤ 16) (ha : a ≤ 16) (hb : b ≤ 16) (w : World) :
    Calls Try.prog 26 #[.int .i64 d, .int .i64 a, .int .i64 b] w fun e w' => e = .returned (.int .i64 ((DistP.least d (DistP.add a b) : Nat) : Int)) ∧ Below w.heap.size w w' := by
  have HA := Lib.hid (add_yes a b ha hb)
  have HL := Lib.hid (less_yes d (DistP.add a b) hd (DistP.add_le a b))
  generalize DistP.add a b = s at HA HL
  generalize DistP.least d s = t at HL ⊢
  go_enter Try.func26, Try.ntmps26
  go_wp2_with fail
  refine (HA.out _).mono ?_
  rintro e w1 ⟨rfl, hb1⟩
  have HB1 := Lib.hid hb1; clear hb1
  go_wp2_with fail
  refine (HL.out _).mono ?_
  rintro e w2 ⟨rfl, hb2⟩
  have HB2 := Lib.hid (Below.two HB1.out hb2); clear hb2
  go_wp2_with fail
  go_ret
  exact ⟨rfl, HB2.out⟩

/-- A table to be read: row by row. -/
theorem tab_row {w : World} {b off n : Nat} {A : MatP.T} (h : SeenR w b off (rowsN n A)) (i : Nat) (hi : i < n) :
    ∃ b' o' c', w.cell? ⟨b, off + i, none⟩ = some (.slice (some ⟨b', o', none⟩) n c') ∧ b' < w.heap.size ∧ ∀ j, j < n → w.cell? ⟨b', o' + j, none⟩ = some (.int .i64 (A i j : Int)) := by
  obtain ⟨v, h1, p, c, rfl, h2⟩ := h i (by rw [rowsN_len]; exact hi)
  rw [rowsN_at n A i hi] at h2 h1
  rcases h2 with e | ⟨b', o', rfl, hb, hs⟩
  · have := congrArg List.length e; simp at this; omega
  · refine ⟨b', o', c, by simpa using h1, hb, fun j hj => ?_⟩
    have := hs j (by simpa using hj)
    rw [this, getElem!_pos _ j (by simpa using hj)]
    simp
/-- An argument that is a table of at least one row. -/
theorem tab_arg {w : World} {v : Value} {n : Nat} {A : MatP.T} (h : ArgR w v (rowsN n A)) (hn : 1 ≤ n) : ∃ b off c, v = .slice (some ⟨b, off, none⟩) n c ∧ b < w.heap.size ∧ SeenR w b off (rowsN n A) := by
  obtain ⟨p, c, rfl, h | ⟨b, off, rfl, hb, hs⟩⟩ := h
  · have := congrArg List.length h; rw [rowsN_len] at this; simp at this; omega
  · exact ⟨b, off, c, by rw [rowsN_len], hb, hs⟩
end Go.Proofs.Ytjgmehmhhplkaaa
