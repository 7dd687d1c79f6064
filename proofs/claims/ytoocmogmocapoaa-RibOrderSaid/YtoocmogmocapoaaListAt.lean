/-
  PLAIN: what lies at a place of a list of numbers, or of networks, that is an argument.
-/
import Derived.Test.YtoocmogmocapoaaIntList
import Derived.Test.YtoocmogmocapoaaNetList
import Derived.Test.YtoocmogmocapoaaRibActs
namespace Go.Proofs.Ytoocmogmocapoaa
open Go.RowKit RibP

theorem ArgI.at {w : World} {p : Option Addr} {n c : Nat} {l : List Int} (h : ArgI w (.slice p n c) l) (k : Nat) (hk : k < l.length) : ∃ b off, p = some ⟨b, off, none⟩ ∧ b < w.heap.size ∧ w.cell? ⟨b, off + k, none⟩ = some (.int .i64 l[k]!) := by
  obtain ⟨p', c', hv, h⟩ := h
  injection hv with hp _ _
  rcases h with h | ⟨b, off, hp', hlt, hs⟩
  · rw [h] at hk; simp at hk
  · exact ⟨b, off, hp.trans hp', hlt, hs k hk⟩
theorem Arg.at {w : World} {p : Option Addr} {n c : Nat} {l : List Nt} (h : Arg w (.slice p n c) l) (k : Nat) (hk : k < l.length) : ∃ b off, p = some ⟨b, off, none⟩ ∧ b < w.heap.size ∧ w.cell? ⟨b, off + k * 2, none⟩ = some (Nt.v0 l[k]!) ∧ w.cell? ⟨b, off + k * 2 + 1, none⟩ = some (Nt.v1 l[k]!) := by
  obtain ⟨p', c', hv, h⟩ := h
  injection hv with hp _ _
  rcases h with h | ⟨b, off, hp', hlt, hs⟩
  · rw [h] at hk; simp at hk
  · exact ⟨b, off, hp.trans hp', hlt, hs.c0 k hk, hs.c1 k hk⟩
theorem RibP.learnS_zero (s : St) (f : Int) (n : Nt) (m : Int) (h : s.1 = 0) : (learnS s f n m 0).1 = 0 := by
  unfold learnS
  split
  · rfl
  · exact h
end Go.Proofs.Ytoocmogmocapoaa
