/-
  strings.SplitN at a separator of one byte, at 1 to 1000 pieces, WHATEVER THE TEXT's LENGTH up to the form's own reach: the pieces lie in one new block. Its callee strings.Index is taken as a hypothesis, which the shelf's contract pays.
-/
import Derived.Test.YtegfjdpibpmdmaaGreatDoorProg
import Derived.WalkKit
import Derived.Lib.Hide
import Derived.Lib.Walk
import Derived.Lib.Strings
import Derived.Lib.Split
import Derived.Lib.SplitLaws
import Derived.Laws.Strings3
import Derived.Deep.OwnRows
import Derived.Deep.LoopGhost
namespace Go.Proofs.YtegfjdpibpmdmaaGreatDoor
open Go.RowKit Go.Lib

/-- What strings.Index tells at a text of one byte: the shelf's contract at this program. -/
def IndexOne : Prop := ∀ (s : ByteArray) (c : UInt8) (w : World),
  Calls Tryz.prog 70 #[.string s, .string ⟨#[c]⟩] w fun e w' => e = .returned (.int .i64 (Lib.indexByte s.data.toList c)) ∧ w' = w

theorem sepB_size (c : UInt8) : (⟨#[c]⟩ : ByteArray).size = 1 := rfl

theorem info_string : (Tryz.prog.info? 9).map (fun i => (i.zero, i.size, i.bytes)) = some (some (.string ByteArray.empty), 1, 16) := by kernel_rfl

/-- What the loop keeps: the pieces so far lie in the new block, and the rest will give the others. -/
def SplitRel (s : ByteArray) (c : UInt8) (N : Nat) (w : World) (g : Nat) (s0 s10 : Value) (wr : World) : Prop :=
  ∃ (done : List ByteArray) (rest : ByteArray), s0 = .string rest ∧ s10 = .int .i64 done.length ∧ done.length ≤ N - 1 ∧ g = N - 1 - done.length ∧ rest.size ≤ s.size ∧
    wr = w.alloc (.cells (Lib.cellsOf done N) 9) ∧ done ++ Lib.splitB ⟨#[c]⟩ 0 (N - 1 - done.length) rest = Lib.splitB ⟨#[c]⟩ 0 (N - 1) s

set_option maxHeartbeats 4000000 in
set_option maxRecDepth 1000000 in
theorem genSplit_one (hI : IndexOne) (s : ByteArray) (c : UInt8) (n : Int) (N : Nat) (w : World) (hs : s.size ≤ 140737488355328) (hn : 1 ≤ n) (hn1 : n ≤ 1000) (hN : (N : Int) = min n ((s.size : Int) + 1)) :
    Calls Tryz.prog 54 #[.string s, .string ⟨#[c]⟩, .int .i64 0, .int .i64 n] w fun e w' =>
      e = .returned (.slice (some ⟨w.heap.size, 0, none⟩) (Lib.splitB ⟨#[c]⟩ 0 (N - 1) s).length N) ∧ w' = w.alloc (.cells (Lib.cellsOf (Lib.splitB ⟨#[c]⟩ 0 (N - 1) s) N) 9) := by
  have hne : (n == 0) = false := beq_eq_false_iff_ne.2 (by omega)
  have eN : min n ((s.size : Int) + 1) = (N : Int) := by omega
  have hneg : ¬ n < 0 := by omega
  have hN1 : 1 ≤ N := by omega
  have hN2 : N ≤ 1000 := by omega
  have hNs : N ≤ s.size + 1 := by omega
  clear hN
  have hmk := run_make_row' (P := Tryz.prog) 49 9 (.string ByteArray.empty) 16 Tryz.underlying49 info_string rfl .i64 .i64 N (by omega) (by omega)
  go_enter Tryz.func54, Tryz.ntmps54
  go_wp2_with fail
  clear hmk
  go_loopg [0, 10] (N - 1) (fun g s0 s10 wr => SplitRel s c N w g s0 s10 wr)
  case atStart => exact ⟨[], s, rfl, rfl, Nat.zero_le _, rfl, Nat.le_refl _, by rw [Lib.cellsOf_nil], rfl⟩
  case round =>
    obtain ⟨done, rest, rfl, rfl, hd, rfl, hrs, rfl, hsp⟩ := hrel
    have hnext : (Lib.cellsOf done N)[done.length]? = some (.string ByteArray.empty) := Lib.cellsOf_next (by omega)
    have HS : Aside (done ++ Lib.splitB ⟨#[c]⟩ 0 (N - 1 - done.length) rest = Lib.splitB ⟨#[c]⟩ 0 (N - 1) s) := hsp
    clear hsp
    have fin : Lib.splitB ⟨#[c]⟩ 0 (N - 1 - done.length) rest = [rest] → (Lib.splitB ⟨#[c]⟩ 0 (N - 1) s).length = done.length + 1 ∧ (Lib.cellsOf done N).setIfInBounds done.length (.string rest) = Lib.cellsOf (Lib.splitB ⟨#[c]⟩ 0 (N - 1) s) N := fun h => by
      have e := HS.out
      rw [h] at e
      rw [← e]
      exact ⟨by simp, Lib.cellsOf_set (by omega) rest⟩
    have FIN := Lib.hid fin; clear fin
    by_cases hlt : done.length < N - 1
    · have hltz : ((done.length : Nat) : Int) < (N : Int) - 1 := by omega
      rcases Lib.indexB_cases rest ⟨#[c]⟩ with hix | ⟨i, hix, hroom⟩
      · have hib : Lib.indexByte rest.data.toList c = -1 := by rw [← Lib.index_one]; exact hix
        have HIX := Lib.hid hix; have HIB := Lib.hid hib; clear hix hib
        go_wp2_with (go_at_call 70; refine (hI rest c _).mono ?_; rintro e w' ⟨rfl, hw⟩; rw [hw, HIB.out])
        go_ret
        obtain ⟨f1, f2⟩ := FIN.out (Lib.splitB_miss _ 0 _ rest HIX.out)
        rw [f1, ← f2]
        exact ⟨by first | rfl | (congr 2 <;> omega), rfl⟩
      · have hib : Lib.indexByte rest.data.toList c = i := by rw [← Lib.index_one]; exact hix
        have HIX := Lib.hid hix; have HIB := Lib.hid hib; clear hix hib
        rw [sepB_size] at hroom
        have c0 : ¬ ((i : Int) < 0) := by omega
        have c1 : (0 : Int) ≤ ↑i := by omega
        have c2 : (↑i : Int) ≤ ↑rest.size := by omega
        have c3 : (0 : Int) ≤ ↑i + 1 := by omega
        have c4 : (↑i + 1 : Int) ≤ ↑rest.size := by omega
        go_wp2_with (go_at_call 70; refine (hI rest c _).mono ?_; rintro e w' ⟨rfl, hw⟩; rw [hw, HIB.out])
        go_roundg (N - 1 - (done.length + 1))
        case measure => omega
        case rel =>
          refine ⟨done ++ [rest.extract 0 (i + 0)], rest.extract (i + 1) rest.size, rfl, by simp, by simp; omega, by simp, by rw [ByteArray.size_extract]; omega, by rw [← Lib.cellsOf_set (by omega)]; rfl, ?_⟩
          rw [← HS.out, show N - 1 - done.length = (N - 1 - (done.length + 1)) + 1 by omega, Lib.splitB_hit ⟨#[c]⟩ 0 _ rest i HIX.out]
          simp [sepB_size]
    · have hltz : ¬ (((done.length : Nat) : Int) < (N : Int) - 1) := by omega
      go_wp2_with fail
      go_ret
      obtain ⟨f1, f2⟩ := FIN.out (by rw [show N - 1 - done.length = 0 by omega]; rfl)
      rw [f1, ← f2]
      exact ⟨by first | rfl | (congr 2 <;> omega), rfl⟩

set_option maxHeartbeats 1000000 in
theorem splitN_one (hI : IndexOne) (s : ByteArray) (c : UInt8) (n : Int) (N : Nat) (w : World) (hs : s.size ≤ 140737488355328) (hn : 1 ≤ n) (hn1 : n ≤ 1000) (hN : (N : Int) = min n ((s.size : Int) + 1)) :
    Calls Tryz.prog 41 #[.string s, .string ⟨#[c]⟩, .int .i64 n] w fun e w' =>
      e = .returned (.slice (some ⟨w.heap.size, 0, none⟩) (Lib.splitB ⟨#[c]⟩ 0 (N - 1) s).length N) ∧ w' = w.alloc (.cells (Lib.cellsOf (Lib.splitB ⟨#[c]⟩ 0 (N - 1) s) N) 9) := by
  have HN := Lib.hid hN; clear hN
  go_enter Tryz.func41, Tryz.ntmps41
  go_wp2_with (go_at_call 54; refine (genSplit_one hI s c n N w hs hn hn1 HN.out).mono ?_; rintro e w' ⟨rfl, hw⟩; rw [hw])
  go_ret
  exact ⟨rfl, rfl⟩
end Go.Proofs.YtegfjdpibpmdmaaGreatDoor
