/-
  The document's own answer Places, at every list and every network: where it is first; -1: nowhere; what lay in memory stays.
-/
import Derived.Test.YtbdmfcnlfmnmdaaDoorPrefErr
import Derived.Test.YtbdmfcnlfmnmdaaDoorNetApp
import Derived.Deep.QuietTactic
import Derived.LoopN
import Derived.Test.YtbdmfcnlfmnmdaaDoorTrieHeap
namespace Go.Proofs.YtbdmfcnlfmnmdaaDoor
open Go.RowKit

/-- Where a network is first, counted from k on. -/
def plcFrom (n : Nt) : Nat → List Nt → Int
  | _, [] => -1
  | k, x :: r => if x = n then (k : Int) else plcFrom n (k + 1) r
def plc (l : List Nt) (n : Nt) : Int := plcFrom n 0 l
theorem plcFrom_lt (n : Nt) : ∀ (k : Nat) (l : List Nt), plcFrom n k l < (k + l.length : Nat)
  | k, [] => by simp only [plcFrom]; omega
  | k, x :: r => by
    rw [plcFrom]
    have := plcFrom_lt n (k + 1) r
    simp only [List.length_cons]
    split
    · omega
    · omega
theorem plcFrom_neg (n : Nt) : ∀ (k : Nat) (l : List Nt), plcFrom n k l < 0 ↔ n ∉ l
  | k, [] => by simp [plcFrom]
  | k, x :: r => by
    rw [plcFrom]
    by_cases h : x = n
    · rw [if_pos h]; simp [h]
    · rw [if_neg h, plcFrom_neg n (k + 1) r]
      simp [Ne.symm h]
/-- It is there. -/
theorem plcFrom_at (n : Nt) : ∀ (k : Nat) (l : List Nt), n ∈ l → ∃ i : Nat, plcFrom n k l = ((k + i : Nat) : Int) ∧ i < l.length ∧ l[i]! = n
  | k, [], h => by simp at h
  | k, x :: r, h => by
    rw [plcFrom]
    by_cases e : x = n
    · rw [if_pos e]
      exact ⟨0, by simp, by simp, by simpa using e⟩
    · rw [if_neg e]
      rcases List.mem_cons.1 h with h | h
      · exact absurd h.symm e
      · obtain ⟨i, h1, h2, h3⟩ := plcFrom_at n (k + 1) r h
        exact ⟨i + 1, by rw [h1]; omega, by simpa using h2, by simpa using h3⟩
theorem plc_neg (l : List Nt) (n : Nt) : plc l n < 0 ↔ n ∉ l := plcFrom_neg n 0 l
theorem plc_at {l : List Nt} {n : Nt} (h : n ∈ l) : ∃ i : Nat, plc l n = (i : Int) ∧ i < l.length ∧ l[i]! = n := by
  obtain ⟨i, h1, h2, h3⟩ := plcFrom_at n 0 l h
  exact ⟨i, by unfold plc; rw [h1]; simp, h2, h3⟩
theorem plc_none {l : List Nt} {n : Nt} (h : n ∉ l) : plc l n = -1 := by
  have : ∀ (k : Nat) (l : List Nt), n ∉ l → plcFrom n k l = -1 := by
    intro k l
    induction l generalizing k with
    | nil => intro _; rfl
    | cons x r ih =>
      intro h
      rw [plcFrom, if_neg (fun e => h (by simp [e]))]
      exact ih (k + 1) (fun e => h (by simp [e]))
  exact this 0 l h

set_option maxHeartbeats 1000000 in
set_option maxRecDepth 100000 in
theorem places_some (w : World) (b off c : Nat) (l : List Nt) (n : Nt) (hn : l.length < 4611686018427387904) (hb : b < w.heap.size) (hs : Seen w b off l) :
    Calls Tryd.prog 9 #[.slice (some ⟨b, off, none⟩) l.length c, .agg #[.int .u32 n.1, .int .i64 n.2]] w fun e w' => e = .returned (.int .i64 (plc l n)) ∧ Below w.heap.size w w' := by
  have N0 := Box.new w (.int .u32 n.1) (.int .i64 n.2) 32
  have B0 : Below w.heap.size w (w.alloc (.cells #[.int .u32 n.1, .int .i64 n.2] 32)) := (Below.refl _ _).alloc (Nat.le_refl _) _
  have HS := Lib.hid hs; have HN := Lib.hid N0; have HB := Lib.hid B0
  clear hs N0 B0
  generalize hR : plc l n = R
  have HR := Lib.hid hR; clear hR
  go_enter Tryd.func9, Tryd.ntmps9
  go_wp2_with fail
  go_loopw [5] (fun s5 wr => ∃ k : Nat, s5 = .int .i64 k ∧ k ≤ l.length ∧ Hid (Below w.heap.size w wr) ∧ Hid (Box wr w.heap.size (.int .u32 n.1) (.int .i64 n.2)) ∧ Hid (plcFrom n k (l.drop k) = R)) (fun s5 _ => l.length - (RowKit.intOf s5).toNat)
  case atStart => exact ⟨0, rfl, Nat.zero_le _, HB, HN, Lib.hid HR.out⟩
  case round =>
    clear HB HN
    obtain ⟨k, rfl, hk, HB, HN, HE⟩ := hrel
    by_cases hkn : k < l.length
    · have sw := HS.out.below HB.out hb
      have s0 : wr.cell? ⟨b, off + k * 2, none⟩ = some (.int .u32 (l[k]!.1 : Int)) := sw.c0 k hkn
      have s1 : wr.cell? ⟨b, off + k * 2 + 1, none⟩ = some (.int .i64 l[k]!.2) := sw.c1 k hkn
      have hE := HE.out
      rw [drop_at l k hkn, plcFrom] at hE
      generalize l[k]! = m at s0 s1 hE
      obtain ⟨l1, c0, c1, f0, f1⟩ := HN.out
      clear sw
      by_cases e : m = n
      · rw [if_pos e] at hE
        subst e
        have HE2 := Lib.hid hE; clear hE HE
        go_wp2_with fail
        go_quiet (fail)
        go_wp2_with fail
        go_ret
        exact ⟨by rw [← HE2.out]; rfl, Below.drewN HB.out _⟩
      · rw [if_neg e] at hE
        have HE2 := Lib.hid hE
        clear hE HE
        by_cases e1 : m.1 = n.1
        · have t : (m.2 == n.2) = false := by
            have : ¬ m.2 = n.2 := fun h => e (Prod.ext e1 h)
            simpa using this
          rw [e1] at s0
          clear e e1
          go_wp2_with fail
          go_quiet (fail)
          go_wp2_with fail
          go_roundw
          case rel => exact ⟨k + 1, by go_num, by omega, Lib.hid (Below.drewN HB.out _), Lib.hid (HN.out.drewN _), HE2⟩
          case measure => simp [RowKit.intOf]; omega
        · have t : ((m.1 : Int) == (n.1 : Int)) = false := by
            have : ¬ ((m.1 : Int) = (n.1 : Int)) := by omega
            simpa using this
          clear e e1
          go_wp2_with fail
          go_quiet (fail)
          go_wp2_with fail
          go_roundw
          case rel => exact ⟨k + 1, by go_num, by omega, Lib.hid (Below.drewN HB.out _), Lib.hid (HN.out.drewN _), HE2⟩
          case measure => simp [RowKit.intOf]; omega
    · have hE := HE.out
      rw [List.drop_eq_nil_of_le (by omega), plcFrom] at hE
      have HE2 := Lib.hid hE; clear hE HE
      go_wp2_with fail
      go_ret
      exact ⟨by rw [← HE2.out]; rfl, HB.out⟩
set_option maxHeartbeats 400000 in
set_option maxRecDepth 100000 in
theorem places_none (w : World) (p : Option Addr) (c : Nat) (n : Nt) :
    Calls Tryd.prog 9 #[.slice p 0 c, .agg #[.int .u32 n.1, .int .i64 n.2]] w fun e w' => e = .returned (.int .i64 (-1)) ∧ Below w.heap.size w w' := by
  go_enter Tryd.func9, Tryd.ntmps9
  go_wp2_with fail
  refine wp_loop_rounds 1 ?_
  rw [rounds_succ]
  go_wp2_with fail
  go_ret
  exact ⟨rfl, (Below.refl _ _).alloc (Nat.le_refl _) _⟩
theorem places_any (w : World) (v : Value) (l : List Nt) (n : Nt) (hn : l.length < 4611686018427387904) (h : Arg w v l) :
    Calls Tryd.prog 9 #[v, .agg #[.int .u32 n.1, .int .i64 n.2]] w fun e w' => e = .returned (.int .i64 (plc l n)) ∧ Below w.heap.size w w' := by
  obtain ⟨p, c, rfl, h⟩ := h
  rcases h with rfl | ⟨b, off, rfl, hb, hs⟩
  · exact places_none w p c n
  · exact places_some w b off c l n hn hb hs
end Go.Proofs.YtbdmfcnlfmnmdaaDoor
