/-
  (*trie.Table).Get at every table and every network; what lay in memory stays.
-/
import Derived.Test.YtbdmfcnlfmnmdaaDoorTrieTab
namespace Go.Proofs.YtbdmfcnlfmnmdaaDoor
open Go.RowKit

theorem errV_pos {k : Int} (h : k ≠ 0) : errV k = .iface 29 (.int .i64 k) := if_neg h
theorem errV_zero : errV 0 = .nilIface := rfl

set_option maxHeartbeats 1000000 in
set_option maxRecDepth 100000 in
theorem get_bad (w : World) (tb : Nat) (a : Nat) (z : Int) (ha : a < 4294967296) (h : PrefP.chk a z ≠ 0) :
    Calls Tryd.prog 10 #[.pointer (some ⟨tb, 0, none⟩), .agg #[.int .u32 a, .int .i64 z]] w fun e w' => e = .returned (.tuple #[.int .i64 0, .iface 29 (.int .i64 (PrefP.chk a z))]) ∧ Below w.heap.size w w' := by
  have HC := Lib.hid (check1_any a z ha)
  have HE := Lib.hid (errV_pos h)
  clear h
  generalize PrefP.chk a z = k at HC HE ⊢
  go_enter Tryd.func10, Tryd.ntmps10
  go_wp2_with fail
  refine (HC.out _).mono ?_
  rintro e w1 ⟨rfl, hb⟩
  rw [HE.out]
  have hB := (box1 hb).2
  clear hb
  go_wp2_with fail
  go_ret2
  exact ⟨rfl, hB⟩

set_option maxHeartbeats 1000000 in
set_option maxRecDepth 100000 in
theorem get_ok (w : World) (M : Tm) (tb : Nat) (c : Int) (a n : Nat) (ha : a < 4294967296) (hn : n ≤ 32) (hc : PrefP.cut a n = a) (h : Tri w M tb c) :
    Calls Tryd.prog 10 #[.pointer (some ⟨tb, 0, none⟩), .agg #[.int .u32 a, .int .i64 n]] w fun e w' => e = .returned (match M.look a n with | none => .tuple #[.int .i64 0, .iface 29 (.int .i64 2)] | some x => .tuple #[.int .i64 x.v, .nilIface]) ∧ Below w.heap.size w w' := by
  have HC := Lib.hid (check_ok a n ha hn hc); have HT := Lib.hid h; have HCC := Lib.hid hc
  clear h hc
  cases hl : M.look a n with
  | none =>
    simp only
    have HL := Lib.hid hl; clear hl
    go_enter Tryd.func10, Tryd.ntmps10
    go_wp2_with fail
    refine (HC.out _).mono ?_
    rintro e w1 ⟨rfl, hb⟩
    obtain ⟨⟨l1, c0, c1, f0, f1⟩, hB⟩ := box1 hb; clear hb
    go_wp2_with fail
    refine (lookup_any w1 M tb c a n hn HCC.out (HT.out.below hB)).mono ?_
    rintro e w2 ⟨rfl, hb2⟩
    rw [HL.out, pt_none]
    go_wp2_with fail
    go_ret2
    exact ⟨rfl, Below.two hB hb2⟩
  | some x =>
    simp only
    have HL := Lib.hid hl; clear hl
    go_enter Tryd.func10, Tryd.ntmps10
    go_wp2_with fail
    refine (HC.out _).mono ?_
    rintro e w1 ⟨rfl, hb⟩
    obtain ⟨⟨l1, c0, c1, f0, f1⟩, hB⟩ := box1 hb; clear hb
    go_wp2_with fail
    refine (lookup_any w1 M tb c a n hn HCC.out (HT.out.below hB)).mono ?_
    rintro e w2 ⟨rfl, hb2⟩
    rw [HL.out, pt_some]
    have d3 : w2.cell? ⟨x.b, 3, none⟩ = some (.int .i64 x.v) := ((HT.out.below hB).below hb2).cell _ _ _ (look_is HL.out).1 3 (by decide)
    go_wp2_with fail
    go_ret2
    exact ⟨rfl, Below.two hB hb2⟩

/-- Get: the number, or 0 and the error. -/
theorem get_any (w : World) (S : Nat → Prop) (tb : Nat) (f : Nt → Option Int) (L : List Nt) (x : Nt) (hx : x.1 < 4294967296) (h : Tab w S tb f L) :
    Calls Tryd.prog 10 #[.pointer (some ⟨tb, 0, none⟩), .agg #[.int .u32 x.1, .int .i64 x.2]] w fun e w' => e = .returned (.tuple #[.int .i64 (if getE f x = 0 then (f x).getD 0 else 0), errV (getE f x)]) ∧ Below w.heap.size w w' := by
  obtain ⟨a, z⟩ := x
  obtain ⟨_, M, h1, _, _, _, h5⟩ := h
  by_cases hk : PrefP.chk a z = 0
  · obtain ⟨n, rfl, hn, hc⟩ := PrefP.chk_zero a z hk
    refine (get_ok w M tb L.length a n hx hn hc h1).mono ?_
    rintro e w' ⟨rfl, hb⟩
    refine ⟨?_, hb⟩
    have hv := look_val M a n
    unfold getE
    simp only [hk, if_true]
    rw [h5 (a, (n : Int)), hv]
    cases M.look a n with
    | none => simp [errV]
    | some x => simp [errV]
  · refine (get_bad w tb a z hx hk).mono ?_
    rintro e w' ⟨rfl, hb⟩
    refine ⟨?_, hb⟩
    unfold getE
    simp only [hk, if_false]
    rw [errV_pos hk]
end Go.Proofs.YtbdmfcnlfmnmdaaDoor
