/-
  graph.Near at every number of nodes, every list of links and every node; what lay in memory stays.
-/
import Derived.Test.YtioackidihalfaaDoorGraphCosts
import Derived.Test.YtioackidihalfaaDoorIntList
namespace Go.Proofs.YtioackidihalfaaDoor
open Go.RowKit Go.Lib

set_option maxHeartbeats 400000 in
set_option maxRecDepth 100000 in
theorem near_bad (w : World) (n i : Int) (v : Value) (l : List Lk) (hn : l.length < 4611686018427387904) (h : ArgK w v l) (hg : gBad n l ≠ 0) :
    Calls Tryd.prog 14 #[.int .i64 n, v, .int .i64 i] w fun e w' => e = .returned (.tuple #[.slice none 0 0, errV (gBad n l)]) ∧ Below w.heap.size w w' := by
  have hE : errV (gBad n l) = .iface 24 (.int .i64 (gBad n l)) := if_neg hg
  have HC := Lib.hid (costs_bad w n v l hn h hg)
  rw [hE] at HC ⊢
  clear hE h
  generalize gBad n l = q at HC hg
  go_enter Tryd.func14, Tryd.ntmps14
  go_wp2_with fail
  refine HC.out.mono ?_
  rintro e w1 ⟨rfl, hb1⟩
  go_wp2_with fail
  go_ret2
  exact ⟨rfl, hb1⟩
set_option maxHeartbeats 400000 in
set_option maxRecDepth 100000 in
theorem near_far (w : World) (m : Nat) (i : Int) (v : Value) (l : List Lk) (hn : l.length < 4611686018427387904) (h : ArgK w v l) (hg : gBad m l = 0) (hi : ¬ (0 ≤ i ∧ i < m)) :
    Calls Tryd.prog 14 #[.int .i64 m, v, .int .i64 i] w fun e w' => e = .returned (.tuple #[.slice none 0 0, .iface 24 (.int .i64 1)]) ∧ Below w.heap.size w w' := by
  have HC := Lib.hid (costs_ok w m v l hn h hg)
  have HI := Lib.hid hi
  clear h hi hg
  go_enter Tryd.func14, Tryd.ntmps14
  go_wp2_with fail
  refine HC.out.mono ?_
  rintro e w1 ⟨g, hgs, rfl, hG, hb1⟩
  have HB := Lib.hid hb1
  clear hG hb1
  go_wp2_with fail
  refine (isNode_no m i HI.out _).mono ?_
  rintro e w2 ⟨rfl, rfl⟩
  go_wp2_with fail
  go_ret2
  exact ⟨rfl, HB.out⟩
set_option maxHeartbeats 1000000 in
set_option maxRecDepth 100000 in
theorem near_ok (w : World) (m i : Nat) (v : Value) (l : List Lk) (hn : l.length < 4611686018427387904) (h : ArgK w v l) (hg : gBad m l = 0) (hi : i < m) :
    Calls Tryd.prog 14 #[.int .i64 m, v, .int .i64 i] w fun e w' => ∃ u, e = .returned (.tuple #[u, .nilIface]) ∧ OwnI w' w.heap.size u (nearG l i m) ∧ Below w.heap.size w w' := by
  have HC := Lib.hid (costs_ok w m v l hn h hg)
  have hm : m ≤ 8 := by
    have := ((gBad_zero _ _).1 hg).1
    omega
  clear h hg
  go_enter Tryd.func14, Tryd.ntmps14
  go_wp2_with fail
  refine HC.out.mono ?_
  rintro e w1 ⟨g, hgs, rfl, hG, hb1⟩
  have HB := Lib.hid hb1
  have HG := Lib.hid hG
  clear hG hb1
  go_wp2_with fail
  refine (isNode_yes m i (by omega) _).mono ?_
  rintro e w2 ⟨rfl, rfl⟩
  have o0 := HG.out.o i hi
  go_wp2_with fail
  clear o0
  go_loopw [10, 32] (fun u v wr => ∃ (k : Nat), v = .int .i64 k ∧ k ≤ m ∧ Hid (Below w1.heap.size w1 wr) ∧ Hid (OwnI wr w1.heap.size u (nearG l i k))) (fun _ v _ => m - (RowKit.intOf v).toNat)
  case atStart => exact ⟨0, rfl, Nat.zero_le _, Lib.hid (Below.refl _ _), Lib.hid (OwnI.nil _ _)⟩
  case round =>
    obtain ⟨k, rfl, hk, hB, HO⟩ := hrel
    by_cases hkn : k < m
    · have c0 := (HG.out.keep hB.out).e i hi k hkn
      by_cases hki : k = i
      · subst hki
        generalize costG l (k : Int) (k : Int) = z at c0
        go_wp2_with fail
        go_roundw
        case rel => exact ⟨k + 1, by go_num, by omega, hB, Lib.hid (by rw [nearG, if_neg (fun h => h.1 rfl)]; exact HO.out)⟩
        case measure => simp [RowKit.intOf]; omega
      · have t1 : ((k : Int) != (i : Int)) = true := by
          have : ¬ (k : Int) = i := by omega
          simpa using this
        have hne : (k : Int) ≠ (i : Int) := by omega
        by_cases hc : costG l i k < 16
        · have HN : Hid (nearG l i (k + 1) = nearG l i k ++ [(k : Int)]) := Lib.hid (by rw [nearG, if_pos ⟨hne, hc⟩])
          have hlen := nearG_len l i k
          generalize costG l (i : Int) (k : Int) = z at c0 hc
          clear hne
          have HK := Lib.hid (HO.out.keep ((Below.refl wr.heap.size wr).alloc (Nat.le_refl _) (.cells #[.int .i64 k] 3)))
          go_wp2_with (at_builtin; refine wpl_append_oneI rfl _ _ rfl w1.heap.size _ (nearG l i k) (k : Int) wr.heap.size 1 rfl rfl HK.out (by simp) (by omega) (Nat.le_trans hB.out.size (by simp)) ?_; intro v' w3 hO3 hg3 _)
          go_roundw
          case rel => exact ⟨k + 1, by go_num, by omega, Lib.hid ((hB.out.alloc hB.out.size _).grown hg3 (Nat.le_trans hB.out.size (by simp)) HO.out.past), Lib.hid (HN.out ▸ hO3)⟩
          case measure => simp [RowKit.intOf]; omega
        · have HN : Hid (nearG l i (k + 1) = nearG l i k) := Lib.hid (by rw [nearG, if_neg (fun h => hc h.2)])
          generalize costG l (i : Int) (k : Int) = z at c0 hc
          clear hne
          go_wp2_with fail
          go_roundw
          case rel => exact ⟨k + 1, by go_num, by omega, hB, Lib.hid (HN.out ▸ HO.out)⟩
          case measure => simp [RowKit.intOf]; omega
    · have e : k = m := by omega
      subst e
      go_wp2_with fail
      go_ret2
      exact ⟨_, rfl, HO.out.down HB.out.size, Below.two HB.out hB.out⟩
end Go.Proofs.YtioackidihalfaaDoor
