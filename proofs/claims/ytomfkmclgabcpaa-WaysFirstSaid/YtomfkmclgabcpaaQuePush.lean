/-
  heap.Push and heap.Pop on the queue: one pair more, one less; which one is taken is not told.
-/
import Derived.Test.YtomfkmclgabcpaaQueHeap
namespace Go.Proofs.Ytomfkmclgabcpaa
open Go.RowKit Go.Lib

set_option maxHeartbeats 1000000 in
set_option maxRecDepth 100000 in
/-- heap.Push. -/
theorem heapPush_any (w : World) (q g cap : Nat) (L : List Rc) (x : Rc) (h : Que w q g cap L) (hl : L.length ≤ 900) :
    Calls Try.prog 23 #[.iface 52 (.pointer (some ⟨q, 0, none⟩)), .iface 57 (.agg #[Rc.v0 x, Rc.v1 x])] w fun e w' => e = .returned (.tuple #[]) ∧ ∃ g' cap' L', Que w' q g' cap' L' ∧ L'.length = L.length + 1 ∧ (∀ e, e ∈ L' ↔ e = x ∨ e ∈ L) ∧ Keep (InQ q g) w w' ∧ (g' = g ∨ w.heap.size ≤ g') := by
  have HQ0 := Lib.hid h
  have m0 := fun w => meth_push ⟨q, 0, none⟩ w
  clear h
  go_enter Try.func23, Try.ntmps23
  go_wp2_with fail
  refine (qPush_any w q g cap L x HQ0.out (by omega)).mono ?_
  rintro e w1 ⟨g1, cap1, rfl, hq1, hk1, hg1⟩
  have hlen : (L ++ [x]).length = L.length + 1 := by simp
  have m1 := meth_len q _ w1 hq1.cq
  rw [hlen] at m1
  have HQ1 := Lib.hid hq1; have HK1 := Lib.hid hk1; have HG1 := Lib.hid hg1; have HL := Lib.hid hlen
  clear hq1 hk1 hg1 hlen m0
  go_wp2_with fail
  refine (qLen_any w1 _ _ _).mono ?_
  rintro e w2 ⟨rfl, rfl⟩
  clear m1
  go_wp2_with fail
  refine (up_any w2 q g1 cap1 L.length (L ++ [x]) HQ1.out (by have := HL.out; omega) (by have := HL.out; omega)).mono ?_
  rintro e w3 ⟨rfl, L2, ha, hq2, hk2⟩
  have HH := Lib.hid (And.intro ha (And.intro hq2 hk2))
  clear ha hq2 hk2
  go_wp2_with fail
  go_end0
  obtain ⟨ha, hq2, hk2⟩ := HH.out
  refine ⟨rfl, g1, cap1, L2, hq2, ha.1.trans HL.out, fun e => ?_, HK1.out.then hk2 fun b hb => ?_, HG1.out⟩
  · rw [← ha.2 e, List.mem_append, List.mem_singleton, or_comm]
  · rcases hb with e | e
    · exact Or.inl (Or.inl e)
    · rcases HG1.out with e2 | e2
      · exact Or.inl (Or.inr (e.trans e2))
      · exact Or.inr (by omega)

set_option maxHeartbeats 1000000 in
set_option maxRecDepth 100000 in
/-- heap.Pop. -/
theorem heapPop_any (w : World) (q g cap n : Nat) (L : List Rc) (h : Que w q g cap L) (hn : L.length = n + 1) (hl : L.length ≤ 900) :
    Calls Try.prog 25 #[.iface 52 (.pointer (some ⟨q, 0, none⟩))] w fun e w' => ∃ x L', e = .returned (.iface 57 (.agg #[Rc.v0 x, Rc.v1 x])) ∧ Que w' q g cap L' ∧ L'.length = n ∧ (∀ e, e ∈ L ↔ e = x ∨ e ∈ L') ∧ Keep (InQ q g) w w' := by
  have m0 := meth_len q _ w h.cq
  rw [hn] at m0
  have HQ0 := Lib.hid h
  have HN := Lib.hid hn
  have hn9 : n ≤ 899 := by omega
  clear h hn hl
  go_enter Try.func25, Try.ntmps25
  go_wp2_with fail
  refine (qLen_any w _ _ _).mono ?_
  rintro e w1 ⟨rfl, rfl⟩
  clear m0
  have m1 := meth_swap q _ w1 HQ0.out.cq
  go_wp2_with fail
  refine (qSwap_at w1 g cap 0 n _ _ L HQ0.out.row (by have := HN.out; omega) (by have := HN.out; omega) (by rfl) (by omega)).mono ?_
  rintro e w4 ⟨rfl, hr, hk1⟩
  have HQ1 := Lib.hid (HQ0.out.swap hr hk1)
  have HA1 := Lib.hid (exch_alike L 0 n (by have := HN.out; omega) (by have := HN.out; omega))
  have HK1 := Lib.hid (hk1.mono (S' := InQ q g) fun b hb => Or.inr hb)
  clear hr hk1 m1
  generalize exch L 0 n = L1 at HQ1 HA1
  go_wp2_with fail
  refine (down_any w4 q g cap n L1 HQ1.out (by have := HA1.out.1; have := HN.out; omega) (by have := HA1.out.1; have := HN.out; omega)).mono ?_
  rintro e w2 ⟨v, rfl, L2, ha, hq2, hk2⟩
  have HA2 := Lib.hid (HA1.out.trans ha)
  obtain ⟨L3, x, h3⟩ : ∃ L3 x, L2 = L3 ++ [x] := by
    have h0 : L2 ≠ [] := by
      intro e
      have e1 := HA2.out.1
      have e2 := HN.out
      rw [e, List.length_nil] at e1
      omega
    exact ⟨_, _, (List.dropLast_concat_getLast h0).symm⟩
  subst h3
  have h3l : L3.length = n := by
    have e1 := HA2.out.1
    have e2 := HN.out
    rw [List.length_append, List.length_singleton] at e1
    omega
  have HQ2 := Lib.hid hq2; have HK2 := Lib.hid (HK1.out.trans hk2)
  have HL3 := Lib.hid h3l
  have m3 := fun w => meth_pop ⟨q, 0, none⟩ w
  clear ha hq2 hk2 h3l
  go_wp2_with fail
  refine (qPop_any w2 q g cap L3 x HQ2.out (by have := HL3.out; omega)).mono ?_
  rintro e w3 ⟨rfl, hq3, hk3⟩
  have HH := Lib.hid (And.intro hq3 hk3)
  clear hq3 hk3
  go_wp2_with fail
  go_ret
  obtain ⟨hq3, hk3⟩ := HH.out
  refine ⟨x, L3, rfl, hq3, HL3.out, fun e => ?_, HK2.out.trans hk3⟩
  rw [HA2.out.2 e, List.mem_append, List.mem_singleton, or_comm]
end Go.Proofs.Ytomfkmclgabcpaa
