/-
  container/heap's Push, Remove and Fix on the heap in memory: one thing more, one less, one whose key has changed; behind each the heap's order stands.
-/
import Derived.Test.YtmfajaalbklfeaaDoorHeapSift
namespace Go.Proofs.YtmfajaalbklfeaaDoor
open Go.RowKit Go.Lib HeapP

/-- What a second step may turn a first one may, or has laid. -/
theorem inH_then {w w1 w2 : World} {q p k : Nat} {tv tv1 : Value} (h : Keep (InH q tv p k) w w1) (h2 : Keep (InH q tv1 p k) w1 w2) (ho : tv1.ownBlock = tv.ownBlock ∨ ∃ b, tv1.ownBlock = some b ∧ w.heap.size ≤ b) : Keep (InH q tv p k) w w2 := by
  refine h.then h2 fun b hb => ?_
  rcases hb with e | e | e | e
  · exact Or.inl (Or.inl e)
  · exact Or.inl (Or.inr (Or.inl e))
  · exact Or.inl (Or.inr (Or.inr (Or.inl e)))
  · rcases ho with o | ⟨c, o, hc⟩
    · exact Or.inl (Or.inr (Or.inr (Or.inr (by rw [← o]; exact e))))
    · rw [o] at e
      have := Option.some.inj e
      exact Or.inr (by omega)

set_option maxHeartbeats 1000000 in
set_option maxRecDepth 100000 in
/-- heap.Push. -/
theorem heapPush_any (w : World) (q : Nat) (tv : Value) (p k n : Nat) (ky : Nat → Int) (L : List Nat) (x : Nat) (h : Hp w q tv p k n ky L) (ho : Ord ky L L.length) (hx : x < n) (hn : x ∉ L) :
    Calls Tryd.prog 18 #[.iface 47 (.pointer (some ⟨q, 0, none⟩)), .iface 3 (.int .i64 (x : Int))] w fun e w' => e = .returned (.tuple #[]) ∧ ∃ tv' L', Hp w' q tv' p k n ky L' ∧ (∀ a, a ∈ L' ↔ a = x ∨ a ∈ L) ∧ Ord ky L' L'.length ∧ Keep (InH q tv p k) w w' ∧ (tv'.ownBlock = tv.ownBlock ∨ ∃ b, tv'.ownBlock = some b ∧ w.heap.size ≤ b) := by
  have HQ0 := Lib.hid h
  have HO := Lib.hid ho
  have m0 := fun w => meth_push ⟨q, 0, none⟩ w
  have hl5 : L.length ≤ 5000 := by have := h.len; have := h.mx; omega
  clear h ho
  go_enter Tryd.func18, Tryd.ntmps18
  go_wp2_with fail
  refine (tPush_any w q tv p k n ky L x HQ0.out hx hn).mono ?_
  rintro e w1 ⟨tv1, rfl, hq1, hk1, hg1⟩
  have hlen : (L ++ [x]).length = L.length + 1 := by simp
  have m1 := meth_len ⟨q, 0, none⟩ w1
  have HL := Lib.hid (tLen_any w1 q tv1 p k n ky _ hq1)
  have HU := Lib.hid (up_any w1 q tv1 p k n ky (L ++ [x]) (L.length + 1) L.length hq1 (by omega) (by omega) (HO.out.push rfl x).1 (HO.out.push rfl x).2)
  have HK1 := Lib.hid hk1; have HG1 := Lib.hid hg1; have HN := Lib.hid hlen
  rw [hlen] at HL
  clear hq1 hk1 hg1 hlen m0
  go_wp2_with fail
  refine HL.out.mono ?_
  rintro e w2 ⟨rfl, rfl⟩
  clear m1
  go_wp2_with fail
  refine HU.out.mono ?_
  rintro e w3 ⟨rfl, L2, ha, hor, hq2, hk2⟩
  have HH := Lib.hid (And.intro ha (And.intro hor (And.intro hq2 hk2)))
  clear ha hor hq2 hk2
  go_wp2_with fail
  go_end0
  obtain ⟨ha, hor, hq2, hk2⟩ := HH.out
  refine ⟨rfl, tv1, L2, hq2, fun a => ?_, by rw [ha.len, HN.out]; exact hor, inH_then HK1.out hk2 HG1.out, HG1.out⟩
  rw [← ha.mem a, List.mem_append, List.mem_singleton, or_comm]

set_option maxHeartbeats 1000000 in
set_option maxRecDepth 100000 in
/-- heap.Fix. -/
theorem heapFix_any (w : World) (q : Nat) (tv : Value) (p k n : Nat) (ky : Nat → Int) (L : List Nat) (i : Nat) (h : Hp w q tv p k n ky L) (hi : i < L.length) (hx : Hx ky L L.length i) :
    Calls Tryd.prog 17 #[.iface 47 (.pointer (some ⟨q, 0, none⟩)), .int .i64 i] w fun e w' => e = .returned (.tuple #[]) ∧ ∃ L', Hp w' q tv p k n ky L' ∧ (∀ a, a ∈ L' ↔ a ∈ L) ∧ Ord ky L' L'.length ∧ Keep (InH q tv p k) w w' := by
  have HQ0 := Lib.hid h
  have HX := Lib.hid hx
  have m0 := fun w => meth_len ⟨q, 0, none⟩ w
  have HL := Lib.hid (tLen_any w q tv p k n ky _ h)
  have hl5 : L.length ≤ 5000 := by have := h.len; have := h.mx; omega
  clear h hx
  go_enter Tryd.func17, Tryd.ntmps17
  go_wp2_with fail
  refine HL.out.mono ?_
  rintro e w2 ⟨rfl, rfl⟩
  clear m0
  go_wp2_with fail
  refine (down_any w2 q tv p k n ky L L.length i HQ0.out hi (Nat.le_refl _) HX.out).mono ?_
  rintro e w3 ⟨b, rfl, L2, ha, hq2, hk2, hb⟩
  have HH := Lib.hid (And.intro ha (And.intro hq2 (And.intro hk2 hb)))
  clear ha hq2 hk2 hb
  cases b with
  | true =>
    have HF : Hid (Hp w3 q tv p k n ky L2 ∧ (∀ a, a ∈ L2 ↔ a ∈ L) ∧ Ord ky L2 L2.length ∧ Keep (InH q tv p k) w2 w3) := Lib.hid (by
      obtain ⟨ha, hq2, hk2, _, hb⟩ := HH.out
      exact ⟨hq2, fun a => (ha.mem a).symm, by rw [ha.len]; exact hb rfl, hk2⟩)
    clear HH
    go_wp2_with fail
    go_end0
    exact ⟨rfl, L2, HF.out⟩
  | false =>
    obtain ⟨ha, hq2, hk2, hb, _⟩ := HH.out
    obtain ⟨hl, hk⟩ := hb rfl
    subst hl
    have HU := Lib.hid (up_any w3 q tv p k n ky L2 L2.length i hq2 hi (Nat.le_refl _) HX.out hk)
    have HK := Lib.hid hk2
    clear ha hq2 hk2 hb hk HH
    go_wp2_with fail
    refine HU.out.mono ?_
    rintro e w4 ⟨rfl, L3, ha, hor, hq4, hk4⟩
    have HH := Lib.hid (And.intro ha (And.intro hor (And.intro hq4 hk4)))
    clear ha hor hq4 hk4
    go_wp2_with fail
    go_end0
    obtain ⟨ha, hor, hq4, hk4⟩ := HH.out
    exact ⟨rfl, L3, hq4, fun a => (ha.mem a).symm, by rw [ha.len]; exact hor, HK.out.trans hk4⟩

/-- The last place of a list. -/
theorem last_of {L : List Nat} {n : Nat} (h : L.length = n + 1) : ∃ L', L = L' ++ [L[n]!] ∧ L'.length = n := by
  have h0 : L ≠ [] := by intro e; rw [e] at h; simp at h
  refine ⟨L.dropLast, ?_, by simp [h]⟩
  have e := List.dropLast_concat_getLast h0
  have e2 : L.getLast h0 = L[n]! := by
    rw [List.getLast_eq_getElem, getElem!_pos L n (by omega)]
    congr 1
    omega
  rw [← e2]
  exact e.symm

set_option maxHeartbeats 2000000 in
set_option maxRecDepth 100000 in
/-- heap.Remove's end: the last one taken. -/
theorem heapRemove_any (w : World) (q : Nat) (tv : Value) (p k n : Nat) (ky : Nat → Int) (L : List Nat) (i m : Nat) (h : Hp w q tv p k n ky L) (ho : Ord ky L L.length) (hi : i < L.length) (hm : L.length = m + 1) (x : Nat) (hx : L[i]! = x) :
    Calls Tryd.prog 15 #[.iface 47 (.pointer (some ⟨q, 0, none⟩)), .int .i64 i] w fun e w' => e = .returned (.iface 3 (.int .i64 (x : Int))) ∧ ∃ tv' L', Hp w' q tv' p k n ky L' ∧ (∀ a, a ∈ L' ↔ a ∈ L ∧ a ≠ x) ∧ Ord ky L' L'.length ∧ Keep (InH q tv p k) w w' ∧ tv'.ownBlock = tv.ownBlock := by
  have HQ0 := Lib.hid h
  have HXi := Lib.hid hx
  have HO := Lib.hid ho
  have HM := Lib.hid hm
  have m0 := fun w => meth_len ⟨q, 0, none⟩ w
  have HL := Lib.hid (tLen_any w q tv p k n ky _ h)
  rw [hm] at HL
  have him : i ≤ m := by omega
  have hm5 : m ≤ 5000 := by have := h.len; have := h.mx; omega
  -- the end, behind whatever has been turned
  have END : ∀ (w4 : World) (L2 : List Nat), Hp w4 q tv p k n ky L2 → L2.length = m + 1 → (∀ a, a ∈ L ↔ a ∈ L2) → L2[m]! = x → Ord ky L2 m → Keep (InH q tv p k) w w4 →
      Calls Tryd.prog 53 #[.pointer (some ⟨q, 0, none⟩)] w4 fun e w' => e = .returned (.iface 3 (.int .i64 (x : Int))) ∧ ∃ tv' L', Hp w' q tv' p k n ky L' ∧ (∀ a, a ∈ L' ↔ a ∈ L ∧ a ≠ x) ∧ Ord ky L' L'.length ∧ Keep (InH q tv p k) w w' ∧ tv'.ownBlock = tv.ownBlock := by
    intro w4 L2 h2 hl hmem hlast hord hkeep
    obtain ⟨L3, e3, hl3⟩ := last_of hl
    rw [hlast] at e3
    subst e3
    refine (tPop_any w4 q tv p k n ky L3 x h2).mono ?_
    rintro e w' ⟨tv', rfl, h5, hk5, ho5⟩
    refine ⟨rfl, tv', L3, h5, fun a => ?_, ?_, hkeep.trans hk5, ho5⟩
    · have hnot : x ∉ L3 := by obtain ⟨f, _, hp⟩ := h2.pl; exact hp.last
      rw [hmem a, List.mem_append, List.mem_singleton]
      constructor
      · intro c
        exact ⟨Or.inl c, fun e => hnot (by rw [← e]; exact c)⟩
      · rintro ⟨c | c, d⟩
        · exact c
        · exact absurd c d
    · rw [hl3]
      intro j j0 hj
      have := hord j j0 hj
      rw [app_at _ _ _ (by omega), app_at _ _ _ (by omega)] at this
      exact this
  have HE := Lib.hid END
  clear END h ho hm hx
  go_enter Tryd.func15, Tryd.ntmps15
  go_wp2_with fail
  refine HL.out.mono ?_
  rintro e w1 ⟨rfl, rfl⟩
  clear m0
  have m3 := fun w => meth_pop ⟨q, 0, none⟩ w
  by_cases e1 : i = m
  · have t : ((m : Int) != (i : Int)) = false := by simp [e1]
    have HP := Lib.hid (HE.out w1 L HQ0.out HM.out (fun _ => Iff.rfl) (by rw [← e1]; exact HXi.out) (HO.out.less (by rw [HM.out]; omega)) (Keep.refl _ _))
    clear e1
    go_wp2_with fail
    refine HP.out.mono ?_
    rintro e w3 ⟨rfl, hh⟩
    have HH := Lib.hid hh
    clear hh
    go_wp2_with fail
    go_ret
    exact ⟨rfl, HH.out⟩
  · have t : ((m : Int) != (i : Int)) = true := by
      have : ¬ (m : Int) = (i : Int) := by omega
      simpa using this
    have him2 : i < m := by omega
    clear e1
    have m1 := meth_swap ⟨q, 0, none⟩ w1
    have HS := Lib.hid (tSwap_any w1 q tv p k n ky L HQ0.out i m i m (by have := HM.out; omega) (by have := HM.out; omega) (by omega) rfl rfl)
    go_wp2_with fail
    refine HS.out.mono ?_
    rintro e w2 ⟨rfl, hq2, hk2⟩
    have hx2 : Hx ky (exch L i m) m i := Ord.take (by rw [← HM.out]; exact HO.out) HM.out him2
    have HD := Lib.hid (down_any w2 q tv p k n ky (exch L i m) m i hq2 him2 (by rw [exch_len, HM.out]; omega) hx2)
    have HX2 := Lib.hid hx2
    have HA2 : Hid (Same (m + 1) L (exch L i m)) := Lib.hid (Same.exch (c := m + 1) L i m (by have := HM.out; omega) (by have := HM.out; omega) (by omega) (by omega))
    have HLast : Hid ((exch L i m)[m]! = x) := Lib.hid ((exch_j L i m (by have := HM.out; omega)).trans HXi.out)
    have HK2 := Lib.hid hk2
    have HL2 : Hid ((exch L i m).length = m + 1) := Lib.hid ((exch_len L i m).trans HM.out)
    generalize exch L i m = L1 at HD HX2 HA2 HLast HL2
    clear hq2 hk2 hx2 HS m1
    go_wp2_with fail
    refine HD.out.mono ?_
    rintro e w3 ⟨b, rfl, L2, ha, hq3, hk3, hb⟩
    have HQ3 := Lib.hid hq3
    have HK3 := Lib.hid (HK2.out.trans hk3)
    have HA3 := Lib.hid ha
    have HB := Lib.hid hb
    clear ha hq3 hk3 hb
    cases b with
    | true =>
      have HP := Lib.hid (HE.out w3 L2 HQ3.out (HA3.out.len.trans HL2.out) (fun a => (HA2.out.mem a).trans (HA3.out.mem a)) ((HA3.out.tail m (Nat.le_refl _) (by rw [HL2.out]; omega)).trans HLast.out) (HB.out.2 rfl) HK3.out)
      go_wp2_with fail
      refine HP.out.mono ?_
      rintro e w5 ⟨rfl, hh⟩
      have HH := Lib.hid hh
      clear hh
      go_wp2_with fail
      go_ret
      exact ⟨rfl, HH.out⟩
    | false =>
      obtain ⟨hl, hk⟩ := HB.out.1 rfl
      have HX3 : Hid (Hx ky L2 m i ∧ Heirs ky L2 m i) := Lib.hid (by rw [hl]; exact ⟨HX2.out, hk⟩)
      clear hl hk HB
      have HU := Lib.hid (up_any w3 q tv p k n ky L2 m i HQ3.out him2 (by rw [HA3.out.len, HL2.out]; omega) HX3.out.1 HX3.out.2)
      go_wp2_with fail
      refine HU.out.mono ?_
      rintro e w4 ⟨rfl, L4, ha, hor, hq4, hk4⟩
      have HP := Lib.hid (HE.out w4 L4 hq4 (ha.len.trans (HA3.out.len.trans HL2.out)) (fun a => (HA2.out.mem a).trans ((HA3.out.mem a).trans (ha.mem a))) ((ha.tail m (Nat.le_refl _) (by rw [HA3.out.len, HL2.out]; omega)).trans ((HA3.out.tail m (Nat.le_refl _) (by rw [HL2.out]; omega)).trans HLast.out)) hor (HK3.out.trans hk4))
      clear ha hor hq4 hk4
      go_wp2_with fail
      refine HP.out.mono ?_
      rintro e w5 ⟨rfl, hh⟩
      have HH := Lib.hid hh
      clear hh
      go_wp2_with fail
      go_ret
      exact ⟨rfl, HH.out⟩
end Go.Proofs.YtmfajaalbklfeaaDoor
