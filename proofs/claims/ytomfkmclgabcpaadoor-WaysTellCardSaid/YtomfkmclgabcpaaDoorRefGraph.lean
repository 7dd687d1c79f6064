/-
  The document's GraphFault at every number of nodes and every list of links; what lay in memory stays.
-/
import Derived.Test.YtomfkmclgabcpaaDoorRefCost
import Derived.Test.YtomfkmclgabcpaaDoorDrewN
import Derived.Deep.QuietTactic
import Derived.BigQuiet
namespace Go.Proofs.YtomfkmclgabcpaaDoor
open Go.RowKit Go.Lib

/-- How the tests of a link's numbers come out. -/
theorem far_cases (n a b c : Int) :
    (linkBad n (a, b, c) = 1 ∧ a < 0) ∨ (linkBad n (a, b, c) = 1 ∧ ¬ a < 0 ∧ n ≤ a) ∨ (linkBad n (a, b, c) = 1 ∧ ¬ a < 0 ∧ ¬ n ≤ a ∧ b < 0) ∨ (linkBad n (a, b, c) = 1 ∧ ¬ a < 0 ∧ ¬ n ≤ a ∧ ¬ b < 0 ∧ n ≤ b) ∨
    (linkBad n (a, b, c) = 1 ∧ ¬ a < 0 ∧ ¬ n ≤ a ∧ ¬ b < 0 ∧ ¬ n ≤ b ∧ c < 1) ∨ (linkBad n (a, b, c) = 1 ∧ ¬ a < 0 ∧ ¬ n ≤ a ∧ ¬ b < 0 ∧ ¬ n ≤ b ∧ ¬ c < 1 ∧ 15 < c) ∨
    (linkBad n (a, b, c) = 3 ∧ ¬ a < 0 ∧ ¬ n ≤ a ∧ ¬ b < 0 ∧ ¬ n ≤ b ∧ ¬ c < 1 ∧ ¬ 15 < c ∧ a = b) ∨ (linkBad n (a, b, c) = 0 ∧ ¬ a < 0 ∧ ¬ n ≤ a ∧ ¬ b < 0 ∧ ¬ n ≤ b ∧ ¬ c < 1 ∧ ¬ 15 < c ∧ (a == b) = false) := by
  have e1 : (a < 0 ∨ n ≤ a ∨ b < 0 ∨ n ≤ b ∨ c < 1 ∨ 15 < c) → linkBad n (a, b, c) = 1 := fun h => if_pos h
  have e2 : ¬ (a < 0 ∨ n ≤ a ∨ b < 0 ∨ n ≤ b ∨ c < 1 ∨ 15 < c) → linkBad n (a, b, c) = if a = b then 3 else 0 := fun h => if_neg h
  by_cases q1 : a < 0
  · exact Or.inl ⟨e1 (by omega), q1⟩
  · right
    by_cases q2 : n ≤ a
    · exact Or.inl ⟨e1 (by omega), q1, q2⟩
    · right
      by_cases q3 : b < 0
      · exact Or.inl ⟨e1 (by omega), q1, q2, q3⟩
      · right
        by_cases q4 : n ≤ b
        · exact Or.inl ⟨e1 (by omega), q1, q2, q3, q4⟩
        · right
          by_cases q5 : c < 1
          · exact Or.inl ⟨e1 (by omega), q1, q2, q3, q4, q5⟩
          · right
            by_cases q6 : 15 < c
            · exact Or.inl ⟨e1 (by omega), q1, q2, q3, q4, q5, q6⟩
            · right
              by_cases q7 : a = b
              · exact Or.inl ⟨(e2 (by omega)).trans (if_pos q7), q1, q2, q3, q4, q5, q6, q7⟩
              · exact Or.inr ⟨(e2 (by omega)).trans (if_neg q7), q1, q2, q3, q4, q5, q6, by simpa using q7⟩

set_option maxHeartbeats 4000000 in
set_option maxRecDepth 100000 in
theorem graphFault_some (w : World) (n : Int) (b0 off c : Nat) (l : List Lk) (h1 : ¬ n < 1) (h8 : ¬ 8 < n) (hn : l.length < 4611686018427387904) (hb : b0 < w.heap.size) (hs : SeenK w b0 off l) :
    Calls Tryd.prog 6 #[.int .i64 n, .slice (some ⟨b0, off, none⟩) l.length c] w fun e w' => e = .returned (.int .i64 (badFrom n [] l)) ∧ Below w.heap.size w w' := by
  have HS := Lib.hid hs; clear hs
  go_enter Tryd.func6, Tryd.ntmps6
  go_wp2_with fail
  go_loopw [5] (fun v wr => ∃ (k : Nat), v = .int .i64 k ∧ k ≤ l.length ∧ Hid (Below w.heap.size w wr) ∧ Hid (badFrom n (l.take k) (l.drop k) = badFrom n [] l)) (fun v _ => l.length - (RowKit.intOf v).toNat)
  case atStart => exact ⟨0, rfl, Nat.zero_le _, Lib.hid (Below.refl _ _), Lib.hid rfl⟩
  case round =>
    obtain ⟨k, rfl, hk, hB, HE⟩ := hrel
    by_cases hkn : k < l.length
    · have S := HS.out.below hB.out hb
      have s0 : wr.cell? ⟨b0, off + k * 3, none⟩ = some (.int .i64 l[k]!.1) := S.c0 k hkn
      have s1 : wr.cell? ⟨b0, off + k * 3 + 1, none⟩ = some (.int .i64 l[k]!.2.1) := S.c1 k hkn
      have s2 : wr.cell? ⟨b0, off + k * 3 + 2, none⟩ = some (.int .i64 l[k]!.2.2) := S.c2 k hkn
      have hd := Lib.hid (show l.drop k = l[k]! :: l.drop (k + 1) by rw [getElem!_pos l k hkn]; exact List.drop_eq_getElem_cons hkn)
      have ht := Lib.hid (show l.take (k + 1) = l.take k ++ [l[k]!] by rw [getElem!_pos l k hkn]; exact List.take_succ_eq_append_getElem hkn)
      clear S
      generalize l[k]! = x at s0 s1 s2 hd ht
      obtain ⟨x0, x1, x2⟩ := x
      simp only at s0 s1 s2
      have hE : badFrom n [] l = if linkBad n (x0, x1, x2) ≠ 0 then linkBad n (x0, x1, x2) else if (l.take k).any (bond x0 x1) then 5 else badFrom n (l.take k ++ [(x0, x1, x2)]) (l.drop (k + 1)) := by
        rw [← HE.out, hd.out]; rfl
      have HBA := Lib.hid (hB.out.alloc hB.out.size (.cells #[.int .i64 x0, .int .i64 x1, .int .i64 x2] 48))
      rcases far_cases n x0 x1 x2 with ⟨e, q1⟩ | ⟨e, q1, q2⟩ | ⟨e, q1, q2, q3⟩ | ⟨e, q1, q2, q3, q4⟩ | ⟨e, q1, q2, q3, q4, q5⟩ | ⟨e, q1, q2, q3, q4, q5, q6⟩ | ⟨e, q1, q2, q3, q4, q5, q6, q7⟩ | ⟨e, q1, q2, q3, q4, q5, q6, q7⟩
      case inr.inr.inr.inr.inr.inr.inr =>
        rw [e, if_neg (by simp)] at hE
        have HE2 := Lib.hid hE
        clear hE e
        go_wp2_with fail
        clear q1 q2 q3 q4 q5 q6 q7 s0 s1 s2
        have X := Box3.new wr (.int .i64 x0) (.int .i64 x1) (.int .i64 x2) 48
        have HSA := Lib.hid (HS.out.below HBA.out hb)
        have hba := Nat.lt_of_lt_of_le hb HBA.out.size
        generalize wr.alloc (.cells #[.int .i64 x0, .int .i64 x1, .int .i64 x2] 48) = wa at X HBA HSA hba ⊢
        generalize wr.heap.size = hh at X ⊢
        have HX := Lib.hid X; clear X
        go_loopw [7] (fun v wq => ∃ (j : Nat), v = .int .i64 j ∧ j ≤ k ∧ Hid (Below wa.heap.size wa wq) ∧ Hid (∀ t, t < j → bond x0 x1 l[t]! = false)) (fun v _ => k - (RowKit.intOf v).toNat)
        case atStart => exact ⟨0, rfl, Nat.zero_le _, Lib.hid (Below.refl _ _), Lib.hid (fun t ht => by omega)⟩
        case round =>
          obtain ⟨j, rfl, hj, hB2, HN⟩ := hrel
          by_cases hjk : j < k
          · have hjl : j < l.length := by omega
            have S := HSA.out.below hB2.out hba
            obtain ⟨_, c0, c1, _⟩ := HX.out.below hB2.out HX.out.lt
            have s0 : wr.cell? ⟨b0, off + j * 3, none⟩ = some (.int .i64 l[j]!.1) := S.c0 j hjl
            have s1 : wr.cell? ⟨b0, off + j * 3 + 1, none⟩ = some (.int .i64 l[j]!.2.1) := S.c1 j hjl
            have hmem : l[j]! ∈ l.take k := by
              rw [getElem!_pos l j hjl]
              exact List.mem_take_iff_getElem.2 ⟨j, by omega, rfl⟩
            have HM : Hid (bond x0 x1 l[j]! = true → (l.take k).any (bond x0 x1) = true) := Lib.hid fun h => List.any_eq_true.2 ⟨_, hmem, h⟩
            have HN2 : Hid (bond x0 x1 l[j]! = false → ∀ t, t < j + 1 → bond x0 x1 l[t]! = false) := Lib.hid fun h t ht => by
              by_cases e : t = j
              · rw [e]; exact h
              · exact HN.out t (by omega)
            have i1 : (j : Int) < (l.length : Int) := by omega
            clear S hmem
            generalize l[j]! = y at s0 s1 HM HN2
            obtain ⟨y0, y1, y2⟩ := y
            simp only at s0 s1
            rcases tie_cases x0 x1 (y0, y1, y2) with ⟨hx, e1, e2⟩ | ⟨hx, e1, e3, e4⟩ | ⟨hx, e1, e2, e3, e4⟩ | ⟨hx, e1, e2, e3⟩ | ⟨hx, e1, e3, e4⟩ | ⟨hx, e1, e3⟩
            · simp only [beq_iff_eq] at e1 e2
              subst e1 e2
              have E := Lib.hid (HE2.out.trans (if_pos (HM.out hx)))
              clear hx HM HN2
              go_wp2_with fail
              go_quiet (fail)
              go_wp2_with fail
              go_ret
              exact ⟨by rw [E.out]; rfl, bel_drewN (HBA.out.trans (hB2.out.mono HBA.out.size)) nq⟩
            · simp only [beq_iff_eq] at e3 e4
              simp only at e1
              subst e3 e4
              have E := Lib.hid (HE2.out.trans (if_pos (HM.out hx)))
              clear hx HM HN2
              go_wp2_with fail
              go_quiet (fail)
              go_wp2_with fail
              go_ret
              exact ⟨by rw [E.out]; rfl, bel_drewN (HBA.out.trans (hB2.out.mono HBA.out.size)) nq⟩
            · simp only [beq_iff_eq] at e1 e3
              simp only at e2 e4
              subst e1
              subst e3
              have E := Lib.hid (HN2.out hx)
              clear hx HM HN2
              go_wp2_with fail
              go_quiet (fail)
              go_wp2_with fail
              go_roundw
              case rel => exact ⟨j + 1, by go_num, by omega, Lib.hid (bel_drewN hB2.out nq), E⟩
              case measure => simp [RowKit.intOf]; omega
            · simp only [beq_iff_eq] at e1
              simp only at e2 e3
              subst e1
              have E := Lib.hid (HN2.out hx)
              clear hx HM HN2
              go_wp2_with fail
              go_quiet (fail)
              go_wp2_with fail
              go_roundw
              case rel => exact ⟨j + 1, by go_num, by omega, Lib.hid (bel_drewN hB2.out nq), E⟩
              case measure => simp [RowKit.intOf]; omega
            · simp only [beq_iff_eq] at e3
              simp only at e1 e4
              subst e3
              have E := Lib.hid (HN2.out hx)
              clear hx HM HN2
              go_wp2_with fail
              go_quiet (fail)
              go_wp2_with fail
              go_roundw
              case rel => exact ⟨j + 1, by go_num, by omega, Lib.hid (bel_drewN hB2.out nq), E⟩
              case measure => simp [RowKit.intOf]; omega
            · simp only at e1 e3
              have E := Lib.hid (HN2.out hx)
              clear hx HM HN2
              go_wp2_with fail
              go_quiet (fail)
              go_wp2_with fail
              go_roundw
              case rel => exact ⟨j + 1, by go_num, by omega, Lib.hid (bel_drewN hB2.out nq), E⟩
              case measure => simp [RowKit.intOf]; omega
          · have hA : (l.take k).any (bond x0 x1) = false := by
              rw [List.any_eq_false]
              intro y hy
              obtain ⟨t, ht, e⟩ := List.mem_take_iff_getElem.1 hy
              have := HN.out t (by omega)
              rw [getElem!_pos l t (by omega), e] at this
              rw [this]; simp
            have E := Lib.hid (HE2.out.trans (if_neg (by rw [hA]; simp)))
            clear hA
            go_wp2_with fail
            go_roundw
            case rel => exact ⟨k + 1, by go_num, by omega, Lib.hid (HBA.out.trans (hB2.out.mono HBA.out.size)), Lib.hid (by rw [ht.out, E.out])⟩
            case measure => simp [RowKit.intOf]; omega
      case inr.inr.inr.inr.inr.inr.inl =>
        rw [e, if_pos (by omega)] at hE
        have HE2 := Lib.hid hE
        subst q7
        clear hE e
        go_wp2_with fail
        go_ret
        exact ⟨by rw [HE2.out]; rfl, HBA.out⟩
      all_goals
        rw [e, if_pos (by omega)] at hE
        have HE2 := Lib.hid hE
        clear hE e
        go_wp2_with fail
        go_ret
        exact ⟨by rw [HE2.out]; rfl, HBA.out⟩
    · have e0 : badFrom n [] l = 0 := by rw [← HE.out, List.drop_eq_nil_of_le (by omega)]; rfl
      go_wp2_with fail
      go_ret
      exact ⟨by rw [e0]; rfl, hB.out⟩
set_option maxHeartbeats 400000 in
set_option maxRecDepth 100000 in
theorem graphFault_none (w : World) (n : Int) (p : Option Addr) (c : Nat) (h1 : ¬ n < 1) (h8 : ¬ 8 < n) :
    Calls Tryd.prog 6 #[.int .i64 n, .slice p 0 c] w fun e w' => e = .returned (.int .i64 0) ∧ Below w.heap.size w w' := by
  go_enter Tryd.func6, Tryd.ntmps6
  go_wp2_with fail
  refine wp_loop_rounds 1 ?_
  rw [rounds_succ]
  go_wp2_with fail
  go_ret
  exact ⟨rfl, Below.refl _ _⟩
set_option maxHeartbeats 400000 in
set_option maxRecDepth 100000 in
theorem graphFault_far (w : World) (n : Int) (v : Value) (h : n < 1 ∨ 8 < n) :
    Calls Tryd.prog 6 #[.int .i64 n, v] w fun e w' => e = .returned (.int .i64 1) ∧ Below w.heap.size w w' := by
  by_cases h1 : n < 1
  · clear h
    go_enter Tryd.func6, Tryd.ntmps6
    go_wp2_with fail
    go_ret
    exact ⟨rfl, Below.refl _ _⟩
  · have h2 : 8 < n := by omega
    clear h
    go_enter Tryd.func6, Tryd.ntmps6
    go_wp2_with fail
    go_ret
    exact ⟨rfl, Below.refl _ _⟩
/-- waywardenref1.GraphFault. -/
theorem graphFault_any (w : World) (n : Int) (v : Value) (l : List Lk) (hn : l.length < 4611686018427387904) (h : ArgK w v l) :
    Calls Tryd.prog 6 #[.int .i64 n, v] w fun e w' => e = .returned (.int .i64 (gBad n l)) ∧ Below w.heap.size w w' := by
  unfold gBad
  by_cases hf : n < 1 ∨ 8 < n
  · rw [if_pos hf]; exact graphFault_far w n v hf
  · rw [if_neg hf]
    obtain ⟨p, c, rfl, h⟩ := h
    rcases h with rfl | ⟨b, off, rfl, hb, hs⟩
    · exact graphFault_none w n p c (by omega) (by omega)
    · exact graphFault_some w n b off c l (by omega) (by omega) hn hb hs
end Go.Proofs.YtomfkmclgabcpaaDoor
