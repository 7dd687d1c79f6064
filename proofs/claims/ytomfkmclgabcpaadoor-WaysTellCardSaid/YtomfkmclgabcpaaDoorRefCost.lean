/-
  The document's CostOf at every list of links and every two numbers: nothing in memory turns.
-/
import Derived.Test.YtomfkmclgabcpaaDoorLinkList
import Derived.LoopN
namespace Go.Proofs.YtomfkmclgabcpaaDoor
open Go.RowKit

/-- How the tests of a link's ends come out. -/
theorem tie_cases (a b : Int) (x : Lk) :
    (bond a b x = true ∧ (x.1 == a) = true ∧ (x.2.1 == b) = true) ∨ (bond a b x = true ∧ (x.1 == a) = false ∧ (x.1 == b) = true ∧ (x.2.1 == a) = true) ∨
    (bond a b x = false ∧ (x.1 == a) = true ∧ (x.2.1 == b) = false ∧ (x.1 == b) = true ∧ (x.2.1 == a) = false) ∨ (bond a b x = false ∧ (x.1 == a) = true ∧ (x.2.1 == b) = false ∧ (x.1 == b) = false) ∨
    (bond a b x = false ∧ (x.1 == a) = false ∧ (x.1 == b) = true ∧ (x.2.1 == a) = false) ∨ (bond a b x = false ∧ (x.1 == a) = false ∧ (x.1 == b) = false) := by
  simp only [tie_iff, tie_not, beq_iff_eq, beq_eq_false_iff_ne]
  omega
theorem costG_at (l : List Lk) (a b : Int) (h : a ≠ b) : costG l a b = match l.find? (bond a b) with | some x => x.2.2 | none => 16 := if_neg h

set_option maxHeartbeats 1000000 in
set_option maxRecDepth 100000 in
theorem costOf_some (w : World) (b0 off c : Nat) (l : List Lk) (a b : Int) (hab : a ≠ b) (hn : l.length < 4611686018427387904) (hs : SeenK w b0 off l) :
    Calls Tryd.prog 19 #[.slice (some ⟨b0, off, none⟩) l.length c, .int .i64 a, .int .i64 b] w fun e w' => e = .returned (.int .i64 (costG l a b)) ∧ w = w' := by
  have HS := Lib.hid hs; clear hs
  have HG := Lib.hid (costG_at l a b hab)
  have t0 : (a == b) = false := by simpa using hab
  clear hab
  generalize costG l a b = z at HG ⊢
  go_enter Tryd.func19, Tryd.ntmps19
  go_wp2_with fail
  clear t0
  go_loopw [7] (fun v wr => ∃ (k : Nat), v = .int .i64 k ∧ k ≤ l.length ∧ Hid (w = wr) ∧ Hid ((l.drop k).find? (bond a b) = l.find? (bond a b))) (fun v _ => l.length - (intOf v).toNat)
  case atStart => exact ⟨0, rfl, Nat.zero_le _, Lib.hid rfl, Lib.hid rfl⟩
  case round =>
    obtain ⟨k, rfl, hk, hW, HE⟩ := hrel
    obtain rfl := hW.out
    clear hW
    by_cases hkn : k < l.length
    · have s0 : w.cell? ⟨b0, off + k * 3, none⟩ = some (.int .i64 l[k]!.1) := HS.out.c0 k hkn
      have s1 : w.cell? ⟨b0, off + k * 3 + 1, none⟩ = some (.int .i64 l[k]!.2.1) := HS.out.c1 k hkn
      have s2 : w.cell? ⟨b0, off + k * 3 + 2, none⟩ = some (.int .i64 l[k]!.2.2) := HS.out.c2 k hkn
      have hd := Lib.hid (show l.drop k = l[k]! :: l.drop (k + 1) by rw [getElem!_pos l k hkn]; exact List.drop_eq_getElem_cons hkn)
      generalize l[k]! = x at s0 s1 s2 hd
      have HF : Hid ((x :: l.drop (k + 1)).find? (bond a b) = l.find? (bond a b)) := Lib.hid (by rw [← HE.out, hd.out])
      rcases tie_cases a b x with ⟨ht, e1, e2⟩ | ⟨ht, e1, e3, e4⟩ | ⟨ht, e1, e2, e3, e4⟩ | ⟨ht, e1, e2, e3⟩ | ⟨ht, e1, e3, e4⟩ | ⟨ht, e1, e3⟩
      · have E : Hid (z = x.2.2) := Lib.hid (by rw [HG.out, ← HF.out, List.find?_cons, ht])
        clear ht
        go_wp2_with fail
        go_ret
        exact ⟨by rw [E.out]; rfl, rfl⟩
      · have E : Hid (z = x.2.2) := Lib.hid (by rw [HG.out, ← HF.out, List.find?_cons, ht])
        clear ht
        go_wp2_with fail
        go_ret
        exact ⟨by rw [E.out]; rfl, rfl⟩
      all_goals
        have E : Hid ((l.drop (k + 1)).find? (bond a b) = l.find? (bond a b)) := Lib.hid (by rw [← HF.out, List.find?_cons, ht])
        clear ht
        go_wp2_with fail
        go_roundw
        case rel => exact ⟨k + 1, by go_num, by omega, Lib.hid trivial, E⟩
        case measure => simp [intOf]; omega
    · have E : Hid (z = 16) := Lib.hid (by rw [HG.out, ← HE.out, List.drop_eq_nil_of_le (by omega)]; rfl)
      go_wp2_with fail
      go_ret
      exact ⟨by rw [E.out]; rfl, rfl⟩
set_option maxHeartbeats 400000 in
set_option maxRecDepth 100000 in
theorem costOf_same (w : World) (v : Value) (a : Int) :
    Calls Tryd.prog 19 #[v, .int .i64 a, .int .i64 a] w fun e w' => e = .returned (.int .i64 0) ∧ w = w' := by
  go_enter Tryd.func19, Tryd.ntmps19
  go_wp2_with fail
  go_ret
  exact ⟨rfl, rfl⟩
set_option maxHeartbeats 400000 in
set_option maxRecDepth 100000 in
theorem costOf_none (w : World) (p : Option Addr) (c : Nat) (a b : Int) (hab : a ≠ b) :
    Calls Tryd.prog 19 #[.slice p 0 c, .int .i64 a, .int .i64 b] w fun e w' => e = .returned (.int .i64 16) ∧ w = w' := by
  have t0 : (a == b) = false := by simpa using hab
  clear hab
  go_enter Tryd.func19, Tryd.ntmps19
  go_wp2_with fail
  refine wp_loop_rounds 1 ?_
  rw [rounds_succ]
  go_wp2_with fail
  go_ret
  exact ⟨rfl, rfl⟩
/-- waywardenref1.CostOf. -/
theorem costOf_any (w : World) (v : Value) (l : List Lk) (a b : Int) (hn : l.length < 4611686018427387904) (h : ArgK w v l) :
    Calls Tryd.prog 19 #[v, .int .i64 a, .int .i64 b] w fun e w' => e = .returned (.int .i64 (costG l a b)) ∧ w = w' := by
  by_cases hab : a = b
  · subst hab
    rw [show costG l a a = 0 from if_pos rfl]
    exact costOf_same w v a
  · obtain ⟨p, c, rfl, h⟩ := h
    rcases h with rfl | ⟨b0, off, rfl, _, hs⟩
    · rw [show costG [] a b = 16 from if_neg hab]
      exact costOf_none w p c a b hab
    · exact costOf_some w b0 off c l a b hab hn hs
end Go.Proofs.YtomfkmclgabcpaaDoor
