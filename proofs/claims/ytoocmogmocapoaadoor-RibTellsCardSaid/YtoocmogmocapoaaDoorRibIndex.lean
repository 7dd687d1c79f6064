/-
  The closure of rib.learn and slices.IndexFunc at routes: the first one of this neighbour and this network; what lay in memory stays.
-/
import Derived.Test.YtoocmogmocapoaaDoorRibMem
import Derived.Lib.Hide
import Derived.LoopN
namespace Go.Proofs.YtoocmogmocapoaaDoor
open Go.RowKit Go.Lib RibP

set_option maxHeartbeats 1000000 in
set_option maxRecDepth 100000 in
theorem same1_any (w : World) (nb : Nat) (x e : Rt) (h : LAt w nb 0 x) :
    Calls Tryd.prog 36 #[e.v, .pointer (some ⟨nb, 0, none⟩)] w fun r w' => r = .returned (.bool (sm x e)) ∧ Below w.heap.size w w' := by
  obtain ⟨⟨f, ⟨a, l⟩, m⟩, t⟩ := e
  obtain ⟨⟨f', ⟨a', l'⟩, m'⟩, t'⟩ := x
  have hlt : nb < w.heap.size := World.block_lt_of_cell? _ _ h.rt.1
  have HB := (Below.refl w.heap.size w).alloc (Nat.le_refl _) (.cells #[.int .i64 f, .int .u32 (a : Int), .int .i64 l, .int .i64 m, .int .i64 t] 64)
  obtain ⟨c0, c1, c2, c3, c4⟩ := (h.ofBlock (HB.block nb hlt)).rt
  dsimp only at c0 c1 c2
  simp only [Nat.zero_add] at c0 c1 c2
  have B := Lib.hid HB
  clear h hlt HB c3 c4
  have key : sm ⟨⟨f', (a', l'), m'⟩, t'⟩ ⟨⟨f, (a, l), m⟩, t⟩ = decide (f = f' ∧ a = a' ∧ l = l') := by
    unfold sm
    exact decide_eq_decide.2 ⟨fun ⟨h1, h2⟩ => ⟨h1, congrArg Prod.fst h2, congrArg Prod.snd h2⟩, fun ⟨h1, h2, h3⟩ => ⟨h1, Prod.ext h2 h3⟩⟩
  rw [key]
  clear key
  dsimp only [Rt.v]
  by_cases h1 : f = f'
  · subst h1
    by_cases h2 : a = a'
    · subst h2
      by_cases h3 : l = l'
      · subst h3
        have e : decide (f = f ∧ a = a ∧ l = l) = true := decide_eq_true ⟨rfl, rfl, rfl⟩
        rw [e]
        clear e
        go_enter Tryd.func36, Tryd.ntmps36
        go_wp2_with fail
        go_ret
        exact ⟨rfl, B.out⟩
      · have e : decide (f = f ∧ a = a ∧ l = l') = false := decide_eq_false fun h => h3 h.2.2
        have t : (l == l') = false := by simpa using h3
        rw [e]
        clear e h3
        go_enter Tryd.func36, Tryd.ntmps36
        go_wp2_with fail
        go_ret
        exact ⟨rfl, B.out⟩
    · have e : decide (f = f ∧ a = a' ∧ l = l') = false := decide_eq_false fun h => h2 h.2.1
      have t : ((a : Int) == (a' : Int)) = false := by
        have : ¬ (a : Int) = a' := by omega
        simpa using this
      rw [e]
      clear e h2
      go_enter Tryd.func36, Tryd.ntmps36
      go_wp2_with fail
      go_ret
      exact ⟨rfl, B.out⟩
  · have e : decide (f = f' ∧ a = a' ∧ l = l') = false := decide_eq_false fun h => h1 h.1
    have t : (f == f') = false := by simpa using h1
    rw [e]
    clear e h1
    go_enter Tryd.func36, Tryd.ntmps36
    go_wp2_with fail
    go_ret
    exact ⟨rfl, B.out⟩

namespace RibP
/-- What the search tells. -/
def idx (x : Rt) : List Rt → Nat → Int
  | [], _ => -1
  | e :: r, k => if sm x e = true then (k : Int) else idx x r (k + 1)
theorem idx_cases (x : Rt) : ∀ (L : List Rt) (k : Nat), (L.any (sm x) = false ∧ idx x L k = -1) ∨ ∃ i, i < L.length ∧ idx x L k = ((k + i : Nat) : Int) ∧ sm x L[i]! = true
  | [], _ => Or.inl ⟨rfl, rfl⟩
  | e :: r, k => by
    unfold idx
    cases hs : sm x e with
    | true => exact Or.inr ⟨0, by simp, by simp, by simpa using hs⟩
    | false =>
      rcases idx_cases x r (k + 1) with ⟨h1, h2⟩ | ⟨i, h1, h2, h3⟩
      · exact Or.inl ⟨by rw [List.any_cons, hs, h1]; rfl, by simpa using h2⟩
      · exact Or.inr ⟨i + 1, by simpa using h1, by rw [if_neg (by simp), h2]; congr 1; omega, by simpa using h3⟩
end RibP

set_option maxHeartbeats 1000000 in
set_option maxRecDepth 100000 in
theorem index_some (w : World) (g off cap nb : Nat) (x : Rt) (L : List Rt) (hn : L.length < 4611686018427387904) (hg : g < w.heap.size) (hs : LSeen w g off L) (hx : RBox w nb x) :
    Calls Tryd.prog 35 #[.slice (some ⟨g, off, none⟩) L.length cap, .func (.func 36) #[] #[.pointer (some ⟨nb, 0, none⟩)]] w fun r w' => r = .returned (.int .i64 (idx x L 0)) ∧ Below w.heap.size w w' := by
  have HS := Lib.hid hs; clear hs
  have HP := Lib.hid hx; clear hx
  go_enter Tryd.func35, Tryd.ntmps35
  go_wp2_with fail
  go_loopw [8] (fun v wr => ∃ (k : Nat), v = .int .i64 k ∧ k ≤ L.length ∧ Hid (Below w.heap.size w wr) ∧ Hid (idx x (L.drop k) k = idx x L 0)) (fun v _ => L.length - (RowKit.intOf v).toNat)
  case atStart => exact ⟨0, rfl, Nat.zero_le _, Lib.hid (Below.refl _ _), Lib.hid rfl⟩
  case round =>
    obtain ⟨k, rfl, hk, hB, HE⟩ := hrel
    by_cases hkn : k < L.length
    · obtain ⟨b0, b1, b2, b3, b4⟩ := ((HS.out.below hB.out hg) k hkn).rt
      have a0 : wr.cell? ⟨g, off + k * 5, none⟩ = _ := b0
      have a1 : wr.cell? ⟨g, off + k * 5 + 1, none⟩ = _ := b1
      have a2 : wr.cell? ⟨g, off + k * 5 + 2, none⟩ = _ := b2
      have a3 : wr.cell? ⟨g, off + k * 5 + 3, none⟩ = _ := b3
      have a4 : wr.cell? ⟨g, off + k * 5 + 4, none⟩ = _ := b4
      have hd := Lib.hid (show L.drop k = L[k]! :: L.drop (k + 1) by rw [getElem!_pos L k hkn]; exact List.drop_eq_getElem_cons hkn)
      clear b0 b1 b2 b3 b4
      generalize L[k]! = e at a0 a1 a2 a3 a4 hd
      have HC := Lib.hid (same1_any wr nb x e (HP.out.ofBlock (hB.out.block nb HP.out.lt)).at_)
      by_cases ht : sm x e = true
      · rw [ht] at HC
        have HE2 := Lib.hid (show idx x L 0 = (k : Int) by rw [← HE.out, hd.out, idx, if_pos ht])
        go_wp2_with fail
        refine HC.out.mono ?_
        rintro r w1 ⟨rfl, hb1⟩
        clear a0 a1 a2 a3 a4
        go_wp2_with fail
        go_ret
        exact ⟨by rw [HE2.out]; rfl, Below.two hB.out hb1⟩
      · have ht' : sm x e = false := by simpa using ht
        rw [ht'] at HC
        go_wp2_with fail
        refine HC.out.mono ?_
        rintro r w1 ⟨rfl, hb1⟩
        clear a0 a1 a2 a3 a4
        go_wp2_with fail
        go_roundw
        case rel => exact ⟨k + 1, by go_num, by omega, Lib.hid (Below.two hB.out hb1), Lib.hid (by rw [← HE.out, hd.out, idx, if_neg ht])⟩
        case measure => simp [RowKit.intOf]; omega
    · have e0 : idx x L 0 = -1 := by rw [← HE.out, List.drop_eq_nil_of_le (by omega)]; rfl
      go_wp2_with fail
      go_ret
      exact ⟨by rw [e0]; rfl, hB.out⟩
set_option maxHeartbeats 400000 in
set_option maxRecDepth 100000 in
theorem index_none (w : World) (p : Option Addr) (c : Nat) (f : Value) :
    Calls Tryd.prog 35 #[.slice p 0 c, f] w fun r w' => r = .returned (.int .i64 (-1)) ∧ Below w.heap.size w w' := by
  go_enter Tryd.func35, Tryd.ntmps35
  go_wp2_with fail
  refine wp_loop_rounds 1 ?_
  rw [rounds_succ]
  go_wp2_with fail
  go_ret
  exact ⟨rfl, Below.refl _ _⟩
/-- slices.IndexFunc at every list of routes. -/
theorem index_any (w : World) (v : Value) (nb : Nat) (x : Rt) (L : List Rt) (hn : L.length ≤ 64) (h : LArg w v L) (hx : RBox w nb x) :
    Calls Tryd.prog 35 #[v, .func (.func 36) #[] #[.pointer (some ⟨nb, 0, none⟩)]] w fun r w' => r = .returned (.int .i64 (idx x L 0)) ∧ Below w.heap.size w w' := by
  obtain ⟨p, c, rfl, _, h⟩ := h
  rcases h with rfl | ⟨b, off, rfl, hb, hs⟩
  · exact index_none w p c _
  · exact index_some w b off c nb x L (by omega) hb hs hx
end Go.Proofs.YtoocmogmocapoaaDoor
