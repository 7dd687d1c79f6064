/-
  The fact that the statements begin with; a rib of one route.
-/
import Derived.Test.YtoocmogmocapoaaRibUse
namespace Go.Proofs.Ytoocmogmocapoaa
open Go.RowKit Go.Lib RibP

theorem RibP.RTold.single {e : Rt} {H : List Hd} (h : RTold [e] H) : H = [e.h] := List.perm_singleton.1 h.perm
theorem RibP.RTold.none {H : List Hd} (h : RTold [] H) : H = [] := List.perm_nil.1 h.perm
theorem LHeld.first {w : World} {base : Nat} {v : Value} {h : Hd} (hh : LHeld w base v [h]) : ∃ g c, v = .slice (some ⟨g, 0, none⟩) 1 c ∧ base ≤ g ∧ g < w.heap.size ∧ w.cell? ⟨g, 0, none⟩ = some (.int .i64 h.f) ∧ w.cell? ⟨g, 1, none⟩ = some (.int .u32 (h.n.1 : Int)) ∧ w.cell? ⟨g, 2, none⟩ = some (.int .i64 h.n.2) ∧ w.cell? ⟨g, 3, none⟩ = some (.int .i64 h.m) := by
  rcases hh with ⟨_, hn⟩ | ⟨g, c, rfl, h1, h2, _, h4, _⟩
  · cases hn
  · obtain ⟨c0, c1, c2, c3⟩ := (h4 0 (by simp)).hd
    simp only [Nat.zero_mul, Nat.zero_add] at c0 c1 c2 c3
    exact ⟨g, c, rfl, h1, h2, c0, c1, c2, c3⟩

set_option maxHeartbeats 400000 in
set_option maxRecDepth 100000 in
theorem ten_any (w : World) : Calls Try.prog 16 #[] w fun e w' => e = .returned (.agg #[.int .u32 167772160, .int .i64 8]) ∧ Below w.heap.size w w' := by
  go_enter Try.func16, Try.ntmps16
  go_wp2_with fail
  refine bodyPost_ret (v := .agg #[.int .u32 167772160, .int .i64 8]) ?_ rfl ⟨rfl, (Below.refl _ _).alloc (Nat.le_refl _) _⟩
  simp [results, Try.results16, go_sem]
theorem learn10 : learnE (0, []) 1 (167772160, 8) 5 3 = 0 := by decide +kernel
theorem learn10S : learnS (0, []) 1 (167772160, 8) 5 3 = (3, [⟨⟨1, (167772160, 8), 5⟩, 3⟩]) := by
  unfold learnS
  rw [if_pos learn10]
  rfl
set_option maxHeartbeats 1000000 in
set_option maxRecDepth 100000 in
theorem learnt_any (w : World) : Calls Try.prog 8 #[] w fun e w' => e = .returned (.bool true) ∧ Below w.heap.size w w' := by
  have HN := Lib.hid (new_oneB w w (Below.refl _ _))
  have HT := Lib.hid ten_any
  go_enter Try.func8, Try.ntmps8
  go_wp2_with fail
  refine HN.out.mono ?_
  rintro e w1 ⟨rfl, h1⟩
  have H1 := Lib.hid h1
  clear h1 HN
  go_wp2_with fail
  refine (HT.out _).mono ?_
  rintro e w2 ⟨rfl, hb2⟩
  have hl := one_learn (H1.out.below hb2) 1 167772160 8 5 3 (by omega)
  rw [learn10, learn10S, show errV 0 = .nilIface from rfl] at hl
  have HL := Lib.hid hl
  clear hl hb2
  go_wp2_with fail
  refine HL.out.mono ?_
  rintro e w3 ⟨rfl, h3⟩
  have H3 := Lib.hid h3
  clear h3
  go_wp2_with fail
  refine (one_list H3.out).mono ?_
  rintro e w4 ⟨v, H, rfl, hT, hH, hb⟩
  obtain rfl := hT.single
  have H4 := Lib.hid (H3.out.below hb)
  obtain ⟨g, c, rfl, _, _, _, _, _, c3⟩ := hH.first
  clear hT hH hb
  go_wp2_with fail
  refine (one_now H4.out).mono ?_
  rintro e w5 ⟨rfl, rfl⟩
  go_wp2_with fail
  go_ret
  exact ⟨rfl, H4.out.bel⟩
end Go.Proofs.Ytoocmogmocapoaa
