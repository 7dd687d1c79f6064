/-
  The law MatOwn at every two lists of rows and every number: it tells true; what lay in memory stays.
-/
import Derived.Test.YtobfidlfgdlilaaMatStar
import Derived.Test.YtobfidlfgdlilaaMatRes
import Derived.Test.YtobfidlfgdlilaaIntsCopy
namespace Go.Proofs.Ytobfidlfgdlilaa
open Go.RowKit Go.Lib

/-- A row that stands at place r of the list at block g. -/
structure RowAt (w : World) (g r : Nat) (v : Value) (l : List Int) : Prop where
  lt : g < w.heap.size
  c : w.cell? ⟨g, r, none⟩ = some v
  arg : ArgI w v l
theorem RowAt.below {w w1 : World} {g r : Nat} {v : Value} {l : List Int} (h : RowAt w g r v l) (hb : Below w.heap.size w w1) : RowAt w1 g r v l :=
  ⟨Nat.lt_of_lt_of_le h.lt hb.size, (hb.cell (p := ⟨g, r, none⟩) h.lt).trans h.c, h.arg.below hb⟩
theorem cells_arg {w : World} {b n : Nat} {f : Nat → Int} (hb : b < w.heap.size) (h : ∀ j, j < n → w.cell? ⟨b, j, none⟩ = some (.int .i64 (f j))) : ArgI w (.slice (some ⟨b, 0, none⟩) n n) ((List.range n).map f) := by
  refine ⟨_, n, by simp, Or.inr ⟨b, 0, rfl, hb, fun j hj => ?_⟩⟩
  have hj' : j < n := by simpa using hj
  rw [Nat.zero_add, h j hj', getElem!_pos _ j hj]
  simp
/-- The second row of a grid. -/
theorem Grid.second {w : World} {g n : Nat} {f : Nat → Nat → Int} (h : Grid w g n n f) (hn : 1 < n) : ∃ b, RowAt w g 1 (.slice (some ⟨b, 0, none⟩) n n) ((List.range n).map fun j => f 1 j) :=
  ⟨g + 1 + 1, by have := h.lt; omega, h.o 1 hn, cells_arg (by have := h.lt; omega) (h.e 1 hn)⟩
/-- The second row of a grid whose first one was written over. -/
theorem Grid.secondBut {w w1 : World} {g n : Nat} {f : Nat → Nat → Int} (h : Grid w g n n f) (hb : But (g + 1) w w1) (hn : 1 < n) : ∃ b, RowAt w1 g 1 (.slice (some ⟨b, 0, none⟩) n n) ((List.range n).map fun j => f 1 j) := by
  obtain ⟨h1, h2, h3⟩ := h.butRow (p := 0) (by simpa using hb) 1 hn (by omega)
  exact ⟨g + 1 + 1, by omega, h1, cells_arg h3 h2⟩

set_option maxHeartbeats 4000000 in
set_option maxRecDepth 100000 in
theorem own_0 (w : World) (va vb : Value) (M N : List (List Int)) (x : Int) (sa : M.length * 24 ≤ 140737488351232 ∧ ∀ r ∈ M, r.length * 8 ≤ 140737488351232) (sb : N.length * 24 ≤ 140737488351232 ∧ ∀ r ∈ N, r.length * 8 ≤ 140737488351232) (ha : ArgR w va M) (hb : ArgR w vb N) (hg : matBad M ≠ 0) :
    Calls Try.prog 7 #[va, vb, .int .i64 x] w fun e w' => e = .returned (.bool true) ∧ Below w.heap.size w w' := by
  have HA := Lib.hid ha; have HB := Lib.hid hb; have HSA := Lib.hid sa; have HSB := Lib.hid sb
  clear ha hb sa sb
  have hE : errV (matBad M) = .iface 42 (.int .i64 (matBad M)) := if_neg hg
  have hE2 : mulBad M N = matBad M := if_pos hg
  have H1 := Lib.hid (fun w1 v1 (h1 : ArgR w1 v1 M) => star_bad w1 v1 M h1 hg)
  have H2 := Lib.hid (fun w1 v1 v2 (h1 : ArgR w1 v1 M) (h2 : ArgR w1 v2 N) => mul_bad w1 v1 v2 M N h1 h2 (by rw [hE2]; exact hg))
  rw [hE] at H1
  rw [hE2, hE] at H2
  clear hE hE2 hg
  generalize matBad M = q at H1 H2
  have HZZ : Hid (Below w.heap.size w w) := Lib.hid (Below.refl _ _)
  go_enter Try.func7, Try.ntmps7
  go_wp2_with fail
  refine (rowsCopy_any w va M HSA.out (HA.out.below HZZ.out)).mono ?_
  rintro e w1 ⟨vp, rfl, hO, hb1⟩
  have HZZ' := Lib.hid (Below.two HZZ.out hb1)
  have HP := Lib.hid (hO.arg)
  clear hb1 HZZ 
  have HZZ := HZZ'
  clear HZZ'
  clear hO
  go_wp2_with fail
  refine (rowsCopy_any w1 vb N HSB.out (HB.out.below HZZ.out)).mono ?_
  rintro e w2 ⟨vq, rfl, hO, hb2⟩
  have HP' := Lib.hid (HP.out.below hb2)
  have HZZ' := Lib.hid (Below.two HZZ.out hb2)
  have HQ := Lib.hid (hO.arg)
  clear hb2 HZZ HP
  have HZZ := HZZ'
  clear HZZ'
  have HP := HP'
  clear HP'
  clear hO
  have HW2 := Lib.hid HZZ.out.size
  have HT : Hid (Below w2.heap.size w2 w2) := Lib.hid (Below.refl _ _)
  go_wp2_with fail
  refine (H1.out _ vp (HP.out.below HT.out)).mono ?_
  rintro e w3' ⟨rfl, rfl⟩
  go_wp2_with fail
  refine (H2.out _ vp vq (HP.out.below HT.out) (HQ.out.below HT.out)).mono ?_
  rintro e w4' ⟨rfl, rfl⟩
  go_wp2_with fail
  refine (one_yes w2 1 (by decide) (by decide)).mono ?_
  rintro e w5 ⟨g0, _, rfl, _, hb5⟩
  have HT' := Lib.hid (Below.two HT.out hb5)
  have HZZ' := Lib.hid (Below.two HZZ.out hb5)
  clear hb5 HZZ HT
  have HZZ := HZZ'
  clear HZZ'
  have HT := HT'
  clear HT'
  have HR := sameRows_any w5 vp va M M (by have := HSA.out.1; omega) (fun r hr => by have := HSA.out.2 r hr; omega) (HP.out.below HT.out) (HA.out.below HZZ.out)
  rw [decide_eq_true rfl] at HR
  have HR := Lib.hid HR
  go_wp2_with fail
  refine (HR.out).mono ?_
  rintro e w6 ⟨rfl, hb6⟩
  have HT' := Lib.hid (Below.two HT.out hb6)
  have HZZ' := Lib.hid (Below.two HZZ.out hb6)
  clear hb6 HZZ HT
  have HZZ := HZZ'
  clear HZZ'
  have HT := HT'
  clear HT'
  clear HR
  have HR := sameRows_any w6 vq vb N N (by have := HSB.out.1; omega) (fun r hr => by have := HSB.out.2 r hr; omega) (HQ.out.below HT.out) (HB.out.below HZZ.out)
  rw [decide_eq_true rfl] at HR
  have HR := Lib.hid HR
  go_wp2_with fail
  refine (HR.out).mono ?_
  rintro e w7 ⟨rfl, hb7⟩
  have HT' := Lib.hid (Below.two HT.out hb7)
  have HZZ' := Lib.hid (Below.two HZZ.out hb7)
  clear hb7 HZZ HT
  have HZZ := HZZ'
  clear HZZ'
  have HT := HT'
  clear HT'
  clear HR
  have HR := sameRows_any w7 vp va M M (by have := HSA.out.1; omega) (fun r hr => by have := HSA.out.2 r hr; omega) (HP.out.below HT.out) (HA.out.below HZZ.out)
  rw [decide_eq_true rfl] at HR
  have HR := Lib.hid HR
  go_wp2_with fail
  refine (HR.out).mono ?_
  rintro e w8 ⟨rfl, hb8⟩
  have HT' := Lib.hid (Below.two HT.out hb8)
  have HZZ' := Lib.hid (Below.two HZZ.out hb8)
  clear hb8 HZZ HT
  have HZZ := HZZ'
  clear HZZ'
  have HT := HT'
  clear HT'
  clear HR
  go_wp2_with fail
  go_ret
  exact ⟨rfl, HZZ.out⟩
set_option maxHeartbeats 4000000 in
set_option maxRecDepth 100000 in
theorem own_s1 (w : World) (va vb : Value) (A : MatP.T) (N : List (List Int)) (x : Int) (h1 : 1 ≤ 1) (h8 : 1 ≤ 8) (hbA : MatP.Bd A)  (sa : (rowsN 1 A).length * 24 ≤ 140737488351232 ∧ ∀ r ∈ (rowsN 1 A), r.length * 8 ≤ 140737488351232) (sb : N.length * 24 ≤ 140737488351232 ∧ ∀ r ∈ N, r.length * 8 ≤ 140737488351232) (ha : ArgR w va (rowsN 1 A)) (hb : ArgR w vb N) (hg : mulBad (rowsN 1 A) N ≠ 0) :
    Calls Try.prog 7 #[va, vb, .int .i64 x] w fun e w' => e = .returned (.bool true) ∧ Below w.heap.size w w' := by
  have HA := Lib.hid ha; have HB := Lib.hid hb; have HSA := Lib.hid sa; have HSB := Lib.hid sb
  clear ha hb sa sb
  have HbA := Lib.hid hbA
  clear hbA
  have hE : errV (mulBad (rowsN 1 A) N) = .iface 42 (.int .i64 (mulBad (rowsN 1 A) N)) := if_neg hg
  have H2 := Lib.hid (fun w1 v1 v2 (h1 : ArgR w1 v1 (rowsN 1 A)) (h2 : ArgR w1 v2 N) => mul_bad w1 v1 v2 _ N h1 h2 hg)
  rw [hE] at H2
  clear hE hg
  generalize mulBad (rowsN 1 A) N = q at H2
  have HZZ : Hid (Below w.heap.size w w) := Lib.hid (Below.refl _ _)
  go_enter Try.func7, Try.ntmps7
  go_wp2_with fail
  refine (rowsCopy_any w va (rowsN 1 A) HSA.out (HA.out.below HZZ.out)).mono ?_
  rintro e w1 ⟨vp, rfl, hO, hb1⟩
  have HZZ' := Lib.hid (Below.two HZZ.out hb1)
  have HP := Lib.hid (hO.arg)
  clear hb1 HZZ 
  have HZZ := HZZ'
  clear HZZ'
  clear hO
  go_wp2_with fail
  refine (rowsCopy_any w1 vb N HSB.out (HB.out.below HZZ.out)).mono ?_
  rintro e w2 ⟨vq, rfl, hO, hb2⟩
  have HP' := Lib.hid (HP.out.below hb2)
  have HZZ' := Lib.hid (Below.two HZZ.out hb2)
  have HQ := Lib.hid (hO.arg)
  clear hb2 HZZ HP
  have HZZ := HZZ'
  clear HZZ'
  have HP := HP'
  clear HP'
  clear hO
  have HW2 := Lib.hid HZZ.out.size
  have HT : Hid (Below w2.heap.size w2 w2) := Lib.hid (Below.refl _ _)
  go_wp2_with fail
  refine (star_ok w2 vp 1 A h1 h8 HbA.out (HP.out.below HT.out)).mono ?_
  rintro e w3 ⟨g1, hg1, rfl, hG, hb3⟩
  have HT' := Lib.hid (Below.two HT.out hb3)
  have HZZ' := Lib.hid (Below.two HZZ.out hb3)
  have HS := Lib.hid (hG)
  clear hb3 HZZ HT
  have HZZ := HZZ'
  clear HZZ'
  have HT := HT'
  clear HT'
  have HGL1 := Lib.hid hg1
  clear hG hg1
  go_wp2_with fail
  refine (H2.out _ vp vq (HP.out.below HT.out) (HQ.out.below HT.out)).mono ?_
  rintro e w4' ⟨rfl, rfl⟩
  go_wp2_with fail
  refine (one_yes w3 1 (by decide) (by decide)).mono ?_
  rintro e w5 ⟨g0, _, rfl, _, hb5⟩
  have HT' := Lib.hid (Below.two HT.out hb5)
  have HS' := Lib.hid (HS.out.keep hb5)
  have HZZ' := Lib.hid (Below.two HZZ.out hb5)
  clear hb5 HZZ HT HS
  have HZZ := HZZ'
  clear HZZ'
  have HT := HT'
  clear HT'
  have HS := HS'
  clear HS'
  have HR := sameRows_any w5 vp va (rowsN 1 A) (rowsN 1 A) (by have := HSA.out.1; omega) (fun r hr => by have := HSA.out.2 r hr; omega) (HP.out.below HT.out) (HA.out.below HZZ.out)
  rw [decide_eq_true rfl] at HR
  have HR := Lib.hid HR
  go_wp2_with fail
  refine (HR.out).mono ?_
  rintro e w6 ⟨rfl, hb6⟩
  have HT' := Lib.hid (Below.two HT.out hb6)
  have HS' := Lib.hid (HS.out.keep hb6)
  have HZZ' := Lib.hid (Below.two HZZ.out hb6)
  clear hb6 HZZ HT HS
  have HZZ := HZZ'
  clear HZZ'
  have HT := HT'
  clear HT'
  have HS := HS'
  clear HS'
  clear HR
  have HR := sameRows_any w6 vq vb N N (by have := HSB.out.1; omega) (fun r hr => by have := HSB.out.2 r hr; omega) (HQ.out.below HT.out) (HB.out.below HZZ.out)
  rw [decide_eq_true rfl] at HR
  have HR := Lib.hid HR
  go_wp2_with fail
  refine (HR.out).mono ?_
  rintro e w7 ⟨rfl, hb7⟩
  have HT' := Lib.hid (Below.two HT.out hb7)
  have HS' := Lib.hid (HS.out.keep hb7)
  have HZZ' := Lib.hid (Below.two HZZ.out hb7)
  clear hb7 HZZ HT HS
  have HZZ := HZZ'
  clear HZZ'
  have HT := HT'
  clear HT'
  have HS := HS'
  clear HS'
  clear HR
  have o0 : w7.cell? ⟨g1, 0, none⟩ = some (.slice (some ⟨g1 + 1, 0, none⟩) 1 1) := by simpa using HS.out.o 0 (by omega)
  have HSP := Lib.hid (spoil_any w7 (g1 + 1) 1 x (by omega) (fun i hi => ⟨_, HS.out.e 0 (by omega) i hi⟩) (fun i => HS.out.fe 0 (by omega) i))
  go_wp2_with fail
  refine HSP.out.mono ?_
  rintro e w8 ⟨rfl, hB8⟩
  have HZZ' := Lib.hid (HZZ.out.trans (hB8.below.mono (show w.heap.size ≤ g1 + 1 by have := HGL1.out; have := HW2.out; omega)))
  have HT' := Lib.hid (HT.out.trans (hB8.below.mono (show w2.heap.size ≤ g1 + 1 by have := HGL1.out; omega)))
  clear hB8 HZZ HT HSP o0 HS
  have HZZ := HZZ'
  clear HZZ'
  have HT := HT'
  clear HT'
  go_wp2_with fail
  refine (star_ok w8 va 1 A h1 h8 HbA.out (HA.out.below HZZ.out)).mono ?_
  rintro e w9 ⟨g3, _, rfl, hG, hb9⟩
  have HT' := Lib.hid (Below.two HT.out hb9)
  have HZZ' := Lib.hid (Below.two HZZ.out hb9)
  clear hb9 HZZ HT
  have HZZ := HZZ'
  clear HZZ'
  have HT := HT'
  clear HT'
  clear hG
  go_wp2_with fail
  refine wp_region_held_drew (S := (fun _ => True)) (by kernel_rfl) trivial (fun hHeld => ?_)
  refine wpAnyH_take (i := 0) (oi := { dst := some 74, op := Op.move (Operand.tmp 18), type := 25, pos := "own.go:122", after := #[], guard := none }) (v := ?_) rfl (by kernel_rfl) (by kernel_rfl) (by kernel_rfl) (fun _ _ _ h => h) (Or.inl ⟨by rfl, ?_⟩) hHeld ?_
  rotate_left
  · (intro w hSw; (try dsimp only at hSw); go_simp; first | done | with_reducible rfl)
  simp only [Act.put, List.setIfInBounds_toArray, List.set_cons_zero, List.set_cons_succ]
  refine wpAnyH_take (i := 1) (oi := { dst := some 75, op := Op.binOp BinOp.neq 25 (Operand.tmp 74) (Operand.const Value.nilIface) 25, type := 4, pos := "own.go:122", after := #[{ on := 0, ground := Ground.data }], guard := none }) (v := ?_) rfl (by kernel_rfl) (by kernel_rfl) (by kernel_rfl) (fun _ _ _ h => h) (Or.inl ⟨by rfl, ?_⟩) hHeld ?_
  rotate_left
  · (intro w hSw; (try dsimp only at hSw); go_simp; first | done | with_reducible rfl)
  simp only [Act.put, List.setIfInBounds_toArray, List.set_cons_zero, List.set_cons_succ]
  refine wpAnyH_take (i := 2) (oi := { dst := some 76, op := Op.move (Operand.tmp 75), type := 4, pos := "own.go:122", after := #[{ on := 1, ground := Ground.data }], guard := none }) (v := ?_) rfl (by kernel_rfl) (by kernel_rfl) (by kernel_rfl) (fun _ _ _ h => h) (Or.inl ⟨by rfl, ?_⟩) hHeld ?_
  rotate_left
  · (intro w hSw; (try dsimp only at hSw); go_simp; first | done | with_reducible rfl)
  simp only [Act.put, List.setIfInBounds_toArray, List.set_cons_zero, List.set_cons_succ]
  refine wpAnyH_take (i := 3) (oi := { dst := some 77, op := Op.move (Operand.tmp 9), type := 22, pos := "own.go:122", after := #[{ on := 2, ground := Ground.guard }], guard := some (2, false) }) (v := ?_) rfl (by kernel_rfl) (by kernel_rfl) (by kernel_rfl) (fun _ _ _ h => h) (Or.inl ⟨by rfl, ?_⟩) hHeld ?_
  rotate_left
  · (intro w hSw; (try dsimp only at hSw); go_simp; first | done | with_reducible rfl)
  simp only [Act.put, List.setIfInBounds_toArray, List.set_cons_zero, List.set_cons_succ]
  refine wpAnyH_take (i := 4) (oi := { dst := some 78, op := Op.call { callee := Callee.builtin Builtin.len, args := #[Operand.tmp 77], argTypes := #[22] }, type := 3, pos := "own.go:122", after := #[{ on := 3, ground := Ground.data }, { on := 2, ground := Ground.guard }], guard := some (2, false) }) (v := ?_) rfl (by kernel_rfl) (by kernel_rfl) (by kernel_rfl) (fun _ _ _ h => h) (Or.inl ⟨by rfl, ?_⟩) hHeld ?_
  rotate_left
  · (intro w hSw; (try dsimp only at hSw); go_simp; first | done | with_reducible rfl)
  simp only [Act.put, List.setIfInBounds_toArray, List.set_cons_zero, List.set_cons_succ]
  refine wpAnyH_take (i := 5) (oi := { dst := some 79, op := Op.binOp BinOp.gtr 3 (Operand.tmp 78) (Operand.const (Value.int IntKind.i64 1)) 3, type := 4, pos := "own.go:122", after := #[{ on := 4, ground := Ground.data }, { on := 2, ground := Ground.guard }], guard := some (2, false) }) (v := ?_) rfl (by kernel_rfl) (by kernel_rfl) (by kernel_rfl) (fun _ _ _ h => h) (Or.inl ⟨by rfl, ?_⟩) hHeld ?_
  rotate_left
  · (intro w hSw; (try dsimp only at hSw); go_simp; first | done | with_reducible rfl)
  simp only [Act.put, List.setIfInBounds_toArray, List.set_cons_zero, List.set_cons_succ]
  refine wpAnyH_take (i := 6) (oi := { dst := some 80, op := Op.move (Operand.tmp 79), type := 4, pos := "own.go:122", after := #[{ on := 5, ground := Ground.data }, { on := 2, ground := Ground.chain }, { on := 2, ground := Ground.guard }], guard := some (2, false) }) (v := ?_) rfl (by kernel_rfl) (by kernel_rfl) (by kernel_rfl) (fun _ _ _ h => h) (Or.inl ⟨by rfl, ?_⟩) hHeld ?_
  rotate_left
  · (intro w hSw; (try dsimp only at hSw); go_simp; first | done | with_reducible rfl)
  simp only [Act.put, List.setIfInBounds_toArray, List.set_cons_zero, List.set_cons_succ]
  refine wpAnyH_take (i := 7) (oi := { dst := some 81, op := Op.move (Operand.tmp 9), type := 22, pos := "own.go:122", after := #[{ on := 6, ground := Ground.guard }], guard := some (6, true) }) (v := undef) rfl (by kernel_rfl) (by kernel_rfl) (by kernel_rfl) (fun _ _ _ h => h) (Or.inr ⟨by rfl, rfl⟩) hHeld ?_
  simp only [Act.put, List.setIfInBounds_toArray, List.set_cons_zero, List.set_cons_succ]
  refine wpAnyH_take (i := 8) (oi := { dst := some 82, op := Op.indexAddr 22 (Operand.tmp 81) (Operand.const (Value.int IntKind.i64 1)), type := 0, pos := "own.go:122", after := #[{ on := 7, ground := Ground.data }, { on := 6, ground := Ground.guard }], guard := some (6, true) }) (v := undef) rfl (by kernel_rfl) (by kernel_rfl) (by kernel_rfl) (fun _ _ _ h => h) (Or.inr ⟨by rfl, rfl⟩) hHeld ?_
  simp only [Act.put, List.setIfInBounds_toArray, List.set_cons_zero, List.set_cons_succ]
  refine wpAnyH_take (i := 9) (oi := { dst := some 83, op := Op.load 32 (Operand.tmp 82), type := 32, pos := "own.go:122", after := #[{ on := 8, ground := Ground.data }, { on := 6, ground := Ground.guard }], guard := some (6, true) }) (v := undef) rfl (by kernel_rfl) (by kernel_rfl) (by kernel_rfl) (fun _ _ _ h => h) (Or.inr ⟨by rfl, rfl⟩) hHeld ?_
  simp only [Act.put, List.setIfInBounds_toArray, List.set_cons_zero, List.set_cons_succ]
  refine wpAnyH_take (i := 10) (oi := { dst := some 84, op := Op.move (Operand.tmp 17), type := 22, pos := "own.go:122", after := #[{ on := 6, ground := Ground.guard }], guard := some (6, true) }) (v := undef) rfl (by kernel_rfl) (by kernel_rfl) (by kernel_rfl) (fun _ _ _ h => h) (Or.inr ⟨by rfl, rfl⟩) hHeld ?_
  simp only [Act.put, List.setIfInBounds_toArray, List.set_cons_zero, List.set_cons_succ]
  refine wpAnyH_take (i := 11) (oi := { dst := some 85, op := Op.indexAddr 22 (Operand.tmp 84) (Operand.const (Value.int IntKind.i64 1)), type := 0, pos := "own.go:122", after := #[{ on := 10, ground := Ground.data }, { on := 6, ground := Ground.guard }], guard := some (6, true) }) (v := undef) rfl (by kernel_rfl) (by kernel_rfl) (by kernel_rfl) (fun _ _ _ h => h) (Or.inr ⟨by rfl, rfl⟩) hHeld ?_
  simp only [Act.put, List.setIfInBounds_toArray, List.set_cons_zero, List.set_cons_succ]
  refine wpAnyH_take (i := 12) (oi := { dst := some 86, op := Op.load 32 (Operand.tmp 85), type := 32, pos := "own.go:122", after := #[{ on := 11, ground := Ground.data }, { on := 6, ground := Ground.guard }], guard := some (6, true) }) (v := undef) rfl (by kernel_rfl) (by kernel_rfl) (by kernel_rfl) (fun _ _ _ h => h) (Or.inr ⟨by rfl, rfl⟩) hHeld ?_
  simp only [Act.put, List.setIfInBounds_toArray, List.set_cons_zero, List.set_cons_succ]
  refine wpAnyH_take (i := 13) (oi := { dst := some 87, op := Op.call { callee := Callee.value (Operand.func 17), args := #[Operand.tmp 83, Operand.tmp 86], argTypes := #[32, 32] }, type := 4, pos := "own.go:122", after := #[{ on := 9, ground := Ground.data }, { on := 12, ground := Ground.data }, { on := 6, ground := Ground.chain }, { on := 6, ground := Ground.guard }], guard := some (6, true) }) (v := undef) rfl (by kernel_rfl) (by kernel_rfl) (by kernel_rfl) (fun _ _ _ h => h) (Or.inr ⟨by rfl, rfl⟩) hHeld ?_
  simp only [Act.put, List.setIfInBounds_toArray, List.set_cons_zero, List.set_cons_succ]
  refine wpAnyH_take (i := 14) (oi := { dst := some 88, op := Op.unOp UnOp.not 4 (Operand.tmp 87), type := 4, pos := "own.go:122", after := #[{ on := 13, ground := Ground.data }, { on := 6, ground := Ground.guard }], guard := some (6, true) }) (v := undef) rfl (by kernel_rfl) (by kernel_rfl) (by kernel_rfl) (fun _ _ _ h => h) (Or.inr ⟨by rfl, rfl⟩) hHeld ?_
  simp only [Act.put, List.setIfInBounds_toArray, List.set_cons_zero, List.set_cons_succ]
  refine wpAnyH_take (i := 15) (oi := { dst := some 89, op := Op.pick (Operand.tmp 80) (Operand.tmp 88) (Operand.const (Value.bool false)), type := 4, pos := "own.go:122", after := #[{ on := 6, ground := Ground.data }, { on := 14, ground := Ground.data }, { on := 2, ground := Ground.guard }], guard := some (2, false) }) (v := ?_) rfl (by kernel_rfl) (by kernel_rfl) (by kernel_rfl) (fun _ _ _ h => h) (Or.inl ⟨by rfl, ?_⟩) hHeld ?_
  rotate_left
  · (intro w hSw; (try dsimp only at hSw); go_simp; first | done | with_reducible rfl)
  simp only [Act.put, List.setIfInBounds_toArray, List.set_cons_zero, List.set_cons_succ]
  refine wpAnyH_take (i := 16) (oi := { dst := some 90, op := Op.pick (Operand.tmp 76) (Operand.const (Value.bool true)) (Operand.tmp 89), type := 4, pos := "own.go:122", after := #[{ on := 2, ground := Ground.data }, { on := 15, ground := Ground.data }], guard := none }) (v := ?_) rfl (by kernel_rfl) (by kernel_rfl) (by kernel_rfl) (fun _ _ _ h => h) (Or.inl ⟨by rfl, ?_⟩) hHeld ?_
  rotate_left
  · (intro w hSw; (try dsimp only at hSw); go_simp; first | done | with_reducible rfl)
  simp only [Act.put, List.setIfInBounds_toArray, List.set_cons_zero, List.set_cons_succ]
  refine wpAnyH_done (by kernel_rfl) ?_ _
  clear hHeld
  have hbd := (Below.refl w9.heap.size w9).drew
  have HT' := Lib.hid (Below.two HT.out hbd)
  have HZZ' := Lib.hid (Below.two HZZ.out hbd)
  clear HZZ HT
  have HZZ := HZZ'
  clear HZZ'
  have HT := HT'
  clear HT'
  clear hbd
  generalize w9.drew = w10 at HZZ HT ⊢
  have HR := sameRows_any w10 vp va (rowsN 1 A) (rowsN 1 A) (by have := HSA.out.1; omega) (fun r hr => by have := HSA.out.2 r hr; omega) (HP.out.below HT.out) (HA.out.below HZZ.out)
  rw [decide_eq_true rfl] at HR
  have HR := Lib.hid HR
  go_wp2_with fail
  refine (HR.out).mono ?_
  rintro e w11 ⟨rfl, hb11⟩
  have HT' := Lib.hid (Below.two HT.out hb11)
  have HZZ' := Lib.hid (Below.two HZZ.out hb11)
  clear hb11 HZZ HT
  have HZZ := HZZ'
  clear HZZ'
  have HT := HT'
  clear HT'
  clear HR
  go_wp2_with fail
  go_ret
  exact ⟨rfl, HZZ.out⟩
set_option maxHeartbeats 4000000 in
set_option maxRecDepth 100000 in
theorem own_s2 (w : World) (va vb : Value) (n : Nat) (A : MatP.T) (N : List (List Int)) (x : Int) (h1 : 1 ≤ n) (h8 : n ≤ 8) (h2 : 1 < n) (hbA : MatP.Bd A)  (sa : (rowsN n A).length * 24 ≤ 140737488351232 ∧ ∀ r ∈ (rowsN n A), r.length * 8 ≤ 140737488351232) (sb : N.length * 24 ≤ 140737488351232 ∧ ∀ r ∈ N, r.length * 8 ≤ 140737488351232) (ha : ArgR w va (rowsN n A)) (hb : ArgR w vb N) (hg : mulBad (rowsN n A) N ≠ 0) :
    Calls Try.prog 7 #[va, vb, .int .i64 x] w fun e w' => e = .returned (.bool true) ∧ Below w.heap.size w w' := by
  have HA := Lib.hid ha; have HB := Lib.hid hb; have HSA := Lib.hid sa; have HSB := Lib.hid sb
  clear ha hb sa sb
  have HbA := Lib.hid hbA
  clear hbA
  have t0 : 0 < n := by omega
  have t1 : (1 : Int) < (n : Int) := by omega
  have hE : errV (mulBad (rowsN n A) N) = .iface 42 (.int .i64 (mulBad (rowsN n A) N)) := if_neg hg
  have H2 := Lib.hid (fun w1 v1 v2 (h1 : ArgR w1 v1 (rowsN n A)) (h2 : ArgR w1 v2 N) => mul_bad w1 v1 v2 _ N h1 h2 hg)
  rw [hE] at H2
  clear hE hg
  generalize mulBad (rowsN n A) N = q at H2
  have HZZ : Hid (Below w.heap.size w w) := Lib.hid (Below.refl _ _)
  go_enter Try.func7, Try.ntmps7
  go_wp2_with fail
  refine (rowsCopy_any w va (rowsN n A) HSA.out (HA.out.below HZZ.out)).mono ?_
  rintro e w1 ⟨vp, rfl, hO, hb1⟩
  have HZZ' := Lib.hid (Below.two HZZ.out hb1)
  have HP := Lib.hid (hO.arg)
  clear hb1 HZZ 
  have HZZ := HZZ'
  clear HZZ'
  clear hO
  go_wp2_with fail
  refine (rowsCopy_any w1 vb N HSB.out (HB.out.below HZZ.out)).mono ?_
  rintro e w2 ⟨vq, rfl, hO, hb2⟩
  have HP' := Lib.hid (HP.out.below hb2)
  have HZZ' := Lib.hid (Below.two HZZ.out hb2)
  have HQ := Lib.hid (hO.arg)
  clear hb2 HZZ HP
  have HZZ := HZZ'
  clear HZZ'
  have HP := HP'
  clear HP'
  clear hO
  have HW2 := Lib.hid HZZ.out.size
  have HT : Hid (Below w2.heap.size w2 w2) := Lib.hid (Below.refl _ _)
  go_wp2_with fail
  refine (star_ok w2 vp n A h1 h8 HbA.out (HP.out.below HT.out)).mono ?_
  rintro e w3 ⟨g1, hg1, rfl, hG, hb3⟩
  have HT' := Lib.hid (Below.two HT.out hb3)
  have HZZ' := Lib.hid (Below.two HZZ.out hb3)
  have HS := Lib.hid (hG)
  clear hb3 HZZ HT
  have HZZ := HZZ'
  clear HZZ'
  have HT := HT'
  clear HT'
  have HGL1 := Lib.hid hg1
  clear hG hg1
  go_wp2_with fail
  refine (H2.out _ vp vq (HP.out.below HT.out) (HQ.out.below HT.out)).mono ?_
  rintro e w4' ⟨rfl, rfl⟩
  go_wp2_with fail
  refine (one_yes w3 1 (by decide) (by decide)).mono ?_
  rintro e w5 ⟨g0, _, rfl, _, hb5⟩
  have HT' := Lib.hid (Below.two HT.out hb5)
  have HS' := Lib.hid (HS.out.keep hb5)
  have HZZ' := Lib.hid (Below.two HZZ.out hb5)
  clear hb5 HZZ HT HS
  have HZZ := HZZ'
  clear HZZ'
  have HT := HT'
  clear HT'
  have HS := HS'
  clear HS'
  have HR := sameRows_any w5 vp va (rowsN n A) (rowsN n A) (by have := HSA.out.1; omega) (fun r hr => by have := HSA.out.2 r hr; omega) (HP.out.below HT.out) (HA.out.below HZZ.out)
  rw [decide_eq_true rfl] at HR
  have HR := Lib.hid HR
  go_wp2_with fail
  refine (HR.out).mono ?_
  rintro e w6 ⟨rfl, hb6⟩
  have HT' := Lib.hid (Below.two HT.out hb6)
  have HS' := Lib.hid (HS.out.keep hb6)
  have HZZ' := Lib.hid (Below.two HZZ.out hb6)
  clear hb6 HZZ HT HS
  have HZZ := HZZ'
  clear HZZ'
  have HT := HT'
  clear HT'
  have HS := HS'
  clear HS'
  clear HR
  have HR := sameRows_any w6 vq vb N N (by have := HSB.out.1; omega) (fun r hr => by have := HSB.out.2 r hr; omega) (HQ.out.below HT.out) (HB.out.below HZZ.out)
  rw [decide_eq_true rfl] at HR
  have HR := Lib.hid HR
  go_wp2_with fail
  refine (HR.out).mono ?_
  rintro e w7 ⟨rfl, hb7⟩
  have HT' := Lib.hid (Below.two HT.out hb7)
  have HS' := Lib.hid (HS.out.keep hb7)
  have HZZ' := Lib.hid (Below.two HZZ.out hb7)
  clear hb7 HZZ HT HS
  have HZZ := HZZ'
  clear HZZ'
  have HT := HT'
  clear HT'
  have HS := HS'
  clear HS'
  clear HR
  have o0 : w7.cell? ⟨g1, 0, none⟩ = some (.slice (some ⟨g1 + 1, 0, none⟩) n n) := by simpa using HS.out.o 0 (by omega)
  have HSP := Lib.hid (spoil_any w7 (g1 + 1) n x (by omega) (fun i hi => ⟨_, HS.out.e 0 (by omega) i hi⟩) (fun i => HS.out.fe 0 (by omega) i))
  go_wp2_with fail
  refine HSP.out.mono ?_
  rintro e w8 ⟨rfl, hB8⟩
  have HZZ' := Lib.hid (HZZ.out.trans (hB8.below.mono (show w.heap.size ≤ g1 + 1 by have := HGL1.out; have := HW2.out; omega)))
  have HT' := Lib.hid (HT.out.trans (hB8.below.mono (show w2.heap.size ≤ g1 + 1 by have := HGL1.out; omega)))
  obtain ⟨b1, hR1⟩ := HS.out.secondBut hB8 (by omega)
  have HR1 := Lib.hid hR1
  clear hR1
  clear hB8 HZZ HT HSP o0 HS
  have HZZ := HZZ'
  clear HZZ'
  have HT := HT'
  clear HT'
  go_wp2_with fail
  refine (star_ok w8 va n A h1 h8 HbA.out (HA.out.below HZZ.out)).mono ?_
  rintro e w9 ⟨g3, _, rfl, hG, hb9⟩
  have HT' := Lib.hid (Below.two HT.out hb9)
  have HR1' := Lib.hid (HR1.out.below hb9)
  have HZZ' := Lib.hid (Below.two HZZ.out hb9)
  clear hb9 HZZ HT HR1
  have HZZ := HZZ'
  clear HZZ'
  have HT := HT'
  clear HT'
  have HR1 := HR1'
  clear HR1'
  obtain ⟨b2, hT1⟩ := hG.second (by omega)
  have HT1 := Lib.hid hT1
  clear hG hT1
  have hS := And.intro HR1.out.c HT1.out.c
  have HC := sameInts_any w9.drew _ _ _ _ (by simp; omega) (HR1.out.arg.below (Below.refl _ _).drew) (HT1.out.arg.below (Below.refl _ _).drew)
  rw [decide_eq_true rfl] at HC
  have HC := Lib.hid HC
  go_wp2_with fail
  refine wp_region_held_drew (S := (fun w' => w'.cell? ⟨g1, 1, none⟩ = some (.slice (some ⟨b1, 0, none⟩) n n) ∧ w'.cell? ⟨g3, 1, none⟩ = some (.slice (some ⟨b2, 0, none⟩) n n))) (by kernel_rfl) hS (fun hHeld => ?_)
  refine wpAnyH_take (i := 0) (oi := { dst := some 74, op := Op.move (Operand.tmp 18), type := 25, pos := "own.go:122", after := #[], guard := none }) (v := ?_) rfl (by kernel_rfl) (by kernel_rfl) (by kernel_rfl) (fun _ _ _ h => h) (Or.inl ⟨by rfl, ?_⟩) hHeld ?_
  rotate_left
  · (intro w hSw; (try dsimp only at hSw); go_simp; first | done | with_reducible rfl)
  simp only [Act.put, List.setIfInBounds_toArray, List.set_cons_zero, List.set_cons_succ]
  refine wpAnyH_take (i := 1) (oi := { dst := some 75, op := Op.binOp BinOp.neq 25 (Operand.tmp 74) (Operand.const Value.nilIface) 25, type := 4, pos := "own.go:122", after := #[{ on := 0, ground := Ground.data }], guard := none }) (v := ?_) rfl (by kernel_rfl) (by kernel_rfl) (by kernel_rfl) (fun _ _ _ h => h) (Or.inl ⟨by rfl, ?_⟩) hHeld ?_
  rotate_left
  · (intro w hSw; (try dsimp only at hSw); go_simp; first | done | with_reducible rfl)
  simp only [Act.put, List.setIfInBounds_toArray, List.set_cons_zero, List.set_cons_succ]
  refine wpAnyH_take (i := 2) (oi := { dst := some 76, op := Op.move (Operand.tmp 75), type := 4, pos := "own.go:122", after := #[{ on := 1, ground := Ground.data }], guard := none }) (v := ?_) rfl (by kernel_rfl) (by kernel_rfl) (by kernel_rfl) (fun _ _ _ h => h) (Or.inl ⟨by rfl, ?_⟩) hHeld ?_
  rotate_left
  · (intro w hSw; (try dsimp only at hSw); go_simp; first | done | with_reducible rfl)
  simp only [Act.put, List.setIfInBounds_toArray, List.set_cons_zero, List.set_cons_succ]
  refine wpAnyH_take (i := 3) (oi := { dst := some 77, op := Op.move (Operand.tmp 9), type := 22, pos := "own.go:122", after := #[{ on := 2, ground := Ground.guard }], guard := some (2, false) }) (v := ?_) rfl (by kernel_rfl) (by kernel_rfl) (by kernel_rfl) (fun _ _ _ h => h) (Or.inl ⟨by rfl, ?_⟩) hHeld ?_
  rotate_left
  · (intro w hSw; (try dsimp only at hSw); go_simp; first | done | with_reducible rfl)
  simp only [Act.put, List.setIfInBounds_toArray, List.set_cons_zero, List.set_cons_succ]
  refine wpAnyH_take (i := 4) (oi := { dst := some 78, op := Op.call { callee := Callee.builtin Builtin.len, args := #[Operand.tmp 77], argTypes := #[22] }, type := 3, pos := "own.go:122", after := #[{ on := 3, ground := Ground.data }, { on := 2, ground := Ground.guard }], guard := some (2, false) }) (v := ?_) rfl (by kernel_rfl) (by kernel_rfl) (by kernel_rfl) (fun _ _ _ h => h) (Or.inl ⟨by rfl, ?_⟩) hHeld ?_
  rotate_left
  · (intro w hSw; (try dsimp only at hSw); go_simp; first | done | with_reducible rfl)
  simp only [Act.put, List.setIfInBounds_toArray, List.set_cons_zero, List.set_cons_succ]
  refine wpAnyH_take (i := 5) (oi := { dst := some 79, op := Op.binOp BinOp.gtr 3 (Operand.tmp 78) (Operand.const (Value.int IntKind.i64 1)) 3, type := 4, pos := "own.go:122", after := #[{ on := 4, ground := Ground.data }, { on := 2, ground := Ground.guard }], guard := some (2, false) }) (v := ?_) rfl (by kernel_rfl) (by kernel_rfl) (by kernel_rfl) (fun _ _ _ h => h) (Or.inl ⟨by rfl, ?_⟩) hHeld ?_
  rotate_left
  · (intro w hSw; (try dsimp only at hSw); go_simp; first | done | with_reducible rfl)
  simp only [Act.put, List.setIfInBounds_toArray, List.set_cons_zero, List.set_cons_succ]
  refine wpAnyH_take (i := 6) (oi := { dst := some 80, op := Op.move (Operand.tmp 79), type := 4, pos := "own.go:122", after := #[{ on := 5, ground := Ground.data }, { on := 2, ground := Ground.chain }, { on := 2, ground := Ground.guard }], guard := some (2, false) }) (v := ?_) rfl (by kernel_rfl) (by kernel_rfl) (by kernel_rfl) (fun _ _ _ h => h) (Or.inl ⟨by rfl, ?_⟩) hHeld ?_
  rotate_left
  · (intro w hSw; (try dsimp only at hSw); go_simp; first | done | with_reducible rfl)
  simp only [Act.put, List.setIfInBounds_toArray, List.set_cons_zero, List.set_cons_succ]
  refine wpAnyH_take (i := 7) (oi := { dst := some 81, op := Op.move (Operand.tmp 9), type := 22, pos := "own.go:122", after := #[{ on := 6, ground := Ground.guard }], guard := some (6, true) }) (v := ?_) rfl (by kernel_rfl) (by kernel_rfl) (by kernel_rfl) (fun _ _ _ h => h) (Or.inl ⟨by rfl, ?_⟩) hHeld ?_
  rotate_left
  · (intro w hSw; (try dsimp only at hSw); go_simp; first | done | with_reducible rfl)
  simp only [Act.put, List.setIfInBounds_toArray, List.set_cons_zero, List.set_cons_succ]
  refine wpAnyH_take (i := 8) (oi := { dst := some 82, op := Op.indexAddr 22 (Operand.tmp 81) (Operand.const (Value.int IntKind.i64 1)), type := 0, pos := "own.go:122", after := #[{ on := 7, ground := Ground.data }, { on := 6, ground := Ground.guard }], guard := some (6, true) }) (v := ?_) rfl (by kernel_rfl) (by kernel_rfl) (by kernel_rfl) (fun _ _ _ h => h) (Or.inl ⟨by rfl, ?_⟩) hHeld ?_
  rotate_left
  · (intro w hSw; (try dsimp only at hSw); go_simp; first | done | with_reducible rfl)
  simp only [Act.put, List.setIfInBounds_toArray, List.set_cons_zero, List.set_cons_succ]
  refine wpAnyH_take (i := 9) (oi := { dst := some 83, op := Op.load 32 (Operand.tmp 82), type := 32, pos := "own.go:122", after := #[{ on := 8, ground := Ground.data }, { on := 6, ground := Ground.guard }], guard := some (6, true) }) (v := ?_) rfl (by kernel_rfl) (by kernel_rfl) (by kernel_rfl) (fun _ _ _ h => h) (Or.inl ⟨by rfl, ?_⟩) hHeld ?_
  rotate_left
  · (intro w hSw; (try dsimp only at hSw); go_simp; first | done | with_reducible rfl)
  simp only [Act.put, List.setIfInBounds_toArray, List.set_cons_zero, List.set_cons_succ]
  refine wpAnyH_take (i := 10) (oi := { dst := some 84, op := Op.move (Operand.tmp 17), type := 22, pos := "own.go:122", after := #[{ on := 6, ground := Ground.guard }], guard := some (6, true) }) (v := ?_) rfl (by kernel_rfl) (by kernel_rfl) (by kernel_rfl) (fun _ _ _ h => h) (Or.inl ⟨by rfl, ?_⟩) hHeld ?_
  rotate_left
  · (intro w hSw; (try dsimp only at hSw); go_simp; first | done | with_reducible rfl)
  simp only [Act.put, List.setIfInBounds_toArray, List.set_cons_zero, List.set_cons_succ]
  refine wpAnyH_take (i := 11) (oi := { dst := some 85, op := Op.indexAddr 22 (Operand.tmp 84) (Operand.const (Value.int IntKind.i64 1)), type := 0, pos := "own.go:122", after := #[{ on := 10, ground := Ground.data }, { on := 6, ground := Ground.guard }], guard := some (6, true) }) (v := ?_) rfl (by kernel_rfl) (by kernel_rfl) (by kernel_rfl) (fun _ _ _ h => h) (Or.inl ⟨by rfl, ?_⟩) hHeld ?_
  rotate_left
  · (intro w hSw; (try dsimp only at hSw); go_simp; first | done | with_reducible rfl)
  simp only [Act.put, List.setIfInBounds_toArray, List.set_cons_zero, List.set_cons_succ]
  refine wpAnyH_take (i := 12) (oi := { dst := some 86, op := Op.load 32 (Operand.tmp 85), type := 32, pos := "own.go:122", after := #[{ on := 11, ground := Ground.data }, { on := 6, ground := Ground.guard }], guard := some (6, true) }) (v := ?_) rfl (by kernel_rfl) (by kernel_rfl) (by kernel_rfl) (fun _ _ _ h => h) (Or.inl ⟨by rfl, ?_⟩) hHeld ?_
  rotate_left
  · (intro w hSw; (try dsimp only at hSw); go_simp; first | done | with_reducible rfl)
  simp only [Act.put, List.setIfInBounds_toArray, List.set_cons_zero, List.set_cons_succ]
  refine wpAnyH_ready (rs := [13]) (by kernel_rfl) (by simp) ?_
  refine (AllReadyH.cons (o := { dst := some 87, op := Op.call { callee := Callee.value (Operand.func 17), args := #[Operand.tmp 83, Operand.tmp 86], argTypes := #[32, 32] }, type := 4, pos := "own.go:122", after := #[{ on := 9, ground := Ground.data }, { on := 12, ground := Ground.data }, { on := 6, ground := Ground.chain }, { on := 6, ground := Ground.guard }], guard := some (6, true) }) rfl (fun K hK => ?_) AllReadyH.nil)
  go_simp
  go_at_call 17
  refine HC.out.mono ?_
  rintro e w10 ⟨rfl, hq⟩
  have hb10 : Below w9.heap.size w9 w10 := ((Below.refl w9.heap.size w9).drew).trans hq
  have HT' := Lib.hid (Below.two HT.out hb10)
  have HR1' := Lib.hid (HR1.out.below hb10)
  have HT1' := Lib.hid (HT1.out.below hb10)
  have HZZ' := Lib.hid (Below.two HZZ.out hb10)
  clear HZZ HT HR1 HT1
  have HZZ := HZZ'
  clear HZZ'
  have HT := HT'
  clear HT'
  have HR1 := HR1'
  clear HR1'
  have HT1 := HT1'
  clear HT1'
  have KK13 := And.intro HR1.out.c HT1.out.c
  clear hHeld hq hb10 HC
  go_wp2_with fail
  refine hK.out _ _ KK13 (fun hHeld => ?_)
  clear hK K
  refine wpAnyH_take (i := 14) (oi := { dst := some 88, op := Op.unOp UnOp.not 4 (Operand.tmp 87), type := 4, pos := "own.go:122", after := #[{ on := 13, ground := Ground.data }, { on := 6, ground := Ground.guard }], guard := some (6, true) }) (v := ?_) rfl (by kernel_rfl) (by kernel_rfl) (by kernel_rfl) (fun _ _ _ h => h) (Or.inl ⟨by rfl, ?_⟩) hHeld ?_
  rotate_left
  · (intro w hSw; (try dsimp only at hSw); go_simp; first | done | with_reducible rfl)
  simp only [Act.put, List.setIfInBounds_toArray, List.set_cons_zero, List.set_cons_succ]
  refine wpAnyH_take (i := 15) (oi := { dst := some 89, op := Op.pick (Operand.tmp 80) (Operand.tmp 88) (Operand.const (Value.bool false)), type := 4, pos := "own.go:122", after := #[{ on := 6, ground := Ground.data }, { on := 14, ground := Ground.data }, { on := 2, ground := Ground.guard }], guard := some (2, false) }) (v := ?_) rfl (by kernel_rfl) (by kernel_rfl) (by kernel_rfl) (fun _ _ _ h => h) (Or.inl ⟨by rfl, ?_⟩) hHeld ?_
  rotate_left
  · (intro w hSw; (try dsimp only at hSw); go_simp; first | done | with_reducible rfl)
  simp only [Act.put, List.setIfInBounds_toArray, List.set_cons_zero, List.set_cons_succ]
  refine wpAnyH_take (i := 16) (oi := { dst := some 90, op := Op.pick (Operand.tmp 76) (Operand.const (Value.bool true)) (Operand.tmp 89), type := 4, pos := "own.go:122", after := #[{ on := 2, ground := Ground.data }, { on := 15, ground := Ground.data }], guard := none }) (v := ?_) rfl (by kernel_rfl) (by kernel_rfl) (by kernel_rfl) (fun _ _ _ h => h) (Or.inl ⟨by rfl, ?_⟩) hHeld ?_
  rotate_left
  · (intro w hSw; (try dsimp only at hSw); go_simp; first | done | with_reducible rfl)
  simp only [Act.put, List.setIfInBounds_toArray, List.set_cons_zero, List.set_cons_succ]
  refine wpAnyH_done (by kernel_rfl) ?_ _
  clear hHeld
  clear HR1 HT1
  have HR := sameRows_any w10 vp va (rowsN n A) (rowsN n A) (by have := HSA.out.1; omega) (fun r hr => by have := HSA.out.2 r hr; omega) (HP.out.below HT.out) (HA.out.below HZZ.out)
  rw [decide_eq_true rfl] at HR
  have HR := Lib.hid HR
  go_wp2_with fail
  refine (HR.out).mono ?_
  rintro e w11 ⟨rfl, hb11⟩
  have HT' := Lib.hid (Below.two HT.out hb11)
  have HZZ' := Lib.hid (Below.two HZZ.out hb11)
  clear hb11 HZZ HT
  have HZZ := HZZ'
  clear HZZ'
  have HT := HT'
  clear HT'
  clear HR
  go_wp2_with fail
  go_ret
  exact ⟨rfl, HZZ.out⟩
set_option maxHeartbeats 4000000 in
set_option maxRecDepth 100000 in
theorem own_m1 (w : World) (va vb : Value) (A : MatP.T) (B : MatP.T) (x : Int) (h1 : 1 ≤ 1) (h8 : 1 ≤ 8) (hbA : MatP.Bd A) (hbB : MatP.Bd B) (sa : (rowsN 1 A).length * 24 ≤ 140737488351232 ∧ ∀ r ∈ (rowsN 1 A), r.length * 8 ≤ 140737488351232) (sb : (rowsN 1 B).length * 24 ≤ 140737488351232 ∧ ∀ r ∈ (rowsN 1 B), r.length * 8 ≤ 140737488351232) (ha : ArgR w va (rowsN 1 A)) (hb : ArgR w vb (rowsN 1 B)) :
    Calls Try.prog 7 #[va, vb, .int .i64 x] w fun e w' => e = .returned (.bool true) ∧ Below w.heap.size w w' := by
  have HA := Lib.hid ha; have HB := Lib.hid hb; have HSA := Lib.hid sa; have HSB := Lib.hid sb
  clear ha hb sa sb
  have HbA := Lib.hid hbA
  clear hbA
  have HbB := Lib.hid hbB
  clear hbB
  have HZZ : Hid (Below w.heap.size w w) := Lib.hid (Below.refl _ _)
  go_enter Try.func7, Try.ntmps7
  go_wp2_with fail
  refine (rowsCopy_any w va (rowsN 1 A) HSA.out (HA.out.below HZZ.out)).mono ?_
  rintro e w1 ⟨vp, rfl, hO, hb1⟩
  have HZZ' := Lib.hid (Below.two HZZ.out hb1)
  have HP := Lib.hid (hO.arg)
  clear hb1 HZZ 
  have HZZ := HZZ'
  clear HZZ'
  clear hO
  go_wp2_with fail
  refine (rowsCopy_any w1 vb (rowsN 1 B) HSB.out (HB.out.below HZZ.out)).mono ?_
  rintro e w2 ⟨vq, rfl, hO, hb2⟩
  have HP' := Lib.hid (HP.out.below hb2)
  have HZZ' := Lib.hid (Below.two HZZ.out hb2)
  have HQ := Lib.hid (hO.arg)
  clear hb2 HZZ HP
  have HZZ := HZZ'
  clear HZZ'
  have HP := HP'
  clear HP'
  clear hO
  have HW2 := Lib.hid HZZ.out.size
  have HT : Hid (Below w2.heap.size w2 w2) := Lib.hid (Below.refl _ _)
  go_wp2_with fail
  refine (star_ok w2 vp 1 A h1 h8 HbA.out (HP.out.below HT.out)).mono ?_
  rintro e w3 ⟨g1, hg1, rfl, hG, hb3⟩
  have HT' := Lib.hid (Below.two HT.out hb3)
  have HZZ' := Lib.hid (Below.two HZZ.out hb3)
  have HS := Lib.hid (hG)
  clear hb3 HZZ HT
  have HZZ := HZZ'
  clear HZZ'
  have HT := HT'
  clear HT'
  have HGL1 := Lib.hid hg1
  clear hG hg1
  have hlt := HS.out.lt
  go_wp2_with fail
  refine (mul_ok w3 vp vq 1 A B h1 h8 HbA.out HbB.out (HP.out.below HT.out) (HQ.out.below HT.out)).mono ?_
  rintro e w4 ⟨g2, hg2, rfl, hG, hb4⟩
  have HT' := Lib.hid (Below.two HT.out hb4)
  have HS' := Lib.hid (HS.out.keep hb4)
  have HZZ' := Lib.hid (Below.two HZZ.out hb4)
  have HM := Lib.hid (hG)
  clear hb4 HZZ HT HS
  have HZZ := HZZ'
  clear HZZ'
  have HT := HT'
  clear HT'
  have HS := HS'
  clear HS'
  have HG12 : Hid (g1 + 1 < g2) := Lib.hid (by omega)
  have HGL2 : Hid (w2.heap.size ≤ g2) := Lib.hid (by have := HGL1.out; omega)
  clear hG hg2 hlt
  go_wp2_with fail
  refine (one_yes w4 1 (by decide) (by decide)).mono ?_
  rintro e w5 ⟨g0, _, rfl, _, hb5⟩
  have HT' := Lib.hid (Below.two HT.out hb5)
  have HS' := Lib.hid (HS.out.keep hb5)
  have HM' := Lib.hid (HM.out.keep hb5)
  have HZZ' := Lib.hid (Below.two HZZ.out hb5)
  clear hb5 HZZ HT HS HM
  have HZZ := HZZ'
  clear HZZ'
  have HT := HT'
  clear HT'
  have HS := HS'
  clear HS'
  have HM := HM'
  clear HM'
  have HR := sameRows_any w5 vp va (rowsN 1 A) (rowsN 1 A) (by have := HSA.out.1; omega) (fun r hr => by have := HSA.out.2 r hr; omega) (HP.out.below HT.out) (HA.out.below HZZ.out)
  rw [decide_eq_true rfl] at HR
  have HR := Lib.hid HR
  go_wp2_with fail
  refine (HR.out).mono ?_
  rintro e w6 ⟨rfl, hb6⟩
  have HT' := Lib.hid (Below.two HT.out hb6)
  have HS' := Lib.hid (HS.out.keep hb6)
  have HM' := Lib.hid (HM.out.keep hb6)
  have HZZ' := Lib.hid (Below.two HZZ.out hb6)
  clear hb6 HZZ HT HS HM
  have HZZ := HZZ'
  clear HZZ'
  have HT := HT'
  clear HT'
  have HS := HS'
  clear HS'
  have HM := HM'
  clear HM'
  clear HR
  have HR := sameRows_any w6 vq vb (rowsN 1 B) (rowsN 1 B) (by have := HSB.out.1; omega) (fun r hr => by have := HSB.out.2 r hr; omega) (HQ.out.below HT.out) (HB.out.below HZZ.out)
  rw [decide_eq_true rfl] at HR
  have HR := Lib.hid HR
  go_wp2_with fail
  refine (HR.out).mono ?_
  rintro e w7 ⟨rfl, hb7⟩
  have HT' := Lib.hid (Below.two HT.out hb7)
  have HS' := Lib.hid (HS.out.keep hb7)
  have HM' := Lib.hid (HM.out.keep hb7)
  have HZZ' := Lib.hid (Below.two HZZ.out hb7)
  clear hb7 HZZ HT HS HM
  have HZZ := HZZ'
  clear HZZ'
  have HT := HT'
  clear HT'
  have HS := HS'
  clear HS'
  have HM := HM'
  clear HM'
  clear HR
  have o0 : w7.cell? ⟨g1, 0, none⟩ = some (.slice (some ⟨g1 + 1, 0, none⟩) 1 1) := by simpa using HS.out.o 0 (by omega)
  have HSP := Lib.hid (spoil_any w7 (g1 + 1) 1 x (by omega) (fun i hi => ⟨_, HS.out.e 0 (by omega) i hi⟩) (fun i => HS.out.fe 0 (by omega) i))
  go_wp2_with fail
  refine HSP.out.mono ?_
  rintro e w8 ⟨rfl, hB8⟩
  have HZZ' := Lib.hid (HZZ.out.trans (hB8.below.mono (show w.heap.size ≤ g1 + 1 by have := HGL1.out; have := HW2.out; omega)))
  have HT' := Lib.hid (HT.out.trans (hB8.below.mono (show w2.heap.size ≤ g1 + 1 by have := HGL1.out; omega)))
  have HM' := Lib.hid (HM.out.but hB8 (Or.inl (by have := HG12.out; omega)))
  clear hB8 HZZ HT HSP o0 HS HM
  have HZZ := HZZ'
  clear HZZ'
  have HT := HT'
  clear HT'
  have HM := HM'
  clear HM'
  go_wp2_with fail
  refine (star_ok w8 va 1 A h1 h8 HbA.out (HA.out.below HZZ.out)).mono ?_
  rintro e w9 ⟨g3, _, rfl, hG, hb9⟩
  have HT' := Lib.hid (Below.two HT.out hb9)
  have HM' := Lib.hid (HM.out.keep hb9)
  have HZZ' := Lib.hid (Below.two HZZ.out hb9)
  clear hb9 HZZ HT HM
  have HZZ := HZZ'
  clear HZZ'
  have HT := HT'
  clear HT'
  have HM := HM'
  clear HM'
  clear hG
  go_wp2_with fail
  refine wp_region_held_drew (S := (fun _ => True)) (by kernel_rfl) trivial (fun hHeld => ?_)
  refine wpAnyH_take (i := 0) (oi := { dst := some 74, op := Op.move (Operand.tmp 18), type := 25, pos := "own.go:122", after := #[], guard := none }) (v := ?_) rfl (by kernel_rfl) (by kernel_rfl) (by kernel_rfl) (fun _ _ _ h => h) (Or.inl ⟨by rfl, ?_⟩) hHeld ?_
  rotate_left
  · (intro w hSw; (try dsimp only at hSw); go_simp; first | done | with_reducible rfl)
  simp only [Act.put, List.setIfInBounds_toArray, List.set_cons_zero, List.set_cons_succ]
  refine wpAnyH_take (i := 1) (oi := { dst := some 75, op := Op.binOp BinOp.neq 25 (Operand.tmp 74) (Operand.const Value.nilIface) 25, type := 4, pos := "own.go:122", after := #[{ on := 0, ground := Ground.data }], guard := none }) (v := ?_) rfl (by kernel_rfl) (by kernel_rfl) (by kernel_rfl) (fun _ _ _ h => h) (Or.inl ⟨by rfl, ?_⟩) hHeld ?_
  rotate_left
  · (intro w hSw; (try dsimp only at hSw); go_simp; first | done | with_reducible rfl)
  simp only [Act.put, List.setIfInBounds_toArray, List.set_cons_zero, List.set_cons_succ]
  refine wpAnyH_take (i := 2) (oi := { dst := some 76, op := Op.move (Operand.tmp 75), type := 4, pos := "own.go:122", after := #[{ on := 1, ground := Ground.data }], guard := none }) (v := ?_) rfl (by kernel_rfl) (by kernel_rfl) (by kernel_rfl) (fun _ _ _ h => h) (Or.inl ⟨by rfl, ?_⟩) hHeld ?_
  rotate_left
  · (intro w hSw; (try dsimp only at hSw); go_simp; first | done | with_reducible rfl)
  simp only [Act.put, List.setIfInBounds_toArray, List.set_cons_zero, List.set_cons_succ]
  refine wpAnyH_take (i := 3) (oi := { dst := some 77, op := Op.move (Operand.tmp 9), type := 22, pos := "own.go:122", after := #[{ on := 2, ground := Ground.guard }], guard := some (2, false) }) (v := ?_) rfl (by kernel_rfl) (by kernel_rfl) (by kernel_rfl) (fun _ _ _ h => h) (Or.inl ⟨by rfl, ?_⟩) hHeld ?_
  rotate_left
  · (intro w hSw; (try dsimp only at hSw); go_simp; first | done | with_reducible rfl)
  simp only [Act.put, List.setIfInBounds_toArray, List.set_cons_zero, List.set_cons_succ]
  refine wpAnyH_take (i := 4) (oi := { dst := some 78, op := Op.call { callee := Callee.builtin Builtin.len, args := #[Operand.tmp 77], argTypes := #[22] }, type := 3, pos := "own.go:122", after := #[{ on := 3, ground := Ground.data }, { on := 2, ground := Ground.guard }], guard := some (2, false) }) (v := ?_) rfl (by kernel_rfl) (by kernel_rfl) (by kernel_rfl) (fun _ _ _ h => h) (Or.inl ⟨by rfl, ?_⟩) hHeld ?_
  rotate_left
  · (intro w hSw; (try dsimp only at hSw); go_simp; first | done | with_reducible rfl)
  simp only [Act.put, List.setIfInBounds_toArray, List.set_cons_zero, List.set_cons_succ]
  refine wpAnyH_take (i := 5) (oi := { dst := some 79, op := Op.binOp BinOp.gtr 3 (Operand.tmp 78) (Operand.const (Value.int IntKind.i64 1)) 3, type := 4, pos := "own.go:122", after := #[{ on := 4, ground := Ground.data }, { on := 2, ground := Ground.guard }], guard := some (2, false) }) (v := ?_) rfl (by kernel_rfl) (by kernel_rfl) (by kernel_rfl) (fun _ _ _ h => h) (Or.inl ⟨by rfl, ?_⟩) hHeld ?_
  rotate_left
  · (intro w hSw; (try dsimp only at hSw); go_simp; first | done | with_reducible rfl)
  simp only [Act.put, List.setIfInBounds_toArray, List.set_cons_zero, List.set_cons_succ]
  refine wpAnyH_take (i := 6) (oi := { dst := some 80, op := Op.move (Operand.tmp 79), type := 4, pos := "own.go:122", after := #[{ on := 5, ground := Ground.data }, { on := 2, ground := Ground.chain }, { on := 2, ground := Ground.guard }], guard := some (2, false) }) (v := ?_) rfl (by kernel_rfl) (by kernel_rfl) (by kernel_rfl) (fun _ _ _ h => h) (Or.inl ⟨by rfl, ?_⟩) hHeld ?_
  rotate_left
  · (intro w hSw; (try dsimp only at hSw); go_simp; first | done | with_reducible rfl)
  simp only [Act.put, List.setIfInBounds_toArray, List.set_cons_zero, List.set_cons_succ]
  refine wpAnyH_take (i := 7) (oi := { dst := some 81, op := Op.move (Operand.tmp 9), type := 22, pos := "own.go:122", after := #[{ on := 6, ground := Ground.guard }], guard := some (6, true) }) (v := undef) rfl (by kernel_rfl) (by kernel_rfl) (by kernel_rfl) (fun _ _ _ h => h) (Or.inr ⟨by rfl, rfl⟩) hHeld ?_
  simp only [Act.put, List.setIfInBounds_toArray, List.set_cons_zero, List.set_cons_succ]
  refine wpAnyH_take (i := 8) (oi := { dst := some 82, op := Op.indexAddr 22 (Operand.tmp 81) (Operand.const (Value.int IntKind.i64 1)), type := 0, pos := "own.go:122", after := #[{ on := 7, ground := Ground.data }, { on := 6, ground := Ground.guard }], guard := some (6, true) }) (v := undef) rfl (by kernel_rfl) (by kernel_rfl) (by kernel_rfl) (fun _ _ _ h => h) (Or.inr ⟨by rfl, rfl⟩) hHeld ?_
  simp only [Act.put, List.setIfInBounds_toArray, List.set_cons_zero, List.set_cons_succ]
  refine wpAnyH_take (i := 9) (oi := { dst := some 83, op := Op.load 32 (Operand.tmp 82), type := 32, pos := "own.go:122", after := #[{ on := 8, ground := Ground.data }, { on := 6, ground := Ground.guard }], guard := some (6, true) }) (v := undef) rfl (by kernel_rfl) (by kernel_rfl) (by kernel_rfl) (fun _ _ _ h => h) (Or.inr ⟨by rfl, rfl⟩) hHeld ?_
  simp only [Act.put, List.setIfInBounds_toArray, List.set_cons_zero, List.set_cons_succ]
  refine wpAnyH_take (i := 10) (oi := { dst := some 84, op := Op.move (Operand.tmp 17), type := 22, pos := "own.go:122", after := #[{ on := 6, ground := Ground.guard }], guard := some (6, true) }) (v := undef) rfl (by kernel_rfl) (by kernel_rfl) (by kernel_rfl) (fun _ _ _ h => h) (Or.inr ⟨by rfl, rfl⟩) hHeld ?_
  simp only [Act.put, List.setIfInBounds_toArray, List.set_cons_zero, List.set_cons_succ]
  refine wpAnyH_take (i := 11) (oi := { dst := some 85, op := Op.indexAddr 22 (Operand.tmp 84) (Operand.const (Value.int IntKind.i64 1)), type := 0, pos := "own.go:122", after := #[{ on := 10, ground := Ground.data }, { on := 6, ground := Ground.guard }], guard := some (6, true) }) (v := undef) rfl (by kernel_rfl) (by kernel_rfl) (by kernel_rfl) (fun _ _ _ h => h) (Or.inr ⟨by rfl, rfl⟩) hHeld ?_
  simp only [Act.put, List.setIfInBounds_toArray, List.set_cons_zero, List.set_cons_succ]
  refine wpAnyH_take (i := 12) (oi := { dst := some 86, op := Op.load 32 (Operand.tmp 85), type := 32, pos := "own.go:122", after := #[{ on := 11, ground := Ground.data }, { on := 6, ground := Ground.guard }], guard := some (6, true) }) (v := undef) rfl (by kernel_rfl) (by kernel_rfl) (by kernel_rfl) (fun _ _ _ h => h) (Or.inr ⟨by rfl, rfl⟩) hHeld ?_
  simp only [Act.put, List.setIfInBounds_toArray, List.set_cons_zero, List.set_cons_succ]
  refine wpAnyH_take (i := 13) (oi := { dst := some 87, op := Op.call { callee := Callee.value (Operand.func 17), args := #[Operand.tmp 83, Operand.tmp 86], argTypes := #[32, 32] }, type := 4, pos := "own.go:122", after := #[{ on := 9, ground := Ground.data }, { on := 12, ground := Ground.data }, { on := 6, ground := Ground.chain }, { on := 6, ground := Ground.guard }], guard := some (6, true) }) (v := undef) rfl (by kernel_rfl) (by kernel_rfl) (by kernel_rfl) (fun _ _ _ h => h) (Or.inr ⟨by rfl, rfl⟩) hHeld ?_
  simp only [Act.put, List.setIfInBounds_toArray, List.set_cons_zero, List.set_cons_succ]
  refine wpAnyH_take (i := 14) (oi := { dst := some 88, op := Op.unOp UnOp.not 4 (Operand.tmp 87), type := 4, pos := "own.go:122", after := #[{ on := 13, ground := Ground.data }, { on := 6, ground := Ground.guard }], guard := some (6, true) }) (v := undef) rfl (by kernel_rfl) (by kernel_rfl) (by kernel_rfl) (fun _ _ _ h => h) (Or.inr ⟨by rfl, rfl⟩) hHeld ?_
  simp only [Act.put, List.setIfInBounds_toArray, List.set_cons_zero, List.set_cons_succ]
  refine wpAnyH_take (i := 15) (oi := { dst := some 89, op := Op.pick (Operand.tmp 80) (Operand.tmp 88) (Operand.const (Value.bool false)), type := 4, pos := "own.go:122", after := #[{ on := 6, ground := Ground.data }, { on := 14, ground := Ground.data }, { on := 2, ground := Ground.guard }], guard := some (2, false) }) (v := ?_) rfl (by kernel_rfl) (by kernel_rfl) (by kernel_rfl) (fun _ _ _ h => h) (Or.inl ⟨by rfl, ?_⟩) hHeld ?_
  rotate_left
  · (intro w hSw; (try dsimp only at hSw); go_simp; first | done | with_reducible rfl)
  simp only [Act.put, List.setIfInBounds_toArray, List.set_cons_zero, List.set_cons_succ]
  refine wpAnyH_take (i := 16) (oi := { dst := some 90, op := Op.pick (Operand.tmp 76) (Operand.const (Value.bool true)) (Operand.tmp 89), type := 4, pos := "own.go:122", after := #[{ on := 2, ground := Ground.data }, { on := 15, ground := Ground.data }], guard := none }) (v := ?_) rfl (by kernel_rfl) (by kernel_rfl) (by kernel_rfl) (fun _ _ _ h => h) (Or.inl ⟨by rfl, ?_⟩) hHeld ?_
  rotate_left
  · (intro w hSw; (try dsimp only at hSw); go_simp; first | done | with_reducible rfl)
  simp only [Act.put, List.setIfInBounds_toArray, List.set_cons_zero, List.set_cons_succ]
  refine wpAnyH_done (by kernel_rfl) ?_ _
  clear hHeld
  have hbd := (Below.refl w9.heap.size w9).drew
  have HT' := Lib.hid (Below.two HT.out hbd)
  have HM' := Lib.hid (HM.out.keep hbd)
  have HZZ' := Lib.hid (Below.two HZZ.out hbd)
  clear HZZ HT HM
  have HZZ := HZZ'
  clear HZZ'
  have HT := HT'
  clear HT'
  have HM := HM'
  clear HM'
  clear hbd
  generalize w9.drew = w10 at HZZ HT HM ⊢
  have o0 : w10.cell? ⟨g2, 0, none⟩ = some (.slice (some ⟨g2 + 1, 0, none⟩) 1 1) := by simpa using HM.out.o 0 (by omega)
  have HSP := Lib.hid (spoil_any w10 (g2 + 1) 1 x (by omega) (fun i hi => ⟨_, HM.out.e 0 (by omega) i hi⟩) (fun i => HM.out.fe 0 (by omega) i))
  go_wp2_with fail
  refine HSP.out.mono ?_
  rintro e w11 ⟨rfl, hB11⟩
  have HZZ' := Lib.hid (HZZ.out.trans (hB11.below.mono (show w.heap.size ≤ g2 + 1 by have := HGL2.out; have := HW2.out; omega)))
  have HT' := Lib.hid (HT.out.trans (hB11.below.mono (show w2.heap.size ≤ g2 + 1 by have := HGL2.out; omega)))
  clear hB11 HZZ HT HSP o0 HM
  have HZZ := HZZ'
  clear HZZ'
  have HT := HT'
  clear HT'
  go_wp2_with fail
  refine (mul_ok w11 va vb 1 A B h1 h8 HbA.out HbB.out (HA.out.below HZZ.out) (HB.out.below HZZ.out)).mono ?_
  rintro e w12 ⟨g4, _, rfl, hG, hb12⟩
  have HT' := Lib.hid (Below.two HT.out hb12)
  have HZZ' := Lib.hid (Below.two HZZ.out hb12)
  clear hb12 HZZ HT
  have HZZ := HZZ'
  clear HZZ'
  have HT := HT'
  clear HT'
  clear hG
  go_wp2_with fail
  refine wp_region_held_drew (S := (fun _ => True)) (by kernel_rfl) trivial (fun hHeld => ?_)
  refine wpAnyH_take (i := 0) (oi := { dst := some 104, op := Op.move (Operand.tmp 20), type := 25, pos := "own.go:129", after := #[], guard := none }) (v := ?_) rfl (by kernel_rfl) (by kernel_rfl) (by kernel_rfl) (fun _ _ _ h => h) (Or.inl ⟨by rfl, ?_⟩) hHeld ?_
  rotate_left
  · (intro w hSw; (try dsimp only at hSw); go_simp; first | done | with_reducible rfl)
  simp only [Act.put, List.setIfInBounds_toArray, List.set_cons_zero, List.set_cons_succ]
  refine wpAnyH_take (i := 1) (oi := { dst := some 105, op := Op.binOp BinOp.neq 25 (Operand.tmp 104) (Operand.const Value.nilIface) 25, type := 4, pos := "own.go:129", after := #[{ on := 0, ground := Ground.data }], guard := none }) (v := ?_) rfl (by kernel_rfl) (by kernel_rfl) (by kernel_rfl) (fun _ _ _ h => h) (Or.inl ⟨by rfl, ?_⟩) hHeld ?_
  rotate_left
  · (intro w hSw; (try dsimp only at hSw); go_simp; first | done | with_reducible rfl)
  simp only [Act.put, List.setIfInBounds_toArray, List.set_cons_zero, List.set_cons_succ]
  refine wpAnyH_take (i := 2) (oi := { dst := some 106, op := Op.move (Operand.tmp 105), type := 4, pos := "own.go:129", after := #[{ on := 1, ground := Ground.data }], guard := none }) (v := ?_) rfl (by kernel_rfl) (by kernel_rfl) (by kernel_rfl) (fun _ _ _ h => h) (Or.inl ⟨by rfl, ?_⟩) hHeld ?_
  rotate_left
  · (intro w hSw; (try dsimp only at hSw); go_simp; first | done | with_reducible rfl)
  simp only [Act.put, List.setIfInBounds_toArray, List.set_cons_zero, List.set_cons_succ]
  refine wpAnyH_take (i := 3) (oi := { dst := some 107, op := Op.move (Operand.tmp 11), type := 22, pos := "own.go:129", after := #[{ on := 2, ground := Ground.guard }], guard := some (2, false) }) (v := ?_) rfl (by kernel_rfl) (by kernel_rfl) (by kernel_rfl) (fun _ _ _ h => h) (Or.inl ⟨by rfl, ?_⟩) hHeld ?_
  rotate_left
  · (intro w hSw; (try dsimp only at hSw); go_simp; first | done | with_reducible rfl)
  simp only [Act.put, List.setIfInBounds_toArray, List.set_cons_zero, List.set_cons_succ]
  refine wpAnyH_take (i := 4) (oi := { dst := some 108, op := Op.call { callee := Callee.builtin Builtin.len, args := #[Operand.tmp 107], argTypes := #[22] }, type := 3, pos := "own.go:129", after := #[{ on := 3, ground := Ground.data }, { on := 2, ground := Ground.guard }], guard := some (2, false) }) (v := ?_) rfl (by kernel_rfl) (by kernel_rfl) (by kernel_rfl) (fun _ _ _ h => h) (Or.inl ⟨by rfl, ?_⟩) hHeld ?_
  rotate_left
  · (intro w hSw; (try dsimp only at hSw); go_simp; first | done | with_reducible rfl)
  simp only [Act.put, List.setIfInBounds_toArray, List.set_cons_zero, List.set_cons_succ]
  refine wpAnyH_take (i := 5) (oi := { dst := some 109, op := Op.binOp BinOp.gtr 3 (Operand.tmp 108) (Operand.const (Value.int IntKind.i64 1)) 3, type := 4, pos := "own.go:129", after := #[{ on := 4, ground := Ground.data }, { on := 2, ground := Ground.guard }], guard := some (2, false) }) (v := ?_) rfl (by kernel_rfl) (by kernel_rfl) (by kernel_rfl) (fun _ _ _ h => h) (Or.inl ⟨by rfl, ?_⟩) hHeld ?_
  rotate_left
  · (intro w hSw; (try dsimp only at hSw); go_simp; first | done | with_reducible rfl)
  simp only [Act.put, List.setIfInBounds_toArray, List.set_cons_zero, List.set_cons_succ]
  refine wpAnyH_take (i := 6) (oi := { dst := some 110, op := Op.move (Operand.tmp 109), type := 4, pos := "own.go:129", after := #[{ on := 5, ground := Ground.data }, { on := 2, ground := Ground.chain }, { on := 2, ground := Ground.guard }], guard := some (2, false) }) (v := ?_) rfl (by kernel_rfl) (by kernel_rfl) (by kernel_rfl) (fun _ _ _ h => h) (Or.inl ⟨by rfl, ?_⟩) hHeld ?_
  rotate_left
  · (intro w hSw; (try dsimp only at hSw); go_simp; first | done | with_reducible rfl)
  simp only [Act.put, List.setIfInBounds_toArray, List.set_cons_zero, List.set_cons_succ]
  refine wpAnyH_take (i := 7) (oi := { dst := some 111, op := Op.move (Operand.tmp 11), type := 22, pos := "own.go:129", after := #[{ on := 6, ground := Ground.guard }], guard := some (6, true) }) (v := undef) rfl (by kernel_rfl) (by kernel_rfl) (by kernel_rfl) (fun _ _ _ h => h) (Or.inr ⟨by rfl, rfl⟩) hHeld ?_
  simp only [Act.put, List.setIfInBounds_toArray, List.set_cons_zero, List.set_cons_succ]
  refine wpAnyH_take (i := 8) (oi := { dst := some 112, op := Op.indexAddr 22 (Operand.tmp 111) (Operand.const (Value.int IntKind.i64 1)), type := 0, pos := "own.go:129", after := #[{ on := 7, ground := Ground.data }, { on := 6, ground := Ground.guard }], guard := some (6, true) }) (v := undef) rfl (by kernel_rfl) (by kernel_rfl) (by kernel_rfl) (fun _ _ _ h => h) (Or.inr ⟨by rfl, rfl⟩) hHeld ?_
  simp only [Act.put, List.setIfInBounds_toArray, List.set_cons_zero, List.set_cons_succ]
  refine wpAnyH_take (i := 9) (oi := { dst := some 113, op := Op.load 32 (Operand.tmp 112), type := 32, pos := "own.go:129", after := #[{ on := 8, ground := Ground.data }, { on := 6, ground := Ground.guard }], guard := some (6, true) }) (v := undef) rfl (by kernel_rfl) (by kernel_rfl) (by kernel_rfl) (fun _ _ _ h => h) (Or.inr ⟨by rfl, rfl⟩) hHeld ?_
  simp only [Act.put, List.setIfInBounds_toArray, List.set_cons_zero, List.set_cons_succ]
  refine wpAnyH_take (i := 10) (oi := { dst := some 114, op := Op.move (Operand.tmp 19), type := 22, pos := "own.go:129", after := #[{ on := 6, ground := Ground.guard }], guard := some (6, true) }) (v := undef) rfl (by kernel_rfl) (by kernel_rfl) (by kernel_rfl) (fun _ _ _ h => h) (Or.inr ⟨by rfl, rfl⟩) hHeld ?_
  simp only [Act.put, List.setIfInBounds_toArray, List.set_cons_zero, List.set_cons_succ]
  refine wpAnyH_take (i := 11) (oi := { dst := some 115, op := Op.indexAddr 22 (Operand.tmp 114) (Operand.const (Value.int IntKind.i64 1)), type := 0, pos := "own.go:129", after := #[{ on := 10, ground := Ground.data }, { on := 6, ground := Ground.guard }], guard := some (6, true) }) (v := undef) rfl (by kernel_rfl) (by kernel_rfl) (by kernel_rfl) (fun _ _ _ h => h) (Or.inr ⟨by rfl, rfl⟩) hHeld ?_
  simp only [Act.put, List.setIfInBounds_toArray, List.set_cons_zero, List.set_cons_succ]
  refine wpAnyH_take (i := 12) (oi := { dst := some 116, op := Op.load 32 (Operand.tmp 115), type := 32, pos := "own.go:129", after := #[{ on := 11, ground := Ground.data }, { on := 6, ground := Ground.guard }], guard := some (6, true) }) (v := undef) rfl (by kernel_rfl) (by kernel_rfl) (by kernel_rfl) (fun _ _ _ h => h) (Or.inr ⟨by rfl, rfl⟩) hHeld ?_
  simp only [Act.put, List.setIfInBounds_toArray, List.set_cons_zero, List.set_cons_succ]
  refine wpAnyH_take (i := 13) (oi := { dst := some 117, op := Op.call { callee := Callee.value (Operand.func 17), args := #[Operand.tmp 113, Operand.tmp 116], argTypes := #[32, 32] }, type := 4, pos := "own.go:129", after := #[{ on := 9, ground := Ground.data }, { on := 12, ground := Ground.data }, { on := 6, ground := Ground.chain }, { on := 6, ground := Ground.guard }], guard := some (6, true) }) (v := undef) rfl (by kernel_rfl) (by kernel_rfl) (by kernel_rfl) (fun _ _ _ h => h) (Or.inr ⟨by rfl, rfl⟩) hHeld ?_
  simp only [Act.put, List.setIfInBounds_toArray, List.set_cons_zero, List.set_cons_succ]
  refine wpAnyH_take (i := 14) (oi := { dst := some 118, op := Op.unOp UnOp.not 4 (Operand.tmp 117), type := 4, pos := "own.go:129", after := #[{ on := 13, ground := Ground.data }, { on := 6, ground := Ground.guard }], guard := some (6, true) }) (v := undef) rfl (by kernel_rfl) (by kernel_rfl) (by kernel_rfl) (fun _ _ _ h => h) (Or.inr ⟨by rfl, rfl⟩) hHeld ?_
  simp only [Act.put, List.setIfInBounds_toArray, List.set_cons_zero, List.set_cons_succ]
  refine wpAnyH_take (i := 15) (oi := { dst := some 119, op := Op.pick (Operand.tmp 110) (Operand.tmp 118) (Operand.const (Value.bool false)), type := 4, pos := "own.go:129", after := #[{ on := 6, ground := Ground.data }, { on := 14, ground := Ground.data }, { on := 2, ground := Ground.guard }], guard := some (2, false) }) (v := ?_) rfl (by kernel_rfl) (by kernel_rfl) (by kernel_rfl) (fun _ _ _ h => h) (Or.inl ⟨by rfl, ?_⟩) hHeld ?_
  rotate_left
  · (intro w hSw; (try dsimp only at hSw); go_simp; first | done | with_reducible rfl)
  simp only [Act.put, List.setIfInBounds_toArray, List.set_cons_zero, List.set_cons_succ]
  refine wpAnyH_take (i := 16) (oi := { dst := some 120, op := Op.pick (Operand.tmp 106) (Operand.const (Value.bool true)) (Operand.tmp 119), type := 4, pos := "own.go:129", after := #[{ on := 2, ground := Ground.data }, { on := 15, ground := Ground.data }], guard := none }) (v := ?_) rfl (by kernel_rfl) (by kernel_rfl) (by kernel_rfl) (fun _ _ _ h => h) (Or.inl ⟨by rfl, ?_⟩) hHeld ?_
  rotate_left
  · (intro w hSw; (try dsimp only at hSw); go_simp; first | done | with_reducible rfl)
  simp only [Act.put, List.setIfInBounds_toArray, List.set_cons_zero, List.set_cons_succ]
  refine wpAnyH_done (by kernel_rfl) ?_ _
  clear hHeld
  have hbd := (Below.refl w12.heap.size w12).drew
  have HT' := Lib.hid (Below.two HT.out hbd)
  have HZZ' := Lib.hid (Below.two HZZ.out hbd)
  clear HZZ HT
  have HZZ := HZZ'
  clear HZZ'
  have HT := HT'
  clear HT'
  clear hbd
  generalize w12.drew = w13 at HZZ HT ⊢
  have HR := sameRows_any w13 vp va (rowsN 1 A) (rowsN 1 A) (by have := HSA.out.1; omega) (fun r hr => by have := HSA.out.2 r hr; omega) (HP.out.below HT.out) (HA.out.below HZZ.out)
  rw [decide_eq_true rfl] at HR
  have HR := Lib.hid HR
  go_wp2_with fail
  refine (HR.out).mono ?_
  rintro e w14 ⟨rfl, hb14⟩
  have HT' := Lib.hid (Below.two HT.out hb14)
  have HZZ' := Lib.hid (Below.two HZZ.out hb14)
  clear hb14 HZZ HT
  have HZZ := HZZ'
  clear HZZ'
  have HT := HT'
  clear HT'
  clear HR
  go_wp2_with fail
  go_ret
  exact ⟨rfl, HZZ.out⟩
set_option maxHeartbeats 4000000 in
set_option maxRecDepth 100000 in
theorem own_m2 (w : World) (va vb : Value) (n : Nat) (A : MatP.T) (B : MatP.T) (x : Int) (h1 : 1 ≤ n) (h8 : n ≤ 8) (h2 : 1 < n) (hbA : MatP.Bd A) (hbB : MatP.Bd B) (sa : (rowsN n A).length * 24 ≤ 140737488351232 ∧ ∀ r ∈ (rowsN n A), r.length * 8 ≤ 140737488351232) (sb : (rowsN n B).length * 24 ≤ 140737488351232 ∧ ∀ r ∈ (rowsN n B), r.length * 8 ≤ 140737488351232) (ha : ArgR w va (rowsN n A)) (hb : ArgR w vb (rowsN n B)) :
    Calls Try.prog 7 #[va, vb, .int .i64 x] w fun e w' => e = .returned (.bool true) ∧ Below w.heap.size w w' := by
  have HA := Lib.hid ha; have HB := Lib.hid hb; have HSA := Lib.hid sa; have HSB := Lib.hid sb
  clear ha hb sa sb
  have HbA := Lib.hid hbA
  clear hbA
  have t0 : 0 < n := by omega
  have t1 : (1 : Int) < (n : Int) := by omega
  have HbB := Lib.hid hbB
  clear hbB
  have HZZ : Hid (Below w.heap.size w w) := Lib.hid (Below.refl _ _)
  go_enter Try.func7, Try.ntmps7
  go_wp2_with fail
  refine (rowsCopy_any w va (rowsN n A) HSA.out (HA.out.below HZZ.out)).mono ?_
  rintro e w1 ⟨vp, rfl, hO, hb1⟩
  have HZZ' := Lib.hid (Below.two HZZ.out hb1)
  have HP := Lib.hid (hO.arg)
  clear hb1 HZZ 
  have HZZ := HZZ'
  clear HZZ'
  clear hO
  go_wp2_with fail
  refine (rowsCopy_any w1 vb (rowsN n B) HSB.out (HB.out.below HZZ.out)).mono ?_
  rintro e w2 ⟨vq, rfl, hO, hb2⟩
  have HP' := Lib.hid (HP.out.below hb2)
  have HZZ' := Lib.hid (Below.two HZZ.out hb2)
  have HQ := Lib.hid (hO.arg)
  clear hb2 HZZ HP
  have HZZ := HZZ'
  clear HZZ'
  have HP := HP'
  clear HP'
  clear hO
  have HW2 := Lib.hid HZZ.out.size
  have HT : Hid (Below w2.heap.size w2 w2) := Lib.hid (Below.refl _ _)
  go_wp2_with fail
  refine (star_ok w2 vp n A h1 h8 HbA.out (HP.out.below HT.out)).mono ?_
  rintro e w3 ⟨g1, hg1, rfl, hG, hb3⟩
  have HT' := Lib.hid (Below.two HT.out hb3)
  have HZZ' := Lib.hid (Below.two HZZ.out hb3)
  have HS := Lib.hid (hG)
  clear hb3 HZZ HT
  have HZZ := HZZ'
  clear HZZ'
  have HT := HT'
  clear HT'
  have HGL1 := Lib.hid hg1
  clear hG hg1
  have hlt := HS.out.lt
  go_wp2_with fail
  refine (mul_ok w3 vp vq n A B h1 h8 HbA.out HbB.out (HP.out.below HT.out) (HQ.out.below HT.out)).mono ?_
  rintro e w4 ⟨g2, hg2, rfl, hG, hb4⟩
  have HT' := Lib.hid (Below.two HT.out hb4)
  have HS' := Lib.hid (HS.out.keep hb4)
  have HZZ' := Lib.hid (Below.two HZZ.out hb4)
  have HM := Lib.hid (hG)
  clear hb4 HZZ HT HS
  have HZZ := HZZ'
  clear HZZ'
  have HT := HT'
  clear HT'
  have HS := HS'
  clear HS'
  have HG12 : Hid (g1 + n < g2) := Lib.hid (by omega)
  have HGL2 : Hid (w2.heap.size ≤ g2) := Lib.hid (by have := HGL1.out; omega)
  clear hG hg2 hlt
  go_wp2_with fail
  refine (one_yes w4 1 (by decide) (by decide)).mono ?_
  rintro e w5 ⟨g0, _, rfl, _, hb5⟩
  have HT' := Lib.hid (Below.two HT.out hb5)
  have HS' := Lib.hid (HS.out.keep hb5)
  have HM' := Lib.hid (HM.out.keep hb5)
  have HZZ' := Lib.hid (Below.two HZZ.out hb5)
  clear hb5 HZZ HT HS HM
  have HZZ := HZZ'
  clear HZZ'
  have HT := HT'
  clear HT'
  have HS := HS'
  clear HS'
  have HM := HM'
  clear HM'
  have HR := sameRows_any w5 vp va (rowsN n A) (rowsN n A) (by have := HSA.out.1; omega) (fun r hr => by have := HSA.out.2 r hr; omega) (HP.out.below HT.out) (HA.out.below HZZ.out)
  rw [decide_eq_true rfl] at HR
  have HR := Lib.hid HR
  go_wp2_with fail
  refine (HR.out).mono ?_
  rintro e w6 ⟨rfl, hb6⟩
  have HT' := Lib.hid (Below.two HT.out hb6)
  have HS' := Lib.hid (HS.out.keep hb6)
  have HM' := Lib.hid (HM.out.keep hb6)
  have HZZ' := Lib.hid (Below.two HZZ.out hb6)
  clear hb6 HZZ HT HS HM
  have HZZ := HZZ'
  clear HZZ'
  have HT := HT'
  clear HT'
  have HS := HS'
  clear HS'
  have HM := HM'
  clear HM'
  clear HR
  have HR := sameRows_any w6 vq vb (rowsN n B) (rowsN n B) (by have := HSB.out.1; omega) (fun r hr => by have := HSB.out.2 r hr; omega) (HQ.out.below HT.out) (HB.out.below HZZ.out)
  rw [decide_eq_true rfl] at HR
  have HR := Lib.hid HR
  go_wp2_with fail
  refine (HR.out).mono ?_
  rintro e w7 ⟨rfl, hb7⟩
  have HT' := Lib.hid (Below.two HT.out hb7)
  have HS' := Lib.hid (HS.out.keep hb7)
  have HM' := Lib.hid (HM.out.keep hb7)
  have HZZ' := Lib.hid (Below.two HZZ.out hb7)
  clear hb7 HZZ HT HS HM
  have HZZ := HZZ'
  clear HZZ'
  have HT := HT'
  clear HT'
  have HS := HS'
  clear HS'
  have HM := HM'
  clear HM'
  clear HR
  have o0 : w7.cell? ⟨g1, 0, none⟩ = some (.slice (some ⟨g1 + 1, 0, none⟩) n n) := by simpa using HS.out.o 0 (by omega)
  have HSP := Lib.hid (spoil_any w7 (g1 + 1) n x (by omega) (fun i hi => ⟨_, HS.out.e 0 (by omega) i hi⟩) (fun i => HS.out.fe 0 (by omega) i))
  go_wp2_with fail
  refine HSP.out.mono ?_
  rintro e w8 ⟨rfl, hB8⟩
  have HZZ' := Lib.hid (HZZ.out.trans (hB8.below.mono (show w.heap.size ≤ g1 + 1 by have := HGL1.out; have := HW2.out; omega)))
  have HT' := Lib.hid (HT.out.trans (hB8.below.mono (show w2.heap.size ≤ g1 + 1 by have := HGL1.out; omega)))
  have HM' := Lib.hid (HM.out.but hB8 (Or.inl (by have := HG12.out; omega)))
  obtain ⟨b1, hR1⟩ := HS.out.secondBut hB8 (by omega)
  have HR1 := Lib.hid hR1
  clear hR1
  clear hB8 HZZ HT HSP o0 HS HM
  have HZZ := HZZ'
  clear HZZ'
  have HT := HT'
  clear HT'
  have HM := HM'
  clear HM'
  go_wp2_with fail
  refine (star_ok w8 va n A h1 h8 HbA.out (HA.out.below HZZ.out)).mono ?_
  rintro e w9 ⟨g3, _, rfl, hG, hb9⟩
  have HT' := Lib.hid (Below.two HT.out hb9)
  have HM' := Lib.hid (HM.out.keep hb9)
  have HR1' := Lib.hid (HR1.out.below hb9)
  have HZZ' := Lib.hid (Below.two HZZ.out hb9)
  clear hb9 HZZ HT HM HR1
  have HZZ := HZZ'
  clear HZZ'
  have HT := HT'
  clear HT'
  have HM := HM'
  clear HM'
  have HR1 := HR1'
  clear HR1'
  obtain ⟨b2, hT1⟩ := hG.second (by omega)
  have HT1 := Lib.hid hT1
  clear hG hT1
  have hS := And.intro HR1.out.c HT1.out.c
  have HC := sameInts_any w9.drew _ _ _ _ (by simp; omega) (HR1.out.arg.below (Below.refl _ _).drew) (HT1.out.arg.below (Below.refl _ _).drew)
  rw [decide_eq_true rfl] at HC
  have HC := Lib.hid HC
  go_wp2_with fail
  refine wp_region_held_drew (S := (fun w' => w'.cell? ⟨g1, 1, none⟩ = some (.slice (some ⟨b1, 0, none⟩) n n) ∧ w'.cell? ⟨g3, 1, none⟩ = some (.slice (some ⟨b2, 0, none⟩) n n))) (by kernel_rfl) hS (fun hHeld => ?_)
  refine wpAnyH_take (i := 0) (oi := { dst := some 74, op := Op.move (Operand.tmp 18), type := 25, pos := "own.go:122", after := #[], guard := none }) (v := ?_) rfl (by kernel_rfl) (by kernel_rfl) (by kernel_rfl) (fun _ _ _ h => h) (Or.inl ⟨by rfl, ?_⟩) hHeld ?_
  rotate_left
  · (intro w hSw; (try dsimp only at hSw); go_simp; first | done | with_reducible rfl)
  simp only [Act.put, List.setIfInBounds_toArray, List.set_cons_zero, List.set_cons_succ]
  refine wpAnyH_take (i := 1) (oi := { dst := some 75, op := Op.binOp BinOp.neq 25 (Operand.tmp 74) (Operand.const Value.nilIface) 25, type := 4, pos := "own.go:122", after := #[{ on := 0, ground := Ground.data }], guard := none }) (v := ?_) rfl (by kernel_rfl) (by kernel_rfl) (by kernel_rfl) (fun _ _ _ h => h) (Or.inl ⟨by rfl, ?_⟩) hHeld ?_
  rotate_left
  · (intro w hSw; (try dsimp only at hSw); go_simp; first | done | with_reducible rfl)
  simp only [Act.put, List.setIfInBounds_toArray, List.set_cons_zero, List.set_cons_succ]
  refine wpAnyH_take (i := 2) (oi := { dst := some 76, op := Op.move (Operand.tmp 75), type := 4, pos := "own.go:122", after := #[{ on := 1, ground := Ground.data }], guard := none }) (v := ?_) rfl (by kernel_rfl) (by kernel_rfl) (by kernel_rfl) (fun _ _ _ h => h) (Or.inl ⟨by rfl, ?_⟩) hHeld ?_
  rotate_left
  · (intro w hSw; (try dsimp only at hSw); go_simp; first | done | with_reducible rfl)
  simp only [Act.put, List.setIfInBounds_toArray, List.set_cons_zero, List.set_cons_succ]
  refine wpAnyH_take (i := 3) (oi := { dst := some 77, op := Op.move (Operand.tmp 9), type := 22, pos := "own.go:122", after := #[{ on := 2, ground := Ground.guard }], guard := some (2, false) }) (v := ?_) rfl (by kernel_rfl) (by kernel_rfl) (by kernel_rfl) (fun _ _ _ h => h) (Or.inl ⟨by rfl, ?_⟩) hHeld ?_
  rotate_left
  · (intro w hSw; (try dsimp only at hSw); go_simp; first | done | with_reducible rfl)
  simp only [Act.put, List.setIfInBounds_toArray, List.set_cons_zero, List.set_cons_succ]
  refine wpAnyH_take (i := 4) (oi := { dst := some 78, op := Op.call { callee := Callee.builtin Builtin.len, args := #[Operand.tmp 77], argTypes := #[22] }, type := 3, pos := "own.go:122", after := #[{ on := 3, ground := Ground.data }, { on := 2, ground := Ground.guard }], guard := some (2, false) }) (v := ?_) rfl (by kernel_rfl) (by kernel_rfl) (by kernel_rfl) (fun _ _ _ h => h) (Or.inl ⟨by rfl, ?_⟩) hHeld ?_
  rotate_left
  · (intro w hSw; (try dsimp only at hSw); go_simp; first | done | with_reducible rfl)
  simp only [Act.put, List.setIfInBounds_toArray, List.set_cons_zero, List.set_cons_succ]
  refine wpAnyH_take (i := 5) (oi := { dst := some 79, op := Op.binOp BinOp.gtr 3 (Operand.tmp 78) (Operand.const (Value.int IntKind.i64 1)) 3, type := 4, pos := "own.go:122", after := #[{ on := 4, ground := Ground.data }, { on := 2, ground := Ground.guard }], guard := some (2, false) }) (v := ?_) rfl (by kernel_rfl) (by kernel_rfl) (by kernel_rfl) (fun _ _ _ h => h) (Or.inl ⟨by rfl, ?_⟩) hHeld ?_
  rotate_left
  · (intro w hSw; (try dsimp only at hSw); go_simp; first | done | with_reducible rfl)
  simp only [Act.put, List.setIfInBounds_toArray, List.set_cons_zero, List.set_cons_succ]
  refine wpAnyH_take (i := 6) (oi := { dst := some 80, op := Op.move (Operand.tmp 79), type := 4, pos := "own.go:122", after := #[{ on := 5, ground := Ground.data }, { on := 2, ground := Ground.chain }, { on := 2, ground := Ground.guard }], guard := some (2, false) }) (v := ?_) rfl (by kernel_rfl) (by kernel_rfl) (by kernel_rfl) (fun _ _ _ h => h) (Or.inl ⟨by rfl, ?_⟩) hHeld ?_
  rotate_left
  · (intro w hSw; (try dsimp only at hSw); go_simp; first | done | with_reducible rfl)
  simp only [Act.put, List.setIfInBounds_toArray, List.set_cons_zero, List.set_cons_succ]
  refine wpAnyH_take (i := 7) (oi := { dst := some 81, op := Op.move (Operand.tmp 9), type := 22, pos := "own.go:122", after := #[{ on := 6, ground := Ground.guard }], guard := some (6, true) }) (v := ?_) rfl (by kernel_rfl) (by kernel_rfl) (by kernel_rfl) (fun _ _ _ h => h) (Or.inl ⟨by rfl, ?_⟩) hHeld ?_
  rotate_left
  · (intro w hSw; (try dsimp only at hSw); go_simp; first | done | with_reducible rfl)
  simp only [Act.put, List.setIfInBounds_toArray, List.set_cons_zero, List.set_cons_succ]
  refine wpAnyH_take (i := 8) (oi := { dst := some 82, op := Op.indexAddr 22 (Operand.tmp 81) (Operand.const (Value.int IntKind.i64 1)), type := 0, pos := "own.go:122", after := #[{ on := 7, ground := Ground.data }, { on := 6, ground := Ground.guard }], guard := some (6, true) }) (v := ?_) rfl (by kernel_rfl) (by kernel_rfl) (by kernel_rfl) (fun _ _ _ h => h) (Or.inl ⟨by rfl, ?_⟩) hHeld ?_
  rotate_left
  · (intro w hSw; (try dsimp only at hSw); go_simp; first | done | with_reducible rfl)
  simp only [Act.put, List.setIfInBounds_toArray, List.set_cons_zero, List.set_cons_succ]
  refine wpAnyH_take (i := 9) (oi := { dst := some 83, op := Op.load 32 (Operand.tmp 82), type := 32, pos := "own.go:122", after := #[{ on := 8, ground := Ground.data }, { on := 6, ground := Ground.guard }], guard := some (6, true) }) (v := ?_) rfl (by kernel_rfl) (by kernel_rfl) (by kernel_rfl) (fun _ _ _ h => h) (Or.inl ⟨by rfl, ?_⟩) hHeld ?_
  rotate_left
  · (intro w hSw; (try dsimp only at hSw); go_simp; first | done | with_reducible rfl)
  simp only [Act.put, List.setIfInBounds_toArray, List.set_cons_zero, List.set_cons_succ]
  refine wpAnyH_take (i := 10) (oi := { dst := some 84, op := Op.move (Operand.tmp 17), type := 22, pos := "own.go:122", after := #[{ on := 6, ground := Ground.guard }], guard := some (6, true) }) (v := ?_) rfl (by kernel_rfl) (by kernel_rfl) (by kernel_rfl) (fun _ _ _ h => h) (Or.inl ⟨by rfl, ?_⟩) hHeld ?_
  rotate_left
  · (intro w hSw; (try dsimp only at hSw); go_simp; first | done | with_reducible rfl)
  simp only [Act.put, List.setIfInBounds_toArray, List.set_cons_zero, List.set_cons_succ]
  refine wpAnyH_take (i := 11) (oi := { dst := some 85, op := Op.indexAddr 22 (Operand.tmp 84) (Operand.const (Value.int IntKind.i64 1)), type := 0, pos := "own.go:122", after := #[{ on := 10, ground := Ground.data }, { on := 6, ground := Ground.guard }], guard := some (6, true) }) (v := ?_) rfl (by kernel_rfl) (by kernel_rfl) (by kernel_rfl) (fun _ _ _ h => h) (Or.inl ⟨by rfl, ?_⟩) hHeld ?_
  rotate_left
  · (intro w hSw; (try dsimp only at hSw); go_simp; first | done | with_reducible rfl)
  simp only [Act.put, List.setIfInBounds_toArray, List.set_cons_zero, List.set_cons_succ]
  refine wpAnyH_take (i := 12) (oi := { dst := some 86, op := Op.load 32 (Operand.tmp 85), type := 32, pos := "own.go:122", after := #[{ on := 11, ground := Ground.data }, { on := 6, ground := Ground.guard }], guard := some (6, true) }) (v := ?_) rfl (by kernel_rfl) (by kernel_rfl) (by kernel_rfl) (fun _ _ _ h => h) (Or.inl ⟨by rfl, ?_⟩) hHeld ?_
  rotate_left
  · (intro w hSw; (try dsimp only at hSw); go_simp; first | done | with_reducible rfl)
  simp only [Act.put, List.setIfInBounds_toArray, List.set_cons_zero, List.set_cons_succ]
  refine wpAnyH_ready (rs := [13]) (by kernel_rfl) (by simp) ?_
  refine (AllReadyH.cons (o := { dst := some 87, op := Op.call { callee := Callee.value (Operand.func 17), args := #[Operand.tmp 83, Operand.tmp 86], argTypes := #[32, 32] }, type := 4, pos := "own.go:122", after := #[{ on := 9, ground := Ground.data }, { on := 12, ground := Ground.data }, { on := 6, ground := Ground.chain }, { on := 6, ground := Ground.guard }], guard := some (6, true) }) rfl (fun K hK => ?_) AllReadyH.nil)
  go_simp
  go_at_call 17
  refine HC.out.mono ?_
  rintro e w10 ⟨rfl, hq⟩
  have hb10 : Below w9.heap.size w9 w10 := ((Below.refl w9.heap.size w9).drew).trans hq
  have HT' := Lib.hid (Below.two HT.out hb10)
  have HM' := Lib.hid (HM.out.keep hb10)
  have HR1' := Lib.hid (HR1.out.below hb10)
  have HT1' := Lib.hid (HT1.out.below hb10)
  have HZZ' := Lib.hid (Below.two HZZ.out hb10)
  clear HZZ HT HM HR1 HT1
  have HZZ := HZZ'
  clear HZZ'
  have HT := HT'
  clear HT'
  have HM := HM'
  clear HM'
  have HR1 := HR1'
  clear HR1'
  have HT1 := HT1'
  clear HT1'
  have KK13 := And.intro HR1.out.c HT1.out.c
  clear hHeld hq hb10 HC
  go_wp2_with fail
  refine hK.out _ _ KK13 (fun hHeld => ?_)
  clear hK K
  refine wpAnyH_take (i := 14) (oi := { dst := some 88, op := Op.unOp UnOp.not 4 (Operand.tmp 87), type := 4, pos := "own.go:122", after := #[{ on := 13, ground := Ground.data }, { on := 6, ground := Ground.guard }], guard := some (6, true) }) (v := ?_) rfl (by kernel_rfl) (by kernel_rfl) (by kernel_rfl) (fun _ _ _ h => h) (Or.inl ⟨by rfl, ?_⟩) hHeld ?_
  rotate_left
  · (intro w hSw; (try dsimp only at hSw); go_simp; first | done | with_reducible rfl)
  simp only [Act.put, List.setIfInBounds_toArray, List.set_cons_zero, List.set_cons_succ]
  refine wpAnyH_take (i := 15) (oi := { dst := some 89, op := Op.pick (Operand.tmp 80) (Operand.tmp 88) (Operand.const (Value.bool false)), type := 4, pos := "own.go:122", after := #[{ on := 6, ground := Ground.data }, { on := 14, ground := Ground.data }, { on := 2, ground := Ground.guard }], guard := some (2, false) }) (v := ?_) rfl (by kernel_rfl) (by kernel_rfl) (by kernel_rfl) (fun _ _ _ h => h) (Or.inl ⟨by rfl, ?_⟩) hHeld ?_
  rotate_left
  · (intro w hSw; (try dsimp only at hSw); go_simp; first | done | with_reducible rfl)
  simp only [Act.put, List.setIfInBounds_toArray, List.set_cons_zero, List.set_cons_succ]
  refine wpAnyH_take (i := 16) (oi := { dst := some 90, op := Op.pick (Operand.tmp 76) (Operand.const (Value.bool true)) (Operand.tmp 89), type := 4, pos := "own.go:122", after := #[{ on := 2, ground := Ground.data }, { on := 15, ground := Ground.data }], guard := none }) (v := ?_) rfl (by kernel_rfl) (by kernel_rfl) (by kernel_rfl) (fun _ _ _ h => h) (Or.inl ⟨by rfl, ?_⟩) hHeld ?_
  rotate_left
  · (intro w hSw; (try dsimp only at hSw); go_simp; first | done | with_reducible rfl)
  simp only [Act.put, List.setIfInBounds_toArray, List.set_cons_zero, List.set_cons_succ]
  refine wpAnyH_done (by kernel_rfl) ?_ _
  clear hHeld
  clear HR1 HT1
  have o0 : w10.cell? ⟨g2, 0, none⟩ = some (.slice (some ⟨g2 + 1, 0, none⟩) n n) := by simpa using HM.out.o 0 (by omega)
  have HSP := Lib.hid (spoil_any w10 (g2 + 1) n x (by omega) (fun i hi => ⟨_, HM.out.e 0 (by omega) i hi⟩) (fun i => HM.out.fe 0 (by omega) i))
  go_wp2_with fail
  refine HSP.out.mono ?_
  rintro e w11 ⟨rfl, hB11⟩
  have HZZ' := Lib.hid (HZZ.out.trans (hB11.below.mono (show w.heap.size ≤ g2 + 1 by have := HGL2.out; have := HW2.out; omega)))
  have HT' := Lib.hid (HT.out.trans (hB11.below.mono (show w2.heap.size ≤ g2 + 1 by have := HGL2.out; omega)))
  obtain ⟨b1, hR1⟩ := HM.out.secondBut hB11 (by omega)
  have HR1 := Lib.hid hR1
  clear hR1
  clear hB11 HZZ HT HSP o0 HM
  have HZZ := HZZ'
  clear HZZ'
  have HT := HT'
  clear HT'
  go_wp2_with fail
  refine (mul_ok w11 va vb n A B h1 h8 HbA.out HbB.out (HA.out.below HZZ.out) (HB.out.below HZZ.out)).mono ?_
  rintro e w12 ⟨g4, _, rfl, hG, hb12⟩
  have HT' := Lib.hid (Below.two HT.out hb12)
  have HR1' := Lib.hid (HR1.out.below hb12)
  have HZZ' := Lib.hid (Below.two HZZ.out hb12)
  clear hb12 HZZ HT HR1
  have HZZ := HZZ'
  clear HZZ'
  have HT := HT'
  clear HT'
  have HR1 := HR1'
  clear HR1'
  obtain ⟨b2, hT1⟩ := hG.second (by omega)
  have HT1 := Lib.hid hT1
  clear hG hT1
  have hS := And.intro HR1.out.c HT1.out.c
  have HC := sameInts_any w12.drew _ _ _ _ (by simp; omega) (HR1.out.arg.below (Below.refl _ _).drew) (HT1.out.arg.below (Below.refl _ _).drew)
  rw [decide_eq_true rfl] at HC
  have HC := Lib.hid HC
  go_wp2_with fail
  refine wp_region_held_drew (S := (fun w' => w'.cell? ⟨g2, 1, none⟩ = some (.slice (some ⟨b1, 0, none⟩) n n) ∧ w'.cell? ⟨g4, 1, none⟩ = some (.slice (some ⟨b2, 0, none⟩) n n))) (by kernel_rfl) hS (fun hHeld => ?_)
  refine wpAnyH_take (i := 0) (oi := { dst := some 104, op := Op.move (Operand.tmp 20), type := 25, pos := "own.go:129", after := #[], guard := none }) (v := ?_) rfl (by kernel_rfl) (by kernel_rfl) (by kernel_rfl) (fun _ _ _ h => h) (Or.inl ⟨by rfl, ?_⟩) hHeld ?_
  rotate_left
  · (intro w hSw; (try dsimp only at hSw); go_simp; first | done | with_reducible rfl)
  simp only [Act.put, List.setIfInBounds_toArray, List.set_cons_zero, List.set_cons_succ]
  refine wpAnyH_take (i := 1) (oi := { dst := some 105, op := Op.binOp BinOp.neq 25 (Operand.tmp 104) (Operand.const Value.nilIface) 25, type := 4, pos := "own.go:129", after := #[{ on := 0, ground := Ground.data }], guard := none }) (v := ?_) rfl (by kernel_rfl) (by kernel_rfl) (by kernel_rfl) (fun _ _ _ h => h) (Or.inl ⟨by rfl, ?_⟩) hHeld ?_
  rotate_left
  · (intro w hSw; (try dsimp only at hSw); go_simp; first | done | with_reducible rfl)
  simp only [Act.put, List.setIfInBounds_toArray, List.set_cons_zero, List.set_cons_succ]
  refine wpAnyH_take (i := 2) (oi := { dst := some 106, op := Op.move (Operand.tmp 105), type := 4, pos := "own.go:129", after := #[{ on := 1, ground := Ground.data }], guard := none }) (v := ?_) rfl (by kernel_rfl) (by kernel_rfl) (by kernel_rfl) (fun _ _ _ h => h) (Or.inl ⟨by rfl, ?_⟩) hHeld ?_
  rotate_left
  · (intro w hSw; (try dsimp only at hSw); go_simp; first | done | with_reducible rfl)
  simp only [Act.put, List.setIfInBounds_toArray, List.set_cons_zero, List.set_cons_succ]
  refine wpAnyH_take (i := 3) (oi := { dst := some 107, op := Op.move (Operand.tmp 11), type := 22, pos := "own.go:129", after := #[{ on := 2, ground := Ground.guard }], guard := some (2, false) }) (v := ?_) rfl (by kernel_rfl) (by kernel_rfl) (by kernel_rfl) (fun _ _ _ h => h) (Or.inl ⟨by rfl, ?_⟩) hHeld ?_
  rotate_left
  · (intro w hSw; (try dsimp only at hSw); go_simp; first | done | with_reducible rfl)
  simp only [Act.put, List.setIfInBounds_toArray, List.set_cons_zero, List.set_cons_succ]
  refine wpAnyH_take (i := 4) (oi := { dst := some 108, op := Op.call { callee := Callee.builtin Builtin.len, args := #[Operand.tmp 107], argTypes := #[22] }, type := 3, pos := "own.go:129", after := #[{ on := 3, ground := Ground.data }, { on := 2, ground := Ground.guard }], guard := some (2, false) }) (v := ?_) rfl (by kernel_rfl) (by kernel_rfl) (by kernel_rfl) (fun _ _ _ h => h) (Or.inl ⟨by rfl, ?_⟩) hHeld ?_
  rotate_left
  · (intro w hSw; (try dsimp only at hSw); go_simp; first | done | with_reducible rfl)
  simp only [Act.put, List.setIfInBounds_toArray, List.set_cons_zero, List.set_cons_succ]
  refine wpAnyH_take (i := 5) (oi := { dst := some 109, op := Op.binOp BinOp.gtr 3 (Operand.tmp 108) (Operand.const (Value.int IntKind.i64 1)) 3, type := 4, pos := "own.go:129", after := #[{ on := 4, ground := Ground.data }, { on := 2, ground := Ground.guard }], guard := some (2, false) }) (v := ?_) rfl (by kernel_rfl) (by kernel_rfl) (by kernel_rfl) (fun _ _ _ h => h) (Or.inl ⟨by rfl, ?_⟩) hHeld ?_
  rotate_left
  · (intro w hSw; (try dsimp only at hSw); go_simp; first | done | with_reducible rfl)
  simp only [Act.put, List.setIfInBounds_toArray, List.set_cons_zero, List.set_cons_succ]
  refine wpAnyH_take (i := 6) (oi := { dst := some 110, op := Op.move (Operand.tmp 109), type := 4, pos := "own.go:129", after := #[{ on := 5, ground := Ground.data }, { on := 2, ground := Ground.chain }, { on := 2, ground := Ground.guard }], guard := some (2, false) }) (v := ?_) rfl (by kernel_rfl) (by kernel_rfl) (by kernel_rfl) (fun _ _ _ h => h) (Or.inl ⟨by rfl, ?_⟩) hHeld ?_
  rotate_left
  · (intro w hSw; (try dsimp only at hSw); go_simp; first | done | with_reducible rfl)
  simp only [Act.put, List.setIfInBounds_toArray, List.set_cons_zero, List.set_cons_succ]
  refine wpAnyH_take (i := 7) (oi := { dst := some 111, op := Op.move (Operand.tmp 11), type := 22, pos := "own.go:129", after := #[{ on := 6, ground := Ground.guard }], guard := some (6, true) }) (v := ?_) rfl (by kernel_rfl) (by kernel_rfl) (by kernel_rfl) (fun _ _ _ h => h) (Or.inl ⟨by rfl, ?_⟩) hHeld ?_
  rotate_left
  · (intro w hSw; (try dsimp only at hSw); go_simp; first | done | with_reducible rfl)
  simp only [Act.put, List.setIfInBounds_toArray, List.set_cons_zero, List.set_cons_succ]
  refine wpAnyH_take (i := 8) (oi := { dst := some 112, op := Op.indexAddr 22 (Operand.tmp 111) (Operand.const (Value.int IntKind.i64 1)), type := 0, pos := "own.go:129", after := #[{ on := 7, ground := Ground.data }, { on := 6, ground := Ground.guard }], guard := some (6, true) }) (v := ?_) rfl (by kernel_rfl) (by kernel_rfl) (by kernel_rfl) (fun _ _ _ h => h) (Or.inl ⟨by rfl, ?_⟩) hHeld ?_
  rotate_left
  · (intro w hSw; (try dsimp only at hSw); go_simp; first | done | with_reducible rfl)
  simp only [Act.put, List.setIfInBounds_toArray, List.set_cons_zero, List.set_cons_succ]
  refine wpAnyH_take (i := 9) (oi := { dst := some 113, op := Op.load 32 (Operand.tmp 112), type := 32, pos := "own.go:129", after := #[{ on := 8, ground := Ground.data }, { on := 6, ground := Ground.guard }], guard := some (6, true) }) (v := ?_) rfl (by kernel_rfl) (by kernel_rfl) (by kernel_rfl) (fun _ _ _ h => h) (Or.inl ⟨by rfl, ?_⟩) hHeld ?_
  rotate_left
  · (intro w hSw; (try dsimp only at hSw); go_simp; first | done | with_reducible rfl)
  simp only [Act.put, List.setIfInBounds_toArray, List.set_cons_zero, List.set_cons_succ]
  refine wpAnyH_take (i := 10) (oi := { dst := some 114, op := Op.move (Operand.tmp 19), type := 22, pos := "own.go:129", after := #[{ on := 6, ground := Ground.guard }], guard := some (6, true) }) (v := ?_) rfl (by kernel_rfl) (by kernel_rfl) (by kernel_rfl) (fun _ _ _ h => h) (Or.inl ⟨by rfl, ?_⟩) hHeld ?_
  rotate_left
  · (intro w hSw; (try dsimp only at hSw); go_simp; first | done | with_reducible rfl)
  simp only [Act.put, List.setIfInBounds_toArray, List.set_cons_zero, List.set_cons_succ]
  refine wpAnyH_take (i := 11) (oi := { dst := some 115, op := Op.indexAddr 22 (Operand.tmp 114) (Operand.const (Value.int IntKind.i64 1)), type := 0, pos := "own.go:129", after := #[{ on := 10, ground := Ground.data }, { on := 6, ground := Ground.guard }], guard := some (6, true) }) (v := ?_) rfl (by kernel_rfl) (by kernel_rfl) (by kernel_rfl) (fun _ _ _ h => h) (Or.inl ⟨by rfl, ?_⟩) hHeld ?_
  rotate_left
  · (intro w hSw; (try dsimp only at hSw); go_simp; first | done | with_reducible rfl)
  simp only [Act.put, List.setIfInBounds_toArray, List.set_cons_zero, List.set_cons_succ]
  refine wpAnyH_take (i := 12) (oi := { dst := some 116, op := Op.load 32 (Operand.tmp 115), type := 32, pos := "own.go:129", after := #[{ on := 11, ground := Ground.data }, { on := 6, ground := Ground.guard }], guard := some (6, true) }) (v := ?_) rfl (by kernel_rfl) (by kernel_rfl) (by kernel_rfl) (fun _ _ _ h => h) (Or.inl ⟨by rfl, ?_⟩) hHeld ?_
  rotate_left
  · (intro w hSw; (try dsimp only at hSw); go_simp; first | done | with_reducible rfl)
  simp only [Act.put, List.setIfInBounds_toArray, List.set_cons_zero, List.set_cons_succ]
  refine wpAnyH_ready (rs := [13]) (by kernel_rfl) (by simp) ?_
  refine (AllReadyH.cons (o := { dst := some 117, op := Op.call { callee := Callee.value (Operand.func 17), args := #[Operand.tmp 113, Operand.tmp 116], argTypes := #[32, 32] }, type := 4, pos := "own.go:129", after := #[{ on := 9, ground := Ground.data }, { on := 12, ground := Ground.data }, { on := 6, ground := Ground.chain }, { on := 6, ground := Ground.guard }], guard := some (6, true) }) rfl (fun K hK => ?_) AllReadyH.nil)
  go_simp
  go_at_call 17
  refine HC.out.mono ?_
  rintro e w13 ⟨rfl, hq⟩
  have hb13 : Below w12.heap.size w12 w13 := ((Below.refl w12.heap.size w12).drew).trans hq
  have HT' := Lib.hid (Below.two HT.out hb13)
  have HR1' := Lib.hid (HR1.out.below hb13)
  have HT1' := Lib.hid (HT1.out.below hb13)
  have HZZ' := Lib.hid (Below.two HZZ.out hb13)
  clear HZZ HT HR1 HT1
  have HZZ := HZZ'
  clear HZZ'
  have HT := HT'
  clear HT'
  have HR1 := HR1'
  clear HR1'
  have HT1 := HT1'
  clear HT1'
  have KK13 := And.intro HR1.out.c HT1.out.c
  clear hHeld hq hb13 HC
  go_wp2_with fail
  refine hK.out _ _ KK13 (fun hHeld => ?_)
  clear hK K
  refine wpAnyH_take (i := 14) (oi := { dst := some 118, op := Op.unOp UnOp.not 4 (Operand.tmp 117), type := 4, pos := "own.go:129", after := #[{ on := 13, ground := Ground.data }, { on := 6, ground := Ground.guard }], guard := some (6, true) }) (v := ?_) rfl (by kernel_rfl) (by kernel_rfl) (by kernel_rfl) (fun _ _ _ h => h) (Or.inl ⟨by rfl, ?_⟩) hHeld ?_
  rotate_left
  · (intro w hSw; (try dsimp only at hSw); go_simp; first | done | with_reducible rfl)
  simp only [Act.put, List.setIfInBounds_toArray, List.set_cons_zero, List.set_cons_succ]
  refine wpAnyH_take (i := 15) (oi := { dst := some 119, op := Op.pick (Operand.tmp 110) (Operand.tmp 118) (Operand.const (Value.bool false)), type := 4, pos := "own.go:129", after := #[{ on := 6, ground := Ground.data }, { on := 14, ground := Ground.data }, { on := 2, ground := Ground.guard }], guard := some (2, false) }) (v := ?_) rfl (by kernel_rfl) (by kernel_rfl) (by kernel_rfl) (fun _ _ _ h => h) (Or.inl ⟨by rfl, ?_⟩) hHeld ?_
  rotate_left
  · (intro w hSw; (try dsimp only at hSw); go_simp; first | done | with_reducible rfl)
  simp only [Act.put, List.setIfInBounds_toArray, List.set_cons_zero, List.set_cons_succ]
  refine wpAnyH_take (i := 16) (oi := { dst := some 120, op := Op.pick (Operand.tmp 106) (Operand.const (Value.bool true)) (Operand.tmp 119), type := 4, pos := "own.go:129", after := #[{ on := 2, ground := Ground.data }, { on := 15, ground := Ground.data }], guard := none }) (v := ?_) rfl (by kernel_rfl) (by kernel_rfl) (by kernel_rfl) (fun _ _ _ h => h) (Or.inl ⟨by rfl, ?_⟩) hHeld ?_
  rotate_left
  · (intro w hSw; (try dsimp only at hSw); go_simp; first | done | with_reducible rfl)
  simp only [Act.put, List.setIfInBounds_toArray, List.set_cons_zero, List.set_cons_succ]
  refine wpAnyH_done (by kernel_rfl) ?_ _
  clear hHeld
  clear HR1 HT1
  have HR := sameRows_any w13 vp va (rowsN n A) (rowsN n A) (by have := HSA.out.1; omega) (fun r hr => by have := HSA.out.2 r hr; omega) (HP.out.below HT.out) (HA.out.below HZZ.out)
  rw [decide_eq_true rfl] at HR
  have HR := Lib.hid HR
  go_wp2_with fail
  refine (HR.out).mono ?_
  rintro e w14 ⟨rfl, hb14⟩
  have HT' := Lib.hid (Below.two HT.out hb14)
  have HZZ' := Lib.hid (Below.two HZZ.out hb14)
  clear hb14 HZZ HT
  have HZZ := HZZ'
  clear HZZ'
  have HT := HT'
  clear HT'
  clear HR
  go_wp2_with fail
  go_ret
  exact ⟨rfl, HZZ.out⟩
theorem matOwn_walk (w : World) (va vb : Value) (x : Int) (M N : List (List Int)) (sa : M.length * 24 ≤ 140737488351232 ∧ ∀ r ∈ M, r.length * 8 ≤ 140737488351232) (sb : N.length * 24 ≤ 140737488351232 ∧ ∀ r ∈ N, r.length * 8 ≤ 140737488351232) (ha : ArgR w va M) (hb : ArgR w vb N) :
    Calls Try.prog 7 #[va, vb, .int .i64 x] w fun e w' => e = .returned (.bool true) ∧ Below w.heap.size w w' := by
  by_cases hm : matBad M = 0
  · by_cases hg : mulBad M N = 0
    · obtain ⟨n, A, B, h1, h8, hA, hB, rfl, rfl⟩ := mul_tab hg
      by_cases h2 : 1 < n
      · exact own_m2 w va vb n A B x h1 h8 h2 hA hB sa sb ha hb
      · obtain rfl : n = 1 := by omega
        exact own_m1 w va vb A B x h1 h8 hA hB sa sb ha hb
    · obtain ⟨n, A, h1, h8, hA, rfl⟩ := mat_tab hm
      by_cases h2 : 1 < n
      · exact own_s2 w va vb n A N x h1 h8 h2 hA sa sb ha hb hg
      · obtain rfl : n = 1 := by omega
        exact own_s1 w va vb A N x h1 h8 hA sa sb ha hb hg
  · exact own_0 w va vb M N x sa sb ha hb hm
end Go.Proofs.Ytobfidlfgdlilaa
