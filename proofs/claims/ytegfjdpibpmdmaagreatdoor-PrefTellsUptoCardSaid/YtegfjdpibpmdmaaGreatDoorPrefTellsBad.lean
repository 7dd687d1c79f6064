/-
  The statement PrefTells' function answers true, kind by kind of its networks, whatever its callees tell as the document does; what lay in memory stays.
-/
import Derived.Test.YtegfjdpibpmdmaaGreatDoorPrefKnown
import Derived.Test.YtegfjdpibpmdmaaGreatDoorBoxMore
import Derived.Test.YtegfjdpibpmdmaaGreatDoorErrTold
import Derived.Deep.RegionHeld3
namespace Go.Proofs.YtegfjdpibpmdmaaGreatDoor
open Go.RowKit

set_option maxHeartbeats 4000000 in
set_option maxRecDepth 100000 in
theorem tells_bad (a : Nat) (l : Int) (b : Nat) (k : Int) (x : Nat) (s : ByteArray) (w : World) (hw : Spell w) (het : ErrType w)
    (ee : Int) (he0 : (ee == 0) = false)
    (errA errS errU errH errC : Value) (p : Nat) (q : Int) (is : Bool) (f : Int) (hs : (is = true ∧ f = 0) ∨ (is = false ∧ f = 3)) (bh bi bl : Bool)
    (hF : ∀ w, Calls Tryz.prog 5 #[.agg #[.int .u32 a, .int .i64 l]] w fun r w' => r = .returned (.int .i64 ee) ∧ Below w.heap.size w w')
    (hC : ∀ w, Calls Tryz.prog 7 #[.agg #[.int .u32 a, .int .i64 l]] w fun r w' => r = .returned (errA) ∧ Below w.heap.size w w')
    (hE : ∀ w, ErrType w → Calls Tryz.prog 6 #[errA, .int .i64 ee] w fun r w' => r = .returned (.bool true) ∧ Below w.heap.size w w')
    (hN : ∀ w, Calls Tryz.prog 8 #[.string s] w fun r w' => r = .returned (.tuple #[.agg #[.int .u32 p, .int .i64 q], .bool is]) ∧ Below w.heap.size w w')
    (hP : ∀ w, Spell w → Calls Tryz.prog 9 #[.string s] w fun r w' => r = .returned (.tuple #[.agg #[.int .u32 p, .int .i64 q], errS]) ∧ Below w.heap.size w w')
    (hS : ∀ w, ErrType w → Calls Tryz.prog 6 #[errS, .int .i64 f] w fun r w' => r = .returned (.bool true) ∧ Below w.heap.size w w')
    (hH : ∀ w, Calls Tryz.prog 10 #[.agg #[.int .u32 a, .int .i64 l], .int .u32 x] w fun r w' => r = .returned (.bool bh) ∧ Below w.heap.size w w')
    (hH' : ∀ w, Calls Tryz.prog 11 #[.agg #[.int .u32 a, .int .i64 l], .int .u32 x] w fun r w' => r = .returned (.bool bh) ∧ Below w.heap.size w w')
    (hI : ∀ w, Calls Tryz.prog 12 #[.agg #[.int .u32 a, .int .i64 l], .agg #[.int .u32 b, .int .i64 k]] w fun r w' => r = .returned (.bool bi) ∧ Below w.heap.size w w')
    (hI' : ∀ w, Calls Tryz.prog 13 #[.agg #[.int .u32 a, .int .i64 l], .agg #[.int .u32 b, .int .i64 k]] w fun r w' => r = .returned (.bool bi) ∧ Below w.heap.size w w')
    (hL : ∀ w, Calls Tryz.prog 14 #[.agg #[.int .u32 a, .int .i64 l], .agg #[.int .u32 b, .int .i64 k]] w fun r w' => r = .returned (.bool bl) ∧ Below w.heap.size w w')
    (hL' : ∀ w, Calls Tryz.prog 15 #[.agg #[.int .u32 a, .int .i64 l], .agg #[.int .u32 b, .int .i64 k]] w fun r w' => r = .returned (.bool bl) ∧ Below w.heap.size w w')
    (hU : ∀ w, Calls Tryz.prog 21 #[.agg #[.int .u32 a, .int .i64 l]] w fun r w' => r = .returned (.tuple #[.agg #[.int .u32 0, .int .i64 0], errU]) ∧ Below w.heap.size w w')
    (hUe : ∀ w, ErrType w → Calls Tryz.prog 6 #[errU, .int .i64 ee] w fun r w' => r = .returned (.bool true) ∧ Below w.heap.size w w')
    (hHa : ∀ w, Calls Tryz.prog 22 #[.agg #[.int .u32 a, .int .i64 l]] w fun r w' => r = .returned (.tuple #[.agg #[.int .u32 0, .int .i64 0], .agg #[.int .u32 0, .int .i64 0], errH]) ∧ Below w.heap.size w w')
    (hHe : ∀ w, ErrType w → Calls Tryz.prog 6 #[errH, .int .i64 ee] w fun r w' => r = .returned (.bool true) ∧ Below w.heap.size w w')
    (hCo : ∀ w, Calls Tryz.prog 23 #[.agg #[.int .u32 a, .int .i64 l], .agg #[.int .u32 b, .int .i64 k]] w fun r w' => r = .returned (.tuple #[.agg #[.int .u32 0, .int .i64 0], errC]) ∧ Below w.heap.size w w')
    (hCe : ∀ w, ErrType w → Calls Tryz.prog 6 #[errC, .int .i64 ee] w fun r w' => r = .returned (.bool true) ∧ Below w.heap.size w w') :
    Calls Tryz.prog 3 #[.agg #[.int .u32 a, .int .i64 l], .agg #[.int .u32 b, .int .i64 k], .int .u32 x, .string s] w fun e w' => e = .returned (.bool true) ∧ Below w.heap.size w w' := by
  have HW := Lib.hid hw; have HT := Lib.hid het; clear hw het
  have KhF := Lib.hid hF; clear hF
  have KhC := Lib.hid hC; clear hC
  have KhE := Lib.hid hE; clear hE
  have KhN := Lib.hid hN; clear hN
  have KhP := Lib.hid hP; clear hP
  have KhS := Lib.hid hS; clear hS
  have KhH := Lib.hid hH; clear hH
  have KhH' := Lib.hid hH'; clear hH'
  have KhI := Lib.hid hI; clear hI
  have KhI' := Lib.hid hI'; clear hI'
  have KhL := Lib.hid hL; clear hL
  have KhL' := Lib.hid hL'; clear hL'
  have KhU := Lib.hid hU; clear hU
  have KhUe := Lib.hid hUe; clear hUe
  have KhHa := Lib.hid hHa; clear hHa
  have KhHe := Lib.hid hHe; clear hHe
  have KhCo := Lib.hid hCo; clear hCo
  have KhCe := Lib.hid hCe; clear hCe
  rcases hs with ⟨rfl, rfl⟩ | ⟨rfl, rfl⟩
  all_goals
    go_enter Tryz.func3, Tryz.ntmps3
    go_wp2_with fail
    refine (known_any _ (HW.out.below (((Below.refl _ _).alloc (Nat.le_refl _) _).alloc (by simp) _))).mono ?_
    rintro e w1 ⟨rfl, hq⟩
    obtain ⟨BA, BB, H1⟩ := box2 hq; clear hq
    have A := Lib.hid BA; have B := Lib.hid BB; clear BA BB
    obtain ⟨lA, A0, A1, _, _⟩ := A.out
    go_wp2_with fail
    refine (KhF.out _).mono ?_
    rintro e w2 ⟨rfl, hq⟩
    have A' := Lib.hid (A.out.kept hq)
    have B' := Lib.hid (B.out.kept hq)
    have H2 := Below.two H1 hq
    clear lA A0 A1
    clear A B H1
    have A := A'; clear A'
    have B := B'; clear B'
    clear hq
    obtain ⟨lA, A0, A1, _, _⟩ := A.out
    go_wp2_with fail
    refine (KhC.out _).mono ?_
    rintro e w3 ⟨rfl, hq⟩
    have A' := Lib.hid (A.out.kept hq)
    have B' := Lib.hid (B.out.kept hq)
    have H3 := Below.two H2 hq
    clear lA A0 A1
    clear A B H2
    have A := A'; clear A'
    have B := B'; clear B'
    clear hq
    go_wp2_with fail
    refine (KhE.out _ (HT.out.below H3)).mono ?_
    rintro e w4 ⟨rfl, hq⟩
    have A' := Lib.hid (A.out.kept hq)
    have B' := Lib.hid (B.out.kept hq)
    have H4 := Below.two H3 hq
    clear A B H3
    have A := A'; clear A'
    have B := B'; clear B'
    clear hq
    go_wp2_with fail
    refine (KhN.out _).mono ?_
    rintro e w5 ⟨rfl, hq⟩
    have A' := Lib.hid (A.out.kept hq)
    have B' := Lib.hid (B.out.kept hq)
    have H5 := Below.two H4 hq
    clear A B H4
    have A := A'; clear A'
    have B := B'; clear B'
    clear hq
    go_wp2_with fail
    refine (KhP.out _ (HW.out.below (H5.alloc (by have := H5.size; simp; try omega) _))).mono ?_
    rintro e w6 ⟨rfl, hq⟩
    have A' := Lib.hid ((A.out.alloc _).kept hq)
    have B' := Lib.hid ((B.out.alloc _).kept hq)
    have N := Lib.hid ((Box.new w5 (.int .u32 (p : Int)) (.int .i64 q) 24).kept hq)
    have H6 := Below.two (H5.alloc (by have := H5.size; simp; try omega) _) hq
    clear A B H5
    have A := A'; clear A'
    have B := B'; clear B'
    clear hq
    go_wp2_with fail
    refine (KhS.out _ (HT.out.below (H6.alloc (by have := H6.size; simp; try omega) _))).mono ?_
    rintro e w7 ⟨rfl, hq⟩
    have A' := Lib.hid ((A.out.alloc _).kept hq)
    have B' := Lib.hid ((B.out.alloc _).kept hq)
    have N' := Lib.hid ((N.out.alloc _).kept hq)
    have O := Lib.hid ((Box.new w6 (.int .u32 (p : Int)) (.int .i64 q) 24).kept hq)
    have H7 := Below.two (H6.alloc (by have := H6.size; simp; try omega) _) hq
    clear A B N H6
    have A := A'; clear A'
    have B := B'; clear B'
    have N := N'; clear N'
    clear hq
    go_wp2_with fail
    refine wp_region_held_drew (S := (fun w' => w'.cell? ⟨w.heap.size, 0, none⟩ = some ((.int .u32 a)) ∧ w'.cell? ⟨w.heap.size, 1, none⟩ = some ((.int .i64 l)) ∧ w'.cell? ⟨w.heap.size + 1, 0, none⟩ = some ((.int .u32 b)) ∧ w'.cell? ⟨w.heap.size + 1, 1, none⟩ = some ((.int .i64 k)) ∧ w'.cell? ⟨w5.heap.size, 0, none⟩ = some ((.int .u32 (p : Int))) ∧ w'.cell? ⟨w5.heap.size, 1, none⟩ = some ((.int .i64 q)) ∧ w'.cell? ⟨w6.heap.size, 0, none⟩ = some ((.int .u32 (p : Int))) ∧ w'.cell? ⟨w6.heap.size, 1, none⟩ = some ((.int .i64 q)) ∧ Box w' w.heap.size (.int .u32 a) (.int .i64 l) ∧ Box w' (w.heap.size + 1) (.int .u32 b) (.int .i64 k) ∧ Box w' w5.heap.size (.int .u32 (p : Int)) (.int .i64 q) ∧ Box w' w6.heap.size (.int .u32 (p : Int)) (.int .i64 q) ∧ Below w.heap.size w w')) (by kernel_rfl) (held4 ⟨A.out.c0, A.out.c1, B.out.c0, B.out.c1, N.out.c0, N.out.c1, O.out.c0, O.out.c1, A.out, B.out, N.out, O.out, H7⟩ ((Below.refl _ _).drew)) (fun hHeld => ?_)
    refine wpAnyH_take (i := 0) (oi := { dst := some 54, op := Op.move (Operand.tmp 9), type := 4, pos := "nets.go:101", after := #[], guard := none }) (v := ?_) rfl (by kernel_rfl) (by kernel_rfl) (by kernel_rfl) (fun _ _ _ h => h) (Or.inl ⟨by rfl, ?_⟩) hHeld ?_
    rotate_left
    · (intro w hSw; (try dsimp only at hSw); go_simp; first | done | with_reducible rfl)
    simp only [Act.put, List.setIfInBounds_toArray, List.set_cons_zero, List.set_cons_succ]
    refine wpAnyH_take (i := 1) (oi := { dst := some 55, op := Op.unOp UnOp.not 4 (Operand.tmp 54), type := 4, pos := "nets.go:101", after := #[{ on := 0, ground := Ground.data }], guard := none }) (v := ?_) rfl (by kernel_rfl) (by kernel_rfl) (by kernel_rfl) (fun _ _ _ h => h) (Or.inl ⟨by rfl, ?_⟩) hHeld ?_
    rotate_left
    · (intro w hSw; (try dsimp only at hSw); go_simp; first | done | with_reducible rfl)
    simp only [Act.put, List.setIfInBounds_toArray, List.set_cons_zero, List.set_cons_succ]
    refine wpAnyH_take (i := 2) (oi := { dst := some 56, op := Op.move (Operand.tmp 55), type := 4, pos := "nets.go:101", after := #[{ on := 1, ground := Ground.data }], guard := none }) (v := ?_) rfl (by kernel_rfl) (by kernel_rfl) (by kernel_rfl) (fun _ _ _ h => h) (Or.inl ⟨by rfl, ?_⟩) hHeld ?_
    rotate_left
    · (intro w hSw; (try dsimp only at hSw); go_simp; first | done | with_reducible rfl)
    simp only [Act.put, List.setIfInBounds_toArray, List.set_cons_zero, List.set_cons_succ]
    refine wpAnyH_take (i := 3) (oi := { dst := some 57, op := Op.move (Operand.tmp 11), type := 4, pos := "nets.go:101", after := #[{ on := 2, ground := Ground.guard }], guard := some (2, false) }) (v := ?_) rfl (by kernel_rfl) (by kernel_rfl) (by kernel_rfl) (fun _ _ _ h => h) (Or.inl ⟨by rfl, ?_⟩) hHeld ?_
    rotate_left
    · (intro w hSw; (try dsimp only at hSw); go_simp; first | done | with_reducible rfl)
    simp only [Act.put, List.setIfInBounds_toArray, List.set_cons_zero, List.set_cons_succ]
    refine wpAnyH_take (i := 4) (oi := { dst := some 58, op := Op.unOp UnOp.not 4 (Operand.tmp 57), type := 4, pos := "nets.go:101", after := #[{ on := 3, ground := Ground.data }, { on := 2, ground := Ground.guard }], guard := some (2, false) }) (v := ?_) rfl (by kernel_rfl) (by kernel_rfl) (by kernel_rfl) (fun _ _ _ h => h) (Or.inl ⟨by rfl, ?_⟩) hHeld ?_
    rotate_left
    · (intro w hSw; (try dsimp only at hSw); go_simp; first | done | with_reducible rfl)
    simp only [Act.put, List.setIfInBounds_toArray, List.set_cons_zero, List.set_cons_succ]
    refine wpAnyH_take (i := 5) (oi := { dst := some 59, op := Op.pick (Operand.tmp 56) (Operand.const (Value.bool true)) (Operand.tmp 58), type := 4, pos := "nets.go:101", after := #[{ on := 2, ground := Ground.data }, { on := 4, ground := Ground.data }], guard := none }) (v := ?_) rfl (by kernel_rfl) (by kernel_rfl) (by kernel_rfl) (fun _ _ _ h => h) (Or.inl ⟨by rfl, ?_⟩) hHeld ?_
    rotate_left
    · (intro w hSw; (try dsimp only at hSw); go_simp; first | done | with_reducible rfl)
    simp only [Act.put, List.setIfInBounds_toArray, List.set_cons_zero, List.set_cons_succ]
    refine wpAnyH_take (i := 6) (oi := { dst := some 60, op := Op.move (Operand.tmp 59), type := 4, pos := "nets.go:101", after := #[{ on := 5, ground := Ground.data }, { on := 2, ground := Ground.chain }], guard := none }) (v := ?_) rfl (by kernel_rfl) (by kernel_rfl) (by kernel_rfl) (fun _ _ _ h => h) (Or.inl ⟨by rfl, ?_⟩) hHeld ?_
    rotate_left
    · (intro w hSw; (try dsimp only at hSw); go_simp; first | done | with_reducible rfl)
    simp only [Act.put, List.setIfInBounds_toArray, List.set_cons_zero, List.set_cons_succ]
    refine wpAnyH_take (i := 7) (oi := { dst := some 61, op := Op.move (Operand.tmp 17), type := 4, pos := "nets.go:101", after := #[{ on := 6, ground := Ground.guard }], guard := some (6, false) }) (v := ?_) rfl (by kernel_rfl) (by kernel_rfl) (by kernel_rfl) (fun _ _ _ h => h) (Or.inl ⟨by rfl, ?_⟩) hHeld ?_
    rotate_left
    · (intro w hSw; (try dsimp only at hSw); go_simp; first | done | with_reducible rfl)
    simp only [Act.put, List.setIfInBounds_toArray, List.set_cons_zero, List.set_cons_succ]
    refine wpAnyH_take (i := 8) (oi := { dst := some 62, op := Op.unOp UnOp.not 4 (Operand.tmp 61), type := 4, pos := "nets.go:101", after := #[{ on := 7, ground := Ground.data }, { on := 6, ground := Ground.guard }], guard := some (6, false) }) (v := ?_) rfl (by kernel_rfl) (by kernel_rfl) (by kernel_rfl) (fun _ _ _ h => h) (Or.inl ⟨by rfl, ?_⟩) hHeld ?_
    rotate_left
    · (intro w hSw; (try dsimp only at hSw); go_simp; first | done | with_reducible rfl)
    simp only [Act.put, List.setIfInBounds_toArray, List.set_cons_zero, List.set_cons_succ]
    refine wpAnyH_take (i := 9) (oi := { dst := some 63, op := Op.pick (Operand.tmp 60) (Operand.const (Value.bool true)) (Operand.tmp 62), type := 4, pos := "nets.go:101", after := #[{ on := 6, ground := Ground.data }, { on := 8, ground := Ground.data }], guard := none }) (v := ?_) rfl (by kernel_rfl) (by kernel_rfl) (by kernel_rfl) (fun _ _ _ h => h) (Or.inl ⟨by rfl, ?_⟩) hHeld ?_
    rotate_left
    · (intro w hSw; (try dsimp only at hSw); go_simp; first | done | with_reducible rfl)
    simp only [Act.put, List.setIfInBounds_toArray, List.set_cons_zero, List.set_cons_succ]
    refine wpAnyH_take (i := 10) (oi := { dst := some 64, op := Op.move (Operand.tmp 63), type := 4, pos := "nets.go:101", after := #[{ on := 9, ground := Ground.data }, { on := 6, ground := Ground.chain }], guard := none }) (v := ?_) rfl (by kernel_rfl) (by kernel_rfl) (by kernel_rfl) (fun _ _ _ h => h) (Or.inl ⟨by rfl, ?_⟩) hHeld ?_
    rotate_left
    · (intro w hSw; (try dsimp only at hSw); go_simp; first | done | with_reducible rfl)
    simp only [Act.put, List.setIfInBounds_toArray, List.set_cons_zero, List.set_cons_succ]
    refine wpAnyH_take (i := 11) (oi := { dst := some 65, op := Op.load 24 (Operand.tmp 15), type := 24, pos := "nets.go:101", after := #[{ on := 10, ground := Ground.guard }], guard := some (10, false) }) (v := ?_) rfl (by kernel_rfl) (by kernel_rfl) (by kernel_rfl) (fun _ _ _ h => h) (Or.inl ⟨by rfl, ?_⟩) hHeld ?_
    rotate_left
    · (intro w hSw; (try dsimp only at hSw); go_simp; first | done | with_reducible rfl)
    simp only [Act.put, List.setIfInBounds_toArray, List.set_cons_zero, List.set_cons_succ]
    refine wpAnyH_take (i := 12) (oi := { dst := some 66, op := Op.load 24 (Operand.tmp 12), type := 24, pos := "nets.go:101", after := #[{ on := 10, ground := Ground.guard }], guard := some (10, false) }) (v := ?_) rfl (by kernel_rfl) (by kernel_rfl) (by kernel_rfl) (fun _ _ _ h => h) (Or.inl ⟨by rfl, ?_⟩) hHeld ?_
    rotate_left
    · (intro w hSw; (try dsimp only at hSw); go_simp; first | done | with_reducible rfl)
    simp only [Act.put, List.setIfInBounds_toArray, List.set_cons_zero, List.set_cons_succ]
    refine wpAnyH_take (i := 13) (oi := { dst := some 67, op := Op.binOp BinOp.neq 24 (Operand.tmp 65) (Operand.tmp 66) 24, type := 4, pos := "nets.go:101", after := #[{ on := 11, ground := Ground.data }, { on := 12, ground := Ground.data }, { on := 10, ground := Ground.guard }], guard := some (10, false) }) (v := ?_) rfl (by kernel_rfl) (by kernel_rfl) (by kernel_rfl) (fun _ _ _ h => h) (Or.inl ⟨by rfl, ?_⟩) hHeld ?_
    rotate_left
    · (intro w hSw; (try dsimp only at hSw); go_simp; first | done | with_reducible rfl)
    simp only [Act.put, List.setIfInBounds_toArray, List.set_cons_zero, List.set_cons_succ]
    refine wpAnyH_take (i := 14) (oi := { dst := some 68, op := Op.pick (Operand.tmp 64) (Operand.const (Value.bool true)) (Operand.tmp 67), type := 4, pos := "nets.go:101", after := #[{ on := 10, ground := Ground.data }, { on := 13, ground := Ground.data }], guard := none }) (v := ?_) rfl (by kernel_rfl) (by kernel_rfl) (by kernel_rfl) (fun _ _ _ h => h) (Or.inl ⟨by rfl, ?_⟩) hHeld ?_
    rotate_left
    · (intro w hSw; (try dsimp only at hSw); go_simp; first | done | with_reducible rfl)
    simp only [Act.put, List.setIfInBounds_toArray, List.set_cons_zero, List.set_cons_succ]
    refine wpAnyH_take (i := 15) (oi := { dst := some 69, op := Op.move (Operand.tmp 68), type := 4, pos := "nets.go:101", after := #[{ on := 14, ground := Ground.data }, { on := 10, ground := Ground.chain }], guard := none }) (v := ?_) rfl (by kernel_rfl) (by kernel_rfl) (by kernel_rfl) (fun _ _ _ h => h) (Or.inl ⟨by rfl, ?_⟩) hHeld ?_
    rotate_left
    · (intro w hSw; (try dsimp only at hSw); go_simp; first | done | with_reducible rfl)
    simp only [Act.put, List.setIfInBounds_toArray, List.set_cons_zero, List.set_cons_succ]
    refine wpAnyH_take (i := 16) (oi := { dst := some 70, op := Op.load 24 (Operand.tmp 4), type := 24, pos := "nets.go:101", after := #[{ on := 15, ground := Ground.guard }], guard := some (15, false) }) (v := ?_) rfl (by kernel_rfl) (by kernel_rfl) (by kernel_rfl) (fun _ _ _ h => h) (Or.inl ⟨by rfl, ?_⟩) hHeld ?_
    rotate_left
    · (intro w hSw; (try dsimp only at hSw); go_simp; first | done | with_reducible rfl)
    simp only [Act.put, List.setIfInBounds_toArray, List.set_cons_zero, List.set_cons_succ]
    refine wpAnyH_take (i := 17) (oi := { dst := some 71, op := Op.move (Operand.tmp 2), type := 22, pos := "nets.go:101", after := #[{ on := 15, ground := Ground.guard }], guard := some (15, false) }) (v := ?_) rfl (by kernel_rfl) (by kernel_rfl) (by kernel_rfl) (fun _ _ _ h => h) (Or.inl ⟨by rfl, ?_⟩) hHeld ?_
    rotate_left
    · (intro w hSw; (try dsimp only at hSw); go_simp; first | done | with_reducible rfl)
    simp only [Act.put, List.setIfInBounds_toArray, List.set_cons_zero, List.set_cons_succ]
    refine wpAnyH_take (i := 19) (oi := { dst := some 73, op := Op.load 24 (Operand.tmp 4), type := 24, pos := "nets.go:101", after := #[{ on := 15, ground := Ground.guard }], guard := some (15, false) }) (v := ?_) rfl (by kernel_rfl) (by kernel_rfl) (by kernel_rfl) (fun _ _ _ h => h) (Or.inl ⟨by rfl, ?_⟩) hHeld ?_
    rotate_left
    · (intro w hSw; (try dsimp only at hSw); go_simp; first | done | with_reducible rfl)
    simp only [Act.put, List.setIfInBounds_toArray, List.set_cons_zero, List.set_cons_succ]
    refine wpAnyH_take (i := 20) (oi := { dst := some 74, op := Op.move (Operand.tmp 2), type := 22, pos := "nets.go:101", after := #[{ on := 15, ground := Ground.guard }], guard := some (15, false) }) (v := ?_) rfl (by kernel_rfl) (by kernel_rfl) (by kernel_rfl) (fun _ _ _ h => h) (Or.inl ⟨by rfl, ?_⟩) hHeld ?_
    rotate_left
    · (intro w hSw; (try dsimp only at hSw); go_simp; first | done | with_reducible rfl)
    simp only [Act.put, List.setIfInBounds_toArray, List.set_cons_zero, List.set_cons_succ]
    refine wpAnyH_ready (rs := [18]) (by kernel_rfl) (by simp) ?_
    refine AllReadyH.cons (o := { dst := some 72, op := Op.call { callee := Callee.value (Operand.func 10), args := #[Operand.tmp 70, Operand.tmp 71], argTypes := #[24, 22] }, type := 4, pos := "nets.go:101", after := #[{ on := 16, ground := Ground.data }, { on := 17, ground := Ground.data }, { on := 15, ground := Ground.chain }, { on := 15, ground := Ground.guard }], guard := some (15, false) }) rfl (fun K hK => ?_) AllReadyH.nil
    go_simp
    go_at_call 10
    refine (KhH.out _).mono ?_
    rintro e v0 ⟨rfl, hq⟩
    have KK0 := held4 hHeld hq; clear hHeld hq
    go_wp2_with fail
    refine hK.out _ _ KK0 (fun hHeld => ?_)
    clear hK K
    refine wpAnyH_ready (rs := [21]) (by kernel_rfl) (by simp) ?_
    refine AllReadyH.cons (o := { dst := some 75, op := Op.call { callee := Callee.value (Operand.func 11), args := #[Operand.tmp 73, Operand.tmp 74], argTypes := #[24, 22] }, type := 4, pos := "nets.go:101", after := #[{ on := 19, ground := Ground.data }, { on := 20, ground := Ground.data }, { on := 18, ground := Ground.chain }, { on := 15, ground := Ground.guard }], guard := some (15, false) }) rfl (fun K hK => ?_) AllReadyH.nil
    go_simp
    go_at_call 11
    refine (KhH'.out _).mono ?_
    rintro e v1 ⟨rfl, hq⟩
    have KK1 := held4 hHeld hq; clear hHeld hq
    go_wp2_with fail
    refine hK.out _ _ KK1 (fun hHeld => ?_)
    clear hK K
    refine wpAnyH_take (i := 22) (oi := { dst := some 76, op := Op.binOp BinOp.neq 4 (Operand.tmp 72) (Operand.tmp 75) 4, type := 4, pos := "nets.go:101", after := #[{ on := 18, ground := Ground.data }, { on := 21, ground := Ground.data }, { on := 15, ground := Ground.guard }], guard := some (15, false) }) (v := ?_) rfl (by kernel_rfl) (by kernel_rfl) (by kernel_rfl) (fun _ _ _ h => h) (Or.inl ⟨by rfl, ?_⟩) hHeld ?_
    rotate_left
    · (intro w hSw; (try dsimp only at hSw); go_simp; first | done | with_reducible rfl)
    simp only [Act.put, List.setIfInBounds_toArray, List.set_cons_zero, List.set_cons_succ]
    refine wpAnyH_take (i := 23) (oi := { dst := some 77, op := Op.pick (Operand.tmp 69) (Operand.const (Value.bool true)) (Operand.tmp 76), type := 4, pos := "nets.go:101", after := #[{ on := 15, ground := Ground.data }, { on := 22, ground := Ground.data }], guard := none }) (v := ?_) rfl (by kernel_rfl) (by kernel_rfl) (by kernel_rfl) (fun _ _ _ h => h) (Or.inl ⟨by rfl, ?_⟩) hHeld ?_
    rotate_left
    · (intro w hSw; (try dsimp only at hSw); go_simp; first | done | with_reducible rfl)
    simp only [Act.put, List.setIfInBounds_toArray, List.set_cons_zero, List.set_cons_succ]
    refine wpAnyH_take (i := 24) (oi := { dst := some 78, op := Op.move (Operand.tmp 77), type := 4, pos := "nets.go:101", after := #[{ on := 23, ground := Ground.data }, { on := 21, ground := Ground.chain }], guard := none }) (v := ?_) rfl (by kernel_rfl) (by kernel_rfl) (by kernel_rfl) (fun _ _ _ h => h) (Or.inl ⟨by rfl, ?_⟩) hHeld ?_
    rotate_left
    · (intro w hSw; (try dsimp only at hSw); go_simp; first | done | with_reducible rfl)
    simp only [Act.put, List.setIfInBounds_toArray, List.set_cons_zero, List.set_cons_succ]
    refine wpAnyH_take (i := 25) (oi := { dst := some 79, op := Op.load 24 (Operand.tmp 4), type := 24, pos := "nets.go:101", after := #[{ on := 24, ground := Ground.guard }], guard := some (24, false) }) (v := ?_) rfl (by kernel_rfl) (by kernel_rfl) (by kernel_rfl) (fun _ _ _ h => h) (Or.inl ⟨by rfl, ?_⟩) hHeld ?_
    rotate_left
    · (intro w hSw; (try dsimp only at hSw); go_simp; first | done | with_reducible rfl)
    simp only [Act.put, List.setIfInBounds_toArray, List.set_cons_zero, List.set_cons_succ]
    refine wpAnyH_take (i := 26) (oi := { dst := some 80, op := Op.load 24 (Operand.tmp 5), type := 24, pos := "nets.go:101", after := #[{ on := 24, ground := Ground.guard }], guard := some (24, false) }) (v := ?_) rfl (by kernel_rfl) (by kernel_rfl) (by kernel_rfl) (fun _ _ _ h => h) (Or.inl ⟨by rfl, ?_⟩) hHeld ?_
    rotate_left
    · (intro w hSw; (try dsimp only at hSw); go_simp; first | done | with_reducible rfl)
    simp only [Act.put, List.setIfInBounds_toArray, List.set_cons_zero, List.set_cons_succ]
    refine wpAnyH_take (i := 28) (oi := { dst := some 82, op := Op.load 24 (Operand.tmp 4), type := 24, pos := "nets.go:101", after := #[{ on := 24, ground := Ground.guard }], guard := some (24, false) }) (v := ?_) rfl (by kernel_rfl) (by kernel_rfl) (by kernel_rfl) (fun _ _ _ h => h) (Or.inl ⟨by rfl, ?_⟩) hHeld ?_
    rotate_left
    · (intro w hSw; (try dsimp only at hSw); go_simp; first | done | with_reducible rfl)
    simp only [Act.put, List.setIfInBounds_toArray, List.set_cons_zero, List.set_cons_succ]
    refine wpAnyH_take (i := 29) (oi := { dst := some 83, op := Op.load 24 (Operand.tmp 5), type := 24, pos := "nets.go:101", after := #[{ on := 24, ground := Ground.guard }], guard := some (24, false) }) (v := ?_) rfl (by kernel_rfl) (by kernel_rfl) (by kernel_rfl) (fun _ _ _ h => h) (Or.inl ⟨by rfl, ?_⟩) hHeld ?_
    rotate_left
    · (intro w hSw; (try dsimp only at hSw); go_simp; first | done | with_reducible rfl)
    simp only [Act.put, List.setIfInBounds_toArray, List.set_cons_zero, List.set_cons_succ]
    refine wpAnyH_ready (rs := [27]) (by kernel_rfl) (by simp) ?_
    refine AllReadyH.cons (o := { dst := some 81, op := Op.call { callee := Callee.value (Operand.func 12), args := #[Operand.tmp 79, Operand.tmp 80], argTypes := #[24, 24] }, type := 4, pos := "nets.go:101", after := #[{ on := 25, ground := Ground.data }, { on := 26, ground := Ground.data }, { on := 24, ground := Ground.chain }, { on := 24, ground := Ground.guard }], guard := some (24, false) }) rfl (fun K hK => ?_) AllReadyH.nil
    go_simp
    go_at_call 12
    refine (KhI.out _).mono ?_
    rintro e v2 ⟨rfl, hq⟩
    have KK2 := held4 hHeld hq; clear hHeld hq
    go_wp2_with fail
    refine hK.out _ _ KK2 (fun hHeld => ?_)
    clear hK K
    refine wpAnyH_ready (rs := [30]) (by kernel_rfl) (by simp) ?_
    refine AllReadyH.cons (o := { dst := some 84, op := Op.call { callee := Callee.value (Operand.func 13), args := #[Operand.tmp 82, Operand.tmp 83], argTypes := #[24, 24] }, type := 4, pos := "nets.go:101", after := #[{ on := 28, ground := Ground.data }, { on := 29, ground := Ground.data }, { on := 27, ground := Ground.chain }, { on := 24, ground := Ground.guard }], guard := some (24, false) }) rfl (fun K hK => ?_) AllReadyH.nil
    go_simp
    go_at_call 13
    refine (KhI'.out _).mono ?_
    rintro e v3 ⟨rfl, hq⟩
    have KK3 := held4 hHeld hq; clear hHeld hq
    go_wp2_with fail
    refine hK.out _ _ KK3 (fun hHeld => ?_)
    clear hK K
    refine wpAnyH_take (i := 31) (oi := { dst := some 85, op := Op.binOp BinOp.neq 4 (Operand.tmp 81) (Operand.tmp 84) 4, type := 4, pos := "nets.go:101", after := #[{ on := 27, ground := Ground.data }, { on := 30, ground := Ground.data }, { on := 24, ground := Ground.guard }], guard := some (24, false) }) (v := ?_) rfl (by kernel_rfl) (by kernel_rfl) (by kernel_rfl) (fun _ _ _ h => h) (Or.inl ⟨by rfl, ?_⟩) hHeld ?_
    rotate_left
    · (intro w hSw; (try dsimp only at hSw); go_simp; first | done | with_reducible rfl)
    simp only [Act.put, List.setIfInBounds_toArray, List.set_cons_zero, List.set_cons_succ]
    refine wpAnyH_take (i := 32) (oi := { dst := some 86, op := Op.pick (Operand.tmp 78) (Operand.const (Value.bool true)) (Operand.tmp 85), type := 4, pos := "nets.go:101", after := #[{ on := 24, ground := Ground.data }, { on := 31, ground := Ground.data }], guard := none }) (v := ?_) rfl (by kernel_rfl) (by kernel_rfl) (by kernel_rfl) (fun _ _ _ h => h) (Or.inl ⟨by rfl, ?_⟩) hHeld ?_
    rotate_left
    · (intro w hSw; (try dsimp only at hSw); go_simp; first | done | with_reducible rfl)
    simp only [Act.put, List.setIfInBounds_toArray, List.set_cons_zero, List.set_cons_succ]
    refine wpAnyH_take (i := 33) (oi := { dst := some 87, op := Op.move (Operand.tmp 86), type := 4, pos := "nets.go:101", after := #[{ on := 32, ground := Ground.data }, { on := 30, ground := Ground.chain }], guard := none }) (v := ?_) rfl (by kernel_rfl) (by kernel_rfl) (by kernel_rfl) (fun _ _ _ h => h) (Or.inl ⟨by rfl, ?_⟩) hHeld ?_
    rotate_left
    · (intro w hSw; (try dsimp only at hSw); go_simp; first | done | with_reducible rfl)
    simp only [Act.put, List.setIfInBounds_toArray, List.set_cons_zero, List.set_cons_succ]
    refine wpAnyH_take (i := 34) (oi := { dst := some 88, op := Op.load 24 (Operand.tmp 4), type := 24, pos := "nets.go:101", after := #[{ on := 33, ground := Ground.guard }], guard := some (33, false) }) (v := ?_) rfl (by kernel_rfl) (by kernel_rfl) (by kernel_rfl) (fun _ _ _ h => h) (Or.inl ⟨by rfl, ?_⟩) hHeld ?_
    rotate_left
    · (intro w hSw; (try dsimp only at hSw); go_simp; first | done | with_reducible rfl)
    simp only [Act.put, List.setIfInBounds_toArray, List.set_cons_zero, List.set_cons_succ]
    refine wpAnyH_take (i := 35) (oi := { dst := some 89, op := Op.load 24 (Operand.tmp 5), type := 24, pos := "nets.go:101", after := #[{ on := 33, ground := Ground.guard }], guard := some (33, false) }) (v := ?_) rfl (by kernel_rfl) (by kernel_rfl) (by kernel_rfl) (fun _ _ _ h => h) (Or.inl ⟨by rfl, ?_⟩) hHeld ?_
    rotate_left
    · (intro w hSw; (try dsimp only at hSw); go_simp; first | done | with_reducible rfl)
    simp only [Act.put, List.setIfInBounds_toArray, List.set_cons_zero, List.set_cons_succ]
    refine wpAnyH_take (i := 37) (oi := { dst := some 91, op := Op.load 24 (Operand.tmp 4), type := 24, pos := "nets.go:101", after := #[{ on := 33, ground := Ground.guard }], guard := some (33, false) }) (v := ?_) rfl (by kernel_rfl) (by kernel_rfl) (by kernel_rfl) (fun _ _ _ h => h) (Or.inl ⟨by rfl, ?_⟩) hHeld ?_
    rotate_left
    · (intro w hSw; (try dsimp only at hSw); go_simp; first | done | with_reducible rfl)
    simp only [Act.put, List.setIfInBounds_toArray, List.set_cons_zero, List.set_cons_succ]
    refine wpAnyH_take (i := 38) (oi := { dst := some 92, op := Op.load 24 (Operand.tmp 5), type := 24, pos := "nets.go:101", after := #[{ on := 33, ground := Ground.guard }], guard := some (33, false) }) (v := ?_) rfl (by kernel_rfl) (by kernel_rfl) (by kernel_rfl) (fun _ _ _ h => h) (Or.inl ⟨by rfl, ?_⟩) hHeld ?_
    rotate_left
    · (intro w hSw; (try dsimp only at hSw); go_simp; first | done | with_reducible rfl)
    simp only [Act.put, List.setIfInBounds_toArray, List.set_cons_zero, List.set_cons_succ]
    refine wpAnyH_ready (rs := [36]) (by kernel_rfl) (by simp) ?_
    refine AllReadyH.cons (o := { dst := some 90, op := Op.call { callee := Callee.value (Operand.func 14), args := #[Operand.tmp 88, Operand.tmp 89], argTypes := #[24, 24] }, type := 4, pos := "nets.go:101", after := #[{ on := 34, ground := Ground.data }, { on := 35, ground := Ground.data }, { on := 33, ground := Ground.chain }, { on := 33, ground := Ground.guard }], guard := some (33, false) }) rfl (fun K hK => ?_) AllReadyH.nil
    go_simp
    go_at_call 14
    refine (KhL.out _).mono ?_
    rintro e v4 ⟨rfl, hq⟩
    have KK4 := held4 hHeld hq; clear hHeld hq
    go_wp2_with fail
    refine hK.out _ _ KK4 (fun hHeld => ?_)
    clear hK K
    refine wpAnyH_ready (rs := [39]) (by kernel_rfl) (by simp) ?_
    refine AllReadyH.cons (o := { dst := some 93, op := Op.call { callee := Callee.value (Operand.func 15), args := #[Operand.tmp 91, Operand.tmp 92], argTypes := #[24, 24] }, type := 4, pos := "nets.go:101", after := #[{ on := 37, ground := Ground.data }, { on := 38, ground := Ground.data }, { on := 36, ground := Ground.chain }, { on := 33, ground := Ground.guard }], guard := some (33, false) }) rfl (fun K hK => ?_) AllReadyH.nil
    go_simp
    go_at_call 15
    refine (KhL'.out _).mono ?_
    rintro e v5 ⟨rfl, hq⟩
    have KK5 := held4 hHeld hq; clear hHeld hq
    go_wp2_with fail
    refine hK.out _ _ KK5 (fun hHeld => ?_)
    clear hK K
    refine wpAnyH_take (i := 40) (oi := { dst := some 94, op := Op.binOp BinOp.neq 4 (Operand.tmp 90) (Operand.tmp 93) 4, type := 4, pos := "nets.go:101", after := #[{ on := 36, ground := Ground.data }, { on := 39, ground := Ground.data }, { on := 33, ground := Ground.guard }], guard := some (33, false) }) (v := ?_) rfl (by kernel_rfl) (by kernel_rfl) (by kernel_rfl) (fun _ _ _ h => h) (Or.inl ⟨by rfl, ?_⟩) hHeld ?_
    rotate_left
    · (intro w hSw; (try dsimp only at hSw); go_simp; first | done | with_reducible rfl)
    simp only [Act.put, List.setIfInBounds_toArray, List.set_cons_zero, List.set_cons_succ]
    refine wpAnyH_take (i := 41) (oi := { dst := some 95, op := Op.pick (Operand.tmp 87) (Operand.const (Value.bool true)) (Operand.tmp 94), type := 4, pos := "nets.go:101", after := #[{ on := 33, ground := Ground.data }, { on := 40, ground := Ground.data }], guard := none }) (v := ?_) rfl (by kernel_rfl) (by kernel_rfl) (by kernel_rfl) (fun _ _ _ h => h) (Or.inl ⟨by rfl, ?_⟩) hHeld ?_
    rotate_left
    · (intro w hSw; (try dsimp only at hSw); go_simp; first | done | with_reducible rfl)
    simp only [Act.put, List.setIfInBounds_toArray, List.set_cons_zero, List.set_cons_succ]
    refine wpAnyH_done (by kernel_rfl) ?_ _
    clear A B N O H7
    obtain ⟨_, _, _, _, _, _, _, _, BA, BB, _, _, H20⟩ := hHeld
    have A := Lib.hid BA; have B := Lib.hid BB; clear BA BB
    go_wp2_with fail
    refine wp_region_held_drew (S := (fun w' => w'.cell? ⟨w.heap.size, 0, none⟩ = some (.int .u32 a) ∧ w'.cell? ⟨w.heap.size, 1, none⟩ = some (.int .i64 l) ∧ Box w' w.heap.size (.int .u32 a) (.int .i64 l) ∧ Box w' (w.heap.size + 1) (.int .u32 b) (.int .i64 k) ∧ Below w.heap.size w w')) (by kernel_rfl) (heldT ⟨A.out.c0, A.out.c1, A.out, B.out, H20⟩ ((Below.refl _ _).drew)) (fun hHeld => ?_)
    refine wpAnyH_take (i := 0) (oi := { dst := some 96, op := Op.move (Operand.tmp 10), type := 26, pos := "nets.go:104", after := #[], guard := none }) (v := ?_) rfl (by kernel_rfl) (by kernel_rfl) (by kernel_rfl) (fun _ _ _ h => h) (Or.inl ⟨by rfl, ?_⟩) hHeld ?_
    rotate_left
    · (intro w hSw; (try dsimp only at hSw); go_simp; first | done | with_reducible rfl)
    simp only [Act.put, List.setIfInBounds_toArray, List.set_cons_zero, List.set_cons_succ]
    refine wpAnyH_take (i := 1) (oi := { dst := some 97, op := Op.binOp BinOp.eql 26 (Operand.tmp 96) (Operand.const (Value.int IntKind.i64 0)) 26, type := 4, pos := "nets.go:104", after := #[{ on := 0, ground := Ground.data }], guard := none }) (v := ?_) rfl (by kernel_rfl) (by kernel_rfl) (by kernel_rfl) (fun _ _ _ h => h) (Or.inl ⟨by rfl, ?_⟩) hHeld ?_
    rotate_left
    · (intro w hSw; (try dsimp only at hSw); go_simp; first | done | with_reducible rfl)
    simp only [Act.put, List.setIfInBounds_toArray, List.set_cons_zero, List.set_cons_succ]
    refine wpAnyH_take (i := 2) (oi := { dst := some 98, op := Op.move (Operand.tmp 97), type := 4, pos := "nets.go:104", after := #[{ on := 1, ground := Ground.data }], guard := none }) (v := ?_) rfl (by kernel_rfl) (by kernel_rfl) (by kernel_rfl) (fun _ _ _ h => h) (Or.inl ⟨by rfl, ?_⟩) hHeld ?_
    rotate_left
    · (intro w hSw; (try dsimp only at hSw); go_simp; first | done | with_reducible rfl)
    simp only [Act.put, List.setIfInBounds_toArray, List.set_cons_zero, List.set_cons_succ]
    refine wpAnyH_take (i := 3) (oi := { dst := some 99, op := Op.load 24 (Operand.tmp 4), type := 24, pos := "nets.go:104", after := #[{ on := 2, ground := Ground.guard }], guard := some (2, true) }) (v := undef) rfl (by kernel_rfl) (by kernel_rfl) (by kernel_rfl) (fun _ _ _ h => h) (Or.inr ⟨by rfl, rfl⟩) hHeld ?_
    simp only [Act.put, List.setIfInBounds_toArray, List.set_cons_zero, List.set_cons_succ]
    refine wpAnyH_take (i := 4) (oi := { dst := some 100, op := Op.call { callee := Callee.value (Operand.func 16), args := #[Operand.tmp 99], argTypes := #[24] }, type := 9, pos := "nets.go:104", after := #[{ on := 3, ground := Ground.data }, { on := 2, ground := Ground.chain }, { on := 2, ground := Ground.guard }], guard := some (2, true) }) (v := undef) rfl (by kernel_rfl) (by kernel_rfl) (by kernel_rfl) (fun _ _ _ h => h) (Or.inr ⟨by rfl, rfl⟩) hHeld ?_
    simp only [Act.put, List.setIfInBounds_toArray, List.set_cons_zero, List.set_cons_succ]
    refine wpAnyH_take (i := 5) (oi := { dst := some 101, op := Op.load 24 (Operand.tmp 4), type := 24, pos := "nets.go:104", after := #[{ on := 2, ground := Ground.guard }], guard := some (2, true) }) (v := undef) rfl (by kernel_rfl) (by kernel_rfl) (by kernel_rfl) (fun _ _ _ h => h) (Or.inr ⟨by rfl, rfl⟩) hHeld ?_
    simp only [Act.put, List.setIfInBounds_toArray, List.set_cons_zero, List.set_cons_succ]
    refine wpAnyH_take (i := 6) (oi := { dst := some 102, op := Op.call { callee := Callee.value (Operand.func 17), args := #[Operand.tmp 101], argTypes := #[24] }, type := 9, pos := "nets.go:104", after := #[{ on := 5, ground := Ground.data }, { on := 4, ground := Ground.chain }, { on := 2, ground := Ground.guard }], guard := some (2, true) }) (v := undef) rfl (by kernel_rfl) (by kernel_rfl) (by kernel_rfl) (fun _ _ _ h => h) (Or.inr ⟨by rfl, rfl⟩) hHeld ?_
    simp only [Act.put, List.setIfInBounds_toArray, List.set_cons_zero, List.set_cons_succ]
    refine wpAnyH_take (i := 7) (oi := { dst := some 103, op := Op.binOp BinOp.neq 9 (Operand.tmp 100) (Operand.tmp 102) 9, type := 4, pos := "nets.go:104", after := #[{ on := 4, ground := Ground.data }, { on := 6, ground := Ground.data }, { on := 2, ground := Ground.guard }], guard := some (2, true) }) (v := undef) rfl (by kernel_rfl) (by kernel_rfl) (by kernel_rfl) (fun _ _ _ h => h) (Or.inr ⟨by rfl, rfl⟩) hHeld ?_
    simp only [Act.put, List.setIfInBounds_toArray, List.set_cons_zero, List.set_cons_succ]
    refine wpAnyH_take (i := 8) (oi := { dst := some 104, op := Op.pick (Operand.tmp 98) (Operand.tmp 103) (Operand.const (Value.bool false)), type := 4, pos := "nets.go:104", after := #[{ on := 2, ground := Ground.data }, { on := 7, ground := Ground.data }], guard := none }) (v := ?_) rfl (by kernel_rfl) (by kernel_rfl) (by kernel_rfl) (fun _ _ _ h => h) (Or.inl ⟨by rfl, ?_⟩) hHeld ?_
    rotate_left
    · (intro w hSw; (try dsimp only at hSw); go_simp; first | done | with_reducible rfl)
    simp only [Act.put, List.setIfInBounds_toArray, List.set_cons_zero, List.set_cons_succ]
    refine wpAnyH_done (by kernel_rfl) ?_ _
    clear A B H20
    generalize v5.drew = y0 at hHeld ⊢
    obtain ⟨_, _, BA, BB, H21⟩ := hHeld
    have A := Lib.hid BA; have B := Lib.hid BB; clear BA BB
    have y1 : w.heap.size < y0.heap.size := A.out.lt
    have y2 : w.heap.size + 1 < y0.heap.size := B.out.lt
    have y3 : w.heap.size < y0.heap.size + 1 := by omega
    have y4 : w.heap.size < y0.heap.size + 1 + 1 := by omega
    have y5 : w.heap.size < y0.heap.size + 1 + 1 + 1 := by omega
    have y6 : w.heap.size + 1 < y0.heap.size + 1 := by omega
    have y7 : w.heap.size + 1 < y0.heap.size + 1 + 1 := by omega
    have y8 : w.heap.size + 1 < y0.heap.size + 1 + 1 + 1 := by omega
    obtain ⟨lA, A0, A1, _, _⟩ := A.out
    obtain ⟨lB, B0, B1, _, _⟩ := B.out
    go_wp2_with fail
    refine (KhU.out _).mono ?_
    rintro e w22 ⟨rfl, hq⟩
    have A' := Lib.hid (((((A.out.alloc _).alloc _).alloc _).alloc _).kept hq)
    have B' := Lib.hid (((((B.out.alloc _).alloc _).alloc _).alloc _).kept hq)
    obtain ⟨BU, BP, BQ, BC, _⟩ := box4 hq
    have U := Lib.hid BU; have P := Lib.hid BP; have Q := Lib.hid BQ; have D := Lib.hid BC; clear BU BP BQ BC
    have H22 := Below.two ((((H21.alloc (by have := H21.size; simp; try omega) _).alloc (by have := H21.size; simp; try omega) _).alloc (by have := H21.size; simp; try omega) _).alloc (by have := H21.size; simp; try omega) _) hq
    clear lA A0 A1 lB B0 B1
    clear A B H21
    have A := A'; clear A'
    have B := B'; clear B'
    clear hq
    go_wp2_with fail
    refine (KhUe.out _ (HT.out.below (H22.alloc (by have := H22.size; simp; try omega) _))).mono ?_
    rintro e w23 ⟨rfl, hq⟩
    have A' := Lib.hid ((A.out.alloc _).kept hq)
    have B' := Lib.hid ((B.out.alloc _).kept hq)
    have U' := Lib.hid ((U.out.alloc _).kept hq)
    have P' := Lib.hid ((P.out.alloc _).kept hq)
    have Q' := Lib.hid ((Q.out.alloc _).kept hq)
    have D' := Lib.hid ((D.out.alloc _).kept hq)
    have U2 := Lib.hid ((Box.new w22 (.int .u32 0) (.int .i64 0) 24).kept hq)
    have H23 := Below.two (H22.alloc (by have := H22.size; simp; try omega) _) hq
    clear A B U P Q D H22
    have A := A'; clear A'
    have B := B'; clear B'
    have U := U'; clear U'
    have P := P'; clear P'
    have Q := Q'; clear Q'
    have D := D'; clear D'
    clear hq
    obtain ⟨lA, A0, A1, _, _⟩ := A.out
    go_wp2_with fail
    refine (KhHa.out _).mono ?_
    rintro e w24 ⟨rfl, hq⟩
    have A' := Lib.hid (A.out.kept hq)
    have B' := Lib.hid (B.out.kept hq)
    have U' := Lib.hid (U.out.kept hq)
    have P' := Lib.hid (P.out.kept hq)
    have Q' := Lib.hid (Q.out.kept hq)
    have D' := Lib.hid (D.out.kept hq)
    have U2' := Lib.hid (U2.out.kept hq)
    have H24 := Below.two H23 hq
    clear lA A0 A1
    clear A B U P Q D U2 H23
    have A := A'; clear A'
    have B := B'; clear B'
    have U := U'; clear U'
    have P := P'; clear P'
    have Q := Q'; clear Q'
    have D := D'; clear D'
    have U2 := U2'; clear U2'
    clear hq
    go_wp2_with fail
    refine (KhHe.out _ (HT.out.below ((H24.alloc (by have := H24.size; simp; try omega) _).alloc (by have := H24.size; simp; try omega) _))).mono ?_
    rintro e w25 ⟨rfl, hq⟩
    have A' := Lib.hid (((A.out.alloc _).alloc _).kept hq)
    have B' := Lib.hid (((B.out.alloc _).alloc _).kept hq)
    have U' := Lib.hid (((U.out.alloc _).alloc _).kept hq)
    have P' := Lib.hid (((P.out.alloc _).alloc _).kept hq)
    have Q' := Lib.hid (((Q.out.alloc _).alloc _).kept hq)
    have D' := Lib.hid (((D.out.alloc _).alloc _).kept hq)
    have U2' := Lib.hid (((U2.out.alloc _).alloc _).kept hq)
    have P2 := Lib.hid (((Box.new w24 (.int .u32 0) (.int .i64 0) 24).alloc _).kept hq)
    have Q2 := Lib.hid ((Box.new2 w24 (.int .u32 0) (.int .i64 0) (.int .u32 0) (.int .i64 0) 24 24).kept hq)
    have H25 := Below.two ((H24.alloc (by have := H24.size; simp; try omega) _).alloc (by have := H24.size; simp; try omega) _) hq
    clear A B U P Q D U2 H24
    have A := A'; clear A'
    have B := B'; clear B'
    have U := U'; clear U'
    have P := P'; clear P'
    have Q := Q'; clear Q'
    have D := D'; clear D'
    have U2 := U2'; clear U2'
    clear hq
    obtain ⟨lA, A0, A1, _, _⟩ := A.out
    obtain ⟨lB, B0, B1, _, _⟩ := B.out
    go_wp2_with fail
    refine (KhCo.out _).mono ?_
    rintro e w26 ⟨rfl, hq⟩
    have A' := Lib.hid (A.out.kept hq)
    have B' := Lib.hid (B.out.kept hq)
    have U' := Lib.hid (U.out.kept hq)
    have P' := Lib.hid (P.out.kept hq)
    have Q' := Lib.hid (Q.out.kept hq)
    have D' := Lib.hid (D.out.kept hq)
    have U2' := Lib.hid (U2.out.kept hq)
    have P2' := Lib.hid (P2.out.kept hq)
    have Q2' := Lib.hid (Q2.out.kept hq)
    have H26 := Below.two H25 hq
    clear lA A0 A1 lB B0 B1
    clear A B U P Q D U2 P2 Q2 H25
    have A := A'; clear A'
    have B := B'; clear B'
    have U := U'; clear U'
    have P := P'; clear P'
    have Q := Q'; clear Q'
    have D := D'; clear D'
    have U2 := U2'; clear U2'
    have P2 := P2'; clear P2'
    have Q2 := Q2'; clear Q2'
    clear hq
    go_wp2_with fail
    refine (KhCe.out _ (HT.out.below (H26.alloc (by have := H26.size; simp; try omega) _))).mono ?_
    rintro e w27 ⟨rfl, hq⟩
    have A' := Lib.hid ((A.out.alloc _).kept hq)
    have B' := Lib.hid ((B.out.alloc _).kept hq)
    have U' := Lib.hid ((U.out.alloc _).kept hq)
    have P' := Lib.hid ((P.out.alloc _).kept hq)
    have Q' := Lib.hid ((Q.out.alloc _).kept hq)
    have D' := Lib.hid ((D.out.alloc _).kept hq)
    have U2' := Lib.hid ((U2.out.alloc _).kept hq)
    have P2' := Lib.hid ((P2.out.alloc _).kept hq)
    have Q2' := Lib.hid ((Q2.out.alloc _).kept hq)
    have D2 := Lib.hid ((Box.new w26 (.int .u32 0) (.int .i64 0) 24).kept hq)
    have H27 := Below.two (H26.alloc (by have := H26.size; simp; try omega) _) hq
    clear A B U P Q D U2 P2 Q2 H26
    have A := A'; clear A'
    have B := B'; clear B'
    have U := U'; clear U'
    have P := P'; clear P'
    have Q := Q'; clear Q'
    have D := D'; clear D'
    have U2 := U2'; clear U2'
    have P2 := P2'; clear P2'
    have Q2 := Q2'; clear Q2'
    clear hq
    obtain ⟨lU, U0, U1, _, _⟩ := U.out
    obtain ⟨lP, P0, P1, _, _⟩ := P.out
    obtain ⟨lQ, Q0, Q1, _, _⟩ := Q.out
    obtain ⟨lD, D0, D1, _, _⟩ := D.out
    obtain ⟨lU2, U20, U21, _, _⟩ := U2.out
    obtain ⟨lP2, P20, P21, _, _⟩ := P2.out
    obtain ⟨lQ2, Q20, Q21, _, _⟩ := Q2.out
    obtain ⟨lD2, D20, D21, _, _⟩ := D2.out
    go_wp2_with fail
    go_ret
    exact ⟨rfl, H27⟩

end Go.Proofs.YtegfjdpibpmdmaaGreatDoor
