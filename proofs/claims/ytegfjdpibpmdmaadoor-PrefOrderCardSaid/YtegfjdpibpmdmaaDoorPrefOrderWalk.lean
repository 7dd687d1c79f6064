/-
  The statement PrefOrder's function answers true at every three networks; what lay in memory stays. Conditions: the library's listed variables are as its text lays them.
-/
import Derived.Test.YtegfjdpibpmdmaaDoorPrefKnown
import Derived.Test.YtegfjdpibpmdmaaDoorPrefIn
import Derived.Deep.RegionHeld3
namespace Go.Proofs.YtegfjdpibpmdmaaDoor
open Go.RowKit

set_option maxHeartbeats 1000000 in
theorem order_u1 (a : Nat) (l : Int) (b : Nat) (k : Int) (c : Nat) (j : Int) (w : World) (ha : a < 4294967296) (hw : Spell w)
    (hk : ((a : Int) == (b : Int)) = false ∨ (((a : Int) == (b : Int)) = true ∧ (l == k) = false)) (x1 : PrefP.less a l b k = true) (x2 : PrefP.less b k a l = false) (y : PrefP.less b k c j = true) (z : PrefP.less a l c j = true) (i : PrefP.in a l b k = false) :
    Calls Tryd.prog 7 #[.agg #[.int .u32 a, .int .i64 l], .agg #[.int .u32 b, .int .i64 k], .agg #[.int .u32 c, .int .i64 j]] w fun e w' => e = .returned (.bool true) ∧ Below w.heap.size w w' := by
  have HW := Lib.hid hw; clear hw
  have x0 := PrefP.less_self a l
  rcases hk with f1 | ⟨f1, f2⟩
  all_goals
    go_enter Tryd.func7, Tryd.ntmps7
    go_wp2_with fail
    refine (known_any _ (HW.out.below ((((Below.refl _ _).alloc (Nat.le_refl _) _).alloc (by simp) _).alloc (by simp; omega) _))).mono ?_
    rintro e w1 ⟨rfl, hb⟩
    obtain ⟨B1, B2, B3, hB⟩ := box3 hb; clear hb
    have hp := held3 ⟨B1.c0, B1.c1, B2.c0, B2.c1, B3.c0, B3.c1, hB⟩ (Below.refl _ _)
    clear B1 B2 B3 hB
    go_wp2_with fail
    go_region_held3 (fun w' => w'.cell? ⟨w.heap.size, 0, none⟩ = some (.int .u32 a) ∧ w'.cell? ⟨w.heap.size, 1, none⟩ = some (.int .i64 l) ∧ w'.cell? ⟨w.heap.size + 1, 0, none⟩ = some (.int .u32 b) ∧ w'.cell? ⟨w.heap.size + 1, 1, none⟩ = some (.int .i64 k) ∧ w'.cell? ⟨w.heap.size + 1 + 1, 0, none⟩ = some (.int .u32 c) ∧ w'.cell? ⟨w.heap.size + 1 + 1, 1, none⟩ = some (.int .i64 j) ∧ Below w.heap.size w w') (first | assumption | (exact held3 (by assumption) ((Below.refl _ _).drew)) | go_keep)
      (first | (go_at_call 17; refine (less_any _ _ _ _ _).mono ?_; rintro e w2 ⟨rfl, hb2⟩; have K := held3 (by assumption) hb2; clear hb2; try rw [x0]; try rw [x1]; try rw [x2]))
    clear hp
    go_wp2_with fail
    refine (less_any _ _ _ _ _).mono ?_
    rintro e v0 ⟨rfl, hb⟩
    have K0 := held3 K hb; clear hb K
    rw [x1]
    go_wp2_with fail
    refine (less_any _ _ _ _ _).mono ?_
    rintro e v1 ⟨rfl, hb⟩
    have K1 := held3 K0 hb; clear hb K0
    rw [y]
    go_wp2_with fail
    refine (less_any _ _ _ _ _).mono ?_
    rintro e v2 ⟨rfl, hb⟩
    have K2 := held3 K1 hb; clear hb K1
    rw [z]
    go_wp2_with fail
    refine (in_any _ _ _ _ ha _).mono ?_
    rintro e v3 ⟨rfl, hb⟩
    have K3 := held3 K2 hb; clear hb K2
    rw [i]
    go_wp2_with fail
    go_ret
    exact ⟨rfl, K3.2.2.2.2.2.2⟩

set_option maxHeartbeats 1000000 in
theorem order_u2 (a : Nat) (l : Int) (b : Nat) (k : Int) (c : Nat) (j : Int) (w : World) (ha : a < 4294967296) (hw : Spell w)
    (hk : ((a : Int) == (b : Int)) = false ∨ (((a : Int) == (b : Int)) = true ∧ (l == k) = false)) (x1 : PrefP.less a l b k = true) (x2 : PrefP.less b k a l = false) (y : PrefP.less b k c j = false) (i : PrefP.in a l b k = false) :
    Calls Tryd.prog 7 #[.agg #[.int .u32 a, .int .i64 l], .agg #[.int .u32 b, .int .i64 k], .agg #[.int .u32 c, .int .i64 j]] w fun e w' => e = .returned (.bool true) ∧ Below w.heap.size w w' := by
  have HW := Lib.hid hw; clear hw
  have x0 := PrefP.less_self a l
  rcases hk with f1 | ⟨f1, f2⟩
  all_goals
    go_enter Tryd.func7, Tryd.ntmps7
    go_wp2_with fail
    refine (known_any _ (HW.out.below ((((Below.refl _ _).alloc (Nat.le_refl _) _).alloc (by simp) _).alloc (by simp; omega) _))).mono ?_
    rintro e w1 ⟨rfl, hb⟩
    obtain ⟨B1, B2, B3, hB⟩ := box3 hb; clear hb
    have hp := held3 ⟨B1.c0, B1.c1, B2.c0, B2.c1, B3.c0, B3.c1, hB⟩ (Below.refl _ _)
    clear B1 B2 B3 hB
    go_wp2_with fail
    go_region_held3 (fun w' => w'.cell? ⟨w.heap.size, 0, none⟩ = some (.int .u32 a) ∧ w'.cell? ⟨w.heap.size, 1, none⟩ = some (.int .i64 l) ∧ w'.cell? ⟨w.heap.size + 1, 0, none⟩ = some (.int .u32 b) ∧ w'.cell? ⟨w.heap.size + 1, 1, none⟩ = some (.int .i64 k) ∧ w'.cell? ⟨w.heap.size + 1 + 1, 0, none⟩ = some (.int .u32 c) ∧ w'.cell? ⟨w.heap.size + 1 + 1, 1, none⟩ = some (.int .i64 j) ∧ Below w.heap.size w w') (first | assumption | (exact held3 (by assumption) ((Below.refl _ _).drew)) | go_keep)
      (first | (go_at_call 17; refine (less_any _ _ _ _ _).mono ?_; rintro e w2 ⟨rfl, hb2⟩; have K := held3 (by assumption) hb2; clear hb2; try rw [x0]; try rw [x1]; try rw [x2]))
    clear hp
    go_wp2_with fail
    refine (less_any _ _ _ _ _).mono ?_
    rintro e v0 ⟨rfl, hb⟩
    have K0 := held3 K hb; clear hb K
    rw [x1]
    go_wp2_with fail
    refine (less_any _ _ _ _ _).mono ?_
    rintro e v1 ⟨rfl, hb⟩
    have K1 := held3 K0 hb; clear hb K0
    rw [y]
    go_wp2_with fail
    refine (in_any _ _ _ _ ha _).mono ?_
    rintro e v2 ⟨rfl, hb⟩
    have K2 := held3 K1 hb; clear hb K1
    rw [i]
    go_wp2_with fail
    go_ret
    exact ⟨rfl, K2.2.2.2.2.2.2⟩

set_option maxHeartbeats 1000000 in
theorem order_u3 (a : Nat) (l : Int) (b : Nat) (k : Int) (c : Nat) (j : Int) (w : World) (ha : a < 4294967296) (hw : Spell w)
    (hk : ((a : Int) == (b : Int)) = false ∨ (((a : Int) == (b : Int)) = true ∧ (l == k) = false)) (x1 : PrefP.less a l b k = false) (x2 : PrefP.less b k a l = true) (i : PrefP.in a l b k = true) :
    Calls Tryd.prog 7 #[.agg #[.int .u32 a, .int .i64 l], .agg #[.int .u32 b, .int .i64 k], .agg #[.int .u32 c, .int .i64 j]] w fun e w' => e = .returned (.bool true) ∧ Below w.heap.size w w' := by
  have HW := Lib.hid hw; clear hw
  have x0 := PrefP.less_self a l
  rcases hk with f1 | ⟨f1, f2⟩
  all_goals
    go_enter Tryd.func7, Tryd.ntmps7
    go_wp2_with fail
    refine (known_any _ (HW.out.below ((((Below.refl _ _).alloc (Nat.le_refl _) _).alloc (by simp) _).alloc (by simp; omega) _))).mono ?_
    rintro e w1 ⟨rfl, hb⟩
    obtain ⟨B1, B2, B3, hB⟩ := box3 hb; clear hb
    have hp := held3 ⟨B1.c0, B1.c1, B2.c0, B2.c1, B3.c0, B3.c1, hB⟩ (Below.refl _ _)
    clear B1 B2 B3 hB
    go_wp2_with fail
    go_region_held3 (fun w' => w'.cell? ⟨w.heap.size, 0, none⟩ = some (.int .u32 a) ∧ w'.cell? ⟨w.heap.size, 1, none⟩ = some (.int .i64 l) ∧ w'.cell? ⟨w.heap.size + 1, 0, none⟩ = some (.int .u32 b) ∧ w'.cell? ⟨w.heap.size + 1, 1, none⟩ = some (.int .i64 k) ∧ w'.cell? ⟨w.heap.size + 1 + 1, 0, none⟩ = some (.int .u32 c) ∧ w'.cell? ⟨w.heap.size + 1 + 1, 1, none⟩ = some (.int .i64 j) ∧ Below w.heap.size w w') (first | assumption | (exact held3 (by assumption) ((Below.refl _ _).drew)) | go_keep)
      (first | (go_at_call 17; refine (less_any _ _ _ _ _).mono ?_; rintro e w2 ⟨rfl, hb2⟩; have K := held3 (by assumption) hb2; clear hb2; try rw [x0]; try rw [x1]; try rw [x2]))
    clear hp
    go_wp2_with fail
    refine (less_any _ _ _ _ _).mono ?_
    rintro e v0 ⟨rfl, hb⟩
    have K0 := held3 K hb; clear hb K
    rw [x1]
    go_wp2_with fail
    refine (in_any _ _ _ _ ha _).mono ?_
    rintro e v1 ⟨rfl, hb⟩
    have K1 := held3 K0 hb; clear hb K0
    rw [i]
    go_wp2_with fail
    refine (less_any _ _ _ _ _).mono ?_
    rintro e v2 ⟨rfl, hb⟩
    have K2 := held3 K1 hb; clear hb K1
    rw [x2]
    go_wp2_with fail
    go_ret
    exact ⟨rfl, K2.2.2.2.2.2.2⟩

set_option maxHeartbeats 1000000 in
theorem order_u4 (a : Nat) (l : Int) (b : Nat) (k : Int) (c : Nat) (j : Int) (w : World) (ha : a < 4294967296) (hw : Spell w)
    (hk : ((a : Int) == (b : Int)) = false ∨ (((a : Int) == (b : Int)) = true ∧ (l == k) = false)) (x1 : PrefP.less a l b k = false) (x2 : PrefP.less b k a l = true) (i : PrefP.in a l b k = false) :
    Calls Tryd.prog 7 #[.agg #[.int .u32 a, .int .i64 l], .agg #[.int .u32 b, .int .i64 k], .agg #[.int .u32 c, .int .i64 j]] w fun e w' => e = .returned (.bool true) ∧ Below w.heap.size w w' := by
  have HW := Lib.hid hw; clear hw
  have x0 := PrefP.less_self a l
  rcases hk with f1 | ⟨f1, f2⟩
  all_goals
    go_enter Tryd.func7, Tryd.ntmps7
    go_wp2_with fail
    refine (known_any _ (HW.out.below ((((Below.refl _ _).alloc (Nat.le_refl _) _).alloc (by simp) _).alloc (by simp; omega) _))).mono ?_
    rintro e w1 ⟨rfl, hb⟩
    obtain ⟨B1, B2, B3, hB⟩ := box3 hb; clear hb
    have hp := held3 ⟨B1.c0, B1.c1, B2.c0, B2.c1, B3.c0, B3.c1, hB⟩ (Below.refl _ _)
    clear B1 B2 B3 hB
    go_wp2_with fail
    go_region_held3 (fun w' => w'.cell? ⟨w.heap.size, 0, none⟩ = some (.int .u32 a) ∧ w'.cell? ⟨w.heap.size, 1, none⟩ = some (.int .i64 l) ∧ w'.cell? ⟨w.heap.size + 1, 0, none⟩ = some (.int .u32 b) ∧ w'.cell? ⟨w.heap.size + 1, 1, none⟩ = some (.int .i64 k) ∧ w'.cell? ⟨w.heap.size + 1 + 1, 0, none⟩ = some (.int .u32 c) ∧ w'.cell? ⟨w.heap.size + 1 + 1, 1, none⟩ = some (.int .i64 j) ∧ Below w.heap.size w w') (first | assumption | (exact held3 (by assumption) ((Below.refl _ _).drew)) | go_keep)
      (first | (go_at_call 17; refine (less_any _ _ _ _ _).mono ?_; rintro e w2 ⟨rfl, hb2⟩; have K := held3 (by assumption) hb2; clear hb2; try rw [x0]; try rw [x1]; try rw [x2]))
    clear hp
    go_wp2_with fail
    refine (less_any _ _ _ _ _).mono ?_
    rintro e v0 ⟨rfl, hb⟩
    have K0 := held3 K hb; clear hb K
    rw [x1]
    go_wp2_with fail
    refine (in_any _ _ _ _ ha _).mono ?_
    rintro e v1 ⟨rfl, hb⟩
    have K1 := held3 K0 hb; clear hb K0
    rw [i]
    go_wp2_with fail
    go_ret
    exact ⟨rfl, K1.2.2.2.2.2.2⟩

set_option maxHeartbeats 1000000 in
theorem order_e1 (a : Nat) (l : Int) (c : Nat) (j : Int) (w : World) (ha : a < 4294967296) (hw : Spell w)
    (i : PrefP.in a l a l = true) :
    Calls Tryd.prog 7 #[.agg #[.int .u32 a, .int .i64 l], .agg #[.int .u32 a, .int .i64 l], .agg #[.int .u32 c, .int .i64 j]] w fun e w' => e = .returned (.bool true) ∧ Below w.heap.size w w' := by
  have HW := Lib.hid hw; clear hw
  have x0 := PrefP.less_self a l
  go_enter Tryd.func7, Tryd.ntmps7
  go_wp2_with fail
  refine (known_any _ (HW.out.below ((((Below.refl _ _).alloc (Nat.le_refl _) _).alloc (by simp) _).alloc (by simp; omega) _))).mono ?_
  rintro e w1 ⟨rfl, hb⟩
  obtain ⟨B1, B2, B3, hB⟩ := box3 hb; clear hb
  have hp := held3 ⟨B1.c0, B1.c1, B2.c0, B2.c1, B3.c0, B3.c1, hB⟩ (Below.refl _ _)
  clear B1 B2 B3 hB
  go_wp2_with fail
  refine wp_region_held_drew (S := (fun w' => w'.cell? ⟨w.heap.size, 0, none⟩ = some (.int .u32 a) ∧ w'.cell? ⟨w.heap.size, 1, none⟩ = some (.int .i64 l) ∧ w'.cell? ⟨w.heap.size + 1, 0, none⟩ = some (.int .u32 a) ∧ w'.cell? ⟨w.heap.size + 1, 1, none⟩ = some (.int .i64 l) ∧ w'.cell? ⟨w.heap.size + 1 + 1, 0, none⟩ = some (.int .u32 c) ∧ w'.cell? ⟨w.heap.size + 1 + 1, 1, none⟩ = some (.int .i64 j) ∧ Below w.heap.size w w')) (by kernel_rfl) (held3 hp ((Below.refl _ _).drew)) (fun hHeld => ?_)
  clear hp
  refine wpAnyH_take (i := 0) (oi := { dst := some 9, op := Op.move (Operand.tmp 7), type := 4, pos := "nets.go:209", after := #[], guard := none }) (v := ?_) rfl (by kernel_rfl) (by kernel_rfl) (by kernel_rfl) (fun _ _ _ h => h) (Or.inl ⟨by rfl, ?_⟩) hHeld ?_
  rotate_left
  · (intro w hSw; (try dsimp only at hSw); go_simp; first | done | with_reducible rfl)
  simp only [Act.put, List.setIfInBounds_toArray, List.set_cons_zero, List.set_cons_succ]
  refine wpAnyH_take (i := 1) (oi := { dst := some 10, op := Op.unOp UnOp.not 4 (Operand.tmp 9), type := 4, pos := "nets.go:209", after := #[{ on := 0, ground := Ground.data }], guard := none }) (v := ?_) rfl (by kernel_rfl) (by kernel_rfl) (by kernel_rfl) (fun _ _ _ h => h) (Or.inl ⟨by rfl, ?_⟩) hHeld ?_
  rotate_left
  · (intro w hSw; (try dsimp only at hSw); go_simp; first | done | with_reducible rfl)
  simp only [Act.put, List.setIfInBounds_toArray, List.set_cons_zero, List.set_cons_succ]
  refine wpAnyH_take (i := 2) (oi := { dst := some 11, op := Op.move (Operand.tmp 10), type := 4, pos := "nets.go:209", after := #[{ on := 1, ground := Ground.data }], guard := none }) (v := ?_) rfl (by kernel_rfl) (by kernel_rfl) (by kernel_rfl) (fun _ _ _ h => h) (Or.inl ⟨by rfl, ?_⟩) hHeld ?_
  rotate_left
  · (intro w hSw; (try dsimp only at hSw); go_simp; first | done | with_reducible rfl)
  simp only [Act.put, List.setIfInBounds_toArray, List.set_cons_zero, List.set_cons_succ]
  refine wpAnyH_take (i := 3) (oi := { dst := some 12, op := Op.load 24 (Operand.tmp 3), type := 24, pos := "nets.go:209", after := #[{ on := 2, ground := Ground.guard }], guard := some (2, false) }) (v := ?_) rfl (by kernel_rfl) (by kernel_rfl) (by kernel_rfl) (fun _ _ _ h => h) (Or.inl ⟨by rfl, ?_⟩) hHeld ?_
  rotate_left
  · (intro w hSw; (try dsimp only at hSw); go_simp; first | done | with_reducible rfl)
  simp only [Act.put, List.setIfInBounds_toArray, List.set_cons_zero, List.set_cons_succ]
  refine wpAnyH_take (i := 4) (oi := { dst := some 13, op := Op.load 24 (Operand.tmp 3), type := 24, pos := "nets.go:209", after := #[{ on := 2, ground := Ground.guard }], guard := some (2, false) }) (v := ?_) rfl (by kernel_rfl) (by kernel_rfl) (by kernel_rfl) (fun _ _ _ h => h) (Or.inl ⟨by rfl, ?_⟩) hHeld ?_
  rotate_left
  · (intro w hSw; (try dsimp only at hSw); go_simp; first | done | with_reducible rfl)
  simp only [Act.put, List.setIfInBounds_toArray, List.set_cons_zero, List.set_cons_succ]
  refine wpAnyH_ready (rs := [5]) (by kernel_rfl) (by simp) ?_
  refine AllReadyH.cons (o := { dst := some 14, op := Op.call { callee := Callee.value (Operand.func 17), args := #[Operand.tmp 12, Operand.tmp 13], argTypes := #[24, 24] }, type := 4, pos := "nets.go:209", after := #[{ on := 3, ground := Ground.data }, { on := 4, ground := Ground.data }, { on := 2, ground := Ground.chain }, { on := 2, ground := Ground.guard }], guard := some (2, false) }) rfl (fun K hK => ?_) AllReadyH.nil
  go_simp
  go_at_call 17
  refine (less_any _ _ _ _ _).mono ?_
  rintro e w2 ⟨rfl, hb2⟩
  have K2 := held3 hHeld hb2; clear hb2 hHeld
  rw [x0]
  go_wp2_with fail
  refine hK.out _ _ K2 (fun hHeld => ?_)
  clear hK K
  refine wpAnyH_take (i := 6) (oi := { dst := some 15, op := Op.pick (Operand.tmp 11) (Operand.const (Value.bool true)) (Operand.tmp 14), type := 4, pos := "nets.go:209", after := #[{ on := 2, ground := Ground.data }, { on := 5, ground := Ground.data }], guard := none }) (v := ?_) rfl (by kernel_rfl) (by kernel_rfl) (by kernel_rfl) (fun _ _ _ h => h) (Or.inl ⟨by rfl, ?_⟩) hHeld ?_
  rotate_left
  · (intro w hSw; (try dsimp only at hSw); go_simp; first | done | with_reducible rfl)
  simp only [Act.put, List.setIfInBounds_toArray, List.set_cons_zero, List.set_cons_succ]
  refine wpAnyH_take (i := 7) (oi := { dst := some 16, op := Op.move (Operand.tmp 15), type := 4, pos := "nets.go:209", after := #[{ on := 6, ground := Ground.data }, { on := 5, ground := Ground.chain }], guard := none }) (v := ?_) rfl (by kernel_rfl) (by kernel_rfl) (by kernel_rfl) (fun _ _ _ h => h) (Or.inl ⟨by rfl, ?_⟩) hHeld ?_
  rotate_left
  · (intro w hSw; (try dsimp only at hSw); go_simp; first | done | with_reducible rfl)
  simp only [Act.put, List.setIfInBounds_toArray, List.set_cons_zero, List.set_cons_succ]
  refine wpAnyH_take (i := 8) (oi := { dst := some 17, op := Op.load 24 (Operand.tmp 3), type := 24, pos := "nets.go:209", after := #[{ on := 7, ground := Ground.guard }], guard := some (7, false) }) (v := ?_) rfl (by kernel_rfl) (by kernel_rfl) (by kernel_rfl) (fun _ _ _ h => h) (Or.inl ⟨by rfl, ?_⟩) hHeld ?_
  rotate_left
  · (intro w hSw; (try dsimp only at hSw); go_simp; first | done | with_reducible rfl)
  simp only [Act.put, List.setIfInBounds_toArray, List.set_cons_zero, List.set_cons_succ]
  refine wpAnyH_take (i := 9) (oi := { dst := some 18, op := Op.load 24 (Operand.tmp 4), type := 24, pos := "nets.go:209", after := #[{ on := 7, ground := Ground.guard }], guard := some (7, false) }) (v := ?_) rfl (by kernel_rfl) (by kernel_rfl) (by kernel_rfl) (fun _ _ _ h => h) (Or.inl ⟨by rfl, ?_⟩) hHeld ?_
  rotate_left
  · (intro w hSw; (try dsimp only at hSw); go_simp; first | done | with_reducible rfl)
  simp only [Act.put, List.setIfInBounds_toArray, List.set_cons_zero, List.set_cons_succ]
  refine wpAnyH_take (i := 10) (oi := { dst := some 19, op := Op.binOp BinOp.neq 24 (Operand.tmp 17) (Operand.tmp 18) 24, type := 4, pos := "nets.go:209", after := #[{ on := 8, ground := Ground.data }, { on := 9, ground := Ground.data }, { on := 7, ground := Ground.guard }], guard := some (7, false) }) (v := ?_) rfl (by kernel_rfl) (by kernel_rfl) (by kernel_rfl) (fun _ _ _ h => h) (Or.inl ⟨by rfl, ?_⟩) hHeld ?_
  rotate_left
  · (intro w hSw; (try dsimp only at hSw); go_simp; first | done | with_reducible rfl)
  simp only [Act.put, List.setIfInBounds_toArray, List.set_cons_zero, List.set_cons_succ]
  refine wpAnyH_take (i := 11) (oi := { dst := some 20, op := Op.move (Operand.tmp 19), type := 4, pos := "nets.go:209", after := #[{ on := 10, ground := Ground.data }, { on := 7, ground := Ground.chain }, { on := 7, ground := Ground.guard }], guard := some (7, false) }) (v := ?_) rfl (by kernel_rfl) (by kernel_rfl) (by kernel_rfl) (fun _ _ _ h => h) (Or.inl ⟨by rfl, ?_⟩) hHeld ?_
  rotate_left
  · (intro w hSw; (try dsimp only at hSw); go_simp; first | done | with_reducible rfl)
  simp only [Act.put, List.setIfInBounds_toArray, List.set_cons_zero, List.set_cons_succ]
  refine wpAnyH_take (i := 12) (oi := { dst := some 21, op := Op.load 24 (Operand.tmp 3), type := 24, pos := "nets.go:209", after := #[{ on := 11, ground := Ground.guard }], guard := some (11, true) }) (v := undef) rfl (by kernel_rfl) (by kernel_rfl) (by kernel_rfl) (fun _ _ _ h => h) (Or.inr ⟨by rfl, rfl⟩) hHeld ?_
  simp only [Act.put, List.setIfInBounds_toArray, List.set_cons_zero, List.set_cons_succ]
  refine wpAnyH_take (i := 13) (oi := { dst := some 22, op := Op.load 24 (Operand.tmp 4), type := 24, pos := "nets.go:209", after := #[{ on := 11, ground := Ground.guard }], guard := some (11, true) }) (v := undef) rfl (by kernel_rfl) (by kernel_rfl) (by kernel_rfl) (fun _ _ _ h => h) (Or.inr ⟨by rfl, rfl⟩) hHeld ?_
  simp only [Act.put, List.setIfInBounds_toArray, List.set_cons_zero, List.set_cons_succ]
  refine wpAnyH_take (i := 14) (oi := { dst := some 23, op := Op.call { callee := Callee.value (Operand.func 17), args := #[Operand.tmp 21, Operand.tmp 22], argTypes := #[24, 24] }, type := 4, pos := "nets.go:209", after := #[{ on := 12, ground := Ground.data }, { on := 13, ground := Ground.data }, { on := 11, ground := Ground.chain }, { on := 11, ground := Ground.guard }], guard := some (11, true) }) (v := undef) rfl (by kernel_rfl) (by kernel_rfl) (by kernel_rfl) (fun _ _ _ h => h) (Or.inr ⟨by rfl, rfl⟩) hHeld ?_
  simp only [Act.put, List.setIfInBounds_toArray, List.set_cons_zero, List.set_cons_succ]
  refine wpAnyH_take (i := 15) (oi := { dst := some 24, op := Op.load 24 (Operand.tmp 4), type := 24, pos := "nets.go:209", after := #[{ on := 11, ground := Ground.guard }], guard := some (11, true) }) (v := undef) rfl (by kernel_rfl) (by kernel_rfl) (by kernel_rfl) (fun _ _ _ h => h) (Or.inr ⟨by rfl, rfl⟩) hHeld ?_
  simp only [Act.put, List.setIfInBounds_toArray, List.set_cons_zero, List.set_cons_succ]
  refine wpAnyH_take (i := 16) (oi := { dst := some 25, op := Op.load 24 (Operand.tmp 3), type := 24, pos := "nets.go:209", after := #[{ on := 11, ground := Ground.guard }], guard := some (11, true) }) (v := undef) rfl (by kernel_rfl) (by kernel_rfl) (by kernel_rfl) (fun _ _ _ h => h) (Or.inr ⟨by rfl, rfl⟩) hHeld ?_
  simp only [Act.put, List.setIfInBounds_toArray, List.set_cons_zero, List.set_cons_succ]
  refine wpAnyH_take (i := 17) (oi := { dst := some 26, op := Op.call { callee := Callee.value (Operand.func 17), args := #[Operand.tmp 24, Operand.tmp 25], argTypes := #[24, 24] }, type := 4, pos := "nets.go:209", after := #[{ on := 15, ground := Ground.data }, { on := 16, ground := Ground.data }, { on := 14, ground := Ground.chain }, { on := 11, ground := Ground.guard }], guard := some (11, true) }) (v := undef) rfl (by kernel_rfl) (by kernel_rfl) (by kernel_rfl) (fun _ _ _ h => h) (Or.inr ⟨by rfl, rfl⟩) hHeld ?_
  simp only [Act.put, List.setIfInBounds_toArray, List.set_cons_zero, List.set_cons_succ]
  refine wpAnyH_take (i := 18) (oi := { dst := some 27, op := Op.binOp BinOp.eql 4 (Operand.tmp 23) (Operand.tmp 26) 4, type := 4, pos := "nets.go:209", after := #[{ on := 14, ground := Ground.data }, { on := 17, ground := Ground.data }, { on := 11, ground := Ground.guard }], guard := some (11, true) }) (v := undef) rfl (by kernel_rfl) (by kernel_rfl) (by kernel_rfl) (fun _ _ _ h => h) (Or.inr ⟨by rfl, rfl⟩) hHeld ?_
  simp only [Act.put, List.setIfInBounds_toArray, List.set_cons_zero, List.set_cons_succ]
  refine wpAnyH_take (i := 19) (oi := { dst := some 28, op := Op.pick (Operand.tmp 20) (Operand.tmp 27) (Operand.const (Value.bool false)), type := 4, pos := "nets.go:209", after := #[{ on := 11, ground := Ground.data }, { on := 18, ground := Ground.data }, { on := 7, ground := Ground.guard }], guard := some (7, false) }) (v := ?_) rfl (by kernel_rfl) (by kernel_rfl) (by kernel_rfl) (fun _ _ _ h => h) (Or.inl ⟨by rfl, ?_⟩) hHeld ?_
  rotate_left
  · (intro w hSw; (try dsimp only at hSw); go_simp; first | done | with_reducible rfl)
  simp only [Act.put, List.setIfInBounds_toArray, List.set_cons_zero, List.set_cons_succ]
  refine wpAnyH_take (i := 20) (oi := { dst := some 29, op := Op.pick (Operand.tmp 16) (Operand.const (Value.bool true)) (Operand.tmp 28), type := 4, pos := "nets.go:209", after := #[{ on := 7, ground := Ground.data }, { on := 19, ground := Ground.data }], guard := none }) (v := ?_) rfl (by kernel_rfl) (by kernel_rfl) (by kernel_rfl) (fun _ _ _ h => h) (Or.inl ⟨by rfl, ?_⟩) hHeld ?_
  rotate_left
  · (intro w hSw; (try dsimp only at hSw); go_simp; first | done | with_reducible rfl)
  simp only [Act.put, List.setIfInBounds_toArray, List.set_cons_zero, List.set_cons_succ]
  refine wpAnyH_done (by kernel_rfl) ?_ _
  have K := hHeld; clear hHeld
  go_wp2_with fail
  refine (less_any _ _ _ _ _).mono ?_
  rintro e v0 ⟨rfl, hb⟩
  have K0 := held3 K hb; clear hb K
  rw [x0]
  go_wp2_with fail
  refine (in_any _ _ _ _ ha _).mono ?_
  rintro e v1 ⟨rfl, hb⟩
  have K1 := held3 K0 hb; clear hb K0
  rw [i]
  go_wp2_with fail
  go_ret
  exact ⟨rfl, K1.2.2.2.2.2.2⟩

set_option maxHeartbeats 1000000 in
theorem order_e2 (a : Nat) (l : Int) (c : Nat) (j : Int) (w : World) (ha : a < 4294967296) (hw : Spell w)
    (i : PrefP.in a l a l = false) :
    Calls Tryd.prog 7 #[.agg #[.int .u32 a, .int .i64 l], .agg #[.int .u32 a, .int .i64 l], .agg #[.int .u32 c, .int .i64 j]] w fun e w' => e = .returned (.bool true) ∧ Below w.heap.size w w' := by
  have HW := Lib.hid hw; clear hw
  have x0 := PrefP.less_self a l
  go_enter Tryd.func7, Tryd.ntmps7
  go_wp2_with fail
  refine (known_any _ (HW.out.below ((((Below.refl _ _).alloc (Nat.le_refl _) _).alloc (by simp) _).alloc (by simp; omega) _))).mono ?_
  rintro e w1 ⟨rfl, hb⟩
  obtain ⟨B1, B2, B3, hB⟩ := box3 hb; clear hb
  have hp := held3 ⟨B1.c0, B1.c1, B2.c0, B2.c1, B3.c0, B3.c1, hB⟩ (Below.refl _ _)
  clear B1 B2 B3 hB
  go_wp2_with fail
  refine wp_region_held_drew (S := (fun w' => w'.cell? ⟨w.heap.size, 0, none⟩ = some (.int .u32 a) ∧ w'.cell? ⟨w.heap.size, 1, none⟩ = some (.int .i64 l) ∧ w'.cell? ⟨w.heap.size + 1, 0, none⟩ = some (.int .u32 a) ∧ w'.cell? ⟨w.heap.size + 1, 1, none⟩ = some (.int .i64 l) ∧ w'.cell? ⟨w.heap.size + 1 + 1, 0, none⟩ = some (.int .u32 c) ∧ w'.cell? ⟨w.heap.size + 1 + 1, 1, none⟩ = some (.int .i64 j) ∧ Below w.heap.size w w')) (by kernel_rfl) (held3 hp ((Below.refl _ _).drew)) (fun hHeld => ?_)
  clear hp
  refine wpAnyH_take (i := 0) (oi := { dst := some 9, op := Op.move (Operand.tmp 7), type := 4, pos := "nets.go:209", after := #[], guard := none }) (v := ?_) rfl (by kernel_rfl) (by kernel_rfl) (by kernel_rfl) (fun _ _ _ h => h) (Or.inl ⟨by rfl, ?_⟩) hHeld ?_
  rotate_left
  · (intro w hSw; (try dsimp only at hSw); go_simp; first | done | with_reducible rfl)
  simp only [Act.put, List.setIfInBounds_toArray, List.set_cons_zero, List.set_cons_succ]
  refine wpAnyH_take (i := 1) (oi := { dst := some 10, op := Op.unOp UnOp.not 4 (Operand.tmp 9), type := 4, pos := "nets.go:209", after := #[{ on := 0, ground := Ground.data }], guard := none }) (v := ?_) rfl (by kernel_rfl) (by kernel_rfl) (by kernel_rfl) (fun _ _ _ h => h) (Or.inl ⟨by rfl, ?_⟩) hHeld ?_
  rotate_left
  · (intro w hSw; (try dsimp only at hSw); go_simp; first | done | with_reducible rfl)
  simp only [Act.put, List.setIfInBounds_toArray, List.set_cons_zero, List.set_cons_succ]
  refine wpAnyH_take (i := 2) (oi := { dst := some 11, op := Op.move (Operand.tmp 10), type := 4, pos := "nets.go:209", after := #[{ on := 1, ground := Ground.data }], guard := none }) (v := ?_) rfl (by kernel_rfl) (by kernel_rfl) (by kernel_rfl) (fun _ _ _ h => h) (Or.inl ⟨by rfl, ?_⟩) hHeld ?_
  rotate_left
  · (intro w hSw; (try dsimp only at hSw); go_simp; first | done | with_reducible rfl)
  simp only [Act.put, List.setIfInBounds_toArray, List.set_cons_zero, List.set_cons_succ]
  refine wpAnyH_take (i := 3) (oi := { dst := some 12, op := Op.load 24 (Operand.tmp 3), type := 24, pos := "nets.go:209", after := #[{ on := 2, ground := Ground.guard }], guard := some (2, false) }) (v := ?_) rfl (by kernel_rfl) (by kernel_rfl) (by kernel_rfl) (fun _ _ _ h => h) (Or.inl ⟨by rfl, ?_⟩) hHeld ?_
  rotate_left
  · (intro w hSw; (try dsimp only at hSw); go_simp; first | done | with_reducible rfl)
  simp only [Act.put, List.setIfInBounds_toArray, List.set_cons_zero, List.set_cons_succ]
  refine wpAnyH_take (i := 4) (oi := { dst := some 13, op := Op.load 24 (Operand.tmp 3), type := 24, pos := "nets.go:209", after := #[{ on := 2, ground := Ground.guard }], guard := some (2, false) }) (v := ?_) rfl (by kernel_rfl) (by kernel_rfl) (by kernel_rfl) (fun _ _ _ h => h) (Or.inl ⟨by rfl, ?_⟩) hHeld ?_
  rotate_left
  · (intro w hSw; (try dsimp only at hSw); go_simp; first | done | with_reducible rfl)
  simp only [Act.put, List.setIfInBounds_toArray, List.set_cons_zero, List.set_cons_succ]
  refine wpAnyH_ready (rs := [5]) (by kernel_rfl) (by simp) ?_
  refine AllReadyH.cons (o := { dst := some 14, op := Op.call { callee := Callee.value (Operand.func 17), args := #[Operand.tmp 12, Operand.tmp 13], argTypes := #[24, 24] }, type := 4, pos := "nets.go:209", after := #[{ on := 3, ground := Ground.data }, { on := 4, ground := Ground.data }, { on := 2, ground := Ground.chain }, { on := 2, ground := Ground.guard }], guard := some (2, false) }) rfl (fun K hK => ?_) AllReadyH.nil
  go_simp
  go_at_call 17
  refine (less_any _ _ _ _ _).mono ?_
  rintro e w2 ⟨rfl, hb2⟩
  have K2 := held3 hHeld hb2; clear hb2 hHeld
  rw [x0]
  go_wp2_with fail
  refine hK.out _ _ K2 (fun hHeld => ?_)
  clear hK K
  refine wpAnyH_take (i := 6) (oi := { dst := some 15, op := Op.pick (Operand.tmp 11) (Operand.const (Value.bool true)) (Operand.tmp 14), type := 4, pos := "nets.go:209", after := #[{ on := 2, ground := Ground.data }, { on := 5, ground := Ground.data }], guard := none }) (v := ?_) rfl (by kernel_rfl) (by kernel_rfl) (by kernel_rfl) (fun _ _ _ h => h) (Or.inl ⟨by rfl, ?_⟩) hHeld ?_
  rotate_left
  · (intro w hSw; (try dsimp only at hSw); go_simp; first | done | with_reducible rfl)
  simp only [Act.put, List.setIfInBounds_toArray, List.set_cons_zero, List.set_cons_succ]
  refine wpAnyH_take (i := 7) (oi := { dst := some 16, op := Op.move (Operand.tmp 15), type := 4, pos := "nets.go:209", after := #[{ on := 6, ground := Ground.data }, { on := 5, ground := Ground.chain }], guard := none }) (v := ?_) rfl (by kernel_rfl) (by kernel_rfl) (by kernel_rfl) (fun _ _ _ h => h) (Or.inl ⟨by rfl, ?_⟩) hHeld ?_
  rotate_left
  · (intro w hSw; (try dsimp only at hSw); go_simp; first | done | with_reducible rfl)
  simp only [Act.put, List.setIfInBounds_toArray, List.set_cons_zero, List.set_cons_succ]
  refine wpAnyH_take (i := 8) (oi := { dst := some 17, op := Op.load 24 (Operand.tmp 3), type := 24, pos := "nets.go:209", after := #[{ on := 7, ground := Ground.guard }], guard := some (7, false) }) (v := ?_) rfl (by kernel_rfl) (by kernel_rfl) (by kernel_rfl) (fun _ _ _ h => h) (Or.inl ⟨by rfl, ?_⟩) hHeld ?_
  rotate_left
  · (intro w hSw; (try dsimp only at hSw); go_simp; first | done | with_reducible rfl)
  simp only [Act.put, List.setIfInBounds_toArray, List.set_cons_zero, List.set_cons_succ]
  refine wpAnyH_take (i := 9) (oi := { dst := some 18, op := Op.load 24 (Operand.tmp 4), type := 24, pos := "nets.go:209", after := #[{ on := 7, ground := Ground.guard }], guard := some (7, false) }) (v := ?_) rfl (by kernel_rfl) (by kernel_rfl) (by kernel_rfl) (fun _ _ _ h => h) (Or.inl ⟨by rfl, ?_⟩) hHeld ?_
  rotate_left
  · (intro w hSw; (try dsimp only at hSw); go_simp; first | done | with_reducible rfl)
  simp only [Act.put, List.setIfInBounds_toArray, List.set_cons_zero, List.set_cons_succ]
  refine wpAnyH_take (i := 10) (oi := { dst := some 19, op := Op.binOp BinOp.neq 24 (Operand.tmp 17) (Operand.tmp 18) 24, type := 4, pos := "nets.go:209", after := #[{ on := 8, ground := Ground.data }, { on := 9, ground := Ground.data }, { on := 7, ground := Ground.guard }], guard := some (7, false) }) (v := ?_) rfl (by kernel_rfl) (by kernel_rfl) (by kernel_rfl) (fun _ _ _ h => h) (Or.inl ⟨by rfl, ?_⟩) hHeld ?_
  rotate_left
  · (intro w hSw; (try dsimp only at hSw); go_simp; first | done | with_reducible rfl)
  simp only [Act.put, List.setIfInBounds_toArray, List.set_cons_zero, List.set_cons_succ]
  refine wpAnyH_take (i := 11) (oi := { dst := some 20, op := Op.move (Operand.tmp 19), type := 4, pos := "nets.go:209", after := #[{ on := 10, ground := Ground.data }, { on := 7, ground := Ground.chain }, { on := 7, ground := Ground.guard }], guard := some (7, false) }) (v := ?_) rfl (by kernel_rfl) (by kernel_rfl) (by kernel_rfl) (fun _ _ _ h => h) (Or.inl ⟨by rfl, ?_⟩) hHeld ?_
  rotate_left
  · (intro w hSw; (try dsimp only at hSw); go_simp; first | done | with_reducible rfl)
  simp only [Act.put, List.setIfInBounds_toArray, List.set_cons_zero, List.set_cons_succ]
  refine wpAnyH_take (i := 12) (oi := { dst := some 21, op := Op.load 24 (Operand.tmp 3), type := 24, pos := "nets.go:209", after := #[{ on := 11, ground := Ground.guard }], guard := some (11, true) }) (v := undef) rfl (by kernel_rfl) (by kernel_rfl) (by kernel_rfl) (fun _ _ _ h => h) (Or.inr ⟨by rfl, rfl⟩) hHeld ?_
  simp only [Act.put, List.setIfInBounds_toArray, List.set_cons_zero, List.set_cons_succ]
  refine wpAnyH_take (i := 13) (oi := { dst := some 22, op := Op.load 24 (Operand.tmp 4), type := 24, pos := "nets.go:209", after := #[{ on := 11, ground := Ground.guard }], guard := some (11, true) }) (v := undef) rfl (by kernel_rfl) (by kernel_rfl) (by kernel_rfl) (fun _ _ _ h => h) (Or.inr ⟨by rfl, rfl⟩) hHeld ?_
  simp only [Act.put, List.setIfInBounds_toArray, List.set_cons_zero, List.set_cons_succ]
  refine wpAnyH_take (i := 14) (oi := { dst := some 23, op := Op.call { callee := Callee.value (Operand.func 17), args := #[Operand.tmp 21, Operand.tmp 22], argTypes := #[24, 24] }, type := 4, pos := "nets.go:209", after := #[{ on := 12, ground := Ground.data }, { on := 13, ground := Ground.data }, { on := 11, ground := Ground.chain }, { on := 11, ground := Ground.guard }], guard := some (11, true) }) (v := undef) rfl (by kernel_rfl) (by kernel_rfl) (by kernel_rfl) (fun _ _ _ h => h) (Or.inr ⟨by rfl, rfl⟩) hHeld ?_
  simp only [Act.put, List.setIfInBounds_toArray, List.set_cons_zero, List.set_cons_succ]
  refine wpAnyH_take (i := 15) (oi := { dst := some 24, op := Op.load 24 (Operand.tmp 4), type := 24, pos := "nets.go:209", after := #[{ on := 11, ground := Ground.guard }], guard := some (11, true) }) (v := undef) rfl (by kernel_rfl) (by kernel_rfl) (by kernel_rfl) (fun _ _ _ h => h) (Or.inr ⟨by rfl, rfl⟩) hHeld ?_
  simp only [Act.put, List.setIfInBounds_toArray, List.set_cons_zero, List.set_cons_succ]
  refine wpAnyH_take (i := 16) (oi := { dst := some 25, op := Op.load 24 (Operand.tmp 3), type := 24, pos := "nets.go:209", after := #[{ on := 11, ground := Ground.guard }], guard := some (11, true) }) (v := undef) rfl (by kernel_rfl) (by kernel_rfl) (by kernel_rfl) (fun _ _ _ h => h) (Or.inr ⟨by rfl, rfl⟩) hHeld ?_
  simp only [Act.put, List.setIfInBounds_toArray, List.set_cons_zero, List.set_cons_succ]
  refine wpAnyH_take (i := 17) (oi := { dst := some 26, op := Op.call { callee := Callee.value (Operand.func 17), args := #[Operand.tmp 24, Operand.tmp 25], argTypes := #[24, 24] }, type := 4, pos := "nets.go:209", after := #[{ on := 15, ground := Ground.data }, { on := 16, ground := Ground.data }, { on := 14, ground := Ground.chain }, { on := 11, ground := Ground.guard }], guard := some (11, true) }) (v := undef) rfl (by kernel_rfl) (by kernel_rfl) (by kernel_rfl) (fun _ _ _ h => h) (Or.inr ⟨by rfl, rfl⟩) hHeld ?_
  simp only [Act.put, List.setIfInBounds_toArray, List.set_cons_zero, List.set_cons_succ]
  refine wpAnyH_take (i := 18) (oi := { dst := some 27, op := Op.binOp BinOp.eql 4 (Operand.tmp 23) (Operand.tmp 26) 4, type := 4, pos := "nets.go:209", after := #[{ on := 14, ground := Ground.data }, { on := 17, ground := Ground.data }, { on := 11, ground := Ground.guard }], guard := some (11, true) }) (v := undef) rfl (by kernel_rfl) (by kernel_rfl) (by kernel_rfl) (fun _ _ _ h => h) (Or.inr ⟨by rfl, rfl⟩) hHeld ?_
  simp only [Act.put, List.setIfInBounds_toArray, List.set_cons_zero, List.set_cons_succ]
  refine wpAnyH_take (i := 19) (oi := { dst := some 28, op := Op.pick (Operand.tmp 20) (Operand.tmp 27) (Operand.const (Value.bool false)), type := 4, pos := "nets.go:209", after := #[{ on := 11, ground := Ground.data }, { on := 18, ground := Ground.data }, { on := 7, ground := Ground.guard }], guard := some (7, false) }) (v := ?_) rfl (by kernel_rfl) (by kernel_rfl) (by kernel_rfl) (fun _ _ _ h => h) (Or.inl ⟨by rfl, ?_⟩) hHeld ?_
  rotate_left
  · (intro w hSw; (try dsimp only at hSw); go_simp; first | done | with_reducible rfl)
  simp only [Act.put, List.setIfInBounds_toArray, List.set_cons_zero, List.set_cons_succ]
  refine wpAnyH_take (i := 20) (oi := { dst := some 29, op := Op.pick (Operand.tmp 16) (Operand.const (Value.bool true)) (Operand.tmp 28), type := 4, pos := "nets.go:209", after := #[{ on := 7, ground := Ground.data }, { on := 19, ground := Ground.data }], guard := none }) (v := ?_) rfl (by kernel_rfl) (by kernel_rfl) (by kernel_rfl) (fun _ _ _ h => h) (Or.inl ⟨by rfl, ?_⟩) hHeld ?_
  rotate_left
  · (intro w hSw; (try dsimp only at hSw); go_simp; first | done | with_reducible rfl)
  simp only [Act.put, List.setIfInBounds_toArray, List.set_cons_zero, List.set_cons_succ]
  refine wpAnyH_done (by kernel_rfl) ?_ _
  have K := hHeld; clear hHeld
  go_wp2_with fail
  refine (less_any _ _ _ _ _).mono ?_
  rintro e v0 ⟨rfl, hb⟩
  have K0 := held3 K hb; clear hb K
  rw [x0]
  go_wp2_with fail
  refine (in_any _ _ _ _ ha _).mono ?_
  rintro e v1 ⟨rfl, hb⟩
  have K1 := held3 K0 hb; clear hb K0
  rw [i]
  go_wp2_with fail
  go_ret
  exact ⟨rfl, K1.2.2.2.2.2.2⟩

theorem prefOrder_walk (a : Nat) (l : Int) (b : Nat) (k : Int) (c : Nat) (j : Int) (w : World) (ha : a < 4294967296) (hw : Spell w) :
    Calls Tryd.prog 7 #[.agg #[.int .u32 a, .int .i64 l], .agg #[.int .u32 b, .int .i64 k], .agg #[.int .u32 c, .int .i64 j]] w fun e w' => e = .returned (.bool true) ∧ Below w.heap.size w w' := by
  by_cases hq : a = b ∧ l = k
  · obtain ⟨rfl, rfl⟩ := hq
    cases i : PrefP.in a l a l with
    | true => exact order_e1 a l c j w ha hw i
    | false => exact order_e2 a l c j w ha hw i
  · have hk : ((a : Int) == (b : Int)) = false ∨ (((a : Int) == (b : Int)) = true ∧ (l == k) = false) := by
      by_cases h1 : a = b
      · have h2 : ¬ l = k := fun e => hq ⟨h1, e⟩
        exact Or.inr ⟨by simp [h1], by simpa using h2⟩
      · have h2 : ¬ ((a : Int) = (b : Int)) := by omega
        exact Or.inl (by simpa using h2)
    have ho := PrefP.less_one a l b k hq
    cases x2 : PrefP.less b k a l with
    | false =>
      rw [x2] at ho
      have i : PrefP.in a l b k = false := by
        cases i : PrefP.in a l b k with
        | false => rfl
        | true => rw [PrefP.in_less a l b k i hq] at x2; cases x2
      cases y : PrefP.less b k c j with
      | true => exact order_u1 a l b k c j w ha hw hk ho x2 y (PrefP.less_trans a l b k c j ho y) i
      | false => exact order_u2 a l b k c j w ha hw hk ho x2 y i
    | true =>
      rw [x2] at ho
      cases i : PrefP.in a l b k with
      | true => exact order_u3 a l b k c j w ha hw hk ho x2 i
      | false => exact order_u4 a l b k c j w ha hw hk ho x2 i
end Go.Proofs.YtegfjdpibpmdmaaDoor
