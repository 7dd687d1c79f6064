/-
  The document's own answer CommonOf at every two right networks; what lay in memory stays.
-/
import Derived.Test.YtegfjdpibpmdmaaGreatDoorRefTrim
import Derived.Test.YtegfjdpibpmdmaaGreatDoorCommonPlain
import Derived.Lib.Walk
namespace Go.Proofs.YtegfjdpibpmdmaaGreatDoor
open Go.RowKit

theorem heldB {w0 w w1 : World} {b : Nat} {x y x' y' x'' y'' : Value} (h : w.cell? ⟨b, 0, none⟩ = some x ∧ w.cell? ⟨b, 1, none⟩ = some y ∧ w.cell? ⟨b + 1, 0, none⟩ = some x' ∧ w.cell? ⟨b + 1, 1, none⟩ = some y' ∧ Box w (b + 1 + 1) x'' y'' ∧ Below w0.heap.size w0 w) (hb : Below w.heap.size w w1) :
    w1.cell? ⟨b, 0, none⟩ = some x ∧ w1.cell? ⟨b, 1, none⟩ = some y ∧ w1.cell? ⟨b + 1, 0, none⟩ = some x' ∧ w1.cell? ⟨b + 1, 1, none⟩ = some y' ∧ Box w1 (b + 1 + 1) x'' y'' ∧ Below w0.heap.size w0 w1 := by
  obtain ⟨h1, h2, h3, h4, h5, h6⟩ := h
  have l1 : b < w.heap.size := World.block_lt_of_cell? _ _ h1
  have l2 : b + 1 < w.heap.size := World.block_lt_of_cell? _ _ h3
  exact ⟨(hb.cell (p := ⟨b, 0, none⟩) l1).trans h1, (hb.cell (p := ⟨b, 1, none⟩) l1).trans h2, (hb.cell (p := ⟨b + 1, 0, none⟩) l2).trans h3, (hb.cell (p := ⟨b + 1, 1, none⟩) l2).trans h4, h5.kept hb, Below.two h6 hb⟩

/-- What the loop keeps. -/
def PrefP.ComRel (a n b m H : Nat) (w : World) (i : Value) (wr : World) : Prop :=
  ∃ k : Nat, i = .int .i64 (k : Int) ∧ PrefP.com a n b m ≤ k ∧ k ≤ n ∧ k ≤ m ∧
    (wr.cell? ⟨H, 0, none⟩ = some (.int .u32 a) ∧ wr.cell? ⟨H, 1, none⟩ = some (.int .i64 n) ∧ wr.cell? ⟨H + 1, 0, none⟩ = some (.int .u32 b) ∧ wr.cell? ⟨H + 1, 1, none⟩ = some (.int .i64 m) ∧ Box wr (H + 1 + 1) (.int .u32 0) (.int .i64 0) ∧ Below w.heap.size w wr)

set_option maxHeartbeats 2000000 in
theorem commonOf_any (a n b m : Nat) (w : World) (ha : a < 4294967296) (hn : n ≤ 32) (hb : b < 4294967296) :
    Calls Tryz.prog 20 #[.agg #[.int .u32 a, .int .i64 n], .agg #[.int .u32 b, .int .i64 m]] w fun e w' => e = .returned (.agg #[.int .u32 (PrefP.cut a (PrefP.com a n b m) : Int), .int .i64 (PrefP.com a n b m : Int)]) ∧ Below w.heap.size w w' := by
  have hcl := PrefP.com_le a n b m
  have HI := Lib.hid (fun k => PrefP.com_iff a n b m k ha hb hn)
  generalize hu : PrefP.com a n b m = u at *
  have HU := Lib.hid hu; clear hu
  have B0 := box3 (Below.refl (((w.alloc (.cells #[.int .u32 (a : Int), .int .i64 (n : Int)] 24)).alloc (.cells #[.int .u32 (b : Int), .int .i64 (m : Int)] 24)).alloc (.cells #[.int .u32 0, .int .i64 0] 24)).heap.size _)
  have HB0 := Lib.hid B0; clear B0
  go_enter Tryz.func20, Tryz.ntmps20
  go_wp2_with fail
  go_loopw [5] (fun i wr => PrefP.ComRel a n b m w.heap.size w i wr) (fun i _ => (intOf i).toNat)
  case atStart =>
    obtain ⟨B1, B2, B3, hB⟩ := HB0.out
    exact ⟨min n m, by simp; omega, by rw [HU.out]; omega, by omega, by omega, B1.c0, B1.c1, B2.c0, B2.c1, B3, hB⟩
  case round =>
    obtain ⟨k, rfl, h1, h2, h3, hr⟩ := hrel
    rw [HU.out] at h1
    have hk : k ≤ 32 := by omega
    by_cases hq : PrefP.cut a k = PrefP.cut b k
    · obtain rfl : k = u := Nat.le_antisymm ((HI.out k).2 ⟨h2, h3, hq⟩) h1
      have ht : ((PrefP.cut a k : Int) == (PrefP.cut b k : Int)) = true := by rw [hq]; simp
      clear hq
      go_wp2_with fail
      refine wp_region_held_drew (S := (fun w' => w'.cell? ⟨w.heap.size, 0, none⟩ = some (.int .u32 a) ∧ w'.cell? ⟨w.heap.size, 1, none⟩ = some (.int .i64 n) ∧ w'.cell? ⟨w.heap.size + 1, 0, none⟩ = some (.int .u32 b) ∧ w'.cell? ⟨w.heap.size + 1, 1, none⟩ = some (.int .i64 m) ∧ Box w' (w.heap.size + 1 + 1) (.int .u32 0) (.int .i64 0) ∧ Below w.heap.size w w')) (by kernel_rfl) (heldB hr ((Below.refl _ _).drew)) (fun hHeld => ?_)
      refine wpAnyH_take (i := 0) (oi := { dst := some 11, op := Op.load 24 (Operand.tmp 2), type := 24, pos := "nets.go:133", after := #[], guard := none }) (v := ?_) rfl (by kernel_rfl) (by kernel_rfl) (by kernel_rfl) (fun _ _ _ h => h) (Or.inl ⟨by rfl, ?_⟩) hHeld ?_
      rotate_left
      · (intro w hSw; (try dsimp only at hSw); go_simp; first | done | with_reducible rfl)
      simp only [Act.put, List.setIfInBounds_toArray, List.set_cons_zero, List.set_cons_succ]
      refine wpAnyH_take (i := 1) (oi := { dst := some 12, op := Op.move (Operand.tmp 5), type := 3, pos := "nets.go:133", after := #[], guard := none }) (v := ?_) rfl (by kernel_rfl) (by kernel_rfl) (by kernel_rfl) (fun _ _ _ h => h) (Or.inl ⟨by rfl, ?_⟩) hHeld ?_
      rotate_left
      · (intro w hSw; (try dsimp only at hSw); go_simp; first | done | with_reducible rfl)
      simp only [Act.put, List.setIfInBounds_toArray, List.set_cons_zero, List.set_cons_succ]
      refine wpAnyH_take (i := 3) (oi := { dst := some 14, op := Op.load 24 (Operand.tmp 3), type := 24, pos := "nets.go:133", after := #[], guard := none }) (v := ?_) rfl (by kernel_rfl) (by kernel_rfl) (by kernel_rfl) (fun _ _ _ h => h) (Or.inl ⟨by rfl, ?_⟩) hHeld ?_
      rotate_left
      · (intro w hSw; (try dsimp only at hSw); go_simp; first | done | with_reducible rfl)
      simp only [Act.put, List.setIfInBounds_toArray, List.set_cons_zero, List.set_cons_succ]
      refine wpAnyH_take (i := 4) (oi := { dst := some 15, op := Op.move (Operand.tmp 5), type := 3, pos := "nets.go:133", after := #[], guard := none }) (v := ?_) rfl (by kernel_rfl) (by kernel_rfl) (by kernel_rfl) (fun _ _ _ h => h) (Or.inl ⟨by rfl, ?_⟩) hHeld ?_
      rotate_left
      · (intro w hSw; (try dsimp only at hSw); go_simp; first | done | with_reducible rfl)
      simp only [Act.put, List.setIfInBounds_toArray, List.set_cons_zero, List.set_cons_succ]
      refine wpAnyH_ready (rs := [2]) (by kernel_rfl) (by simp) ?_
      refine AllReadyH.cons (o := { dst := some 13, op := Op.call { callee := Callee.value (Operand.func 18), args := #[Operand.tmp 11, Operand.tmp 12], argTypes := #[24, 3] }, type := 24, pos := "nets.go:133", after := #[{ on := 0, ground := Ground.data }, { on := 1, ground := Ground.data }], guard := none }) rfl (fun K hK => ?_) AllReadyH.nil
      go_simp
      go_at_call 18
      refine (trim_any a n k ha hk _).mono ?_
      rintro e w0' ⟨rfl, hb0⟩
      have KK0 := heldB hHeld hb0; clear hHeld hb0
      go_wp2_with fail
      refine hK.out _ _ KK0 (fun hHeld => ?_)
      clear hK K
      refine wpAnyH_ready (rs := [5]) (by kernel_rfl) (by simp) ?_
      refine AllReadyH.cons (o := { dst := some 16, op := Op.call { callee := Callee.value (Operand.func 18), args := #[Operand.tmp 14, Operand.tmp 15], argTypes := #[24, 3] }, type := 24, pos := "nets.go:133", after := #[{ on := 3, ground := Ground.data }, { on := 4, ground := Ground.data }, { on := 2, ground := Ground.chain }], guard := none }) rfl (fun K hK => ?_) AllReadyH.nil
      go_simp
      go_at_call 18
      refine (trim_any b m k hb hk _).mono ?_
      rintro e w1' ⟨rfl, hb1⟩
      have KK1 := heldB hHeld hb1; clear hHeld hb1
      go_wp2_with fail
      refine hK.out _ _ KK1 (fun hHeld => ?_)
      clear hK K
      refine wpAnyH_take (i := 6) (oi := { dst := some 17, op := Op.binOp BinOp.neq 24 (Operand.tmp 13) (Operand.tmp 16) 24, type := 4, pos := "nets.go:133", after := #[{ on := 2, ground := Ground.data }, { on := 5, ground := Ground.data }], guard := none }) (v := ?_) rfl (by kernel_rfl) (by kernel_rfl) (by kernel_rfl) (fun _ _ _ h => h) (Or.inl ⟨by rfl, ?_⟩) hHeld ?_
      rotate_left
      · (intro w hSw; (try dsimp only at hSw); go_simp; first | done | with_reducible rfl)
      simp only [Act.put, List.setIfInBounds_toArray, List.set_cons_zero, List.set_cons_succ]
      refine wpAnyH_done (by kernel_rfl) ?_ _
      go_wp2_with fail
      refine (trim_any a n k ha hk _).mono ?_
      rintro e w5 ⟨rfl, hb5⟩
      obtain ⟨l3, e0, e1, i0, i1⟩ := (hHeld.2.2.2.2.1).kept hb5
      have H5 := Below.two hHeld.2.2.2.2.2 hb5
      go_wp2_with fail
      exact bodyPost_ret (v := .agg #[.int .u32 (PrefP.cut a k : Int), .int .i64 (k : Int)]) (by simp [results, Tryz.results20, go_sem, e0, e1]) rfl ⟨rfl, (H5.setCell (by simp; omega) _).setCell (by simp; omega) _⟩
    · have ht : ((PrefP.cut a k : Int) == (PrefP.cut b k : Int)) = false := by
        have : ¬ ((PrefP.cut a k : Int) = (PrefP.cut b k : Int)) := by omega
        simpa using this
      have hne : k ≠ u := fun e => hq (e ▸ ((HI.out u).1 (Nat.le_refl u)).2.2)
      have HNE := Lib.hid hne
      clear hq hne
      go_wp2_with fail
      refine wp_region_held_drew (S := (fun w' => w'.cell? ⟨w.heap.size, 0, none⟩ = some (.int .u32 a) ∧ w'.cell? ⟨w.heap.size, 1, none⟩ = some (.int .i64 n) ∧ w'.cell? ⟨w.heap.size + 1, 0, none⟩ = some (.int .u32 b) ∧ w'.cell? ⟨w.heap.size + 1, 1, none⟩ = some (.int .i64 m) ∧ Box w' (w.heap.size + 1 + 1) (.int .u32 0) (.int .i64 0) ∧ Below w.heap.size w w')) (by kernel_rfl) (heldB hr ((Below.refl _ _).drew)) (fun hHeld => ?_)
      refine wpAnyH_take (i := 0) (oi := { dst := some 11, op := Op.load 24 (Operand.tmp 2), type := 24, pos := "nets.go:133", after := #[], guard := none }) (v := ?_) rfl (by kernel_rfl) (by kernel_rfl) (by kernel_rfl) (fun _ _ _ h => h) (Or.inl ⟨by rfl, ?_⟩) hHeld ?_
      rotate_left
      · (intro w hSw; (try dsimp only at hSw); go_simp; first | done | with_reducible rfl)
      simp only [Act.put, List.setIfInBounds_toArray, List.set_cons_zero, List.set_cons_succ]
      refine wpAnyH_take (i := 1) (oi := { dst := some 12, op := Op.move (Operand.tmp 5), type := 3, pos := "nets.go:133", after := #[], guard := none }) (v := ?_) rfl (by kernel_rfl) (by kernel_rfl) (by kernel_rfl) (fun _ _ _ h => h) (Or.inl ⟨by rfl, ?_⟩) hHeld ?_
      rotate_left
      · (intro w hSw; (try dsimp only at hSw); go_simp; first | done | with_reducible rfl)
      simp only [Act.put, List.setIfInBounds_toArray, List.set_cons_zero, List.set_cons_succ]
      refine wpAnyH_take (i := 3) (oi := { dst := some 14, op := Op.load 24 (Operand.tmp 3), type := 24, pos := "nets.go:133", after := #[], guard := none }) (v := ?_) rfl (by kernel_rfl) (by kernel_rfl) (by kernel_rfl) (fun _ _ _ h => h) (Or.inl ⟨by rfl, ?_⟩) hHeld ?_
      rotate_left
      · (intro w hSw; (try dsimp only at hSw); go_simp; first | done | with_reducible rfl)
      simp only [Act.put, List.setIfInBounds_toArray, List.set_cons_zero, List.set_cons_succ]
      refine wpAnyH_take (i := 4) (oi := { dst := some 15, op := Op.move (Operand.tmp 5), type := 3, pos := "nets.go:133", after := #[], guard := none }) (v := ?_) rfl (by kernel_rfl) (by kernel_rfl) (by kernel_rfl) (fun _ _ _ h => h) (Or.inl ⟨by rfl, ?_⟩) hHeld ?_
      rotate_left
      · (intro w hSw; (try dsimp only at hSw); go_simp; first | done | with_reducible rfl)
      simp only [Act.put, List.setIfInBounds_toArray, List.set_cons_zero, List.set_cons_succ]
      refine wpAnyH_ready (rs := [2]) (by kernel_rfl) (by simp) ?_
      refine AllReadyH.cons (o := { dst := some 13, op := Op.call { callee := Callee.value (Operand.func 18), args := #[Operand.tmp 11, Operand.tmp 12], argTypes := #[24, 3] }, type := 24, pos := "nets.go:133", after := #[{ on := 0, ground := Ground.data }, { on := 1, ground := Ground.data }], guard := none }) rfl (fun K hK => ?_) AllReadyH.nil
      go_simp
      go_at_call 18
      refine (trim_any a n k ha hk _).mono ?_
      rintro e w0' ⟨rfl, hb0⟩
      have KK0 := heldB hHeld hb0; clear hHeld hb0
      go_wp2_with fail
      refine hK.out _ _ KK0 (fun hHeld => ?_)
      clear hK K
      refine wpAnyH_ready (rs := [5]) (by kernel_rfl) (by simp) ?_
      refine AllReadyH.cons (o := { dst := some 16, op := Op.call { callee := Callee.value (Operand.func 18), args := #[Operand.tmp 14, Operand.tmp 15], argTypes := #[24, 3] }, type := 24, pos := "nets.go:133", after := #[{ on := 3, ground := Ground.data }, { on := 4, ground := Ground.data }, { on := 2, ground := Ground.chain }], guard := none }) rfl (fun K hK => ?_) AllReadyH.nil
      go_simp
      go_at_call 18
      refine (trim_any b m k hb hk _).mono ?_
      rintro e w1' ⟨rfl, hb1⟩
      have KK1 := heldB hHeld hb1; clear hHeld hb1
      go_wp2_with fail
      refine hK.out _ _ KK1 (fun hHeld => ?_)
      clear hK K
      refine wpAnyH_take (i := 6) (oi := { dst := some 17, op := Op.binOp BinOp.neq 24 (Operand.tmp 13) (Operand.tmp 16) 24, type := 4, pos := "nets.go:133", after := #[{ on := 2, ground := Ground.data }, { on := 5, ground := Ground.data }], guard := none }) (v := ?_) rfl (by kernel_rfl) (by kernel_rfl) (by kernel_rfl) (fun _ _ _ h => h) (Or.inl ⟨by rfl, ?_⟩) hHeld ?_
      rotate_left
      · (intro w hSw; (try dsimp only at hSw); go_simp; first | done | with_reducible rfl)
      simp only [Act.put, List.setIfInBounds_toArray, List.set_cons_zero, List.set_cons_succ]
      refine wpAnyH_done (by kernel_rfl) ?_ _
      go_wp2_with fail
      have := HNE.out
      exact ⟨⟨k - 1, by simp; omega, by rw [HU.out]; omega, by omega, by omega, hHeld⟩, by simp [intOf]; omega⟩
end Go.Proofs.YtegfjdpibpmdmaaGreatDoor
