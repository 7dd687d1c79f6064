/-
  wheel's compare: by due time, then by id; what slices.SortFunc asks of it.
-/
import Derived.Test.YtdgfaolflnljaaaDoorSortShelf
import Derived.Test.YtdgfaolflnljaaaDoorDueList
import Derived.LoopN
import Derived.Deep.RegionHeld3
import Derived.Deep.RegionLaw
import Derived.Deep.Draws
namespace Go.Proofs.YtdgfaolflnljaaaDoor
open Go.RowKit Go.Lib Go.Sort

/-- What cmp.Or tells of two numbers. -/
def or2 (a b : Int) : Int := if a = 0 then b else a
set_option maxHeartbeats 1000000 in
set_option maxRecDepth 100000 in
theorem or_any (w : World) (B c : Nat) (a b : Int) (h0 : w.cell? ⟨B, 0, none⟩ = some (.int .i64 a)) (h1 : w.cell? ⟨B, 1, none⟩ = some (.int .i64 b)) :
    Calls Tryd.prog 25 #[.slice (some ⟨B, 0, none⟩) 2 c] w fun e w' => e = .returned (.int .i64 (or2 a b)) ∧ w = w' := by
  unfold or2
  by_cases ha : a = 0
  · rw [if_pos ha]
    subst ha
    by_cases hb : b = 0
    · subst hb
      go_enter Tryd.func25, Tryd.ntmps25
      go_wp2_with fail
      refine wp_loop_rounds 3 ?_
      rw [rounds_succ]
      go_wp2_with fail
      rw [rounds_succ]
      go_wp2_with fail
      rw [rounds_succ]
      go_wp2_with fail
      go_ret
      exact ⟨rfl, rfl⟩
    · have hb' : (b != 0) = true := by simpa using hb
      go_enter Tryd.func25, Tryd.ntmps25
      go_wp2_with fail
      refine wp_loop_rounds 3 ?_
      rw [rounds_succ]
      go_wp2_with fail
      rw [rounds_succ]
      go_wp2_with fail
      go_ret
      exact ⟨rfl, rfl⟩
  · rw [if_neg ha]
    have ha' : (a != 0) = true := by simpa using ha
    go_enter Tryd.func25, Tryd.ntmps25
    go_wp2_with fail
    refine wp_loop_rounds 3 ?_
    rw [rounds_succ]
    go_wp2_with fail
    go_ret
    exact ⟨rfl, rfl⟩

/-- By due time, then by id. -/
def cmpD (x y : Du) : Int := or2 (Lib.compareInt (x.2 : Int) (y.2 : Int)) (Lib.compareInt (x.1 : Int) (y.1 : Int))
def encD (x : Du) : List Value := [Du.v0 x, Du.v1 x]
theorem comp_any (x y : Int) (W : World) : Calls Tryd.prog 26 #[.int .i64 x, .int .i64 y] W fun e w' => e = .returned (.int .i64 (Lib.compareInt x y)) ∧ w' = W :=
  AnyG.cmp_Compare_int Tryd.cmpInt x y W

/-- Both boxes, behind the region's draw. -/
theorem cmp_start (W : World) (x y : Du) (T : TypeId) : let V := ((W.alloc (.cells #[.int .i64 (x.1 : Int), .int .i64 (x.2 : Int)] T)).alloc (.cells #[.int .i64 (y.1 : Int), .int .i64 (y.2 : Int)] T)).drew
    V.cell? ⟨W.heap.size, 0, none⟩ = some (.int .i64 (x.1 : Int)) ∧ V.cell? ⟨W.heap.size, 1, none⟩ = some (.int .i64 (x.2 : Int)) ∧ V.cell? ⟨W.heap.size + 1, 0, none⟩ = some (.int .i64 (y.1 : Int)) ∧ V.cell? ⟨W.heap.size + 1, 1, none⟩ = some (.int .i64 (y.2 : Int)) := by
  have b1 := (Box.new W (.int .i64 (x.1 : Int)) (.int .i64 (x.2 : Int)) T).alloc (.cells #[.int .i64 (y.1 : Int), .int .i64 (y.2 : Int)] T)
  have b2 := Box.new (W.alloc (.cells #[.int .i64 (x.1 : Int), .int .i64 (x.2 : Int)] T)) (.int .i64 (y.1 : Int)) (.int .i64 (y.2 : Int)) T
  have e : (W.alloc (.cells #[.int .i64 (x.1 : Int), .int .i64 (x.2 : Int)] T)).heap.size = W.heap.size + 1 := by simp
  rw [e] at b2
  exact ⟨b1.c0, b1.c1, b2.c0, b2.c1⟩
theorem or_cell (W : World) (a b : Value) (T : TypeId) {B : Nat} (h : B = W.heap.size) : (W.alloc (.cells #[a, b] T)).cell? ⟨B, 0, none⟩ = some a ∧ (W.alloc (.cells #[a, b] T)).cell? ⟨B, 1, none⟩ = some b := by
  subst h
  exact ⟨(Box.new W a b T).c0, (Box.new W a b T).c1⟩
theorem cmp_size (W : World) (o1 o2 : Obj) : W.heap.size + 1 + 1 = ((W.alloc o1).alloc o2).drew.heap.size := by
  show W.heap.size + 1 + 1 = ((W.alloc o1).alloc o2).heap.size
  simp
theorem fin_cmp (W : World) (o1 o2 o3 : Obj) : ∃ q os', (((W.alloc o1).alloc o2).drew.alloc o3) = grow (W.drewN q) os' :=
  ⟨1, #[o1, o2, o3], by rw [alloc_eq_grow, alloc_eq_grow, alloc_eq_grow, grow_grow]; rfl⟩

set_option maxHeartbeats 2000000 in
set_option maxRecDepth 100000 in
theorem compare_any (x y : Du) (W : World) : Calls Tryd.prog 21 #[.agg #[Du.v0 x, Du.v1 x], .agg #[Du.v0 y, Du.v1 y]] W fun e w' => e = .returned (.int .i64 (cmpD x y)) ∧ ∃ q os', w' = grow (W.drewN q) os' := by
  have H1 := Lib.hid (fun W' => comp_any (x.2 : Int) (y.2 : Int) W')
  have H2 := Lib.hid (fun W' => comp_any (x.1 : Int) (y.1 : Int) W')
  unfold cmpD
  obtain ⟨a, ha⟩ : ∃ a, a = Lib.compareInt (x.2 : Int) (y.2 : Int) := ⟨_, rfl⟩
  obtain ⟨b, hb⟩ : ∃ b, b = Lib.compareInt (x.1 : Int) (y.1 : Int) := ⟨_, rfl⟩
  rw [← ha] at H1 ⊢
  rw [← hb] at H2 ⊢
  have HO := Lib.hid (fun w' B c h0 h1 => or_any w' B c a b h0 h1)
  clear ha hb
  unfold Du.v0 Du.v1
  go_enter Tryd.func21, Tryd.ntmps21
  go_wp2_with fail
  have hst := cmp_start W x y 52
  -- THE REGION
  refine wp_region_held_drew (S := (fun w' => w'.cell? ⟨W.heap.size, 0, none⟩ = some (.int .i64 (x.1 : Int)) ∧ w'.cell? ⟨W.heap.size, 1, none⟩ = some (.int .i64 (x.2 : Int)) ∧ w'.cell? ⟨W.heap.size + 1, 0, none⟩ = some (.int .i64 (y.1 : Int)) ∧ w'.cell? ⟨W.heap.size + 1, 1, none⟩ = some (.int .i64 (y.2 : Int)))) (by kernel_rfl) hst (fun hHeld => ?_)
  refine wpAnyH_take (i := 0) (oi := { dst := some 5, op := Op.fieldAddr 52 (Operand.tmp 2) 1, type := 0, pos := "wheel.go:94", after := #[], guard := none }) (v := ?_) rfl (by kernel_rfl) (by kernel_rfl) (by kernel_rfl) (fun _ _ _ h => h) (Or.inl ⟨by rfl, ?_⟩) hHeld ?_
  rotate_left
  · (intro w hSw; (try dsimp only at hSw); go_simp; first | done | with_reducible rfl)
  simp only [Act.put, List.setIfInBounds_toArray, List.set_cons_zero, List.set_cons_succ]
  refine wpAnyH_take (i := 1) (oi := { dst := some 6, op := Op.load 3 (Operand.tmp 5), type := 3, pos := "wheel.go:94", after := #[{ on := 0, ground := Ground.data }], guard := none }) (v := ?_) rfl (by kernel_rfl) (by kernel_rfl) (by kernel_rfl) (fun _ _ _ h => h) (Or.inl ⟨by rfl, ?_⟩) hHeld ?_
  rotate_left
  · (intro w hSw; (try dsimp only at hSw); go_simp; first | done | with_reducible rfl)
  simp only [Act.put, List.setIfInBounds_toArray, List.set_cons_zero, List.set_cons_succ]
  refine wpAnyH_take (i := 2) (oi := { dst := some 7, op := Op.fieldAddr 52 (Operand.tmp 3) 1, type := 0, pos := "wheel.go:94", after := #[], guard := none }) (v := ?_) rfl (by kernel_rfl) (by kernel_rfl) (by kernel_rfl) (fun _ _ _ h => h) (Or.inl ⟨by rfl, ?_⟩) hHeld ?_
  rotate_left
  · (intro w hSw; (try dsimp only at hSw); go_simp; first | done | with_reducible rfl)
  simp only [Act.put, List.setIfInBounds_toArray, List.set_cons_zero, List.set_cons_succ]
  refine wpAnyH_take (i := 3) (oi := { dst := some 8, op := Op.load 3 (Operand.tmp 7), type := 3, pos := "wheel.go:94", after := #[{ on := 2, ground := Ground.data }], guard := none }) (v := ?_) rfl (by kernel_rfl) (by kernel_rfl) (by kernel_rfl) (fun _ _ _ h => h) (Or.inl ⟨by rfl, ?_⟩) hHeld ?_
  rotate_left
  · (intro w hSw; (try dsimp only at hSw); go_simp; first | done | with_reducible rfl)
  simp only [Act.put, List.setIfInBounds_toArray, List.set_cons_zero, List.set_cons_succ]
  refine wpAnyH_take (i := 5) (oi := { dst := some 10, op := Op.fieldAddr 52 (Operand.tmp 2) 0, type := 0, pos := "wheel.go:94", after := #[], guard := none }) (v := ?_) rfl (by kernel_rfl) (by kernel_rfl) (by kernel_rfl) (fun _ _ _ h => h) (Or.inl ⟨by rfl, ?_⟩) hHeld ?_
  rotate_left
  · (intro w hSw; (try dsimp only at hSw); go_simp; first | done | with_reducible rfl)
  simp only [Act.put, List.setIfInBounds_toArray, List.set_cons_zero, List.set_cons_succ]
  refine wpAnyH_take (i := 6) (oi := { dst := some 11, op := Op.load 3 (Operand.tmp 10), type := 3, pos := "wheel.go:94", after := #[{ on := 5, ground := Ground.data }], guard := none }) (v := ?_) rfl (by kernel_rfl) (by kernel_rfl) (by kernel_rfl) (fun _ _ _ h => h) (Or.inl ⟨by rfl, ?_⟩) hHeld ?_
  rotate_left
  · (intro w hSw; (try dsimp only at hSw); go_simp; first | done | with_reducible rfl)
  simp only [Act.put, List.setIfInBounds_toArray, List.set_cons_zero, List.set_cons_succ]
  refine wpAnyH_take (i := 7) (oi := { dst := some 12, op := Op.fieldAddr 52 (Operand.tmp 3) 0, type := 0, pos := "wheel.go:94", after := #[], guard := none }) (v := ?_) rfl (by kernel_rfl) (by kernel_rfl) (by kernel_rfl) (fun _ _ _ h => h) (Or.inl ⟨by rfl, ?_⟩) hHeld ?_
  rotate_left
  · (intro w hSw; (try dsimp only at hSw); go_simp; first | done | with_reducible rfl)
  simp only [Act.put, List.setIfInBounds_toArray, List.set_cons_zero, List.set_cons_succ]
  refine wpAnyH_take (i := 8) (oi := { dst := some 13, op := Op.load 3 (Operand.tmp 12), type := 3, pos := "wheel.go:94", after := #[{ on := 7, ground := Ground.data }], guard := none }) (v := ?_) rfl (by kernel_rfl) (by kernel_rfl) (by kernel_rfl) (fun _ _ _ h => h) (Or.inl ⟨by rfl, ?_⟩) hHeld ?_
  rotate_left
  · (intro w hSw; (try dsimp only at hSw); go_simp; first | done | with_reducible rfl)
  simp only [Act.put, List.setIfInBounds_toArray, List.set_cons_zero, List.set_cons_succ]
  refine wpAnyH_ready (rs := [4]) (by kernel_rfl) (by simp) ?_
  refine (AllReadyH.cons (o := { dst := some 9, op := Op.call { callee := Callee.value (Operand.func 26), args := #[Operand.tmp 6, Operand.tmp 8], argTypes := #[3, 3] }, type := 3, pos := "wheel.go:94", after := #[{ on := 1, ground := Ground.data }, { on := 3, ground := Ground.data }], guard := none }) rfl (fun K hK => ?_) AllReadyH.nil)
  go_simp
  go_at_call 26
  refine (H1.out _).mono ?_
  rintro e w4' ⟨rfl, rfl⟩
  have KK4 := hHeld
  clear hHeld
  go_wp2_with fail
  refine hK.out _ _ KK4 (fun hHeld => ?_)
  clear hK K
  refine wpAnyH_ready (rs := [9]) (by kernel_rfl) (by simp) ?_
  refine (AllReadyH.cons (o := { dst := some 14, op := Op.call { callee := Callee.value (Operand.func 26), args := #[Operand.tmp 11, Operand.tmp 13], argTypes := #[3, 3] }, type := 3, pos := "wheel.go:94", after := #[{ on := 6, ground := Ground.data }, { on := 8, ground := Ground.data }, { on := 4, ground := Ground.chain }], guard := none }) rfl (fun K hK => ?_) AllReadyH.nil)
  go_simp
  go_at_call 26
  refine (H2.out _).mono ?_
  rintro e w9' ⟨rfl, rfl⟩
  have KK9 := hHeld
  clear hHeld
  go_wp2_with fail
  refine hK.out _ _ KK9 (fun hHeld => ?_)
  clear hK K
  refine wpAnyH_ready (rs := [10]) (by kernel_rfl) (by simp) ?_
  refine (AllReadyH.cons (o := { dst := some 15, op := Op.buildSlice 22 2 #[(0, Operand.tmp 9), (1, Operand.tmp 14)], type := 22, pos := "wheel.go:94", after := #[{ on := 4, ground := Ground.data }, { on := 9, ground := Ground.data }], guard := none }) rfl (fun K hK => ?_) AllReadyH.nil)
  go_simp
  have KK10 := And.intro (Lib.cell?_alloc_some (.cells #[.int .i64 a, .int .i64 b] 3) hHeld.1) (And.intro (Lib.cell?_alloc_some (.cells #[.int .i64 a, .int .i64 b] 3) hHeld.2.1) (And.intro (Lib.cell?_alloc_some (.cells #[.int .i64 a, .int .i64 b] 3) hHeld.2.2.1) (Lib.cell?_alloc_some (.cells #[.int .i64 a, .int .i64 b] 3) hHeld.2.2.2)))
  clear hHeld
  refine hK.out _ _ KK10 (fun hHeld => ?_)
  clear hK K
  refine wpAnyH_ready (rs := [11]) (by kernel_rfl) (by simp) ?_
  refine (AllReadyH.cons (o := { dst := some 16, op := Op.call { callee := Callee.value (Operand.func 25), args := #[Operand.tmp 15], argTypes := #[22] }, type := 3, pos := "wheel.go:94", after := #[{ on := 10, ground := Ground.data }, { on := 9, ground := Ground.chain }], guard := none }) rfl (fun K hK => ?_) AllReadyH.nil)
  go_simp
  go_at_call 25
  refine (HO.out _ _ _ (or_cell _ _ _ _ (cmp_size _ _ _)).1 (or_cell _ _ _ _ (cmp_size _ _ _)).2).mono ?_
  rintro e w11' ⟨rfl, rfl⟩
  have KK11 := hHeld
  clear hHeld
  go_wp2_with fail
  refine hK.out _ _ KK11 (fun hHeld => ?_)
  clear hK K
  refine wpAnyH_take (i := 12) (oi := { dst := some 4, op := Op.assign (Operand.tmp 16), type := 3, pos := "wheel.go:94", after := #[{ on := 11, ground := Ground.data }, { on := 11, ground := Ground.chain }, { on := 0, ground := Ground.phase }, { on := 1, ground := Ground.phase }, { on := 2, ground := Ground.phase }, { on := 3, ground := Ground.phase }, { on := 4, ground := Ground.phase }, { on := 5, ground := Ground.phase }, { on := 6, ground := Ground.phase }, { on := 7, ground := Ground.phase }, { on := 8, ground := Ground.phase }, { on := 9, ground := Ground.phase }, { on := 10, ground := Ground.phase }, { on := 11, ground := Ground.phase }], guard := none }) (v := ?_) rfl (by kernel_rfl) (by kernel_rfl) (by kernel_rfl) (fun _ _ _ h => h) (Or.inl ⟨by rfl, ?_⟩) hHeld ?_
  rotate_left
  · (intro w hSw; (try dsimp only at hSw); go_simp; first | done | with_reducible rfl)
  simp only [Act.put, List.setIfInBounds_toArray, List.set_cons_zero, List.set_cons_succ]
  refine wpAnyH_done (by kernel_rfl) ?_ _
  go_wp2_with fail
  go_ret
  exact ⟨rfl, fin_cmp _ _ _ _⟩
  -- END
end Go.Proofs.YtdgfaolflnljaaaDoor
