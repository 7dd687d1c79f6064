/-
  One route: is it lost; what it is later, and whether it is kept.
-/
import Derived.Test.YtoocmogmocapoaaDoorRibMem
import Derived.OneCell
import Derived.Deep.RegionHeld3
import Derived.StillTailTactics
namespace Go.Proofs.YtoocmogmocapoaaDoor
open Go.RowKit Go.Lib RibP

set_option maxHeartbeats 1000000 in
set_option maxRecDepth 100000 in
theorem lost_any (w : World) (f : Int) (a : Nat) (l m t : Int) (v : Bool) (hv : (m == 16) = v) :
    Calls Tryd.prog 27 #[.agg #[.int .i64 f, .int .u32 (a : Int), .int .i64 l, .int .i64 m, .int .i64 t]] w fun e w' => e = .returned (.bool v) ∧ Below w.heap.size w w' := by
  subst hv
  go_enter Tryd.func27, Tryd.ntmps27
  go_wp2_with fail
  go_ret
  exact ⟨rfl, (Below.refl _ _).alloc (Nat.le_refl _) _⟩

theorem set_at {w : World} {n j : Nat} {u : Value} (i : Nat) (v : Value) (h : w.cell? ⟨n, j, none⟩ = some u) : (w.setCell ⟨n, i, none⟩ v).cell? ⟨n, j, none⟩ = some (if i = j then v else u) := by
  by_cases e : i = j
  · subst e; rw [if_pos rfl]; exact World.cell?_setCell_same _ _ _ h
  · rw [if_neg e, World.cell?_setCell_other _ _ _ _ (fun h => e (congrArg Addr.off h))]; exact h
/-- A route written into a block. -/
theorem RBox.put {w : World} {n : Nat} {e0 : Rt} (h : RBox w n e0) (e : Rt) : RBox (((((w.setCell ⟨n, 0, none⟩ (.int .i64 e.h.f)).setCell ⟨n, 1, none⟩ (.int .u32 (e.h.n.1 : Int))).setCell ⟨n, 2, none⟩ (.int .i64 e.h.n.2)).setCell ⟨n, 3, none⟩ (.int .i64 e.h.m)).setCell ⟨n, 4, none⟩ (.int .i64 e.t)) n e := by
  obtain ⟨c0, c1, c2, c3, c4⟩ := h.at_.rt
  have key : ∀ {j : Nat} {u : Value}, w.cell? ⟨n, j, none⟩ = some u → _ := fun {j u} h => set_at 4 (.int .i64 e.t) (set_at 3 (.int .i64 e.h.m) (set_at 2 (.int .i64 e.h.n.2) (set_at 1 (.int .u32 (e.h.n.1 : Int)) (set_at 0 (.int .i64 e.h.f) h))))
  exact ⟨LAt.ofRt (key c0) (key c1) (key c2) (key c3) (key c4), fun o => by simp only [World.frozen?_setCell]; exact h.free o⟩
theorem below_put {w w1 : World} {m n : Nat} (h : Below m w w1) (hn : m ≤ n) (a b c d e : Value) : Below m w (((((w1.setCell ⟨n, 0, none⟩ a).setCell ⟨n, 1, none⟩ b).setCell ⟨n, 2, none⟩ c).setCell ⟨n, 3, none⟩ d).setCell ⟨n, 4, none⟩ e) :=
  ((((h.setCell (p := ⟨n, 0, none⟩) hn a).setCell (p := ⟨n, 1, none⟩) hn b).setCell (p := ⟨n, 2, none⟩) hn c).setCell (p := ⟨n, 3, none⟩) hn d).setCell (p := ⟨n, 4, none⟩) hn e
theorem bodyPost_route {fn : Func} {R : Ending → World → Prop} {a : Act} {W : World} {n : Nat} {e : Rt} {k : Bool} (hres : fn.results = #[.cell 4 64, .tmp 5]) (h2 : a.tmps[4]?.getD undef = .pointer (some ⟨n, 0, none⟩)) (h3 : a.tmps[5]?.getD undef = .bool k)
    (hs : LAt W n 0 e) (hd : a.defers = []) (hR : R (.returned (.tuple #[e.v, .bool k])) W) : bodyPost Tryd.prog fn R .ret a W := by
  obtain ⟨c0, c1, c2, c3, c4⟩ := hs.rt
  simp only [Nat.zero_add] at c0 c1 c2 c3 c4
  refine bodyPost_ret (v := .tuple #[e.v, .bool k]) ?_ hd hR
  unfold Rt.v
  simp [results, hres, go_sem, h2, h3, c0, c1, c2, c3, c4]

/-- Both boxes: the route's and the result's. -/
def TwoR (w0 : World) (x y : Rt) (w : World) : Prop := RBox w w0.heap.size x ∧ RBox w (w0.heap.size + 1) y ∧ Below w0.heap.size w0 w
theorem TwoR.start (w : World) (x y : Rt) (T : TypeId) : TwoR w x y ((w.alloc (.cells #[.int .i64 x.h.f, .int .u32 (x.h.n.1 : Int), .int .i64 x.h.n.2, .int .i64 x.h.m, .int .i64 x.t] T)).alloc (.cells #[.int .i64 y.h.f, .int .u32 (y.h.n.1 : Int), .int .i64 y.h.n.2, .int .i64 y.h.m, .int .i64 y.t] T)) := by
  have h := (Below.refl w.heap.size w).alloc (Nat.le_refl _) (.cells #[.int .i64 x.h.f, .int .u32 (x.h.n.1 : Int), .int .i64 x.h.n.2, .int .i64 x.h.m, .int .i64 x.t] T)
  refine ⟨(RBox.new w x T).kept ((Below.refl _ _).alloc (Nat.le_refl _) _), ?_, h.alloc (by simp) _⟩
  have := RBox.new (w.alloc (.cells #[.int .i64 x.h.f, .int .u32 (x.h.n.1 : Int), .int .i64 x.h.n.2, .int .i64 x.h.m, .int .i64 x.t] T)) y T
  simpa using this
theorem TwoR.kept {w0 w w1 : World} {x y : Rt} (h : TwoR w0 x y w) (hb : Below w.heap.size w w1) : TwoR w0 x y w1 := ⟨h.1.kept hb, h.2.1.kept hb, h.2.2.trans (hb.mono h.2.2.size)⟩
theorem TwoR.drew {w0 w : World} {x y : Rt} (h : TwoR w0 x y w) : TwoR w0 x y w.drew := h.kept (Below.refl _ _).drew
theorem TwoR.cells {w0 w : World} {x y : Rt} (h : TwoR w0 x y w) : w.cell? ⟨w0.heap.size, 0, none⟩ = some (.int .i64 x.h.f) ∧ w.cell? ⟨w0.heap.size, 1, none⟩ = some (.int .u32 (x.h.n.1 : Int)) ∧ w.cell? ⟨w0.heap.size, 2, none⟩ = some (.int .i64 x.h.n.2) ∧ w.cell? ⟨w0.heap.size, 3, none⟩ = some (.int .i64 x.h.m) ∧ w.cell? ⟨w0.heap.size, 4, none⟩ = some (.int .i64 x.t) := h.1.at_.rt

theorem TwoR.put {w0 w : World} {x y : Rt} (h : TwoR w0 x y w) (e : Rt) : TwoR w0 x e (((((w.setCell ⟨w0.heap.size + 1, 0, none⟩ (.int .i64 e.h.f)).setCell ⟨w0.heap.size + 1, 1, none⟩ (.int .u32 (e.h.n.1 : Int))).setCell ⟨w0.heap.size + 1, 2, none⟩ (.int .i64 e.h.n.2)).setCell ⟨w0.heap.size + 1, 3, none⟩ (.int .i64 e.h.m)).setCell ⟨w0.heap.size + 1, 4, none⟩ (.int .i64 e.t)) := by
  have hb := below_put (Below.refl (w0.heap.size + 1) w) (Nat.le_refl _) (.int .i64 e.h.f) (.int .u32 (e.h.n.1 : Int)) (.int .i64 e.h.n.2) (.int .i64 e.h.m) (.int .i64 e.t)
  exact ⟨h.1.ofBlock (hb.block _ (Nat.lt_succ_self _)), h.2.1.put e, h.2.2.trans (hb.mono (Nat.le_succ _))⟩
theorem TwoR.turn {w0 w : World} {x y : Rt} (h : TwoR w0 x y w) (m t : Int) : TwoR w0 ⟨⟨x.h.f, x.h.n, m⟩, t⟩ y ((w.setCell ⟨w0.heap.size, 3, none⟩ (.int .i64 m)).setCell ⟨w0.heap.size, 4, none⟩ (.int .i64 t)) := by
  have hb := ((Below.refl w0.heap.size w).setCell (p := ⟨w0.heap.size, 3, none⟩) (Nat.le_refl _) (.int .i64 m)).setCell (p := ⟨w0.heap.size, 4, none⟩) (Nat.le_refl _) (.int .i64 t)
  obtain ⟨c0, c1, c2, c3, c4⟩ := h.1.at_.rt
  have key : ∀ {j : Nat} {u : Value}, w.cell? ⟨w0.heap.size, j, none⟩ = some u → _ := fun {j u} h => set_at 4 (.int .i64 t) (set_at 3 (.int .i64 m) h)
  refine ⟨⟨LAt.ofRt (key c0) (key c1) (key c2) (key c3) (key c4), fun o => by simp only [World.frozen?_setCell]; exact h.1.free o⟩, h.2.1.ofBlock ?_, h.2.2.trans hb⟩
  rw [Below.heap_setCell _ _ _ _ (by simp), Below.heap_setCell _ _ _ _ (by simp)]
theorem TwoR.res {w0 w : World} {x y : Rt} (h : TwoR w0 x y w) : (w.cell? ⟨w0.heap.size + 1, 0, none⟩ = some (.int .i64 y.h.f) ∧ w.cell? ⟨w0.heap.size + 1, 1, none⟩ = some (.int .u32 (y.h.n.1 : Int)) ∧ w.cell? ⟨w0.heap.size + 1, 2, none⟩ = some (.int .i64 y.h.n.2) ∧ w.cell? ⟨w0.heap.size + 1, 3, none⟩ = some (.int .i64 y.h.m) ∧ w.cell? ⟨w0.heap.size + 1, 4, none⟩ = some (.int .i64 y.t)) ∧ w.frozen? ⟨w0.heap.size + 1, 0, none⟩ = false ∧ w.frozen? ⟨w0.heap.size + 1, 1, none⟩ = false ∧ w.frozen? ⟨w0.heap.size + 1, 2, none⟩ = false ∧ w.frozen? ⟨w0.heap.size + 1, 3, none⟩ = false ∧ w.frozen? ⟨w0.heap.size + 1, 4, none⟩ = false :=
  ⟨h.2.1.at_.rt, h.2.1.free 0, h.2.1.free 1, h.2.1.free 2, h.2.1.free 3, h.2.1.free 4⟩

--REG
set_option maxHeartbeats 4000000 in
set_option maxRecDepth 100000 in
theorem agedR_gone (w : World) (f : Int) (a : Nat) (l m t now : Int) (h0 : 0 ≤ t) (h1 : t ≤ now) (h2 : now ≤ 1099511627776) (hm : m = 16) :
    Calls Tryd.prog 37 #[.agg #[.int .i64 f, .int .u32 (a : Int), .int .i64 l, .int .i64 m, .int .i64 t], .int .i64 now] w fun r w' => r = .returned (.tuple #[Rt.v ⟨⟨f, (a, l), 16⟩, t⟩, .bool (decide (now - t < 120))]) ∧ Below w.heap.size w w' := by
  subst hm
  have HC := Lib.hid fun w => lost_any w f a l 16 t true rfl
  have HT := Lib.hid (TwoR.start w ⟨⟨f, (a, l), 16⟩, t⟩ ⟨⟨0, (0, 0), 0⟩, 0⟩ 64)
  have hw : IntKind.i64.wrap (now - t) = now - t := by rw [IntKind.wrap_i64]; omega
  go_enter Tryd.func37, Tryd.ntmps37
  go_wp2_with fail
  refine (HC.out _).mono ?_
  rintro r w1 ⟨rfl, hb1⟩
  have TT := HT.out.kept hb1
  obtain ⟨c0, c1, c2, c3, c4⟩ := TT.cells
  dsimp only at c0 c1 c2 c3 c4
  clear hb1
  go_wp2_with fail
  refine wp_region_held_drew (S := (fun w' => w'.cell? ⟨w.heap.size, 0, none⟩ = some (.int .i64 f) ∧ w'.cell? ⟨w.heap.size, 1, none⟩ = some (.int .u32 (a : Int)) ∧ w'.cell? ⟨w.heap.size, 2, none⟩ = some (.int .i64 l) ∧ w'.cell? ⟨w.heap.size, 3, none⟩ = some (.int .i64 16) ∧ w'.cell? ⟨w.heap.size, 4, none⟩ = some (.int .i64 t))) (by kernel_rfl) (TwoR.drew TT).cells (fun hHeld => ?_)
  refine wpAnyH_take (i := 0) (oi := { dst := some 22, op := Op.load 64 (Operand.tmp 2), type := 64, pos := "rib.go:29", after := #[], guard := none }) (v := ?_) rfl (by kernel_rfl) (by kernel_rfl) (by kernel_rfl) (fun _ _ _ h => h) (Or.inl ⟨by rfl, ?_⟩) hHeld ?_
  rotate_left
  · (intro w hSw; (try dsimp only at hSw); go_simp; first | done | with_reducible rfl)
  simp only [Act.put, List.setIfInBounds_toArray, List.set_cons_zero, List.set_cons_succ]
  refine wpAnyH_take (i := 1) (oi := { dst := some 23, op := Op.load 64 (Operand.tmp 2), type := 64, pos := "rib.go:29", after := #[], guard := none }) (v := ?_) rfl (by kernel_rfl) (by kernel_rfl) (by kernel_rfl) (fun _ _ _ h => h) (Or.inl ⟨by rfl, ?_⟩) hHeld ?_
  rotate_left
  · (intro w hSw; (try dsimp only at hSw); go_simp; first | done | with_reducible rfl)
  simp only [Act.put, List.setIfInBounds_toArray, List.set_cons_zero, List.set_cons_succ]
  refine wpAnyH_ready (rs := [2]) (by kernel_rfl) (by simp) ?_
  refine (AllReadyH.cons (o := { dst := some 24, op := Op.call { callee := Callee.value (Operand.func 27), args := #[Operand.tmp 23], argTypes := #[64] }, type := 4, pos := "rib.go:29", after := #[{ on := 1, ground := Ground.data }], guard := none }) rfl (fun K hK => ?_) AllReadyH.nil)
  go_simp
  go_at_call 27
  refine (HC.out _).mono ?_
  rintro r w5 ⟨rfl, hb5⟩
  have TX := (TwoR.drew TT).kept hb5
  have KK2 := TX.cells
  clear hHeld hb5
  obtain ⟨⟨r0, r1, r2, r3, r4⟩, g0, g1, g2, g3, g4⟩ := TX.res
  go_wp2_with fail
  refine hK.out _ _ KK2 (fun hHeld => ?_)
  clear hK K
  refine wpAnyH_take (i := 3) (oi := { dst := some 25, op := Op.unOp UnOp.not 4 (Operand.tmp 24), type := 4, pos := "rib.go:29", after := #[{ on := 2, ground := Ground.data }], guard := none }) (v := ?_) rfl (by kernel_rfl) (by kernel_rfl) (by kernel_rfl) (fun _ _ _ h => h) (Or.inl ⟨by rfl, ?_⟩) hHeld ?_
  rotate_left
  · (intro w hSw; (try dsimp only at hSw); go_simp; first | done | with_reducible rfl)
  simp only [Act.put, List.setIfInBounds_toArray, List.set_cons_zero, List.set_cons_succ]
  refine wpAnyH_take (i := 4) (oi := { dst := some 26, op := Op.move (Operand.tmp 25), type := 4, pos := "rib.go:29", after := #[{ on := 3, ground := Ground.data }, { on := 2, ground := Ground.chain }], guard := none }) (v := ?_) rfl (by kernel_rfl) (by kernel_rfl) (by kernel_rfl) (fun _ _ _ h => h) (Or.inl ⟨by rfl, ?_⟩) hHeld ?_
  rotate_left
  · (intro w hSw; (try dsimp only at hSw); go_simp; first | done | with_reducible rfl)
  simp only [Act.put, List.setIfInBounds_toArray, List.set_cons_zero, List.set_cons_succ]
  refine wpAnyH_take (i := 5) (oi := { dst := some 27, op := Op.move (Operand.tmp 1), type := 3, pos := "rib.go:29", after := #[{ on := 4, ground := Ground.guard }, { on := 11, ground := Ground.gcOnly Departure.lateStores }], guard := some (4, false) }) (v := ?_) rfl (by kernel_rfl) (by kernel_rfl) (by kernel_rfl) (fun _ _ _ h => h) (Or.inl ⟨by rfl, ?_⟩) hHeld ?_
  rotate_left
  · (intro w hSw; (try dsimp only at hSw); go_simp; first | done | with_reducible rfl)
  simp only [Act.put, List.setIfInBounds_toArray, List.set_cons_zero, List.set_cons_succ]
  refine wpAnyH_take (i := 6) (oi := { dst := some 28, op := Op.fieldAddr 64 (Operand.tmp 2) 1, type := 0, pos := "rib.go:29", after := #[{ on := 4, ground := Ground.guard }, { on := 11, ground := Ground.gcOnly Departure.lateStores }], guard := some (4, false) }) (v := ?_) rfl (by kernel_rfl) (by kernel_rfl) (by kernel_rfl) (fun _ _ _ h => h) (Or.inl ⟨by rfl, ?_⟩) hHeld ?_
  rotate_left
  · (intro w hSw; (try dsimp only at hSw); go_simp; first | done | with_reducible rfl)
  simp only [Act.put, List.setIfInBounds_toArray, List.set_cons_zero, List.set_cons_succ]
  refine wpAnyH_take (i := 7) (oi := { dst := some 29, op := Op.load 3 (Operand.tmp 28), type := 3, pos := "rib.go:29", after := #[{ on := 6, ground := Ground.data }, { on := 4, ground := Ground.guard }, { on := 11, ground := Ground.gcOnly Departure.lateStores }], guard := some (4, false) }) (v := ?_) rfl (by kernel_rfl) (by kernel_rfl) (by kernel_rfl) (fun _ _ _ h => h) (Or.inl ⟨by rfl, ?_⟩) hHeld ?_
  rotate_left
  · (intro w hSw; (try dsimp only at hSw); go_simp; first | done | with_reducible rfl)
  simp only [Act.put, List.setIfInBounds_toArray, List.set_cons_zero, List.set_cons_succ]
  refine wpAnyH_take (i := 8) (oi := { dst := some 30, op := Op.binOp BinOp.sub 3 (Operand.tmp 27) (Operand.tmp 29) 3, type := 3, pos := "rib.go:29", after := #[{ on := 5, ground := Ground.data }, { on := 7, ground := Ground.data }, { on := 4, ground := Ground.guard }, { on := 11, ground := Ground.gcOnly Departure.lateStores }], guard := some (4, false) }) (v := ?_) rfl (by kernel_rfl) (by kernel_rfl) (by kernel_rfl) (fun _ _ _ h => h) (Or.inl ⟨by rfl, ?_⟩) hHeld ?_
  rotate_left
  · (intro w hSw; (try dsimp only at hSw); go_simp; first | done | with_reducible rfl)
  simp only [Act.put, List.setIfInBounds_toArray, List.set_cons_zero, List.set_cons_succ]
  refine wpAnyH_take (i := 9) (oi := { dst := some 31, op := Op.binOp BinOp.lss 3 (Operand.tmp 30) (Operand.const (Value.int IntKind.i64 120)) 3, type := 4, pos := "rib.go:29", after := #[{ on := 8, ground := Ground.data }, { on := 4, ground := Ground.guard }, { on := 11, ground := Ground.gcOnly Departure.lateStores }], guard := some (4, false) }) (v := ?_) rfl (by kernel_rfl) (by kernel_rfl) (by kernel_rfl) (fun _ _ _ h => h) (Or.inl ⟨by rfl, ?_⟩) hHeld ?_
  rotate_left
  · (intro w hSw; (try dsimp only at hSw); go_simp; first | done | with_reducible rfl)
  simp only [Act.put, List.setIfInBounds_toArray, List.set_cons_zero, List.set_cons_succ]
  refine wpAnyH_take (i := 10) (oi := { dst := some 32, op := Op.pick (Operand.tmp 26) (Operand.const (Value.bool true)) (Operand.tmp 31), type := 4, pos := "rib.go:29", after := #[{ on := 4, ground := Ground.data }, { on := 9, ground := Ground.data }, { on := 11, ground := Ground.gcOnly Departure.lateStores }], guard := none }) (v := ?_) rfl (by kernel_rfl) (by kernel_rfl) (by kernel_rfl) (fun _ _ _ h => h) (Or.inl ⟨by rfl, ?_⟩) hHeld ?_
  rotate_left
  · (intro w hSw; (try dsimp only at hSw); go_simp; first | done | with_reducible rfl)
  simp only [Act.put, List.setIfInBounds_toArray, List.set_cons_zero, List.set_cons_succ]
  refine wpAnyH_ready (rs := [11]) (by kernel_rfl) (by simp) ?_
  refine (AllReadyH.cons (o := { dst := none, op := Op.store 64 (Operand.tmp 4) (Operand.tmp 22), type := 0, pos := "rib.go:29", after := #[{ on := 0, ground := Ground.data }, { on := 4, ground := Ground.chain }, { on := 0, ground := Ground.phase }, { on := 1, ground := Ground.textOnly Departure.lateStores }, { on := 2, ground := Ground.textOnly Departure.lateStoresUnsure }, { on := 3, ground := Ground.textOnly Departure.lateStores }, { on := 4, ground := Ground.textOnly Departure.lateStores }, { on := 5, ground := Ground.textOnly Departure.lateStores }, { on := 6, ground := Ground.textOnly Departure.lateStores }, { on := 7, ground := Ground.textOnly Departure.lateStores }, { on := 8, ground := Ground.textOnly Departure.lateStores }, { on := 9, ground := Ground.textOnly Departure.lateStores }, { on := 10, ground := Ground.textOnly Departure.lateStores }], guard := none }) rfl (fun K hK => ?_) AllReadyH.nil)
  go_simp
  have TY := TX.put ⟨⟨f, (a, l), 16⟩, t⟩
  have KK11 := TY.cells
  clear hHeld
  refine hK.out _ _ KK11 (fun hHeld => ?_)
  clear hK K
  refine wpAnyH_take (i := 12) (oi := { dst := some 5, op := Op.assign (Operand.tmp 32), type := 4, pos := "rib.go:29", after := #[{ on := 10, ground := Ground.data }, { on := 11, ground := Ground.chain }, { on := 0, ground := Ground.phase }, { on := 1, ground := Ground.phase }, { on := 2, ground := Ground.phase }, { on := 3, ground := Ground.phase }, { on := 4, ground := Ground.phase }, { on := 5, ground := Ground.phase }, { on := 6, ground := Ground.phase }, { on := 7, ground := Ground.phase }, { on := 8, ground := Ground.phase }, { on := 9, ground := Ground.phase }, { on := 10, ground := Ground.phase }, { on := 11, ground := Ground.phase }], guard := none }) (v := ?_) rfl (by kernel_rfl) (by kernel_rfl) (by kernel_rfl) (fun _ _ _ h => h) (Or.inl ⟨by rfl, ?_⟩) hHeld ?_
  rotate_left
  · (intro w hSw; (try dsimp only at hSw); go_simp; first | done | with_reducible rfl)
  simp only [Act.put, List.setIfInBounds_toArray, List.set_cons_zero, List.set_cons_succ]
  refine wpAnyH_done (by kernel_rfl) ?_ _
  go_wp2_with fail
  exact bodyPost_route (e := ⟨⟨f, (a, l), 16⟩, t⟩) Tryd.results37 rfl rfl TY.2.1.at_ rfl ⟨rfl, TY.2.2⟩

set_option maxHeartbeats 4000000 in
set_option maxRecDepth 100000 in
theorem agedR_young (w : World) (f : Int) (a : Nat) (l m t now : Int) (h1 : t ≤ now) (hm : (m == 16) = false) (h3 : ¬ 180 ≤ now - t) :
    Calls Tryd.prog 37 #[.agg #[.int .i64 f, .int .u32 (a : Int), .int .i64 l, .int .i64 m, .int .i64 t], .int .i64 now] w fun r w' => r = .returned (.tuple #[Rt.v ⟨⟨f, (a, l), m⟩, t⟩, .bool (true)]) ∧ Below w.heap.size w w' := by
  have HF := Lib.hid fun w => lost_any w f a l m t false hm
  have HC := HF
  have HT := Lib.hid (TwoR.start w ⟨⟨f, (a, l), m⟩, t⟩ ⟨⟨0, (0, 0), 0⟩, 0⟩ 64)
  have hw : IntKind.i64.wrap (now - t) = now - t := by rw [IntKind.wrap_i64]; omega
  go_enter Tryd.func37, Tryd.ntmps37
  go_wp2_with fail
  refine (HC.out _).mono ?_
  rintro r w1 ⟨rfl, hb1⟩
  have TT := HT.out.kept hb1
  obtain ⟨c0, c1, c2, c3, c4⟩ := TT.cells
  dsimp only at c0 c1 c2 c3 c4
  clear hb1
  go_wp2_with fail
  refine wp_region_held_drew (S := (fun w' => w'.cell? ⟨w.heap.size, 0, none⟩ = some (.int .i64 f) ∧ w'.cell? ⟨w.heap.size, 1, none⟩ = some (.int .u32 (a : Int)) ∧ w'.cell? ⟨w.heap.size, 2, none⟩ = some (.int .i64 l) ∧ w'.cell? ⟨w.heap.size, 3, none⟩ = some (.int .i64 m) ∧ w'.cell? ⟨w.heap.size, 4, none⟩ = some (.int .i64 t))) (by kernel_rfl) (TwoR.drew TT).cells (fun hHeld => ?_)
  refine wpAnyH_take (i := 0) (oi := { dst := some 22, op := Op.load 64 (Operand.tmp 2), type := 64, pos := "rib.go:29", after := #[], guard := none }) (v := ?_) rfl (by kernel_rfl) (by kernel_rfl) (by kernel_rfl) (fun _ _ _ h => h) (Or.inl ⟨by rfl, ?_⟩) hHeld ?_
  rotate_left
  · (intro w hSw; (try dsimp only at hSw); go_simp; first | done | with_reducible rfl)
  simp only [Act.put, List.setIfInBounds_toArray, List.set_cons_zero, List.set_cons_succ]
  refine wpAnyH_take (i := 1) (oi := { dst := some 23, op := Op.load 64 (Operand.tmp 2), type := 64, pos := "rib.go:29", after := #[], guard := none }) (v := ?_) rfl (by kernel_rfl) (by kernel_rfl) (by kernel_rfl) (fun _ _ _ h => h) (Or.inl ⟨by rfl, ?_⟩) hHeld ?_
  rotate_left
  · (intro w hSw; (try dsimp only at hSw); go_simp; first | done | with_reducible rfl)
  simp only [Act.put, List.setIfInBounds_toArray, List.set_cons_zero, List.set_cons_succ]
  refine wpAnyH_ready (rs := [2]) (by kernel_rfl) (by simp) ?_
  refine (AllReadyH.cons (o := { dst := some 24, op := Op.call { callee := Callee.value (Operand.func 27), args := #[Operand.tmp 23], argTypes := #[64] }, type := 4, pos := "rib.go:29", after := #[{ on := 1, ground := Ground.data }], guard := none }) rfl (fun K hK => ?_) AllReadyH.nil)
  go_simp
  go_at_call 27
  refine (HF.out _).mono ?_
  rintro r w5 ⟨rfl, hb5⟩
  have TX := (TwoR.drew TT).kept hb5
  have KK2 := TX.cells
  clear hHeld hb5
  obtain ⟨⟨r0, r1, r2, r3, r4⟩, g0, g1, g2, g3, g4⟩ := TX.res
  go_wp2_with fail
  refine hK.out _ _ KK2 (fun hHeld => ?_)
  clear hK K
  refine wpAnyH_take (i := 3) (oi := { dst := some 25, op := Op.unOp UnOp.not 4 (Operand.tmp 24), type := 4, pos := "rib.go:29", after := #[{ on := 2, ground := Ground.data }], guard := none }) (v := ?_) rfl (by kernel_rfl) (by kernel_rfl) (by kernel_rfl) (fun _ _ _ h => h) (Or.inl ⟨by rfl, ?_⟩) hHeld ?_
  rotate_left
  · (intro w hSw; (try dsimp only at hSw); go_simp; first | done | with_reducible rfl)
  simp only [Act.put, List.setIfInBounds_toArray, List.set_cons_zero, List.set_cons_succ]
  refine wpAnyH_take (i := 4) (oi := { dst := some 26, op := Op.move (Operand.tmp 25), type := 4, pos := "rib.go:29", after := #[{ on := 3, ground := Ground.data }, { on := 2, ground := Ground.chain }], guard := none }) (v := ?_) rfl (by kernel_rfl) (by kernel_rfl) (by kernel_rfl) (fun _ _ _ h => h) (Or.inl ⟨by rfl, ?_⟩) hHeld ?_
  rotate_left
  · (intro w hSw; (try dsimp only at hSw); go_simp; first | done | with_reducible rfl)
  simp only [Act.put, List.setIfInBounds_toArray, List.set_cons_zero, List.set_cons_succ]
  refine wpAnyH_take (i := 5) (oi := { dst := some 27, op := Op.move (Operand.tmp 1), type := 3, pos := "rib.go:29", after := #[{ on := 4, ground := Ground.guard }, { on := 11, ground := Ground.gcOnly Departure.lateStores }], guard := some (4, false) }) (v := undef) rfl (by kernel_rfl) (by kernel_rfl) (by kernel_rfl) (fun _ _ _ h => h) (Or.inr ⟨by rfl, rfl⟩) hHeld ?_
  simp only [Act.put, List.setIfInBounds_toArray, List.set_cons_zero, List.set_cons_succ]
  refine wpAnyH_take (i := 6) (oi := { dst := some 28, op := Op.fieldAddr 64 (Operand.tmp 2) 1, type := 0, pos := "rib.go:29", after := #[{ on := 4, ground := Ground.guard }, { on := 11, ground := Ground.gcOnly Departure.lateStores }], guard := some (4, false) }) (v := undef) rfl (by kernel_rfl) (by kernel_rfl) (by kernel_rfl) (fun _ _ _ h => h) (Or.inr ⟨by rfl, rfl⟩) hHeld ?_
  simp only [Act.put, List.setIfInBounds_toArray, List.set_cons_zero, List.set_cons_succ]
  refine wpAnyH_take (i := 7) (oi := { dst := some 29, op := Op.load 3 (Operand.tmp 28), type := 3, pos := "rib.go:29", after := #[{ on := 6, ground := Ground.data }, { on := 4, ground := Ground.guard }, { on := 11, ground := Ground.gcOnly Departure.lateStores }], guard := some (4, false) }) (v := undef) rfl (by kernel_rfl) (by kernel_rfl) (by kernel_rfl) (fun _ _ _ h => h) (Or.inr ⟨by rfl, rfl⟩) hHeld ?_
  simp only [Act.put, List.setIfInBounds_toArray, List.set_cons_zero, List.set_cons_succ]
  refine wpAnyH_take (i := 8) (oi := { dst := some 30, op := Op.binOp BinOp.sub 3 (Operand.tmp 27) (Operand.tmp 29) 3, type := 3, pos := "rib.go:29", after := #[{ on := 5, ground := Ground.data }, { on := 7, ground := Ground.data }, { on := 4, ground := Ground.guard }, { on := 11, ground := Ground.gcOnly Departure.lateStores }], guard := some (4, false) }) (v := undef) rfl (by kernel_rfl) (by kernel_rfl) (by kernel_rfl) (fun _ _ _ h => h) (Or.inr ⟨by rfl, rfl⟩) hHeld ?_
  simp only [Act.put, List.setIfInBounds_toArray, List.set_cons_zero, List.set_cons_succ]
  refine wpAnyH_take (i := 9) (oi := { dst := some 31, op := Op.binOp BinOp.lss 3 (Operand.tmp 30) (Operand.const (Value.int IntKind.i64 120)) 3, type := 4, pos := "rib.go:29", after := #[{ on := 8, ground := Ground.data }, { on := 4, ground := Ground.guard }, { on := 11, ground := Ground.gcOnly Departure.lateStores }], guard := some (4, false) }) (v := undef) rfl (by kernel_rfl) (by kernel_rfl) (by kernel_rfl) (fun _ _ _ h => h) (Or.inr ⟨by rfl, rfl⟩) hHeld ?_
  simp only [Act.put, List.setIfInBounds_toArray, List.set_cons_zero, List.set_cons_succ]
  refine wpAnyH_take (i := 10) (oi := { dst := some 32, op := Op.pick (Operand.tmp 26) (Operand.const (Value.bool true)) (Operand.tmp 31), type := 4, pos := "rib.go:29", after := #[{ on := 4, ground := Ground.data }, { on := 9, ground := Ground.data }, { on := 11, ground := Ground.gcOnly Departure.lateStores }], guard := none }) (v := ?_) rfl (by kernel_rfl) (by kernel_rfl) (by kernel_rfl) (fun _ _ _ h => h) (Or.inl ⟨by rfl, ?_⟩) hHeld ?_
  rotate_left
  · (intro w hSw; (try dsimp only at hSw); go_simp; first | done | with_reducible rfl)
  simp only [Act.put, List.setIfInBounds_toArray, List.set_cons_zero, List.set_cons_succ]
  refine wpAnyH_ready (rs := [11]) (by kernel_rfl) (by simp) ?_
  refine (AllReadyH.cons (o := { dst := none, op := Op.store 64 (Operand.tmp 4) (Operand.tmp 22), type := 0, pos := "rib.go:29", after := #[{ on := 0, ground := Ground.data }, { on := 4, ground := Ground.chain }, { on := 0, ground := Ground.phase }, { on := 1, ground := Ground.textOnly Departure.lateStores }, { on := 2, ground := Ground.textOnly Departure.lateStoresUnsure }, { on := 3, ground := Ground.textOnly Departure.lateStores }, { on := 4, ground := Ground.textOnly Departure.lateStores }, { on := 5, ground := Ground.textOnly Departure.lateStores }, { on := 6, ground := Ground.textOnly Departure.lateStores }, { on := 7, ground := Ground.textOnly Departure.lateStores }, { on := 8, ground := Ground.textOnly Departure.lateStores }, { on := 9, ground := Ground.textOnly Departure.lateStores }, { on := 10, ground := Ground.textOnly Departure.lateStores }], guard := none }) rfl (fun K hK => ?_) AllReadyH.nil)
  go_simp
  have TY := TX.put ⟨⟨f, (a, l), m⟩, t⟩
  have KK11 := TY.cells
  clear hHeld
  refine hK.out _ _ KK11 (fun hHeld => ?_)
  clear hK K
  refine wpAnyH_take (i := 12) (oi := { dst := some 5, op := Op.assign (Operand.tmp 32), type := 4, pos := "rib.go:29", after := #[{ on := 10, ground := Ground.data }, { on := 11, ground := Ground.chain }, { on := 0, ground := Ground.phase }, { on := 1, ground := Ground.phase }, { on := 2, ground := Ground.phase }, { on := 3, ground := Ground.phase }, { on := 4, ground := Ground.phase }, { on := 5, ground := Ground.phase }, { on := 6, ground := Ground.phase }, { on := 7, ground := Ground.phase }, { on := 8, ground := Ground.phase }, { on := 9, ground := Ground.phase }, { on := 10, ground := Ground.phase }, { on := 11, ground := Ground.phase }], guard := none }) (v := ?_) rfl (by kernel_rfl) (by kernel_rfl) (by kernel_rfl) (fun _ _ _ h => h) (Or.inl ⟨by rfl, ?_⟩) hHeld ?_
  rotate_left
  · (intro w hSw; (try dsimp only at hSw); go_simp; first | done | with_reducible rfl)
  simp only [Act.put, List.setIfInBounds_toArray, List.set_cons_zero, List.set_cons_succ]
  refine wpAnyH_done (by kernel_rfl) ?_ _
  go_wp2_with fail
  exact bodyPost_route (e := ⟨⟨f, (a, l), m⟩, t⟩) Tryd.results37 rfl rfl TY.2.1.at_ rfl ⟨rfl, TY.2.2⟩

set_option maxHeartbeats 4000000 in
set_option maxRecDepth 100000 in
theorem agedR_old (w : World) (f : Int) (a : Nat) (l m t now : Int) (h0 : 0 ≤ t) (h2 : now ≤ 1099511627776) (hm : (m == 16) = false) (h3 : 180 ≤ now - t) :
    Calls Tryd.prog 37 #[.agg #[.int .i64 f, .int .u32 (a : Int), .int .i64 l, .int .i64 m, .int .i64 t], .int .i64 now] w fun r w' => r = .returned (.tuple #[Rt.v ⟨⟨f, (a, l), 16⟩, (t + 180)⟩, .bool (decide (now - (t + 180) < 120))]) ∧ Below w.heap.size w w' := by
  have HC := Lib.hid fun w => lost_any w f a l m t false hm
  have HL := Lib.hid fun w => lost_any w f a l 16 (t + 180) true rfl
  have HT := Lib.hid (TwoR.start w ⟨⟨f, (a, l), m⟩, t⟩ ⟨⟨0, (0, 0), 0⟩, 0⟩ 64)
  have hw : IntKind.i64.wrap (now - t) = now - t := by rw [IntKind.wrap_i64]; omega
  have hw2 : IntKind.i64.wrap (t + 180) = t + 180 := by rw [IntKind.wrap_i64]; omega
  have hw3 : IntKind.i64.wrap (now - (t + 180)) = now - (t + 180) := by rw [IntKind.wrap_i64]; omega
  go_enter Tryd.func37, Tryd.ntmps37
  go_wp2_with fail
  refine (HC.out _).mono ?_
  rintro r w1 ⟨rfl, hb1⟩
  have TT := HT.out.kept hb1
  have f3 := TT.1.free 3; have f4 := TT.1.free 4
  obtain ⟨c0, c1, c2, c3, c4⟩ := TT.cells
  dsimp only at c0 c1 c2 c3 c4
  clear hb1
  go_wp2_with fail
  have TT := TT.turn 16 (t + 180)
  refine wp_region_held_drew (S := (fun w' => w'.cell? ⟨w.heap.size, 0, none⟩ = some (.int .i64 f) ∧ w'.cell? ⟨w.heap.size, 1, none⟩ = some (.int .u32 (a : Int)) ∧ w'.cell? ⟨w.heap.size, 2, none⟩ = some (.int .i64 l) ∧ w'.cell? ⟨w.heap.size, 3, none⟩ = some (.int .i64 16) ∧ w'.cell? ⟨w.heap.size, 4, none⟩ = some (.int .i64 (t + 180)))) (by kernel_rfl) (TwoR.drew TT).cells (fun hHeld => ?_)
  refine wpAnyH_take (i := 0) (oi := { dst := some 22, op := Op.load 64 (Operand.tmp 2), type := 64, pos := "rib.go:29", after := #[], guard := none }) (v := ?_) rfl (by kernel_rfl) (by kernel_rfl) (by kernel_rfl) (fun _ _ _ h => h) (Or.inl ⟨by rfl, ?_⟩) hHeld ?_
  rotate_left
  · (intro w hSw; (try dsimp only at hSw); go_simp; first | done | with_reducible rfl)
  simp only [Act.put, List.setIfInBounds_toArray, List.set_cons_zero, List.set_cons_succ]
  refine wpAnyH_take (i := 1) (oi := { dst := some 23, op := Op.load 64 (Operand.tmp 2), type := 64, pos := "rib.go:29", after := #[], guard := none }) (v := ?_) rfl (by kernel_rfl) (by kernel_rfl) (by kernel_rfl) (fun _ _ _ h => h) (Or.inl ⟨by rfl, ?_⟩) hHeld ?_
  rotate_left
  · (intro w hSw; (try dsimp only at hSw); go_simp; first | done | with_reducible rfl)
  simp only [Act.put, List.setIfInBounds_toArray, List.set_cons_zero, List.set_cons_succ]
  refine wpAnyH_ready (rs := [2]) (by kernel_rfl) (by simp) ?_
  refine (AllReadyH.cons (o := { dst := some 24, op := Op.call { callee := Callee.value (Operand.func 27), args := #[Operand.tmp 23], argTypes := #[64] }, type := 4, pos := "rib.go:29", after := #[{ on := 1, ground := Ground.data }], guard := none }) rfl (fun K hK => ?_) AllReadyH.nil)
  go_simp
  go_at_call 27
  refine (HL.out _).mono ?_
  rintro r w5 ⟨rfl, hb5⟩
  have TX := (TwoR.drew TT).kept hb5
  have KK2 := TX.cells
  clear hHeld hb5
  obtain ⟨⟨r0, r1, r2, r3, r4⟩, g0, g1, g2, g3, g4⟩ := TX.res
  go_wp2_with fail
  refine hK.out _ _ KK2 (fun hHeld => ?_)
  clear hK K
  refine wpAnyH_take (i := 3) (oi := { dst := some 25, op := Op.unOp UnOp.not 4 (Operand.tmp 24), type := 4, pos := "rib.go:29", after := #[{ on := 2, ground := Ground.data }], guard := none }) (v := ?_) rfl (by kernel_rfl) (by kernel_rfl) (by kernel_rfl) (fun _ _ _ h => h) (Or.inl ⟨by rfl, ?_⟩) hHeld ?_
  rotate_left
  · (intro w hSw; (try dsimp only at hSw); go_simp; first | done | with_reducible rfl)
  simp only [Act.put, List.setIfInBounds_toArray, List.set_cons_zero, List.set_cons_succ]
  refine wpAnyH_take (i := 4) (oi := { dst := some 26, op := Op.move (Operand.tmp 25), type := 4, pos := "rib.go:29", after := #[{ on := 3, ground := Ground.data }, { on := 2, ground := Ground.chain }], guard := none }) (v := ?_) rfl (by kernel_rfl) (by kernel_rfl) (by kernel_rfl) (fun _ _ _ h => h) (Or.inl ⟨by rfl, ?_⟩) hHeld ?_
  rotate_left
  · (intro w hSw; (try dsimp only at hSw); go_simp; first | done | with_reducible rfl)
  simp only [Act.put, List.setIfInBounds_toArray, List.set_cons_zero, List.set_cons_succ]
  refine wpAnyH_take (i := 5) (oi := { dst := some 27, op := Op.move (Operand.tmp 1), type := 3, pos := "rib.go:29", after := #[{ on := 4, ground := Ground.guard }, { on := 11, ground := Ground.gcOnly Departure.lateStores }], guard := some (4, false) }) (v := ?_) rfl (by kernel_rfl) (by kernel_rfl) (by kernel_rfl) (fun _ _ _ h => h) (Or.inl ⟨by rfl, ?_⟩) hHeld ?_
  rotate_left
  · (intro w hSw; (try dsimp only at hSw); go_simp; first | done | with_reducible rfl)
  simp only [Act.put, List.setIfInBounds_toArray, List.set_cons_zero, List.set_cons_succ]
  refine wpAnyH_take (i := 6) (oi := { dst := some 28, op := Op.fieldAddr 64 (Operand.tmp 2) 1, type := 0, pos := "rib.go:29", after := #[{ on := 4, ground := Ground.guard }, { on := 11, ground := Ground.gcOnly Departure.lateStores }], guard := some (4, false) }) (v := ?_) rfl (by kernel_rfl) (by kernel_rfl) (by kernel_rfl) (fun _ _ _ h => h) (Or.inl ⟨by rfl, ?_⟩) hHeld ?_
  rotate_left
  · (intro w hSw; (try dsimp only at hSw); go_simp; first | done | with_reducible rfl)
  simp only [Act.put, List.setIfInBounds_toArray, List.set_cons_zero, List.set_cons_succ]
  refine wpAnyH_take (i := 7) (oi := { dst := some 29, op := Op.load 3 (Operand.tmp 28), type := 3, pos := "rib.go:29", after := #[{ on := 6, ground := Ground.data }, { on := 4, ground := Ground.guard }, { on := 11, ground := Ground.gcOnly Departure.lateStores }], guard := some (4, false) }) (v := ?_) rfl (by kernel_rfl) (by kernel_rfl) (by kernel_rfl) (fun _ _ _ h => h) (Or.inl ⟨by rfl, ?_⟩) hHeld ?_
  rotate_left
  · (intro w hSw; (try dsimp only at hSw); go_simp; first | done | with_reducible rfl)
  simp only [Act.put, List.setIfInBounds_toArray, List.set_cons_zero, List.set_cons_succ]
  refine wpAnyH_take (i := 8) (oi := { dst := some 30, op := Op.binOp BinOp.sub 3 (Operand.tmp 27) (Operand.tmp 29) 3, type := 3, pos := "rib.go:29", after := #[{ on := 5, ground := Ground.data }, { on := 7, ground := Ground.data }, { on := 4, ground := Ground.guard }, { on := 11, ground := Ground.gcOnly Departure.lateStores }], guard := some (4, false) }) (v := ?_) rfl (by kernel_rfl) (by kernel_rfl) (by kernel_rfl) (fun _ _ _ h => h) (Or.inl ⟨by rfl, ?_⟩) hHeld ?_
  rotate_left
  · (intro w hSw; (try dsimp only at hSw); go_simp; first | done | with_reducible rfl)
  simp only [Act.put, List.setIfInBounds_toArray, List.set_cons_zero, List.set_cons_succ]
  refine wpAnyH_take (i := 9) (oi := { dst := some 31, op := Op.binOp BinOp.lss 3 (Operand.tmp 30) (Operand.const (Value.int IntKind.i64 120)) 3, type := 4, pos := "rib.go:29", after := #[{ on := 8, ground := Ground.data }, { on := 4, ground := Ground.guard }, { on := 11, ground := Ground.gcOnly Departure.lateStores }], guard := some (4, false) }) (v := ?_) rfl (by kernel_rfl) (by kernel_rfl) (by kernel_rfl) (fun _ _ _ h => h) (Or.inl ⟨by rfl, ?_⟩) hHeld ?_
  rotate_left
  · (intro w hSw; (try dsimp only at hSw); go_simp; first | done | with_reducible rfl)
  simp only [Act.put, List.setIfInBounds_toArray, List.set_cons_zero, List.set_cons_succ]
  refine wpAnyH_take (i := 10) (oi := { dst := some 32, op := Op.pick (Operand.tmp 26) (Operand.const (Value.bool true)) (Operand.tmp 31), type := 4, pos := "rib.go:29", after := #[{ on := 4, ground := Ground.data }, { on := 9, ground := Ground.data }, { on := 11, ground := Ground.gcOnly Departure.lateStores }], guard := none }) (v := ?_) rfl (by kernel_rfl) (by kernel_rfl) (by kernel_rfl) (fun _ _ _ h => h) (Or.inl ⟨by rfl, ?_⟩) hHeld ?_
  rotate_left
  · (intro w hSw; (try dsimp only at hSw); go_simp; first | done | with_reducible rfl)
  simp only [Act.put, List.setIfInBounds_toArray, List.set_cons_zero, List.set_cons_succ]
  refine wpAnyH_ready (rs := [11]) (by kernel_rfl) (by simp) ?_
  refine (AllReadyH.cons (o := { dst := none, op := Op.store 64 (Operand.tmp 4) (Operand.tmp 22), type := 0, pos := "rib.go:29", after := #[{ on := 0, ground := Ground.data }, { on := 4, ground := Ground.chain }, { on := 0, ground := Ground.phase }, { on := 1, ground := Ground.textOnly Departure.lateStores }, { on := 2, ground := Ground.textOnly Departure.lateStoresUnsure }, { on := 3, ground := Ground.textOnly Departure.lateStores }, { on := 4, ground := Ground.textOnly Departure.lateStores }, { on := 5, ground := Ground.textOnly Departure.lateStores }, { on := 6, ground := Ground.textOnly Departure.lateStores }, { on := 7, ground := Ground.textOnly Departure.lateStores }, { on := 8, ground := Ground.textOnly Departure.lateStores }, { on := 9, ground := Ground.textOnly Departure.lateStores }, { on := 10, ground := Ground.textOnly Departure.lateStores }], guard := none }) rfl (fun K hK => ?_) AllReadyH.nil)
  go_simp
  have TY := TX.put ⟨⟨f, (a, l), 16⟩, (t + 180)⟩
  have KK11 := TY.cells
  clear hHeld
  refine hK.out _ _ KK11 (fun hHeld => ?_)
  clear hK K
  refine wpAnyH_take (i := 12) (oi := { dst := some 5, op := Op.assign (Operand.tmp 32), type := 4, pos := "rib.go:29", after := #[{ on := 10, ground := Ground.data }, { on := 11, ground := Ground.chain }, { on := 0, ground := Ground.phase }, { on := 1, ground := Ground.phase }, { on := 2, ground := Ground.phase }, { on := 3, ground := Ground.phase }, { on := 4, ground := Ground.phase }, { on := 5, ground := Ground.phase }, { on := 6, ground := Ground.phase }, { on := 7, ground := Ground.phase }, { on := 8, ground := Ground.phase }, { on := 9, ground := Ground.phase }, { on := 10, ground := Ground.phase }, { on := 11, ground := Ground.phase }], guard := none }) (v := ?_) rfl (by kernel_rfl) (by kernel_rfl) (by kernel_rfl) (fun _ _ _ h => h) (Or.inl ⟨by rfl, ?_⟩) hHeld ?_
  rotate_left
  · (intro w hSw; (try dsimp only at hSw); go_simp; first | done | with_reducible rfl)
  simp only [Act.put, List.setIfInBounds_toArray, List.set_cons_zero, List.set_cons_succ]
  refine wpAnyH_done (by kernel_rfl) ?_ _
  go_wp2_with fail
  exact bodyPost_route (e := ⟨⟨f, (a, l), 16⟩, (t + 180)⟩) Tryd.results37 rfl rfl TY.2.1.at_ rfl ⟨rfl, TY.2.2⟩

--END
theorem agedR_any (w : World) (e : Rt) (now : Int) (h0 : 0 ≤ e.t) (h1 : e.t ≤ now) (h2 : now ≤ 1099511627776) :
    Calls Tryd.prog 37 #[e.v, .int .i64 now] w fun r w' => r = .returned (.tuple #[(ageR now e).v, .bool (kpt now (ageR now e))]) ∧ Below w.heap.size w w' := by
  obtain ⟨⟨f, ⟨a, l⟩, m⟩, t⟩ := e
  unfold ageR kpt
  by_cases hm : m = 16
  · have e1 : ¬ (m ≠ 16 ∧ 180 ≤ now - t) := fun h => h.1 hm
    simp only [e1, if_false]
    have e2 : decide (m ≠ 16 ∨ now - t < 120) = decide (now - t < 120) := decide_eq_decide.2 ⟨fun h => h.resolve_left fun h => h hm, Or.inr⟩
    rw [e2]
    have := agedR_gone w f a l m t now h0 h1 h2 hm
    rw [← hm] at this
    exact this
  · have hm' : (m == 16) = false := by simpa using hm
    by_cases h3 : 180 ≤ now - t
    · have e1 : m ≠ 16 ∧ 180 ≤ now - t := ⟨hm, h3⟩
      rw [if_pos e1]
      have e2 : decide ((⟨⟨f, (a, l), 16⟩, t + 180⟩ : Rt).h.m ≠ 16 ∨ now - (⟨⟨f, (a, l), 16⟩, t + 180⟩ : Rt).t < 120) = decide (now - (t + 180) < 120) := decide_eq_decide.2 ⟨fun h => h.resolve_left fun h => h rfl, Or.inr⟩
      rw [e2]
      exact agedR_old w f a l m t now h0 h2 hm' h3
    · have e1 : ¬ (m ≠ 16 ∧ 180 ≤ now - t) := fun h => h3 h.2
      simp only [e1, if_false]
      have e2 : decide (m ≠ 16 ∨ now - t < 120) = true := decide_eq_true (Or.inl hm)
      rw [e2]
      exact agedR_young w f a l m t now h1 hm' h3
end Go.Proofs.YtoocmogmocapoaaDoor
