/-
  The document's LeastOf at every two tables of as many rows; what lay in memory stays.
-/
import Derived.Test.YtobfidlfgdlilaaDoorRowsOwn
import Derived.Test.YtobfidlfgdlilaaDoorRowsTo
import Derived.Test.YtobfidlfgdlilaaDoorMatMul
namespace Go.Proofs.YtobfidlfgdlilaaDoor
open Go.RowKit Go.Lib

set_option maxHeartbeats 2000000 in
set_option maxRecDepth 100000 in
theorem leastOf_some (w : World) (ba oa ca bb ob cb m : Nat) (A B : MatP.T) (hm : m ≤ 8) (hba : ba < w.heap.size) (hbb : bb < w.heap.size) (hs : SeenR w ba oa (rowsN m A)) (hs' : SeenR w bb ob (rowsN m B)) :
    Calls Tryd.prog 19 #[.slice (some ⟨ba, oa, none⟩) m ca, .slice (some ⟨bb, ob, none⟩) m cb] w fun e w' => ∃ u, e = .returned u ∧ OwnR w' w.heap.size u (rowsN m (MatP.min2 A B)) ∧ Below w.heap.size w w' := by
  have HS := Lib.hid hs; have HS' := Lib.hid hs'
  clear hs hs'
  go_enter Tryd.func19, Tryd.ntmps19
  go_wp2_with fail
  go_loopw [5, 6] (fun u x wr => ∃ (k : Nat), x = .int .i64 k ∧ k ≤ m ∧ Hid (Below w.heap.size w wr) ∧ Hid (OwnR wr w.heap.size u (rowsTo m k (fun i j => (MatP.min2 A B i j : Int))))) (fun _ x _ => m - (RowKit.intOf x).toNat)
  case atStart => exact ⟨0, rfl, Nat.zero_le _, Lib.hid (Below.refl _ _), Lib.hid (OwnR.nil _ _)⟩
  case round =>
    obtain ⟨k, rfl, hk, hB, HO⟩ := hrel
    by_cases hkn : k < m
    · obtain ⟨w0, HW0⟩ : ∃ w0, Hid (w0 = wr) := ⟨wr, Lib.hid rfl⟩
      have HB0 : Hid (Below w.heap.size w w0) := Lib.hid (by rw [HW0.out]; exact hB.out)
      have HO0 := Lib.hid (show OwnR w0 w.heap.size _ _ by rw [HW0.out]; exact HO.out)
      have HS0 : Hid (Below w0.heap.size w0 wr) := Lib.hid (by rw [HW0.out]; exact Below.refl _ _)
      clear HW0 hB HO
      go_wp2_with fail
      go_loopw [7, 8] (fun r x wq => ∃ (j : Nat), x = .int .i64 j ∧ j ≤ m ∧ Hid (Below w0.heap.size w0 wq) ∧ Hid (OwnI wq w0.heap.size r (rowTo j (fun j => (MatP.min2 A B k j : Int))))) (fun _ x _ => m - (RowKit.intOf x).toNat)
      case atStart => exact ⟨0, rfl, Nat.zero_le _, HS0, Lib.hid (OwnI.nil _ _)⟩
      case round =>
        obtain ⟨j, rfl, hj, hB2, HI⟩ := hrel
        by_cases hjm : j < m
        · obtain ⟨b1, o1, c1, a1, l1, x1⟩ := tab_row HS.out k hkn
          obtain ⟨b2, o2, c2, a2, l2, x2⟩ := tab_row HS'.out k hkn
          replace x1 := x1 j hjm
          replace x2 := x2 j hjm
          have HM : Hid (rowTo (j + 1) (fun j => (MatP.min2 A B k j : Int)) = rowTo j (fun j => (MatP.min2 A B k j : Int)) ++ [min (A k j : Int) (B k j : Int)]) := Lib.hid (by rw [rowTo_more, DistP.least_min]; rfl)
          have HLen := Lib.hid (rowTo_len j (fun j => (MatP.min2 A B k j : Int)))
          generalize A k j = x at x1 HM
          generalize B k j = y at x2 HM
          have HSS : Hid (∀ w', Below w.heap.size w w' → w'.cell? ⟨ba, oa + k, none⟩ = some (.slice (some ⟨b1, o1, none⟩) m c1) ∧ w'.cell? ⟨b1, o1 + j, none⟩ = some (.int .i64 (x : Int)) ∧ w'.cell? ⟨bb, ob + k, none⟩ = some (.slice (some ⟨b2, o2, none⟩) m c2) ∧ w'.cell? ⟨b2, o2 + j, none⟩ = some (.int .i64 (y : Int))) :=
            Lib.hid fun w' hb => ⟨(hb.cell (p := ⟨ba, oa + k, none⟩) hba).trans a1, (hb.cell (p := ⟨b1, o1 + j, none⟩) l1).trans x1, (hb.cell (p := ⟨bb, ob + k, none⟩) hbb).trans a2, (hb.cell (p := ⟨b2, o2 + j, none⟩) l2).trans x2⟩
          clear a1 l1 x1 a2 l2 x2
          have HK2 := Lib.hid (HI.out.keep ((Below.refl wr.heap.size wr).drew.alloc (Nat.le_refl _) (.cells #[.int .i64 (min (x : Int) (y : Int))] 3)))
          have HBd := Lib.hid (Below.two HB0.out (hB2.out.drew.alloc hB2.out.size (.cells #[.int .i64 (min (x : Int) (y : Int))] 3)))
          go_wp2_with fail
          --REG
          refine wp_region_held_drew (S := (fun w' => w'.cell? ⟨ba, oa + k, none⟩ = some (.slice (some ⟨b1, o1, none⟩) m c1) ∧ w'.cell? ⟨b1, o1 + j, none⟩ = some (.int .i64 (x : Int)) ∧ w'.cell? ⟨bb, ob + k, none⟩ = some (.slice (some ⟨b2, o2, none⟩) m c2) ∧ w'.cell? ⟨b2, o2 + j, none⟩ = some (.int .i64 (y : Int)))) (by kernel_rfl) (HSS.out _ (Below.two HB0.out hB2.out.drew)) (fun hHeld => ?_)
          refine wpAnyH_take (i := 0) (oi := { dst := some 21, op := Op.move (Operand.tmp 7), type := 39, pos := "nets.go:437", after := #[], guard := none }) (v := ?_) rfl (by kernel_rfl) (by kernel_rfl) (by kernel_rfl) (fun _ _ _ h => h) (Or.inl ⟨by rfl, ?_⟩) hHeld ?_
          rotate_left
          · (intro w hSw; (try dsimp only at hSw); go_simp; first | done | with_reducible rfl)
          simp only [Act.put, List.setIfInBounds_toArray, List.set_cons_zero, List.set_cons_succ]
          refine wpAnyH_take (i := 1) (oi := { dst := some 22, op := Op.move (Operand.tmp 0), type := 22, pos := "nets.go:437", after := #[], guard := none }) (v := ?_) rfl (by kernel_rfl) (by kernel_rfl) (by kernel_rfl) (fun _ _ _ h => h) (Or.inl ⟨by rfl, ?_⟩) hHeld ?_
          rotate_left
          · (intro w hSw; (try dsimp only at hSw); go_simp; first | done | with_reducible rfl)
          simp only [Act.put, List.setIfInBounds_toArray, List.set_cons_zero, List.set_cons_succ]
          refine wpAnyH_take (i := 2) (oi := { dst := some 23, op := Op.move (Operand.tmp 6), type := 3, pos := "nets.go:437", after := #[], guard := none }) (v := ?_) rfl (by kernel_rfl) (by kernel_rfl) (by kernel_rfl) (fun _ _ _ h => h) (Or.inl ⟨by rfl, ?_⟩) hHeld ?_
          rotate_left
          · (intro w hSw; (try dsimp only at hSw); go_simp; first | done | with_reducible rfl)
          simp only [Act.put, List.setIfInBounds_toArray, List.set_cons_zero, List.set_cons_succ]
          refine wpAnyH_take (i := 3) (oi := { dst := some 24, op := Op.indexAddr 22 (Operand.tmp 22) (Operand.tmp 23), type := 0, pos := "nets.go:437", after := #[{ on := 1, ground := Ground.data }, { on := 2, ground := Ground.data }], guard := none }) (v := ?_) rfl (by kernel_rfl) (by kernel_rfl) (by kernel_rfl) (fun _ _ _ h => h) (Or.inl ⟨by rfl, ?_⟩) hHeld ?_
          rotate_left
          · (intro w hSw; (try dsimp only at hSw); go_simp; first | done | with_reducible rfl)
          simp only [Act.put, List.setIfInBounds_toArray, List.set_cons_zero, List.set_cons_succ]
          refine wpAnyH_take (i := 4) (oi := { dst := some 25, op := Op.load 39 (Operand.tmp 24), type := 39, pos := "nets.go:437", after := #[{ on := 3, ground := Ground.data }], guard := none }) (v := ?_) rfl (by kernel_rfl) (by kernel_rfl) (by kernel_rfl) (fun _ _ _ h => h) (Or.inl ⟨by rfl, ?_⟩) hHeld ?_
          rotate_left
          · (intro w hSw; (try dsimp only at hSw); go_simp; first | done | with_reducible rfl)
          simp only [Act.put, List.setIfInBounds_toArray, List.set_cons_zero, List.set_cons_succ]
          refine wpAnyH_take (i := 5) (oi := { dst := some 26, op := Op.move (Operand.tmp 8), type := 3, pos := "nets.go:437", after := #[], guard := none }) (v := ?_) rfl (by kernel_rfl) (by kernel_rfl) (by kernel_rfl) (fun _ _ _ h => h) (Or.inl ⟨by rfl, ?_⟩) hHeld ?_
          rotate_left
          · (intro w hSw; (try dsimp only at hSw); go_simp; first | done | with_reducible rfl)
          simp only [Act.put, List.setIfInBounds_toArray, List.set_cons_zero, List.set_cons_succ]
          refine wpAnyH_take (i := 6) (oi := { dst := some 27, op := Op.indexAddr 39 (Operand.tmp 25) (Operand.tmp 26), type := 0, pos := "nets.go:437", after := #[{ on := 4, ground := Ground.data }, { on := 5, ground := Ground.data }], guard := none }) (v := ?_) rfl (by kernel_rfl) (by kernel_rfl) (by kernel_rfl) (fun _ _ _ h => h) (Or.inl ⟨by rfl, ?_⟩) hHeld ?_
          rotate_left
          · (intro w hSw; (try dsimp only at hSw); go_simp; first | done | with_reducible rfl)
          simp only [Act.put, List.setIfInBounds_toArray, List.set_cons_zero, List.set_cons_succ]
          refine wpAnyH_take (i := 7) (oi := { dst := some 28, op := Op.load 3 (Operand.tmp 27), type := 3, pos := "nets.go:437", after := #[{ on := 6, ground := Ground.data }], guard := none }) (v := ?_) rfl (by kernel_rfl) (by kernel_rfl) (by kernel_rfl) (fun _ _ _ h => h) (Or.inl ⟨by rfl, ?_⟩) hHeld ?_
          rotate_left
          · (intro w hSw; (try dsimp only at hSw); go_simp; first | done | with_reducible rfl)
          simp only [Act.put, List.setIfInBounds_toArray, List.set_cons_zero, List.set_cons_succ]
          refine wpAnyH_take (i := 8) (oi := { dst := some 29, op := Op.move (Operand.tmp 1), type := 22, pos := "nets.go:437", after := #[], guard := none }) (v := ?_) rfl (by kernel_rfl) (by kernel_rfl) (by kernel_rfl) (fun _ _ _ h => h) (Or.inl ⟨by rfl, ?_⟩) hHeld ?_
          rotate_left
          · (intro w hSw; (try dsimp only at hSw); go_simp; first | done | with_reducible rfl)
          simp only [Act.put, List.setIfInBounds_toArray, List.set_cons_zero, List.set_cons_succ]
          refine wpAnyH_take (i := 9) (oi := { dst := some 30, op := Op.move (Operand.tmp 6), type := 3, pos := "nets.go:437", after := #[], guard := none }) (v := ?_) rfl (by kernel_rfl) (by kernel_rfl) (by kernel_rfl) (fun _ _ _ h => h) (Or.inl ⟨by rfl, ?_⟩) hHeld ?_
          rotate_left
          · (intro w hSw; (try dsimp only at hSw); go_simp; first | done | with_reducible rfl)
          simp only [Act.put, List.setIfInBounds_toArray, List.set_cons_zero, List.set_cons_succ]
          refine wpAnyH_take (i := 10) (oi := { dst := some 31, op := Op.indexAddr 22 (Operand.tmp 29) (Operand.tmp 30), type := 0, pos := "nets.go:437", after := #[{ on := 8, ground := Ground.data }, { on := 9, ground := Ground.data }], guard := none }) (v := ?_) rfl (by kernel_rfl) (by kernel_rfl) (by kernel_rfl) (fun _ _ _ h => h) (Or.inl ⟨by rfl, ?_⟩) hHeld ?_
          rotate_left
          · (intro w hSw; (try dsimp only at hSw); go_simp; first | done | with_reducible rfl)
          simp only [Act.put, List.setIfInBounds_toArray, List.set_cons_zero, List.set_cons_succ]
          refine wpAnyH_take (i := 11) (oi := { dst := some 32, op := Op.load 39 (Operand.tmp 31), type := 39, pos := "nets.go:437", after := #[{ on := 10, ground := Ground.data }], guard := none }) (v := ?_) rfl (by kernel_rfl) (by kernel_rfl) (by kernel_rfl) (fun _ _ _ h => h) (Or.inl ⟨by rfl, ?_⟩) hHeld ?_
          rotate_left
          · (intro w hSw; (try dsimp only at hSw); go_simp; first | done | with_reducible rfl)
          simp only [Act.put, List.setIfInBounds_toArray, List.set_cons_zero, List.set_cons_succ]
          refine wpAnyH_take (i := 12) (oi := { dst := some 33, op := Op.move (Operand.tmp 8), type := 3, pos := "nets.go:437", after := #[], guard := none }) (v := ?_) rfl (by kernel_rfl) (by kernel_rfl) (by kernel_rfl) (fun _ _ _ h => h) (Or.inl ⟨by rfl, ?_⟩) hHeld ?_
          rotate_left
          · (intro w hSw; (try dsimp only at hSw); go_simp; first | done | with_reducible rfl)
          simp only [Act.put, List.setIfInBounds_toArray, List.set_cons_zero, List.set_cons_succ]
          refine wpAnyH_take (i := 13) (oi := { dst := some 34, op := Op.indexAddr 39 (Operand.tmp 32) (Operand.tmp 33), type := 0, pos := "nets.go:437", after := #[{ on := 11, ground := Ground.data }, { on := 12, ground := Ground.data }], guard := none }) (v := ?_) rfl (by kernel_rfl) (by kernel_rfl) (by kernel_rfl) (fun _ _ _ h => h) (Or.inl ⟨by rfl, ?_⟩) hHeld ?_
          rotate_left
          · (intro w hSw; (try dsimp only at hSw); go_simp; first | done | with_reducible rfl)
          simp only [Act.put, List.setIfInBounds_toArray, List.set_cons_zero, List.set_cons_succ]
          refine wpAnyH_take (i := 14) (oi := { dst := some 35, op := Op.load 3 (Operand.tmp 34), type := 3, pos := "nets.go:437", after := #[{ on := 13, ground := Ground.data }], guard := none }) (v := ?_) rfl (by kernel_rfl) (by kernel_rfl) (by kernel_rfl) (fun _ _ _ h => h) (Or.inl ⟨by rfl, ?_⟩) hHeld ?_
          rotate_left
          · (intro w hSw; (try dsimp only at hSw); go_simp; first | done | with_reducible rfl)
          simp only [Act.put, List.setIfInBounds_toArray, List.set_cons_zero, List.set_cons_succ]
          refine wpAnyH_take (i := 15) (oi := { dst := some 36, op := Op.call { callee := Callee.builtin Builtin.min, args := #[Operand.tmp 28, Operand.tmp 35], argTypes := #[3, 3] }, type := 3, pos := "nets.go:437", after := #[{ on := 7, ground := Ground.data }, { on := 14, ground := Ground.data }], guard := none }) (v := ?_) rfl (by kernel_rfl) (by kernel_rfl) (by kernel_rfl) (fun _ _ _ h => h) (Or.inl ⟨by rfl, ?_⟩) hHeld ?_
          rotate_left
          · (intro w hSw; (try dsimp only at hSw); go_simp; first | done | with_reducible rfl)
          simp only [Act.put, List.setIfInBounds_toArray, List.set_cons_zero, List.set_cons_succ]
          refine wpAnyH_ready (rs := [16]) (by kernel_rfl) (by simp) ?_
          refine (AllReadyH.cons (o := { dst := some 37, op := Op.buildSlice 39 1 #[(0, Operand.tmp 36)], type := 39, pos := "nets.go:437", after := #[{ on := 15, ground := Ground.data }], guard := none }) rfl (fun K hK => ?_) AllReadyH.nil)
          go_simp
          have KK16 := HSS.out _ HBd.out
          clear hHeld
          refine hK.out _ _ KK16 (fun hHeld => ?_)
          clear hK K
          refine wpAnyH_ready (rs := [17]) (by kernel_rfl) (by simp) ?_
          refine (AllReadyH.cons (o := { dst := some 38, op := Op.call { callee := Callee.builtin Builtin.append, args := #[Operand.tmp 21, Operand.tmp 37], argTypes := #[39, 39] }, type := 39, pos := "nets.go:437", after := #[{ on := 0, ground := Ground.data }, { on := 16, ground := Ground.data }], guard := none }) rfl (fun K hK => ?_) AllReadyH.nil)
          rw [if_pos (by rfl)]
          refine wp_append_oneI _ _ rfl w0.heap.size _ (rowTo j (fun j => (MatP.min2 A B k j : Int))) (min (x : Int) (y : Int)) wr.heap.size 1 rfl rfl HK2.out (by simp) (by rw [HLen.out]; omega) (Nat.le_trans hB2.out.size (by simp)) ?_
          intro v' w3 hO3 hg3 _
          have B3 := (hB2.out.drew.alloc hB2.out.size (.cells #[.int .i64 (min (x : Int) (y : Int))] 3)).grown hg3 (Nat.le_trans hB2.out.size (by simp)) HI.out.past
          have KK17 := HSS.out w3 (Below.two HB0.out B3)
          clear hHeld
          have HB3 := Lib.hid B3; have HO3 := Lib.hid hO3
          clear hO3 hg3 B3
          simp only [Act.put, List.setIfInBounds_toArray, List.set_cons_zero, List.set_cons_succ]
          refine hK.out _ _ KK17 (fun hHeld => ?_)
          clear hK K
          refine wpAnyH_take (i := 18) (oi := { dst := some 7, op := Op.assign (Operand.tmp 38), type := 39, pos := "nets.go:437", after := #[{ on := 17, ground := Ground.data }, { on := 17, ground := Ground.chain }, { on := 0, ground := Ground.phase }, { on := 1, ground := Ground.phase }, { on := 2, ground := Ground.phase }, { on := 3, ground := Ground.phase }, { on := 4, ground := Ground.phase }, { on := 5, ground := Ground.phase }, { on := 6, ground := Ground.phase }, { on := 7, ground := Ground.phase }, { on := 8, ground := Ground.phase }, { on := 9, ground := Ground.phase }, { on := 10, ground := Ground.phase }, { on := 11, ground := Ground.phase }, { on := 12, ground := Ground.phase }, { on := 13, ground := Ground.phase }, { on := 14, ground := Ground.phase }, { on := 15, ground := Ground.phase }, { on := 16, ground := Ground.phase }, { on := 17, ground := Ground.phase }], guard := none }) (v := ?_) rfl (by kernel_rfl) (by kernel_rfl) (by kernel_rfl) (fun _ _ _ h => h) (Or.inl ⟨by rfl, ?_⟩) hHeld ?_
          rotate_left
          · (intro w hSw; (try dsimp only at hSw); go_simp; first | done | with_reducible rfl)
          simp only [Act.put, List.setIfInBounds_toArray, List.set_cons_zero, List.set_cons_succ]
          refine wpAnyH_done (by kernel_rfl) ?_ _
          clear hHeld
          --END
          go_wp2_with fail
          go_roundw
          case rel => exact ⟨j + 1, by go_num, by omega, HB3, Lib.hid (by rw [HM.out]; exact HO3.out)⟩
          case measure => simp [RowKit.intOf]; omega
        · have e : j = m := by omega
          subst e
          obtain ⟨p7, c7, hv7, _⟩ := HI.out.arg
          rw [rowTo_len] at hv7
          subst hv7
          have HR2 := Lib.hid ((HO0.out.keep hB2.out).keep ((Below.refl wr.heap.size wr).alloc (Nat.le_refl _) (.cells #[.slice p7 j c7] 39)))
          have HI2 := Lib.hid ((HI.out.down HB0.out.size).keep ((Below.refl wr.heap.size wr).alloc (Nat.le_refl _) (.cells #[.slice p7 j c7] 39)))
          have HB3 := Lib.hid (Below.two HB0.out hB2.out)
          have HLen := Lib.hid (rowsTo_len j k (fun i j => (MatP.min2 A B i j : Int)))
          have HM : Hid (rowsTo j (k + 1) (fun i j => (MatP.min2 A B i j : Int)) = rowsTo j k (fun i j => (MatP.min2 A B i j : Int)) ++ [rowTo j (fun j => (MatP.min2 A B k j : Int))]) := Lib.hid (rowsTo_more j k _)
          go_wp2_with (at_builtin; refine wpl_append_oneR rfl _ _ rfl w.heap.size _ _ (.slice p7 j c7) _ wr.heap.size 1 rfl rfl HR2.out HI2.out (by simp) (by rw [HLen.out]; omega) (Nat.le_trans HB3.out.size (by simp)) ?_; intro v' w3 hO3 hg3)
          go_roundw
          case rel => exact ⟨k + 1, by go_num, by omega, Lib.hid ((HB3.out.alloc HB3.out.size _).grown hg3 (Nat.le_trans HB3.out.size (by simp)) HO0.out.past), Lib.hid (by rw [HM.out]; exact hO3)⟩
          case measure => simp [RowKit.intOf]; omega
    · have e : k = m := by omega
      subst e
      go_wp2_with fail
      go_ret
      exact ⟨_, rfl, HO.out, hB.out⟩
/-- waywardenref1.LeastOf. -/
theorem leastOf_any (w : World) (v v' : Value) (n : Nat) (A B : MatP.T) (h1 : 1 ≤ n) (h8 : n ≤ 8) (h : ArgR w v (rowsN n A)) (h' : ArgR w v' (rowsN n B)) :
    Calls Tryd.prog 19 #[v, v'] w fun e w' => ∃ u, e = .returned u ∧ OwnR w' w.heap.size u (rowsN n (MatP.min2 A B)) ∧ Below w.heap.size w w' := by
  obtain ⟨ba, oa, ca, rfl, hba, hs⟩ := tab_arg h h1
  obtain ⟨bb, ob, cb, rfl, hbb, hs'⟩ := tab_arg h' h1
  exact leastOf_some w ba oa ca bb ob cb n A B h8 hba hbb hs hs'
end Go.Proofs.YtobfidlfgdlilaaDoor
