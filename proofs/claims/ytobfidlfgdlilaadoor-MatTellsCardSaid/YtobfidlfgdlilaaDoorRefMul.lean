/-
  The document's MulOf at every two tables of as many rows; what lay in memory stays.
-/
import Derived.Test.YtobfidlfgdlilaaDoorRowsOwn
import Derived.Test.YtobfidlfgdlilaaDoorRowsTo
import Derived.Test.YtobfidlfgdlilaaDoorMatMul
import Derived.Test.YtobfidlfgdlilaaDoorRefPlus
namespace Go.Proofs.YtobfidlfgdlilaaDoor
open Go.RowKit Go.Lib

set_option maxHeartbeats 2000000 in
set_option maxRecDepth 100000 in
theorem mulOf_some (w : World) (ba oa ca bb ob cb m : Nat) (A B : MatP.T) (hm : m ≤ 8) (hA : MatP.Bd A) (hBd : MatP.Bd B) (hba : ba < w.heap.size) (hbb : bb < w.heap.size) (hs : SeenR w ba oa (rowsN m A)) (hs' : SeenR w bb ob (rowsN m B)) :
    Calls Tryd.prog 11 #[.slice (some ⟨ba, oa, none⟩) m ca, .slice (some ⟨bb, ob, none⟩) m cb] w fun e w' => ∃ u, e = .returned u ∧ OwnR w' w.heap.size u (rowsN m (MatP.mul m A B)) ∧ Below w.heap.size w w' := by
  have HS := Lib.hid hs; have HS' := Lib.hid hs'
  have HAb := Lib.hid hA; have HBb := Lib.hid hBd
  clear hs hs' hA hBd
  go_enter Tryd.func11, Tryd.ntmps11
  go_wp2_with fail
  go_loopw [5, 6] (fun u x wr => ∃ (i : Nat), x = .int .i64 i ∧ i ≤ m ∧ Hid (Below w.heap.size w wr) ∧ Hid (OwnR wr w.heap.size u (rowsTo m i (fun i k => (MatP.mul m A B i k : Int))))) (fun _ x _ => m - (RowKit.intOf x).toNat)
  case atStart => exact ⟨0, rfl, Nat.zero_le _, Lib.hid (Below.refl _ _), Lib.hid (OwnR.nil _ _)⟩
  case round =>
    obtain ⟨i, rfl, hi, hB, HO⟩ := hrel
    by_cases hin : i < m
    · obtain ⟨w0, HW0⟩ : ∃ w0, Hid (w0 = wr) := ⟨wr, Lib.hid rfl⟩
      have HB0 : Hid (Below w.heap.size w w0) := Lib.hid (by rw [HW0.out]; exact hB.out)
      have HO0 := Lib.hid (show OwnR w0 w.heap.size _ _ by rw [HW0.out]; exact HO.out)
      have HS0 : Hid (Below w0.heap.size w0 wr) := Lib.hid (by rw [HW0.out]; exact Below.refl _ _)
      clear HW0 hB HO
      go_wp2_with fail
      go_loopw [7, 8] (fun r x wq => ∃ (k : Nat), x = .int .i64 k ∧ k ≤ m ∧ Hid (Below w0.heap.size w0 wq) ∧ Hid (OwnI wq w0.heap.size r (rowTo k (fun k => (MatP.mul m A B i k : Int))))) (fun _ x _ => m - (RowKit.intOf x).toNat)
      case atStart => exact ⟨0, rfl, Nat.zero_le _, HS0, Lib.hid (OwnI.nil _ _)⟩
      case round =>
        clear HS0
        obtain ⟨k, rfl, hk, hB2, HI⟩ := hrel
        by_cases hkm : k < m
        · obtain ⟨w1, HW1⟩ : ∃ w1, Hid (w1 = wr) := ⟨wr, Lib.hid rfl⟩
          have HB1 : Hid (Below w.heap.size w w1) := Lib.hid (by rw [HW1.out]; exact Below.two HB0.out hB2.out)
          have HB01 : Hid (Below w0.heap.size w0 w1) := Lib.hid (by rw [HW1.out]; exact hB2.out)
          have HI1 := Lib.hid (show OwnI w1 w0.heap.size _ _ by rw [HW1.out]; exact HI.out)
          have HS1 : Hid (Below w1.heap.size w1 wr) := Lib.hid (by rw [HW1.out]; exact Below.refl _ _)
          clear HW1 hB2 HI
          go_wp2_with fail
          go_loopw [9, 10] (fun d x wq => ∃ (j : Nat), x = .int .i64 j ∧ j ≤ m ∧ d = .int .i64 (MatP.mulTo A B i k j : Int) ∧ Hid (Below w1.heap.size w1 wq)) (fun _ x _ => m - (RowKit.intOf x).toNat)
          case atStart => exact ⟨0, rfl, Nat.zero_le _, rfl, HS1⟩
          case round =>
            clear HS1
            obtain ⟨j, rfl, hj, rfl, hB3⟩ := hrel
            by_cases hjm : j < m
            · obtain ⟨b1, o1, c1, a1, l1, x1⟩ := tab_row HS.out i hin
              obtain ⟨b2, o2, c2, a2, l2, x2⟩ := tab_row HS'.out j hjm
              replace x1 := x1 j hjm
              replace x2 := x2 k hkm
              have HM : Hid (min (MatP.mulTo A B i k j : Int) (DistP.add (A i j) (B j k) : Int) = (MatP.mulTo A B i k (j + 1) : Int)) := Lib.hid (by rw [DistP.least_min]; rfl)
              have HPl := Lib.hid (refPlus_any (A i j) (B j k) (HAb.out i j) (HBb.out j k))
              generalize MatP.mulTo A B i k j = z at HM ⊢
              generalize DistP.add (A i j) (B j k) = s at HM HPl
              generalize A i j = x at x1 HPl
              generalize B j k = y at x2 HPl
              have HSS : Hid (∀ w', Below w.heap.size w w' → w'.cell? ⟨ba, oa + i, none⟩ = some (.slice (some ⟨b1, o1, none⟩) m c1) ∧ w'.cell? ⟨b1, o1 + j, none⟩ = some (.int .i64 (x : Int)) ∧ w'.cell? ⟨bb, ob + j, none⟩ = some (.slice (some ⟨b2, o2, none⟩) m c2) ∧ w'.cell? ⟨b2, o2 + k, none⟩ = some (.int .i64 (y : Int))) :=
                Lib.hid fun w' hb => ⟨(hb.cell (p := ⟨ba, oa + i, none⟩) hba).trans a1, (hb.cell (p := ⟨b1, o1 + j, none⟩) l1).trans x1, (hb.cell (p := ⟨bb, ob + j, none⟩) hbb).trans a2, (hb.cell (p := ⟨b2, o2 + k, none⟩) l2).trans x2⟩
              clear a1 l1 x1 a2 l2 x2
              go_wp2_with fail
            --REG
              refine wp_region_held_drew (S := (fun w' => w'.cell? ⟨ba, oa + i, none⟩ = some (.slice (some ⟨b1, o1, none⟩) m c1) ∧ w'.cell? ⟨b1, o1 + j, none⟩ = some (.int .i64 (x : Int)) ∧ w'.cell? ⟨bb, ob + j, none⟩ = some (.slice (some ⟨b2, o2, none⟩) m c2) ∧ w'.cell? ⟨b2, o2 + k, none⟩ = some (.int .i64 (y : Int)))) (by kernel_rfl) (HSS.out _ (Below.two HB1.out hB3.out.drew)) (fun hHeld => ?_)
              refine wpAnyH_take (i := 0) (oi := { dst := some 29, op := Op.move (Operand.tmp 9), type := 3, pos := "nets.go:422", after := #[], guard := none }) (v := ?_) rfl (by kernel_rfl) (by kernel_rfl) (by kernel_rfl) (fun _ _ _ h => h) (Or.inl ⟨by rfl, ?_⟩) hHeld ?_
              rotate_left
              · (intro w hSw; (try dsimp only at hSw); go_simp; first | done | with_reducible rfl)
              simp only [Act.put, List.setIfInBounds_toArray, List.set_cons_zero, List.set_cons_succ]
              refine wpAnyH_take (i := 1) (oi := { dst := some 30, op := Op.move (Operand.tmp 0), type := 22, pos := "nets.go:422", after := #[], guard := none }) (v := ?_) rfl (by kernel_rfl) (by kernel_rfl) (by kernel_rfl) (fun _ _ _ h => h) (Or.inl ⟨by rfl, ?_⟩) hHeld ?_
              rotate_left
              · (intro w hSw; (try dsimp only at hSw); go_simp; first | done | with_reducible rfl)
              simp only [Act.put, List.setIfInBounds_toArray, List.set_cons_zero, List.set_cons_succ]
              refine wpAnyH_take (i := 2) (oi := { dst := some 31, op := Op.move (Operand.tmp 6), type := 3, pos := "nets.go:422", after := #[], guard := none }) (v := ?_) rfl (by kernel_rfl) (by kernel_rfl) (by kernel_rfl) (fun _ _ _ h => h) (Or.inl ⟨by rfl, ?_⟩) hHeld ?_
              rotate_left
              · (intro w hSw; (try dsimp only at hSw); go_simp; first | done | with_reducible rfl)
              simp only [Act.put, List.setIfInBounds_toArray, List.set_cons_zero, List.set_cons_succ]
              refine wpAnyH_take (i := 3) (oi := { dst := some 32, op := Op.indexAddr 22 (Operand.tmp 30) (Operand.tmp 31), type := 0, pos := "nets.go:422", after := #[{ on := 1, ground := Ground.data }, { on := 2, ground := Ground.data }], guard := none }) (v := ?_) rfl (by kernel_rfl) (by kernel_rfl) (by kernel_rfl) (fun _ _ _ h => h) (Or.inl ⟨by rfl, ?_⟩) hHeld ?_
              rotate_left
              · (intro w hSw; (try dsimp only at hSw); go_simp; first | done | with_reducible rfl)
              simp only [Act.put, List.setIfInBounds_toArray, List.set_cons_zero, List.set_cons_succ]
              refine wpAnyH_take (i := 4) (oi := { dst := some 33, op := Op.load 39 (Operand.tmp 32), type := 39, pos := "nets.go:422", after := #[{ on := 3, ground := Ground.data }], guard := none }) (v := ?_) rfl (by kernel_rfl) (by kernel_rfl) (by kernel_rfl) (fun _ _ _ h => h) (Or.inl ⟨by rfl, ?_⟩) hHeld ?_
              rotate_left
              · (intro w hSw; (try dsimp only at hSw); go_simp; first | done | with_reducible rfl)
              simp only [Act.put, List.setIfInBounds_toArray, List.set_cons_zero, List.set_cons_succ]
              refine wpAnyH_take (i := 5) (oi := { dst := some 34, op := Op.move (Operand.tmp 10), type := 3, pos := "nets.go:422", after := #[], guard := none }) (v := ?_) rfl (by kernel_rfl) (by kernel_rfl) (by kernel_rfl) (fun _ _ _ h => h) (Or.inl ⟨by rfl, ?_⟩) hHeld ?_
              rotate_left
              · (intro w hSw; (try dsimp only at hSw); go_simp; first | done | with_reducible rfl)
              simp only [Act.put, List.setIfInBounds_toArray, List.set_cons_zero, List.set_cons_succ]
              refine wpAnyH_take (i := 6) (oi := { dst := some 35, op := Op.indexAddr 39 (Operand.tmp 33) (Operand.tmp 34), type := 0, pos := "nets.go:422", after := #[{ on := 4, ground := Ground.data }, { on := 5, ground := Ground.data }], guard := none }) (v := ?_) rfl (by kernel_rfl) (by kernel_rfl) (by kernel_rfl) (fun _ _ _ h => h) (Or.inl ⟨by rfl, ?_⟩) hHeld ?_
              rotate_left
              · (intro w hSw; (try dsimp only at hSw); go_simp; first | done | with_reducible rfl)
              simp only [Act.put, List.setIfInBounds_toArray, List.set_cons_zero, List.set_cons_succ]
              refine wpAnyH_take (i := 7) (oi := { dst := some 36, op := Op.load 3 (Operand.tmp 35), type := 3, pos := "nets.go:422", after := #[{ on := 6, ground := Ground.data }], guard := none }) (v := ?_) rfl (by kernel_rfl) (by kernel_rfl) (by kernel_rfl) (fun _ _ _ h => h) (Or.inl ⟨by rfl, ?_⟩) hHeld ?_
              rotate_left
              · (intro w hSw; (try dsimp only at hSw); go_simp; first | done | with_reducible rfl)
              simp only [Act.put, List.setIfInBounds_toArray, List.set_cons_zero, List.set_cons_succ]
              refine wpAnyH_take (i := 8) (oi := { dst := some 37, op := Op.move (Operand.tmp 1), type := 22, pos := "nets.go:422", after := #[], guard := none }) (v := ?_) rfl (by kernel_rfl) (by kernel_rfl) (by kernel_rfl) (fun _ _ _ h => h) (Or.inl ⟨by rfl, ?_⟩) hHeld ?_
              rotate_left
              · (intro w hSw; (try dsimp only at hSw); go_simp; first | done | with_reducible rfl)
              simp only [Act.put, List.setIfInBounds_toArray, List.set_cons_zero, List.set_cons_succ]
              refine wpAnyH_take (i := 9) (oi := { dst := some 38, op := Op.move (Operand.tmp 10), type := 3, pos := "nets.go:422", after := #[], guard := none }) (v := ?_) rfl (by kernel_rfl) (by kernel_rfl) (by kernel_rfl) (fun _ _ _ h => h) (Or.inl ⟨by rfl, ?_⟩) hHeld ?_
              rotate_left
              · (intro w hSw; (try dsimp only at hSw); go_simp; first | done | with_reducible rfl)
              simp only [Act.put, List.setIfInBounds_toArray, List.set_cons_zero, List.set_cons_succ]
              refine wpAnyH_take (i := 10) (oi := { dst := some 39, op := Op.indexAddr 22 (Operand.tmp 37) (Operand.tmp 38), type := 0, pos := "nets.go:422", after := #[{ on := 8, ground := Ground.data }, { on := 9, ground := Ground.data }], guard := none }) (v := ?_) rfl (by kernel_rfl) (by kernel_rfl) (by kernel_rfl) (fun _ _ _ h => h) (Or.inl ⟨by rfl, ?_⟩) hHeld ?_
              rotate_left
              · (intro w hSw; (try dsimp only at hSw); go_simp; first | done | with_reducible rfl)
              simp only [Act.put, List.setIfInBounds_toArray, List.set_cons_zero, List.set_cons_succ]
              refine wpAnyH_take (i := 11) (oi := { dst := some 40, op := Op.load 39 (Operand.tmp 39), type := 39, pos := "nets.go:422", after := #[{ on := 10, ground := Ground.data }], guard := none }) (v := ?_) rfl (by kernel_rfl) (by kernel_rfl) (by kernel_rfl) (fun _ _ _ h => h) (Or.inl ⟨by rfl, ?_⟩) hHeld ?_
              rotate_left
              · (intro w hSw; (try dsimp only at hSw); go_simp; first | done | with_reducible rfl)
              simp only [Act.put, List.setIfInBounds_toArray, List.set_cons_zero, List.set_cons_succ]
              refine wpAnyH_take (i := 12) (oi := { dst := some 41, op := Op.move (Operand.tmp 8), type := 3, pos := "nets.go:422", after := #[], guard := none }) (v := ?_) rfl (by kernel_rfl) (by kernel_rfl) (by kernel_rfl) (fun _ _ _ h => h) (Or.inl ⟨by rfl, ?_⟩) hHeld ?_
              rotate_left
              · (intro w hSw; (try dsimp only at hSw); go_simp; first | done | with_reducible rfl)
              simp only [Act.put, List.setIfInBounds_toArray, List.set_cons_zero, List.set_cons_succ]
              refine wpAnyH_take (i := 13) (oi := { dst := some 42, op := Op.indexAddr 39 (Operand.tmp 40) (Operand.tmp 41), type := 0, pos := "nets.go:422", after := #[{ on := 11, ground := Ground.data }, { on := 12, ground := Ground.data }], guard := none }) (v := ?_) rfl (by kernel_rfl) (by kernel_rfl) (by kernel_rfl) (fun _ _ _ h => h) (Or.inl ⟨by rfl, ?_⟩) hHeld ?_
              rotate_left
              · (intro w hSw; (try dsimp only at hSw); go_simp; first | done | with_reducible rfl)
              simp only [Act.put, List.setIfInBounds_toArray, List.set_cons_zero, List.set_cons_succ]
              refine wpAnyH_take (i := 14) (oi := { dst := some 43, op := Op.load 3 (Operand.tmp 42), type := 3, pos := "nets.go:422", after := #[{ on := 13, ground := Ground.data }], guard := none }) (v := ?_) rfl (by kernel_rfl) (by kernel_rfl) (by kernel_rfl) (fun _ _ _ h => h) (Or.inl ⟨by rfl, ?_⟩) hHeld ?_
              rotate_left
              · (intro w hSw; (try dsimp only at hSw); go_simp; first | done | with_reducible rfl)
              simp only [Act.put, List.setIfInBounds_toArray, List.set_cons_zero, List.set_cons_succ]
              refine wpAnyH_ready (rs := [15]) (by kernel_rfl) (by simp) ?_
              refine (AllReadyH.cons (o := { dst := some 44, op := Op.call { callee := Callee.value (Operand.func 23), args := #[Operand.tmp 36, Operand.tmp 43], argTypes := #[3, 3] }, type := 3, pos := "nets.go:422", after := #[{ on := 7, ground := Ground.data }, { on := 14, ground := Ground.data }], guard := none }) rfl (fun K hK => ?_) AllReadyH.nil)
              go_simp
              go_at_call 23
              refine (HPl.out _).mono ?_
              rintro e w3 ⟨rfl, rfl⟩
              have KK15 := hHeld
              clear hHeld
              go_wp2_with fail
              refine hK.out _ _ KK15 (fun hHeld => ?_)
              clear hK K
              refine wpAnyH_take (i := 16) (oi := { dst := some 45, op := Op.call { callee := Callee.builtin Builtin.min, args := #[Operand.tmp 29, Operand.tmp 44], argTypes := #[3, 3] }, type := 3, pos := "nets.go:422", after := #[{ on := 0, ground := Ground.data }, { on := 15, ground := Ground.data }], guard := none }) (v := ?_) rfl (by kernel_rfl) (by kernel_rfl) (by kernel_rfl) (fun _ _ _ h => h) (Or.inl ⟨by rfl, ?_⟩) hHeld ?_
              rotate_left
              · (intro w hSw; (try dsimp only at hSw); go_simp; first | done | with_reducible rfl)
              simp only [Act.put, List.setIfInBounds_toArray, List.set_cons_zero, List.set_cons_succ]
              refine wpAnyH_take (i := 17) (oi := { dst := some 9, op := Op.assign (Operand.tmp 45), type := 3, pos := "nets.go:422", after := #[{ on := 16, ground := Ground.data }, { on := 15, ground := Ground.chain }, { on := 0, ground := Ground.phase }, { on := 1, ground := Ground.phase }, { on := 2, ground := Ground.phase }, { on := 3, ground := Ground.phase }, { on := 4, ground := Ground.phase }, { on := 5, ground := Ground.phase }, { on := 6, ground := Ground.phase }, { on := 7, ground := Ground.phase }, { on := 8, ground := Ground.phase }, { on := 9, ground := Ground.phase }, { on := 10, ground := Ground.phase }, { on := 11, ground := Ground.phase }, { on := 12, ground := Ground.phase }, { on := 13, ground := Ground.phase }, { on := 14, ground := Ground.phase }, { on := 15, ground := Ground.phase }, { on := 16, ground := Ground.phase }], guard := none }) (v := ?_) rfl (by kernel_rfl) (by kernel_rfl) (by kernel_rfl) (fun _ _ _ h => h) (Or.inl ⟨by rfl, ?_⟩) hHeld ?_
              rotate_left
              · (intro w hSw; (try dsimp only at hSw); go_simp; first | done | with_reducible rfl)
              simp only [Act.put, List.setIfInBounds_toArray, List.set_cons_zero, List.set_cons_succ]
              refine wpAnyH_done (by kernel_rfl) ?_ _
              clear hHeld
            --END
              go_wp2_with fail
              go_roundw
              case rel => exact ⟨j + 1, by go_num, by omega, by rw [HM.out], Lib.hid hB3.out.drew⟩
              case measure => simp [RowKit.intOf]; omega
            · have e : j = m := by omega
              subst e
              have hlen := rowTo_len k (fun k => (MatP.mul j A B i k : Int))
              have HLen := Lib.hid hlen; clear hlen
              have HM : Hid (rowTo (k + 1) (fun k => (MatP.mul j A B i k : Int)) = rowTo k (fun k => (MatP.mul j A B i k : Int)) ++ [(MatP.mulTo A B i k j : Int)]) := Lib.hid (rowTo_more k _)
              generalize (MatP.mulTo A B i k j : Int) = z at HM ⊢
              have HK2 := Lib.hid ((HI1.out.keep hB3.out).keep ((Below.refl wr.heap.size wr).alloc (Nat.le_refl _) (.cells #[.int .i64 z] 3)))
              have HB3 := Lib.hid (Below.two HB01.out hB3.out)
              go_wp2_with (at_builtin; refine wpl_append_oneI rfl _ _ rfl w0.heap.size _ (rowTo k (fun k => (MatP.mul j A B i k : Int))) z wr.heap.size 1 rfl rfl HK2.out (by simp) (by rw [HLen.out]; omega) (Nat.le_trans HB3.out.size (by simp)) ?_; intro v' w3 hO3 hg3 _)
              go_roundw
              case rel => exact ⟨k + 1, by go_num, by omega, Lib.hid ((HB3.out.alloc HB3.out.size _).grown hg3 (Nat.le_trans HB3.out.size (by simp)) HI1.out.past), Lib.hid (by rw [HM.out]; exact hO3)⟩
              case measure => simp [RowKit.intOf]; omega
        · have e : k = m := by omega
          subst e
          obtain ⟨p7, c7, hv7, _⟩ := HI.out.arg
          rw [rowTo_len] at hv7
          subst hv7
          have HR2 := Lib.hid ((HO0.out.keep hB2.out).keep ((Below.refl wr.heap.size wr).alloc (Nat.le_refl _) (.cells #[.slice p7 k c7] 39)))
          have HI2 := Lib.hid ((HI.out.down HB0.out.size).keep ((Below.refl wr.heap.size wr).alloc (Nat.le_refl _) (.cells #[.slice p7 k c7] 39)))
          have HB3 := Lib.hid (Below.two HB0.out hB2.out)
          have HLen := Lib.hid (rowsTo_len k i (fun i j => (MatP.mul k A B i j : Int)))
          have HM : Hid (rowsTo k (i + 1) (fun i j => (MatP.mul k A B i j : Int)) = rowsTo k i (fun i j => (MatP.mul k A B i j : Int)) ++ [rowTo k (fun j => (MatP.mul k A B i j : Int))]) := Lib.hid (rowsTo_more k i _)
          go_wp2_with (at_builtin; refine wpl_append_oneR rfl _ _ rfl w.heap.size _ _ (.slice p7 k c7) _ wr.heap.size 1 rfl rfl HR2.out HI2.out (by simp) (by rw [HLen.out]; omega) (Nat.le_trans HB3.out.size (by simp)) ?_; intro v' w3 hO3 hg3)
          go_roundw
          case rel => exact ⟨i + 1, by go_num, by omega, Lib.hid ((HB3.out.alloc HB3.out.size _).grown hg3 (Nat.le_trans HB3.out.size (by simp)) HO0.out.past), Lib.hid (by rw [HM.out]; exact hO3)⟩
          case measure => simp [RowKit.intOf]; omega
    · have e : i = m := by omega
      subst e
      go_wp2_with fail
      go_ret
      exact ⟨_, rfl, HO.out, hB.out⟩
/-- waywardenref1.MulOf. -/
theorem mulOf_any (w : World) (v v' : Value) (n : Nat) (A B : MatP.T) (h1 : 1 ≤ n) (h8 : n ≤ 8) (hA : MatP.Bd A) (hB : MatP.Bd B) (h : ArgR w v (rowsN n A)) (h' : ArgR w v' (rowsN n B)) :
    Calls Tryd.prog 11 #[v, v'] w fun e w' => ∃ u, e = .returned u ∧ OwnR w' w.heap.size u (rowsN n (MatP.mul n A B)) ∧ Below w.heap.size w w' := by
  obtain ⟨ba, oa, ca, rfl, hba, hs⟩ := tab_arg h h1
  obtain ⟨bb, ob, cb, rfl, hbb, hs'⟩ := tab_arg h' h1
  exact mulOf_some w ba oa ca bb ob cb n A B h8 hA hB hba hbb hs hs'
end Go.Proofs.YtobfidlfgdlilaaDoor
