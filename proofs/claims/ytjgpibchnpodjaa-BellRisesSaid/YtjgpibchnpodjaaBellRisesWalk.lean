/-
  The law BellRises at every number of nodes, every links, node and two lists: it tells true; what lay in memory stays.
-/
import Derived.Test.YtjgpibchnpodjaaBellRounded
import Derived.Test.YtjgpibchnpodjaaDrewN
import Derived.Deep.RegionHeld3
import Derived.Deep.QuietTactic
import Derived.BigQuiet
import Derived.Lib.SliceRun
namespace Go.Proofs.Ytjgpibchnpodjaa
open Go.RowKit Go.Lib

/-- Thoughts that are no less. -/
def more (D : Nat → Nat) (M : List Int) (i : Nat) : Nat := min 16 (D i + (M[i]!).toNat)
theorem more_bd (D : Nat → Nat) (M : List Int) (i : Nat) : more D M i ≤ 16 := Nat.min_le_left _ _
theorem more_le {D : Nat → Nat} (h : ∀ i, D i ≤ 16) (M : List Int) (i : Nat) : D i ≤ more D M i := by
  have := h i
  unfold more; omega

set_option maxHeartbeats 4000000 in
set_option maxRecDepth 100000 in
theorem rises_1 (w : World) (n to : Int) (v u u' : Value) (l : List Lk) (d M : List Int) (hn : l.length < 4611686018427387904) (hd : d.length < 4611686018427387904) (h : ArgK w v l) (hu : ArgI w u d) (hu' : ArgI w u' M) (hg : roundBad n l to d ≠ 0) :
    Calls Try.prog 4 #[.int .i64 n, v, .int .i64 to, u, u'] w fun e w' => e = .returned (.bool true) ∧ Below w.heap.size w w' := by
  have HL := Lib.hid (h)
  have HU := Lib.hid (hu)
  have HR := Lib.hid (fun w1 (h1 : ArgK w1 v l) (h2 : ArgI w1 u d) => round_bad w1 n to v u l d hn hd h1 h2 hg)
  rw [errV_ne hg] at HR
  obtain ⟨pu, cu, rfl, _⟩ := id hu
  obtain ⟨pm, cm, rfl, _⟩ := id hu'
  clear h hu hu'
  generalize roundBad n l to d = q at HR hg
  have HZZ : Hid (Below w.heap.size w w) := Lib.hid (Below.refl _ _)
  go_enter Try.func4, Try.ntmps4
  go_wp2_with fail
  refine (rounded_any w).mono ?_
  rintro e w1 ⟨rfl, hb1⟩
  have HL' := Lib.hid (HL.out.below hb1)
  have HU' := Lib.hid (HU.out.below hb1)
  have HZZ' := Lib.hid (Below.two HZZ.out hb1)
  clear hb1 HZZ HL HU
  have HZZ := HZZ'
  clear HZZ'
  have HL := HL'
  clear HL'
  have HU := HU'
  clear HU'
  go_wp2_with fail
  refine (HR.out _ HL.out HU.out).mono ?_
  rintro e w2 ⟨rfl, hb2⟩
  have HL' := Lib.hid (HL.out.below hb2)
  have HU' := Lib.hid (HU.out.below hb2)
  have HZZ' := Lib.hid (Below.two HZZ.out hb2)
  clear hb2 HZZ HL HU
  have HZZ := HZZ'
  clear HZZ'
  have HL := HL'
  clear HL'
  have HU := HU'
  clear HU'
  go_wp2_with fail
  go_ret
  exact ⟨rfl, HZZ.out⟩
set_option maxHeartbeats 4000000 in
set_option maxRecDepth 100000 in
theorem rises_2 (w : World) (m t : Nat) (v u u' : Value) (l : List Lk) (D : Nat → Nat) (M : List Int) (hn : l.length < 4611686018427387904) (h : ArgK w v l) (hu : ArgI w u (BellP.vec m D)) (hu' : ArgI w u' M) (hg : gBad m l = 0) (ht : t < m) (hD : ∀ j, D j ≤ 16) (hl : M.length ≠ m) :
    Calls Try.prog 4 #[.int .i64 m, v, .int .i64 t, u, u'] w fun e w' => e = .returned (.bool true) ∧ Below w.heap.size w w' := by
  have HL := Lib.hid (h)
  have HU := Lib.hid (hu)
  have HD := Lib.hid hD
  obtain ⟨pu, cu, rfl, _⟩ := id hu
  obtain ⟨pm, cm, rfl, _⟩ := id hu'
  rw [BellP.vec_len] at HU ⊢
  have tl : ((M.length : Int) != (m : Int)) = true := by
    have : ¬ (M.length : Int) = m := by omega
    simpa using this
  clear h hu hu' hD hl
  have HZZ : Hid (Below w.heap.size w w) := Lib.hid (Below.refl _ _)
  go_enter Try.func4, Try.ntmps4
  go_wp2_with fail
  refine (rounded_any w).mono ?_
  rintro e w1 ⟨rfl, hb1⟩
  have HL' := Lib.hid (HL.out.below hb1)
  have HU' := Lib.hid (HU.out.below hb1)
  have HZZ' := Lib.hid (Below.two HZZ.out hb1)
  clear hb1 HZZ HL HU
  have HZZ := HZZ'
  clear HZZ'
  have HL := HL'
  clear HL'
  have HU := HU'
  clear HU'
  go_wp2_with fail
  refine (round_ok w1 m t v _ l D hn HL.out HU.out hg ht HD.out).mono ?_
  rintro e w2 ⟨qa, _, rfl, hV, hb2⟩
  have HL' := Lib.hid (HL.out.below hb2)
  have HU' := Lib.hid (HU.out.below hb2)
  have HZZ' := Lib.hid (Below.two HZZ.out hb2)
  clear hb2 HZZ HL HU
  have HZZ := HZZ'
  clear HZZ'
  have HL := HL'
  clear HL'
  have HU := HU'
  clear HU'
  clear hV
  go_wp2_with fail
  go_ret
  exact ⟨rfl, HZZ.out⟩
set_option maxHeartbeats 4000000 in
set_option maxRecDepth 100000 in
theorem rises_3 (w : World) (m t : Nat) (v u u' : Value) (l : List Lk) (D : Nat → Nat) (M : List Int) (hn : l.length < 4611686018427387904) (h : ArgK w v l) (hu : ArgI w u (BellP.vec m D)) (hu' : ArgI w u' M) (hg : gBad m l = 0) (ht : t < m) (hD : ∀ j, D j ≤ 16) (hl : M.length = m) :
    Calls Try.prog 4 #[.int .i64 m, v, .int .i64 t, u, u'] w fun e w' => e = .returned (.bool true) ∧ Below w.heap.size w w' := by
  have HL := Lib.hid (h)
  have HU := Lib.hid (hu)
  have hm := ((gBad_zero m l).1 hg).1
  have HD := Lib.hid hD
  obtain ⟨bu, ou, cu, rfl, hbu, hsu⟩ := vec_arg hu (by omega)
  obtain ⟨pm, cm, rfl, h0 | ⟨bm, om, rfl, hbm, hsm⟩⟩ := hu'
  · subst h0; simp at hl; omega
  have HSU := Lib.hid hsu; have HSM := Lib.hid hsm
  have HLM := Lib.hid hl
  have HBU := Lib.hid hbu; have HBM := Lib.hid hbm
  rw [hl]
  clear h hu hD hsu hsm hbu hbm hl
  have HZZ : Hid (Below w.heap.size w w) := Lib.hid (Below.refl _ _)
  go_enter Try.func4, Try.ntmps4
  go_wp2_with fail
  refine (rounded_any w).mono ?_
  rintro e w1 ⟨rfl, hb1⟩
  have HL' := Lib.hid (HL.out.below hb1)
  have HU' := Lib.hid (HU.out.below hb1)
  have HZZ' := Lib.hid (Below.two HZZ.out hb1)
  clear hb1 HZZ HL HU
  have HZZ := HZZ'
  clear HZZ'
  have HL := HL'
  clear HL'
  have HU := HU'
  clear HU'
  go_wp2_with fail
  refine (round_ok w1 m t v _ l D hn HL.out HU.out hg ht HD.out).mono ?_
  rintro e w2 ⟨qa, _, rfl, hV, hb2⟩
  have HL' := Lib.hid (HL.out.below hb2)
  have HU' := Lib.hid (HU.out.below hb2)
  have HZZ' := Lib.hid (Below.two HZZ.out hb2)
  have HV := Lib.hid (hV)
  clear hb2 HZZ HL HU
  have HZZ := HZZ'
  clear HZZ'
  have HL := HL'
  clear HL'
  have HU := HU'
  clear HU'
  clear hV
  clear HU
  go_wp2_with fail
  go_loopw [14, 15] (fun x y wr => ∃ (k : Nat), y = .int .i64 k ∧ k ≤ m ∧ Hid (Below w2.heap.size w2 wr) ∧ Hid (OwnI wr w2.heap.size x (BellP.vec k (more D M)))) (fun _ y _ => m - (RowKit.intOf y).toNat)
  case atStart => exact ⟨0, rfl, Nat.zero_le _, Lib.hid (Below.refl _ _), Lib.hid (OwnI.nil _ _)⟩
  case round =>
    obtain ⟨k, rfl, hk, HB, HO⟩ := hrel
    by_cases hkm : k < m
    · have hBw := Below.two HZZ.out HB.out
      have a0 := (hBw.cell (p := ⟨bu, ou + k, none⟩) HBU.out).trans (HSU.out k hkm)
      have a1 := (hBw.cell (p := ⟨bm, om + k, none⟩) HBM.out).trans (HSM.out k (by rw [HLM.out]; exact hkm))
      have HSS := Lib.hid (fun (w4 : World) (hb4 : Below w2.heap.size w2 w4) => And.intro (((Below.two HZZ.out hb4).cell (p := ⟨bu, ou + k, none⟩) HBU.out).trans (HSU.out k hkm)) (((Below.two HZZ.out hb4).cell (p := ⟨bm, om + k, none⟩) HBM.out).trans (HSM.out k (by rw [HLM.out]; exact hkm))))
      have HMo := Lib.hid (show more D M k = min 16 (D k + (M[k]!).toNat) from rfl)
      have HLen := Lib.hid (BellP.vec_len k (more D M))
      have HVM := Lib.hid (BellP.vec_more k (more D M))
      have hy := HD.out k
      clear hBw
      generalize M[k]! = x at a1 HSS HMo
      generalize D k = y at a0 HSS HMo hy
      by_cases hx0 : x < 0
      · clear HSS HMo HLen HVM
        go_wp2_with fail
        go_ret
        exact ⟨rfl, Below.two HZZ.out HB.out⟩
      by_cases hx1 : 16 < x
      · clear HSS HMo HLen HVM
        go_wp2_with fail
        go_ret
        exact ⟨rfl, Below.two HZZ.out HB.out⟩
      obtain ⟨z, rfl⟩ : ∃ z : Nat, x = z := ⟨x.toNat, by omega⟩
      have HMo2 : Hid ((more D M k : Int) = min 16 ((y : Int) + (z : Int))) := Lib.hid (by have := HMo.out; omega)
      have hz : z ≤ 16 := by omega
      have HA := Lib.hid (HO.out.keep (((Below.refl wr.heap.size wr).drew).alloc (Nat.le_refl _) (.cells #[.int .i64 (min 16 ((y : Int) + (z : Int)))] 3)))
      clear HMo hx0 hx1
      go_wp2_with fail
      have hz0 : 0 ≤ (z : Int) := by omega
      have hwy : IntKind.i64.wrap ((y : Int) + (z : Int)) = (y : Int) + (z : Int) := by rw [IntKind.wrap_i64]; omega
      refine wp_region_held_drew (S := (fun w' => w'.cell? ⟨bu, ou + k, none⟩ = some (.int .i64 (y : Int)) ∧ w'.cell? ⟨bm, om + k, none⟩ = some (.int .i64 (z : Int)))) (by kernel_rfl) ⟨a0, a1⟩ (fun hHeld => ?_)
      refine wpAnyH_take (i := 0) (oi := { dst := some 62, op := Op.move (Operand.tmp 14), type := 23, pos := "ways.go:336", after := #[], guard := none }) (v := ?_) rfl (by kernel_rfl) (by kernel_rfl) (by kernel_rfl) (fun _ _ _ h => h) (Or.inl ⟨by rfl, ?_⟩) hHeld ?_
      rotate_left
      · (intro w hSw; (try dsimp only at hSw); go_simp; first | done | with_reducible rfl)
      simp only [Act.put, List.setIfInBounds_toArray, List.set_cons_zero, List.set_cons_succ]
      refine wpAnyH_take (i := 1) (oi := { dst := some 63, op := Op.move (Operand.tmp 3), type := 23, pos := "ways.go:336", after := #[], guard := none }) (v := ?_) rfl (by kernel_rfl) (by kernel_rfl) (by kernel_rfl) (fun _ _ _ h => h) (Or.inl ⟨by rfl, ?_⟩) hHeld ?_
      rotate_left
      · (intro w hSw; (try dsimp only at hSw); go_simp; first | done | with_reducible rfl)
      simp only [Act.put, List.setIfInBounds_toArray, List.set_cons_zero, List.set_cons_succ]
      refine wpAnyH_take (i := 2) (oi := { dst := some 64, op := Op.move (Operand.tmp 15), type := 3, pos := "ways.go:336", after := #[], guard := none }) (v := ?_) rfl (by kernel_rfl) (by kernel_rfl) (by kernel_rfl) (fun _ _ _ h => h) (Or.inl ⟨by rfl, ?_⟩) hHeld ?_
      rotate_left
      · (intro w hSw; (try dsimp only at hSw); go_simp; first | done | with_reducible rfl)
      simp only [Act.put, List.setIfInBounds_toArray, List.set_cons_zero, List.set_cons_succ]
      refine wpAnyH_take (i := 3) (oi := { dst := some 65, op := Op.indexAddr 23 (Operand.tmp 63) (Operand.tmp 64), type := 0, pos := "ways.go:336", after := #[{ on := 1, ground := Ground.data }, { on := 2, ground := Ground.data }], guard := none }) (v := ?_) rfl (by kernel_rfl) (by kernel_rfl) (by kernel_rfl) (fun _ _ _ h => h) (Or.inl ⟨by rfl, ?_⟩) hHeld ?_
      rotate_left
      · (intro w hSw; (try dsimp only at hSw); go_simp; first | done | with_reducible rfl)
      simp only [Act.put, List.setIfInBounds_toArray, List.set_cons_zero, List.set_cons_succ]
      refine wpAnyH_take (i := 4) (oi := { dst := some 66, op := Op.load 3 (Operand.tmp 65), type := 3, pos := "ways.go:336", after := #[{ on := 3, ground := Ground.data }], guard := none }) (v := ?_) rfl (by kernel_rfl) (by kernel_rfl) (by kernel_rfl) (fun _ _ _ h => h) (Or.inl ⟨by rfl, ?_⟩) hHeld ?_
      rotate_left
      · (intro w hSw; (try dsimp only at hSw); go_simp; first | done | with_reducible rfl)
      simp only [Act.put, List.setIfInBounds_toArray, List.set_cons_zero, List.set_cons_succ]
      refine wpAnyH_take (i := 5) (oi := { dst := some 67, op := Op.move (Operand.tmp 4), type := 23, pos := "ways.go:336", after := #[], guard := none }) (v := ?_) rfl (by kernel_rfl) (by kernel_rfl) (by kernel_rfl) (fun _ _ _ h => h) (Or.inl ⟨by rfl, ?_⟩) hHeld ?_
      rotate_left
      · (intro w hSw; (try dsimp only at hSw); go_simp; first | done | with_reducible rfl)
      simp only [Act.put, List.setIfInBounds_toArray, List.set_cons_zero, List.set_cons_succ]
      refine wpAnyH_take (i := 6) (oi := { dst := some 68, op := Op.move (Operand.tmp 15), type := 3, pos := "ways.go:336", after := #[], guard := none }) (v := ?_) rfl (by kernel_rfl) (by kernel_rfl) (by kernel_rfl) (fun _ _ _ h => h) (Or.inl ⟨by rfl, ?_⟩) hHeld ?_
      rotate_left
      · (intro w hSw; (try dsimp only at hSw); go_simp; first | done | with_reducible rfl)
      simp only [Act.put, List.setIfInBounds_toArray, List.set_cons_zero, List.set_cons_succ]
      refine wpAnyH_take (i := 7) (oi := { dst := some 69, op := Op.indexAddr 23 (Operand.tmp 67) (Operand.tmp 68), type := 0, pos := "ways.go:336", after := #[{ on := 5, ground := Ground.data }, { on := 6, ground := Ground.data }], guard := none }) (v := ?_) rfl (by kernel_rfl) (by kernel_rfl) (by kernel_rfl) (fun _ _ _ h => h) (Or.inl ⟨by rfl, ?_⟩) hHeld ?_
      rotate_left
      · (intro w hSw; (try dsimp only at hSw); go_simp; first | done | with_reducible rfl)
      simp only [Act.put, List.setIfInBounds_toArray, List.set_cons_zero, List.set_cons_succ]
      refine wpAnyH_take (i := 8) (oi := { dst := some 70, op := Op.load 3 (Operand.tmp 69), type := 3, pos := "ways.go:336", after := #[{ on := 7, ground := Ground.data }], guard := none }) (v := ?_) rfl (by kernel_rfl) (by kernel_rfl) (by kernel_rfl) (fun _ _ _ h => h) (Or.inl ⟨by rfl, ?_⟩) hHeld ?_
      rotate_left
      · (intro w hSw; (try dsimp only at hSw); go_simp; first | done | with_reducible rfl)
      simp only [Act.put, List.setIfInBounds_toArray, List.set_cons_zero, List.set_cons_succ]
      refine wpAnyH_take (i := 9) (oi := { dst := some 71, op := Op.binOp BinOp.add 3 (Operand.tmp 66) (Operand.tmp 70) 3, type := 3, pos := "ways.go:336", after := #[{ on := 4, ground := Ground.data }, { on := 8, ground := Ground.data }], guard := none }) (v := ?_) rfl (by kernel_rfl) (by kernel_rfl) (by kernel_rfl) (fun _ _ _ h => h) (Or.inl ⟨by rfl, ?_⟩) hHeld ?_
      rotate_left
      · (intro w hSw; (try dsimp only at hSw); go_simp; first | done | with_reducible rfl)
      simp only [Act.put, List.setIfInBounds_toArray, List.set_cons_zero, List.set_cons_succ]
      refine wpAnyH_take (i := 10) (oi := { dst := some 72, op := Op.call { callee := Callee.builtin Builtin.min, args := #[Operand.const (Value.int IntKind.i64 16), Operand.tmp 71], argTypes := #[3, 3] }, type := 3, pos := "ways.go:336", after := #[{ on := 9, ground := Ground.data }], guard := none }) (v := ?_) rfl (by kernel_rfl) (by kernel_rfl) (by kernel_rfl) (fun _ _ _ h => h) (Or.inl ⟨by rfl, ?_⟩) hHeld ?_
      rotate_left
      · (intro w hSw; (try dsimp only at hSw); go_simp; first | done | with_reducible rfl)
      simp only [Act.put, List.setIfInBounds_toArray, List.set_cons_zero, List.set_cons_succ]
      refine wpAnyH_ready (rs := [11]) (by kernel_rfl) (by simp) ?_
      refine (AllReadyH.cons (o := { dst := some 73, op := Op.buildSlice 23 1 #[(0, Operand.tmp 72)], type := 23, pos := "ways.go:336", after := #[{ on := 10, ground := Ground.data }], guard := none }) rfl (fun K hK => ?_) AllReadyH.nil)
      go_simp
      have KK11 := And.intro (Lib.cell?_alloc_some (.cells #[.int .i64 (min 16 ((y : Int) + (z : Int)))] 3) hHeld.1) (Lib.cell?_alloc_some (.cells #[.int .i64 (min 16 ((y : Int) + (z : Int)))] 3) hHeld.2)
      clear hHeld
      refine hK.out _ _ KK11 (fun hHeld => ?_)
      clear hK K
      refine wpAnyH_ready (rs := [12]) (by kernel_rfl) (by simp) ?_
      refine (AllReadyH.cons (o := { dst := some 74, op := Op.call { callee := Callee.builtin Builtin.append, args := #[Operand.tmp 62, Operand.tmp 73], argTypes := #[23, 23] }, type := 23, pos := "ways.go:336", after := #[{ on := 0, ground := Ground.data }, { on := 11, ground := Ground.data }], guard := none }) rfl (fun K hK => ?_) AllReadyH.nil)
      rw [if_pos (by rfl)]
      refine wp_append_oneI _ _ rfl w2.heap.size _ (BellP.vec k (more D M)) (min 16 ((y : Int) + (z : Int))) wr.heap.size 1 rfl rfl HA.out (by simp) (by rw [HLen.out]; omega) (Nat.le_trans HB.out.size (by simp)) ?_
      intro v' w4 hO4 hg4 _
      have B4 := (HB.out.drew.alloc HB.out.size (.cells #[.int .i64 (min 16 ((y : Int) + (z : Int)))] 3)).grown hg4 (Nat.le_trans HB.out.size (by simp)) HO.out.past
      have KK12 := HSS.out w4 B4
      clear hHeld
      have HB4 := Lib.hid B4; have HO4 := Lib.hid hO4
      clear hO4 hg4 B4
      simp only [Act.put, List.setIfInBounds_toArray, List.set_cons_zero, List.set_cons_succ]
      refine hK.out _ _ KK12 (fun hHeld => ?_)
      clear hK K
      refine wpAnyH_take (i := 13) (oi := { dst := some 14, op := Op.assign (Operand.tmp 74), type := 23, pos := "ways.go:336", after := #[{ on := 12, ground := Ground.data }, { on := 12, ground := Ground.chain }, { on := 0, ground := Ground.phase }, { on := 1, ground := Ground.phase }, { on := 2, ground := Ground.phase }, { on := 3, ground := Ground.phase }, { on := 4, ground := Ground.phase }, { on := 5, ground := Ground.phase }, { on := 6, ground := Ground.phase }, { on := 7, ground := Ground.phase }, { on := 8, ground := Ground.phase }, { on := 9, ground := Ground.phase }, { on := 10, ground := Ground.phase }, { on := 11, ground := Ground.phase }, { on := 12, ground := Ground.phase }], guard := none }) (v := ?_) rfl (by kernel_rfl) (by kernel_rfl) (by kernel_rfl) (fun _ _ _ h => h) (Or.inl ⟨by rfl, ?_⟩) hHeld ?_
      rotate_left
      · (intro w hSw; (try dsimp only at hSw); go_simp; first | done | with_reducible rfl)
      simp only [Act.put, List.setIfInBounds_toArray, List.set_cons_zero, List.set_cons_succ]
      refine wpAnyH_done (by kernel_rfl) ?_ _
      clear hHeld

      go_wp2_with fail
      go_roundw
      case rel => exact ⟨k + 1, by go_num, by omega, HB4, Lib.hid (by rw [HVM.out, HMo2.out]; exact HO4.out)⟩
      case measure => simp [RowKit.intOf]; omega
    · obtain rfl : k = m := by omega
      have HUp := Lib.hid HO.out.arg
      obtain ⟨pp, cp, rfl, _⟩ := HO.out.arg
      rw [BellP.vec_len] at HUp ⊢
      have HL' := Lib.hid (HL.out.below HB.out)
      have HV' := Lib.hid (HV.out.keep HB.out)
      have HZZ' := Lib.hid (Below.two HZZ.out HB.out)
      clear HL HV HZZ HO HB
      have HL := HL'
      have HV := HV'
      have HZZ := HZZ'
      clear HL' HV' HZZ'
      go_wp2_with fail
      refine (round_ok wr k t v _ l (more D M) hn HL.out HUp.out hg ht (more_bd D M)).mono ?_
      rintro e w21 ⟨qb, _, rfl, hV, hb21⟩
      have HL' := Lib.hid (HL.out.below hb21)
      have HV' := Lib.hid (HV.out.keep hb21)
      have HUp' := Lib.hid (HUp.out.below hb21)
      have HZZ' := Lib.hid (Below.two HZZ.out hb21)
      have HW := Lib.hid (hV)
      clear hb21 HZZ HL HV HUp
      have HZZ := HZZ'
      clear HZZ'
      have HL := HL'
      clear HL'
      have HV := HV'
      clear HV'
      have HUp := HUp'
      clear HUp'
      clear hV
      clear HUp
      go_wp2_with fail
      refine (start_ok w21 k t (by omega) (by omega) ht).mono ?_
      rintro e w22 ⟨qs, _, rfl, hV, hb22⟩
      have HL' := Lib.hid (HL.out.below hb22)
      have HV' := Lib.hid (HV.out.keep hb22)
      have HW' := Lib.hid (HW.out.keep hb22)
      have HZZ' := Lib.hid (Below.two HZZ.out hb22)
      have HX := Lib.hid (hV.congr (d' := (fun i => (BellP.it k (BellP.ct l) t (BellP.st t) 0 i : Int))) fun i _ => rfl)
      clear hb22 HZZ HL HV HW
      have HZZ := HZZ'
      clear HZZ'
      have HL := HL'
      clear HL'
      have HV := HV'
      clear HV'
      have HW := HW'
      clear HW'
      clear hV
      go_wp2_with fail
      go_loopw [18, 20] (fun x y wr => ∃ (s b : Nat), y = .int .i64 s ∧ s ≤ 3 ∧ x = .slice (some ⟨b, 0, none⟩) k k ∧ Hid (Below w.heap.size w wr) ∧ Hid (ArgK wr v l) ∧ Hid (Vec wr qa k (fun i => (BellP.rd k (BellP.ct l) t D i : Int))) ∧ Hid (Vec wr qb k (fun i => (BellP.rd k (BellP.ct l) t (more D M) i : Int))) ∧ Hid (Vec wr b k (fun i => (BellP.it k (BellP.ct l) t (BellP.st t) s i : Int)))) (fun _ y _ => 3 - (RowKit.intOf y).toNat)
      case atStart => exact ⟨0, qs, rfl, by omega, rfl, HZZ, HL, HV, HW, HX⟩
      case round =>
        clear HZZ HL HV HW HX
        obtain ⟨s, b, rfl, hs, rfl, HZZ, HL, HV, HW, HX⟩ := hrel
        by_cases hs3 : s < 3
        · have HR := Lib.hid (round_ok wr k t v _ l _ hn HL.out HX.out.argV hg ht (BellP.it_bd k _ t (BellP.st_bd t) s))
          go_wp2_with fail
          refine HR.out.mono ?_
          rintro e x1 ⟨b1, _, rfl, hV1, hb⟩
          have HZZ' := Lib.hid (Below.two HZZ.out hb); have HL' := Lib.hid (HL.out.below hb); have HV' := Lib.hid (HV.out.keep hb); have HW' := Lib.hid (HW.out.keep hb); have HX' := Lib.hid (HX.out.keep hb)
          have HY := Lib.hid (hV1.congr (d' := (fun i => (BellP.it k (BellP.ct l) t (BellP.st t) (s + 1) i : Int))) fun i _ => rfl)
          have HB0 : Hid (Below x1.heap.size x1 x1) := Lib.hid (Below.refl _ _)
          clear hV1 hb HR HZZ HL HV HW HX
          go_wp2_with fail
          go_loopw [23] (fun x wq => ∃ (i : Nat), x = .int .i64 i ∧ i ≤ k ∧ Hid (Below x1.heap.size x1 wq)) (fun x _ => k - (RowKit.intOf x).toNat)
          case atStart => exact ⟨0, rfl, Nat.zero_le _, HB0⟩
          case round =>
            clear HB0
            obtain ⟨i, rfl, hi, HB1⟩ := hrel
            by_cases hik : i < k
            · have c1 := (HY.out.keep HB1.out).c i hik
              have c2 := (HX'.out.keep HB1.out).c i hik
              have c3 := (HV'.out.keep HB1.out).c i hik
              have c4 := (HW'.out.keep HB1.out).c i hik
              have g1 : (BellP.it k (BellP.ct l) t (BellP.st t) (s + 1) i : Int) ≤ (BellP.it k (BellP.ct l) t (BellP.st t) s i : Int) := by
                have := BellP.it_fall k (BellP.ct l) t s i
                omega
              have g2 : (BellP.rd k (BellP.ct l) t D i : Int) ≤ (BellP.rd k (BellP.ct l) t (more D M) i : Int) := by
                have := BellP.rd_mono k (BellP.ct l) t (d := D) (d' := more D M) (fun j _ => more_le HD.out M j) i
                omega
              generalize (BellP.it k (BellP.ct l) t (BellP.st t) s i : Int) = p2 at c2 g1
              generalize (BellP.it k (BellP.ct l) t (BellP.st t) (s + 1) i : Int) = p1 at c1 g1
              generalize (BellP.rd k (BellP.ct l) t (more D M) i : Int) = p4 at c4 g2
              generalize (BellP.rd k (BellP.ct l) t D i : Int) = p3 at c3 g2
              go_wp2_with fail
              go_still (by kernel_rfl)
              go_wp2_with fail
              go_roundw
              case rel => exact ⟨i + 1, by go_num, by omega, Lib.hid HB1.out.drew⟩
              case measure => simp [RowKit.intOf]; omega
            · obtain rfl : i = k := by omega
              have HZZ2 := Lib.hid (Below.two HZZ'.out HB1.out); have HL2 := Lib.hid (HL'.out.below HB1.out); have HV2 := Lib.hid (HV'.out.keep HB1.out); have HW2 := Lib.hid (HW'.out.keep HB1.out); have HY2 := Lib.hid (HY.out.keep HB1.out)
              clear HZZ' HL' HV' HW' HX' HY HB1
              go_wp2_with fail
              go_roundw
              case rel => exact ⟨s + 1, b1, by go_num, by omega, rfl, HZZ2, HL2, HV2, HW2, HY2⟩
              case measure => simp [RowKit.intOf]; omega
        · go_wp2_with fail
          go_ret
          exact ⟨rfl, HZZ.out⟩
theorem bellRises_walk (w : World) (n to : Int) (v u u' : Value) (l : List Lk) (d M : List Int) (hn : l.length < 4611686018427387904) (hd : d.length < 4611686018427387904) (h : ArgK w v l) (hu : ArgI w u d) (hu' : ArgI w u' M) :
    Calls Try.prog 4 #[.int .i64 n, v, .int .i64 to, u, u'] w fun e w' => e = .returned (.bool true) ∧ Below w.heap.size w w' := by
  by_cases h2 : roundBad n l to d = 0
  · obtain ⟨h1, h3⟩ := roundBad_zero.1 h2
    obtain ⟨m, t, rfl, rfl, _, _, ht, hg, _⟩ := run_nat h1
    obtain ⟨D, rfl, hD⟩ := est_vec h3
    by_cases hl : M.length = m
    · exact rises_3 w m t v u u' l D M hn h hu hu' hg ht hD hl
    · exact rises_2 w m t v u u' l D M hn h hu hu' hg ht hD hl
  · exact rises_1 w n to v u u' l d M hn hd h hu hu' h2
end Go.Proofs.Ytjgpibchnpodjaa
