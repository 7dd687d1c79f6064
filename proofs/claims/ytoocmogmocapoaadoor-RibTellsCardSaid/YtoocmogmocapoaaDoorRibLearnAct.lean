/-
  rib's Learn: whom it refuses, and what it leaves.
-/
import Derived.Test.YtoocmogmocapoaaDoorRibActs
import Derived.Deep.RegionHeld3
namespace Go.Proofs.YtoocmogmocapoaaDoor
open Go.RowKit Go.Lib RibP

set_option maxHeartbeats 4000000 in
set_option maxRecDepth 100000 in
theorem rLearn_1 {w : World} {p : Nat} {v : Value} {now : Int} {L : List Rt} (h : Rbd w p v now L) (f : Int) (a : Nat) (l m t : Int) (k1 : ¬ (okT now t ∧ near f)) :
    Calls Tryd.prog 8 #[.pointer (some ⟨p, 0, none⟩), .int .i64 f, .agg #[.int .u32 (a : Int), .int .i64 l], .int .i64 m, .int .i64 t] w fun r w' => r = .returned (.iface 30 (.int .i64 1)) ∧ RStp w w' p v (now, L) := by
  have hN : ∀ W, Below w.heap.size w W → Calls Tryd.prog 22 #[.pointer (some ⟨p, 0, none⟩), .int .i64 f, .int .i64 t] W _ := fun W hb => checkFrom_any (L := L) (h.box.kept hb) f t
  rw [show errV (nearE (now, L) f t) = .iface 30 (.int .i64 1) by unfold nearE; rw [if_neg k1]; rfl] at hN
  have HN := Lib.hid hN
  have H := Lib.hid h
  have hA := (Below.refl w.heap.size w).alloc (Nat.le_refl _) (.cells #[.int .u32 (a : Int), .int .i64 l] 35)
  have HBA := Lib.hid hA
  clear hN hA h k1
  go_enter Tryd.func8, Tryd.ntmps8
  go_wp2_with fail
  refine (HN.out _ HBA.out).mono ?_
  rintro r w1 ⟨rfl, hb1⟩
  have B1 := Lib.hid (HBA.out.trans (hb1.mono HBA.out.size))
  go_wp2_with fail
  go_ret
  exact ⟨rfl, RStp.same H.out B1.out⟩

set_option maxHeartbeats 4000000 in
set_option maxRecDepth 100000 in
theorem rLearn_2 {w : World} {p : Nat} {v : Value} {now : Int} {L : List Rt} (h : Rbd w p v now L) (f : Int) (a : Nat) (l m t : Int) (ck : Int) (hck : PrefP.chk a l = ck) (ha : a < 4294967296) (k1 : okT now t ∧ near f) (k2 : PrefP.chk a l ≠ 0) :
    Calls Tryd.prog 8 #[.pointer (some ⟨p, 0, none⟩), .int .i64 f, .agg #[.int .u32 (a : Int), .int .i64 l], .int .i64 m, .int .i64 t] w fun r w' => r = .returned (.iface 30 (.int .i64 ck)) ∧ RStp w w' p v (now, L) := by
  have hN : ∀ W, Below w.heap.size w W → Calls Tryd.prog 22 #[.pointer (some ⟨p, 0, none⟩), .int .i64 f, .int .i64 t] W _ := fun W hb => checkFrom_any (L := L) (h.box.kept hb) f t
  rw [show errV (nearE (now, L) f t) = .nilIface by unfold nearE; rw [if_pos k1]; rfl] at hN
  have HN := Lib.hid hN
  have H := Lib.hid h
  have hA := (Below.refl w.heap.size w).alloc (Nat.le_refl _) (.cells #[.int .u32 (a : Int), .int .i64 l] 35)
  have HBA := Lib.hid hA
  have HNB := Lib.hid (Box.new w (.int .u32 (a : Int)) (.int .i64 l) 35)
  have hP := fun W => check1_any a l ha W
  rw [show errV (PrefP.chk a l) = .iface 30 (.int .i64 ck) by rw [hck]; exact if_neg (hck ▸ k2)] at hP
  have HP := Lib.hid hP
  clear hP
  clear hN hA h ha hck k1 k2
  go_enter Tryd.func8, Tryd.ntmps8
  go_wp2_with fail
  refine (HN.out _ HBA.out).mono ?_
  rintro r w1 ⟨rfl, hb1⟩
  have B1 := Lib.hid (HBA.out.trans (hb1.mono HBA.out.size))
  have N1 := Lib.hid (HNB.out.kept hb1)
  obtain ⟨_, c0, c1, _, _⟩ := N1.out
  clear hb1
  go_wp2_with fail
  refine (HP.out _).mono ?_
  rintro r w2 ⟨rfl, hb2⟩
  have B2 := Lib.hid (Below.two B1.out hb2)
  have N2 := Lib.hid (N1.out.kept hb2)
  clear c0 c1 hb2
  go_wp2_with fail
  go_ret
  exact ⟨rfl, RStp.same H.out B2.out⟩

set_option maxHeartbeats 4000000 in
set_option maxRecDepth 100000 in
theorem rLearn_3 {w : World} {p : Nat} {v : Value} {now : Int} {L : List Rt} (h : Rbd w p v now L) (f : Int) (a : Nat) (l m t : Int) (ha : a < 4294967296) (k1 : okT now t ∧ near f) (k2 : PrefP.chk a l = 0) (k3 : ¬ (1 ≤ m ∧ m ≤ 16)) :
    Calls Tryd.prog 8 #[.pointer (some ⟨p, 0, none⟩), .int .i64 f, .agg #[.int .u32 (a : Int), .int .i64 l], .int .i64 m, .int .i64 t] w fun r w' => r = .returned (.iface 30 (.int .i64 1)) ∧ RStp w w' p v (now, L) := by
  have hN : ∀ W, Below w.heap.size w W → Calls Tryd.prog 22 #[.pointer (some ⟨p, 0, none⟩), .int .i64 f, .int .i64 t] W _ := fun W hb => checkFrom_any (L := L) (h.box.kept hb) f t
  rw [show errV (nearE (now, L) f t) = .nilIface by unfold nearE; rw [if_pos k1]; rfl] at hN
  have HN := Lib.hid hN
  have H := Lib.hid h
  have hA := (Below.refl w.heap.size w).alloc (Nat.le_refl _) (.cells #[.int .u32 (a : Int), .int .i64 l] 35)
  have HBA := Lib.hid hA
  have HNB := Lib.hid (Box.new w (.int .u32 (a : Int)) (.int .i64 l) 35)
  have hP := fun W => check1_any a l ha W
  rw [show errV (PrefP.chk a l) = .nilIface by rw [k2]; rfl] at hP
  have HP := Lib.hid hP
  clear hP
  have hM := fun W => checkMetric_any W m
  rw [show errV (metE m) = .iface 30 (.int .i64 1) by unfold metE; rw [if_neg k3]; rfl] at hM
  have HM := Lib.hid hM
  clear hM
  clear hN hA h ha k1 k2 k3
  go_enter Tryd.func8, Tryd.ntmps8
  go_wp2_with fail
  refine (HN.out _ HBA.out).mono ?_
  rintro r w1 ⟨rfl, hb1⟩
  have B1 := Lib.hid (HBA.out.trans (hb1.mono HBA.out.size))
  have N1 := Lib.hid (HNB.out.kept hb1)
  obtain ⟨_, c0, c1, _, _⟩ := N1.out
  clear hb1
  go_wp2_with fail
  refine (HP.out _).mono ?_
  rintro r w2 ⟨rfl, hb2⟩
  have B2 := Lib.hid (Below.two B1.out hb2)
  have N2 := Lib.hid (N1.out.kept hb2)
  clear c0 c1 hb2
  go_wp2_with fail
  refine (HM.out _).mono ?_
  rintro r w3 ⟨rfl, hb3⟩
  have B3 := Lib.hid (Below.two B2.out hb3)
  have N3 := Lib.hid (N2.out.kept hb3)
  clear hb3
  go_wp2_with fail
  go_ret
  exact ⟨rfl, RStp.same H.out B3.out⟩

set_option maxHeartbeats 4000000 in
set_option maxRecDepth 100000 in
theorem rLearn_4 {w : World} {p : Nat} {v : Value} {now : Int} {L : List Rt} (h : Rbd w p v now L) (f : Int) (a : Nat) (l m t : Int) (ha : a < 4294967296) (k1 : okT now t ∧ near f) (k2 : PrefP.chk a l = 0) (k3 : 1 ≤ m ∧ m ≤ 16) (k4 : full ⟨⟨f, (a, l), m⟩, t⟩ (age t L)) :
    Calls Tryd.prog 8 #[.pointer (some ⟨p, 0, none⟩), .int .i64 f, .agg #[.int .u32 (a : Int), .int .i64 l], .int .i64 m, .int .i64 t] w fun r w' => r = .returned (.iface 30 (.int .i64 4)) ∧ RStp w w' p v (now, L) := by
  have hN : ∀ W, Below w.heap.size w W → Calls Tryd.prog 22 #[.pointer (some ⟨p, 0, none⟩), .int .i64 f, .int .i64 t] W _ := fun W hb => checkFrom_any (L := L) (h.box.kept hb) f t
  rw [show errV (nearE (now, L) f t) = .nilIface by unfold nearE; rw [if_pos k1]; rfl] at hN
  have HN := Lib.hid hN
  have H := Lib.hid h
  have hA := (Below.refl w.heap.size w).alloc (Nat.le_refl _) (.cells #[.int .u32 (a : Int), .int .i64 l] 35)
  have HBA := Lib.hid hA
  have HNB := Lib.hid (Box.new w (.int .u32 (a : Int)) (.int .i64 l) 35)
  have hP := fun W => check1_any a l ha W
  rw [show errV (PrefP.chk a l) = .nilIface by rw [k2]; rfl] at hP
  have HP := Lib.hid hP
  clear hP
  have hM := fun W => checkMetric_any W m
  rw [show errV (metE m) = .nilIface by unfold metE; rw [if_pos k3]; rfl] at hM
  have HM := Lib.hid hM
  clear hM
  have K1 := Lib.hid k1; have K3 := Lib.hid k3; have K4 := Lib.hid k4; have HA4 := Lib.hid ha
  clear hN hA h ha k1 k2 k3 k4
  go_enter Tryd.func8, Tryd.ntmps8
  go_wp2_with fail
  refine (HN.out _ HBA.out).mono ?_
  rintro r w1 ⟨rfl, hb1⟩
  have B1 := Lib.hid (HBA.out.trans (hb1.mono HBA.out.size))
  have N1 := Lib.hid (HNB.out.kept hb1)
  obtain ⟨_, c0, c1, _, _⟩ := N1.out
  clear hb1
  go_wp2_with fail
  refine (HP.out _).mono ?_
  rintro r w2 ⟨rfl, hb2⟩
  have B2 := Lib.hid (Below.two B1.out hb2)
  have N2 := Lib.hid (N1.out.kept hb2)
  clear c0 c1 hb2
  go_wp2_with fail
  refine (HM.out _).mono ?_
  rintro r w3 ⟨rfl, hb3⟩
  have B3 := Lib.hid (Below.two B2.out hb3)
  have N3 := Lib.hid (N2.out.kept hb3)
  clear hb3
  obtain ⟨_, c0, c1, _, _⟩ := N3.out
  have HX := Lib.hid (RBox.new w3 ⟨⟨f, (a, l), m⟩, t⟩ 64)
  have B4 := Lib.hid (B3.out.alloc B3.out.size (.cells #[.int .i64 f, .int .u32 (a : Int), .int .i64 l, .int .i64 m, .int .i64 t] 64))
  go_wp2_with fail
  clear c0 c1
  refine wp_region_held_drew (S := (fun _ => True)) (by kernel_rfl) trivial (fun hHeld => ?_)
  refine wpAnyH_take (i := 0) (oi := { dst := some 41, op := Op.move (Operand.tmp 0), type := 25, pos := "rib.go:121", after := #[], guard := none }) (v := ?_) rfl (by kernel_rfl) (by kernel_rfl) (by kernel_rfl) (fun _ _ _ h => h) (Or.inl ⟨by rfl, ?_⟩) hHeld ?_
  rotate_left
  · (intro w hSw; (try dsimp only at hSw); go_simp; first | done | with_reducible rfl)
  simp only [Act.put, List.setIfInBounds_toArray, List.set_cons_zero, List.set_cons_succ]
  refine wpAnyH_take (i := 1) (oi := { dst := some 42, op := Op.move (Operand.tmp 4), type := 3, pos := "rib.go:121", after := #[], guard := none }) (v := ?_) rfl (by kernel_rfl) (by kernel_rfl) (by kernel_rfl) (fun _ _ _ h => h) (Or.inl ⟨by rfl, ?_⟩) hHeld ?_
  rotate_left
  · (intro w hSw; (try dsimp only at hSw); go_simp; first | done | with_reducible rfl)
  simp only [Act.put, List.setIfInBounds_toArray, List.set_cons_zero, List.set_cons_succ]
  refine wpAnyH_ready (rs := [2, 3]) (by kernel_rfl) (by simp) ?_
  refine (AllReadyH.cons (o := { dst := some 43, op := Op.call { callee := Callee.value (Operand.func 26), args := #[Operand.tmp 41, Operand.tmp 42], argTypes := #[25, 3] }, type := 54, pos := "rib.go:121", after := #[{ on := 0, ground := Ground.data }, { on := 1, ground := Ground.data }], guard := none }) rfl (fun K hK => ?_) (AllReadyH.cons (o := { dst := some 44, op := Op.load 64 (Operand.tmp 14), type := 64, pos := "rib.go:121", after := #[], guard := none }) rfl (fun K hK => ?_) AllReadyH.nil))
  · go_simp
    go_at_call 26
    refine (aged_any (H.out.below B4.out.drew) t K1.out.1.1 K1.out.1.2).mono ?_
    rintro r w5 ⟨v5, rfl, ho, hb5⟩
    have HO5 := Lib.hid ho
    have B5 := Lib.hid (B4.out.drew.trans (hb5.mono B4.out.size))
    have X5 := Lib.hid ((HX.out.kept (Below.refl _ _).drew).kept hb5)
    have KK2 := True.intro
    obtain ⟨q5, c5, rfl, _, _⟩ := ho.arg
    obtain ⟨x0, x1, x2, x3, x4⟩ := X5.out.at_.rt
    simp only [Nat.zero_add] at x0 x1 x2 x3 x4
    clear hHeld ho hb5
    go_wp2_with fail
    refine hK.out _ _ KK2 (fun hHeld => ?_)
    clear hK K
    refine wpAnyH_ready (rs := [3]) (by kernel_rfl) (by simp) ?_
    refine (AllReadyH.cons (o := { dst := some 44, op := Op.load 64 (Operand.tmp 14), type := 64, pos := "rib.go:121", after := #[], guard := none }) rfl (fun K hK => ?_) AllReadyH.nil)
    go_simp
    have KK3 := True.intro
    clear hHeld
    go_wp2_with fail
    refine hK.out _ _ KK3 (fun hHeld => ?_)
    clear hK K
    refine wpAnyH_ready (rs := [4]) (by kernel_rfl) (by simp) ?_
    refine (AllReadyH.cons (o := { dst := some 45, op := Op.call { callee := Callee.value (Operand.func 25), args := #[Operand.tmp 43, Operand.tmp 44], argTypes := #[54, 64] }, type := 65, pos := "rib.go:121", after := #[{ on := 2, ground := Ground.data }, { on := 3, ground := Ground.data }, { on := 2, ground := Ground.chain }], guard := none }) rfl (fun K hK => ?_) AllReadyH.nil)
    go_simp
    go_at_call 25
    refine (learn_any _ w.heap.size _ ⟨⟨f, (a, l), m⟩, t⟩ (age t L) (Nat.le_trans (age_len t L) H.out.good.len) (HO5.out.down B4.out.size) ((H.out.good.age K1.out.1.1).keys) B5.out.size).mono ?_
    rintro r w6 (⟨hf, rfl, hb6⟩ | ⟨hf, v6, rfl, hl⟩)
    rotate_left
    · exact absurd K4.out hf
    have B6 := Lib.hid (B5.out.trans hb6)
    clear hb6
    have KK4 := True.intro
    clear hHeld
    go_wp2_with fail
    refine hK.out _ _ KK4 (fun hHeld => ?_)
    clear hK K
    refine wpAnyH_take (i := 5) (oi := { dst := some 40, op := Op.move (Operand.tmp 45), type := 65, pos := "rib.go:121", after := #[{ on := 4, ground := Ground.data }], guard := none }) (v := ?_) rfl (by kernel_rfl) (by kernel_rfl) (by kernel_rfl) (fun _ _ _ h => h) (Or.inl ⟨by rfl, ?_⟩) hHeld ?_
    rotate_left
    · (intro w hSw; (try dsimp only at hSw); go_simp; first | done | with_reducible rfl)
    simp only [Act.put, List.setIfInBounds_toArray, List.set_cons_zero, List.set_cons_succ]
    refine wpAnyH_take (i := 6) (oi := { dst := some 46, op := Op.extract (Operand.tmp 40) 0, type := 54, pos := "rib.go:121", after := #[{ on := 5, ground := Ground.data }], guard := none }) (v := ?_) rfl (by kernel_rfl) (by kernel_rfl) (by kernel_rfl) (fun _ _ _ h => h) (Or.inl ⟨by rfl, ?_⟩) hHeld ?_
    rotate_left
    · (intro w hSw; (try dsimp only at hSw); go_simp; first | done | with_reducible rfl)
    simp only [Act.put, List.setIfInBounds_toArray, List.set_cons_zero, List.set_cons_succ]
    refine wpAnyH_take (i := 7) (oi := { dst := some 47, op := Op.extract (Operand.tmp 40) 1, type := 38, pos := "rib.go:121", after := #[{ on := 5, ground := Ground.data }, { on := 8, ground := Ground.gcOnly Departure.lateStores }], guard := none }) (v := ?_) rfl (by kernel_rfl) (by kernel_rfl) (by kernel_rfl) (fun _ _ _ h => h) (Or.inl ⟨by rfl, ?_⟩) hHeld ?_
    rotate_left
    · (intro w hSw; (try dsimp only at hSw); go_simp; first | done | with_reducible rfl)
    simp only [Act.put, List.setIfInBounds_toArray, List.set_cons_zero, List.set_cons_succ]
    refine wpAnyH_take (i := 8) (oi := { dst := some 15, op := Op.assign (Operand.tmp 46), type := 54, pos := "rib.go:121", after := #[{ on := 6, ground := Ground.data }, { on := 4, ground := Ground.chain }, { on := 0, ground := Ground.phase }, { on := 1, ground := Ground.phase }, { on := 2, ground := Ground.phase }, { on := 3, ground := Ground.phase }, { on := 4, ground := Ground.phase }, { on := 5, ground := Ground.phase }, { on := 6, ground := Ground.phase }, { on := 7, ground := Ground.textOnly Departure.lateStores }], guard := none }) (v := ?_) rfl (by kernel_rfl) (by kernel_rfl) (by kernel_rfl) (fun _ _ _ h => h) (Or.inl ⟨by rfl, ?_⟩) hHeld ?_
    rotate_left
    · (intro w hSw; (try dsimp only at hSw); go_simp; first | done | with_reducible rfl)
    simp only [Act.put, List.setIfInBounds_toArray, List.set_cons_zero, List.set_cons_succ]
    refine wpAnyH_take (i := 9) (oi := { dst := some 16, op := Op.assign (Operand.tmp 47), type := 38, pos := "rib.go:121", after := #[{ on := 7, ground := Ground.data }, { on := 8, ground := Ground.chain }, { on := 0, ground := Ground.phase }, { on := 1, ground := Ground.phase }, { on := 2, ground := Ground.phase }, { on := 3, ground := Ground.phase }, { on := 4, ground := Ground.phase }, { on := 5, ground := Ground.phase }, { on := 6, ground := Ground.phase }, { on := 7, ground := Ground.phase }, { on := 8, ground := Ground.phase }], guard := none }) (v := ?_) rfl (by kernel_rfl) (by kernel_rfl) (by kernel_rfl) (fun _ _ _ h => h) (Or.inl ⟨by rfl, ?_⟩) hHeld ?_
    rotate_left
    · (intro w hSw; (try dsimp only at hSw); go_simp; first | done | with_reducible rfl)
    simp only [Act.put, List.setIfInBounds_toArray, List.set_cons_zero, List.set_cons_succ]
    refine wpAnyH_done (by kernel_rfl) ?_ _
    go_wp2_with fail
    go_ret
    exact ⟨rfl, RStp.same H.out B6.out⟩
  · go_simp
    have KK3 := True.intro
    clear hHeld
    go_wp2_with fail
    refine hK.out _ _ KK3 (fun hHeld => ?_)
    clear hK K
    refine wpAnyH_ready (rs := [2]) (by kernel_rfl) (by simp) ?_
    refine (AllReadyH.cons (o := { dst := some 43, op := Op.call { callee := Callee.value (Operand.func 26), args := #[Operand.tmp 41, Operand.tmp 42], argTypes := #[25, 3] }, type := 54, pos := "rib.go:121", after := #[{ on := 0, ground := Ground.data }, { on := 1, ground := Ground.data }], guard := none }) rfl (fun K hK => ?_) AllReadyH.nil)
    go_simp
    go_at_call 26
    refine (aged_any (H.out.below B4.out.drew) t K1.out.1.1 K1.out.1.2).mono ?_
    rintro r w5 ⟨v5, rfl, ho, hb5⟩
    have HO5 := Lib.hid ho
    have B5 := Lib.hid (B4.out.drew.trans (hb5.mono B4.out.size))
    have X5 := Lib.hid ((HX.out.kept (Below.refl _ _).drew).kept hb5)
    have KK2 := True.intro
    obtain ⟨q5, c5, rfl, _, _⟩ := ho.arg
    obtain ⟨x0, x1, x2, x3, x4⟩ := X5.out.at_.rt
    simp only [Nat.zero_add] at x0 x1 x2 x3 x4
    clear hHeld ho hb5
    go_wp2_with fail
    refine hK.out _ _ KK2 (fun hHeld => ?_)
    clear hK K
    refine wpAnyH_ready (rs := [4]) (by kernel_rfl) (by simp) ?_
    refine (AllReadyH.cons (o := { dst := some 45, op := Op.call { callee := Callee.value (Operand.func 25), args := #[Operand.tmp 43, Operand.tmp 44], argTypes := #[54, 64] }, type := 65, pos := "rib.go:121", after := #[{ on := 2, ground := Ground.data }, { on := 3, ground := Ground.data }, { on := 2, ground := Ground.chain }], guard := none }) rfl (fun K hK => ?_) AllReadyH.nil)
    go_simp
    go_at_call 25
    refine (learn_any _ w.heap.size _ ⟨⟨f, (a, l), m⟩, t⟩ (age t L) (Nat.le_trans (age_len t L) H.out.good.len) (HO5.out.down B4.out.size) ((H.out.good.age K1.out.1.1).keys) B5.out.size).mono ?_
    rintro r w6 (⟨hf, rfl, hb6⟩ | ⟨hf, v6, rfl, hl⟩)
    rotate_left
    · exact absurd K4.out hf
    have B6 := Lib.hid (B5.out.trans hb6)
    clear hb6
    have KK4 := True.intro
    clear hHeld
    go_wp2_with fail
    refine hK.out _ _ KK4 (fun hHeld => ?_)
    clear hK K
    refine wpAnyH_take (i := 5) (oi := { dst := some 40, op := Op.move (Operand.tmp 45), type := 65, pos := "rib.go:121", after := #[{ on := 4, ground := Ground.data }], guard := none }) (v := ?_) rfl (by kernel_rfl) (by kernel_rfl) (by kernel_rfl) (fun _ _ _ h => h) (Or.inl ⟨by rfl, ?_⟩) hHeld ?_
    rotate_left
    · (intro w hSw; (try dsimp only at hSw); go_simp; first | done | with_reducible rfl)
    simp only [Act.put, List.setIfInBounds_toArray, List.set_cons_zero, List.set_cons_succ]
    refine wpAnyH_take (i := 6) (oi := { dst := some 46, op := Op.extract (Operand.tmp 40) 0, type := 54, pos := "rib.go:121", after := #[{ on := 5, ground := Ground.data }], guard := none }) (v := ?_) rfl (by kernel_rfl) (by kernel_rfl) (by kernel_rfl) (fun _ _ _ h => h) (Or.inl ⟨by rfl, ?_⟩) hHeld ?_
    rotate_left
    · (intro w hSw; (try dsimp only at hSw); go_simp; first | done | with_reducible rfl)
    simp only [Act.put, List.setIfInBounds_toArray, List.set_cons_zero, List.set_cons_succ]
    refine wpAnyH_take (i := 7) (oi := { dst := some 47, op := Op.extract (Operand.tmp 40) 1, type := 38, pos := "rib.go:121", after := #[{ on := 5, ground := Ground.data }, { on := 8, ground := Ground.gcOnly Departure.lateStores }], guard := none }) (v := ?_) rfl (by kernel_rfl) (by kernel_rfl) (by kernel_rfl) (fun _ _ _ h => h) (Or.inl ⟨by rfl, ?_⟩) hHeld ?_
    rotate_left
    · (intro w hSw; (try dsimp only at hSw); go_simp; first | done | with_reducible rfl)
    simp only [Act.put, List.setIfInBounds_toArray, List.set_cons_zero, List.set_cons_succ]
    refine wpAnyH_take (i := 8) (oi := { dst := some 15, op := Op.assign (Operand.tmp 46), type := 54, pos := "rib.go:121", after := #[{ on := 6, ground := Ground.data }, { on := 4, ground := Ground.chain }, { on := 0, ground := Ground.phase }, { on := 1, ground := Ground.phase }, { on := 2, ground := Ground.phase }, { on := 3, ground := Ground.phase }, { on := 4, ground := Ground.phase }, { on := 5, ground := Ground.phase }, { on := 6, ground := Ground.phase }, { on := 7, ground := Ground.textOnly Departure.lateStores }], guard := none }) (v := ?_) rfl (by kernel_rfl) (by kernel_rfl) (by kernel_rfl) (fun _ _ _ h => h) (Or.inl ⟨by rfl, ?_⟩) hHeld ?_
    rotate_left
    · (intro w hSw; (try dsimp only at hSw); go_simp; first | done | with_reducible rfl)
    simp only [Act.put, List.setIfInBounds_toArray, List.set_cons_zero, List.set_cons_succ]
    refine wpAnyH_take (i := 9) (oi := { dst := some 16, op := Op.assign (Operand.tmp 47), type := 38, pos := "rib.go:121", after := #[{ on := 7, ground := Ground.data }, { on := 8, ground := Ground.chain }, { on := 0, ground := Ground.phase }, { on := 1, ground := Ground.phase }, { on := 2, ground := Ground.phase }, { on := 3, ground := Ground.phase }, { on := 4, ground := Ground.phase }, { on := 5, ground := Ground.phase }, { on := 6, ground := Ground.phase }, { on := 7, ground := Ground.phase }, { on := 8, ground := Ground.phase }], guard := none }) (v := ?_) rfl (by kernel_rfl) (by kernel_rfl) (by kernel_rfl) (fun _ _ _ h => h) (Or.inl ⟨by rfl, ?_⟩) hHeld ?_
    rotate_left
    · (intro w hSw; (try dsimp only at hSw); go_simp; first | done | with_reducible rfl)
    simp only [Act.put, List.setIfInBounds_toArray, List.set_cons_zero, List.set_cons_succ]
    refine wpAnyH_done (by kernel_rfl) ?_ _
    go_wp2_with fail
    go_ret
    exact ⟨rfl, RStp.same H.out B6.out⟩

set_option maxHeartbeats 4000000 in
set_option maxRecDepth 100000 in
theorem rLearn_5 {w : World} {p : Nat} {v : Value} {now : Int} {L : List Rt} (h : Rbd w p v now L) (f : Int) (a : Nat) (l m t : Int) (ha : a < 4294967296) (k1 : okT now t ∧ near f) (k2 : PrefP.chk a l = 0) (k3 : 1 ≤ m ∧ m ≤ 16) (k4 : ¬ full ⟨⟨f, (a, l), m⟩, t⟩ (age t L)) :
    Calls Tryd.prog 8 #[.pointer (some ⟨p, 0, none⟩), .int .i64 f, .agg #[.int .u32 (a : Int), .int .i64 l], .int .i64 m, .int .i64 t] w fun r w' => r = .returned (.nilIface) ∧ RStp w w' p v (t, learn ⟨⟨f, (a, l), m⟩, t⟩ (age t L)) := by
  have hN : ∀ W, Below w.heap.size w W → Calls Tryd.prog 22 #[.pointer (some ⟨p, 0, none⟩), .int .i64 f, .int .i64 t] W _ := fun W hb => checkFrom_any (L := L) (h.box.kept hb) f t
  rw [show errV (nearE (now, L) f t) = .nilIface by unfold nearE; rw [if_pos k1]; rfl] at hN
  have HN := Lib.hid hN
  have H := Lib.hid h
  have hA := (Below.refl w.heap.size w).alloc (Nat.le_refl _) (.cells #[.int .u32 (a : Int), .int .i64 l] 35)
  have HBA := Lib.hid hA
  have HNB := Lib.hid (Box.new w (.int .u32 (a : Int)) (.int .i64 l) 35)
  have hP := fun W => check1_any a l ha W
  rw [show errV (PrefP.chk a l) = .nilIface by rw [k2]; rfl] at hP
  have HP := Lib.hid hP
  clear hP
  have hM := fun W => checkMetric_any W m
  rw [show errV (metE m) = .nilIface by unfold metE; rw [if_pos k3]; rfl] at hM
  have HM := Lib.hid hM
  clear hM
  have K1 := Lib.hid k1; have K3 := Lib.hid k3; have K4 := Lib.hid k4; have HA4 := Lib.hid ha
  clear hN hA h ha k1 k2 k3 k4
  go_enter Tryd.func8, Tryd.ntmps8
  go_wp2_with fail
  refine (HN.out _ HBA.out).mono ?_
  rintro r w1 ⟨rfl, hb1⟩
  have B1 := Lib.hid (HBA.out.trans (hb1.mono HBA.out.size))
  have N1 := Lib.hid (HNB.out.kept hb1)
  obtain ⟨_, c0, c1, _, _⟩ := N1.out
  clear hb1
  go_wp2_with fail
  refine (HP.out _).mono ?_
  rintro r w2 ⟨rfl, hb2⟩
  have B2 := Lib.hid (Below.two B1.out hb2)
  have N2 := Lib.hid (N1.out.kept hb2)
  clear c0 c1 hb2
  go_wp2_with fail
  refine (HM.out _).mono ?_
  rintro r w3 ⟨rfl, hb3⟩
  have B3 := Lib.hid (Below.two B2.out hb3)
  have N3 := Lib.hid (N2.out.kept hb3)
  clear hb3
  obtain ⟨_, c0, c1, _, _⟩ := N3.out
  have HX := Lib.hid (RBox.new w3 ⟨⟨f, (a, l), m⟩, t⟩ 64)
  have B4 := Lib.hid (B3.out.alloc B3.out.size (.cells #[.int .i64 f, .int .u32 (a : Int), .int .i64 l, .int .i64 m, .int .i64 t] 64))
  go_wp2_with fail
  clear c0 c1
  refine wp_region_held_drew (S := (fun _ => True)) (by kernel_rfl) trivial (fun hHeld => ?_)
  refine wpAnyH_take (i := 0) (oi := { dst := some 41, op := Op.move (Operand.tmp 0), type := 25, pos := "rib.go:121", after := #[], guard := none }) (v := ?_) rfl (by kernel_rfl) (by kernel_rfl) (by kernel_rfl) (fun _ _ _ h => h) (Or.inl ⟨by rfl, ?_⟩) hHeld ?_
  rotate_left
  · (intro w hSw; (try dsimp only at hSw); go_simp; first | done | with_reducible rfl)
  simp only [Act.put, List.setIfInBounds_toArray, List.set_cons_zero, List.set_cons_succ]
  refine wpAnyH_take (i := 1) (oi := { dst := some 42, op := Op.move (Operand.tmp 4), type := 3, pos := "rib.go:121", after := #[], guard := none }) (v := ?_) rfl (by kernel_rfl) (by kernel_rfl) (by kernel_rfl) (fun _ _ _ h => h) (Or.inl ⟨by rfl, ?_⟩) hHeld ?_
  rotate_left
  · (intro w hSw; (try dsimp only at hSw); go_simp; first | done | with_reducible rfl)
  simp only [Act.put, List.setIfInBounds_toArray, List.set_cons_zero, List.set_cons_succ]
  refine wpAnyH_ready (rs := [2, 3]) (by kernel_rfl) (by simp) ?_
  refine (AllReadyH.cons (o := { dst := some 43, op := Op.call { callee := Callee.value (Operand.func 26), args := #[Operand.tmp 41, Operand.tmp 42], argTypes := #[25, 3] }, type := 54, pos := "rib.go:121", after := #[{ on := 0, ground := Ground.data }, { on := 1, ground := Ground.data }], guard := none }) rfl (fun K hK => ?_) (AllReadyH.cons (o := { dst := some 44, op := Op.load 64 (Operand.tmp 14), type := 64, pos := "rib.go:121", after := #[], guard := none }) rfl (fun K hK => ?_) AllReadyH.nil))
  · go_simp
    go_at_call 26
    refine (aged_any (H.out.below B4.out.drew) t K1.out.1.1 K1.out.1.2).mono ?_
    rintro r w5 ⟨v5, rfl, ho, hb5⟩
    have HO5 := Lib.hid ho
    have B5 := Lib.hid (B4.out.drew.trans (hb5.mono B4.out.size))
    have X5 := Lib.hid ((HX.out.kept (Below.refl _ _).drew).kept hb5)
    have KK2 := True.intro
    obtain ⟨q5, c5, rfl, _, _⟩ := ho.arg
    obtain ⟨x0, x1, x2, x3, x4⟩ := X5.out.at_.rt
    simp only [Nat.zero_add] at x0 x1 x2 x3 x4
    clear hHeld ho hb5
    go_wp2_with fail
    refine hK.out _ _ KK2 (fun hHeld => ?_)
    clear hK K
    refine wpAnyH_ready (rs := [3]) (by kernel_rfl) (by simp) ?_
    refine (AllReadyH.cons (o := { dst := some 44, op := Op.load 64 (Operand.tmp 14), type := 64, pos := "rib.go:121", after := #[], guard := none }) rfl (fun K hK => ?_) AllReadyH.nil)
    go_simp
    have KK3 := True.intro
    clear hHeld
    go_wp2_with fail
    refine hK.out _ _ KK3 (fun hHeld => ?_)
    clear hK K
    refine wpAnyH_ready (rs := [4]) (by kernel_rfl) (by simp) ?_
    refine (AllReadyH.cons (o := { dst := some 45, op := Op.call { callee := Callee.value (Operand.func 25), args := #[Operand.tmp 43, Operand.tmp 44], argTypes := #[54, 64] }, type := 65, pos := "rib.go:121", after := #[{ on := 2, ground := Ground.data }, { on := 3, ground := Ground.data }, { on := 2, ground := Ground.chain }], guard := none }) rfl (fun K hK => ?_) AllReadyH.nil)
    go_simp
    go_at_call 25
    refine (learn_any _ w.heap.size _ ⟨⟨f, (a, l), m⟩, t⟩ (age t L) (Nat.le_trans (age_len t L) H.out.good.len) (HO5.out.down B4.out.size) ((H.out.good.age K1.out.1.1).keys) B5.out.size).mono ?_
    rintro r w6 (⟨hf, rfl, hb6⟩ | ⟨hf, v6, rfl, hl⟩)
    · exact absurd hf K4.out
    have B6 := Lib.hid (B5.out.trans hl.2.2)
    have L6 := Lib.hid hl
    obtain ⟨q6, c6, hv6, _, _⟩ := hl.1
    subst hv6
    clear hl
    have KK4 := True.intro
    clear hHeld
    go_wp2_with fail
    refine hK.out _ _ KK4 (fun hHeld => ?_)
    clear hK K
    refine wpAnyH_take (i := 5) (oi := { dst := some 40, op := Op.move (Operand.tmp 45), type := 65, pos := "rib.go:121", after := #[{ on := 4, ground := Ground.data }], guard := none }) (v := ?_) rfl (by kernel_rfl) (by kernel_rfl) (by kernel_rfl) (fun _ _ _ h => h) (Or.inl ⟨by rfl, ?_⟩) hHeld ?_
    rotate_left
    · (intro w hSw; (try dsimp only at hSw); go_simp; first | done | with_reducible rfl)
    simp only [Act.put, List.setIfInBounds_toArray, List.set_cons_zero, List.set_cons_succ]
    refine wpAnyH_take (i := 6) (oi := { dst := some 46, op := Op.extract (Operand.tmp 40) 0, type := 54, pos := "rib.go:121", after := #[{ on := 5, ground := Ground.data }], guard := none }) (v := ?_) rfl (by kernel_rfl) (by kernel_rfl) (by kernel_rfl) (fun _ _ _ h => h) (Or.inl ⟨by rfl, ?_⟩) hHeld ?_
    rotate_left
    · (intro w hSw; (try dsimp only at hSw); go_simp; first | done | with_reducible rfl)
    simp only [Act.put, List.setIfInBounds_toArray, List.set_cons_zero, List.set_cons_succ]
    refine wpAnyH_take (i := 7) (oi := { dst := some 47, op := Op.extract (Operand.tmp 40) 1, type := 38, pos := "rib.go:121", after := #[{ on := 5, ground := Ground.data }, { on := 8, ground := Ground.gcOnly Departure.lateStores }], guard := none }) (v := ?_) rfl (by kernel_rfl) (by kernel_rfl) (by kernel_rfl) (fun _ _ _ h => h) (Or.inl ⟨by rfl, ?_⟩) hHeld ?_
    rotate_left
    · (intro w hSw; (try dsimp only at hSw); go_simp; first | done | with_reducible rfl)
    simp only [Act.put, List.setIfInBounds_toArray, List.set_cons_zero, List.set_cons_succ]
    refine wpAnyH_take (i := 8) (oi := { dst := some 15, op := Op.assign (Operand.tmp 46), type := 54, pos := "rib.go:121", after := #[{ on := 6, ground := Ground.data }, { on := 4, ground := Ground.chain }, { on := 0, ground := Ground.phase }, { on := 1, ground := Ground.phase }, { on := 2, ground := Ground.phase }, { on := 3, ground := Ground.phase }, { on := 4, ground := Ground.phase }, { on := 5, ground := Ground.phase }, { on := 6, ground := Ground.phase }, { on := 7, ground := Ground.textOnly Departure.lateStores }], guard := none }) (v := ?_) rfl (by kernel_rfl) (by kernel_rfl) (by kernel_rfl) (fun _ _ _ h => h) (Or.inl ⟨by rfl, ?_⟩) hHeld ?_
    rotate_left
    · (intro w hSw; (try dsimp only at hSw); go_simp; first | done | with_reducible rfl)
    simp only [Act.put, List.setIfInBounds_toArray, List.set_cons_zero, List.set_cons_succ]
    refine wpAnyH_take (i := 9) (oi := { dst := some 16, op := Op.assign (Operand.tmp 47), type := 38, pos := "rib.go:121", after := #[{ on := 7, ground := Ground.data }, { on := 8, ground := Ground.chain }, { on := 0, ground := Ground.phase }, { on := 1, ground := Ground.phase }, { on := 2, ground := Ground.phase }, { on := 3, ground := Ground.phase }, { on := 4, ground := Ground.phase }, { on := 5, ground := Ground.phase }, { on := 6, ground := Ground.phase }, { on := 7, ground := Ground.phase }, { on := 8, ground := Ground.phase }], guard := none }) (v := ?_) rfl (by kernel_rfl) (by kernel_rfl) (by kernel_rfl) (fun _ _ _ h => h) (Or.inl ⟨by rfl, ?_⟩) hHeld ?_
    rotate_left
    · (intro w hSw; (try dsimp only at hSw); go_simp; first | done | with_reducible rfl)
    simp only [Act.put, List.setIfInBounds_toArray, List.set_cons_zero, List.set_cons_succ]
    refine wpAnyH_done (by kernel_rfl) ?_ _
    have b6 := H.out.box.kept B6.out
    obtain ⟨blt, c0, c1, f0, f1⟩ := b6
    go_wp2_with fail
    go_ret
    refine ⟨rfl, RStp.put (s := (t, learn ⟨⟨f, (a, l), m⟩, t⟩ (age t L))) H.out B6.out L6.out.1 L6.out.2.1 ?_⟩
    exact ⟨(H.out.good.age K1.out.1.1).learn ⟨K1.out.2.1, K1.out.2.2, HA4.out, K3.out.1, K3.out.2, (by have := H.out.n0; have := K1.out.1.1; show 0 ≤ t; omega), Int.le_refl _⟩ K4.out, (by have := H.out.n0; have := K1.out.1.1; show 0 ≤ t; omega), K1.out.1.2⟩
  · go_simp
    have KK3 := True.intro
    clear hHeld
    go_wp2_with fail
    refine hK.out _ _ KK3 (fun hHeld => ?_)
    clear hK K
    refine wpAnyH_ready (rs := [2]) (by kernel_rfl) (by simp) ?_
    refine (AllReadyH.cons (o := { dst := some 43, op := Op.call { callee := Callee.value (Operand.func 26), args := #[Operand.tmp 41, Operand.tmp 42], argTypes := #[25, 3] }, type := 54, pos := "rib.go:121", after := #[{ on := 0, ground := Ground.data }, { on := 1, ground := Ground.data }], guard := none }) rfl (fun K hK => ?_) AllReadyH.nil)
    go_simp
    go_at_call 26
    refine (aged_any (H.out.below B4.out.drew) t K1.out.1.1 K1.out.1.2).mono ?_
    rintro r w5 ⟨v5, rfl, ho, hb5⟩
    have HO5 := Lib.hid ho
    have B5 := Lib.hid (B4.out.drew.trans (hb5.mono B4.out.size))
    have X5 := Lib.hid ((HX.out.kept (Below.refl _ _).drew).kept hb5)
    have KK2 := True.intro
    obtain ⟨q5, c5, rfl, _, _⟩ := ho.arg
    obtain ⟨x0, x1, x2, x3, x4⟩ := X5.out.at_.rt
    simp only [Nat.zero_add] at x0 x1 x2 x3 x4
    clear hHeld ho hb5
    go_wp2_with fail
    refine hK.out _ _ KK2 (fun hHeld => ?_)
    clear hK K
    refine wpAnyH_ready (rs := [4]) (by kernel_rfl) (by simp) ?_
    refine (AllReadyH.cons (o := { dst := some 45, op := Op.call { callee := Callee.value (Operand.func 25), args := #[Operand.tmp 43, Operand.tmp 44], argTypes := #[54, 64] }, type := 65, pos := "rib.go:121", after := #[{ on := 2, ground := Ground.data }, { on := 3, ground := Ground.data }, { on := 2, ground := Ground.chain }], guard := none }) rfl (fun K hK => ?_) AllReadyH.nil)
    go_simp
    go_at_call 25
    refine (learn_any _ w.heap.size _ ⟨⟨f, (a, l), m⟩, t⟩ (age t L) (Nat.le_trans (age_len t L) H.out.good.len) (HO5.out.down B4.out.size) ((H.out.good.age K1.out.1.1).keys) B5.out.size).mono ?_
    rintro r w6 (⟨hf, rfl, hb6⟩ | ⟨hf, v6, rfl, hl⟩)
    · exact absurd hf K4.out
    have B6 := Lib.hid (B5.out.trans hl.2.2)
    have L6 := Lib.hid hl
    obtain ⟨q6, c6, hv6, _, _⟩ := hl.1
    subst hv6
    clear hl
    have KK4 := True.intro
    clear hHeld
    go_wp2_with fail
    refine hK.out _ _ KK4 (fun hHeld => ?_)
    clear hK K
    refine wpAnyH_take (i := 5) (oi := { dst := some 40, op := Op.move (Operand.tmp 45), type := 65, pos := "rib.go:121", after := #[{ on := 4, ground := Ground.data }], guard := none }) (v := ?_) rfl (by kernel_rfl) (by kernel_rfl) (by kernel_rfl) (fun _ _ _ h => h) (Or.inl ⟨by rfl, ?_⟩) hHeld ?_
    rotate_left
    · (intro w hSw; (try dsimp only at hSw); go_simp; first | done | with_reducible rfl)
    simp only [Act.put, List.setIfInBounds_toArray, List.set_cons_zero, List.set_cons_succ]
    refine wpAnyH_take (i := 6) (oi := { dst := some 46, op := Op.extract (Operand.tmp 40) 0, type := 54, pos := "rib.go:121", after := #[{ on := 5, ground := Ground.data }], guard := none }) (v := ?_) rfl (by kernel_rfl) (by kernel_rfl) (by kernel_rfl) (fun _ _ _ h => h) (Or.inl ⟨by rfl, ?_⟩) hHeld ?_
    rotate_left
    · (intro w hSw; (try dsimp only at hSw); go_simp; first | done | with_reducible rfl)
    simp only [Act.put, List.setIfInBounds_toArray, List.set_cons_zero, List.set_cons_succ]
    refine wpAnyH_take (i := 7) (oi := { dst := some 47, op := Op.extract (Operand.tmp 40) 1, type := 38, pos := "rib.go:121", after := #[{ on := 5, ground := Ground.data }, { on := 8, ground := Ground.gcOnly Departure.lateStores }], guard := none }) (v := ?_) rfl (by kernel_rfl) (by kernel_rfl) (by kernel_rfl) (fun _ _ _ h => h) (Or.inl ⟨by rfl, ?_⟩) hHeld ?_
    rotate_left
    · (intro w hSw; (try dsimp only at hSw); go_simp; first | done | with_reducible rfl)
    simp only [Act.put, List.setIfInBounds_toArray, List.set_cons_zero, List.set_cons_succ]
    refine wpAnyH_take (i := 8) (oi := { dst := some 15, op := Op.assign (Operand.tmp 46), type := 54, pos := "rib.go:121", after := #[{ on := 6, ground := Ground.data }, { on := 4, ground := Ground.chain }, { on := 0, ground := Ground.phase }, { on := 1, ground := Ground.phase }, { on := 2, ground := Ground.phase }, { on := 3, ground := Ground.phase }, { on := 4, ground := Ground.phase }, { on := 5, ground := Ground.phase }, { on := 6, ground := Ground.phase }, { on := 7, ground := Ground.textOnly Departure.lateStores }], guard := none }) (v := ?_) rfl (by kernel_rfl) (by kernel_rfl) (by kernel_rfl) (fun _ _ _ h => h) (Or.inl ⟨by rfl, ?_⟩) hHeld ?_
    rotate_left
    · (intro w hSw; (try dsimp only at hSw); go_simp; first | done | with_reducible rfl)
    simp only [Act.put, List.setIfInBounds_toArray, List.set_cons_zero, List.set_cons_succ]
    refine wpAnyH_take (i := 9) (oi := { dst := some 16, op := Op.assign (Operand.tmp 47), type := 38, pos := "rib.go:121", after := #[{ on := 7, ground := Ground.data }, { on := 8, ground := Ground.chain }, { on := 0, ground := Ground.phase }, { on := 1, ground := Ground.phase }, { on := 2, ground := Ground.phase }, { on := 3, ground := Ground.phase }, { on := 4, ground := Ground.phase }, { on := 5, ground := Ground.phase }, { on := 6, ground := Ground.phase }, { on := 7, ground := Ground.phase }, { on := 8, ground := Ground.phase }], guard := none }) (v := ?_) rfl (by kernel_rfl) (by kernel_rfl) (by kernel_rfl) (fun _ _ _ h => h) (Or.inl ⟨by rfl, ?_⟩) hHeld ?_
    rotate_left
    · (intro w hSw; (try dsimp only at hSw); go_simp; first | done | with_reducible rfl)
    simp only [Act.put, List.setIfInBounds_toArray, List.set_cons_zero, List.set_cons_succ]
    refine wpAnyH_done (by kernel_rfl) ?_ _
    have b6 := H.out.box.kept B6.out
    obtain ⟨blt, c0, c1, f0, f1⟩ := b6
    go_wp2_with fail
    go_ret
    refine ⟨rfl, RStp.put (s := (t, learn ⟨⟨f, (a, l), m⟩, t⟩ (age t L))) H.out B6.out L6.out.1 L6.out.2.1 ?_⟩
    exact ⟨(H.out.good.age K1.out.1.1).learn ⟨K1.out.2.1, K1.out.2.2, HA4.out, K3.out.1, K3.out.2, (by have := H.out.n0; have := K1.out.1.1; show 0 ≤ t; omega), Int.le_refl _⟩ K4.out, (by have := H.out.n0; have := K1.out.1.1; show 0 ≤ t; omega), K1.out.1.2⟩

theorem rLearn_any {w : World} {p : Nat} {v : Value} {now : Int} {L : List Rt} (h : Rbd w p v now L) (f : Int) (a : Nat) (l m t : Int) (ha : a < 4294967296) :
    Calls Tryd.prog 8 #[.pointer (some ⟨p, 0, none⟩), .int .i64 f, .agg #[.int .u32 (a : Int), .int .i64 l], .int .i64 m, .int .i64 t] w fun r w' => r = .returned (errV (learnE (now, L) f (a, l) m t)) ∧ RStp w w' p v (learnS (now, L) f (a, l) m t) := by
  have e0 : ∀ {k : Int}, learnE (now, L) f (a, l) m t = k → k ≠ 0 → learnS (now, L) f (a, l) m t = (now, L) := fun h1 h2 => by
    unfold learnS
    rw [if_neg (by rw [h1]; exact h2)]
  by_cases k1 : okT now t ∧ near f
  · have n1 : nearE (now, L) f t = 0 := if_pos k1
    by_cases k2 : PrefP.chk a l = 0
    · by_cases k3 : 1 ≤ m ∧ m ≤ 16
      · have n3 : metE m = 0 := if_pos k3
        by_cases k4 : full ⟨⟨f, (a, l), m⟩, t⟩ (age t L)
        · have e : learnE (now, L) f (a, l) m t = 4 := by
            unfold learnE
            rw [if_neg (by rw [n1]; simp), if_neg (by simp [k2]), if_neg (by rw [n3]; simp), if_pos k4]
          rw [e0 e (by decide), e]
          exact rLearn_4 h f a l m t ha k1 k2 k3 k4
        · have e : learnE (now, L) f (a, l) m t = 0 := by
            unfold learnE
            rw [if_neg (by rw [n1]; simp), if_neg (by simp [k2]), if_neg (by rw [n3]; simp), if_neg k4]
          have es : learnS (now, L) f (a, l) m t = (t, learn ⟨⟨f, (a, l), m⟩, t⟩ (age t L)) := if_pos e
          rw [es, e]
          exact rLearn_5 h f a l m t ha k1 k2 k3 k4
      · have e : learnE (now, L) f (a, l) m t = 1 := by
          unfold learnE
          rw [if_neg (by rw [n1]; simp), if_neg (by simp [k2]), if_pos (by unfold metE; rw [if_neg k3]; simp)]
        rw [e0 e (by decide), e]
        exact rLearn_3 h f a l m t ha k1 k2 k3
    · have e : learnE (now, L) f (a, l) m t = PrefP.chk a l := by
        unfold learnE
        rw [if_neg (by rw [n1]; simp), if_pos k2]
      rw [e0 e k2, e, show errV (PrefP.chk a l) = .iface 30 (.int .i64 (PrefP.chk a l)) from if_neg k2]
      exact rLearn_2 h f a l m t _ rfl ha k1 k2
  · have e : learnE (now, L) f (a, l) m t = 1 := by
      unfold learnE
      rw [if_pos (by unfold nearE; rw [if_neg k1]; simp)]
    rw [e0 e (by decide), e]
    exact rLearn_1 h f a l m t k1
end Go.Proofs.YtoocmogmocapoaaDoor
