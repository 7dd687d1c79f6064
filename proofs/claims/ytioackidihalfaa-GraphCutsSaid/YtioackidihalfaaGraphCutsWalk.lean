/-
  The law GraphCuts at every argument: it tells true; what lay in memory stays.
-/
import Derived.Test.YtioackidihalfaaGraphCutsBad
import Derived.Test.YtioackidihalfaaGraphNear
import Derived.Test.YtioackidihalfaaGraphCut
import Derived.Test.YtioackidihalfaaGraphMore
import Derived.Test.YtioackidihalfaaRefIn
import Derived.StillTailTactics
import Derived.Deep.QuietTactic
import Derived.BigQuiet
namespace Go.Proofs.Ytioackidihalfaa
open Go.RowKit Go.Lib

theorem Below.drewN {B : Nat} {w W : World} (h : Below B w W) (n : Nat) : Below B w (W.drewN n) := ⟨h.os, h.tape, h.output, h.size, h.block⟩

set_option maxHeartbeats 2000000 in
set_option maxRecDepth 100000 in
theorem cuts_near (w : World) (m i k : Nat) (a b : Int) (v : Value) (l : List Lk) (hn : l.length * 24 ≤ 140737488355328) (h : ArgK w v l) (hg : gBad m l = 0) (hi : i < m) (hk : k < m) :
    Calls Try.prog 3 #[.int .i64 m, v, .int .i64 a, .int .i64 b, .int .i64 i, .int .i64 k] w fun e w' => e = .returned (.bool true) ∧ Below w.heap.size w w' := by
  have HK := Lib.hid h
  have HC := Lib.hid (fun w1 (hb : Below w.heap.size w w1) => gCheck_any w1 m v l (by omega) (HK.out.below hb))
  rw [hg, show errV 0 = Value.nilIface from rfl] at HC
  have HGB := Lib.hid hg
  obtain ⟨hm, hr⟩ := (gBad_zero _ _).1 hg
  have HR := Lib.hid hr
  have HGX : Hid (gBad m (backG l) = 0) := Lib.hid ((gBad_zero _ _).2 ⟨hm, right_back hr⟩)
  clear hg hr
  obtain ⟨p, c, rfl, hS⟩ := h
  have HS := Lib.hid hS; clear hS
  have q1 : ¬ ((i : Int) < 0) := by omega
  have q2 : ¬ ((m : Int) ≤ (i : Int)) := by omega
  have q3 : ¬ ((k : Int) < 0) := by omega
  have q4 : ¬ ((m : Int) ≤ (k : Int)) := by omega
  go_enter Try.func3, Try.ntmps3
  go_wp2_with fail
  refine (linked_any _).mono ?_
  rintro e w1 ⟨rfl, hb1⟩
  have HB1 := Lib.hid hb1; clear hb1
  go_wp2_with fail
  refine (HC.out w1 HB1.out).mono ?_
  rintro e w2 ⟨rfl, hb2⟩
  have HB2 := Lib.hid (Below.two HB1.out hb2); clear hb2 HB1
  go_wp2_with fail
  rw [decide_eq_false (p := (i : Int) < 0) (by omega), decide_eq_false (p := (k : Int) < 0) (by omega), decide_eq_false (p := m ≤ i) (by omega), decide_eq_false (p := m ≤ k) (by omega)]
  simp only [Bool.or_self]
  clear q1 q2 q3 q4
  go_loopw [14, 15] (fun u x wr => ∃ (j : Nat), x = .int .i64 ((j : Int) - 1) ∧ j ≤ l.length ∧ Hid (Below w2.heap.size w2 wr) ∧ Hid (OwnK wr w2.heap.size u (backG (l.drop j)))) (fun _ x _ => (RowKit.intOf x + 1).toNat)
  case atStart => exact ⟨l.length, by go_num, Nat.le_refl _, Lib.hid (Below.refl _ _), Lib.hid (by rw [List.drop_length]; exact OwnK.nil _ _)⟩
  case round =>
    obtain ⟨j, rfl, hj, hB, HO⟩ := hrel
    cases j with
    | succ j =>
      rw [show ((j + 1 : Nat) : Int) - 1 = (j : Int) by omega]
      have hne : l ≠ [] := fun e => by rw [e] at hj; simp at hj
      obtain ⟨b0, off, rfl, hb0, hs⟩ : ∃ b off, p = some ⟨b, off, none⟩ ∧ b < w.heap.size ∧ SeenK w b off l := by
        rcases HS.out with e | hs
        · exact absurd e hne
        · exact hs
      have hBw := Below.two HB2.out hB.out
      have S := hs.below hBw hb0
      have s0 : wr.cell? ⟨b0, off + j * 3, none⟩ = some (.int .i64 l[j]!.1) := S.c0 j hj
      have s1 : wr.cell? ⟨b0, off + j * 3 + 1, none⟩ = some (.int .i64 l[j]!.2.1) := S.c1 j hj
      have s2 : wr.cell? ⟨b0, off + j * 3 + 2, none⟩ = some (.int .i64 l[j]!.2.2) := S.c2 j hj
      have hd := Lib.hid (drop_atK l j hj)
      have HSS := Lib.hid (fun (w4 : World) (hb4 : Below w2.heap.size w2 w4) => And.intro ((hs.below (Below.two HB2.out hb4) hb0).c0 j hj) (And.intro ((hs.below (Below.two HB2.out hb4) hb0).c1 j hj) ((hs.below (Below.two HB2.out hb4) hb0).c2 j hj)))
      unfold Lk.v0 Lk.v1 Lk.v2 at HSS
      clear S hBw hs hne
      generalize l[j]! = x at s0 s1 s2 hd HSS
      have hlen : (backG (l.drop (j + 1))).length + 1 ≤ l.length := by rw [backG_len, List.length_drop]; omega
      have HLen := Lib.hid hlen; clear hlen
      have hjl : (j : Int) < (l.length : Int) := by omega
      go_wp2_with fail
      have HA := Lib.hid (HO.out.keep (((Below.refl wr.heap.size wr).drew).alloc (Nat.le_refl _) (.cells #[.int .i64 x.2.1, .int .i64 x.1, .int .i64 x.2.2] 28)))
      have HX := Lib.hid (Box3.new wr.drew (.int .i64 x.2.1) (.int .i64 x.1) (.int .i64 x.2.2) 28)
      --REG
      refine wp_region_held_drew (S := (fun w' => w'.cell? ⟨b0, off + j * 3, none⟩ = some (.int .i64 x.1) ∧ w'.cell? ⟨b0, off + j * 3 + 1, none⟩ = some (.int .i64 x.2.1) ∧ w'.cell? ⟨b0, off + j * 3 + 2, none⟩ = some (.int .i64 x.2.2))) (by kernel_rfl) ⟨s0, s1, s2⟩ (fun hHeld => ?_)
      refine wpAnyH_take (i := 0) (oi := { dst := some 62, op := Op.move (Operand.tmp 14), type := 22, pos := "ways.go:130", after := #[], guard := none }) (v := ?_) rfl (by kernel_rfl) (by kernel_rfl) (by kernel_rfl) (fun _ _ _ h => h) (Or.inl ⟨by rfl, ?_⟩) hHeld ?_
      rotate_left
      · (intro w hSw; (try dsimp only at hSw); go_simp; first | done | with_reducible rfl)
      simp only [Act.put, List.setIfInBounds_toArray, List.set_cons_zero, List.set_cons_succ]
      refine wpAnyH_take (i := 1) (oi := { dst := some 63, op := Op.move (Operand.tmp 1), type := 22, pos := "ways.go:130", after := #[], guard := none }) (v := ?_) rfl (by kernel_rfl) (by kernel_rfl) (by kernel_rfl) (fun _ _ _ h => h) (Or.inl ⟨by rfl, ?_⟩) hHeld ?_
      rotate_left
      · (intro w hSw; (try dsimp only at hSw); go_simp; first | done | with_reducible rfl)
      simp only [Act.put, List.setIfInBounds_toArray, List.set_cons_zero, List.set_cons_succ]
      refine wpAnyH_take (i := 2) (oi := { dst := some 64, op := Op.move (Operand.tmp 15), type := 3, pos := "ways.go:130", after := #[], guard := none }) (v := ?_) rfl (by kernel_rfl) (by kernel_rfl) (by kernel_rfl) (fun _ _ _ h => h) (Or.inl ⟨by rfl, ?_⟩) hHeld ?_
      rotate_left
      · (intro w hSw; (try dsimp only at hSw); go_simp; first | done | with_reducible rfl)
      simp only [Act.put, List.setIfInBounds_toArray, List.set_cons_zero, List.set_cons_succ]
      refine wpAnyH_take (i := 3) (oi := { dst := some 65, op := Op.indexAddr 22 (Operand.tmp 63) (Operand.tmp 64), type := 0, pos := "ways.go:130", after := #[{ on := 1, ground := Ground.data }, { on := 2, ground := Ground.data }], guard := none }) (v := ?_) rfl (by kernel_rfl) (by kernel_rfl) (by kernel_rfl) (fun _ _ _ h => h) (Or.inl ⟨by rfl, ?_⟩) hHeld ?_
      rotate_left
      · (intro w hSw; (try dsimp only at hSw); go_simp; first | done | with_reducible rfl)
      simp only [Act.put, List.setIfInBounds_toArray, List.set_cons_zero, List.set_cons_succ]
      refine wpAnyH_take (i := 4) (oi := { dst := some 66, op := Op.fieldAddr 28 (Operand.tmp 65) 1, type := 0, pos := "ways.go:130", after := #[{ on := 3, ground := Ground.data }], guard := none }) (v := ?_) rfl (by kernel_rfl) (by kernel_rfl) (by kernel_rfl) (fun _ _ _ h => h) (Or.inl ⟨by rfl, ?_⟩) hHeld ?_
      rotate_left
      · (intro w hSw; (try dsimp only at hSw); go_simp; first | done | with_reducible rfl)
      simp only [Act.put, List.setIfInBounds_toArray, List.set_cons_zero, List.set_cons_succ]
      refine wpAnyH_take (i := 5) (oi := { dst := some 67, op := Op.load 3 (Operand.tmp 66), type := 3, pos := "ways.go:130", after := #[{ on := 4, ground := Ground.data }], guard := none }) (v := ?_) rfl (by kernel_rfl) (by kernel_rfl) (by kernel_rfl) (fun _ _ _ h => h) (Or.inl ⟨by rfl, ?_⟩) hHeld ?_
      rotate_left
      · (intro w hSw; (try dsimp only at hSw); go_simp; first | done | with_reducible rfl)
      simp only [Act.put, List.setIfInBounds_toArray, List.set_cons_zero, List.set_cons_succ]
      refine wpAnyH_take (i := 6) (oi := { dst := some 68, op := Op.move (Operand.tmp 1), type := 22, pos := "ways.go:130", after := #[], guard := none }) (v := ?_) rfl (by kernel_rfl) (by kernel_rfl) (by kernel_rfl) (fun _ _ _ h => h) (Or.inl ⟨by rfl, ?_⟩) hHeld ?_
      rotate_left
      · (intro w hSw; (try dsimp only at hSw); go_simp; first | done | with_reducible rfl)
      simp only [Act.put, List.setIfInBounds_toArray, List.set_cons_zero, List.set_cons_succ]
      refine wpAnyH_take (i := 7) (oi := { dst := some 69, op := Op.move (Operand.tmp 15), type := 3, pos := "ways.go:130", after := #[], guard := none }) (v := ?_) rfl (by kernel_rfl) (by kernel_rfl) (by kernel_rfl) (fun _ _ _ h => h) (Or.inl ⟨by rfl, ?_⟩) hHeld ?_
      rotate_left
      · (intro w hSw; (try dsimp only at hSw); go_simp; first | done | with_reducible rfl)
      simp only [Act.put, List.setIfInBounds_toArray, List.set_cons_zero, List.set_cons_succ]
      refine wpAnyH_take (i := 8) (oi := { dst := some 70, op := Op.indexAddr 22 (Operand.tmp 68) (Operand.tmp 69), type := 0, pos := "ways.go:130", after := #[{ on := 6, ground := Ground.data }, { on := 7, ground := Ground.data }], guard := none }) (v := ?_) rfl (by kernel_rfl) (by kernel_rfl) (by kernel_rfl) (fun _ _ _ h => h) (Or.inl ⟨by rfl, ?_⟩) hHeld ?_
      rotate_left
      · (intro w hSw; (try dsimp only at hSw); go_simp; first | done | with_reducible rfl)
      simp only [Act.put, List.setIfInBounds_toArray, List.set_cons_zero, List.set_cons_succ]
      refine wpAnyH_take (i := 9) (oi := { dst := some 71, op := Op.fieldAddr 28 (Operand.tmp 70) 0, type := 0, pos := "ways.go:130", after := #[{ on := 8, ground := Ground.data }], guard := none }) (v := ?_) rfl (by kernel_rfl) (by kernel_rfl) (by kernel_rfl) (fun _ _ _ h => h) (Or.inl ⟨by rfl, ?_⟩) hHeld ?_
      rotate_left
      · (intro w hSw; (try dsimp only at hSw); go_simp; first | done | with_reducible rfl)
      simp only [Act.put, List.setIfInBounds_toArray, List.set_cons_zero, List.set_cons_succ]
      refine wpAnyH_take (i := 10) (oi := { dst := some 72, op := Op.load 3 (Operand.tmp 71), type := 3, pos := "ways.go:130", after := #[{ on := 9, ground := Ground.data }], guard := none }) (v := ?_) rfl (by kernel_rfl) (by kernel_rfl) (by kernel_rfl) (fun _ _ _ h => h) (Or.inl ⟨by rfl, ?_⟩) hHeld ?_
      rotate_left
      · (intro w hSw; (try dsimp only at hSw); go_simp; first | done | with_reducible rfl)
      simp only [Act.put, List.setIfInBounds_toArray, List.set_cons_zero, List.set_cons_succ]
      refine wpAnyH_take (i := 11) (oi := { dst := some 73, op := Op.move (Operand.tmp 1), type := 22, pos := "ways.go:130", after := #[], guard := none }) (v := ?_) rfl (by kernel_rfl) (by kernel_rfl) (by kernel_rfl) (fun _ _ _ h => h) (Or.inl ⟨by rfl, ?_⟩) hHeld ?_
      rotate_left
      · (intro w hSw; (try dsimp only at hSw); go_simp; first | done | with_reducible rfl)
      simp only [Act.put, List.setIfInBounds_toArray, List.set_cons_zero, List.set_cons_succ]
      refine wpAnyH_take (i := 12) (oi := { dst := some 74, op := Op.move (Operand.tmp 15), type := 3, pos := "ways.go:130", after := #[], guard := none }) (v := ?_) rfl (by kernel_rfl) (by kernel_rfl) (by kernel_rfl) (fun _ _ _ h => h) (Or.inl ⟨by rfl, ?_⟩) hHeld ?_
      rotate_left
      · (intro w hSw; (try dsimp only at hSw); go_simp; first | done | with_reducible rfl)
      simp only [Act.put, List.setIfInBounds_toArray, List.set_cons_zero, List.set_cons_succ]
      refine wpAnyH_take (i := 13) (oi := { dst := some 75, op := Op.indexAddr 22 (Operand.tmp 73) (Operand.tmp 74), type := 0, pos := "ways.go:130", after := #[{ on := 11, ground := Ground.data }, { on := 12, ground := Ground.data }], guard := none }) (v := ?_) rfl (by kernel_rfl) (by kernel_rfl) (by kernel_rfl) (fun _ _ _ h => h) (Or.inl ⟨by rfl, ?_⟩) hHeld ?_
      rotate_left
      · (intro w hSw; (try dsimp only at hSw); go_simp; first | done | with_reducible rfl)
      simp only [Act.put, List.setIfInBounds_toArray, List.set_cons_zero, List.set_cons_succ]
      refine wpAnyH_take (i := 14) (oi := { dst := some 76, op := Op.fieldAddr 28 (Operand.tmp 75) 2, type := 0, pos := "ways.go:130", after := #[{ on := 13, ground := Ground.data }], guard := none }) (v := ?_) rfl (by kernel_rfl) (by kernel_rfl) (by kernel_rfl) (fun _ _ _ h => h) (Or.inl ⟨by rfl, ?_⟩) hHeld ?_
      rotate_left
      · (intro w hSw; (try dsimp only at hSw); go_simp; first | done | with_reducible rfl)
      simp only [Act.put, List.setIfInBounds_toArray, List.set_cons_zero, List.set_cons_succ]
      refine wpAnyH_take (i := 15) (oi := { dst := some 77, op := Op.load 3 (Operand.tmp 76), type := 3, pos := "ways.go:130", after := #[{ on := 14, ground := Ground.data }], guard := none }) (v := ?_) rfl (by kernel_rfl) (by kernel_rfl) (by kernel_rfl) (fun _ _ _ h => h) (Or.inl ⟨by rfl, ?_⟩) hHeld ?_
      rotate_left
      · (intro w hSw; (try dsimp only at hSw); go_simp; first | done | with_reducible rfl)
      simp only [Act.put, List.setIfInBounds_toArray, List.set_cons_zero, List.set_cons_succ]
      refine wpAnyH_take (i := 16) (oi := { dst := some 78, op := Op.build 28 #[(0, Operand.tmp 67), (1, Operand.tmp 72), (2, Operand.tmp 77)], type := 28, pos := "ways.go:130", after := #[{ on := 5, ground := Ground.data }, { on := 10, ground := Ground.data }, { on := 15, ground := Ground.data }], guard := none }) (v := ?_) rfl (by kernel_rfl) (by kernel_rfl) (by kernel_rfl) (fun _ _ _ h => h) (Or.inl ⟨by rfl, ?_⟩) hHeld ?_
      rotate_left
      · (intro w hSw; (try dsimp only at hSw); go_simp; first | done | with_reducible rfl)
      simp only [Act.put, List.setIfInBounds_toArray, List.set_cons_zero, List.set_cons_succ]
      refine wpAnyH_ready (rs := [17]) (by kernel_rfl) (by simp) ?_
      refine (AllReadyH.cons (o := { dst := some 79, op := Op.buildSlice 22 1 #[(0, Operand.tmp 78)], type := 22, pos := "ways.go:130", after := #[{ on := 16, ground := Ground.data }], guard := none }) rfl (fun K hK => ?_) AllReadyH.nil)
      go_simp
      have KK17 := And.intro (Lib.cell?_alloc_some (.cells #[.int .i64 x.2.1, .int .i64 x.1, .int .i64 x.2.2] 28) hHeld.1) (And.intro (Lib.cell?_alloc_some (.cells #[.int .i64 x.2.1, .int .i64 x.1, .int .i64 x.2.2] 28) hHeld.2.1) (Lib.cell?_alloc_some (.cells #[.int .i64 x.2.1, .int .i64 x.1, .int .i64 x.2.2] 28) hHeld.2.2))
      clear hHeld
      refine hK.out _ _ KK17 (fun hHeld => ?_)
      clear hK K
      refine wpAnyH_ready (rs := [18]) (by kernel_rfl) (by simp) ?_
      refine (AllReadyH.cons (o := { dst := some 80, op := Op.call { callee := Callee.builtin Builtin.append, args := #[Operand.tmp 62, Operand.tmp 79], argTypes := #[22, 22] }, type := 22, pos := "ways.go:130", after := #[{ on := 0, ground := Ground.data }, { on := 17, ground := Ground.data }], guard := none }) rfl (fun K hK => ?_) AllReadyH.nil)
      rw [if_pos (by rfl)]
      refine wp_append_oneK _ _ rfl w2.heap.size _ (backG (l.drop (j + 1))) (swp x) wr.heap.size 1 rfl rfl HA.out HX.out (by have := HLen.out; omega) (Nat.le_trans hB.out.size (Nat.le_trans (Nat.le_succ _) HX.out.lt)) ?_
      intro v' w4 hO4 hg4 _
      have B4 := (hB.out.drew.alloc hB.out.size (.cells #[.int .i64 x.2.1, .int .i64 x.1, .int .i64 x.2.2] 28)).grown hg4 (Nat.le_trans hB.out.size (Nat.le_trans (Nat.le_succ _) HX.out.lt)) HO.out.past
      have KK18 := HSS.out w4 B4
      clear hHeld
      have HB4 := Lib.hid B4; have HO4 := Lib.hid hO4
      clear hO4 hg4 B4
      simp only [Act.put, List.setIfInBounds_toArray, List.set_cons_zero, List.set_cons_succ]
      refine hK.out _ _ KK18 (fun hHeld => ?_)
      clear hK K
      refine wpAnyH_take (i := 19) (oi := { dst := some 14, op := Op.assign (Operand.tmp 80), type := 22, pos := "ways.go:130", after := #[{ on := 18, ground := Ground.data }, { on := 18, ground := Ground.chain }, { on := 0, ground := Ground.phase }, { on := 1, ground := Ground.phase }, { on := 2, ground := Ground.phase }, { on := 3, ground := Ground.phase }, { on := 4, ground := Ground.phase }, { on := 5, ground := Ground.phase }, { on := 6, ground := Ground.phase }, { on := 7, ground := Ground.phase }, { on := 8, ground := Ground.phase }, { on := 9, ground := Ground.phase }, { on := 10, ground := Ground.phase }, { on := 11, ground := Ground.phase }, { on := 12, ground := Ground.phase }, { on := 13, ground := Ground.phase }, { on := 14, ground := Ground.phase }, { on := 15, ground := Ground.phase }, { on := 16, ground := Ground.phase }, { on := 17, ground := Ground.phase }, { on := 18, ground := Ground.phase }], guard := none }) (v := ?_) rfl (by kernel_rfl) (by kernel_rfl) (by kernel_rfl) (fun _ _ _ h => h) (Or.inl ⟨by rfl, ?_⟩) hHeld ?_
      rotate_left
      · (intro w hSw; (try dsimp only at hSw); go_simp; first | done | with_reducible rfl)
      simp only [Act.put, List.setIfInBounds_toArray, List.set_cons_zero, List.set_cons_succ]
      refine wpAnyH_done (by kernel_rfl) ?_ _
      clear hHeld
      --END
      go_wp2_with fail
      go_roundw
      case rel => exact ⟨j, by go_num, by omega, HB4, Lib.hid (by rw [hd.out, backG_cons]; exact HO4.out)⟩
      case measure => simp [RowKit.intOf]
    | zero =>
      rw [show ((0 : Nat) : Int) - 1 = -1 by omega]
      rw [List.drop_zero] at HO
      have HO := Lib.hid HO.out.arg
      obtain ⟨pb, cb, rfl⟩ := HO.out.form
      have HBw := Lib.hid (Below.two HB2.out hB.out)
      clear hB HB2 HS
      go_wp2_with fail
      refine (costs_ok wr m _ l (by omega) (HK.out.below HBw.out) HGB.out).mono ?_
      rintro e w3 ⟨g1, hg1, rfl, hG1, hb3⟩
      have HG1 := Lib.hid hG1
      have HB3 := Lib.hid (Below.two HBw.out hb3)
      have HO3 := Lib.hid (HO.out.below hb3)
      clear hG1 hb3 HBw HO hg1
      go_wp2_with fail
      refine (costs_ok w3 m _ (backG l) (by rw [backG_len]; omega) HO3.out HGX.out).mono ?_
      rintro e w4 ⟨g2, hg2, rfl, hG2, hb4⟩
      have HS4 := sameRows_any w4 _ _ _ _ (by rw [rowsF_len]; omega) (fun r hr => by rw [rowsF_row _ _ r hr]; omega) (HG1.out.keep hb4).arg hG2.arg
      rw [decide_eq_true (by
        show rowsF m _ = rowsF m _
        congr 1
        funext x y
        exact (cost_back HR.out x y).symm)] at HS4
      have HS4 := Lib.hid HS4
      have HG4 := Lib.hid (HG1.out.keep hb4)
      have HB4 := Lib.hid (Below.two HB3.out hb4)
      clear hG2 hb4 HB3 HG1 hg2 HO3
      go_wp2_with fail
      refine HS4.out.mono ?_
      rintro e w5 ⟨rfl, hb5⟩
      have HG5 := Lib.hid (HG4.out.keep hb5)
      have HB5 := Lib.hid (Below.two HB4.out hb5)
      clear hb5 HB4 HG4 HS4
      go_wp2_with fail
      refine (near_ok w5 m i _ l (by omega) (HK.out.below HB5.out) HGB.out hi).mono ?_
      rintro e w6 ⟨u6, rfl, hO6, hb6⟩
      have HG6 := Lib.hid (HG5.out.keep hb6)
      have HB6 := Lib.hid (Below.two HB5.out hb6)
      have HO6 := Lib.hid hO6.arg
      clear hb6 HB5 HG5 hO6
      go_wp2_with fail
      refine (near_ok w6 m k _ l (by omega) (HK.out.below HB6.out) HGB.out hk).mono ?_
      rintro e w7 ⟨u7, rfl, hO7, hb7⟩
      have HG7 := Lib.hid (HG6.out.keep hb7)
      have HB7 := Lib.hid (Below.two HB6.out hb7)
      have hq : ∀ n, Below w7.heap.size w7 (w7.drewN n) := fun n => Below.drewN (Below.refl _ _) n
      have hln := nearG_len l i m
      have hln' := nearG_len l k m
      have HI1 := Lib.hid (fun n => refIn_any (w7.drewN n) u6 (nearG l i m) k (by omega) ((HO6.out.below hb7).below (hq n)))
      have HI2 := Lib.hid (fun n => refIn_any (w7.drewN n) u7 (nearG l k m) i (by omega) (hO7.arg.below (hq n)))
      rw [near_both l m i k hi hk] at HI1
      generalize decide ((i : Int) ∈ nearG l k m) = d at HI1 HI2
      have o1 := HG7.out.o i hi
      have o2 := HG7.out.o k hk
      have e1 := HG7.out.e i hi k hk
      have e2 := HG7.out.e k hk i hi
      rw [costG_swap l k i] at e2
      have hin1 : (i : Int) < (m : Int) := by omega
      have hkn1 : (k : Int) < (m : Int) := by omega
      generalize hz : costG l (i : Int) (k : Int) = z at e1 e2
      have HZ := Lib.hid hz
      clear hb7 HB6 HG6 hO7 HO6 hq hln hln' hz
      go_wp2_with fail
      go_quiet (first | (go_at_call_of 9 u6; exact Calls.quiet_of_same (HI1.out _)) | (go_at_call_of 9 u7; exact Calls.quiet_of_same (HI2.out _)))
      have HG8 := Lib.hid (HG7.out.keep (Below.drewN (Below.refl _ _) nq))
      have HB8 := Lib.hid (Below.drewN HB7.out nq)
      clear o1 o2 e1 e2 HI1 HI2 HB7 HG7
      generalize w7.drewN nq = w8 at HG8 HB8 ⊢
      by_cases hl : (less l a b).length = l.length
      · have HCut := Lib.hid (cut_no w8 m a b _ l (by omega) (HK.out.below HB8.out) HGB.out hl)
        clear hl
        go_wp2_with fail
        refine HCut.out.mono ?_
        rintro e w9 ⟨rfl, hb9⟩
        have HB9 := Lib.hid (Below.two HB8.out hb9); clear hb9
        go_wp2_with fail
        go_ret
        exact ⟨rfl, HB9.out⟩
      · have HCut := Lib.hid (cut_yes w8 m a b _ l (by omega) (HK.out.below HB8.out) HGB.out hl)
        have HE := Lib.hid (cost_less HR.out a b hl i k)
        have HGL : Hid (gBad m (less l a b) = 0) := Lib.hid ((gBad_zero _ _).2 ⟨hm, right_less HR.out a b⟩)
        have HLL : Hid ((less l a b).length < 4611686018427387904) := Lib.hid (Nat.lt_of_le_of_lt (List.length_filter_le _ l) (by omega))
        rw [HZ.out] at HE
        clear hl
        generalize less l a b = l2 at HCut HE HGL HLL
        go_wp2_with fail
        refine HCut.out.mono ?_
        rintro e w9 ⟨g3, cap, hg3, rfl, hR, hb9⟩
        have HB9 := Lib.hid (Below.two HB8.out hb9)
        have HG9 := Lib.hid (HG8.out.keep hb9)
        have HC9 := Lib.hid (costs_ok w9 m (.slice (some ⟨g3, 0, none⟩) l2.length cap) l2 HLL.out ⟨_, cap, rfl, Or.inr ⟨g3, 0, rfl, hR.lt, hR.seen l2 (Nat.le_refl _) (fun _ _ => rfl)⟩⟩ HGL.out)
        clear hb9 HB8 HG8 hR hg3
        go_wp2_with fail
        refine HC9.out.mono ?_
        rintro e w10 ⟨g4, hg4, rfl, hG4, hb10⟩
        have HB10 := Lib.hid (Below.two HB9.out hb10)
        have G10 := HG9.out.keep hb10
        have o1 := G10.o i hi
        have e1 := G10.e i hi k hk
        rw [HZ.out] at e1
        have o3 := hG4.o i hi
        have e3 := hG4.e i hi k hk
        rw [HE.out] at e3
        clear G10 hG4 hb10 HB9 HG9 hg4 HE HZ HC9
        by_cases hw : ((i : Int) = a ∧ (k : Int) = b) ∨ ((i : Int) = b ∧ (k : Int) = a)
        · rw [if_pos hw] at e3
          rcases hw with ⟨rfl, rfl⟩ | ⟨rfl, rfl⟩
          · go_wp2_with fail
            go_ret
            exact ⟨rfl, HB10.out⟩
          · by_cases hik : i = k
            · subst hik
              go_wp2_with fail
              go_ret
              exact ⟨rfl, HB10.out⟩
            · have t1 : ((i : Int) == (k : Int)) = false := by
                have : ¬ (i : Int) = k := by omega
                simpa using this
              go_wp2_with fail
              go_ret
              exact ⟨rfl, HB10.out⟩
        · rw [if_neg hw] at e3
          by_cases h1 : (i : Int) = a
          · subst h1
            have t2 : ((k : Int) == b) = false := by
              have : ¬ (k : Int) = b := fun e => hw (Or.inl ⟨rfl, e⟩)
              simpa using this
            by_cases h3 : (i : Int) = b
            · subst h3
              have t4 : ((k : Int) == (i : Int)) = false := t2
              clear hw
              go_wp2_with fail
              go_ret
              exact ⟨rfl, HB10.out⟩
            · have t3 : ((i : Int) == b) = false := by simpa using h3
              clear hw
              go_wp2_with fail
              go_ret
              exact ⟨rfl, HB10.out⟩
          · have t1 : ((i : Int) == a) = false := by simpa using h1
            by_cases h3 : (i : Int) = b
            · subst h3
              have t4 : ((k : Int) == a) = false := by
                have : ¬ (k : Int) = a := fun e => hw (Or.inr ⟨rfl, e⟩)
                simpa using this
              clear hw
              go_wp2_with fail
              go_ret
              exact ⟨rfl, HB10.out⟩
            · have t3 : ((i : Int) == b) = false := by simpa using h3
              clear hw
              go_wp2_with fail
              go_ret
              exact ⟨rfl, HB10.out⟩
/-- GraphCuts at every argument. -/
theorem graphCuts_walk (w : World) (n : Int) (v : Value) (a b i k : Int) (l : List Lk) (hn : l.length * 24 ≤ 140737488355328) (h : ArgK w v l) :
    Calls Try.prog 3 #[.int .i64 n, v, .int .i64 a, .int .i64 b, .int .i64 i, .int .i64 k] w fun e w' => e = .returned (.bool true) ∧ Below w.heap.size w w' := by
  by_cases hg : gBad n l = 0
  · by_cases hf : (0 ≤ i ∧ i < n) ∧ (0 ≤ k ∧ k < n)
    · have hi : i = ((i.toNat : Nat) : Int) := by omega
      have hk : k = ((k.toNat : Nat) : Int) := by omega
      have hm : n = ((n.toNat : Nat) : Int) := by omega
      rw [hi, hk]
      rw [hm] at hg ⊢
      exact cuts_near w n.toNat i.toNat k.toNat a b v l hn h hg (by omega) (by omega)
    · exact cuts_far w n a b i k v l hn h hg hf
  · exact cuts_bad w n a b i k v l hn h hg
end Go.Proofs.Ytioackidihalfaa
