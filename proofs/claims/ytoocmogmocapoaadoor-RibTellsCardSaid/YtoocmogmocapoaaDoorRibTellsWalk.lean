/-
  RibTells, walked: after any acts the rib answers as the document's own does.
-/
import Derived.Test.YtoocmogmocapoaaDoorTellsUse
import Derived.Test.YtoocmogmocapoaaDoorTellsArgs
import Derived.StillTailTactics
import Derived.Deep.CutBlock
import Derived.Deep.CutRange
import Derived.LoopN
namespace Go.Proofs.YtoocmogmocapoaaDoor
open Go.RowKit Go.Lib RibP

set_option maxHeartbeats 16000000 in
set_option maxRecDepth 100000 in
theorem ribTells_walk (w : World) (v0 v1 v2 v3 v4 : Value) (xs fs : List Int) (ns : List Nt) (ms ts : List Int) (hlen : xs.length * 8 ≤ 140737488355328) (h0 : ArgI w v0 xs) (h1 : ArgI w v1 fs) (h2 : Arg w v2 ns) (h3 : ArgI w v3 ms) (h4 : ArgI w v4 ts) (hok : ∀ x ∈ ns, x.1 < 4294967296) (hE : ErrType w) :
    Calls Tryd.prog 3 #[v0, v1, v2, v3, v4] w fun e w' => e = .returned (.bool true) ∧ Below w.heap.size w w' := by
  obtain ⟨p0, q0, rfl, _⟩ := id h0
  obtain ⟨p1, q1, rfl, _⟩ := id h1
  obtain ⟨p2, q2, rfl, _⟩ := id h2
  obtain ⟨p3, q3, rfl, _⟩ := id h3
  obtain ⟨p4, q4, rfl, _⟩ := id h4
  have HA0 := Lib.hid h0; have HA1 := Lib.hid h1; have HA2 := Lib.hid h2; have HA3 := Lib.hid h3; have HA4 := Lib.hid h4; have HOK := Lib.hid hok; have HE := Lib.hid hE
  have HF := Lib.hid (learnt_any w)
  clear h0 h1 h2 h3 h4 hok hE
  go_enter Tryd.func3, Tryd.ntmps3
  go_wp2_with fail
  refine HF.out.mono ?_
  rintro e w1 ⟨rfl, hb1⟩
  have HN := Lib.hid (new_oneB w w1 hb1)
  clear hb1 HF
  go_wp2_with fail
  refine HN.out.mono ?_
  rintro e w3 ⟨rfl, h3⟩
  have H3 := Lib.hid (new_tellB h3)
  clear h3 HN
  generalize w1.heap.size = p at H3 ⊢
  go_upto_block 0 with fail
  generalize w3.alloc (.cells #[.int .i64 0, .slice none 0 0] 29) = w4 at H3 ⊢
  generalize w3.heap.size = bm at H3 ⊢
  go_cut [14] from 15 to 185 (fun _ wc => Hid (Below w.heap.size w wc))
  case first =>
    go_wp2_with fail
    go_loopw [14] (fun u wr => ∃ (k : Nat) (s z : St), u = .int .i64 k ∧ k ≤ xs.length ∧ Hid (Mdl s z) ∧ Hid (TellB w wr p bm s z)) (fun v _ => xs.length - (RowKit.intOf v).toNat)
    case atStart => exact ⟨0, (0, []), (0, []), rfl, Nat.zero_le _, Lib.hid Mdl.new, H3⟩
    case round =>
      obtain ⟨k, s, ⟨zn, zM⟩, rfl, hk, HM, HT⟩ := hrel
      by_cases k0 : k < xs.length
      · by_cases k1 : k < fs.length
        · by_cases k2 : k < ns.length
          · by_cases k3 : k < ms.length
            · by_cases k4 : k < ts.length
              · obtain ⟨b0, o0, rfl, L0, c0⟩ := HA0.out.at k k0
                obtain ⟨b1, o1, rfl, L1, c1⟩ := HA1.out.at k k1
                obtain ⟨b2, o2, rfl, L2, c2, c2'⟩ := HA2.out.at k k2
                obtain ⟨b3, o3, rfl, L3, c3⟩ := HA3.out.at k k3
                obtain ⟨b4, o4, rfl, L4, c4⟩ := HA4.out.at k k4
                have HOKN := Lib.hid (HOK.out ns[k]! (by rw [getElem!_pos ns k k2]; exact List.getElem_mem k2))
                generalize xs[k]! = x at c0
                generalize fs[k]! = f at c1
                generalize ns[k]! = n at c2 c2' HOKN
                generalize ms[k]! = m at c3
                generalize ts[k]! = t at c4
                obtain ⟨na, nl⟩ := n
                have i0 := (HT.out.bel.cell (p := ⟨b0, o0 + k, none⟩) L0).trans c0
                have HC := Lib.hid (fun (W : World) (hW : Below w.heap.size w W) => And.intro ((hW.cell (p := ⟨b1, o1 + k, none⟩) L1).trans c1) (And.intro ((hW.cell (p := ⟨b2, o2 + k * 2, none⟩) L2).trans c2) (And.intro ((hW.cell (p := ⟨b2, o2 + k * 2 + 1, none⟩) L2).trans c2') (And.intro ((hW.cell (p := ⟨b3, o3 + k, none⟩) L3).trans c3) ((hW.cell (p := ⟨b4, o4 + k, none⟩) L4).trans c4)))))
                dsimp only [Nt.v0, Nt.v1] at HC
                clear c0 c1 c2 c2' c3 c4
                obtain ⟨zq, zl, zc, hbx, hla⟩ := HT.out.box
                have HX := Lib.hid hbx
                have HL := Lib.hid hla
                have HC7 := Lib.hid (fun (W : World) (hW : Below wr.heap.size wr W) => And.intro (hbx.kept hW).c0 (And.intro (hbx.kept hW).c1 (HC.out W (HT.out.below hW).bel)))
                clear hbx hla
                go_upto_if 62 with fail
                go_cut [15, 16, 17, 18] from 62 to 167 (fun _ c _ _ wc => ∃ s' z' : St, c = .bool true ∧ Hid (Mdl s' z') ∧ Hid (TellB w wc p bm s' z'))
                case first =>
                  by_cases x0 : x = 0
                  · have tx : (x == 0) = true := by rw [x0]; rfl
                    clear x0
                    go_wp2_with fail
                    refine wp_region_held_drew (S := (fun w' => w'.cell? ⟨bm, 0, none⟩ = some (.int .i64 zn) ∧ w'.cell? ⟨bm, 1, none⟩ = some (.slice zq zl zc) ∧ w'.cell? ⟨b1, o1 + k, none⟩ = some (.int .i64 f) ∧ w'.cell? ⟨b2, o2 + k * 2, none⟩ = some (.int .u32 (na : Int)) ∧ w'.cell? ⟨b2, o2 + k * 2 + 1, none⟩ = some (.int .i64 nl) ∧ w'.cell? ⟨b3, o3 + k, none⟩ = some (.int .i64 m) ∧ w'.cell? ⟨b4, o4 + k, none⟩ = some (.int .i64 t))) (by kernel_rfl) (HC7.out wr (Below.refl _ _)) (fun hHeld => ?_)
                    refine wpAnyH_take (i := 0) (oi := { dst := some 64, op := Op.load 29 (Operand.tmp 13), type := 29, pos := "told.go:41", after := #[], guard := none }) (v := ?_) rfl (by kernel_rfl) (by kernel_rfl) (by kernel_rfl) (fun _ _ _ h => h) (Or.inl ⟨by rfl, ?_⟩) hHeld ?_
                    rotate_left
                    · (intro w hSw; (try dsimp only at hSw); go_simp; first | done | with_reducible rfl)
                    simp only [Act.put, List.setIfInBounds_toArray, List.set_cons_zero, List.set_cons_succ]
                    refine wpAnyH_take (i := 1) (oi := { dst := some 65, op := Op.move (Operand.tmp 1), type := 22, pos := "told.go:41", after := #[], guard := none }) (v := ?_) rfl (by kernel_rfl) (by kernel_rfl) (by kernel_rfl) (fun _ _ _ h => h) (Or.inl ⟨by rfl, ?_⟩) hHeld ?_
                    rotate_left
                    · (intro w hSw; (try dsimp only at hSw); go_simp; first | done | with_reducible rfl)
                    simp only [Act.put, List.setIfInBounds_toArray, List.set_cons_zero, List.set_cons_succ]
                    refine wpAnyH_take (i := 2) (oi := { dst := some 66, op := Op.move (Operand.tmp 14), type := 3, pos := "told.go:41", after := #[], guard := none }) (v := ?_) rfl (by kernel_rfl) (by kernel_rfl) (by kernel_rfl) (fun _ _ _ h => h) (Or.inl ⟨by rfl, ?_⟩) hHeld ?_
                    rotate_left
                    · (intro w hSw; (try dsimp only at hSw); go_simp; first | done | with_reducible rfl)
                    simp only [Act.put, List.setIfInBounds_toArray, List.set_cons_zero, List.set_cons_succ]
                    refine wpAnyH_take (i := 3) (oi := { dst := some 67, op := Op.indexAddr 22 (Operand.tmp 65) (Operand.tmp 66), type := 0, pos := "told.go:41", after := #[{ on := 1, ground := Ground.data }, { on := 2, ground := Ground.data }], guard := none }) (v := ?_) rfl (by kernel_rfl) (by kernel_rfl) (by kernel_rfl) (fun _ _ _ h => h) (Or.inl ⟨by rfl, ?_⟩) hHeld ?_
                    rotate_left
                    · (intro w hSw; (try dsimp only at hSw); go_simp; first | done | with_reducible rfl)
                    simp only [Act.put, List.setIfInBounds_toArray, List.set_cons_zero, List.set_cons_succ]
                    refine wpAnyH_take (i := 4) (oi := { dst := some 68, op := Op.load 3 (Operand.tmp 67), type := 3, pos := "told.go:41", after := #[{ on := 3, ground := Ground.data }], guard := none }) (v := ?_) rfl (by kernel_rfl) (by kernel_rfl) (by kernel_rfl) (fun _ _ _ h => h) (Or.inl ⟨by rfl, ?_⟩) hHeld ?_
                    rotate_left
                    · (intro w hSw; (try dsimp only at hSw); go_simp; first | done | with_reducible rfl)
                    simp only [Act.put, List.setIfInBounds_toArray, List.set_cons_zero, List.set_cons_succ]
                    refine wpAnyH_take (i := 5) (oi := { dst := some 69, op := Op.move (Operand.tmp 2), type := 23, pos := "told.go:41", after := #[], guard := none }) (v := ?_) rfl (by kernel_rfl) (by kernel_rfl) (by kernel_rfl) (fun _ _ _ h => h) (Or.inl ⟨by rfl, ?_⟩) hHeld ?_
                    rotate_left
                    · (intro w hSw; (try dsimp only at hSw); go_simp; first | done | with_reducible rfl)
                    simp only [Act.put, List.setIfInBounds_toArray, List.set_cons_zero, List.set_cons_succ]
                    refine wpAnyH_take (i := 6) (oi := { dst := some 70, op := Op.move (Operand.tmp 14), type := 3, pos := "told.go:41", after := #[], guard := none }) (v := ?_) rfl (by kernel_rfl) (by kernel_rfl) (by kernel_rfl) (fun _ _ _ h => h) (Or.inl ⟨by rfl, ?_⟩) hHeld ?_
                    rotate_left
                    · (intro w hSw; (try dsimp only at hSw); go_simp; first | done | with_reducible rfl)
                    simp only [Act.put, List.setIfInBounds_toArray, List.set_cons_zero, List.set_cons_succ]
                    refine wpAnyH_take (i := 7) (oi := { dst := some 71, op := Op.indexAddr 23 (Operand.tmp 69) (Operand.tmp 70), type := 0, pos := "told.go:41", after := #[{ on := 5, ground := Ground.data }, { on := 6, ground := Ground.data }], guard := none }) (v := ?_) rfl (by kernel_rfl) (by kernel_rfl) (by kernel_rfl) (fun _ _ _ h => h) (Or.inl ⟨by rfl, ?_⟩) hHeld ?_
                    rotate_left
                    · (intro w hSw; (try dsimp only at hSw); go_simp; first | done | with_reducible rfl)
                    simp only [Act.put, List.setIfInBounds_toArray, List.set_cons_zero, List.set_cons_succ]
                    refine wpAnyH_take (i := 8) (oi := { dst := some 72, op := Op.load 35 (Operand.tmp 71), type := 35, pos := "told.go:41", after := #[{ on := 7, ground := Ground.data }], guard := none }) (v := ?_) rfl (by kernel_rfl) (by kernel_rfl) (by kernel_rfl) (fun _ _ _ h => h) (Or.inl ⟨by rfl, ?_⟩) hHeld ?_
                    rotate_left
                    · (intro w hSw; (try dsimp only at hSw); go_simp; first | done | with_reducible rfl)
                    simp only [Act.put, List.setIfInBounds_toArray, List.set_cons_zero, List.set_cons_succ]
                    refine wpAnyH_take (i := 9) (oi := { dst := some 73, op := Op.move (Operand.tmp 3), type := 22, pos := "told.go:41", after := #[], guard := none }) (v := ?_) rfl (by kernel_rfl) (by kernel_rfl) (by kernel_rfl) (fun _ _ _ h => h) (Or.inl ⟨by rfl, ?_⟩) hHeld ?_
                    rotate_left
                    · (intro w hSw; (try dsimp only at hSw); go_simp; first | done | with_reducible rfl)
                    simp only [Act.put, List.setIfInBounds_toArray, List.set_cons_zero, List.set_cons_succ]
                    refine wpAnyH_take (i := 10) (oi := { dst := some 74, op := Op.move (Operand.tmp 14), type := 3, pos := "told.go:41", after := #[], guard := none }) (v := ?_) rfl (by kernel_rfl) (by kernel_rfl) (by kernel_rfl) (fun _ _ _ h => h) (Or.inl ⟨by rfl, ?_⟩) hHeld ?_
                    rotate_left
                    · (intro w hSw; (try dsimp only at hSw); go_simp; first | done | with_reducible rfl)
                    simp only [Act.put, List.setIfInBounds_toArray, List.set_cons_zero, List.set_cons_succ]
                    refine wpAnyH_take (i := 11) (oi := { dst := some 75, op := Op.indexAddr 22 (Operand.tmp 73) (Operand.tmp 74), type := 0, pos := "told.go:41", after := #[{ on := 9, ground := Ground.data }, { on := 10, ground := Ground.data }], guard := none }) (v := ?_) rfl (by kernel_rfl) (by kernel_rfl) (by kernel_rfl) (fun _ _ _ h => h) (Or.inl ⟨by rfl, ?_⟩) hHeld ?_
                    rotate_left
                    · (intro w hSw; (try dsimp only at hSw); go_simp; first | done | with_reducible rfl)
                    simp only [Act.put, List.setIfInBounds_toArray, List.set_cons_zero, List.set_cons_succ]
                    refine wpAnyH_take (i := 12) (oi := { dst := some 76, op := Op.load 3 (Operand.tmp 75), type := 3, pos := "told.go:41", after := #[{ on := 11, ground := Ground.data }], guard := none }) (v := ?_) rfl (by kernel_rfl) (by kernel_rfl) (by kernel_rfl) (fun _ _ _ h => h) (Or.inl ⟨by rfl, ?_⟩) hHeld ?_
                    rotate_left
                    · (intro w hSw; (try dsimp only at hSw); go_simp; first | done | with_reducible rfl)
                    simp only [Act.put, List.setIfInBounds_toArray, List.set_cons_zero, List.set_cons_succ]
                    refine wpAnyH_take (i := 13) (oi := { dst := some 77, op := Op.move (Operand.tmp 4), type := 22, pos := "told.go:41", after := #[], guard := none }) (v := ?_) rfl (by kernel_rfl) (by kernel_rfl) (by kernel_rfl) (fun _ _ _ h => h) (Or.inl ⟨by rfl, ?_⟩) hHeld ?_
                    rotate_left
                    · (intro w hSw; (try dsimp only at hSw); go_simp; first | done | with_reducible rfl)
                    simp only [Act.put, List.setIfInBounds_toArray, List.set_cons_zero, List.set_cons_succ]
                    refine wpAnyH_take (i := 14) (oi := { dst := some 78, op := Op.move (Operand.tmp 14), type := 3, pos := "told.go:41", after := #[], guard := none }) (v := ?_) rfl (by kernel_rfl) (by kernel_rfl) (by kernel_rfl) (fun _ _ _ h => h) (Or.inl ⟨by rfl, ?_⟩) hHeld ?_
                    rotate_left
                    · (intro w hSw; (try dsimp only at hSw); go_simp; first | done | with_reducible rfl)
                    simp only [Act.put, List.setIfInBounds_toArray, List.set_cons_zero, List.set_cons_succ]
                    refine wpAnyH_take (i := 15) (oi := { dst := some 79, op := Op.indexAddr 22 (Operand.tmp 77) (Operand.tmp 78), type := 0, pos := "told.go:41", after := #[{ on := 13, ground := Ground.data }, { on := 14, ground := Ground.data }], guard := none }) (v := ?_) rfl (by kernel_rfl) (by kernel_rfl) (by kernel_rfl) (fun _ _ _ h => h) (Or.inl ⟨by rfl, ?_⟩) hHeld ?_
                    rotate_left
                    · (intro w hSw; (try dsimp only at hSw); go_simp; first | done | with_reducible rfl)
                    simp only [Act.put, List.setIfInBounds_toArray, List.set_cons_zero, List.set_cons_succ]
                    refine wpAnyH_take (i := 16) (oi := { dst := some 80, op := Op.load 3 (Operand.tmp 79), type := 3, pos := "told.go:41", after := #[{ on := 15, ground := Ground.data }], guard := none }) (v := ?_) rfl (by kernel_rfl) (by kernel_rfl) (by kernel_rfl) (fun _ _ _ h => h) (Or.inl ⟨by rfl, ?_⟩) hHeld ?_
                    rotate_left
                    · (intro w hSw; (try dsimp only at hSw); go_simp; first | done | with_reducible rfl)
                    simp only [Act.put, List.setIfInBounds_toArray, List.set_cons_zero, List.set_cons_succ]
                    refine wpAnyH_ready (rs := [17, 21]) (by kernel_rfl) (by simp) ?_
                    refine (AllReadyH.cons (o := { dst := some 81, op := Op.call { callee := Callee.value (Operand.func 6), args := #[Operand.tmp 64, Operand.tmp 68, Operand.tmp 72, Operand.tmp 76, Operand.tmp 80], argTypes := #[29, 3, 35, 3, 3] }, type := 31, pos := "told.go:41", after := #[{ on := 0, ground := Ground.data }, { on := 4, ground := Ground.data }, { on := 8, ground := Ground.data }, { on := 12, ground := Ground.data }, { on := 16, ground := Ground.data }], guard := none }) rfl (fun K hK => ?_) (AllReadyH.cons (o := { dst := some 17, op := Op.alloc 29, type := 0, pos := "told.go:41", after := #[], guard := none }) rfl (fun K hK => ?_) AllReadyH.nil))
                    · go_simp
                      go_at_call 6
                      refine (refLearnt_any _ zn (.slice zq zl zc) zM f na nl m t HOKN.out HM.out.len (HL.out.below (Below.refl _ _).drew) HM.out.srt HM.out.keys HM.out.all).mono ?_
                      rintro r w5 ⟨kc, now', q5, l5, c5, rfl, hkc, hgood, hb5⟩
                      have HKC := Lib.hid (hkc.trans (HM.out.learnE f (na, nl) m t))
                      have B5 := Lib.hid (show Below wr.heap.size wr w5 from (Below.refl wr.heap.size wr).drew.trans hb5)
                      have HG5 := Lib.hid (show kc = 0 → now' = t ∧ ∃ M', LHeld w5 wr.heap.size (.slice q5 l5 c5) M' ∧ M'.Perm (learn ⟨⟨f, (na, nl), m⟩, t⟩ (age t zM)) ∧ Srtd M' from hgood)
                      have KK17 := HC7.out w5 B5.out
                      clear hHeld hgood hb5 hkc
                      go_wp2_with fail
                      refine hK.out _ _ KK17 (fun hHeld => ?_)
                      clear hK K
                      refine wpAnyH_take (i := 18) (oi := { dst := some 63, op := Op.move (Operand.tmp 81), type := 31, pos := "told.go:41", after := #[{ on := 17, ground := Ground.data }], guard := none }) (v := ?_) rfl (by kernel_rfl) (by kernel_rfl) (by kernel_rfl) (fun _ _ _ h => h) (Or.inl ⟨by rfl, ?_⟩) hHeld ?_
                      rotate_left
                      · (intro w hSw; (try dsimp only at hSw); go_simp; first | done | with_reducible rfl)
                      simp only [Act.put, List.setIfInBounds_toArray, List.set_cons_zero, List.set_cons_succ]
                      refine wpAnyH_take (i := 19) (oi := { dst := some 82, op := Op.extract (Operand.tmp 63) 0, type := 29, pos := "told.go:41", after := #[{ on := 18, ground := Ground.data }], guard := none }) (v := ?_) rfl (by kernel_rfl) (by kernel_rfl) (by kernel_rfl) (fun _ _ _ h => h) (Or.inl ⟨by rfl, ?_⟩) hHeld ?_
                      rotate_left
                      · (intro w hSw; (try dsimp only at hSw); go_simp; first | done | with_reducible rfl)
                      simp only [Act.put, List.setIfInBounds_toArray, List.set_cons_zero, List.set_cons_succ]
                      refine wpAnyH_take (i := 20) (oi := { dst := some 83, op := Op.extract (Operand.tmp 63) 1, type := 30, pos := "told.go:41", after := #[{ on := 18, ground := Ground.data }, { on := 22, ground := Ground.gcOnly Departure.lateStores }], guard := none }) (v := ?_) rfl (by kernel_rfl) (by kernel_rfl) (by kernel_rfl) (fun _ _ _ h => h) (Or.inl ⟨by rfl, ?_⟩) hHeld ?_
                      rotate_left
                      · (intro w hSw; (try dsimp only at hSw); go_simp; first | done | with_reducible rfl)
                      simp only [Act.put, List.setIfInBounds_toArray, List.set_cons_zero, List.set_cons_succ]
                      refine wpAnyH_ready (rs := [21]) (by kernel_rfl) (by simp) ?_
                      refine (AllReadyH.cons (o := { dst := some 17, op := Op.alloc 29, type := 0, pos := "told.go:41", after := #[], guard := none }) rfl (fun K hK => ?_) AllReadyH.nil)
                      go_simp
                      have BS := Lib.hid (B5.out.alloc B5.out.size (.cells #[.int .i64 0, .slice none 0 0] 29))
                      have NN := Lib.hid (Box.new w5 (.int .i64 0) (.slice none 0 0) 29)
                      have HG := Lib.hid (show kc = 0 → now' = t ∧ ∃ M', LHeld (w5.alloc (.cells #[.int .i64 0, .slice none 0 0] 29)) wr.heap.size (.slice q5 l5 c5) M' ∧ M'.Perm (learn ⟨⟨f, (na, nl), m⟩, t⟩ (age t zM)) ∧ Srtd M' ∧ ∀ g, (Value.slice q5 l5 c5).ownBlock = some g → g ≠ w5.heap.size from fun h0 => by
                        obtain ⟨h1, M', h2, h3, h4⟩ := HG5.out h0
                        exact ⟨h1, M', h2.below ((Below.refl _ _).alloc (Nat.le_refl _) _), h3, h4, fun g hg => by have := (h2.lt g hg).2; omega⟩)
                      have HBN := Lib.hid (show wr.heap.size ≤ w5.heap.size from B5.out.size)
                      have KK21 := HC7.out _ BS.out
                      clear hHeld HG5 B5
                      go_wp2_with fail
                      generalize w5.alloc (.cells #[.int .i64 0, .slice none 0 0] 29) = wS at BS NN HG KK21 ⊢
                      generalize w5.heap.size = bn at NN HG HBN ⊢
                      refine hK.out _ _ KK21 (fun hHeld => ?_)
                      clear hK K
                      refine wpAnyH_ready (rs := [22]) (by kernel_rfl) (by simp) ?_
                      refine (AllReadyH.cons (o := { dst := none, op := Op.store 29 (Operand.tmp 17) (Operand.tmp 82), type := 0, pos := "told.go:41", after := #[{ on := 21, ground := Ground.data }, { on := 19, ground := Ground.data }, { on := 17, ground := Ground.chain }, { on := 0, ground := Ground.phase }, { on := 1, ground := Ground.phase }, { on := 2, ground := Ground.phase }, { on := 3, ground := Ground.phase }, { on := 4, ground := Ground.phase }, { on := 5, ground := Ground.phase }, { on := 6, ground := Ground.phase }, { on := 7, ground := Ground.phase }, { on := 8, ground := Ground.phase }, { on := 9, ground := Ground.phase }, { on := 10, ground := Ground.phase }, { on := 11, ground := Ground.phase }, { on := 12, ground := Ground.phase }, { on := 13, ground := Ground.phase }, { on := 14, ground := Ground.phase }, { on := 15, ground := Ground.phase }, { on := 16, ground := Ground.phase }, { on := 17, ground := Ground.phase }, { on := 18, ground := Ground.phase }, { on := 19, ground := Ground.phase }, { on := 20, ground := Ground.textOnly Departure.lateStores }, { on := 21, ground := Ground.phase }], guard := none }) rfl (fun K hK => ?_) AllReadyH.nil)
                      have hN := NN.out
                      obtain ⟨_, y0, y1, fy0, fy1⟩ := hN
                      clear hHeld KK17 KK21
                      go_simp
                      go_wp2_with fail
                      clear y0 y1 fy0 fy1
                      have KS := (Keep.setCell (fun x => x = bn) wS bn 0 (.int .i64 now') rfl).trans (Keep.setCell (fun x => x = bn) _ bn 1 (.slice q5 l5 c5) rfl)
                      have B6 := Lib.hid (BS.out.trans (KS.below (fun b e => by have := HBN.out; omega) BS.out.size))
                      have N6 := Lib.hid (NN.out.set (.int .i64 now') (.slice q5 l5 c5))
                      have HG6 := Lib.hid (show kc = 0 → now' = t ∧ ∃ M', LHeld _ wr.heap.size (.slice q5 l5 c5) M' ∧ M'.Perm (learn ⟨⟨f, (na, nl), m⟩, t⟩ (age t zM)) ∧ Srtd M' from fun h0 => by
                        obtain ⟨h1, M', h2, h3, h4, h5⟩ := HG.out h0
                        exact ⟨h1, M', h2.keep KS h5, h3, h4⟩)
                      have KK22 := HC7.out _ B6.out
                      clear KS NN HG BS
                      generalize (wS.setCell ⟨bn, 0, none⟩ (.int .i64 now')).setCell ⟨bn, 1, none⟩ (.slice q5 l5 c5) = w6 at B6 N6 HG6 KK22 ⊢
                      refine hK.out _ _ KK22 (fun hHeld => ?_)
                      clear hK K
                      refine wpAnyH_take (i := 23) (oi := { dst := some 18, op := Op.assign (Operand.tmp 83), type := 30, pos := "told.go:41", after := #[{ on := 20, ground := Ground.data }, { on := 22, ground := Ground.chain }, { on := 0, ground := Ground.phase }, { on := 1, ground := Ground.phase }, { on := 2, ground := Ground.phase }, { on := 3, ground := Ground.phase }, { on := 4, ground := Ground.phase }, { on := 5, ground := Ground.phase }, { on := 6, ground := Ground.phase }, { on := 7, ground := Ground.phase }, { on := 8, ground := Ground.phase }, { on := 9, ground := Ground.phase }, { on := 10, ground := Ground.phase }, { on := 11, ground := Ground.phase }, { on := 12, ground := Ground.phase }, { on := 13, ground := Ground.phase }, { on := 14, ground := Ground.phase }, { on := 15, ground := Ground.phase }, { on := 16, ground := Ground.phase }, { on := 17, ground := Ground.phase }, { on := 18, ground := Ground.phase }, { on := 19, ground := Ground.phase }, { on := 20, ground := Ground.phase }, { on := 21, ground := Ground.phase }, { on := 22, ground := Ground.phase }], guard := none }) (v := ?_) rfl (by kernel_rfl) (by kernel_rfl) (by kernel_rfl) (fun _ _ _ h => h) (Or.inl ⟨by rfl, ?_⟩) hHeld ?_
                      rotate_left
                      · (intro w hSw; (try dsimp only at hSw); go_simp; first | done | with_reducible rfl)
                      simp only [Act.put, List.setIfInBounds_toArray, List.set_cons_zero, List.set_cons_succ]
                      refine wpAnyH_done (by kernel_rfl) ?_ _
                      clear hHeld
                      have T6 := Lib.hid (HT.out.below B6.out)
                      have HEQ := Lib.hid (show (learnE s f (na, nl) m t == kc) = true by rw [HKC.out]; simp)
                      go_wp2_with fail
                      refine wp_region_held_drew (S := (fun w' => w'.cell? ⟨b1, o1 + k, none⟩ = some (.int .i64 f) ∧ w'.cell? ⟨b2, o2 + k * 2, none⟩ = some (.int .u32 (na : Int)) ∧ w'.cell? ⟨b2, o2 + k * 2 + 1, none⟩ = some (.int .i64 nl) ∧ w'.cell? ⟨b3, o3 + k, none⟩ = some (.int .i64 m) ∧ w'.cell? ⟨b4, o4 + k, none⟩ = some (.int .i64 t))) (by kernel_rfl) (HC.out w6 T6.out.bel) (fun hHeld => ?_)
                      refine wpAnyH_take (i := 0) (oi := { dst := some 84, op := Op.move (Operand.tmp 12), type := 25, pos := "told.go:42", after := #[], guard := none }) (v := ?_) rfl (by kernel_rfl) (by kernel_rfl) (by kernel_rfl) (fun _ _ _ h => h) (Or.inl ⟨by rfl, ?_⟩) hHeld ?_
                      rotate_left
                      · (intro w hSw; (try dsimp only at hSw); go_simp; first | done | with_reducible rfl)
                      simp only [Act.put, List.setIfInBounds_toArray, List.set_cons_zero, List.set_cons_succ]
                      refine wpAnyH_take (i := 1) (oi := { dst := some 85, op := Op.move (Operand.tmp 1), type := 22, pos := "told.go:42", after := #[], guard := none }) (v := ?_) rfl (by kernel_rfl) (by kernel_rfl) (by kernel_rfl) (fun _ _ _ h => h) (Or.inl ⟨by rfl, ?_⟩) hHeld ?_
                      rotate_left
                      · (intro w hSw; (try dsimp only at hSw); go_simp; first | done | with_reducible rfl)
                      simp only [Act.put, List.setIfInBounds_toArray, List.set_cons_zero, List.set_cons_succ]
                      refine wpAnyH_take (i := 2) (oi := { dst := some 86, op := Op.move (Operand.tmp 14), type := 3, pos := "told.go:42", after := #[], guard := none }) (v := ?_) rfl (by kernel_rfl) (by kernel_rfl) (by kernel_rfl) (fun _ _ _ h => h) (Or.inl ⟨by rfl, ?_⟩) hHeld ?_
                      rotate_left
                      · (intro w hSw; (try dsimp only at hSw); go_simp; first | done | with_reducible rfl)
                      simp only [Act.put, List.setIfInBounds_toArray, List.set_cons_zero, List.set_cons_succ]
                      refine wpAnyH_take (i := 3) (oi := { dst := some 87, op := Op.indexAddr 22 (Operand.tmp 85) (Operand.tmp 86), type := 0, pos := "told.go:42", after := #[{ on := 1, ground := Ground.data }, { on := 2, ground := Ground.data }], guard := none }) (v := ?_) rfl (by kernel_rfl) (by kernel_rfl) (by kernel_rfl) (fun _ _ _ h => h) (Or.inl ⟨by rfl, ?_⟩) hHeld ?_
                      rotate_left
                      · (intro w hSw; (try dsimp only at hSw); go_simp; first | done | with_reducible rfl)
                      simp only [Act.put, List.setIfInBounds_toArray, List.set_cons_zero, List.set_cons_succ]
                      refine wpAnyH_take (i := 4) (oi := { dst := some 88, op := Op.load 3 (Operand.tmp 87), type := 3, pos := "told.go:42", after := #[{ on := 3, ground := Ground.data }], guard := none }) (v := ?_) rfl (by kernel_rfl) (by kernel_rfl) (by kernel_rfl) (fun _ _ _ h => h) (Or.inl ⟨by rfl, ?_⟩) hHeld ?_
                      rotate_left
                      · (intro w hSw; (try dsimp only at hSw); go_simp; first | done | with_reducible rfl)
                      simp only [Act.put, List.setIfInBounds_toArray, List.set_cons_zero, List.set_cons_succ]
                      refine wpAnyH_take (i := 5) (oi := { dst := some 89, op := Op.move (Operand.tmp 2), type := 23, pos := "told.go:42", after := #[], guard := none }) (v := ?_) rfl (by kernel_rfl) (by kernel_rfl) (by kernel_rfl) (fun _ _ _ h => h) (Or.inl ⟨by rfl, ?_⟩) hHeld ?_
                      rotate_left
                      · (intro w hSw; (try dsimp only at hSw); go_simp; first | done | with_reducible rfl)
                      simp only [Act.put, List.setIfInBounds_toArray, List.set_cons_zero, List.set_cons_succ]
                      refine wpAnyH_take (i := 6) (oi := { dst := some 90, op := Op.move (Operand.tmp 14), type := 3, pos := "told.go:42", after := #[], guard := none }) (v := ?_) rfl (by kernel_rfl) (by kernel_rfl) (by kernel_rfl) (fun _ _ _ h => h) (Or.inl ⟨by rfl, ?_⟩) hHeld ?_
                      rotate_left
                      · (intro w hSw; (try dsimp only at hSw); go_simp; first | done | with_reducible rfl)
                      simp only [Act.put, List.setIfInBounds_toArray, List.set_cons_zero, List.set_cons_succ]
                      refine wpAnyH_take (i := 7) (oi := { dst := some 91, op := Op.indexAddr 23 (Operand.tmp 89) (Operand.tmp 90), type := 0, pos := "told.go:42", after := #[{ on := 5, ground := Ground.data }, { on := 6, ground := Ground.data }], guard := none }) (v := ?_) rfl (by kernel_rfl) (by kernel_rfl) (by kernel_rfl) (fun _ _ _ h => h) (Or.inl ⟨by rfl, ?_⟩) hHeld ?_
                      rotate_left
                      · (intro w hSw; (try dsimp only at hSw); go_simp; first | done | with_reducible rfl)
                      simp only [Act.put, List.setIfInBounds_toArray, List.set_cons_zero, List.set_cons_succ]
                      refine wpAnyH_take (i := 8) (oi := { dst := some 92, op := Op.load 35 (Operand.tmp 91), type := 35, pos := "told.go:42", after := #[{ on := 7, ground := Ground.data }], guard := none }) (v := ?_) rfl (by kernel_rfl) (by kernel_rfl) (by kernel_rfl) (fun _ _ _ h => h) (Or.inl ⟨by rfl, ?_⟩) hHeld ?_
                      rotate_left
                      · (intro w hSw; (try dsimp only at hSw); go_simp; first | done | with_reducible rfl)
                      simp only [Act.put, List.setIfInBounds_toArray, List.set_cons_zero, List.set_cons_succ]
                      refine wpAnyH_take (i := 9) (oi := { dst := some 93, op := Op.move (Operand.tmp 3), type := 22, pos := "told.go:42", after := #[], guard := none }) (v := ?_) rfl (by kernel_rfl) (by kernel_rfl) (by kernel_rfl) (fun _ _ _ h => h) (Or.inl ⟨by rfl, ?_⟩) hHeld ?_
                      rotate_left
                      · (intro w hSw; (try dsimp only at hSw); go_simp; first | done | with_reducible rfl)
                      simp only [Act.put, List.setIfInBounds_toArray, List.set_cons_zero, List.set_cons_succ]
                      refine wpAnyH_take (i := 10) (oi := { dst := some 94, op := Op.move (Operand.tmp 14), type := 3, pos := "told.go:42", after := #[], guard := none }) (v := ?_) rfl (by kernel_rfl) (by kernel_rfl) (by kernel_rfl) (fun _ _ _ h => h) (Or.inl ⟨by rfl, ?_⟩) hHeld ?_
                      rotate_left
                      · (intro w hSw; (try dsimp only at hSw); go_simp; first | done | with_reducible rfl)
                      simp only [Act.put, List.setIfInBounds_toArray, List.set_cons_zero, List.set_cons_succ]
                      refine wpAnyH_take (i := 11) (oi := { dst := some 95, op := Op.indexAddr 22 (Operand.tmp 93) (Operand.tmp 94), type := 0, pos := "told.go:42", after := #[{ on := 9, ground := Ground.data }, { on := 10, ground := Ground.data }], guard := none }) (v := ?_) rfl (by kernel_rfl) (by kernel_rfl) (by kernel_rfl) (fun _ _ _ h => h) (Or.inl ⟨by rfl, ?_⟩) hHeld ?_
                      rotate_left
                      · (intro w hSw; (try dsimp only at hSw); go_simp; first | done | with_reducible rfl)
                      simp only [Act.put, List.setIfInBounds_toArray, List.set_cons_zero, List.set_cons_succ]
                      refine wpAnyH_take (i := 12) (oi := { dst := some 96, op := Op.load 3 (Operand.tmp 95), type := 3, pos := "told.go:42", after := #[{ on := 11, ground := Ground.data }], guard := none }) (v := ?_) rfl (by kernel_rfl) (by kernel_rfl) (by kernel_rfl) (fun _ _ _ h => h) (Or.inl ⟨by rfl, ?_⟩) hHeld ?_
                      rotate_left
                      · (intro w hSw; (try dsimp only at hSw); go_simp; first | done | with_reducible rfl)
                      simp only [Act.put, List.setIfInBounds_toArray, List.set_cons_zero, List.set_cons_succ]
                      refine wpAnyH_take (i := 13) (oi := { dst := some 97, op := Op.move (Operand.tmp 4), type := 22, pos := "told.go:42", after := #[], guard := none }) (v := ?_) rfl (by kernel_rfl) (by kernel_rfl) (by kernel_rfl) (fun _ _ _ h => h) (Or.inl ⟨by rfl, ?_⟩) hHeld ?_
                      rotate_left
                      · (intro w hSw; (try dsimp only at hSw); go_simp; first | done | with_reducible rfl)
                      simp only [Act.put, List.setIfInBounds_toArray, List.set_cons_zero, List.set_cons_succ]
                      refine wpAnyH_take (i := 14) (oi := { dst := some 98, op := Op.move (Operand.tmp 14), type := 3, pos := "told.go:42", after := #[], guard := none }) (v := ?_) rfl (by kernel_rfl) (by kernel_rfl) (by kernel_rfl) (fun _ _ _ h => h) (Or.inl ⟨by rfl, ?_⟩) hHeld ?_
                      rotate_left
                      · (intro w hSw; (try dsimp only at hSw); go_simp; first | done | with_reducible rfl)
                      simp only [Act.put, List.setIfInBounds_toArray, List.set_cons_zero, List.set_cons_succ]
                      refine wpAnyH_take (i := 15) (oi := { dst := some 99, op := Op.indexAddr 22 (Operand.tmp 97) (Operand.tmp 98), type := 0, pos := "told.go:42", after := #[{ on := 13, ground := Ground.data }, { on := 14, ground := Ground.data }], guard := none }) (v := ?_) rfl (by kernel_rfl) (by kernel_rfl) (by kernel_rfl) (fun _ _ _ h => h) (Or.inl ⟨by rfl, ?_⟩) hHeld ?_
                      rotate_left
                      · (intro w hSw; (try dsimp only at hSw); go_simp; first | done | with_reducible rfl)
                      simp only [Act.put, List.setIfInBounds_toArray, List.set_cons_zero, List.set_cons_succ]
                      refine wpAnyH_take (i := 16) (oi := { dst := some 100, op := Op.load 3 (Operand.tmp 99), type := 3, pos := "told.go:42", after := #[{ on := 15, ground := Ground.data }], guard := none }) (v := ?_) rfl (by kernel_rfl) (by kernel_rfl) (by kernel_rfl) (fun _ _ _ h => h) (Or.inl ⟨by rfl, ?_⟩) hHeld ?_
                      rotate_left
                      · (intro w hSw; (try dsimp only at hSw); go_simp; first | done | with_reducible rfl)
                      simp only [Act.put, List.setIfInBounds_toArray, List.set_cons_zero, List.set_cons_succ]
                      refine wpAnyH_take (i := 18) (oi := { dst := some 102, op := Op.move (Operand.tmp 18), type := 30, pos := "told.go:42", after := #[], guard := none }) (v := ?_) rfl (by kernel_rfl) (by kernel_rfl) (by kernel_rfl) (fun _ _ _ h => h) (Or.inl ⟨by rfl, ?_⟩) hHeld ?_
                      rotate_left
                      · (intro w hSw; (try dsimp only at hSw); go_simp; first | done | with_reducible rfl)
                      simp only [Act.put, List.setIfInBounds_toArray, List.set_cons_zero, List.set_cons_succ]
                      refine wpAnyH_ready (rs := [17]) (by kernel_rfl) (by simp) ?_
                      refine (AllReadyH.cons (o := { dst := some 101, op := Op.call { callee := Callee.value (Operand.func 8), args := #[Operand.tmp 84, Operand.tmp 88, Operand.tmp 92, Operand.tmp 96, Operand.tmp 100], argTypes := #[25, 3, 35, 3, 3] }, type := 38, pos := "told.go:42", after := #[{ on := 0, ground := Ground.data }, { on := 4, ground := Ground.data }, { on := 8, ground := Ground.data }, { on := 12, ground := Ground.data }, { on := 16, ground := Ground.data }], guard := none }) rfl (fun K hK => ?_) AllReadyH.nil)
                      go_simp
                      go_at_call 8
                      refine (tell_learn (T6.out.below (Below.refl _ _).drew) f na nl m t HOKN.out).mono ?_
                      rintro e w7 ⟨rfl, h7, k7⟩
                      have T7 := Lib.hid h7
                      have K7 := Lib.hid (show Keep (fun x => x = p) w6 w7 from (Keep.drew (Keep.refl _ w6)).trans k7)
                      have KK17 := HC.out w7 h7.bel
                      clear hHeld h7 k7
                      go_wp2_with fail
                      refine hK.out _ _ KK17 (fun hHeld => ?_)
                      clear hK K
                      refine wpAnyH_ready (rs := [19]) (by kernel_rfl) (by simp) ?_
                      refine (AllReadyH.cons (o := { dst := some 103, op := Op.call { callee := Callee.value (Operand.func 7), args := #[Operand.tmp 101, Operand.tmp 102], argTypes := #[38, 30] }, type := 4, pos := "told.go:42", after := #[{ on := 17, ground := Ground.data }, { on := 18, ground := Ground.data }, { on := 17, ground := Ground.chain }], guard := none }) rfl (fun K hK => ?_) AllReadyH.nil)
                      go_simp
                      go_at_call 7
                      refine (sameErr_any _ kc _ (HE.out.below T7.out.bel)).mono ?_
                      rintro e w8 ⟨rfl, hb8⟩
                      rw [HEQ.out]
                      have T8 := Lib.hid (T7.out.below hb8)
                      have N8 := Lib.hid ((N6.out.ofBlock (K7.out.block bn N6.out.lt (by have := HT.out.lt; have := HBN.out; omega)) K7.out.size).kept hb8)
                      have HG8 := Lib.hid (show kc = 0 → now' = t ∧ ∃ M', LHeld w8 wr.heap.size (.slice q5 l5 c5) M' ∧ M'.Perm (learn ⟨⟨f, (na, nl), m⟩, t⟩ (age t zM)) ∧ Srtd M' from fun h0 => by
                        obtain ⟨h1, M', h2, h3, h4⟩ := HG6.out h0
                        exact ⟨h1, M', (h2.keep K7.out (fun g hg e => by have := (h2.lt g hg).1; have := HT.out.lt; omega)).below hb8, h3, h4⟩)
                      have KK19 := HC.out w8 T8.out.bel
                      clear hHeld hb8 T7 K7
                      go_wp2_with fail
                      refine hK.out _ _ KK19 (fun hHeld => ?_)
                      clear hK K
                      refine wpAnyH_take (i := 20) (oi := { dst := some 16, op := Op.assign (Operand.tmp 103), type := 4, pos := "told.go:42", after := #[{ on := 19, ground := Ground.data }, { on := 19, ground := Ground.chain }, { on := 0, ground := Ground.phase }, { on := 1, ground := Ground.phase }, { on := 2, ground := Ground.phase }, { on := 3, ground := Ground.phase }, { on := 4, ground := Ground.phase }, { on := 5, ground := Ground.phase }, { on := 6, ground := Ground.phase }, { on := 7, ground := Ground.phase }, { on := 8, ground := Ground.phase }, { on := 9, ground := Ground.phase }, { on := 10, ground := Ground.phase }, { on := 11, ground := Ground.phase }, { on := 12, ground := Ground.phase }, { on := 13, ground := Ground.phase }, { on := 14, ground := Ground.phase }, { on := 15, ground := Ground.phase }, { on := 16, ground := Ground.phase }, { on := 17, ground := Ground.phase }, { on := 18, ground := Ground.phase }, { on := 19, ground := Ground.phase }], guard := none }) (v := ?_) rfl (by kernel_rfl) (by kernel_rfl) (by kernel_rfl) (fun _ _ _ h => h) (Or.inl ⟨by rfl, ?_⟩) hHeld ?_
                      rotate_left
                      · (intro w hSw; (try dsimp only at hSw); go_simp; first | done | with_reducible rfl)
                      simp only [Act.put, List.setIfInBounds_toArray, List.set_cons_zero, List.set_cons_succ]
                      refine wpAnyH_done (by kernel_rfl) ?_ _
                      clear hHeld
                      by_cases hk0 : kc = 0
                      · have tk : (kc == 0) = true := by rw [hk0]; rfl
                        obtain ⟨hnt, M', h2, h3, h4⟩ := HG8.out hk0
                        obtain rfl : t = now' := hnt.symm
                        have HM2 := Lib.hid (HM.out.learn f (na, nl) m t HOKN.out (HKC.out.symm.trans hk0) h3 h4)
                        obtain ⟨zq, zl, zc, hbx, _⟩ := T8.out.box
                        have hN := N8.out
                        obtain ⟨_, n0, n1, _, _⟩ := hN
                        obtain ⟨_, y0, y1, fy0, fy1⟩ := hbx
                        have HP := Lib.hid (T8.out.put (z' := (t, M')) h2.arg (fun g hg => by have := (h2.lt g hg).1; have := HT.out.lt; have := HT.out.bel.size; omega))
                        have nb1 : ¬ bn = bm := by have := HT.out.lt; have := HBN.out; omega
                        have nb2 : ¬ bm = bn := fun e => nb1 e.symm
                        clear hk0 h2 h3 h4 HG8
                        go_wp2_with fail
                        go_meet
                        case rel => exact ⟨_, _, rfl, HM2, HP⟩
                      · have tk : (kc == 0) = false := by simpa using hk0
                        have HM2 := Lib.hid (HM.out.learn_bad f (na, nl) m t (fun e => hk0 (HKC.out.trans e)))
                        clear hk0
                        go_wp2_with fail
                        go_meet
                        case rel => exact ⟨_, _, rfl, HM2, T8⟩
                    · go_simp
                      have BA := Lib.hid ((Below.refl wr.heap.size wr).alloc (Nat.le_refl _) (.cells #[.int .i64 0, .slice none 0 0] 29)).drew
                      have NA : Hid (Box (wr.alloc (.cells #[.int .i64 0, .slice none 0 0] 29)).drew wr.heap.size (.int .i64 0) (.slice none 0 0)) := Lib.hid ((Box.new wr (.int .i64 0) (.slice none 0 0) 29).drewN 1)
                      have KK21 := HC7.out _ BA.out
                      clear hHeld
                      go_wp2_with fail
                      generalize (wr.alloc (.cells #[.int .i64 0, .slice none 0 0] 29)).drew = wA at BA NA KK21 ⊢
                      obtain ⟨bn, hbn⟩ : ∃ bn, bn = wr.heap.size := ⟨_, rfl⟩
                      have HBN := Lib.hid (show wr.heap.size ≤ bn from Nat.le_of_eq hbn.symm)
                      rw [← hbn] at NA ⊢
                      clear hbn
                      refine hK.out _ _ KK21 (fun hHeld => ?_)
                      clear hK K
                      refine wpAnyH_ready (rs := [17]) (by kernel_rfl) (by simp) ?_
                      refine (AllReadyH.cons (o := { dst := some 81, op := Op.call { callee := Callee.value (Operand.func 6), args := #[Operand.tmp 64, Operand.tmp 68, Operand.tmp 72, Operand.tmp 76, Operand.tmp 80], argTypes := #[29, 3, 35, 3, 3] }, type := 31, pos := "told.go:41", after := #[{ on := 0, ground := Ground.data }, { on := 4, ground := Ground.data }, { on := 8, ground := Ground.data }, { on := 12, ground := Ground.data }, { on := 16, ground := Ground.data }], guard := none }) rfl (fun K hK => ?_) AllReadyH.nil)
                      go_simp
                      go_at_call 6
                      refine (refLearnt_any wA zn (.slice zq zl zc) zM f na nl m t HOKN.out HM.out.len (HL.out.below BA.out) HM.out.srt HM.out.keys HM.out.all).mono ?_
                      rintro r w5 ⟨kc, now', q5, l5, c5, rfl, hkc, hgood, hb5⟩
                      have HKC := Lib.hid (hkc.trans (HM.out.learnE f (na, nl) m t))
                      have BS := Lib.hid (BA.out.trans (hb5.mono BA.out.size))
                      have NN := Lib.hid (NA.out.kept hb5)
                      have HG := Lib.hid (show kc = 0 → now' = t ∧ ∃ M', LHeld w5 wr.heap.size (.slice q5 l5 c5) M' ∧ M'.Perm (learn ⟨⟨f, (na, nl), m⟩, t⟩ (age t zM)) ∧ Srtd M' ∧ ∀ g, (Value.slice q5 l5 c5).ownBlock = some g → g ≠ bn from fun h0 => by
                        obtain ⟨h1, M', h2, h3, h4⟩ := hgood h0
                        exact ⟨h1, M', h2.down BA.out.size, h3, h4, fun g hg => by have := (h2.lt g hg).1; have := NA.out.lt; omega⟩)
                      have KK17 := HC7.out w5 BS.out
                      clear hHeld hgood hb5 hkc
                      go_wp2_with fail
                      refine hK.out _ _ KK17 (fun hHeld => ?_)
                      clear hK K
                      refine wpAnyH_take (i := 18) (oi := { dst := some 63, op := Op.move (Operand.tmp 81), type := 31, pos := "told.go:41", after := #[{ on := 17, ground := Ground.data }], guard := none }) (v := ?_) rfl (by kernel_rfl) (by kernel_rfl) (by kernel_rfl) (fun _ _ _ h => h) (Or.inl ⟨by rfl, ?_⟩) hHeld ?_
                      rotate_left
                      · (intro w hSw; (try dsimp only at hSw); go_simp; first | done | with_reducible rfl)
                      simp only [Act.put, List.setIfInBounds_toArray, List.set_cons_zero, List.set_cons_succ]
                      refine wpAnyH_take (i := 19) (oi := { dst := some 82, op := Op.extract (Operand.tmp 63) 0, type := 29, pos := "told.go:41", after := #[{ on := 18, ground := Ground.data }], guard := none }) (v := ?_) rfl (by kernel_rfl) (by kernel_rfl) (by kernel_rfl) (fun _ _ _ h => h) (Or.inl ⟨by rfl, ?_⟩) hHeld ?_
                      rotate_left
                      · (intro w hSw; (try dsimp only at hSw); go_simp; first | done | with_reducible rfl)
                      simp only [Act.put, List.setIfInBounds_toArray, List.set_cons_zero, List.set_cons_succ]
                      refine wpAnyH_take (i := 20) (oi := { dst := some 83, op := Op.extract (Operand.tmp 63) 1, type := 30, pos := "told.go:41", after := #[{ on := 18, ground := Ground.data }, { on := 22, ground := Ground.gcOnly Departure.lateStores }], guard := none }) (v := ?_) rfl (by kernel_rfl) (by kernel_rfl) (by kernel_rfl) (fun _ _ _ h => h) (Or.inl ⟨by rfl, ?_⟩) hHeld ?_
                      rotate_left
                      · (intro w hSw; (try dsimp only at hSw); go_simp; first | done | with_reducible rfl)
                      simp only [Act.put, List.setIfInBounds_toArray, List.set_cons_zero, List.set_cons_succ]
                      refine wpAnyH_ready (rs := [22]) (by kernel_rfl) (by simp) ?_
                      refine (AllReadyH.cons (o := { dst := none, op := Op.store 29 (Operand.tmp 17) (Operand.tmp 82), type := 0, pos := "told.go:41", after := #[{ on := 21, ground := Ground.data }, { on := 19, ground := Ground.data }, { on := 17, ground := Ground.chain }, { on := 0, ground := Ground.phase }, { on := 1, ground := Ground.phase }, { on := 2, ground := Ground.phase }, { on := 3, ground := Ground.phase }, { on := 4, ground := Ground.phase }, { on := 5, ground := Ground.phase }, { on := 6, ground := Ground.phase }, { on := 7, ground := Ground.phase }, { on := 8, ground := Ground.phase }, { on := 9, ground := Ground.phase }, { on := 10, ground := Ground.phase }, { on := 11, ground := Ground.phase }, { on := 12, ground := Ground.phase }, { on := 13, ground := Ground.phase }, { on := 14, ground := Ground.phase }, { on := 15, ground := Ground.phase }, { on := 16, ground := Ground.phase }, { on := 17, ground := Ground.phase }, { on := 18, ground := Ground.phase }, { on := 19, ground := Ground.phase }, { on := 20, ground := Ground.textOnly Departure.lateStores }, { on := 21, ground := Ground.phase }], guard := none }) rfl (fun K hK => ?_) AllReadyH.nil)
                      have hN := NN.out
                      obtain ⟨_, y0, y1, fy0, fy1⟩ := hN
                      clear hHeld KK17 KK21
                      go_simp
                      go_wp2_with fail
                      clear y0 y1 fy0 fy1
                      have KS := (Keep.setCell (fun x => x = bn) w5 bn 0 (.int .i64 now') rfl).trans (Keep.setCell (fun x => x = bn) _ bn 1 (.slice q5 l5 c5) rfl)
                      have B6 := Lib.hid (BS.out.trans (KS.below (fun b e => by have := HBN.out; omega) BS.out.size))
                      have N6 := Lib.hid (NN.out.set (.int .i64 now') (.slice q5 l5 c5))
                      have HG6 := Lib.hid (show kc = 0 → now' = t ∧ ∃ M', LHeld _ wr.heap.size (.slice q5 l5 c5) M' ∧ M'.Perm (learn ⟨⟨f, (na, nl), m⟩, t⟩ (age t zM)) ∧ Srtd M' from fun h0 => by
                        obtain ⟨h1, M', h2, h3, h4, h5⟩ := HG.out h0
                        exact ⟨h1, M', h2.keep KS h5, h3, h4⟩)
                      have KK22 := HC7.out _ B6.out
                      clear KS NN HG BS
                      generalize (w5.setCell ⟨bn, 0, none⟩ (.int .i64 now')).setCell ⟨bn, 1, none⟩ (.slice q5 l5 c5) = w6 at B6 N6 HG6 KK22 ⊢
                      refine hK.out _ _ KK22 (fun hHeld => ?_)
                      clear hK K
                      refine wpAnyH_take (i := 23) (oi := { dst := some 18, op := Op.assign (Operand.tmp 83), type := 30, pos := "told.go:41", after := #[{ on := 20, ground := Ground.data }, { on := 22, ground := Ground.chain }, { on := 0, ground := Ground.phase }, { on := 1, ground := Ground.phase }, { on := 2, ground := Ground.phase }, { on := 3, ground := Ground.phase }, { on := 4, ground := Ground.phase }, { on := 5, ground := Ground.phase }, { on := 6, ground := Ground.phase }, { on := 7, ground := Ground.phase }, { on := 8, ground := Ground.phase }, { on := 9, ground := Ground.phase }, { on := 10, ground := Ground.phase }, { on := 11, ground := Ground.phase }, { on := 12, ground := Ground.phase }, { on := 13, ground := Ground.phase }, { on := 14, ground := Ground.phase }, { on := 15, ground := Ground.phase }, { on := 16, ground := Ground.phase }, { on := 17, ground := Ground.phase }, { on := 18, ground := Ground.phase }, { on := 19, ground := Ground.phase }, { on := 20, ground := Ground.phase }, { on := 21, ground := Ground.phase }, { on := 22, ground := Ground.phase }], guard := none }) (v := ?_) rfl (by kernel_rfl) (by kernel_rfl) (by kernel_rfl) (fun _ _ _ h => h) (Or.inl ⟨by rfl, ?_⟩) hHeld ?_
                      rotate_left
                      · (intro w hSw; (try dsimp only at hSw); go_simp; first | done | with_reducible rfl)
                      simp only [Act.put, List.setIfInBounds_toArray, List.set_cons_zero, List.set_cons_succ]
                      refine wpAnyH_done (by kernel_rfl) ?_ _
                      clear hHeld
                      have T6 := Lib.hid (HT.out.below B6.out)
                      have HEQ := Lib.hid (show (learnE s f (na, nl) m t == kc) = true by rw [HKC.out]; simp)
                      go_wp2_with fail
                      refine wp_region_held_drew (S := (fun w' => w'.cell? ⟨b1, o1 + k, none⟩ = some (.int .i64 f) ∧ w'.cell? ⟨b2, o2 + k * 2, none⟩ = some (.int .u32 (na : Int)) ∧ w'.cell? ⟨b2, o2 + k * 2 + 1, none⟩ = some (.int .i64 nl) ∧ w'.cell? ⟨b3, o3 + k, none⟩ = some (.int .i64 m) ∧ w'.cell? ⟨b4, o4 + k, none⟩ = some (.int .i64 t))) (by kernel_rfl) (HC.out w6 T6.out.bel) (fun hHeld => ?_)
                      refine wpAnyH_take (i := 0) (oi := { dst := some 84, op := Op.move (Operand.tmp 12), type := 25, pos := "told.go:42", after := #[], guard := none }) (v := ?_) rfl (by kernel_rfl) (by kernel_rfl) (by kernel_rfl) (fun _ _ _ h => h) (Or.inl ⟨by rfl, ?_⟩) hHeld ?_
                      rotate_left
                      · (intro w hSw; (try dsimp only at hSw); go_simp; first | done | with_reducible rfl)
                      simp only [Act.put, List.setIfInBounds_toArray, List.set_cons_zero, List.set_cons_succ]
                      refine wpAnyH_take (i := 1) (oi := { dst := some 85, op := Op.move (Operand.tmp 1), type := 22, pos := "told.go:42", after := #[], guard := none }) (v := ?_) rfl (by kernel_rfl) (by kernel_rfl) (by kernel_rfl) (fun _ _ _ h => h) (Or.inl ⟨by rfl, ?_⟩) hHeld ?_
                      rotate_left
                      · (intro w hSw; (try dsimp only at hSw); go_simp; first | done | with_reducible rfl)
                      simp only [Act.put, List.setIfInBounds_toArray, List.set_cons_zero, List.set_cons_succ]
                      refine wpAnyH_take (i := 2) (oi := { dst := some 86, op := Op.move (Operand.tmp 14), type := 3, pos := "told.go:42", after := #[], guard := none }) (v := ?_) rfl (by kernel_rfl) (by kernel_rfl) (by kernel_rfl) (fun _ _ _ h => h) (Or.inl ⟨by rfl, ?_⟩) hHeld ?_
                      rotate_left
                      · (intro w hSw; (try dsimp only at hSw); go_simp; first | done | with_reducible rfl)
                      simp only [Act.put, List.setIfInBounds_toArray, List.set_cons_zero, List.set_cons_succ]
                      refine wpAnyH_take (i := 3) (oi := { dst := some 87, op := Op.indexAddr 22 (Operand.tmp 85) (Operand.tmp 86), type := 0, pos := "told.go:42", after := #[{ on := 1, ground := Ground.data }, { on := 2, ground := Ground.data }], guard := none }) (v := ?_) rfl (by kernel_rfl) (by kernel_rfl) (by kernel_rfl) (fun _ _ _ h => h) (Or.inl ⟨by rfl, ?_⟩) hHeld ?_
                      rotate_left
                      · (intro w hSw; (try dsimp only at hSw); go_simp; first | done | with_reducible rfl)
                      simp only [Act.put, List.setIfInBounds_toArray, List.set_cons_zero, List.set_cons_succ]
                      refine wpAnyH_take (i := 4) (oi := { dst := some 88, op := Op.load 3 (Operand.tmp 87), type := 3, pos := "told.go:42", after := #[{ on := 3, ground := Ground.data }], guard := none }) (v := ?_) rfl (by kernel_rfl) (by kernel_rfl) (by kernel_rfl) (fun _ _ _ h => h) (Or.inl ⟨by rfl, ?_⟩) hHeld ?_
                      rotate_left
                      · (intro w hSw; (try dsimp only at hSw); go_simp; first | done | with_reducible rfl)
                      simp only [Act.put, List.setIfInBounds_toArray, List.set_cons_zero, List.set_cons_succ]
                      refine wpAnyH_take (i := 5) (oi := { dst := some 89, op := Op.move (Operand.tmp 2), type := 23, pos := "told.go:42", after := #[], guard := none }) (v := ?_) rfl (by kernel_rfl) (by kernel_rfl) (by kernel_rfl) (fun _ _ _ h => h) (Or.inl ⟨by rfl, ?_⟩) hHeld ?_
                      rotate_left
                      · (intro w hSw; (try dsimp only at hSw); go_simp; first | done | with_reducible rfl)
                      simp only [Act.put, List.setIfInBounds_toArray, List.set_cons_zero, List.set_cons_succ]
                      refine wpAnyH_take (i := 6) (oi := { dst := some 90, op := Op.move (Operand.tmp 14), type := 3, pos := "told.go:42", after := #[], guard := none }) (v := ?_) rfl (by kernel_rfl) (by kernel_rfl) (by kernel_rfl) (fun _ _ _ h => h) (Or.inl ⟨by rfl, ?_⟩) hHeld ?_
                      rotate_left
                      · (intro w hSw; (try dsimp only at hSw); go_simp; first | done | with_reducible rfl)
                      simp only [Act.put, List.setIfInBounds_toArray, List.set_cons_zero, List.set_cons_succ]
                      refine wpAnyH_take (i := 7) (oi := { dst := some 91, op := Op.indexAddr 23 (Operand.tmp 89) (Operand.tmp 90), type := 0, pos := "told.go:42", after := #[{ on := 5, ground := Ground.data }, { on := 6, ground := Ground.data }], guard := none }) (v := ?_) rfl (by kernel_rfl) (by kernel_rfl) (by kernel_rfl) (fun _ _ _ h => h) (Or.inl ⟨by rfl, ?_⟩) hHeld ?_
                      rotate_left
                      · (intro w hSw; (try dsimp only at hSw); go_simp; first | done | with_reducible rfl)
                      simp only [Act.put, List.setIfInBounds_toArray, List.set_cons_zero, List.set_cons_succ]
                      refine wpAnyH_take (i := 8) (oi := { dst := some 92, op := Op.load 35 (Operand.tmp 91), type := 35, pos := "told.go:42", after := #[{ on := 7, ground := Ground.data }], guard := none }) (v := ?_) rfl (by kernel_rfl) (by kernel_rfl) (by kernel_rfl) (fun _ _ _ h => h) (Or.inl ⟨by rfl, ?_⟩) hHeld ?_
                      rotate_left
                      · (intro w hSw; (try dsimp only at hSw); go_simp; first | done | with_reducible rfl)
                      simp only [Act.put, List.setIfInBounds_toArray, List.set_cons_zero, List.set_cons_succ]
                      refine wpAnyH_take (i := 9) (oi := { dst := some 93, op := Op.move (Operand.tmp 3), type := 22, pos := "told.go:42", after := #[], guard := none }) (v := ?_) rfl (by kernel_rfl) (by kernel_rfl) (by kernel_rfl) (fun _ _ _ h => h) (Or.inl ⟨by rfl, ?_⟩) hHeld ?_
                      rotate_left
                      · (intro w hSw; (try dsimp only at hSw); go_simp; first | done | with_reducible rfl)
                      simp only [Act.put, List.setIfInBounds_toArray, List.set_cons_zero, List.set_cons_succ]
                      refine wpAnyH_take (i := 10) (oi := { dst := some 94, op := Op.move (Operand.tmp 14), type := 3, pos := "told.go:42", after := #[], guard := none }) (v := ?_) rfl (by kernel_rfl) (by kernel_rfl) (by kernel_rfl) (fun _ _ _ h => h) (Or.inl ⟨by rfl, ?_⟩) hHeld ?_
                      rotate_left
                      · (intro w hSw; (try dsimp only at hSw); go_simp; first | done | with_reducible rfl)
                      simp only [Act.put, List.setIfInBounds_toArray, List.set_cons_zero, List.set_cons_succ]
                      refine wpAnyH_take (i := 11) (oi := { dst := some 95, op := Op.indexAddr 22 (Operand.tmp 93) (Operand.tmp 94), type := 0, pos := "told.go:42", after := #[{ on := 9, ground := Ground.data }, { on := 10, ground := Ground.data }], guard := none }) (v := ?_) rfl (by kernel_rfl) (by kernel_rfl) (by kernel_rfl) (fun _ _ _ h => h) (Or.inl ⟨by rfl, ?_⟩) hHeld ?_
                      rotate_left
                      · (intro w hSw; (try dsimp only at hSw); go_simp; first | done | with_reducible rfl)
                      simp only [Act.put, List.setIfInBounds_toArray, List.set_cons_zero, List.set_cons_succ]
                      refine wpAnyH_take (i := 12) (oi := { dst := some 96, op := Op.load 3 (Operand.tmp 95), type := 3, pos := "told.go:42", after := #[{ on := 11, ground := Ground.data }], guard := none }) (v := ?_) rfl (by kernel_rfl) (by kernel_rfl) (by kernel_rfl) (fun _ _ _ h => h) (Or.inl ⟨by rfl, ?_⟩) hHeld ?_
                      rotate_left
                      · (intro w hSw; (try dsimp only at hSw); go_simp; first | done | with_reducible rfl)
                      simp only [Act.put, List.setIfInBounds_toArray, List.set_cons_zero, List.set_cons_succ]
                      refine wpAnyH_take (i := 13) (oi := { dst := some 97, op := Op.move (Operand.tmp 4), type := 22, pos := "told.go:42", after := #[], guard := none }) (v := ?_) rfl (by kernel_rfl) (by kernel_rfl) (by kernel_rfl) (fun _ _ _ h => h) (Or.inl ⟨by rfl, ?_⟩) hHeld ?_
                      rotate_left
                      · (intro w hSw; (try dsimp only at hSw); go_simp; first | done | with_reducible rfl)
                      simp only [Act.put, List.setIfInBounds_toArray, List.set_cons_zero, List.set_cons_succ]
                      refine wpAnyH_take (i := 14) (oi := { dst := some 98, op := Op.move (Operand.tmp 14), type := 3, pos := "told.go:42", after := #[], guard := none }) (v := ?_) rfl (by kernel_rfl) (by kernel_rfl) (by kernel_rfl) (fun _ _ _ h => h) (Or.inl ⟨by rfl, ?_⟩) hHeld ?_
                      rotate_left
                      · (intro w hSw; (try dsimp only at hSw); go_simp; first | done | with_reducible rfl)
                      simp only [Act.put, List.setIfInBounds_toArray, List.set_cons_zero, List.set_cons_succ]
                      refine wpAnyH_take (i := 15) (oi := { dst := some 99, op := Op.indexAddr 22 (Operand.tmp 97) (Operand.tmp 98), type := 0, pos := "told.go:42", after := #[{ on := 13, ground := Ground.data }, { on := 14, ground := Ground.data }], guard := none }) (v := ?_) rfl (by kernel_rfl) (by kernel_rfl) (by kernel_rfl) (fun _ _ _ h => h) (Or.inl ⟨by rfl, ?_⟩) hHeld ?_
                      rotate_left
                      · (intro w hSw; (try dsimp only at hSw); go_simp; first | done | with_reducible rfl)
                      simp only [Act.put, List.setIfInBounds_toArray, List.set_cons_zero, List.set_cons_succ]
                      refine wpAnyH_take (i := 16) (oi := { dst := some 100, op := Op.load 3 (Operand.tmp 99), type := 3, pos := "told.go:42", after := #[{ on := 15, ground := Ground.data }], guard := none }) (v := ?_) rfl (by kernel_rfl) (by kernel_rfl) (by kernel_rfl) (fun _ _ _ h => h) (Or.inl ⟨by rfl, ?_⟩) hHeld ?_
                      rotate_left
                      · (intro w hSw; (try dsimp only at hSw); go_simp; first | done | with_reducible rfl)
                      simp only [Act.put, List.setIfInBounds_toArray, List.set_cons_zero, List.set_cons_succ]
                      refine wpAnyH_take (i := 18) (oi := { dst := some 102, op := Op.move (Operand.tmp 18), type := 30, pos := "told.go:42", after := #[], guard := none }) (v := ?_) rfl (by kernel_rfl) (by kernel_rfl) (by kernel_rfl) (fun _ _ _ h => h) (Or.inl ⟨by rfl, ?_⟩) hHeld ?_
                      rotate_left
                      · (intro w hSw; (try dsimp only at hSw); go_simp; first | done | with_reducible rfl)
                      simp only [Act.put, List.setIfInBounds_toArray, List.set_cons_zero, List.set_cons_succ]
                      refine wpAnyH_ready (rs := [17]) (by kernel_rfl) (by simp) ?_
                      refine (AllReadyH.cons (o := { dst := some 101, op := Op.call { callee := Callee.value (Operand.func 8), args := #[Operand.tmp 84, Operand.tmp 88, Operand.tmp 92, Operand.tmp 96, Operand.tmp 100], argTypes := #[25, 3, 35, 3, 3] }, type := 38, pos := "told.go:42", after := #[{ on := 0, ground := Ground.data }, { on := 4, ground := Ground.data }, { on := 8, ground := Ground.data }, { on := 12, ground := Ground.data }, { on := 16, ground := Ground.data }], guard := none }) rfl (fun K hK => ?_) AllReadyH.nil)
                      go_simp
                      go_at_call 8
                      refine (tell_learn (T6.out.below (Below.refl _ _).drew) f na nl m t HOKN.out).mono ?_
                      rintro e w7 ⟨rfl, h7, k7⟩
                      have T7 := Lib.hid h7
                      have K7 := Lib.hid (show Keep (fun x => x = p) w6 w7 from (Keep.drew (Keep.refl _ w6)).trans k7)
                      have KK17 := HC.out w7 h7.bel
                      clear hHeld h7 k7
                      go_wp2_with fail
                      refine hK.out _ _ KK17 (fun hHeld => ?_)
                      clear hK K
                      refine wpAnyH_ready (rs := [19]) (by kernel_rfl) (by simp) ?_
                      refine (AllReadyH.cons (o := { dst := some 103, op := Op.call { callee := Callee.value (Operand.func 7), args := #[Operand.tmp 101, Operand.tmp 102], argTypes := #[38, 30] }, type := 4, pos := "told.go:42", after := #[{ on := 17, ground := Ground.data }, { on := 18, ground := Ground.data }, { on := 17, ground := Ground.chain }], guard := none }) rfl (fun K hK => ?_) AllReadyH.nil)
                      go_simp
                      go_at_call 7
                      refine (sameErr_any _ kc _ (HE.out.below T7.out.bel)).mono ?_
                      rintro e w8 ⟨rfl, hb8⟩
                      rw [HEQ.out]
                      have T8 := Lib.hid (T7.out.below hb8)
                      have N8 := Lib.hid ((N6.out.ofBlock (K7.out.block bn N6.out.lt (by have := HT.out.lt; have := HBN.out; omega)) K7.out.size).kept hb8)
                      have HG8 := Lib.hid (show kc = 0 → now' = t ∧ ∃ M', LHeld w8 wr.heap.size (.slice q5 l5 c5) M' ∧ M'.Perm (learn ⟨⟨f, (na, nl), m⟩, t⟩ (age t zM)) ∧ Srtd M' from fun h0 => by
                        obtain ⟨h1, M', h2, h3, h4⟩ := HG6.out h0
                        exact ⟨h1, M', (h2.keep K7.out (fun g hg e => by have := (h2.lt g hg).1; have := HT.out.lt; omega)).below hb8, h3, h4⟩)
                      have KK19 := HC.out w8 T8.out.bel
                      clear hHeld hb8 T7 K7
                      go_wp2_with fail
                      refine hK.out _ _ KK19 (fun hHeld => ?_)
                      clear hK K
                      refine wpAnyH_take (i := 20) (oi := { dst := some 16, op := Op.assign (Operand.tmp 103), type := 4, pos := "told.go:42", after := #[{ on := 19, ground := Ground.data }, { on := 19, ground := Ground.chain }, { on := 0, ground := Ground.phase }, { on := 1, ground := Ground.phase }, { on := 2, ground := Ground.phase }, { on := 3, ground := Ground.phase }, { on := 4, ground := Ground.phase }, { on := 5, ground := Ground.phase }, { on := 6, ground := Ground.phase }, { on := 7, ground := Ground.phase }, { on := 8, ground := Ground.phase }, { on := 9, ground := Ground.phase }, { on := 10, ground := Ground.phase }, { on := 11, ground := Ground.phase }, { on := 12, ground := Ground.phase }, { on := 13, ground := Ground.phase }, { on := 14, ground := Ground.phase }, { on := 15, ground := Ground.phase }, { on := 16, ground := Ground.phase }, { on := 17, ground := Ground.phase }, { on := 18, ground := Ground.phase }, { on := 19, ground := Ground.phase }], guard := none }) (v := ?_) rfl (by kernel_rfl) (by kernel_rfl) (by kernel_rfl) (fun _ _ _ h => h) (Or.inl ⟨by rfl, ?_⟩) hHeld ?_
                      rotate_left
                      · (intro w hSw; (try dsimp only at hSw); go_simp; first | done | with_reducible rfl)
                      simp only [Act.put, List.setIfInBounds_toArray, List.set_cons_zero, List.set_cons_succ]
                      refine wpAnyH_done (by kernel_rfl) ?_ _
                      clear hHeld
                      by_cases hk0 : kc = 0
                      · have tk : (kc == 0) = true := by rw [hk0]; rfl
                        obtain ⟨hnt, M', h2, h3, h4⟩ := HG8.out hk0
                        obtain rfl : t = now' := hnt.symm
                        have HM2 := Lib.hid (HM.out.learn f (na, nl) m t HOKN.out (HKC.out.symm.trans hk0) h3 h4)
                        obtain ⟨zq, zl, zc, hbx, _⟩ := T8.out.box
                        have hN := N8.out
                        obtain ⟨_, n0, n1, _, _⟩ := hN
                        obtain ⟨_, y0, y1, fy0, fy1⟩ := hbx
                        have HP := Lib.hid (T8.out.put (z' := (t, M')) h2.arg (fun g hg => by have := (h2.lt g hg).1; have := HT.out.lt; have := HT.out.bel.size; omega))
                        have nb1 : ¬ bn = bm := by have := HT.out.lt; have := HBN.out; omega
                        have nb2 : ¬ bm = bn := fun e => nb1 e.symm
                        clear hk0 h2 h3 h4 HG8
                        go_wp2_with fail
                        go_meet
                        case rel => exact ⟨_, _, rfl, HM2, HP⟩
                      · have tk : (kc == 0) = false := by simpa using hk0
                        have HM2 := Lib.hid (HM.out.learn_bad f (na, nl) m t (fun e => hk0 (HKC.out.trans e)))
                        clear hk0
                        go_wp2_with fail
                        go_meet
                        case rel => exact ⟨_, _, rfl, HM2, T8⟩
                  · have tx : (x == 0) = false := by simpa using x0
                    clear x0
                    by_cases x1 : x = 1
                    · have ty : (x == 1) = true := by rw [x1]; rfl
                      clear x1
                      go_wp2_with fail
                      refine wp_region_held_drew (S := (fun w' => w'.cell? ⟨bm, 0, none⟩ = some (.int .i64 zn) ∧ w'.cell? ⟨bm, 1, none⟩ = some (.slice zq zl zc) ∧ w'.cell? ⟨b1, o1 + k, none⟩ = some (.int .i64 f) ∧ w'.cell? ⟨b2, o2 + k * 2, none⟩ = some (.int .u32 (na : Int)) ∧ w'.cell? ⟨b2, o2 + k * 2 + 1, none⟩ = some (.int .i64 nl) ∧ w'.cell? ⟨b3, o3 + k, none⟩ = some (.int .i64 m) ∧ w'.cell? ⟨b4, o4 + k, none⟩ = some (.int .i64 t))) (by kernel_rfl) (HC7.out wr (Below.refl _ _)) (fun hHeld => ?_)
                      refine wpAnyH_take (i := 0) (oi := { dst := some 112, op := Op.load 29 (Operand.tmp 13), type := 29, pos := "told.go:47", after := #[], guard := none }) (v := ?_) rfl (by kernel_rfl) (by kernel_rfl) (by kernel_rfl) (fun _ _ _ h => h) (Or.inl ⟨by rfl, ?_⟩) hHeld ?_
                      rotate_left
                      · (intro w hSw; (try dsimp only at hSw); go_simp; first | done | with_reducible rfl)
                      simp only [Act.put, List.setIfInBounds_toArray, List.set_cons_zero, List.set_cons_succ]
                      refine wpAnyH_take (i := 1) (oi := { dst := some 113, op := Op.move (Operand.tmp 1), type := 22, pos := "told.go:47", after := #[], guard := none }) (v := ?_) rfl (by kernel_rfl) (by kernel_rfl) (by kernel_rfl) (fun _ _ _ h => h) (Or.inl ⟨by rfl, ?_⟩) hHeld ?_
                      rotate_left
                      · (intro w hSw; (try dsimp only at hSw); go_simp; first | done | with_reducible rfl)
                      simp only [Act.put, List.setIfInBounds_toArray, List.set_cons_zero, List.set_cons_succ]
                      refine wpAnyH_take (i := 2) (oi := { dst := some 114, op := Op.move (Operand.tmp 14), type := 3, pos := "told.go:47", after := #[], guard := none }) (v := ?_) rfl (by kernel_rfl) (by kernel_rfl) (by kernel_rfl) (fun _ _ _ h => h) (Or.inl ⟨by rfl, ?_⟩) hHeld ?_
                      rotate_left
                      · (intro w hSw; (try dsimp only at hSw); go_simp; first | done | with_reducible rfl)
                      simp only [Act.put, List.setIfInBounds_toArray, List.set_cons_zero, List.set_cons_succ]
                      refine wpAnyH_take (i := 3) (oi := { dst := some 115, op := Op.indexAddr 22 (Operand.tmp 113) (Operand.tmp 114), type := 0, pos := "told.go:47", after := #[{ on := 1, ground := Ground.data }, { on := 2, ground := Ground.data }], guard := none }) (v := ?_) rfl (by kernel_rfl) (by kernel_rfl) (by kernel_rfl) (fun _ _ _ h => h) (Or.inl ⟨by rfl, ?_⟩) hHeld ?_
                      rotate_left
                      · (intro w hSw; (try dsimp only at hSw); go_simp; first | done | with_reducible rfl)
                      simp only [Act.put, List.setIfInBounds_toArray, List.set_cons_zero, List.set_cons_succ]
                      refine wpAnyH_take (i := 4) (oi := { dst := some 116, op := Op.load 3 (Operand.tmp 115), type := 3, pos := "told.go:47", after := #[{ on := 3, ground := Ground.data }], guard := none }) (v := ?_) rfl (by kernel_rfl) (by kernel_rfl) (by kernel_rfl) (fun _ _ _ h => h) (Or.inl ⟨by rfl, ?_⟩) hHeld ?_
                      rotate_left
                      · (intro w hSw; (try dsimp only at hSw); go_simp; first | done | with_reducible rfl)
                      simp only [Act.put, List.setIfInBounds_toArray, List.set_cons_zero, List.set_cons_succ]
                      refine wpAnyH_take (i := 5) (oi := { dst := some 117, op := Op.move (Operand.tmp 4), type := 22, pos := "told.go:47", after := #[], guard := none }) (v := ?_) rfl (by kernel_rfl) (by kernel_rfl) (by kernel_rfl) (fun _ _ _ h => h) (Or.inl ⟨by rfl, ?_⟩) hHeld ?_
                      rotate_left
                      · (intro w hSw; (try dsimp only at hSw); go_simp; first | done | with_reducible rfl)
                      simp only [Act.put, List.setIfInBounds_toArray, List.set_cons_zero, List.set_cons_succ]
                      refine wpAnyH_take (i := 6) (oi := { dst := some 118, op := Op.move (Operand.tmp 14), type := 3, pos := "told.go:47", after := #[], guard := none }) (v := ?_) rfl (by kernel_rfl) (by kernel_rfl) (by kernel_rfl) (fun _ _ _ h => h) (Or.inl ⟨by rfl, ?_⟩) hHeld ?_
                      rotate_left
                      · (intro w hSw; (try dsimp only at hSw); go_simp; first | done | with_reducible rfl)
                      simp only [Act.put, List.setIfInBounds_toArray, List.set_cons_zero, List.set_cons_succ]
                      refine wpAnyH_take (i := 7) (oi := { dst := some 119, op := Op.indexAddr 22 (Operand.tmp 117) (Operand.tmp 118), type := 0, pos := "told.go:47", after := #[{ on := 5, ground := Ground.data }, { on := 6, ground := Ground.data }], guard := none }) (v := ?_) rfl (by kernel_rfl) (by kernel_rfl) (by kernel_rfl) (fun _ _ _ h => h) (Or.inl ⟨by rfl, ?_⟩) hHeld ?_
                      rotate_left
                      · (intro w hSw; (try dsimp only at hSw); go_simp; first | done | with_reducible rfl)
                      simp only [Act.put, List.setIfInBounds_toArray, List.set_cons_zero, List.set_cons_succ]
                      refine wpAnyH_take (i := 8) (oi := { dst := some 120, op := Op.load 3 (Operand.tmp 119), type := 3, pos := "told.go:47", after := #[{ on := 7, ground := Ground.data }], guard := none }) (v := ?_) rfl (by kernel_rfl) (by kernel_rfl) (by kernel_rfl) (fun _ _ _ h => h) (Or.inl ⟨by rfl, ?_⟩) hHeld ?_
                      rotate_left
                      · (intro w hSw; (try dsimp only at hSw); go_simp; first | done | with_reducible rfl)
                      simp only [Act.put, List.setIfInBounds_toArray, List.set_cons_zero, List.set_cons_succ]
                      refine wpAnyH_ready (rs := [9]) (by kernel_rfl) (by simp) ?_
                      refine (AllReadyH.cons (o := { dst := some 121, op := Op.call { callee := Callee.value (Operand.func 9), args := #[Operand.tmp 112, Operand.tmp 116, Operand.tmp 120], argTypes := #[29, 3, 3] }, type := 30, pos := "told.go:47", after := #[{ on := 0, ground := Ground.data }, { on := 4, ground := Ground.data }, { on := 8, ground := Ground.data }], guard := none }) rfl (fun K hK => ?_) AllReadyH.nil)
                      go_simp
                      go_at_call 9
                      refine (timeFault_any _ zn zq zl zc f t zM).mono ?_
                      rintro r w6 ⟨rfl, hb6⟩
                      have B6 := Lib.hid (show Below wr.heap.size wr w6 from (Below.refl wr.heap.size wr).drew.trans hb6)
                      have KK9 := HC7.out w6 B6.out
                      rw [show nearE (zn, zM) f t = nearE s f t from HM.out.near f t]
                      obtain ⟨kc, hkc⟩ : ∃ kc, kc = nearE s f t := ⟨_, rfl⟩
                      rw [← hkc]
                      have HKC := Lib.hid (show kc = nearE s f t from hkc)
                      have HEQ := Lib.hid (show (nearE s f t == kc) = true by rw [hkc]; simp)
                      clear hkc
                      clear hHeld hb6
                      go_wp2_with fail
                      refine hK.out _ _ KK9 (fun hHeld => ?_)
                      clear hK K
                      refine wpAnyH_take (i := 10) (oi := { dst := some 15, op := Op.assign (Operand.tmp 121), type := 30, pos := "told.go:47", after := #[{ on := 9, ground := Ground.data }, { on := 9, ground := Ground.chain }, { on := 0, ground := Ground.phase }, { on := 1, ground := Ground.phase }, { on := 2, ground := Ground.phase }, { on := 3, ground := Ground.phase }, { on := 4, ground := Ground.phase }, { on := 5, ground := Ground.phase }, { on := 6, ground := Ground.phase }, { on := 7, ground := Ground.phase }, { on := 8, ground := Ground.phase }, { on := 9, ground := Ground.phase }], guard := none }) (v := ?_) rfl (by kernel_rfl) (by kernel_rfl) (by kernel_rfl) (fun _ _ _ h => h) (Or.inl ⟨by rfl, ?_⟩) hHeld ?_
                      rotate_left
                      · (intro w hSw; (try dsimp only at hSw); go_simp; first | done | with_reducible rfl)
                      simp only [Act.put, List.setIfInBounds_toArray, List.set_cons_zero, List.set_cons_succ]
                      refine wpAnyH_done (by kernel_rfl) ?_ _
                      clear hHeld
                      have T6 := Lib.hid (HT.out.below B6.out)
                      go_wp2_with fail
                      refine wp_region_held_drew (S := (fun w' => w'.cell? ⟨b1, o1 + k, none⟩ = some (.int .i64 f) ∧ w'.cell? ⟨b2, o2 + k * 2, none⟩ = some (.int .u32 (na : Int)) ∧ w'.cell? ⟨b2, o2 + k * 2 + 1, none⟩ = some (.int .i64 nl) ∧ w'.cell? ⟨b3, o3 + k, none⟩ = some (.int .i64 m) ∧ w'.cell? ⟨b4, o4 + k, none⟩ = some (.int .i64 t))) (by kernel_rfl) (HC.out w6 T6.out.bel) (fun hHeld => ?_)
                      refine wpAnyH_take (i := 0) (oi := { dst := some 122, op := Op.move (Operand.tmp 12), type := 25, pos := "told.go:48", after := #[], guard := none }) (v := ?_) rfl (by kernel_rfl) (by kernel_rfl) (by kernel_rfl) (fun _ _ _ h => h) (Or.inl ⟨by rfl, ?_⟩) hHeld ?_
                      rotate_left
                      · (intro w hSw; (try dsimp only at hSw); go_simp; first | done | with_reducible rfl)
                      simp only [Act.put, List.setIfInBounds_toArray, List.set_cons_zero, List.set_cons_succ]
                      refine wpAnyH_take (i := 1) (oi := { dst := some 123, op := Op.move (Operand.tmp 1), type := 22, pos := "told.go:48", after := #[], guard := none }) (v := ?_) rfl (by kernel_rfl) (by kernel_rfl) (by kernel_rfl) (fun _ _ _ h => h) (Or.inl ⟨by rfl, ?_⟩) hHeld ?_
                      rotate_left
                      · (intro w hSw; (try dsimp only at hSw); go_simp; first | done | with_reducible rfl)
                      simp only [Act.put, List.setIfInBounds_toArray, List.set_cons_zero, List.set_cons_succ]
                      refine wpAnyH_take (i := 2) (oi := { dst := some 124, op := Op.move (Operand.tmp 14), type := 3, pos := "told.go:48", after := #[], guard := none }) (v := ?_) rfl (by kernel_rfl) (by kernel_rfl) (by kernel_rfl) (fun _ _ _ h => h) (Or.inl ⟨by rfl, ?_⟩) hHeld ?_
                      rotate_left
                      · (intro w hSw; (try dsimp only at hSw); go_simp; first | done | with_reducible rfl)
                      simp only [Act.put, List.setIfInBounds_toArray, List.set_cons_zero, List.set_cons_succ]
                      refine wpAnyH_take (i := 3) (oi := { dst := some 125, op := Op.indexAddr 22 (Operand.tmp 123) (Operand.tmp 124), type := 0, pos := "told.go:48", after := #[{ on := 1, ground := Ground.data }, { on := 2, ground := Ground.data }], guard := none }) (v := ?_) rfl (by kernel_rfl) (by kernel_rfl) (by kernel_rfl) (fun _ _ _ h => h) (Or.inl ⟨by rfl, ?_⟩) hHeld ?_
                      rotate_left
                      · (intro w hSw; (try dsimp only at hSw); go_simp; first | done | with_reducible rfl)
                      simp only [Act.put, List.setIfInBounds_toArray, List.set_cons_zero, List.set_cons_succ]
                      refine wpAnyH_take (i := 4) (oi := { dst := some 126, op := Op.load 3 (Operand.tmp 125), type := 3, pos := "told.go:48", after := #[{ on := 3, ground := Ground.data }], guard := none }) (v := ?_) rfl (by kernel_rfl) (by kernel_rfl) (by kernel_rfl) (fun _ _ _ h => h) (Or.inl ⟨by rfl, ?_⟩) hHeld ?_
                      rotate_left
                      · (intro w hSw; (try dsimp only at hSw); go_simp; first | done | with_reducible rfl)
                      simp only [Act.put, List.setIfInBounds_toArray, List.set_cons_zero, List.set_cons_succ]
                      refine wpAnyH_take (i := 5) (oi := { dst := some 127, op := Op.move (Operand.tmp 4), type := 22, pos := "told.go:48", after := #[], guard := none }) (v := ?_) rfl (by kernel_rfl) (by kernel_rfl) (by kernel_rfl) (fun _ _ _ h => h) (Or.inl ⟨by rfl, ?_⟩) hHeld ?_
                      rotate_left
                      · (intro w hSw; (try dsimp only at hSw); go_simp; first | done | with_reducible rfl)
                      simp only [Act.put, List.setIfInBounds_toArray, List.set_cons_zero, List.set_cons_succ]
                      refine wpAnyH_take (i := 6) (oi := { dst := some 128, op := Op.move (Operand.tmp 14), type := 3, pos := "told.go:48", after := #[], guard := none }) (v := ?_) rfl (by kernel_rfl) (by kernel_rfl) (by kernel_rfl) (fun _ _ _ h => h) (Or.inl ⟨by rfl, ?_⟩) hHeld ?_
                      rotate_left
                      · (intro w hSw; (try dsimp only at hSw); go_simp; first | done | with_reducible rfl)
                      simp only [Act.put, List.setIfInBounds_toArray, List.set_cons_zero, List.set_cons_succ]
                      refine wpAnyH_take (i := 7) (oi := { dst := some 129, op := Op.indexAddr 22 (Operand.tmp 127) (Operand.tmp 128), type := 0, pos := "told.go:48", after := #[{ on := 5, ground := Ground.data }, { on := 6, ground := Ground.data }], guard := none }) (v := ?_) rfl (by kernel_rfl) (by kernel_rfl) (by kernel_rfl) (fun _ _ _ h => h) (Or.inl ⟨by rfl, ?_⟩) hHeld ?_
                      rotate_left
                      · (intro w hSw; (try dsimp only at hSw); go_simp; first | done | with_reducible rfl)
                      simp only [Act.put, List.setIfInBounds_toArray, List.set_cons_zero, List.set_cons_succ]
                      refine wpAnyH_take (i := 8) (oi := { dst := some 130, op := Op.load 3 (Operand.tmp 129), type := 3, pos := "told.go:48", after := #[{ on := 7, ground := Ground.data }], guard := none }) (v := ?_) rfl (by kernel_rfl) (by kernel_rfl) (by kernel_rfl) (fun _ _ _ h => h) (Or.inl ⟨by rfl, ?_⟩) hHeld ?_
                      rotate_left
                      · (intro w hSw; (try dsimp only at hSw); go_simp; first | done | with_reducible rfl)
                      simp only [Act.put, List.setIfInBounds_toArray, List.set_cons_zero, List.set_cons_succ]
                      refine wpAnyH_take (i := 10) (oi := { dst := some 132, op := Op.move (Operand.tmp 15), type := 30, pos := "told.go:48", after := #[], guard := none }) (v := ?_) rfl (by kernel_rfl) (by kernel_rfl) (by kernel_rfl) (fun _ _ _ h => h) (Or.inl ⟨by rfl, ?_⟩) hHeld ?_
                      rotate_left
                      · (intro w hSw; (try dsimp only at hSw); go_simp; first | done | with_reducible rfl)
                      simp only [Act.put, List.setIfInBounds_toArray, List.set_cons_zero, List.set_cons_succ]
                      refine wpAnyH_ready (rs := [9]) (by kernel_rfl) (by simp) ?_
                      refine (AllReadyH.cons (o := { dst := some 131, op := Op.call { callee := Callee.value (Operand.func 10), args := #[Operand.tmp 122, Operand.tmp 126, Operand.tmp 130], argTypes := #[25, 3, 3] }, type := 38, pos := "told.go:48", after := #[{ on := 0, ground := Ground.data }, { on := 4, ground := Ground.data }, { on := 8, ground := Ground.data }], guard := none }) rfl (fun K hK => ?_) AllReadyH.nil)
                      go_simp
                      go_at_call 10
                      refine (tell_lose (T6.out.below (Below.refl _ _).drew) f t).mono ?_
                      rintro e w7 ⟨rfl, h7, _⟩
                      have T7 := Lib.hid h7
                      have KK9 := HC.out w7 h7.bel
                      clear hHeld h7
                      go_wp2_with fail
                      refine hK.out _ _ KK9 (fun hHeld => ?_)
                      clear hK K
                      refine wpAnyH_ready (rs := [11]) (by kernel_rfl) (by simp) ?_
                      refine (AllReadyH.cons (o := { dst := some 133, op := Op.call { callee := Callee.value (Operand.func 7), args := #[Operand.tmp 131, Operand.tmp 132], argTypes := #[38, 30] }, type := 4, pos := "told.go:48", after := #[{ on := 9, ground := Ground.data }, { on := 10, ground := Ground.data }, { on := 9, ground := Ground.chain }], guard := none }) rfl (fun K hK => ?_) AllReadyH.nil)
                      go_simp
                      go_at_call 7
                      refine (sameErr_any _ kc _ (HE.out.below T7.out.bel)).mono ?_
                      rintro e w8 ⟨rfl, hb8⟩
                      rw [HEQ.out]
                      have T8 := Lib.hid (T7.out.below hb8)
                      have KK11 := HC.out w8 T8.out.bel
                      clear hHeld hb8 T7
                      go_wp2_with fail
                      refine hK.out _ _ KK11 (fun hHeld => ?_)
                      clear hK K
                      refine wpAnyH_take (i := 12) (oi := { dst := some 16, op := Op.assign (Operand.tmp 133), type := 4, pos := "told.go:48", after := #[{ on := 11, ground := Ground.data }, { on := 11, ground := Ground.chain }, { on := 0, ground := Ground.phase }, { on := 1, ground := Ground.phase }, { on := 2, ground := Ground.phase }, { on := 3, ground := Ground.phase }, { on := 4, ground := Ground.phase }, { on := 5, ground := Ground.phase }, { on := 6, ground := Ground.phase }, { on := 7, ground := Ground.phase }, { on := 8, ground := Ground.phase }, { on := 9, ground := Ground.phase }, { on := 10, ground := Ground.phase }, { on := 11, ground := Ground.phase }], guard := none }) (v := ?_) rfl (by kernel_rfl) (by kernel_rfl) (by kernel_rfl) (fun _ _ _ h => h) (Or.inl ⟨by rfl, ?_⟩) hHeld ?_
                      rotate_left
                      · (intro w hSw; (try dsimp only at hSw); go_simp; first | done | with_reducible rfl)
                      simp only [Act.put, List.setIfInBounds_toArray, List.set_cons_zero, List.set_cons_succ]
                      refine wpAnyH_done (by kernel_rfl) ?_ _
                      clear hHeld
                      by_cases hk0 : kc = 0
                      · have tk : (kc == 0) = true := by rw [hk0]; rfl
                        obtain ⟨hok, hmd⟩ := HM.out.lose f t (HKC.out.symm.trans hk0)
                        have HTK := Lib.hid (show zn ≤ t ∧ t ≤ 1099511627776 from ⟨by have := HM.out.now; dsimp only at this; rw [this]; exact hok.1, hok.2⟩)
                        have HM2 := Lib.hid hmd
                        clear hok hmd hk0 HL HX HC7
                        obtain ⟨zq, zl, zc, hbx, hla⟩ := T8.out.box
                        have HX := Lib.hid hbx
                        have HL := Lib.hid hla
                        have HC7 := Lib.hid (fun (W : World) (hW : Below w8.heap.size w8 W) => And.intro (hbx.kept hW).c0 (And.intro (hbx.kept hW).c1 (HC.out W (T8.out.below hW).bel)))
                        clear hbx hla
                        obtain ⟨x0, x1, i1, i2, i2', i3, i4⟩ := HC7.out w8 (Below.refl _ _)
                        have HLL := Lib.hid (refLost_any w8.drew zn (.slice zq zl zc) zM f t HM.out.len (HL.out.below (Below.refl _ _).drew) (fun e he => ⟨(HM.out.all e he).1, (HM.out.all e he).2.1, Int.le_trans (HM.out.all e he).2.2 HTK.out.1⟩) HTK.out.2)
                        have BW := Lib.hid (show Below w8.heap.size w8 w8.drew from (Below.refl _ _).drew)
                        go_wp2_with fail
                        go_still_tail 9, (by kernel_rfl)
                        change wpList _ _ _ _ _ w8.drew
                        generalize w8.drew = wd at HLL BW ⊢
                        go_wp2_with fail
                        refine HLL.out.mono ?_
                        rintro r w9 ⟨v9, rfl, ho9, hb9⟩
                        have h9 := ho9
                        obtain ⟨q9, c9, rfl⟩ := h9.len
                        obtain ⟨l9, hl9⟩ : ∃ l9, l9 = (lose f t (age t zM)).length := ⟨_, rfl⟩
                        rw [← hl9] at h9 ⊢
                        clear hl9 ho9
                        have H9 := Lib.hid (h9.down BW.out.size)
                        have B9 := Lib.hid (BW.out.trans (hb9.mono BW.out.size))
                        obtain ⟨_, y0, y1, fy0, fy1⟩ := HX.out.kept B9.out
                        clear h9 hb9 HLL x0 x1 i1 i2 i2' i3 i4
                        have HP := Lib.hid ((T8.out.below B9.out).put (z' := (t, lose f t (age t zM))) H9.out.arg (fun g hg => by have := (H9.out.lt g hg).1; have := T8.out.lt; have := T8.out.bel.size; omega))
                        go_wp2_with fail
                        go_meet
                        case rel => exact ⟨_, _, rfl, HM2, HP⟩
                      · have tk : (kc == 0) = false := by simpa using hk0
                        have HM2 := Lib.hid (HM.out.lose_bad f t (fun e => hk0 (HKC.out.trans e)))
                        clear hk0
                        go_wp2_with fail
                        go_meet
                        case rel => exact ⟨_, _, rfl, HM2, T8⟩
                    · have ty : (x == 1) = false := by simpa using x1
                      clear x1
                      go_wp2_with fail
                      refine wp_region_held_drew (S := (fun w' => w'.cell? ⟨bm, 0, none⟩ = some (.int .i64 zn) ∧ w'.cell? ⟨bm, 1, none⟩ = some (.slice zq zl zc) ∧ w'.cell? ⟨b1, o1 + k, none⟩ = some (.int .i64 f) ∧ w'.cell? ⟨b2, o2 + k * 2, none⟩ = some (.int .u32 (na : Int)) ∧ w'.cell? ⟨b2, o2 + k * 2 + 1, none⟩ = some (.int .i64 nl) ∧ w'.cell? ⟨b3, o3 + k, none⟩ = some (.int .i64 m) ∧ w'.cell? ⟨b4, o4 + k, none⟩ = some (.int .i64 t))) (by kernel_rfl) (HC7.out wr (Below.refl _ _)) (fun hHeld => ?_)
                      refine wpAnyH_take (i := 0) (oi := { dst := some 146, op := Op.load 29 (Operand.tmp 13), type := 29, pos := "told.go:53", after := #[], guard := none }) (v := ?_) rfl (by kernel_rfl) (by kernel_rfl) (by kernel_rfl) (fun _ _ _ h => h) (Or.inl ⟨by rfl, ?_⟩) hHeld ?_
                      rotate_left
                      · (intro w hSw; (try dsimp only at hSw); go_simp; first | done | with_reducible rfl)
                      simp only [Act.put, List.setIfInBounds_toArray, List.set_cons_zero, List.set_cons_succ]
                      refine wpAnyH_take (i := 1) (oi := { dst := some 147, op := Op.move (Operand.tmp 4), type := 22, pos := "told.go:53", after := #[], guard := none }) (v := ?_) rfl (by kernel_rfl) (by kernel_rfl) (by kernel_rfl) (fun _ _ _ h => h) (Or.inl ⟨by rfl, ?_⟩) hHeld ?_
                      rotate_left
                      · (intro w hSw; (try dsimp only at hSw); go_simp; first | done | with_reducible rfl)
                      simp only [Act.put, List.setIfInBounds_toArray, List.set_cons_zero, List.set_cons_succ]
                      refine wpAnyH_take (i := 2) (oi := { dst := some 148, op := Op.move (Operand.tmp 14), type := 3, pos := "told.go:53", after := #[], guard := none }) (v := ?_) rfl (by kernel_rfl) (by kernel_rfl) (by kernel_rfl) (fun _ _ _ h => h) (Or.inl ⟨by rfl, ?_⟩) hHeld ?_
                      rotate_left
                      · (intro w hSw; (try dsimp only at hSw); go_simp; first | done | with_reducible rfl)
                      simp only [Act.put, List.setIfInBounds_toArray, List.set_cons_zero, List.set_cons_succ]
                      refine wpAnyH_take (i := 3) (oi := { dst := some 149, op := Op.indexAddr 22 (Operand.tmp 147) (Operand.tmp 148), type := 0, pos := "told.go:53", after := #[{ on := 1, ground := Ground.data }, { on := 2, ground := Ground.data }], guard := none }) (v := ?_) rfl (by kernel_rfl) (by kernel_rfl) (by kernel_rfl) (fun _ _ _ h => h) (Or.inl ⟨by rfl, ?_⟩) hHeld ?_
                      rotate_left
                      · (intro w hSw; (try dsimp only at hSw); go_simp; first | done | with_reducible rfl)
                      simp only [Act.put, List.setIfInBounds_toArray, List.set_cons_zero, List.set_cons_succ]
                      refine wpAnyH_take (i := 4) (oi := { dst := some 150, op := Op.load 3 (Operand.tmp 149), type := 3, pos := "told.go:53", after := #[{ on := 3, ground := Ground.data }], guard := none }) (v := ?_) rfl (by kernel_rfl) (by kernel_rfl) (by kernel_rfl) (fun _ _ _ h => h) (Or.inl ⟨by rfl, ?_⟩) hHeld ?_
                      rotate_left
                      · (intro w hSw; (try dsimp only at hSw); go_simp; first | done | with_reducible rfl)
                      simp only [Act.put, List.setIfInBounds_toArray, List.set_cons_zero, List.set_cons_succ]
                      refine wpAnyH_ready (rs := [5]) (by kernel_rfl) (by simp) ?_
                      refine (AllReadyH.cons (o := { dst := some 151, op := Op.call { callee := Callee.value (Operand.func 9), args := #[Operand.tmp 146, Operand.const (Value.int IntKind.i64 0), Operand.tmp 150], argTypes := #[29, 3, 3] }, type := 30, pos := "told.go:53", after := #[{ on := 0, ground := Ground.data }, { on := 4, ground := Ground.data }], guard := none }) rfl (fun K hK => ?_) AllReadyH.nil)
                      go_simp
                      go_at_call 9
                      refine (timeFault_any _ zn zq zl zc 0 t zM).mono ?_
                      rintro r w6 ⟨rfl, hb6⟩
                      have B6 := Lib.hid (show Below wr.heap.size wr w6 from (Below.refl wr.heap.size wr).drew.trans hb6)
                      have KK5 := HC7.out w6 B6.out
                      rw [show nearE (zn, zM) 0 t = ageE s t from HM.out.near0 t]
                      obtain ⟨kc, hkc⟩ : ∃ kc, kc = ageE s t := ⟨_, rfl⟩
                      rw [← hkc]
                      have HKC := Lib.hid (show kc = ageE s t from hkc)
                      have HEQ := Lib.hid (show (ageE s t == kc) = true by rw [hkc]; simp)
                      clear hkc
                      clear hHeld hb6
                      go_wp2_with fail
                      refine hK.out _ _ KK5 (fun hHeld => ?_)
                      clear hK K
                      refine wpAnyH_take (i := 6) (oi := { dst := some 15, op := Op.assign (Operand.tmp 151), type := 30, pos := "told.go:53", after := #[{ on := 5, ground := Ground.data }, { on := 5, ground := Ground.chain }, { on := 0, ground := Ground.phase }, { on := 1, ground := Ground.phase }, { on := 2, ground := Ground.phase }, { on := 3, ground := Ground.phase }, { on := 4, ground := Ground.phase }, { on := 5, ground := Ground.phase }], guard := none }) (v := ?_) rfl (by kernel_rfl) (by kernel_rfl) (by kernel_rfl) (fun _ _ _ h => h) (Or.inl ⟨by rfl, ?_⟩) hHeld ?_
                      rotate_left
                      · (intro w hSw; (try dsimp only at hSw); go_simp; first | done | with_reducible rfl)
                      simp only [Act.put, List.setIfInBounds_toArray, List.set_cons_zero, List.set_cons_succ]
                      refine wpAnyH_done (by kernel_rfl) ?_ _
                      clear hHeld
                      have T6 := Lib.hid (HT.out.below B6.out)
                      have i4 := (HC.out w6 T6.out.bel).2.2.2.2
                      go_wp2_with fail
                      refine (tell_age T6.out t).mono ?_
                      rintro e w7 ⟨rfl, h7, _⟩
                      have T7 := Lib.hid h7
                      clear h7 i4
                      go_wp2_with fail
                      refine (sameErr_any _ kc _ (HE.out.below T7.out.bel)).mono ?_
                      rintro e w8 ⟨rfl, hb8⟩
                      rw [HEQ.out]
                      have T8 := Lib.hid (T7.out.below hb8)
                      clear hb8 T7
                      by_cases hk0 : kc = 0
                      · have tk : (kc == 0) = true := by rw [hk0]; rfl
                        obtain ⟨hok, hmd⟩ := HM.out.age t (HKC.out.symm.trans hk0)
                        have HTK := Lib.hid (show zn ≤ t ∧ t ≤ 1099511627776 from ⟨by have := HM.out.now; dsimp only at this; rw [this]; exact hok.1, hok.2⟩)
                        have HM2 := Lib.hid hmd
                        clear hok hmd hk0 HL HX HC7
                        obtain ⟨zq, zl, zc, hbx, hla⟩ := T8.out.box
                        have HX := Lib.hid hbx
                        have HL := Lib.hid hla
                        have HC7 := Lib.hid (fun (W : World) (hW : Below w8.heap.size w8 W) => And.intro (hbx.kept hW).c0 (And.intro (hbx.kept hW).c1 (HC.out W (T8.out.below hW).bel)))
                        clear hbx hla
                        obtain ⟨x0, x1, i1, i2, i2', i3, i4⟩ := HC7.out w8 (Below.refl _ _)
                        have HLL := Lib.hid (refAged_any w8.drew zn (.slice zq zl zc) zM t HM.out.len (HL.out.below (Below.refl _ _).drew) (fun e he => ⟨(HM.out.all e he).1, (HM.out.all e he).2.1, Int.le_trans (HM.out.all e he).2.2 HTK.out.1⟩) HTK.out.2)
                        have BW := Lib.hid (show Below w8.heap.size w8 w8.drew from (Below.refl _ _).drew)
                        go_wp2_with fail
                        go_still_tail 5, (by kernel_rfl)
                        change wpList _ _ _ _ _ w8.drew
                        generalize w8.drew = wd at HLL BW ⊢
                        go_wp2_with fail
                        refine HLL.out.mono ?_
                        rintro r w9 ⟨v9, rfl, ho9, hb9⟩
                        have h9 := ho9.held
                        obtain ⟨q9, c9, rfl⟩ := h9.len
                        obtain ⟨l9, hl9⟩ : ∃ l9, l9 = (age t zM).length := ⟨_, rfl⟩
                        rw [← hl9] at h9 ⊢
                        clear hl9 ho9
                        have H9 := Lib.hid (h9.down BW.out.size)
                        have B9 := Lib.hid (BW.out.trans (hb9.mono BW.out.size))
                        obtain ⟨_, y0, y1, fy0, fy1⟩ := HX.out.kept B9.out
                        clear h9 hb9 HLL x0 x1 i1 i2 i2' i3 i4
                        have HP := Lib.hid ((T8.out.below B9.out).put (z' := (t, age t zM)) H9.out.arg (fun g hg => by have := (H9.out.lt g hg).1; have := T8.out.lt; have := T8.out.bel.size; omega))
                        go_wp2_with fail
                        go_meet
                        case rel => exact ⟨_, _, rfl, HM2, HP⟩
                      · have tk : (kc == 0) = false := by simpa using hk0
                        have HM2 := Lib.hid (HM.out.age_bad t (fun e => hk0 (HKC.out.trans e)))
                        clear hk0
                        go_wp2_with fail
                        go_meet
                        case rel => exact ⟨_, _, rfl, HM2, T8⟩
                case rest =>
                  obtain ⟨s', ⟨zn, zM⟩, rfl, HM, TC⟩ := hcut
                  clear HT HC7 HL HX HC
                  obtain ⟨zq, zl, zc, hbx, hla⟩ := TC.out.box
                  have HX := Lib.hid hbx
                  have HL := Lib.hid hla
                  have HNOW := Lib.hid (show s'.1 = zn from HM.out.now.symm)
                  clear hbx hla
                  go_wp2_with fail
                  refine wp_region_held_drew (S := (fun w' => w'.cell? ⟨bm, 0, none⟩ = some (.int .i64 zn) ∧ w'.cell? ⟨bm, 1, none⟩ = some (.slice zq zl zc))) (by kernel_rfl) ⟨HX.out.c0, HX.out.c1⟩ (fun hHeld => ?_)
                  refine wpAnyH_take (i := 0) (oi := { dst := some 168, op := Op.move (Operand.tmp 12), type := 25, pos := "told.go:59", after := #[], guard := none }) (v := ?_) rfl (by kernel_rfl) (by kernel_rfl) (by kernel_rfl) (fun _ _ _ h => h) (Or.inl ⟨by rfl, ?_⟩) hHeld ?_
                  rotate_left
                  · (intro w hSw; (try dsimp only at hSw); go_simp; first | done | with_reducible rfl)
                  simp only [Act.put, List.setIfInBounds_toArray, List.set_cons_zero, List.set_cons_succ]
                  refine wpAnyH_take (i := 2) (oi := { dst := some 170, op := Op.load 29 (Operand.tmp 13), type := 29, pos := "told.go:59", after := #[], guard := none }) (v := ?_) rfl (by kernel_rfl) (by kernel_rfl) (by kernel_rfl) (fun _ _ _ h => h) (Or.inl ⟨by rfl, ?_⟩) hHeld ?_
                  rotate_left
                  · (intro w hSw; (try dsimp only at hSw); go_simp; first | done | with_reducible rfl)
                  simp only [Act.put, List.setIfInBounds_toArray, List.set_cons_zero, List.set_cons_succ]
                  refine wpAnyH_ready (rs := [1]) (by kernel_rfl) (by simp) ?_
                  refine (AllReadyH.cons (o := { dst := some 169, op := Op.call { callee := Callee.value (Operand.func 15), args := #[Operand.tmp 168], argTypes := #[25] }, type := 46, pos := "told.go:59", after := #[{ on := 0, ground := Ground.data }], guard := none }) rfl (fun K hK => ?_) AllReadyH.nil)
                  go_simp
                  go_at_call 15
                  refine (tell_list (TC.out.below (Below.refl _ _).drew)).mono ?_
                  rintro e w6 ⟨v6, H, rfl, hH, gH, hb6⟩
                  have B6 := Lib.hid (show Below wc.heap.size wc w6 from (Below.refl wc.heap.size wc).drew.trans hb6)
                  obtain rfl := HM.out.told hH
                  have G6 := Lib.hid gH
                  have X6 := Lib.hid (HX.out.kept B6.out)
                  have KK1 := And.intro X6.out.c0 X6.out.c1
                  clear hHeld hH gH hb6
                  go_wp2_with fail
                  refine hK.out _ _ KK1 (fun hHeld => ?_)
                  clear hK K
                  refine wpAnyH_ready (rs := [3]) (by kernel_rfl) (by simp) ?_
                  refine (AllReadyH.cons (o := { dst := some 171, op := Op.call { callee := Callee.value (Operand.func 16), args := #[Operand.tmp 170], argTypes := #[29] }, type := 46, pos := "told.go:59", after := #[{ on := 2, ground := Ground.data }, { on := 1, ground := Ground.chain }], guard := none }) rfl (fun K hK => ?_) AllReadyH.nil)
                  go_simp
                  go_at_call 16
                  refine (heards_any _ zn (.slice zq zl zc) zM HM.out.len (HL.out.below B6.out)).mono ?_
                  rintro e w7 ⟨v7, rfl, o7, hb7⟩
                  have B7 := Lib.hid (B6.out.trans (hb7.mono B6.out.size))
                  have G7 := Lib.hid (G6.out.below hb7)
                  have O7 := Lib.hid o7
                  have X7 := Lib.hid (HX.out.kept B7.out)
                  have KK3 := And.intro X7.out.c0 X7.out.c1
                  clear hHeld o7 hb7
                  go_wp2_with fail
                  refine hK.out _ _ KK3 (fun hHeld => ?_)
                  clear hK K
                  refine wpAnyH_ready (rs := [4]) (by kernel_rfl) (by simp) ?_
                  refine (AllReadyH.cons (o := { dst := some 172, op := Op.call { callee := Callee.value (Operand.func 14), args := #[Operand.tmp 169, Operand.tmp 171], argTypes := #[46, 46] }, type := 4, pos := "told.go:59", after := #[{ on := 1, ground := Ground.data }, { on := 3, ground := Ground.data }, { on := 3, ground := Ground.chain }], guard := none }) rfl (fun K hK => ?_) AllReadyH.nil)
                  go_simp
                  go_at_call 14
                  refine (sameHeard_any w7 _ _ (zM.map Rt.h) (zM.map Rt.h) (by rw [List.length_map]; have := HM.out.len; dsimp only at this; omega) G7.out.arg O7.out.arg).mono ?_
                  rintro e w8 ⟨rfl, hb8⟩
                  simp only [decide_true]
                  have B8 := Lib.hid (B7.out.trans (hb8.mono B7.out.size))
                  have X8 := Lib.hid (HX.out.kept B8.out)
                  have KK4 := And.intro X8.out.c0 X8.out.c1
                  clear hHeld hb8
                  go_wp2_with fail
                  refine hK.out _ _ KK4 (fun hHeld => ?_)
                  clear hK K
                  refine wpAnyH_take (i := 5) (oi := { dst := some 19, op := Op.assign (Operand.tmp 172), type := 4, pos := "told.go:59", after := #[{ on := 4, ground := Ground.data }, { on := 4, ground := Ground.chain }, { on := 0, ground := Ground.phase }, { on := 1, ground := Ground.phase }, { on := 2, ground := Ground.phase }, { on := 3, ground := Ground.phase }, { on := 4, ground := Ground.phase }], guard := none }) (v := ?_) rfl (by kernel_rfl) (by kernel_rfl) (by kernel_rfl) (fun _ _ _ h => h) (Or.inl ⟨by rfl, ?_⟩) hHeld ?_
                  rotate_left
                  · (intro w hSw; (try dsimp only at hSw); go_simp; first | done | with_reducible rfl)
                  simp only [Act.put, List.setIfInBounds_toArray, List.set_cons_zero, List.set_cons_succ]
                  refine wpAnyH_done (by kernel_rfl) ?_ _
                  clear hHeld
                  have T8 := Lib.hid (TC.out.below B8.out)
                  clear TC G7 O7 B6 B7 HL X6 X7
                  go_wp2_with fail
                  refine wp_region_held_drew (S := (fun w' => w'.cell? ⟨bm, 0, none⟩ = some (.int .i64 zn) ∧ w'.cell? ⟨bm, 1, none⟩ = some (.slice zq zl zc))) (by kernel_rfl) ⟨X8.out.c0, X8.out.c1⟩ (fun hHeld => ?_)
                  refine wpAnyH_take (i := 0) (oi := { dst := some 173, op := Op.move (Operand.tmp 16), type := 4, pos := "told.go:60", after := #[], guard := none }) (v := ?_) rfl (by kernel_rfl) (by kernel_rfl) (by kernel_rfl) (fun _ _ _ h => h) (Or.inl ⟨by rfl, ?_⟩) hHeld ?_
                  rotate_left
                  · (intro w hSw; (try dsimp only at hSw); go_simp; first | done | with_reducible rfl)
                  simp only [Act.put, List.setIfInBounds_toArray, List.set_cons_zero, List.set_cons_succ]
                  refine wpAnyH_take (i := 1) (oi := { dst := some 174, op := Op.unOp UnOp.not 4 (Operand.tmp 173), type := 4, pos := "told.go:60", after := #[{ on := 0, ground := Ground.data }], guard := none }) (v := ?_) rfl (by kernel_rfl) (by kernel_rfl) (by kernel_rfl) (fun _ _ _ h => h) (Or.inl ⟨by rfl, ?_⟩) hHeld ?_
                  rotate_left
                  · (intro w hSw; (try dsimp only at hSw); go_simp; first | done | with_reducible rfl)
                  simp only [Act.put, List.setIfInBounds_toArray, List.set_cons_zero, List.set_cons_succ]
                  refine wpAnyH_take (i := 2) (oi := { dst := some 175, op := Op.move (Operand.tmp 174), type := 4, pos := "told.go:60", after := #[{ on := 1, ground := Ground.data }], guard := none }) (v := ?_) rfl (by kernel_rfl) (by kernel_rfl) (by kernel_rfl) (fun _ _ _ h => h) (Or.inl ⟨by rfl, ?_⟩) hHeld ?_
                  rotate_left
                  · (intro w hSw; (try dsimp only at hSw); go_simp; first | done | with_reducible rfl)
                  simp only [Act.put, List.setIfInBounds_toArray, List.set_cons_zero, List.set_cons_succ]
                  refine wpAnyH_take (i := 3) (oi := { dst := some 176, op := Op.move (Operand.tmp 19), type := 4, pos := "told.go:60", after := #[{ on := 2, ground := Ground.guard }], guard := some (2, false) }) (v := ?_) rfl (by kernel_rfl) (by kernel_rfl) (by kernel_rfl) (fun _ _ _ h => h) (Or.inl ⟨by rfl, ?_⟩) hHeld ?_
                  rotate_left
                  · (intro w hSw; (try dsimp only at hSw); go_simp; first | done | with_reducible rfl)
                  simp only [Act.put, List.setIfInBounds_toArray, List.set_cons_zero, List.set_cons_succ]
                  refine wpAnyH_take (i := 4) (oi := { dst := some 177, op := Op.unOp UnOp.not 4 (Operand.tmp 176), type := 4, pos := "told.go:60", after := #[{ on := 3, ground := Ground.data }, { on := 2, ground := Ground.guard }], guard := some (2, false) }) (v := ?_) rfl (by kernel_rfl) (by kernel_rfl) (by kernel_rfl) (fun _ _ _ h => h) (Or.inl ⟨by rfl, ?_⟩) hHeld ?_
                  rotate_left
                  · (intro w hSw; (try dsimp only at hSw); go_simp; first | done | with_reducible rfl)
                  simp only [Act.put, List.setIfInBounds_toArray, List.set_cons_zero, List.set_cons_succ]
                  refine wpAnyH_take (i := 5) (oi := { dst := some 178, op := Op.pick (Operand.tmp 175) (Operand.const (Value.bool true)) (Operand.tmp 177), type := 4, pos := "told.go:60", after := #[{ on := 2, ground := Ground.data }, { on := 4, ground := Ground.data }], guard := none }) (v := ?_) rfl (by kernel_rfl) (by kernel_rfl) (by kernel_rfl) (fun _ _ _ h => h) (Or.inl ⟨by rfl, ?_⟩) hHeld ?_
                  rotate_left
                  · (intro w hSw; (try dsimp only at hSw); go_simp; first | done | with_reducible rfl)
                  simp only [Act.put, List.setIfInBounds_toArray, List.set_cons_zero, List.set_cons_succ]
                  refine wpAnyH_take (i := 6) (oi := { dst := some 179, op := Op.move (Operand.tmp 178), type := 4, pos := "told.go:60", after := #[{ on := 5, ground := Ground.data }, { on := 2, ground := Ground.chain }], guard := none }) (v := ?_) rfl (by kernel_rfl) (by kernel_rfl) (by kernel_rfl) (fun _ _ _ h => h) (Or.inl ⟨by rfl, ?_⟩) hHeld ?_
                  rotate_left
                  · (intro w hSw; (try dsimp only at hSw); go_simp; first | done | with_reducible rfl)
                  simp only [Act.put, List.setIfInBounds_toArray, List.set_cons_zero, List.set_cons_succ]
                  refine wpAnyH_take (i := 7) (oi := { dst := some 180, op := Op.move (Operand.tmp 12), type := 25, pos := "told.go:60", after := #[{ on := 6, ground := Ground.guard }], guard := some (6, false) }) (v := ?_) rfl (by kernel_rfl) (by kernel_rfl) (by kernel_rfl) (fun _ _ _ h => h) (Or.inl ⟨by rfl, ?_⟩) hHeld ?_
                  rotate_left
                  · (intro w hSw; (try dsimp only at hSw); go_simp; first | done | with_reducible rfl)
                  simp only [Act.put, List.setIfInBounds_toArray, List.set_cons_zero, List.set_cons_succ]
                  refine wpAnyH_take (i := 9) (oi := { dst := some 182, op := Op.fieldAddr 29 (Operand.tmp 13) 0, type := 0, pos := "told.go:60", after := #[{ on := 6, ground := Ground.guard }], guard := some (6, false) }) (v := ?_) rfl (by kernel_rfl) (by kernel_rfl) (by kernel_rfl) (fun _ _ _ h => h) (Or.inl ⟨by rfl, ?_⟩) hHeld ?_
                  rotate_left
                  · (intro w hSw; (try dsimp only at hSw); go_simp; first | done | with_reducible rfl)
                  simp only [Act.put, List.setIfInBounds_toArray, List.set_cons_zero, List.set_cons_succ]
                  refine wpAnyH_take (i := 10) (oi := { dst := some 183, op := Op.load 3 (Operand.tmp 182), type := 3, pos := "told.go:60", after := #[{ on := 9, ground := Ground.data }, { on := 6, ground := Ground.guard }], guard := some (6, false) }) (v := ?_) rfl (by kernel_rfl) (by kernel_rfl) (by kernel_rfl) (fun _ _ _ h => h) (Or.inl ⟨by rfl, ?_⟩) hHeld ?_
                  rotate_left
                  · (intro w hSw; (try dsimp only at hSw); go_simp; first | done | with_reducible rfl)
                  simp only [Act.put, List.setIfInBounds_toArray, List.set_cons_zero, List.set_cons_succ]
                  refine wpAnyH_ready (rs := [8]) (by kernel_rfl) (by simp) ?_
                  refine (AllReadyH.cons (o := { dst := some 181, op := Op.call { callee := Callee.value (Operand.func 17), args := #[Operand.tmp 180], argTypes := #[25] }, type := 3, pos := "told.go:60", after := #[{ on := 7, ground := Ground.data }, { on := 6, ground := Ground.chain }, { on := 6, ground := Ground.guard }], guard := some (6, false) }) rfl (fun K hK => ?_) AllReadyH.nil)
                  go_simp
                  go_at_call 17
                  refine (tell_now (T8.out.below (Below.refl _ _).drew)).mono ?_
                  rintro e w9 ⟨rfl, rfl⟩
                  rw [HNOW.out]
                  have KK8 := hHeld
                  clear hHeld
                  go_wp2_with fail
                  refine hK.out _ _ KK8 (fun hHeld => ?_)
                  clear hK K
                  refine wpAnyH_take (i := 11) (oi := { dst := some 184, op := Op.binOp BinOp.neq 3 (Operand.tmp 181) (Operand.tmp 183) 3, type := 4, pos := "told.go:60", after := #[{ on := 8, ground := Ground.data }, { on := 10, ground := Ground.data }, { on := 6, ground := Ground.guard }], guard := some (6, false) }) (v := ?_) rfl (by kernel_rfl) (by kernel_rfl) (by kernel_rfl) (fun _ _ _ h => h) (Or.inl ⟨by rfl, ?_⟩) hHeld ?_
                  rotate_left
                  · (intro w hSw; (try dsimp only at hSw); go_simp; first | done | with_reducible rfl)
                  simp only [Act.put, List.setIfInBounds_toArray, List.set_cons_zero, List.set_cons_succ]
                  refine wpAnyH_take (i := 12) (oi := { dst := some 185, op := Op.pick (Operand.tmp 179) (Operand.const (Value.bool true)) (Operand.tmp 184), type := 4, pos := "told.go:60", after := #[{ on := 6, ground := Ground.data }, { on := 11, ground := Ground.data }], guard := none }) (v := ?_) rfl (by kernel_rfl) (by kernel_rfl) (by kernel_rfl) (fun _ _ _ h => h) (Or.inl ⟨by rfl, ?_⟩) hHeld ?_
                  rotate_left
                  · (intro w hSw; (try dsimp only at hSw); go_simp; first | done | with_reducible rfl)
                  simp only [Act.put, List.setIfInBounds_toArray, List.set_cons_zero, List.set_cons_succ]
                  refine wpAnyH_done (by kernel_rfl) ?_ _
                  clear hHeld
                  go_wp2_with fail
                  go_roundw
                  case rel => exact ⟨k + 1, _, _, by go_num, by omega, HM, Lib.hid (T8.out.below (Below.refl _ _).drew)⟩
                  case measure => simp [RowKit.intOf]; omega
              · have hno : ¬ (k : Int) < ts.length := by omega
                go_wp2_with fail
                go_meet
                case rel => exact Lib.hid HT.out.bel
            · have hno : ¬ (k : Int) < ms.length := by omega
              go_wp2_with fail
              go_meet
              case rel => exact Lib.hid HT.out.bel
          · have hno : ¬ (k : Int) < ns.length := by omega
            go_wp2_with fail
            go_meet
            case rel => exact Lib.hid HT.out.bel
        · have hno : ¬ (k : Int) < fs.length := by omega
          go_wp2_with fail
          go_meet
          case rel => exact Lib.hid HT.out.bel
      · have hno : ¬ (k : Int) < xs.length := by omega
        go_wp2_with fail
        go_meet
        case rel => exact Lib.hid HT.out.bel
  case rest =>
    go_wp2_with fail
    go_ret
    exact ⟨rfl, hcut.out⟩
end Go.Proofs.YtoocmogmocapoaaDoor
