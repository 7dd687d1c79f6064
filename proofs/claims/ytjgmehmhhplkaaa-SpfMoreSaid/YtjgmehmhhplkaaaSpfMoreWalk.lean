/-
  The law SpfMore at every number of nodes, every links, a link more and two nodes: it tells true; what lay in memory stays.
-/
import Derived.Test.YtjgmehmhhplkaaaSpfOne
import Derived.Test.YtjgmehmhhplkaaaSpfCutPlain
import Derived.Test.YtjgmehmhhplkaaaLinkStep
import Derived.Deep.RegionHeld3
import Derived.Deep.QuietTactic
import Derived.BigQuiet
namespace Go.Proofs.Ytjgmehmhhplkaaa
open Go.RowKit Go.Lib

set_option maxHeartbeats 4000000 in
set_option maxRecDepth 100000 in
theorem more_1 (w : World) (n a b : Int) (v : Value) (l : List Lk) (x0 x1 x2 : Int) (hn : l.length * 24 ≤ 140737488355328) (hn1 : (l.length + 1) * 24 ≤ 140737488355328) (h : ArgK w v l) (hg : spfBad n l a ≠ 0) :
    Calls Try.prog 6 #[.int .i64 n, v, .agg #[.int .i64 x0, .int .i64 x1, .int .i64 x2], .int .i64 a, .int .i64 b] w fun e w' => e = .returned (.bool true) ∧ Below w.heap.size w w' := by
  have HR := Lib.hid (fun w1 (h1 : ArgK w1 v l) => far_bad w1 n a v l (by omega) h1 hg)
  rw [spf_err hg] at HR
  generalize spfBad n l a = q at HR hg
  have HL := Lib.hid h
  have HO := one_at (w.alloc (.cells #[.int .i64 x0, .int .i64 x1, .int .i64 x2] 42))
  rw [show (w.alloc (.cells #[.int .i64 x0, .int .i64 x1, .int .i64 x2] 42)).heap.size = w.heap.size + 1 by simp] at HO
  have HO := Lib.hid HO
  clear h
  go_enter Try.func6, Try.ntmps6
  go_wp2_with fail
  refine HO.out.mono ?_
  rintro e w1 ⟨f0, _, rfl, o1, hb1⟩
  have HB3 := Lib.hid ((Box3.new w (.int .i64 x0) (.int .i64 x1) (.int .i64 x2) 42).below hb1 (Nat.lt_succ_self _))
  have HZZ := Lib.hid (((Below.refl w.heap.size w).alloc (Nat.le_refl _) (.cells #[.int .i64 x0, .int .i64 x1, .int .i64 x2] 42)).trans (hb1.mono (Nat.le_succ _)))
  have HL1 := Lib.hid (HL.out.below HZZ.out)
  have HC1 : Hid (Cell1 w1 f0 (.int .i64 3)) := Lib.hid ⟨o1⟩
  clear HL hb1 HO o1
  have HL := HL1
  clear HL1
  go_wp2_with fail
  refine (HR.out _ HL.out).mono ?_
  rintro e w2 ⟨rfl, hb2⟩
  have HL' := Lib.hid (HL.out.below hb2)
  have HB3' := Lib.hid (HB3.out.kept hb2)
  have HC1' := Lib.hid (HC1.out.kept hb2)
  have HZZ' := Lib.hid (Below.two HZZ.out hb2)
  clear hb2 HZZ HL HB3 HC1
  have HZZ := HZZ'
  clear HZZ'
  have HL := HL'
  clear HL'
  have HB3 := HB3'
  clear HB3'
  have HC1 := HC1'
  clear HC1'
  have o1 := HC1.out.c
  go_wp2_with fail
  clear o1
  have HZd := Lib.hid HZZ.out.drew
  have HLd := Lib.hid (HL.out.below (Below.refl w2.heap.size w2).drew)
  have HBd := Lib.hid (HB3.out.kept (Below.refl w2.heap.size w2).drew)
  clear HZZ HL
  refine wp_region_held_drew (S := (fun w' => w'.cell? ⟨w.heap.size, 0, none⟩ = some (.int .i64 x0) ∧ w'.cell? ⟨w.heap.size, 1, none⟩ = some (.int .i64 x1) ∧ w'.cell? ⟨w.heap.size, 2, none⟩ = some (.int .i64 x2))) (by kernel_rfl) ⟨HBd.out.c0, HBd.out.c1, HBd.out.c2⟩ (fun hHeld => ?_)
  generalize w2.drew = ws at hHeld HZd HLd HBd ⊢
  have HSS : Hid (∀ w', Below ws.heap.size ws w' → w'.cell? ⟨w.heap.size, 0, none⟩ = some (.int .i64 x0) ∧ w'.cell? ⟨w.heap.size, 1, none⟩ = some (.int .i64 x1) ∧ w'.cell? ⟨w.heap.size, 2, none⟩ = some (.int .i64 x2)) := Lib.hid fun w' hb => ⟨(hb.cell (p := ⟨w.heap.size, 0, none⟩) HBd.out.lt).trans HBd.out.c0, (hb.cell (p := ⟨w.heap.size, 1, none⟩) HBd.out.lt).trans HBd.out.c1, (hb.cell (p := ⟨w.heap.size, 2, none⟩) HBd.out.lt).trans HBd.out.c2⟩
  have BB := Below.refl ws.heap.size ws
  refine wpAnyH_take (i := 0) (oi := { dst := some 44, op := Op.move (Operand.tmp 0), type := 3, pos := "still.go:132", after := #[], guard := none }) (v := ?_) rfl (by kernel_rfl) (by kernel_rfl) (by kernel_rfl) (fun _ _ _ h => h) (Or.inl ⟨by rfl, ?_⟩) hHeld ?_
  rotate_left
  · (intro w hSw; (try dsimp only at hSw); go_simp; first | done | with_reducible rfl)
  simp only [Act.put, List.setIfInBounds_toArray, List.set_cons_zero, List.set_cons_succ]
  refine wpAnyH_take (i := 2) (oi := { dst := some 46, op := Op.move (Operand.tmp 1), type := 22, pos := "still.go:132", after := #[], guard := none }) (v := ?_) rfl (by kernel_rfl) (by kernel_rfl) (by kernel_rfl) (fun _ _ _ h => h) (Or.inl ⟨by rfl, ?_⟩) hHeld ?_
  rotate_left
  · (intro w hSw; (try dsimp only at hSw); go_simp; first | done | with_reducible rfl)
  simp only [Act.put, List.setIfInBounds_toArray, List.set_cons_zero, List.set_cons_succ]
  refine wpAnyH_take (i := 4) (oi := { dst := some 48, op := Op.load 42 (Operand.tmp 7), type := 42, pos := "still.go:132", after := #[], guard := none }) (v := ?_) rfl (by kernel_rfl) (by kernel_rfl) (by kernel_rfl) (fun _ _ _ h => h) (Or.inl ⟨by rfl, ?_⟩) hHeld ?_
  rotate_left
  · (intro w hSw; (try dsimp only at hSw); go_simp; first | done | with_reducible rfl)
  simp only [Act.put, List.setIfInBounds_toArray, List.set_cons_zero, List.set_cons_succ]
  refine wpAnyH_take (i := 7) (oi := { dst := some 51, op := Op.move (Operand.tmp 3), type := 3, pos := "still.go:132", after := #[], guard := none }) (v := ?_) rfl (by kernel_rfl) (by kernel_rfl) (by kernel_rfl) (fun _ _ _ h => h) (Or.inl ⟨by rfl, ?_⟩) hHeld ?_
  rotate_left
  · (intro w hSw; (try dsimp only at hSw); go_simp; first | done | with_reducible rfl)
  simp only [Act.put, List.setIfInBounds_toArray, List.set_cons_zero, List.set_cons_succ]
  refine wpAnyH_ready (rs := [1, 5]) (by kernel_rfl) (by simp) ?_
  refine (AllReadyH.cons (o := { dst := some 45, op := Op.buildSlice 22 0 #[], type := 22, pos := "still.go:132", after := #[], guard := none }) rfl (fun K hK => ?_) (AllReadyH.cons (o := { dst := some 49, op := Op.buildSlice 22 1 #[(0, Operand.tmp 48)], type := 22, pos := "still.go:132", after := #[{ on := 4, ground := Ground.data }], guard := none }) rfl (fun K hK => ?_) AllReadyH.nil))
  · go_simp
    have BN : Below ws.heap.size ws (ws.alloc (.cells #[] 42)) := BB.alloc BB.size _
    have OO : OwnK (ws.alloc (.cells #[] 42)) ws.heap.size (.slice (some ⟨ws.heap.size, 0, none⟩) 0 0) [] := World.ownsRow_made ws #[] 0 BB.size (Nat.zero_le _) (by simp)
    have KK1 := HSS.out _ BN
    clear BB
    refine hK.out _ _ KK1 (fun hHeld => ?_)
    clear hK K
    generalize ws.alloc (.cells #[] 42) = wq1 at BN OO hHeld ⊢
    have BB := BN
    refine wpAnyH_ready (rs := [3, 5]) (by kernel_rfl) (by simp) ?_
    refine (AllReadyH.cons (o := { dst := some 47, op := Op.call { callee := Callee.builtin Builtin.append, args := #[Operand.tmp 45, Operand.tmp 46], argTypes := #[22, 22] }, type := 22, pos := "still.go:132", after := #[{ on := 1, ground := Ground.data }, { on := 2, ground := Ground.data }], guard := none }) rfl (fun K hK => ?_) (AllReadyH.cons (o := { dst := some 49, op := Op.buildSlice 22 1 #[(0, Operand.tmp 48)], type := 22, pos := "still.go:132", after := #[{ on := 4, ground := Ground.data }], guard := none }) rfl (fun K hK => ?_) AllReadyH.nil))
    · rw [if_pos (by rfl)]
      refine wp_copyK _ _ rfl ws.heap.size _ _ l rfl rfl OO (HLd.out.below BB) hn BB.size ?_
      intro v3 wq13 hO3 hg3
      have BN := BB.grown hg3 BB.size (OwnK.past OO)
      have ON := hO3
      clear OO hO3 hg3
      have KK3 := HSS.out _ BN
      clear BB
      simp only [Act.put, List.setIfInBounds_toArray, List.set_cons_zero, List.set_cons_succ]
      refine hK.out _ _ KK3 (fun hHeld => ?_)
      clear hK K
      have BB := BN
      have OO := ON
      refine wpAnyH_ready (rs := [5]) (by kernel_rfl) (by simp) ?_
      refine (AllReadyH.cons (o := { dst := some 49, op := Op.buildSlice 22 1 #[(0, Operand.tmp 48)], type := 22, pos := "still.go:132", after := #[{ on := 4, ground := Ground.data }], guard := none }) rfl (fun K hK => ?_) AllReadyH.nil)
      go_simp
      have BN : Below ws.heap.size ws (wq13.alloc (.cells #[.int .i64 x0, .int .i64 x1, .int .i64 x2] 42)) := BB.alloc BB.size _
      have XN : Box3 (wq13.alloc (.cells #[.int .i64 x0, .int .i64 x1, .int .i64 x2] 42)) wq13.heap.size (.int .i64 x0) (.int .i64 x1) (.int .i64 x2) := Box3.new wq13 _ _ _ _
      have ON := OO.keep ((Below.refl wq13.heap.size wq13).alloc (Nat.le_refl _) (.cells #[.int .i64 x0, .int .i64 x1, .int .i64 x2] 42))
      clear OO
      have KK5 := HSS.out _ BN
      clear BB
      refine hK.out _ _ KK5 (fun hHeld => ?_)
      clear hK K
      generalize wq13.alloc (.cells #[.int .i64 x0, .int .i64 x1, .int .i64 x2] 42) = wq135 at BN XN hHeld ON ⊢
      have BB := BN
      have X3 := XN
      have OO := ON
      refine wpAnyH_ready (rs := [6]) (by kernel_rfl) (by simp) ?_
      refine (AllReadyH.cons (o := { dst := some 50, op := Op.call { callee := Callee.builtin Builtin.append, args := #[Operand.tmp 47, Operand.tmp 49], argTypes := #[22, 22] }, type := 22, pos := "still.go:132", after := #[{ on := 3, ground := Ground.data }, { on := 5, ground := Ground.data }, { on := 3, ground := Ground.chain }], guard := none }) rfl (fun K hK => ?_) AllReadyH.nil)
      rw [if_pos (by rfl)]
      refine wp_append_oneK _ _ rfl ws.heap.size _ l (x0, x1, x2) _ 1 rfl rfl OO X3 hn1 BB.size ?_
      intro v6 wq1356 hO6 hg6 _
      have BN := BB.grown hg6 BB.size (OwnK.past OO)
      have ON := hO6.arg
      clear OO X3 hO6 hg6
      have KK6 := HSS.out _ BN
      clear BB
      simp only [Act.put, List.setIfInBounds_toArray, List.set_cons_zero, List.set_cons_succ]
      refine hK.out _ _ KK6 (fun hHeld => ?_)
      clear hK K
      have BB := BN
      refine wpAnyH_ready (rs := [8]) (by kernel_rfl) (by simp) ?_
      refine (AllReadyH.cons (o := { dst := some 52, op := Op.call { callee := Callee.value (Operand.func 9), args := #[Operand.tmp 44, Operand.tmp 50, Operand.tmp 51], argTypes := #[3, 22, 3] }, type := 27, pos := "still.go:132", after := #[{ on := 0, ground := Ground.data }, { on := 6, ground := Ground.data }, { on := 7, ground := Ground.data }, { on := 6, ground := Ground.chain }], guard := none }) rfl (fun K hK => ?_) AllReadyH.nil)
      go_simp
      go_at_call 9
      refine (far_some _ n a _ (l ++ [(x0, x1, x2)]) (by simp; omega) ON).mono ?_
      rintro e w8 ⟨y8, z8, rfl, hb8⟩
      have BN := Below.two BB hb8
      have KK8 := HSS.out _ BN
      clear BB
      refine hK.out _ _ KK8 (fun hHeld => ?_)
      clear hK K
      have BB := BN
      refine wpAnyH_take (i := 9) (oi := { dst := some 43, op := Op.move (Operand.tmp 52), type := 27, pos := "still.go:132", after := #[{ on := 8, ground := Ground.data }], guard := none }) (v := ?_) rfl (by kernel_rfl) (by kernel_rfl) (by kernel_rfl) (fun _ _ _ h => h) (Or.inl ⟨by rfl, ?_⟩) hHeld ?_
      rotate_left
      · (intro w hSw; (try dsimp only at hSw); go_simp; first | done | with_reducible rfl)
      simp only [Act.put, List.setIfInBounds_toArray, List.set_cons_zero, List.set_cons_succ]
      refine wpAnyH_take (i := 10) (oi := { dst := some 53, op := Op.extract (Operand.tmp 43) 0, type := 24, pos := "still.go:132", after := #[{ on := 9, ground := Ground.data }], guard := none }) (v := ?_) rfl (by kernel_rfl) (by kernel_rfl) (by kernel_rfl) (fun _ _ _ h => h) (Or.inl ⟨by rfl, ?_⟩) hHeld ?_
      rotate_left
      · (intro w hSw; (try dsimp only at hSw); go_simp; first | done | with_reducible rfl)
      simp only [Act.put, List.setIfInBounds_toArray, List.set_cons_zero, List.set_cons_succ]
      refine wpAnyH_take (i := 11) (oi := { dst := some 54, op := Op.extract (Operand.tmp 43) 1, type := 26, pos := "still.go:132", after := #[{ on := 9, ground := Ground.data }, { on := 12, ground := Ground.gcOnly Departure.lateStores }], guard := none }) (v := ?_) rfl (by kernel_rfl) (by kernel_rfl) (by kernel_rfl) (fun _ _ _ h => h) (Or.inl ⟨by rfl, ?_⟩) hHeld ?_
      rotate_left
      · (intro w hSw; (try dsimp only at hSw); go_simp; first | done | with_reducible rfl)
      simp only [Act.put, List.setIfInBounds_toArray, List.set_cons_zero, List.set_cons_succ]
      refine wpAnyH_take (i := 12) (oi := { dst := some 15, op := Op.assign (Operand.tmp 53), type := 24, pos := "still.go:132", after := #[{ on := 10, ground := Ground.data }, { on := 8, ground := Ground.chain }, { on := 0, ground := Ground.phase }, { on := 1, ground := Ground.phase }, { on := 2, ground := Ground.phase }, { on := 3, ground := Ground.phase }, { on := 4, ground := Ground.phase }, { on := 5, ground := Ground.phase }, { on := 6, ground := Ground.phase }, { on := 7, ground := Ground.phase }, { on := 8, ground := Ground.phase }, { on := 9, ground := Ground.phase }, { on := 10, ground := Ground.phase }, { on := 11, ground := Ground.textOnly Departure.lateStores }], guard := none }) (v := ?_) rfl (by kernel_rfl) (by kernel_rfl) (by kernel_rfl) (fun _ _ _ h => h) (Or.inl ⟨by rfl, ?_⟩) hHeld ?_
      rotate_left
      · (intro w hSw; (try dsimp only at hSw); go_simp; first | done | with_reducible rfl)
      simp only [Act.put, List.setIfInBounds_toArray, List.set_cons_zero, List.set_cons_succ]
      refine wpAnyH_take (i := 13) (oi := { dst := some 16, op := Op.assign (Operand.tmp 54), type := 26, pos := "still.go:132", after := #[{ on := 11, ground := Ground.data }, { on := 12, ground := Ground.chain }, { on := 0, ground := Ground.phase }, { on := 1, ground := Ground.phase }, { on := 2, ground := Ground.phase }, { on := 3, ground := Ground.phase }, { on := 4, ground := Ground.phase }, { on := 5, ground := Ground.phase }, { on := 6, ground := Ground.phase }, { on := 7, ground := Ground.phase }, { on := 8, ground := Ground.phase }, { on := 9, ground := Ground.phase }, { on := 10, ground := Ground.phase }, { on := 11, ground := Ground.phase }, { on := 12, ground := Ground.phase }], guard := none }) (v := ?_) rfl (by kernel_rfl) (by kernel_rfl) (by kernel_rfl) (fun _ _ _ h => h) (Or.inl ⟨by rfl, ?_⟩) hHeld ?_
      rotate_left
      · (intro w hSw; (try dsimp only at hSw); go_simp; first | done | with_reducible rfl)
      simp only [Act.put, List.setIfInBounds_toArray, List.set_cons_zero, List.set_cons_succ]
      refine wpAnyH_done (by kernel_rfl) ?_ _
      clear hHeld
      go_wp2_with fail
      go_ret
      exact ⟨rfl, HZd.out.trans (BB.mono HZd.out.size)⟩
    · go_simp
      have BN : Below ws.heap.size ws (wq1.alloc (.cells #[.int .i64 x0, .int .i64 x1, .int .i64 x2] 42)) := BB.alloc BB.size _
      have XN : Box3 (wq1.alloc (.cells #[.int .i64 x0, .int .i64 x1, .int .i64 x2] 42)) wq1.heap.size (.int .i64 x0) (.int .i64 x1) (.int .i64 x2) := Box3.new wq1 _ _ _ _
      have hne : some ws.heap.size ≠ some wq1.heap.size := fun e => by
        have h1 : ws.heap.size < wq1.heap.size := (World.ownsRow.lt OO _ rfl).2
        have := Option.some.inj e
        omega
      have ON := OO.keep ((Below.refl wq1.heap.size wq1).alloc (Nat.le_refl _) (.cells #[.int .i64 x0, .int .i64 x1, .int .i64 x2] 42))
      clear OO
      have KK5 := HSS.out _ BN
      clear BB
      refine hK.out _ _ KK5 (fun hHeld => ?_)
      clear hK K
      generalize wq1.alloc (.cells #[.int .i64 x0, .int .i64 x1, .int .i64 x2] 42) = wq15 at BN XN hHeld ON ⊢
      have BB := BN
      have X3 := XN
      have OO := ON
      refine wpAnyH_ready (rs := [3]) (by kernel_rfl) (by simp) ?_
      refine (AllReadyH.cons (o := { dst := some 47, op := Op.call { callee := Callee.builtin Builtin.append, args := #[Operand.tmp 45, Operand.tmp 46], argTypes := #[22, 22] }, type := 22, pos := "still.go:132", after := #[{ on := 1, ground := Ground.data }, { on := 2, ground := Ground.data }], guard := none }) rfl (fun K hK => ?_) AllReadyH.nil)
      rw [if_pos (by rfl)]
      refine wp_copyK _ _ rfl ws.heap.size _ _ l rfl rfl OO (HLd.out.below BB) hn BB.size ?_
      intro v3 wq153 hO3 hg3
      have BN := BB.grown hg3 BB.size (OwnK.past OO)
      have XN := X3.grown hg3 hne
      clear X3
      have ON := hO3
      clear OO hO3 hg3
      have KK3 := HSS.out _ BN
      clear BB
      simp only [Act.put, List.setIfInBounds_toArray, List.set_cons_zero, List.set_cons_succ]
      refine hK.out _ _ KK3 (fun hHeld => ?_)
      clear hK K
      have BB := BN
      have OO := ON
      have X3 := XN
      refine wpAnyH_ready (rs := [6]) (by kernel_rfl) (by simp) ?_
      refine (AllReadyH.cons (o := { dst := some 50, op := Op.call { callee := Callee.builtin Builtin.append, args := #[Operand.tmp 47, Operand.tmp 49], argTypes := #[22, 22] }, type := 22, pos := "still.go:132", after := #[{ on := 3, ground := Ground.data }, { on := 5, ground := Ground.data }, { on := 3, ground := Ground.chain }], guard := none }) rfl (fun K hK => ?_) AllReadyH.nil)
      rw [if_pos (by rfl)]
      refine wp_append_oneK _ _ rfl ws.heap.size _ l (x0, x1, x2) _ 1 rfl rfl OO X3 hn1 BB.size ?_
      intro v6 wq1536 hO6 hg6 _
      have BN := BB.grown hg6 BB.size (OwnK.past OO)
      have ON := hO6.arg
      clear OO X3 hO6 hg6
      have KK6 := HSS.out _ BN
      clear BB
      simp only [Act.put, List.setIfInBounds_toArray, List.set_cons_zero, List.set_cons_succ]
      refine hK.out _ _ KK6 (fun hHeld => ?_)
      clear hK K
      have BB := BN
      refine wpAnyH_ready (rs := [8]) (by kernel_rfl) (by simp) ?_
      refine (AllReadyH.cons (o := { dst := some 52, op := Op.call { callee := Callee.value (Operand.func 9), args := #[Operand.tmp 44, Operand.tmp 50, Operand.tmp 51], argTypes := #[3, 22, 3] }, type := 27, pos := "still.go:132", after := #[{ on := 0, ground := Ground.data }, { on := 6, ground := Ground.data }, { on := 7, ground := Ground.data }, { on := 6, ground := Ground.chain }], guard := none }) rfl (fun K hK => ?_) AllReadyH.nil)
      go_simp
      go_at_call 9
      refine (far_some _ n a _ (l ++ [(x0, x1, x2)]) (by simp; omega) ON).mono ?_
      rintro e w8 ⟨y8, z8, rfl, hb8⟩
      have BN := Below.two BB hb8
      have KK8 := HSS.out _ BN
      clear BB
      refine hK.out _ _ KK8 (fun hHeld => ?_)
      clear hK K
      have BB := BN
      refine wpAnyH_take (i := 9) (oi := { dst := some 43, op := Op.move (Operand.tmp 52), type := 27, pos := "still.go:132", after := #[{ on := 8, ground := Ground.data }], guard := none }) (v := ?_) rfl (by kernel_rfl) (by kernel_rfl) (by kernel_rfl) (fun _ _ _ h => h) (Or.inl ⟨by rfl, ?_⟩) hHeld ?_
      rotate_left
      · (intro w hSw; (try dsimp only at hSw); go_simp; first | done | with_reducible rfl)
      simp only [Act.put, List.setIfInBounds_toArray, List.set_cons_zero, List.set_cons_succ]
      refine wpAnyH_take (i := 10) (oi := { dst := some 53, op := Op.extract (Operand.tmp 43) 0, type := 24, pos := "still.go:132", after := #[{ on := 9, ground := Ground.data }], guard := none }) (v := ?_) rfl (by kernel_rfl) (by kernel_rfl) (by kernel_rfl) (fun _ _ _ h => h) (Or.inl ⟨by rfl, ?_⟩) hHeld ?_
      rotate_left
      · (intro w hSw; (try dsimp only at hSw); go_simp; first | done | with_reducible rfl)
      simp only [Act.put, List.setIfInBounds_toArray, List.set_cons_zero, List.set_cons_succ]
      refine wpAnyH_take (i := 11) (oi := { dst := some 54, op := Op.extract (Operand.tmp 43) 1, type := 26, pos := "still.go:132", after := #[{ on := 9, ground := Ground.data }, { on := 12, ground := Ground.gcOnly Departure.lateStores }], guard := none }) (v := ?_) rfl (by kernel_rfl) (by kernel_rfl) (by kernel_rfl) (fun _ _ _ h => h) (Or.inl ⟨by rfl, ?_⟩) hHeld ?_
      rotate_left
      · (intro w hSw; (try dsimp only at hSw); go_simp; first | done | with_reducible rfl)
      simp only [Act.put, List.setIfInBounds_toArray, List.set_cons_zero, List.set_cons_succ]
      refine wpAnyH_take (i := 12) (oi := { dst := some 15, op := Op.assign (Operand.tmp 53), type := 24, pos := "still.go:132", after := #[{ on := 10, ground := Ground.data }, { on := 8, ground := Ground.chain }, { on := 0, ground := Ground.phase }, { on := 1, ground := Ground.phase }, { on := 2, ground := Ground.phase }, { on := 3, ground := Ground.phase }, { on := 4, ground := Ground.phase }, { on := 5, ground := Ground.phase }, { on := 6, ground := Ground.phase }, { on := 7, ground := Ground.phase }, { on := 8, ground := Ground.phase }, { on := 9, ground := Ground.phase }, { on := 10, ground := Ground.phase }, { on := 11, ground := Ground.textOnly Departure.lateStores }], guard := none }) (v := ?_) rfl (by kernel_rfl) (by kernel_rfl) (by kernel_rfl) (fun _ _ _ h => h) (Or.inl ⟨by rfl, ?_⟩) hHeld ?_
      rotate_left
      · (intro w hSw; (try dsimp only at hSw); go_simp; first | done | with_reducible rfl)
      simp only [Act.put, List.setIfInBounds_toArray, List.set_cons_zero, List.set_cons_succ]
      refine wpAnyH_take (i := 13) (oi := { dst := some 16, op := Op.assign (Operand.tmp 54), type := 26, pos := "still.go:132", after := #[{ on := 11, ground := Ground.data }, { on := 12, ground := Ground.chain }, { on := 0, ground := Ground.phase }, { on := 1, ground := Ground.phase }, { on := 2, ground := Ground.phase }, { on := 3, ground := Ground.phase }, { on := 4, ground := Ground.phase }, { on := 5, ground := Ground.phase }, { on := 6, ground := Ground.phase }, { on := 7, ground := Ground.phase }, { on := 8, ground := Ground.phase }, { on := 9, ground := Ground.phase }, { on := 10, ground := Ground.phase }, { on := 11, ground := Ground.phase }, { on := 12, ground := Ground.phase }], guard := none }) (v := ?_) rfl (by kernel_rfl) (by kernel_rfl) (by kernel_rfl) (fun _ _ _ h => h) (Or.inl ⟨by rfl, ?_⟩) hHeld ?_
      rotate_left
      · (intro w hSw; (try dsimp only at hSw); go_simp; first | done | with_reducible rfl)
      simp only [Act.put, List.setIfInBounds_toArray, List.set_cons_zero, List.set_cons_succ]
      refine wpAnyH_done (by kernel_rfl) ?_ _
      clear hHeld
      go_wp2_with fail
      go_ret
      exact ⟨rfl, HZd.out.trans (BB.mono HZd.out.size)⟩
  · go_simp
    have BN : Below ws.heap.size ws (ws.alloc (.cells #[.int .i64 x0, .int .i64 x1, .int .i64 x2] 42)) := BB.alloc BB.size _
    have XN : Box3 (ws.alloc (.cells #[.int .i64 x0, .int .i64 x1, .int .i64 x2] 42)) ws.heap.size (.int .i64 x0) (.int .i64 x1) (.int .i64 x2) := Box3.new ws _ _ _ _
    have KK5 := HSS.out _ BN
    clear BB
    refine hK.out _ _ KK5 (fun hHeld => ?_)
    clear hK K
    generalize ws.alloc (.cells #[.int .i64 x0, .int .i64 x1, .int .i64 x2] 42) = wq5 at BN XN hHeld ⊢
    have BB := BN
    have X3 := XN
    refine wpAnyH_ready (rs := [1]) (by kernel_rfl) (by simp) ?_
    refine (AllReadyH.cons (o := { dst := some 45, op := Op.buildSlice 22 0 #[], type := 22, pos := "still.go:132", after := #[], guard := none }) rfl (fun K hK => ?_) AllReadyH.nil)
    go_simp
    have BN : Below ws.heap.size ws (wq5.alloc (.cells #[] 42)) := BB.alloc BB.size _
    have OO : OwnK (wq5.alloc (.cells #[] 42)) ws.heap.size (.slice (some ⟨wq5.heap.size, 0, none⟩) 0 0) [] := World.ownsRow_made wq5 #[] 0 BB.size (Nat.zero_le _) (by simp)
    have XN := X3.kept ((Below.refl wq5.heap.size wq5).alloc (Nat.le_refl _) (.cells #[] 42))
    have hne : some wq5.heap.size ≠ some ws.heap.size := fun e => by
      have := X3.lt
      have := Option.some.inj e
      omega
    clear X3
    have KK1 := HSS.out _ BN
    clear BB
    refine hK.out _ _ KK1 (fun hHeld => ?_)
    clear hK K
    generalize wq5.alloc (.cells #[] 42) = wq51 at BN OO hHeld XN ⊢
    have BB := BN
    have X3 := XN
    refine wpAnyH_ready (rs := [3]) (by kernel_rfl) (by simp) ?_
    refine (AllReadyH.cons (o := { dst := some 47, op := Op.call { callee := Callee.builtin Builtin.append, args := #[Operand.tmp 45, Operand.tmp 46], argTypes := #[22, 22] }, type := 22, pos := "still.go:132", after := #[{ on := 1, ground := Ground.data }, { on := 2, ground := Ground.data }], guard := none }) rfl (fun K hK => ?_) AllReadyH.nil)
    rw [if_pos (by rfl)]
    refine wp_copyK _ _ rfl ws.heap.size _ _ l rfl rfl OO (HLd.out.below BB) hn BB.size ?_
    intro v3 wq513 hO3 hg3
    have BN := BB.grown hg3 BB.size (OwnK.past OO)
    have XN := X3.grown hg3 hne
    clear X3
    have ON := hO3
    clear OO hO3 hg3
    have KK3 := HSS.out _ BN
    clear BB
    simp only [Act.put, List.setIfInBounds_toArray, List.set_cons_zero, List.set_cons_succ]
    refine hK.out _ _ KK3 (fun hHeld => ?_)
    clear hK K
    have BB := BN
    have OO := ON
    have X3 := XN
    refine wpAnyH_ready (rs := [6]) (by kernel_rfl) (by simp) ?_
    refine (AllReadyH.cons (o := { dst := some 50, op := Op.call { callee := Callee.builtin Builtin.append, args := #[Operand.tmp 47, Operand.tmp 49], argTypes := #[22, 22] }, type := 22, pos := "still.go:132", after := #[{ on := 3, ground := Ground.data }, { on := 5, ground := Ground.data }, { on := 3, ground := Ground.chain }], guard := none }) rfl (fun K hK => ?_) AllReadyH.nil)
    rw [if_pos (by rfl)]
    refine wp_append_oneK _ _ rfl ws.heap.size _ l (x0, x1, x2) _ 1 rfl rfl OO X3 hn1 BB.size ?_
    intro v6 wq5136 hO6 hg6 _
    have BN := BB.grown hg6 BB.size (OwnK.past OO)
    have ON := hO6.arg
    clear OO X3 hO6 hg6
    have KK6 := HSS.out _ BN
    clear BB
    simp only [Act.put, List.setIfInBounds_toArray, List.set_cons_zero, List.set_cons_succ]
    refine hK.out _ _ KK6 (fun hHeld => ?_)
    clear hK K
    have BB := BN
    refine wpAnyH_ready (rs := [8]) (by kernel_rfl) (by simp) ?_
    refine (AllReadyH.cons (o := { dst := some 52, op := Op.call { callee := Callee.value (Operand.func 9), args := #[Operand.tmp 44, Operand.tmp 50, Operand.tmp 51], argTypes := #[3, 22, 3] }, type := 27, pos := "still.go:132", after := #[{ on := 0, ground := Ground.data }, { on := 6, ground := Ground.data }, { on := 7, ground := Ground.data }, { on := 6, ground := Ground.chain }], guard := none }) rfl (fun K hK => ?_) AllReadyH.nil)
    go_simp
    go_at_call 9
    refine (far_some _ n a _ (l ++ [(x0, x1, x2)]) (by simp; omega) ON).mono ?_
    rintro e w8 ⟨y8, z8, rfl, hb8⟩
    have BN := Below.two BB hb8
    have KK8 := HSS.out _ BN
    clear BB
    refine hK.out _ _ KK8 (fun hHeld => ?_)
    clear hK K
    have BB := BN
    refine wpAnyH_take (i := 9) (oi := { dst := some 43, op := Op.move (Operand.tmp 52), type := 27, pos := "still.go:132", after := #[{ on := 8, ground := Ground.data }], guard := none }) (v := ?_) rfl (by kernel_rfl) (by kernel_rfl) (by kernel_rfl) (fun _ _ _ h => h) (Or.inl ⟨by rfl, ?_⟩) hHeld ?_
    rotate_left
    · (intro w hSw; (try dsimp only at hSw); go_simp; first | done | with_reducible rfl)
    simp only [Act.put, List.setIfInBounds_toArray, List.set_cons_zero, List.set_cons_succ]
    refine wpAnyH_take (i := 10) (oi := { dst := some 53, op := Op.extract (Operand.tmp 43) 0, type := 24, pos := "still.go:132", after := #[{ on := 9, ground := Ground.data }], guard := none }) (v := ?_) rfl (by kernel_rfl) (by kernel_rfl) (by kernel_rfl) (fun _ _ _ h => h) (Or.inl ⟨by rfl, ?_⟩) hHeld ?_
    rotate_left
    · (intro w hSw; (try dsimp only at hSw); go_simp; first | done | with_reducible rfl)
    simp only [Act.put, List.setIfInBounds_toArray, List.set_cons_zero, List.set_cons_succ]
    refine wpAnyH_take (i := 11) (oi := { dst := some 54, op := Op.extract (Operand.tmp 43) 1, type := 26, pos := "still.go:132", after := #[{ on := 9, ground := Ground.data }, { on := 12, ground := Ground.gcOnly Departure.lateStores }], guard := none }) (v := ?_) rfl (by kernel_rfl) (by kernel_rfl) (by kernel_rfl) (fun _ _ _ h => h) (Or.inl ⟨by rfl, ?_⟩) hHeld ?_
    rotate_left
    · (intro w hSw; (try dsimp only at hSw); go_simp; first | done | with_reducible rfl)
    simp only [Act.put, List.setIfInBounds_toArray, List.set_cons_zero, List.set_cons_succ]
    refine wpAnyH_take (i := 12) (oi := { dst := some 15, op := Op.assign (Operand.tmp 53), type := 24, pos := "still.go:132", after := #[{ on := 10, ground := Ground.data }, { on := 8, ground := Ground.chain }, { on := 0, ground := Ground.phase }, { on := 1, ground := Ground.phase }, { on := 2, ground := Ground.phase }, { on := 3, ground := Ground.phase }, { on := 4, ground := Ground.phase }, { on := 5, ground := Ground.phase }, { on := 6, ground := Ground.phase }, { on := 7, ground := Ground.phase }, { on := 8, ground := Ground.phase }, { on := 9, ground := Ground.phase }, { on := 10, ground := Ground.phase }, { on := 11, ground := Ground.textOnly Departure.lateStores }], guard := none }) (v := ?_) rfl (by kernel_rfl) (by kernel_rfl) (by kernel_rfl) (fun _ _ _ h => h) (Or.inl ⟨by rfl, ?_⟩) hHeld ?_
    rotate_left
    · (intro w hSw; (try dsimp only at hSw); go_simp; first | done | with_reducible rfl)
    simp only [Act.put, List.setIfInBounds_toArray, List.set_cons_zero, List.set_cons_succ]
    refine wpAnyH_take (i := 13) (oi := { dst := some 16, op := Op.assign (Operand.tmp 54), type := 26, pos := "still.go:132", after := #[{ on := 11, ground := Ground.data }, { on := 12, ground := Ground.chain }, { on := 0, ground := Ground.phase }, { on := 1, ground := Ground.phase }, { on := 2, ground := Ground.phase }, { on := 3, ground := Ground.phase }, { on := 4, ground := Ground.phase }, { on := 5, ground := Ground.phase }, { on := 6, ground := Ground.phase }, { on := 7, ground := Ground.phase }, { on := 8, ground := Ground.phase }, { on := 9, ground := Ground.phase }, { on := 10, ground := Ground.phase }, { on := 11, ground := Ground.phase }, { on := 12, ground := Ground.phase }], guard := none }) (v := ?_) rfl (by kernel_rfl) (by kernel_rfl) (by kernel_rfl) (fun _ _ _ h => h) (Or.inl ⟨by rfl, ?_⟩) hHeld ?_
    rotate_left
    · (intro w hSw; (try dsimp only at hSw); go_simp; first | done | with_reducible rfl)
    simp only [Act.put, List.setIfInBounds_toArray, List.set_cons_zero, List.set_cons_succ]
    refine wpAnyH_done (by kernel_rfl) ?_ _
    clear hHeld
    go_wp2_with fail
    go_ret
    exact ⟨rfl, HZd.out.trans (BB.mono HZd.out.size)⟩
set_option maxHeartbeats 4000000 in
set_option maxRecDepth 100000 in
theorem more_2 (w : World) (m t : Nat) (b : Int) (v : Value) (l : List Lk) (x0 x1 x2 : Int) (hn : l.length * 24 ≤ 140737488355328) (hn1 : (l.length + 1) * 24 ≤ 140737488355328) (h : ArgK w v l) (hg : gBad m l = 0) (ht : t < m) (hg2 : spfBad m (l ++ [(x0, x1, x2)]) t ≠ 0) :
    Calls Try.prog 6 #[.int .i64 m, v, .agg #[.int .i64 x0, .int .i64 x1, .int .i64 x2], .int .i64 t, .int .i64 b] w fun e w' => e = .returned (.bool true) ∧ Below w.heap.size w w' := by
  have HR := Lib.hid (fun w1 v1 (h1 : ArgK w1 v1 (l ++ [(x0, x1, x2)])) => far_bad w1 m t v1 (l ++ [(x0, x1, x2)]) (by simp; omega) h1 hg2)
  rw [spf_err hg2] at HR
  generalize spfBad m (l ++ [(x0, x1, x2)]) t = q at HR hg2
  have HL := Lib.hid h
  have HO := one_at (w.alloc (.cells #[.int .i64 x0, .int .i64 x1, .int .i64 x2] 42))
  rw [show (w.alloc (.cells #[.int .i64 x0, .int .i64 x1, .int .i64 x2] 42)).heap.size = w.heap.size + 1 by simp] at HO
  have HO := Lib.hid HO
  clear h
  go_enter Try.func6, Try.ntmps6
  go_wp2_with fail
  refine HO.out.mono ?_
  rintro e w1 ⟨f0, _, rfl, o1, hb1⟩
  have HB3 := Lib.hid ((Box3.new w (.int .i64 x0) (.int .i64 x1) (.int .i64 x2) 42).below hb1 (Nat.lt_succ_self _))
  have HZZ := Lib.hid (((Below.refl w.heap.size w).alloc (Nat.le_refl _) (.cells #[.int .i64 x0, .int .i64 x1, .int .i64 x2] 42)).trans (hb1.mono (Nat.le_succ _)))
  have HL1 := Lib.hid (HL.out.below HZZ.out)
  have HC1 : Hid (Cell1 w1 f0 (.int .i64 3)) := Lib.hid ⟨o1⟩
  clear HL hb1 HO o1
  have HL := HL1
  clear HL1
  go_wp2_with fail
  refine (far_ok w1 m t v l (by omega) HL.out hg ht).mono ?_
  rintro e w2 ⟨f1, _, rfl, _, hb2⟩
  have HL' := Lib.hid (HL.out.below hb2)
  have HB3' := Lib.hid (HB3.out.kept hb2)
  have HC1' := Lib.hid (HC1.out.kept hb2)
  have HZZ' := Lib.hid (Below.two HZZ.out hb2)
  clear hb2 HZZ HL HB3 HC1
  have HZZ := HZZ'
  clear HZZ'
  have HL := HL'
  clear HL'
  have HB3 := HB3'
  clear HB3'
  have HC1 := HC1'
  clear HC1'
  have o1 := HC1.out.c
  go_wp2_with fail
  clear o1
  have HZd := Lib.hid HZZ.out.drew
  have HLd := Lib.hid (HL.out.below (Below.refl w2.heap.size w2).drew)
  have HBd := Lib.hid (HB3.out.kept (Below.refl w2.heap.size w2).drew)
  clear HZZ HL
  refine wp_region_held_drew (S := (fun w' => w'.cell? ⟨w.heap.size, 0, none⟩ = some (.int .i64 x0) ∧ w'.cell? ⟨w.heap.size, 1, none⟩ = some (.int .i64 x1) ∧ w'.cell? ⟨w.heap.size, 2, none⟩ = some (.int .i64 x2))) (by kernel_rfl) ⟨HBd.out.c0, HBd.out.c1, HBd.out.c2⟩ (fun hHeld => ?_)
  generalize w2.drew = ws at hHeld HZd HLd HBd ⊢
  have HSS : Hid (∀ w', Below ws.heap.size ws w' → w'.cell? ⟨w.heap.size, 0, none⟩ = some (.int .i64 x0) ∧ w'.cell? ⟨w.heap.size, 1, none⟩ = some (.int .i64 x1) ∧ w'.cell? ⟨w.heap.size, 2, none⟩ = some (.int .i64 x2)) := Lib.hid fun w' hb => ⟨(hb.cell (p := ⟨w.heap.size, 0, none⟩) HBd.out.lt).trans HBd.out.c0, (hb.cell (p := ⟨w.heap.size, 1, none⟩) HBd.out.lt).trans HBd.out.c1, (hb.cell (p := ⟨w.heap.size, 2, none⟩) HBd.out.lt).trans HBd.out.c2⟩
  have BB := Below.refl ws.heap.size ws
  refine wpAnyH_take (i := 0) (oi := { dst := some 44, op := Op.move (Operand.tmp 0), type := 3, pos := "still.go:132", after := #[], guard := none }) (v := ?_) rfl (by kernel_rfl) (by kernel_rfl) (by kernel_rfl) (fun _ _ _ h => h) (Or.inl ⟨by rfl, ?_⟩) hHeld ?_
  rotate_left
  · (intro w hSw; (try dsimp only at hSw); go_simp; first | done | with_reducible rfl)
  simp only [Act.put, List.setIfInBounds_toArray, List.set_cons_zero, List.set_cons_succ]
  refine wpAnyH_take (i := 2) (oi := { dst := some 46, op := Op.move (Operand.tmp 1), type := 22, pos := "still.go:132", after := #[], guard := none }) (v := ?_) rfl (by kernel_rfl) (by kernel_rfl) (by kernel_rfl) (fun _ _ _ h => h) (Or.inl ⟨by rfl, ?_⟩) hHeld ?_
  rotate_left
  · (intro w hSw; (try dsimp only at hSw); go_simp; first | done | with_reducible rfl)
  simp only [Act.put, List.setIfInBounds_toArray, List.set_cons_zero, List.set_cons_succ]
  refine wpAnyH_take (i := 4) (oi := { dst := some 48, op := Op.load 42 (Operand.tmp 7), type := 42, pos := "still.go:132", after := #[], guard := none }) (v := ?_) rfl (by kernel_rfl) (by kernel_rfl) (by kernel_rfl) (fun _ _ _ h => h) (Or.inl ⟨by rfl, ?_⟩) hHeld ?_
  rotate_left
  · (intro w hSw; (try dsimp only at hSw); go_simp; first | done | with_reducible rfl)
  simp only [Act.put, List.setIfInBounds_toArray, List.set_cons_zero, List.set_cons_succ]
  refine wpAnyH_take (i := 7) (oi := { dst := some 51, op := Op.move (Operand.tmp 3), type := 3, pos := "still.go:132", after := #[], guard := none }) (v := ?_) rfl (by kernel_rfl) (by kernel_rfl) (by kernel_rfl) (fun _ _ _ h => h) (Or.inl ⟨by rfl, ?_⟩) hHeld ?_
  rotate_left
  · (intro w hSw; (try dsimp only at hSw); go_simp; first | done | with_reducible rfl)
  simp only [Act.put, List.setIfInBounds_toArray, List.set_cons_zero, List.set_cons_succ]
  refine wpAnyH_ready (rs := [1, 5]) (by kernel_rfl) (by simp) ?_
  refine (AllReadyH.cons (o := { dst := some 45, op := Op.buildSlice 22 0 #[], type := 22, pos := "still.go:132", after := #[], guard := none }) rfl (fun K hK => ?_) (AllReadyH.cons (o := { dst := some 49, op := Op.buildSlice 22 1 #[(0, Operand.tmp 48)], type := 22, pos := "still.go:132", after := #[{ on := 4, ground := Ground.data }], guard := none }) rfl (fun K hK => ?_) AllReadyH.nil))
  · go_simp
    have BN : Below ws.heap.size ws (ws.alloc (.cells #[] 42)) := BB.alloc BB.size _
    have OO : OwnK (ws.alloc (.cells #[] 42)) ws.heap.size (.slice (some ⟨ws.heap.size, 0, none⟩) 0 0) [] := World.ownsRow_made ws #[] 0 BB.size (Nat.zero_le _) (by simp)
    have KK1 := HSS.out _ BN
    clear BB
    refine hK.out _ _ KK1 (fun hHeld => ?_)
    clear hK K
    generalize ws.alloc (.cells #[] 42) = wq1 at BN OO hHeld ⊢
    have BB := BN
    refine wpAnyH_ready (rs := [3, 5]) (by kernel_rfl) (by simp) ?_
    refine (AllReadyH.cons (o := { dst := some 47, op := Op.call { callee := Callee.builtin Builtin.append, args := #[Operand.tmp 45, Operand.tmp 46], argTypes := #[22, 22] }, type := 22, pos := "still.go:132", after := #[{ on := 1, ground := Ground.data }, { on := 2, ground := Ground.data }], guard := none }) rfl (fun K hK => ?_) (AllReadyH.cons (o := { dst := some 49, op := Op.buildSlice 22 1 #[(0, Operand.tmp 48)], type := 22, pos := "still.go:132", after := #[{ on := 4, ground := Ground.data }], guard := none }) rfl (fun K hK => ?_) AllReadyH.nil))
    · rw [if_pos (by rfl)]
      refine wp_copyK _ _ rfl ws.heap.size _ _ l rfl rfl OO (HLd.out.below BB) hn BB.size ?_
      intro v3 wq13 hO3 hg3
      have BN := BB.grown hg3 BB.size (OwnK.past OO)
      have ON := hO3
      clear OO hO3 hg3
      have KK3 := HSS.out _ BN
      clear BB
      simp only [Act.put, List.setIfInBounds_toArray, List.set_cons_zero, List.set_cons_succ]
      refine hK.out _ _ KK3 (fun hHeld => ?_)
      clear hK K
      have BB := BN
      have OO := ON
      refine wpAnyH_ready (rs := [5]) (by kernel_rfl) (by simp) ?_
      refine (AllReadyH.cons (o := { dst := some 49, op := Op.buildSlice 22 1 #[(0, Operand.tmp 48)], type := 22, pos := "still.go:132", after := #[{ on := 4, ground := Ground.data }], guard := none }) rfl (fun K hK => ?_) AllReadyH.nil)
      go_simp
      have BN : Below ws.heap.size ws (wq13.alloc (.cells #[.int .i64 x0, .int .i64 x1, .int .i64 x2] 42)) := BB.alloc BB.size _
      have XN : Box3 (wq13.alloc (.cells #[.int .i64 x0, .int .i64 x1, .int .i64 x2] 42)) wq13.heap.size (.int .i64 x0) (.int .i64 x1) (.int .i64 x2) := Box3.new wq13 _ _ _ _
      have ON := OO.keep ((Below.refl wq13.heap.size wq13).alloc (Nat.le_refl _) (.cells #[.int .i64 x0, .int .i64 x1, .int .i64 x2] 42))
      clear OO
      have KK5 := HSS.out _ BN
      clear BB
      refine hK.out _ _ KK5 (fun hHeld => ?_)
      clear hK K
      generalize wq13.alloc (.cells #[.int .i64 x0, .int .i64 x1, .int .i64 x2] 42) = wq135 at BN XN hHeld ON ⊢
      have BB := BN
      have X3 := XN
      have OO := ON
      refine wpAnyH_ready (rs := [6]) (by kernel_rfl) (by simp) ?_
      refine (AllReadyH.cons (o := { dst := some 50, op := Op.call { callee := Callee.builtin Builtin.append, args := #[Operand.tmp 47, Operand.tmp 49], argTypes := #[22, 22] }, type := 22, pos := "still.go:132", after := #[{ on := 3, ground := Ground.data }, { on := 5, ground := Ground.data }, { on := 3, ground := Ground.chain }], guard := none }) rfl (fun K hK => ?_) AllReadyH.nil)
      rw [if_pos (by rfl)]
      refine wp_append_oneK _ _ rfl ws.heap.size _ l (x0, x1, x2) _ 1 rfl rfl OO X3 hn1 BB.size ?_
      intro v6 wq1356 hO6 hg6 _
      have BN := BB.grown hg6 BB.size (OwnK.past OO)
      have ON := hO6.arg
      clear OO X3 hO6 hg6
      have KK6 := HSS.out _ BN
      clear BB
      simp only [Act.put, List.setIfInBounds_toArray, List.set_cons_zero, List.set_cons_succ]
      refine hK.out _ _ KK6 (fun hHeld => ?_)
      clear hK K
      have BB := BN
      refine wpAnyH_ready (rs := [8]) (by kernel_rfl) (by simp) ?_
      refine (AllReadyH.cons (o := { dst := some 52, op := Op.call { callee := Callee.value (Operand.func 9), args := #[Operand.tmp 44, Operand.tmp 50, Operand.tmp 51], argTypes := #[3, 22, 3] }, type := 27, pos := "still.go:132", after := #[{ on := 0, ground := Ground.data }, { on := 6, ground := Ground.data }, { on := 7, ground := Ground.data }, { on := 6, ground := Ground.chain }], guard := none }) rfl (fun K hK => ?_) AllReadyH.nil)
      go_simp
      go_at_call 9
      refine (HR.out _ _ ON).mono ?_
      rintro e w8 ⟨rfl, hb8⟩
      have BN := Below.two BB hb8
      have KK8 := HSS.out _ BN
      clear BB
      refine hK.out _ _ KK8 (fun hHeld => ?_)
      clear hK K
      have BB := BN
      refine wpAnyH_take (i := 9) (oi := { dst := some 43, op := Op.move (Operand.tmp 52), type := 27, pos := "still.go:132", after := #[{ on := 8, ground := Ground.data }], guard := none }) (v := ?_) rfl (by kernel_rfl) (by kernel_rfl) (by kernel_rfl) (fun _ _ _ h => h) (Or.inl ⟨by rfl, ?_⟩) hHeld ?_
      rotate_left
      · (intro w hSw; (try dsimp only at hSw); go_simp; first | done | with_reducible rfl)
      simp only [Act.put, List.setIfInBounds_toArray, List.set_cons_zero, List.set_cons_succ]
      refine wpAnyH_take (i := 10) (oi := { dst := some 53, op := Op.extract (Operand.tmp 43) 0, type := 24, pos := "still.go:132", after := #[{ on := 9, ground := Ground.data }], guard := none }) (v := ?_) rfl (by kernel_rfl) (by kernel_rfl) (by kernel_rfl) (fun _ _ _ h => h) (Or.inl ⟨by rfl, ?_⟩) hHeld ?_
      rotate_left
      · (intro w hSw; (try dsimp only at hSw); go_simp; first | done | with_reducible rfl)
      simp only [Act.put, List.setIfInBounds_toArray, List.set_cons_zero, List.set_cons_succ]
      refine wpAnyH_take (i := 11) (oi := { dst := some 54, op := Op.extract (Operand.tmp 43) 1, type := 26, pos := "still.go:132", after := #[{ on := 9, ground := Ground.data }, { on := 12, ground := Ground.gcOnly Departure.lateStores }], guard := none }) (v := ?_) rfl (by kernel_rfl) (by kernel_rfl) (by kernel_rfl) (fun _ _ _ h => h) (Or.inl ⟨by rfl, ?_⟩) hHeld ?_
      rotate_left
      · (intro w hSw; (try dsimp only at hSw); go_simp; first | done | with_reducible rfl)
      simp only [Act.put, List.setIfInBounds_toArray, List.set_cons_zero, List.set_cons_succ]
      refine wpAnyH_take (i := 12) (oi := { dst := some 15, op := Op.assign (Operand.tmp 53), type := 24, pos := "still.go:132", after := #[{ on := 10, ground := Ground.data }, { on := 8, ground := Ground.chain }, { on := 0, ground := Ground.phase }, { on := 1, ground := Ground.phase }, { on := 2, ground := Ground.phase }, { on := 3, ground := Ground.phase }, { on := 4, ground := Ground.phase }, { on := 5, ground := Ground.phase }, { on := 6, ground := Ground.phase }, { on := 7, ground := Ground.phase }, { on := 8, ground := Ground.phase }, { on := 9, ground := Ground.phase }, { on := 10, ground := Ground.phase }, { on := 11, ground := Ground.textOnly Departure.lateStores }], guard := none }) (v := ?_) rfl (by kernel_rfl) (by kernel_rfl) (by kernel_rfl) (fun _ _ _ h => h) (Or.inl ⟨by rfl, ?_⟩) hHeld ?_
      rotate_left
      · (intro w hSw; (try dsimp only at hSw); go_simp; first | done | with_reducible rfl)
      simp only [Act.put, List.setIfInBounds_toArray, List.set_cons_zero, List.set_cons_succ]
      refine wpAnyH_take (i := 13) (oi := { dst := some 16, op := Op.assign (Operand.tmp 54), type := 26, pos := "still.go:132", after := #[{ on := 11, ground := Ground.data }, { on := 12, ground := Ground.chain }, { on := 0, ground := Ground.phase }, { on := 1, ground := Ground.phase }, { on := 2, ground := Ground.phase }, { on := 3, ground := Ground.phase }, { on := 4, ground := Ground.phase }, { on := 5, ground := Ground.phase }, { on := 6, ground := Ground.phase }, { on := 7, ground := Ground.phase }, { on := 8, ground := Ground.phase }, { on := 9, ground := Ground.phase }, { on := 10, ground := Ground.phase }, { on := 11, ground := Ground.phase }, { on := 12, ground := Ground.phase }], guard := none }) (v := ?_) rfl (by kernel_rfl) (by kernel_rfl) (by kernel_rfl) (fun _ _ _ h => h) (Or.inl ⟨by rfl, ?_⟩) hHeld ?_
      rotate_left
      · (intro w hSw; (try dsimp only at hSw); go_simp; first | done | with_reducible rfl)
      simp only [Act.put, List.setIfInBounds_toArray, List.set_cons_zero, List.set_cons_succ]
      refine wpAnyH_done (by kernel_rfl) ?_ _
      clear hHeld
      go_wp2_with fail
      go_ret
      exact ⟨rfl, HZd.out.trans (BB.mono HZd.out.size)⟩
    · go_simp
      have BN : Below ws.heap.size ws (wq1.alloc (.cells #[.int .i64 x0, .int .i64 x1, .int .i64 x2] 42)) := BB.alloc BB.size _
      have XN : Box3 (wq1.alloc (.cells #[.int .i64 x0, .int .i64 x1, .int .i64 x2] 42)) wq1.heap.size (.int .i64 x0) (.int .i64 x1) (.int .i64 x2) := Box3.new wq1 _ _ _ _
      have hne : some ws.heap.size ≠ some wq1.heap.size := fun e => by
        have h1 : ws.heap.size < wq1.heap.size := (World.ownsRow.lt OO _ rfl).2
        have := Option.some.inj e
        omega
      have ON := OO.keep ((Below.refl wq1.heap.size wq1).alloc (Nat.le_refl _) (.cells #[.int .i64 x0, .int .i64 x1, .int .i64 x2] 42))
      clear OO
      have KK5 := HSS.out _ BN
      clear BB
      refine hK.out _ _ KK5 (fun hHeld => ?_)
      clear hK K
      generalize wq1.alloc (.cells #[.int .i64 x0, .int .i64 x1, .int .i64 x2] 42) = wq15 at BN XN hHeld ON ⊢
      have BB := BN
      have X3 := XN
      have OO := ON
      refine wpAnyH_ready (rs := [3]) (by kernel_rfl) (by simp) ?_
      refine (AllReadyH.cons (o := { dst := some 47, op := Op.call { callee := Callee.builtin Builtin.append, args := #[Operand.tmp 45, Operand.tmp 46], argTypes := #[22, 22] }, type := 22, pos := "still.go:132", after := #[{ on := 1, ground := Ground.data }, { on := 2, ground := Ground.data }], guard := none }) rfl (fun K hK => ?_) AllReadyH.nil)
      rw [if_pos (by rfl)]
      refine wp_copyK _ _ rfl ws.heap.size _ _ l rfl rfl OO (HLd.out.below BB) hn BB.size ?_
      intro v3 wq153 hO3 hg3
      have BN := BB.grown hg3 BB.size (OwnK.past OO)
      have XN := X3.grown hg3 hne
      clear X3
      have ON := hO3
      clear OO hO3 hg3
      have KK3 := HSS.out _ BN
      clear BB
      simp only [Act.put, List.setIfInBounds_toArray, List.set_cons_zero, List.set_cons_succ]
      refine hK.out _ _ KK3 (fun hHeld => ?_)
      clear hK K
      have BB := BN
      have OO := ON
      have X3 := XN
      refine wpAnyH_ready (rs := [6]) (by kernel_rfl) (by simp) ?_
      refine (AllReadyH.cons (o := { dst := some 50, op := Op.call { callee := Callee.builtin Builtin.append, args := #[Operand.tmp 47, Operand.tmp 49], argTypes := #[22, 22] }, type := 22, pos := "still.go:132", after := #[{ on := 3, ground := Ground.data }, { on := 5, ground := Ground.data }, { on := 3, ground := Ground.chain }], guard := none }) rfl (fun K hK => ?_) AllReadyH.nil)
      rw [if_pos (by rfl)]
      refine wp_append_oneK _ _ rfl ws.heap.size _ l (x0, x1, x2) _ 1 rfl rfl OO X3 hn1 BB.size ?_
      intro v6 wq1536 hO6 hg6 _
      have BN := BB.grown hg6 BB.size (OwnK.past OO)
      have ON := hO6.arg
      clear OO X3 hO6 hg6
      have KK6 := HSS.out _ BN
      clear BB
      simp only [Act.put, List.setIfInBounds_toArray, List.set_cons_zero, List.set_cons_succ]
      refine hK.out _ _ KK6 (fun hHeld => ?_)
      clear hK K
      have BB := BN
      refine wpAnyH_ready (rs := [8]) (by kernel_rfl) (by simp) ?_
      refine (AllReadyH.cons (o := { dst := some 52, op := Op.call { callee := Callee.value (Operand.func 9), args := #[Operand.tmp 44, Operand.tmp 50, Operand.tmp 51], argTypes := #[3, 22, 3] }, type := 27, pos := "still.go:132", after := #[{ on := 0, ground := Ground.data }, { on := 6, ground := Ground.data }, { on := 7, ground := Ground.data }, { on := 6, ground := Ground.chain }], guard := none }) rfl (fun K hK => ?_) AllReadyH.nil)
      go_simp
      go_at_call 9
      refine (HR.out _ _ ON).mono ?_
      rintro e w8 ⟨rfl, hb8⟩
      have BN := Below.two BB hb8
      have KK8 := HSS.out _ BN
      clear BB
      refine hK.out _ _ KK8 (fun hHeld => ?_)
      clear hK K
      have BB := BN
      refine wpAnyH_take (i := 9) (oi := { dst := some 43, op := Op.move (Operand.tmp 52), type := 27, pos := "still.go:132", after := #[{ on := 8, ground := Ground.data }], guard := none }) (v := ?_) rfl (by kernel_rfl) (by kernel_rfl) (by kernel_rfl) (fun _ _ _ h => h) (Or.inl ⟨by rfl, ?_⟩) hHeld ?_
      rotate_left
      · (intro w hSw; (try dsimp only at hSw); go_simp; first | done | with_reducible rfl)
      simp only [Act.put, List.setIfInBounds_toArray, List.set_cons_zero, List.set_cons_succ]
      refine wpAnyH_take (i := 10) (oi := { dst := some 53, op := Op.extract (Operand.tmp 43) 0, type := 24, pos := "still.go:132", after := #[{ on := 9, ground := Ground.data }], guard := none }) (v := ?_) rfl (by kernel_rfl) (by kernel_rfl) (by kernel_rfl) (fun _ _ _ h => h) (Or.inl ⟨by rfl, ?_⟩) hHeld ?_
      rotate_left
      · (intro w hSw; (try dsimp only at hSw); go_simp; first | done | with_reducible rfl)
      simp only [Act.put, List.setIfInBounds_toArray, List.set_cons_zero, List.set_cons_succ]
      refine wpAnyH_take (i := 11) (oi := { dst := some 54, op := Op.extract (Operand.tmp 43) 1, type := 26, pos := "still.go:132", after := #[{ on := 9, ground := Ground.data }, { on := 12, ground := Ground.gcOnly Departure.lateStores }], guard := none }) (v := ?_) rfl (by kernel_rfl) (by kernel_rfl) (by kernel_rfl) (fun _ _ _ h => h) (Or.inl ⟨by rfl, ?_⟩) hHeld ?_
      rotate_left
      · (intro w hSw; (try dsimp only at hSw); go_simp; first | done | with_reducible rfl)
      simp only [Act.put, List.setIfInBounds_toArray, List.set_cons_zero, List.set_cons_succ]
      refine wpAnyH_take (i := 12) (oi := { dst := some 15, op := Op.assign (Operand.tmp 53), type := 24, pos := "still.go:132", after := #[{ on := 10, ground := Ground.data }, { on := 8, ground := Ground.chain }, { on := 0, ground := Ground.phase }, { on := 1, ground := Ground.phase }, { on := 2, ground := Ground.phase }, { on := 3, ground := Ground.phase }, { on := 4, ground := Ground.phase }, { on := 5, ground := Ground.phase }, { on := 6, ground := Ground.phase }, { on := 7, ground := Ground.phase }, { on := 8, ground := Ground.phase }, { on := 9, ground := Ground.phase }, { on := 10, ground := Ground.phase }, { on := 11, ground := Ground.textOnly Departure.lateStores }], guard := none }) (v := ?_) rfl (by kernel_rfl) (by kernel_rfl) (by kernel_rfl) (fun _ _ _ h => h) (Or.inl ⟨by rfl, ?_⟩) hHeld ?_
      rotate_left
      · (intro w hSw; (try dsimp only at hSw); go_simp; first | done | with_reducible rfl)
      simp only [Act.put, List.setIfInBounds_toArray, List.set_cons_zero, List.set_cons_succ]
      refine wpAnyH_take (i := 13) (oi := { dst := some 16, op := Op.assign (Operand.tmp 54), type := 26, pos := "still.go:132", after := #[{ on := 11, ground := Ground.data }, { on := 12, ground := Ground.chain }, { on := 0, ground := Ground.phase }, { on := 1, ground := Ground.phase }, { on := 2, ground := Ground.phase }, { on := 3, ground := Ground.phase }, { on := 4, ground := Ground.phase }, { on := 5, ground := Ground.phase }, { on := 6, ground := Ground.phase }, { on := 7, ground := Ground.phase }, { on := 8, ground := Ground.phase }, { on := 9, ground := Ground.phase }, { on := 10, ground := Ground.phase }, { on := 11, ground := Ground.phase }, { on := 12, ground := Ground.phase }], guard := none }) (v := ?_) rfl (by kernel_rfl) (by kernel_rfl) (by kernel_rfl) (fun _ _ _ h => h) (Or.inl ⟨by rfl, ?_⟩) hHeld ?_
      rotate_left
      · (intro w hSw; (try dsimp only at hSw); go_simp; first | done | with_reducible rfl)
      simp only [Act.put, List.setIfInBounds_toArray, List.set_cons_zero, List.set_cons_succ]
      refine wpAnyH_done (by kernel_rfl) ?_ _
      clear hHeld
      go_wp2_with fail
      go_ret
      exact ⟨rfl, HZd.out.trans (BB.mono HZd.out.size)⟩
  · go_simp
    have BN : Below ws.heap.size ws (ws.alloc (.cells #[.int .i64 x0, .int .i64 x1, .int .i64 x2] 42)) := BB.alloc BB.size _
    have XN : Box3 (ws.alloc (.cells #[.int .i64 x0, .int .i64 x1, .int .i64 x2] 42)) ws.heap.size (.int .i64 x0) (.int .i64 x1) (.int .i64 x2) := Box3.new ws _ _ _ _
    have KK5 := HSS.out _ BN
    clear BB
    refine hK.out _ _ KK5 (fun hHeld => ?_)
    clear hK K
    generalize ws.alloc (.cells #[.int .i64 x0, .int .i64 x1, .int .i64 x2] 42) = wq5 at BN XN hHeld ⊢
    have BB := BN
    have X3 := XN
    refine wpAnyH_ready (rs := [1]) (by kernel_rfl) (by simp) ?_
    refine (AllReadyH.cons (o := { dst := some 45, op := Op.buildSlice 22 0 #[], type := 22, pos := "still.go:132", after := #[], guard := none }) rfl (fun K hK => ?_) AllReadyH.nil)
    go_simp
    have BN : Below ws.heap.size ws (wq5.alloc (.cells #[] 42)) := BB.alloc BB.size _
    have OO : OwnK (wq5.alloc (.cells #[] 42)) ws.heap.size (.slice (some ⟨wq5.heap.size, 0, none⟩) 0 0) [] := World.ownsRow_made wq5 #[] 0 BB.size (Nat.zero_le _) (by simp)
    have XN := X3.kept ((Below.refl wq5.heap.size wq5).alloc (Nat.le_refl _) (.cells #[] 42))
    have hne : some wq5.heap.size ≠ some ws.heap.size := fun e => by
      have := X3.lt
      have := Option.some.inj e
      omega
    clear X3
    have KK1 := HSS.out _ BN
    clear BB
    refine hK.out _ _ KK1 (fun hHeld => ?_)
    clear hK K
    generalize wq5.alloc (.cells #[] 42) = wq51 at BN OO hHeld XN ⊢
    have BB := BN
    have X3 := XN
    refine wpAnyH_ready (rs := [3]) (by kernel_rfl) (by simp) ?_
    refine (AllReadyH.cons (o := { dst := some 47, op := Op.call { callee := Callee.builtin Builtin.append, args := #[Operand.tmp 45, Operand.tmp 46], argTypes := #[22, 22] }, type := 22, pos := "still.go:132", after := #[{ on := 1, ground := Ground.data }, { on := 2, ground := Ground.data }], guard := none }) rfl (fun K hK => ?_) AllReadyH.nil)
    rw [if_pos (by rfl)]
    refine wp_copyK _ _ rfl ws.heap.size _ _ l rfl rfl OO (HLd.out.below BB) hn BB.size ?_
    intro v3 wq513 hO3 hg3
    have BN := BB.grown hg3 BB.size (OwnK.past OO)
    have XN := X3.grown hg3 hne
    clear X3
    have ON := hO3
    clear OO hO3 hg3
    have KK3 := HSS.out _ BN
    clear BB
    simp only [Act.put, List.setIfInBounds_toArray, List.set_cons_zero, List.set_cons_succ]
    refine hK.out _ _ KK3 (fun hHeld => ?_)
    clear hK K
    have BB := BN
    have OO := ON
    have X3 := XN
    refine wpAnyH_ready (rs := [6]) (by kernel_rfl) (by simp) ?_
    refine (AllReadyH.cons (o := { dst := some 50, op := Op.call { callee := Callee.builtin Builtin.append, args := #[Operand.tmp 47, Operand.tmp 49], argTypes := #[22, 22] }, type := 22, pos := "still.go:132", after := #[{ on := 3, ground := Ground.data }, { on := 5, ground := Ground.data }, { on := 3, ground := Ground.chain }], guard := none }) rfl (fun K hK => ?_) AllReadyH.nil)
    rw [if_pos (by rfl)]
    refine wp_append_oneK _ _ rfl ws.heap.size _ l (x0, x1, x2) _ 1 rfl rfl OO X3 hn1 BB.size ?_
    intro v6 wq5136 hO6 hg6 _
    have BN := BB.grown hg6 BB.size (OwnK.past OO)
    have ON := hO6.arg
    clear OO X3 hO6 hg6
    have KK6 := HSS.out _ BN
    clear BB
    simp only [Act.put, List.setIfInBounds_toArray, List.set_cons_zero, List.set_cons_succ]
    refine hK.out _ _ KK6 (fun hHeld => ?_)
    clear hK K
    have BB := BN
    refine wpAnyH_ready (rs := [8]) (by kernel_rfl) (by simp) ?_
    refine (AllReadyH.cons (o := { dst := some 52, op := Op.call { callee := Callee.value (Operand.func 9), args := #[Operand.tmp 44, Operand.tmp 50, Operand.tmp 51], argTypes := #[3, 22, 3] }, type := 27, pos := "still.go:132", after := #[{ on := 0, ground := Ground.data }, { on := 6, ground := Ground.data }, { on := 7, ground := Ground.data }, { on := 6, ground := Ground.chain }], guard := none }) rfl (fun K hK => ?_) AllReadyH.nil)
    go_simp
    go_at_call 9
    refine (HR.out _ _ ON).mono ?_
    rintro e w8 ⟨rfl, hb8⟩
    have BN := Below.two BB hb8
    have KK8 := HSS.out _ BN
    clear BB
    refine hK.out _ _ KK8 (fun hHeld => ?_)
    clear hK K
    have BB := BN
    refine wpAnyH_take (i := 9) (oi := { dst := some 43, op := Op.move (Operand.tmp 52), type := 27, pos := "still.go:132", after := #[{ on := 8, ground := Ground.data }], guard := none }) (v := ?_) rfl (by kernel_rfl) (by kernel_rfl) (by kernel_rfl) (fun _ _ _ h => h) (Or.inl ⟨by rfl, ?_⟩) hHeld ?_
    rotate_left
    · (intro w hSw; (try dsimp only at hSw); go_simp; first | done | with_reducible rfl)
    simp only [Act.put, List.setIfInBounds_toArray, List.set_cons_zero, List.set_cons_succ]
    refine wpAnyH_take (i := 10) (oi := { dst := some 53, op := Op.extract (Operand.tmp 43) 0, type := 24, pos := "still.go:132", after := #[{ on := 9, ground := Ground.data }], guard := none }) (v := ?_) rfl (by kernel_rfl) (by kernel_rfl) (by kernel_rfl) (fun _ _ _ h => h) (Or.inl ⟨by rfl, ?_⟩) hHeld ?_
    rotate_left
    · (intro w hSw; (try dsimp only at hSw); go_simp; first | done | with_reducible rfl)
    simp only [Act.put, List.setIfInBounds_toArray, List.set_cons_zero, List.set_cons_succ]
    refine wpAnyH_take (i := 11) (oi := { dst := some 54, op := Op.extract (Operand.tmp 43) 1, type := 26, pos := "still.go:132", after := #[{ on := 9, ground := Ground.data }, { on := 12, ground := Ground.gcOnly Departure.lateStores }], guard := none }) (v := ?_) rfl (by kernel_rfl) (by kernel_rfl) (by kernel_rfl) (fun _ _ _ h => h) (Or.inl ⟨by rfl, ?_⟩) hHeld ?_
    rotate_left
    · (intro w hSw; (try dsimp only at hSw); go_simp; first | done | with_reducible rfl)
    simp only [Act.put, List.setIfInBounds_toArray, List.set_cons_zero, List.set_cons_succ]
    refine wpAnyH_take (i := 12) (oi := { dst := some 15, op := Op.assign (Operand.tmp 53), type := 24, pos := "still.go:132", after := #[{ on := 10, ground := Ground.data }, { on := 8, ground := Ground.chain }, { on := 0, ground := Ground.phase }, { on := 1, ground := Ground.phase }, { on := 2, ground := Ground.phase }, { on := 3, ground := Ground.phase }, { on := 4, ground := Ground.phase }, { on := 5, ground := Ground.phase }, { on := 6, ground := Ground.phase }, { on := 7, ground := Ground.phase }, { on := 8, ground := Ground.phase }, { on := 9, ground := Ground.phase }, { on := 10, ground := Ground.phase }, { on := 11, ground := Ground.textOnly Departure.lateStores }], guard := none }) (v := ?_) rfl (by kernel_rfl) (by kernel_rfl) (by kernel_rfl) (fun _ _ _ h => h) (Or.inl ⟨by rfl, ?_⟩) hHeld ?_
    rotate_left
    · (intro w hSw; (try dsimp only at hSw); go_simp; first | done | with_reducible rfl)
    simp only [Act.put, List.setIfInBounds_toArray, List.set_cons_zero, List.set_cons_succ]
    refine wpAnyH_take (i := 13) (oi := { dst := some 16, op := Op.assign (Operand.tmp 54), type := 26, pos := "still.go:132", after := #[{ on := 11, ground := Ground.data }, { on := 12, ground := Ground.chain }, { on := 0, ground := Ground.phase }, { on := 1, ground := Ground.phase }, { on := 2, ground := Ground.phase }, { on := 3, ground := Ground.phase }, { on := 4, ground := Ground.phase }, { on := 5, ground := Ground.phase }, { on := 6, ground := Ground.phase }, { on := 7, ground := Ground.phase }, { on := 8, ground := Ground.phase }, { on := 9, ground := Ground.phase }, { on := 10, ground := Ground.phase }, { on := 11, ground := Ground.phase }, { on := 12, ground := Ground.phase }], guard := none }) (v := ?_) rfl (by kernel_rfl) (by kernel_rfl) (by kernel_rfl) (fun _ _ _ h => h) (Or.inl ⟨by rfl, ?_⟩) hHeld ?_
    rotate_left
    · (intro w hSw; (try dsimp only at hSw); go_simp; first | done | with_reducible rfl)
    simp only [Act.put, List.setIfInBounds_toArray, List.set_cons_zero, List.set_cons_succ]
    refine wpAnyH_done (by kernel_rfl) ?_ _
    clear hHeld
    go_wp2_with fail
    go_ret
    exact ⟨rfl, HZd.out.trans (BB.mono HZd.out.size)⟩
set_option maxHeartbeats 4000000 in
set_option maxRecDepth 100000 in
theorem more_3 (w : World) (m t : Nat) (b : Int) (v : Value) (l : List Lk) (x0 x1 x2 : Int) (hn : l.length * 24 ≤ 140737488355328) (hn1 : (l.length + 1) * 24 ≤ 140737488355328) (h : ArgK w v l) (hg : gBad m l = 0) (ht : t < m) (hg2 : gBad m (l ++ [(x0, x1, x2)]) = 0) (hz : b < 0) :
    Calls Try.prog 6 #[.int .i64 m, v, .agg #[.int .i64 x0, .int .i64 x1, .int .i64 x2], .int .i64 t, .int .i64 b] w fun e w' => e = .returned (.bool true) ∧ Below w.heap.size w w' := by
  have HL := Lib.hid h
  have HO := one_at (w.alloc (.cells #[.int .i64 x0, .int .i64 x1, .int .i64 x2] 42))
  rw [show (w.alloc (.cells #[.int .i64 x0, .int .i64 x1, .int .i64 x2] 42)).heap.size = w.heap.size + 1 by simp] at HO
  have HO := Lib.hid HO
  clear h
  go_enter Try.func6, Try.ntmps6
  go_wp2_with fail
  refine HO.out.mono ?_
  rintro e w1 ⟨f0, _, rfl, o1, hb1⟩
  have HB3 := Lib.hid ((Box3.new w (.int .i64 x0) (.int .i64 x1) (.int .i64 x2) 42).below hb1 (Nat.lt_succ_self _))
  have HZZ := Lib.hid (((Below.refl w.heap.size w).alloc (Nat.le_refl _) (.cells #[.int .i64 x0, .int .i64 x1, .int .i64 x2] 42)).trans (hb1.mono (Nat.le_succ _)))
  have HL1 := Lib.hid (HL.out.below HZZ.out)
  have HC1 : Hid (Cell1 w1 f0 (.int .i64 3)) := Lib.hid ⟨o1⟩
  clear HL hb1 HO o1
  have HL := HL1
  clear HL1
  go_wp2_with fail
  refine (far_ok w1 m t v l (by omega) HL.out hg ht).mono ?_
  rintro e w2 ⟨f1, _, rfl, _, hb2⟩
  have HL' := Lib.hid (HL.out.below hb2)
  have HB3' := Lib.hid (HB3.out.kept hb2)
  have HC1' := Lib.hid (HC1.out.kept hb2)
  have HZZ' := Lib.hid (Below.two HZZ.out hb2)
  clear hb2 HZZ HL HB3 HC1
  have HZZ := HZZ'
  clear HZZ'
  have HL := HL'
  clear HL'
  have HB3 := HB3'
  clear HB3'
  have HC1 := HC1'
  clear HC1'
  have o1 := HC1.out.c
  go_wp2_with fail
  clear o1
  have HZd := Lib.hid HZZ.out.drew
  have HLd := Lib.hid (HL.out.below (Below.refl w2.heap.size w2).drew)
  have HBd := Lib.hid (HB3.out.kept (Below.refl w2.heap.size w2).drew)
  clear HZZ HL
  refine wp_region_held_drew (S := (fun w' => w'.cell? ⟨w.heap.size, 0, none⟩ = some (.int .i64 x0) ∧ w'.cell? ⟨w.heap.size, 1, none⟩ = some (.int .i64 x1) ∧ w'.cell? ⟨w.heap.size, 2, none⟩ = some (.int .i64 x2))) (by kernel_rfl) ⟨HBd.out.c0, HBd.out.c1, HBd.out.c2⟩ (fun hHeld => ?_)
  generalize w2.drew = ws at hHeld HZd HLd HBd ⊢
  have HSS : Hid (∀ w', Below ws.heap.size ws w' → w'.cell? ⟨w.heap.size, 0, none⟩ = some (.int .i64 x0) ∧ w'.cell? ⟨w.heap.size, 1, none⟩ = some (.int .i64 x1) ∧ w'.cell? ⟨w.heap.size, 2, none⟩ = some (.int .i64 x2)) := Lib.hid fun w' hb => ⟨(hb.cell (p := ⟨w.heap.size, 0, none⟩) HBd.out.lt).trans HBd.out.c0, (hb.cell (p := ⟨w.heap.size, 1, none⟩) HBd.out.lt).trans HBd.out.c1, (hb.cell (p := ⟨w.heap.size, 2, none⟩) HBd.out.lt).trans HBd.out.c2⟩
  have BB := Below.refl ws.heap.size ws
  refine wpAnyH_take (i := 0) (oi := { dst := some 44, op := Op.move (Operand.tmp 0), type := 3, pos := "still.go:132", after := #[], guard := none }) (v := ?_) rfl (by kernel_rfl) (by kernel_rfl) (by kernel_rfl) (fun _ _ _ h => h) (Or.inl ⟨by rfl, ?_⟩) hHeld ?_
  rotate_left
  · (intro w hSw; (try dsimp only at hSw); go_simp; first | done | with_reducible rfl)
  simp only [Act.put, List.setIfInBounds_toArray, List.set_cons_zero, List.set_cons_succ]
  refine wpAnyH_take (i := 2) (oi := { dst := some 46, op := Op.move (Operand.tmp 1), type := 22, pos := "still.go:132", after := #[], guard := none }) (v := ?_) rfl (by kernel_rfl) (by kernel_rfl) (by kernel_rfl) (fun _ _ _ h => h) (Or.inl ⟨by rfl, ?_⟩) hHeld ?_
  rotate_left
  · (intro w hSw; (try dsimp only at hSw); go_simp; first | done | with_reducible rfl)
  simp only [Act.put, List.setIfInBounds_toArray, List.set_cons_zero, List.set_cons_succ]
  refine wpAnyH_take (i := 4) (oi := { dst := some 48, op := Op.load 42 (Operand.tmp 7), type := 42, pos := "still.go:132", after := #[], guard := none }) (v := ?_) rfl (by kernel_rfl) (by kernel_rfl) (by kernel_rfl) (fun _ _ _ h => h) (Or.inl ⟨by rfl, ?_⟩) hHeld ?_
  rotate_left
  · (intro w hSw; (try dsimp only at hSw); go_simp; first | done | with_reducible rfl)
  simp only [Act.put, List.setIfInBounds_toArray, List.set_cons_zero, List.set_cons_succ]
  refine wpAnyH_take (i := 7) (oi := { dst := some 51, op := Op.move (Operand.tmp 3), type := 3, pos := "still.go:132", after := #[], guard := none }) (v := ?_) rfl (by kernel_rfl) (by kernel_rfl) (by kernel_rfl) (fun _ _ _ h => h) (Or.inl ⟨by rfl, ?_⟩) hHeld ?_
  rotate_left
  · (intro w hSw; (try dsimp only at hSw); go_simp; first | done | with_reducible rfl)
  simp only [Act.put, List.setIfInBounds_toArray, List.set_cons_zero, List.set_cons_succ]
  refine wpAnyH_ready (rs := [1, 5]) (by kernel_rfl) (by simp) ?_
  refine (AllReadyH.cons (o := { dst := some 45, op := Op.buildSlice 22 0 #[], type := 22, pos := "still.go:132", after := #[], guard := none }) rfl (fun K hK => ?_) (AllReadyH.cons (o := { dst := some 49, op := Op.buildSlice 22 1 #[(0, Operand.tmp 48)], type := 22, pos := "still.go:132", after := #[{ on := 4, ground := Ground.data }], guard := none }) rfl (fun K hK => ?_) AllReadyH.nil))
  · go_simp
    have BN : Below ws.heap.size ws (ws.alloc (.cells #[] 42)) := BB.alloc BB.size _
    have OO : OwnK (ws.alloc (.cells #[] 42)) ws.heap.size (.slice (some ⟨ws.heap.size, 0, none⟩) 0 0) [] := World.ownsRow_made ws #[] 0 BB.size (Nat.zero_le _) (by simp)
    have KK1 := HSS.out _ BN
    clear BB
    refine hK.out _ _ KK1 (fun hHeld => ?_)
    clear hK K
    generalize ws.alloc (.cells #[] 42) = wq1 at BN OO hHeld ⊢
    have BB := BN
    refine wpAnyH_ready (rs := [3, 5]) (by kernel_rfl) (by simp) ?_
    refine (AllReadyH.cons (o := { dst := some 47, op := Op.call { callee := Callee.builtin Builtin.append, args := #[Operand.tmp 45, Operand.tmp 46], argTypes := #[22, 22] }, type := 22, pos := "still.go:132", after := #[{ on := 1, ground := Ground.data }, { on := 2, ground := Ground.data }], guard := none }) rfl (fun K hK => ?_) (AllReadyH.cons (o := { dst := some 49, op := Op.buildSlice 22 1 #[(0, Operand.tmp 48)], type := 22, pos := "still.go:132", after := #[{ on := 4, ground := Ground.data }], guard := none }) rfl (fun K hK => ?_) AllReadyH.nil))
    · rw [if_pos (by rfl)]
      refine wp_copyK _ _ rfl ws.heap.size _ _ l rfl rfl OO (HLd.out.below BB) hn BB.size ?_
      intro v3 wq13 hO3 hg3
      have BN := BB.grown hg3 BB.size (OwnK.past OO)
      have ON := hO3
      clear OO hO3 hg3
      have KK3 := HSS.out _ BN
      clear BB
      simp only [Act.put, List.setIfInBounds_toArray, List.set_cons_zero, List.set_cons_succ]
      refine hK.out _ _ KK3 (fun hHeld => ?_)
      clear hK K
      have BB := BN
      have OO := ON
      refine wpAnyH_ready (rs := [5]) (by kernel_rfl) (by simp) ?_
      refine (AllReadyH.cons (o := { dst := some 49, op := Op.buildSlice 22 1 #[(0, Operand.tmp 48)], type := 22, pos := "still.go:132", after := #[{ on := 4, ground := Ground.data }], guard := none }) rfl (fun K hK => ?_) AllReadyH.nil)
      go_simp
      have BN : Below ws.heap.size ws (wq13.alloc (.cells #[.int .i64 x0, .int .i64 x1, .int .i64 x2] 42)) := BB.alloc BB.size _
      have XN : Box3 (wq13.alloc (.cells #[.int .i64 x0, .int .i64 x1, .int .i64 x2] 42)) wq13.heap.size (.int .i64 x0) (.int .i64 x1) (.int .i64 x2) := Box3.new wq13 _ _ _ _
      have ON := OO.keep ((Below.refl wq13.heap.size wq13).alloc (Nat.le_refl _) (.cells #[.int .i64 x0, .int .i64 x1, .int .i64 x2] 42))
      clear OO
      have KK5 := HSS.out _ BN
      clear BB
      refine hK.out _ _ KK5 (fun hHeld => ?_)
      clear hK K
      generalize wq13.alloc (.cells #[.int .i64 x0, .int .i64 x1, .int .i64 x2] 42) = wq135 at BN XN hHeld ON ⊢
      have BB := BN
      have X3 := XN
      have OO := ON
      refine wpAnyH_ready (rs := [6]) (by kernel_rfl) (by simp) ?_
      refine (AllReadyH.cons (o := { dst := some 50, op := Op.call { callee := Callee.builtin Builtin.append, args := #[Operand.tmp 47, Operand.tmp 49], argTypes := #[22, 22] }, type := 22, pos := "still.go:132", after := #[{ on := 3, ground := Ground.data }, { on := 5, ground := Ground.data }, { on := 3, ground := Ground.chain }], guard := none }) rfl (fun K hK => ?_) AllReadyH.nil)
      rw [if_pos (by rfl)]
      refine wp_append_oneK _ _ rfl ws.heap.size _ l (x0, x1, x2) _ 1 rfl rfl OO X3 hn1 BB.size ?_
      intro v6 wq1356 hO6 hg6 _
      have BN := BB.grown hg6 BB.size (OwnK.past OO)
      have ON := hO6.arg
      clear OO X3 hO6 hg6
      have KK6 := HSS.out _ BN
      clear BB
      simp only [Act.put, List.setIfInBounds_toArray, List.set_cons_zero, List.set_cons_succ]
      refine hK.out _ _ KK6 (fun hHeld => ?_)
      clear hK K
      have BB := BN
      refine wpAnyH_ready (rs := [8]) (by kernel_rfl) (by simp) ?_
      refine (AllReadyH.cons (o := { dst := some 52, op := Op.call { callee := Callee.value (Operand.func 9), args := #[Operand.tmp 44, Operand.tmp 50, Operand.tmp 51], argTypes := #[3, 22, 3] }, type := 27, pos := "still.go:132", after := #[{ on := 0, ground := Ground.data }, { on := 6, ground := Ground.data }, { on := 7, ground := Ground.data }, { on := 6, ground := Ground.chain }], guard := none }) rfl (fun K hK => ?_) AllReadyH.nil)
      go_simp
      go_at_call 9
      refine (far_ok _ m t _ (l ++ [(x0, x1, x2)]) (by simp; omega) ON hg2 ht).mono ?_
      rintro e w8 ⟨f2, _, rfl, _, hb8⟩
      have BN := Below.two BB hb8
      have KK8 := HSS.out _ BN
      clear BB
      refine hK.out _ _ KK8 (fun hHeld => ?_)
      clear hK K
      have BB := BN
      refine wpAnyH_take (i := 9) (oi := { dst := some 43, op := Op.move (Operand.tmp 52), type := 27, pos := "still.go:132", after := #[{ on := 8, ground := Ground.data }], guard := none }) (v := ?_) rfl (by kernel_rfl) (by kernel_rfl) (by kernel_rfl) (fun _ _ _ h => h) (Or.inl ⟨by rfl, ?_⟩) hHeld ?_
      rotate_left
      · (intro w hSw; (try dsimp only at hSw); go_simp; first | done | with_reducible rfl)
      simp only [Act.put, List.setIfInBounds_toArray, List.set_cons_zero, List.set_cons_succ]
      refine wpAnyH_take (i := 10) (oi := { dst := some 53, op := Op.extract (Operand.tmp 43) 0, type := 24, pos := "still.go:132", after := #[{ on := 9, ground := Ground.data }], guard := none }) (v := ?_) rfl (by kernel_rfl) (by kernel_rfl) (by kernel_rfl) (fun _ _ _ h => h) (Or.inl ⟨by rfl, ?_⟩) hHeld ?_
      rotate_left
      · (intro w hSw; (try dsimp only at hSw); go_simp; first | done | with_reducible rfl)
      simp only [Act.put, List.setIfInBounds_toArray, List.set_cons_zero, List.set_cons_succ]
      refine wpAnyH_take (i := 11) (oi := { dst := some 54, op := Op.extract (Operand.tmp 43) 1, type := 26, pos := "still.go:132", after := #[{ on := 9, ground := Ground.data }, { on := 12, ground := Ground.gcOnly Departure.lateStores }], guard := none }) (v := ?_) rfl (by kernel_rfl) (by kernel_rfl) (by kernel_rfl) (fun _ _ _ h => h) (Or.inl ⟨by rfl, ?_⟩) hHeld ?_
      rotate_left
      · (intro w hSw; (try dsimp only at hSw); go_simp; first | done | with_reducible rfl)
      simp only [Act.put, List.setIfInBounds_toArray, List.set_cons_zero, List.set_cons_succ]
      refine wpAnyH_take (i := 12) (oi := { dst := some 15, op := Op.assign (Operand.tmp 53), type := 24, pos := "still.go:132", after := #[{ on := 10, ground := Ground.data }, { on := 8, ground := Ground.chain }, { on := 0, ground := Ground.phase }, { on := 1, ground := Ground.phase }, { on := 2, ground := Ground.phase }, { on := 3, ground := Ground.phase }, { on := 4, ground := Ground.phase }, { on := 5, ground := Ground.phase }, { on := 6, ground := Ground.phase }, { on := 7, ground := Ground.phase }, { on := 8, ground := Ground.phase }, { on := 9, ground := Ground.phase }, { on := 10, ground := Ground.phase }, { on := 11, ground := Ground.textOnly Departure.lateStores }], guard := none }) (v := ?_) rfl (by kernel_rfl) (by kernel_rfl) (by kernel_rfl) (fun _ _ _ h => h) (Or.inl ⟨by rfl, ?_⟩) hHeld ?_
      rotate_left
      · (intro w hSw; (try dsimp only at hSw); go_simp; first | done | with_reducible rfl)
      simp only [Act.put, List.setIfInBounds_toArray, List.set_cons_zero, List.set_cons_succ]
      refine wpAnyH_take (i := 13) (oi := { dst := some 16, op := Op.assign (Operand.tmp 54), type := 26, pos := "still.go:132", after := #[{ on := 11, ground := Ground.data }, { on := 12, ground := Ground.chain }, { on := 0, ground := Ground.phase }, { on := 1, ground := Ground.phase }, { on := 2, ground := Ground.phase }, { on := 3, ground := Ground.phase }, { on := 4, ground := Ground.phase }, { on := 5, ground := Ground.phase }, { on := 6, ground := Ground.phase }, { on := 7, ground := Ground.phase }, { on := 8, ground := Ground.phase }, { on := 9, ground := Ground.phase }, { on := 10, ground := Ground.phase }, { on := 11, ground := Ground.phase }, { on := 12, ground := Ground.phase }], guard := none }) (v := ?_) rfl (by kernel_rfl) (by kernel_rfl) (by kernel_rfl) (fun _ _ _ h => h) (Or.inl ⟨by rfl, ?_⟩) hHeld ?_
      rotate_left
      · (intro w hSw; (try dsimp only at hSw); go_simp; first | done | with_reducible rfl)
      simp only [Act.put, List.setIfInBounds_toArray, List.set_cons_zero, List.set_cons_succ]
      refine wpAnyH_done (by kernel_rfl) ?_ _
      clear hHeld
      go_wp2_with fail
      go_ret
      exact ⟨rfl, HZd.out.trans (BB.mono HZd.out.size)⟩
    · go_simp
      have BN : Below ws.heap.size ws (wq1.alloc (.cells #[.int .i64 x0, .int .i64 x1, .int .i64 x2] 42)) := BB.alloc BB.size _
      have XN : Box3 (wq1.alloc (.cells #[.int .i64 x0, .int .i64 x1, .int .i64 x2] 42)) wq1.heap.size (.int .i64 x0) (.int .i64 x1) (.int .i64 x2) := Box3.new wq1 _ _ _ _
      have hne : some ws.heap.size ≠ some wq1.heap.size := fun e => by
        have h1 : ws.heap.size < wq1.heap.size := (World.ownsRow.lt OO _ rfl).2
        have := Option.some.inj e
        omega
      have ON := OO.keep ((Below.refl wq1.heap.size wq1).alloc (Nat.le_refl _) (.cells #[.int .i64 x0, .int .i64 x1, .int .i64 x2] 42))
      clear OO
      have KK5 := HSS.out _ BN
      clear BB
      refine hK.out _ _ KK5 (fun hHeld => ?_)
      clear hK K
      generalize wq1.alloc (.cells #[.int .i64 x0, .int .i64 x1, .int .i64 x2] 42) = wq15 at BN XN hHeld ON ⊢
      have BB := BN
      have X3 := XN
      have OO := ON
      refine wpAnyH_ready (rs := [3]) (by kernel_rfl) (by simp) ?_
      refine (AllReadyH.cons (o := { dst := some 47, op := Op.call { callee := Callee.builtin Builtin.append, args := #[Operand.tmp 45, Operand.tmp 46], argTypes := #[22, 22] }, type := 22, pos := "still.go:132", after := #[{ on := 1, ground := Ground.data }, { on := 2, ground := Ground.data }], guard := none }) rfl (fun K hK => ?_) AllReadyH.nil)
      rw [if_pos (by rfl)]
      refine wp_copyK _ _ rfl ws.heap.size _ _ l rfl rfl OO (HLd.out.below BB) hn BB.size ?_
      intro v3 wq153 hO3 hg3
      have BN := BB.grown hg3 BB.size (OwnK.past OO)
      have XN := X3.grown hg3 hne
      clear X3
      have ON := hO3
      clear OO hO3 hg3
      have KK3 := HSS.out _ BN
      clear BB
      simp only [Act.put, List.setIfInBounds_toArray, List.set_cons_zero, List.set_cons_succ]
      refine hK.out _ _ KK3 (fun hHeld => ?_)
      clear hK K
      have BB := BN
      have OO := ON
      have X3 := XN
      refine wpAnyH_ready (rs := [6]) (by kernel_rfl) (by simp) ?_
      refine (AllReadyH.cons (o := { dst := some 50, op := Op.call { callee := Callee.builtin Builtin.append, args := #[Operand.tmp 47, Operand.tmp 49], argTypes := #[22, 22] }, type := 22, pos := "still.go:132", after := #[{ on := 3, ground := Ground.data }, { on := 5, ground := Ground.data }, { on := 3, ground := Ground.chain }], guard := none }) rfl (fun K hK => ?_) AllReadyH.nil)
      rw [if_pos (by rfl)]
      refine wp_append_oneK _ _ rfl ws.heap.size _ l (x0, x1, x2) _ 1 rfl rfl OO X3 hn1 BB.size ?_
      intro v6 wq1536 hO6 hg6 _
      have BN := BB.grown hg6 BB.size (OwnK.past OO)
      have ON := hO6.arg
      clear OO X3 hO6 hg6
      have KK6 := HSS.out _ BN
      clear BB
      simp only [Act.put, List.setIfInBounds_toArray, List.set_cons_zero, List.set_cons_succ]
      refine hK.out _ _ KK6 (fun hHeld => ?_)
      clear hK K
      have BB := BN
      refine wpAnyH_ready (rs := [8]) (by kernel_rfl) (by simp) ?_
      refine (AllReadyH.cons (o := { dst := some 52, op := Op.call { callee := Callee.value (Operand.func 9), args := #[Operand.tmp 44, Operand.tmp 50, Operand.tmp 51], argTypes := #[3, 22, 3] }, type := 27, pos := "still.go:132", after := #[{ on := 0, ground := Ground.data }, { on := 6, ground := Ground.data }, { on := 7, ground := Ground.data }, { on := 6, ground := Ground.chain }], guard := none }) rfl (fun K hK => ?_) AllReadyH.nil)
      go_simp
      go_at_call 9
      refine (far_ok _ m t _ (l ++ [(x0, x1, x2)]) (by simp; omega) ON hg2 ht).mono ?_
      rintro e w8 ⟨f2, _, rfl, _, hb8⟩
      have BN := Below.two BB hb8
      have KK8 := HSS.out _ BN
      clear BB
      refine hK.out _ _ KK8 (fun hHeld => ?_)
      clear hK K
      have BB := BN
      refine wpAnyH_take (i := 9) (oi := { dst := some 43, op := Op.move (Operand.tmp 52), type := 27, pos := "still.go:132", after := #[{ on := 8, ground := Ground.data }], guard := none }) (v := ?_) rfl (by kernel_rfl) (by kernel_rfl) (by kernel_rfl) (fun _ _ _ h => h) (Or.inl ⟨by rfl, ?_⟩) hHeld ?_
      rotate_left
      · (intro w hSw; (try dsimp only at hSw); go_simp; first | done | with_reducible rfl)
      simp only [Act.put, List.setIfInBounds_toArray, List.set_cons_zero, List.set_cons_succ]
      refine wpAnyH_take (i := 10) (oi := { dst := some 53, op := Op.extract (Operand.tmp 43) 0, type := 24, pos := "still.go:132", after := #[{ on := 9, ground := Ground.data }], guard := none }) (v := ?_) rfl (by kernel_rfl) (by kernel_rfl) (by kernel_rfl) (fun _ _ _ h => h) (Or.inl ⟨by rfl, ?_⟩) hHeld ?_
      rotate_left
      · (intro w hSw; (try dsimp only at hSw); go_simp; first | done | with_reducible rfl)
      simp only [Act.put, List.setIfInBounds_toArray, List.set_cons_zero, List.set_cons_succ]
      refine wpAnyH_take (i := 11) (oi := { dst := some 54, op := Op.extract (Operand.tmp 43) 1, type := 26, pos := "still.go:132", after := #[{ on := 9, ground := Ground.data }, { on := 12, ground := Ground.gcOnly Departure.lateStores }], guard := none }) (v := ?_) rfl (by kernel_rfl) (by kernel_rfl) (by kernel_rfl) (fun _ _ _ h => h) (Or.inl ⟨by rfl, ?_⟩) hHeld ?_
      rotate_left
      · (intro w hSw; (try dsimp only at hSw); go_simp; first | done | with_reducible rfl)
      simp only [Act.put, List.setIfInBounds_toArray, List.set_cons_zero, List.set_cons_succ]
      refine wpAnyH_take (i := 12) (oi := { dst := some 15, op := Op.assign (Operand.tmp 53), type := 24, pos := "still.go:132", after := #[{ on := 10, ground := Ground.data }, { on := 8, ground := Ground.chain }, { on := 0, ground := Ground.phase }, { on := 1, ground := Ground.phase }, { on := 2, ground := Ground.phase }, { on := 3, ground := Ground.phase }, { on := 4, ground := Ground.phase }, { on := 5, ground := Ground.phase }, { on := 6, ground := Ground.phase }, { on := 7, ground := Ground.phase }, { on := 8, ground := Ground.phase }, { on := 9, ground := Ground.phase }, { on := 10, ground := Ground.phase }, { on := 11, ground := Ground.textOnly Departure.lateStores }], guard := none }) (v := ?_) rfl (by kernel_rfl) (by kernel_rfl) (by kernel_rfl) (fun _ _ _ h => h) (Or.inl ⟨by rfl, ?_⟩) hHeld ?_
      rotate_left
      · (intro w hSw; (try dsimp only at hSw); go_simp; first | done | with_reducible rfl)
      simp only [Act.put, List.setIfInBounds_toArray, List.set_cons_zero, List.set_cons_succ]
      refine wpAnyH_take (i := 13) (oi := { dst := some 16, op := Op.assign (Operand.tmp 54), type := 26, pos := "still.go:132", after := #[{ on := 11, ground := Ground.data }, { on := 12, ground := Ground.chain }, { on := 0, ground := Ground.phase }, { on := 1, ground := Ground.phase }, { on := 2, ground := Ground.phase }, { on := 3, ground := Ground.phase }, { on := 4, ground := Ground.phase }, { on := 5, ground := Ground.phase }, { on := 6, ground := Ground.phase }, { on := 7, ground := Ground.phase }, { on := 8, ground := Ground.phase }, { on := 9, ground := Ground.phase }, { on := 10, ground := Ground.phase }, { on := 11, ground := Ground.phase }, { on := 12, ground := Ground.phase }], guard := none }) (v := ?_) rfl (by kernel_rfl) (by kernel_rfl) (by kernel_rfl) (fun _ _ _ h => h) (Or.inl ⟨by rfl, ?_⟩) hHeld ?_
      rotate_left
      · (intro w hSw; (try dsimp only at hSw); go_simp; first | done | with_reducible rfl)
      simp only [Act.put, List.setIfInBounds_toArray, List.set_cons_zero, List.set_cons_succ]
      refine wpAnyH_done (by kernel_rfl) ?_ _
      clear hHeld
      go_wp2_with fail
      go_ret
      exact ⟨rfl, HZd.out.trans (BB.mono HZd.out.size)⟩
  · go_simp
    have BN : Below ws.heap.size ws (ws.alloc (.cells #[.int .i64 x0, .int .i64 x1, .int .i64 x2] 42)) := BB.alloc BB.size _
    have XN : Box3 (ws.alloc (.cells #[.int .i64 x0, .int .i64 x1, .int .i64 x2] 42)) ws.heap.size (.int .i64 x0) (.int .i64 x1) (.int .i64 x2) := Box3.new ws _ _ _ _
    have KK5 := HSS.out _ BN
    clear BB
    refine hK.out _ _ KK5 (fun hHeld => ?_)
    clear hK K
    generalize ws.alloc (.cells #[.int .i64 x0, .int .i64 x1, .int .i64 x2] 42) = wq5 at BN XN hHeld ⊢
    have BB := BN
    have X3 := XN
    refine wpAnyH_ready (rs := [1]) (by kernel_rfl) (by simp) ?_
    refine (AllReadyH.cons (o := { dst := some 45, op := Op.buildSlice 22 0 #[], type := 22, pos := "still.go:132", after := #[], guard := none }) rfl (fun K hK => ?_) AllReadyH.nil)
    go_simp
    have BN : Below ws.heap.size ws (wq5.alloc (.cells #[] 42)) := BB.alloc BB.size _
    have OO : OwnK (wq5.alloc (.cells #[] 42)) ws.heap.size (.slice (some ⟨wq5.heap.size, 0, none⟩) 0 0) [] := World.ownsRow_made wq5 #[] 0 BB.size (Nat.zero_le _) (by simp)
    have XN := X3.kept ((Below.refl wq5.heap.size wq5).alloc (Nat.le_refl _) (.cells #[] 42))
    have hne : some wq5.heap.size ≠ some ws.heap.size := fun e => by
      have := X3.lt
      have := Option.some.inj e
      omega
    clear X3
    have KK1 := HSS.out _ BN
    clear BB
    refine hK.out _ _ KK1 (fun hHeld => ?_)
    clear hK K
    generalize wq5.alloc (.cells #[] 42) = wq51 at BN OO hHeld XN ⊢
    have BB := BN
    have X3 := XN
    refine wpAnyH_ready (rs := [3]) (by kernel_rfl) (by simp) ?_
    refine (AllReadyH.cons (o := { dst := some 47, op := Op.call { callee := Callee.builtin Builtin.append, args := #[Operand.tmp 45, Operand.tmp 46], argTypes := #[22, 22] }, type := 22, pos := "still.go:132", after := #[{ on := 1, ground := Ground.data }, { on := 2, ground := Ground.data }], guard := none }) rfl (fun K hK => ?_) AllReadyH.nil)
    rw [if_pos (by rfl)]
    refine wp_copyK _ _ rfl ws.heap.size _ _ l rfl rfl OO (HLd.out.below BB) hn BB.size ?_
    intro v3 wq513 hO3 hg3
    have BN := BB.grown hg3 BB.size (OwnK.past OO)
    have XN := X3.grown hg3 hne
    clear X3
    have ON := hO3
    clear OO hO3 hg3
    have KK3 := HSS.out _ BN
    clear BB
    simp only [Act.put, List.setIfInBounds_toArray, List.set_cons_zero, List.set_cons_succ]
    refine hK.out _ _ KK3 (fun hHeld => ?_)
    clear hK K
    have BB := BN
    have OO := ON
    have X3 := XN
    refine wpAnyH_ready (rs := [6]) (by kernel_rfl) (by simp) ?_
    refine (AllReadyH.cons (o := { dst := some 50, op := Op.call { callee := Callee.builtin Builtin.append, args := #[Operand.tmp 47, Operand.tmp 49], argTypes := #[22, 22] }, type := 22, pos := "still.go:132", after := #[{ on := 3, ground := Ground.data }, { on := 5, ground := Ground.data }, { on := 3, ground := Ground.chain }], guard := none }) rfl (fun K hK => ?_) AllReadyH.nil)
    rw [if_pos (by rfl)]
    refine wp_append_oneK _ _ rfl ws.heap.size _ l (x0, x1, x2) _ 1 rfl rfl OO X3 hn1 BB.size ?_
    intro v6 wq5136 hO6 hg6 _
    have BN := BB.grown hg6 BB.size (OwnK.past OO)
    have ON := hO6.arg
    clear OO X3 hO6 hg6
    have KK6 := HSS.out _ BN
    clear BB
    simp only [Act.put, List.setIfInBounds_toArray, List.set_cons_zero, List.set_cons_succ]
    refine hK.out _ _ KK6 (fun hHeld => ?_)
    clear hK K
    have BB := BN
    refine wpAnyH_ready (rs := [8]) (by kernel_rfl) (by simp) ?_
    refine (AllReadyH.cons (o := { dst := some 52, op := Op.call { callee := Callee.value (Operand.func 9), args := #[Operand.tmp 44, Operand.tmp 50, Operand.tmp 51], argTypes := #[3, 22, 3] }, type := 27, pos := "still.go:132", after := #[{ on := 0, ground := Ground.data }, { on := 6, ground := Ground.data }, { on := 7, ground := Ground.data }, { on := 6, ground := Ground.chain }], guard := none }) rfl (fun K hK => ?_) AllReadyH.nil)
    go_simp
    go_at_call 9
    refine (far_ok _ m t _ (l ++ [(x0, x1, x2)]) (by simp; omega) ON hg2 ht).mono ?_
    rintro e w8 ⟨f2, _, rfl, _, hb8⟩
    have BN := Below.two BB hb8
    have KK8 := HSS.out _ BN
    clear BB
    refine hK.out _ _ KK8 (fun hHeld => ?_)
    clear hK K
    have BB := BN
    refine wpAnyH_take (i := 9) (oi := { dst := some 43, op := Op.move (Operand.tmp 52), type := 27, pos := "still.go:132", after := #[{ on := 8, ground := Ground.data }], guard := none }) (v := ?_) rfl (by kernel_rfl) (by kernel_rfl) (by kernel_rfl) (fun _ _ _ h => h) (Or.inl ⟨by rfl, ?_⟩) hHeld ?_
    rotate_left
    · (intro w hSw; (try dsimp only at hSw); go_simp; first | done | with_reducible rfl)
    simp only [Act.put, List.setIfInBounds_toArray, List.set_cons_zero, List.set_cons_succ]
    refine wpAnyH_take (i := 10) (oi := { dst := some 53, op := Op.extract (Operand.tmp 43) 0, type := 24, pos := "still.go:132", after := #[{ on := 9, ground := Ground.data }], guard := none }) (v := ?_) rfl (by kernel_rfl) (by kernel_rfl) (by kernel_rfl) (fun _ _ _ h => h) (Or.inl ⟨by rfl, ?_⟩) hHeld ?_
    rotate_left
    · (intro w hSw; (try dsimp only at hSw); go_simp; first | done | with_reducible rfl)
    simp only [Act.put, List.setIfInBounds_toArray, List.set_cons_zero, List.set_cons_succ]
    refine wpAnyH_take (i := 11) (oi := { dst := some 54, op := Op.extract (Operand.tmp 43) 1, type := 26, pos := "still.go:132", after := #[{ on := 9, ground := Ground.data }, { on := 12, ground := Ground.gcOnly Departure.lateStores }], guard := none }) (v := ?_) rfl (by kernel_rfl) (by kernel_rfl) (by kernel_rfl) (fun _ _ _ h => h) (Or.inl ⟨by rfl, ?_⟩) hHeld ?_
    rotate_left
    · (intro w hSw; (try dsimp only at hSw); go_simp; first | done | with_reducible rfl)
    simp only [Act.put, List.setIfInBounds_toArray, List.set_cons_zero, List.set_cons_succ]
    refine wpAnyH_take (i := 12) (oi := { dst := some 15, op := Op.assign (Operand.tmp 53), type := 24, pos := "still.go:132", after := #[{ on := 10, ground := Ground.data }, { on := 8, ground := Ground.chain }, { on := 0, ground := Ground.phase }, { on := 1, ground := Ground.phase }, { on := 2, ground := Ground.phase }, { on := 3, ground := Ground.phase }, { on := 4, ground := Ground.phase }, { on := 5, ground := Ground.phase }, { on := 6, ground := Ground.phase }, { on := 7, ground := Ground.phase }, { on := 8, ground := Ground.phase }, { on := 9, ground := Ground.phase }, { on := 10, ground := Ground.phase }, { on := 11, ground := Ground.textOnly Departure.lateStores }], guard := none }) (v := ?_) rfl (by kernel_rfl) (by kernel_rfl) (by kernel_rfl) (fun _ _ _ h => h) (Or.inl ⟨by rfl, ?_⟩) hHeld ?_
    rotate_left
    · (intro w hSw; (try dsimp only at hSw); go_simp; first | done | with_reducible rfl)
    simp only [Act.put, List.setIfInBounds_toArray, List.set_cons_zero, List.set_cons_succ]
    refine wpAnyH_take (i := 13) (oi := { dst := some 16, op := Op.assign (Operand.tmp 54), type := 26, pos := "still.go:132", after := #[{ on := 11, ground := Ground.data }, { on := 12, ground := Ground.chain }, { on := 0, ground := Ground.phase }, { on := 1, ground := Ground.phase }, { on := 2, ground := Ground.phase }, { on := 3, ground := Ground.phase }, { on := 4, ground := Ground.phase }, { on := 5, ground := Ground.phase }, { on := 6, ground := Ground.phase }, { on := 7, ground := Ground.phase }, { on := 8, ground := Ground.phase }, { on := 9, ground := Ground.phase }, { on := 10, ground := Ground.phase }, { on := 11, ground := Ground.phase }, { on := 12, ground := Ground.phase }], guard := none }) (v := ?_) rfl (by kernel_rfl) (by kernel_rfl) (by kernel_rfl) (fun _ _ _ h => h) (Or.inl ⟨by rfl, ?_⟩) hHeld ?_
    rotate_left
    · (intro w hSw; (try dsimp only at hSw); go_simp; first | done | with_reducible rfl)
    simp only [Act.put, List.setIfInBounds_toArray, List.set_cons_zero, List.set_cons_succ]
    refine wpAnyH_done (by kernel_rfl) ?_ _
    clear hHeld
    go_wp2_with fail
    go_ret
    exact ⟨rfl, HZd.out.trans (BB.mono HZd.out.size)⟩
set_option maxHeartbeats 4000000 in
set_option maxRecDepth 100000 in
theorem more_4 (w : World) (m t : Nat) (b : Int) (v : Value) (l : List Lk) (x0 x1 x2 : Int) (hn : l.length * 24 ≤ 140737488355328) (hn1 : (l.length + 1) * 24 ≤ 140737488355328) (h : ArgK w v l) (hg : gBad m l = 0) (ht : t < m) (hg2 : gBad m (l ++ [(x0, x1, x2)]) = 0) (hz : ¬ b < 0) (hy : (m : Int) ≤ b) :
    Calls Try.prog 6 #[.int .i64 m, v, .agg #[.int .i64 x0, .int .i64 x1, .int .i64 x2], .int .i64 t, .int .i64 b] w fun e w' => e = .returned (.bool true) ∧ Below w.heap.size w w' := by
  have hy2 : b ≥ (m : Int) := hy
  clear hy
  have HL := Lib.hid h
  have HO := one_at (w.alloc (.cells #[.int .i64 x0, .int .i64 x1, .int .i64 x2] 42))
  rw [show (w.alloc (.cells #[.int .i64 x0, .int .i64 x1, .int .i64 x2] 42)).heap.size = w.heap.size + 1 by simp] at HO
  have HO := Lib.hid HO
  clear h
  go_enter Try.func6, Try.ntmps6
  go_wp2_with fail
  refine HO.out.mono ?_
  rintro e w1 ⟨f0, _, rfl, o1, hb1⟩
  have HB3 := Lib.hid ((Box3.new w (.int .i64 x0) (.int .i64 x1) (.int .i64 x2) 42).below hb1 (Nat.lt_succ_self _))
  have HZZ := Lib.hid (((Below.refl w.heap.size w).alloc (Nat.le_refl _) (.cells #[.int .i64 x0, .int .i64 x1, .int .i64 x2] 42)).trans (hb1.mono (Nat.le_succ _)))
  have HL1 := Lib.hid (HL.out.below HZZ.out)
  have HC1 : Hid (Cell1 w1 f0 (.int .i64 3)) := Lib.hid ⟨o1⟩
  clear HL hb1 HO o1
  have HL := HL1
  clear HL1
  go_wp2_with fail
  refine (far_ok w1 m t v l (by omega) HL.out hg ht).mono ?_
  rintro e w2 ⟨f1, _, rfl, _, hb2⟩
  have HL' := Lib.hid (HL.out.below hb2)
  have HB3' := Lib.hid (HB3.out.kept hb2)
  have HC1' := Lib.hid (HC1.out.kept hb2)
  have HZZ' := Lib.hid (Below.two HZZ.out hb2)
  clear hb2 HZZ HL HB3 HC1
  have HZZ := HZZ'
  clear HZZ'
  have HL := HL'
  clear HL'
  have HB3 := HB3'
  clear HB3'
  have HC1 := HC1'
  clear HC1'
  have o1 := HC1.out.c
  go_wp2_with fail
  clear o1
  have HZd := Lib.hid HZZ.out.drew
  have HLd := Lib.hid (HL.out.below (Below.refl w2.heap.size w2).drew)
  have HBd := Lib.hid (HB3.out.kept (Below.refl w2.heap.size w2).drew)
  clear HZZ HL
  refine wp_region_held_drew (S := (fun w' => w'.cell? ⟨w.heap.size, 0, none⟩ = some (.int .i64 x0) ∧ w'.cell? ⟨w.heap.size, 1, none⟩ = some (.int .i64 x1) ∧ w'.cell? ⟨w.heap.size, 2, none⟩ = some (.int .i64 x2))) (by kernel_rfl) ⟨HBd.out.c0, HBd.out.c1, HBd.out.c2⟩ (fun hHeld => ?_)
  generalize w2.drew = ws at hHeld HZd HLd HBd ⊢
  have HSS : Hid (∀ w', Below ws.heap.size ws w' → w'.cell? ⟨w.heap.size, 0, none⟩ = some (.int .i64 x0) ∧ w'.cell? ⟨w.heap.size, 1, none⟩ = some (.int .i64 x1) ∧ w'.cell? ⟨w.heap.size, 2, none⟩ = some (.int .i64 x2)) := Lib.hid fun w' hb => ⟨(hb.cell (p := ⟨w.heap.size, 0, none⟩) HBd.out.lt).trans HBd.out.c0, (hb.cell (p := ⟨w.heap.size, 1, none⟩) HBd.out.lt).trans HBd.out.c1, (hb.cell (p := ⟨w.heap.size, 2, none⟩) HBd.out.lt).trans HBd.out.c2⟩
  have BB := Below.refl ws.heap.size ws
  refine wpAnyH_take (i := 0) (oi := { dst := some 44, op := Op.move (Operand.tmp 0), type := 3, pos := "still.go:132", after := #[], guard := none }) (v := ?_) rfl (by kernel_rfl) (by kernel_rfl) (by kernel_rfl) (fun _ _ _ h => h) (Or.inl ⟨by rfl, ?_⟩) hHeld ?_
  rotate_left
  · (intro w hSw; (try dsimp only at hSw); go_simp; first | done | with_reducible rfl)
  simp only [Act.put, List.setIfInBounds_toArray, List.set_cons_zero, List.set_cons_succ]
  refine wpAnyH_take (i := 2) (oi := { dst := some 46, op := Op.move (Operand.tmp 1), type := 22, pos := "still.go:132", after := #[], guard := none }) (v := ?_) rfl (by kernel_rfl) (by kernel_rfl) (by kernel_rfl) (fun _ _ _ h => h) (Or.inl ⟨by rfl, ?_⟩) hHeld ?_
  rotate_left
  · (intro w hSw; (try dsimp only at hSw); go_simp; first | done | with_reducible rfl)
  simp only [Act.put, List.setIfInBounds_toArray, List.set_cons_zero, List.set_cons_succ]
  refine wpAnyH_take (i := 4) (oi := { dst := some 48, op := Op.load 42 (Operand.tmp 7), type := 42, pos := "still.go:132", after := #[], guard := none }) (v := ?_) rfl (by kernel_rfl) (by kernel_rfl) (by kernel_rfl) (fun _ _ _ h => h) (Or.inl ⟨by rfl, ?_⟩) hHeld ?_
  rotate_left
  · (intro w hSw; (try dsimp only at hSw); go_simp; first | done | with_reducible rfl)
  simp only [Act.put, List.setIfInBounds_toArray, List.set_cons_zero, List.set_cons_succ]
  refine wpAnyH_take (i := 7) (oi := { dst := some 51, op := Op.move (Operand.tmp 3), type := 3, pos := "still.go:132", after := #[], guard := none }) (v := ?_) rfl (by kernel_rfl) (by kernel_rfl) (by kernel_rfl) (fun _ _ _ h => h) (Or.inl ⟨by rfl, ?_⟩) hHeld ?_
  rotate_left
  · (intro w hSw; (try dsimp only at hSw); go_simp; first | done | with_reducible rfl)
  simp only [Act.put, List.setIfInBounds_toArray, List.set_cons_zero, List.set_cons_succ]
  refine wpAnyH_ready (rs := [1, 5]) (by kernel_rfl) (by simp) ?_
  refine (AllReadyH.cons (o := { dst := some 45, op := Op.buildSlice 22 0 #[], type := 22, pos := "still.go:132", after := #[], guard := none }) rfl (fun K hK => ?_) (AllReadyH.cons (o := { dst := some 49, op := Op.buildSlice 22 1 #[(0, Operand.tmp 48)], type := 22, pos := "still.go:132", after := #[{ on := 4, ground := Ground.data }], guard := none }) rfl (fun K hK => ?_) AllReadyH.nil))
  · go_simp
    have BN : Below ws.heap.size ws (ws.alloc (.cells #[] 42)) := BB.alloc BB.size _
    have OO : OwnK (ws.alloc (.cells #[] 42)) ws.heap.size (.slice (some ⟨ws.heap.size, 0, none⟩) 0 0) [] := World.ownsRow_made ws #[] 0 BB.size (Nat.zero_le _) (by simp)
    have KK1 := HSS.out _ BN
    clear BB
    refine hK.out _ _ KK1 (fun hHeld => ?_)
    clear hK K
    generalize ws.alloc (.cells #[] 42) = wq1 at BN OO hHeld ⊢
    have BB := BN
    refine wpAnyH_ready (rs := [3, 5]) (by kernel_rfl) (by simp) ?_
    refine (AllReadyH.cons (o := { dst := some 47, op := Op.call { callee := Callee.builtin Builtin.append, args := #[Operand.tmp 45, Operand.tmp 46], argTypes := #[22, 22] }, type := 22, pos := "still.go:132", after := #[{ on := 1, ground := Ground.data }, { on := 2, ground := Ground.data }], guard := none }) rfl (fun K hK => ?_) (AllReadyH.cons (o := { dst := some 49, op := Op.buildSlice 22 1 #[(0, Operand.tmp 48)], type := 22, pos := "still.go:132", after := #[{ on := 4, ground := Ground.data }], guard := none }) rfl (fun K hK => ?_) AllReadyH.nil))
    · rw [if_pos (by rfl)]
      refine wp_copyK _ _ rfl ws.heap.size _ _ l rfl rfl OO (HLd.out.below BB) hn BB.size ?_
      intro v3 wq13 hO3 hg3
      have BN := BB.grown hg3 BB.size (OwnK.past OO)
      have ON := hO3
      clear OO hO3 hg3
      have KK3 := HSS.out _ BN
      clear BB
      simp only [Act.put, List.setIfInBounds_toArray, List.set_cons_zero, List.set_cons_succ]
      refine hK.out _ _ KK3 (fun hHeld => ?_)
      clear hK K
      have BB := BN
      have OO := ON
      refine wpAnyH_ready (rs := [5]) (by kernel_rfl) (by simp) ?_
      refine (AllReadyH.cons (o := { dst := some 49, op := Op.buildSlice 22 1 #[(0, Operand.tmp 48)], type := 22, pos := "still.go:132", after := #[{ on := 4, ground := Ground.data }], guard := none }) rfl (fun K hK => ?_) AllReadyH.nil)
      go_simp
      have BN : Below ws.heap.size ws (wq13.alloc (.cells #[.int .i64 x0, .int .i64 x1, .int .i64 x2] 42)) := BB.alloc BB.size _
      have XN : Box3 (wq13.alloc (.cells #[.int .i64 x0, .int .i64 x1, .int .i64 x2] 42)) wq13.heap.size (.int .i64 x0) (.int .i64 x1) (.int .i64 x2) := Box3.new wq13 _ _ _ _
      have ON := OO.keep ((Below.refl wq13.heap.size wq13).alloc (Nat.le_refl _) (.cells #[.int .i64 x0, .int .i64 x1, .int .i64 x2] 42))
      clear OO
      have KK5 := HSS.out _ BN
      clear BB
      refine hK.out _ _ KK5 (fun hHeld => ?_)
      clear hK K
      generalize wq13.alloc (.cells #[.int .i64 x0, .int .i64 x1, .int .i64 x2] 42) = wq135 at BN XN hHeld ON ⊢
      have BB := BN
      have X3 := XN
      have OO := ON
      refine wpAnyH_ready (rs := [6]) (by kernel_rfl) (by simp) ?_
      refine (AllReadyH.cons (o := { dst := some 50, op := Op.call { callee := Callee.builtin Builtin.append, args := #[Operand.tmp 47, Operand.tmp 49], argTypes := #[22, 22] }, type := 22, pos := "still.go:132", after := #[{ on := 3, ground := Ground.data }, { on := 5, ground := Ground.data }, { on := 3, ground := Ground.chain }], guard := none }) rfl (fun K hK => ?_) AllReadyH.nil)
      rw [if_pos (by rfl)]
      refine wp_append_oneK _ _ rfl ws.heap.size _ l (x0, x1, x2) _ 1 rfl rfl OO X3 hn1 BB.size ?_
      intro v6 wq1356 hO6 hg6 _
      have BN := BB.grown hg6 BB.size (OwnK.past OO)
      have ON := hO6.arg
      clear OO X3 hO6 hg6
      have KK6 := HSS.out _ BN
      clear BB
      simp only [Act.put, List.setIfInBounds_toArray, List.set_cons_zero, List.set_cons_succ]
      refine hK.out _ _ KK6 (fun hHeld => ?_)
      clear hK K
      have BB := BN
      refine wpAnyH_ready (rs := [8]) (by kernel_rfl) (by simp) ?_
      refine (AllReadyH.cons (o := { dst := some 52, op := Op.call { callee := Callee.value (Operand.func 9), args := #[Operand.tmp 44, Operand.tmp 50, Operand.tmp 51], argTypes := #[3, 22, 3] }, type := 27, pos := "still.go:132", after := #[{ on := 0, ground := Ground.data }, { on := 6, ground := Ground.data }, { on := 7, ground := Ground.data }, { on := 6, ground := Ground.chain }], guard := none }) rfl (fun K hK => ?_) AllReadyH.nil)
      go_simp
      go_at_call 9
      refine (far_ok _ m t _ (l ++ [(x0, x1, x2)]) (by simp; omega) ON hg2 ht).mono ?_
      rintro e w8 ⟨f2, _, rfl, _, hb8⟩
      have BN := Below.two BB hb8
      have KK8 := HSS.out _ BN
      clear BB
      refine hK.out _ _ KK8 (fun hHeld => ?_)
      clear hK K
      have BB := BN
      refine wpAnyH_take (i := 9) (oi := { dst := some 43, op := Op.move (Operand.tmp 52), type := 27, pos := "still.go:132", after := #[{ on := 8, ground := Ground.data }], guard := none }) (v := ?_) rfl (by kernel_rfl) (by kernel_rfl) (by kernel_rfl) (fun _ _ _ h => h) (Or.inl ⟨by rfl, ?_⟩) hHeld ?_
      rotate_left
      · (intro w hSw; (try dsimp only at hSw); go_simp; first | done | with_reducible rfl)
      simp only [Act.put, List.setIfInBounds_toArray, List.set_cons_zero, List.set_cons_succ]
      refine wpAnyH_take (i := 10) (oi := { dst := some 53, op := Op.extract (Operand.tmp 43) 0, type := 24, pos := "still.go:132", after := #[{ on := 9, ground := Ground.data }], guard := none }) (v := ?_) rfl (by kernel_rfl) (by kernel_rfl) (by kernel_rfl) (fun _ _ _ h => h) (Or.inl ⟨by rfl, ?_⟩) hHeld ?_
      rotate_left
      · (intro w hSw; (try dsimp only at hSw); go_simp; first | done | with_reducible rfl)
      simp only [Act.put, List.setIfInBounds_toArray, List.set_cons_zero, List.set_cons_succ]
      refine wpAnyH_take (i := 11) (oi := { dst := some 54, op := Op.extract (Operand.tmp 43) 1, type := 26, pos := "still.go:132", after := #[{ on := 9, ground := Ground.data }, { on := 12, ground := Ground.gcOnly Departure.lateStores }], guard := none }) (v := ?_) rfl (by kernel_rfl) (by kernel_rfl) (by kernel_rfl) (fun _ _ _ h => h) (Or.inl ⟨by rfl, ?_⟩) hHeld ?_
      rotate_left
      · (intro w hSw; (try dsimp only at hSw); go_simp; first | done | with_reducible rfl)
      simp only [Act.put, List.setIfInBounds_toArray, List.set_cons_zero, List.set_cons_succ]
      refine wpAnyH_take (i := 12) (oi := { dst := some 15, op := Op.assign (Operand.tmp 53), type := 24, pos := "still.go:132", after := #[{ on := 10, ground := Ground.data }, { on := 8, ground := Ground.chain }, { on := 0, ground := Ground.phase }, { on := 1, ground := Ground.phase }, { on := 2, ground := Ground.phase }, { on := 3, ground := Ground.phase }, { on := 4, ground := Ground.phase }, { on := 5, ground := Ground.phase }, { on := 6, ground := Ground.phase }, { on := 7, ground := Ground.phase }, { on := 8, ground := Ground.phase }, { on := 9, ground := Ground.phase }, { on := 10, ground := Ground.phase }, { on := 11, ground := Ground.textOnly Departure.lateStores }], guard := none }) (v := ?_) rfl (by kernel_rfl) (by kernel_rfl) (by kernel_rfl) (fun _ _ _ h => h) (Or.inl ⟨by rfl, ?_⟩) hHeld ?_
      rotate_left
      · (intro w hSw; (try dsimp only at hSw); go_simp; first | done | with_reducible rfl)
      simp only [Act.put, List.setIfInBounds_toArray, List.set_cons_zero, List.set_cons_succ]
      refine wpAnyH_take (i := 13) (oi := { dst := some 16, op := Op.assign (Operand.tmp 54), type := 26, pos := "still.go:132", after := #[{ on := 11, ground := Ground.data }, { on := 12, ground := Ground.chain }, { on := 0, ground := Ground.phase }, { on := 1, ground := Ground.phase }, { on := 2, ground := Ground.phase }, { on := 3, ground := Ground.phase }, { on := 4, ground := Ground.phase }, { on := 5, ground := Ground.phase }, { on := 6, ground := Ground.phase }, { on := 7, ground := Ground.phase }, { on := 8, ground := Ground.phase }, { on := 9, ground := Ground.phase }, { on := 10, ground := Ground.phase }, { on := 11, ground := Ground.phase }, { on := 12, ground := Ground.phase }], guard := none }) (v := ?_) rfl (by kernel_rfl) (by kernel_rfl) (by kernel_rfl) (fun _ _ _ h => h) (Or.inl ⟨by rfl, ?_⟩) hHeld ?_
      rotate_left
      · (intro w hSw; (try dsimp only at hSw); go_simp; first | done | with_reducible rfl)
      simp only [Act.put, List.setIfInBounds_toArray, List.set_cons_zero, List.set_cons_succ]
      refine wpAnyH_done (by kernel_rfl) ?_ _
      clear hHeld
      go_wp2_with fail
      go_ret
      exact ⟨rfl, HZd.out.trans (BB.mono HZd.out.size)⟩
    · go_simp
      have BN : Below ws.heap.size ws (wq1.alloc (.cells #[.int .i64 x0, .int .i64 x1, .int .i64 x2] 42)) := BB.alloc BB.size _
      have XN : Box3 (wq1.alloc (.cells #[.int .i64 x0, .int .i64 x1, .int .i64 x2] 42)) wq1.heap.size (.int .i64 x0) (.int .i64 x1) (.int .i64 x2) := Box3.new wq1 _ _ _ _
      have hne : some ws.heap.size ≠ some wq1.heap.size := fun e => by
        have h1 : ws.heap.size < wq1.heap.size := (World.ownsRow.lt OO _ rfl).2
        have := Option.some.inj e
        omega
      have ON := OO.keep ((Below.refl wq1.heap.size wq1).alloc (Nat.le_refl _) (.cells #[.int .i64 x0, .int .i64 x1, .int .i64 x2] 42))
      clear OO
      have KK5 := HSS.out _ BN
      clear BB
      refine hK.out _ _ KK5 (fun hHeld => ?_)
      clear hK K
      generalize wq1.alloc (.cells #[.int .i64 x0, .int .i64 x1, .int .i64 x2] 42) = wq15 at BN XN hHeld ON ⊢
      have BB := BN
      have X3 := XN
      have OO := ON
      refine wpAnyH_ready (rs := [3]) (by kernel_rfl) (by simp) ?_
      refine (AllReadyH.cons (o := { dst := some 47, op := Op.call { callee := Callee.builtin Builtin.append, args := #[Operand.tmp 45, Operand.tmp 46], argTypes := #[22, 22] }, type := 22, pos := "still.go:132", after := #[{ on := 1, ground := Ground.data }, { on := 2, ground := Ground.data }], guard := none }) rfl (fun K hK => ?_) AllReadyH.nil)
      rw [if_pos (by rfl)]
      refine wp_copyK _ _ rfl ws.heap.size _ _ l rfl rfl OO (HLd.out.below BB) hn BB.size ?_
      intro v3 wq153 hO3 hg3
      have BN := BB.grown hg3 BB.size (OwnK.past OO)
      have XN := X3.grown hg3 hne
      clear X3
      have ON := hO3
      clear OO hO3 hg3
      have KK3 := HSS.out _ BN
      clear BB
      simp only [Act.put, List.setIfInBounds_toArray, List.set_cons_zero, List.set_cons_succ]
      refine hK.out _ _ KK3 (fun hHeld => ?_)
      clear hK K
      have BB := BN
      have OO := ON
      have X3 := XN
      refine wpAnyH_ready (rs := [6]) (by kernel_rfl) (by simp) ?_
      refine (AllReadyH.cons (o := { dst := some 50, op := Op.call { callee := Callee.builtin Builtin.append, args := #[Operand.tmp 47, Operand.tmp 49], argTypes := #[22, 22] }, type := 22, pos := "still.go:132", after := #[{ on := 3, ground := Ground.data }, { on := 5, ground := Ground.data }, { on := 3, ground := Ground.chain }], guard := none }) rfl (fun K hK => ?_) AllReadyH.nil)
      rw [if_pos (by rfl)]
      refine wp_append_oneK _ _ rfl ws.heap.size _ l (x0, x1, x2) _ 1 rfl rfl OO X3 hn1 BB.size ?_
      intro v6 wq1536 hO6 hg6 _
      have BN := BB.grown hg6 BB.size (OwnK.past OO)
      have ON := hO6.arg
      clear OO X3 hO6 hg6
      have KK6 := HSS.out _ BN
      clear BB
      simp only [Act.put, List.setIfInBounds_toArray, List.set_cons_zero, List.set_cons_succ]
      refine hK.out _ _ KK6 (fun hHeld => ?_)
      clear hK K
      have BB := BN
      refine wpAnyH_ready (rs := [8]) (by kernel_rfl) (by simp) ?_
      refine (AllReadyH.cons (o := { dst := some 52, op := Op.call { callee := Callee.value (Operand.func 9), args := #[Operand.tmp 44, Operand.tmp 50, Operand.tmp 51], argTypes := #[3, 22, 3] }, type := 27, pos := "still.go:132", after := #[{ on := 0, ground := Ground.data }, { on := 6, ground := Ground.data }, { on := 7, ground := Ground.data }, { on := 6, ground := Ground.chain }], guard := none }) rfl (fun K hK => ?_) AllReadyH.nil)
      go_simp
      go_at_call 9
      refine (far_ok _ m t _ (l ++ [(x0, x1, x2)]) (by simp; omega) ON hg2 ht).mono ?_
      rintro e w8 ⟨f2, _, rfl, _, hb8⟩
      have BN := Below.two BB hb8
      have KK8 := HSS.out _ BN
      clear BB
      refine hK.out _ _ KK8 (fun hHeld => ?_)
      clear hK K
      have BB := BN
      refine wpAnyH_take (i := 9) (oi := { dst := some 43, op := Op.move (Operand.tmp 52), type := 27, pos := "still.go:132", after := #[{ on := 8, ground := Ground.data }], guard := none }) (v := ?_) rfl (by kernel_rfl) (by kernel_rfl) (by kernel_rfl) (fun _ _ _ h => h) (Or.inl ⟨by rfl, ?_⟩) hHeld ?_
      rotate_left
      · (intro w hSw; (try dsimp only at hSw); go_simp; first | done | with_reducible rfl)
      simp only [Act.put, List.setIfInBounds_toArray, List.set_cons_zero, List.set_cons_succ]
      refine wpAnyH_take (i := 10) (oi := { dst := some 53, op := Op.extract (Operand.tmp 43) 0, type := 24, pos := "still.go:132", after := #[{ on := 9, ground := Ground.data }], guard := none }) (v := ?_) rfl (by kernel_rfl) (by kernel_rfl) (by kernel_rfl) (fun _ _ _ h => h) (Or.inl ⟨by rfl, ?_⟩) hHeld ?_
      rotate_left
      · (intro w hSw; (try dsimp only at hSw); go_simp; first | done | with_reducible rfl)
      simp only [Act.put, List.setIfInBounds_toArray, List.set_cons_zero, List.set_cons_succ]
      refine wpAnyH_take (i := 11) (oi := { dst := some 54, op := Op.extract (Operand.tmp 43) 1, type := 26, pos := "still.go:132", after := #[{ on := 9, ground := Ground.data }, { on := 12, ground := Ground.gcOnly Departure.lateStores }], guard := none }) (v := ?_) rfl (by kernel_rfl) (by kernel_rfl) (by kernel_rfl) (fun _ _ _ h => h) (Or.inl ⟨by rfl, ?_⟩) hHeld ?_
      rotate_left
      · (intro w hSw; (try dsimp only at hSw); go_simp; first | done | with_reducible rfl)
      simp only [Act.put, List.setIfInBounds_toArray, List.set_cons_zero, List.set_cons_succ]
      refine wpAnyH_take (i := 12) (oi := { dst := some 15, op := Op.assign (Operand.tmp 53), type := 24, pos := "still.go:132", after := #[{ on := 10, ground := Ground.data }, { on := 8, ground := Ground.chain }, { on := 0, ground := Ground.phase }, { on := 1, ground := Ground.phase }, { on := 2, ground := Ground.phase }, { on := 3, ground := Ground.phase }, { on := 4, ground := Ground.phase }, { on := 5, ground := Ground.phase }, { on := 6, ground := Ground.phase }, { on := 7, ground := Ground.phase }, { on := 8, ground := Ground.phase }, { on := 9, ground := Ground.phase }, { on := 10, ground := Ground.phase }, { on := 11, ground := Ground.textOnly Departure.lateStores }], guard := none }) (v := ?_) rfl (by kernel_rfl) (by kernel_rfl) (by kernel_rfl) (fun _ _ _ h => h) (Or.inl ⟨by rfl, ?_⟩) hHeld ?_
      rotate_left
      · (intro w hSw; (try dsimp only at hSw); go_simp; first | done | with_reducible rfl)
      simp only [Act.put, List.setIfInBounds_toArray, List.set_cons_zero, List.set_cons_succ]
      refine wpAnyH_take (i := 13) (oi := { dst := some 16, op := Op.assign (Operand.tmp 54), type := 26, pos := "still.go:132", after := #[{ on := 11, ground := Ground.data }, { on := 12, ground := Ground.chain }, { on := 0, ground := Ground.phase }, { on := 1, ground := Ground.phase }, { on := 2, ground := Ground.phase }, { on := 3, ground := Ground.phase }, { on := 4, ground := Ground.phase }, { on := 5, ground := Ground.phase }, { on := 6, ground := Ground.phase }, { on := 7, ground := Ground.phase }, { on := 8, ground := Ground.phase }, { on := 9, ground := Ground.phase }, { on := 10, ground := Ground.phase }, { on := 11, ground := Ground.phase }, { on := 12, ground := Ground.phase }], guard := none }) (v := ?_) rfl (by kernel_rfl) (by kernel_rfl) (by kernel_rfl) (fun _ _ _ h => h) (Or.inl ⟨by rfl, ?_⟩) hHeld ?_
      rotate_left
      · (intro w hSw; (try dsimp only at hSw); go_simp; first | done | with_reducible rfl)
      simp only [Act.put, List.setIfInBounds_toArray, List.set_cons_zero, List.set_cons_succ]
      refine wpAnyH_done (by kernel_rfl) ?_ _
      clear hHeld
      go_wp2_with fail
      go_ret
      exact ⟨rfl, HZd.out.trans (BB.mono HZd.out.size)⟩
  · go_simp
    have BN : Below ws.heap.size ws (ws.alloc (.cells #[.int .i64 x0, .int .i64 x1, .int .i64 x2] 42)) := BB.alloc BB.size _
    have XN : Box3 (ws.alloc (.cells #[.int .i64 x0, .int .i64 x1, .int .i64 x2] 42)) ws.heap.size (.int .i64 x0) (.int .i64 x1) (.int .i64 x2) := Box3.new ws _ _ _ _
    have KK5 := HSS.out _ BN
    clear BB
    refine hK.out _ _ KK5 (fun hHeld => ?_)
    clear hK K
    generalize ws.alloc (.cells #[.int .i64 x0, .int .i64 x1, .int .i64 x2] 42) = wq5 at BN XN hHeld ⊢
    have BB := BN
    have X3 := XN
    refine wpAnyH_ready (rs := [1]) (by kernel_rfl) (by simp) ?_
    refine (AllReadyH.cons (o := { dst := some 45, op := Op.buildSlice 22 0 #[], type := 22, pos := "still.go:132", after := #[], guard := none }) rfl (fun K hK => ?_) AllReadyH.nil)
    go_simp
    have BN : Below ws.heap.size ws (wq5.alloc (.cells #[] 42)) := BB.alloc BB.size _
    have OO : OwnK (wq5.alloc (.cells #[] 42)) ws.heap.size (.slice (some ⟨wq5.heap.size, 0, none⟩) 0 0) [] := World.ownsRow_made wq5 #[] 0 BB.size (Nat.zero_le _) (by simp)
    have XN := X3.kept ((Below.refl wq5.heap.size wq5).alloc (Nat.le_refl _) (.cells #[] 42))
    have hne : some wq5.heap.size ≠ some ws.heap.size := fun e => by
      have := X3.lt
      have := Option.some.inj e
      omega
    clear X3
    have KK1 := HSS.out _ BN
    clear BB
    refine hK.out _ _ KK1 (fun hHeld => ?_)
    clear hK K
    generalize wq5.alloc (.cells #[] 42) = wq51 at BN OO hHeld XN ⊢
    have BB := BN
    have X3 := XN
    refine wpAnyH_ready (rs := [3]) (by kernel_rfl) (by simp) ?_
    refine (AllReadyH.cons (o := { dst := some 47, op := Op.call { callee := Callee.builtin Builtin.append, args := #[Operand.tmp 45, Operand.tmp 46], argTypes := #[22, 22] }, type := 22, pos := "still.go:132", after := #[{ on := 1, ground := Ground.data }, { on := 2, ground := Ground.data }], guard := none }) rfl (fun K hK => ?_) AllReadyH.nil)
    rw [if_pos (by rfl)]
    refine wp_copyK _ _ rfl ws.heap.size _ _ l rfl rfl OO (HLd.out.below BB) hn BB.size ?_
    intro v3 wq513 hO3 hg3
    have BN := BB.grown hg3 BB.size (OwnK.past OO)
    have XN := X3.grown hg3 hne
    clear X3
    have ON := hO3
    clear OO hO3 hg3
    have KK3 := HSS.out _ BN
    clear BB
    simp only [Act.put, List.setIfInBounds_toArray, List.set_cons_zero, List.set_cons_succ]
    refine hK.out _ _ KK3 (fun hHeld => ?_)
    clear hK K
    have BB := BN
    have OO := ON
    have X3 := XN
    refine wpAnyH_ready (rs := [6]) (by kernel_rfl) (by simp) ?_
    refine (AllReadyH.cons (o := { dst := some 50, op := Op.call { callee := Callee.builtin Builtin.append, args := #[Operand.tmp 47, Operand.tmp 49], argTypes := #[22, 22] }, type := 22, pos := "still.go:132", after := #[{ on := 3, ground := Ground.data }, { on := 5, ground := Ground.data }, { on := 3, ground := Ground.chain }], guard := none }) rfl (fun K hK => ?_) AllReadyH.nil)
    rw [if_pos (by rfl)]
    refine wp_append_oneK _ _ rfl ws.heap.size _ l (x0, x1, x2) _ 1 rfl rfl OO X3 hn1 BB.size ?_
    intro v6 wq5136 hO6 hg6 _
    have BN := BB.grown hg6 BB.size (OwnK.past OO)
    have ON := hO6.arg
    clear OO X3 hO6 hg6
    have KK6 := HSS.out _ BN
    clear BB
    simp only [Act.put, List.setIfInBounds_toArray, List.set_cons_zero, List.set_cons_succ]
    refine hK.out _ _ KK6 (fun hHeld => ?_)
    clear hK K
    have BB := BN
    refine wpAnyH_ready (rs := [8]) (by kernel_rfl) (by simp) ?_
    refine (AllReadyH.cons (o := { dst := some 52, op := Op.call { callee := Callee.value (Operand.func 9), args := #[Operand.tmp 44, Operand.tmp 50, Operand.tmp 51], argTypes := #[3, 22, 3] }, type := 27, pos := "still.go:132", after := #[{ on := 0, ground := Ground.data }, { on := 6, ground := Ground.data }, { on := 7, ground := Ground.data }, { on := 6, ground := Ground.chain }], guard := none }) rfl (fun K hK => ?_) AllReadyH.nil)
    go_simp
    go_at_call 9
    refine (far_ok _ m t _ (l ++ [(x0, x1, x2)]) (by simp; omega) ON hg2 ht).mono ?_
    rintro e w8 ⟨f2, _, rfl, _, hb8⟩
    have BN := Below.two BB hb8
    have KK8 := HSS.out _ BN
    clear BB
    refine hK.out _ _ KK8 (fun hHeld => ?_)
    clear hK K
    have BB := BN
    refine wpAnyH_take (i := 9) (oi := { dst := some 43, op := Op.move (Operand.tmp 52), type := 27, pos := "still.go:132", after := #[{ on := 8, ground := Ground.data }], guard := none }) (v := ?_) rfl (by kernel_rfl) (by kernel_rfl) (by kernel_rfl) (fun _ _ _ h => h) (Or.inl ⟨by rfl, ?_⟩) hHeld ?_
    rotate_left
    · (intro w hSw; (try dsimp only at hSw); go_simp; first | done | with_reducible rfl)
    simp only [Act.put, List.setIfInBounds_toArray, List.set_cons_zero, List.set_cons_succ]
    refine wpAnyH_take (i := 10) (oi := { dst := some 53, op := Op.extract (Operand.tmp 43) 0, type := 24, pos := "still.go:132", after := #[{ on := 9, ground := Ground.data }], guard := none }) (v := ?_) rfl (by kernel_rfl) (by kernel_rfl) (by kernel_rfl) (fun _ _ _ h => h) (Or.inl ⟨by rfl, ?_⟩) hHeld ?_
    rotate_left
    · (intro w hSw; (try dsimp only at hSw); go_simp; first | done | with_reducible rfl)
    simp only [Act.put, List.setIfInBounds_toArray, List.set_cons_zero, List.set_cons_succ]
    refine wpAnyH_take (i := 11) (oi := { dst := some 54, op := Op.extract (Operand.tmp 43) 1, type := 26, pos := "still.go:132", after := #[{ on := 9, ground := Ground.data }, { on := 12, ground := Ground.gcOnly Departure.lateStores }], guard := none }) (v := ?_) rfl (by kernel_rfl) (by kernel_rfl) (by kernel_rfl) (fun _ _ _ h => h) (Or.inl ⟨by rfl, ?_⟩) hHeld ?_
    rotate_left
    · (intro w hSw; (try dsimp only at hSw); go_simp; first | done | with_reducible rfl)
    simp only [Act.put, List.setIfInBounds_toArray, List.set_cons_zero, List.set_cons_succ]
    refine wpAnyH_take (i := 12) (oi := { dst := some 15, op := Op.assign (Operand.tmp 53), type := 24, pos := "still.go:132", after := #[{ on := 10, ground := Ground.data }, { on := 8, ground := Ground.chain }, { on := 0, ground := Ground.phase }, { on := 1, ground := Ground.phase }, { on := 2, ground := Ground.phase }, { on := 3, ground := Ground.phase }, { on := 4, ground := Ground.phase }, { on := 5, ground := Ground.phase }, { on := 6, ground := Ground.phase }, { on := 7, ground := Ground.phase }, { on := 8, ground := Ground.phase }, { on := 9, ground := Ground.phase }, { on := 10, ground := Ground.phase }, { on := 11, ground := Ground.textOnly Departure.lateStores }], guard := none }) (v := ?_) rfl (by kernel_rfl) (by kernel_rfl) (by kernel_rfl) (fun _ _ _ h => h) (Or.inl ⟨by rfl, ?_⟩) hHeld ?_
    rotate_left
    · (intro w hSw; (try dsimp only at hSw); go_simp; first | done | with_reducible rfl)
    simp only [Act.put, List.setIfInBounds_toArray, List.set_cons_zero, List.set_cons_succ]
    refine wpAnyH_take (i := 13) (oi := { dst := some 16, op := Op.assign (Operand.tmp 54), type := 26, pos := "still.go:132", after := #[{ on := 11, ground := Ground.data }, { on := 12, ground := Ground.chain }, { on := 0, ground := Ground.phase }, { on := 1, ground := Ground.phase }, { on := 2, ground := Ground.phase }, { on := 3, ground := Ground.phase }, { on := 4, ground := Ground.phase }, { on := 5, ground := Ground.phase }, { on := 6, ground := Ground.phase }, { on := 7, ground := Ground.phase }, { on := 8, ground := Ground.phase }, { on := 9, ground := Ground.phase }, { on := 10, ground := Ground.phase }, { on := 11, ground := Ground.phase }, { on := 12, ground := Ground.phase }], guard := none }) (v := ?_) rfl (by kernel_rfl) (by kernel_rfl) (by kernel_rfl) (fun _ _ _ h => h) (Or.inl ⟨by rfl, ?_⟩) hHeld ?_
    rotate_left
    · (intro w hSw; (try dsimp only at hSw); go_simp; first | done | with_reducible rfl)
    simp only [Act.put, List.setIfInBounds_toArray, List.set_cons_zero, List.set_cons_succ]
    refine wpAnyH_done (by kernel_rfl) ?_ _
    clear hHeld
    go_wp2_with fail
    go_ret
    exact ⟨rfl, HZd.out.trans (BB.mono HZd.out.size)⟩
set_option maxHeartbeats 4000000 in
set_option maxRecDepth 100000 in
theorem more_5 (w : World) (m t b : Nat) (v : Value) (l : List Lk) (x0 x1 x2 : Nat) (hn : l.length * 24 ≤ 140737488355328) (hn1 : (l.length + 1) * 24 ≤ 140737488355328) (h : ArgK w v l) (hg : gBad m l = 0) (ht : t < m) (hg2 : gBad m (l ++ [((x0 : Int), (x1 : Int), (x2 : Int))]) = 0) (hb : b < m) (hx0 : x0 < m) (hx1 : x1 < m) (hx2 : x2 ≤ 15) (hs1 : BellP.far m (BellP.ct (l ++ [((x0 : Int), (x1 : Int), (x2 : Int))])) t x0 ≤ BellP.far m (BellP.ct (l ++ [((x0 : Int), (x1 : Int), (x2 : Int))])) t x1 + x2) (hs2 : BellP.far m (BellP.ct (l ++ [((x0 : Int), (x1 : Int), (x2 : Int))])) t x1 ≤ BellP.far m (BellP.ct (l ++ [((x0 : Int), (x1 : Int), (x2 : Int))])) t x0 + x2) :
    Calls Try.prog 6 #[.int .i64 m, v, .agg #[.int .i64 x0, .int .i64 x1, .int .i64 x2], .int .i64 t, .int .i64 b] w fun e w' => e = .returned (.bool true) ∧ Below w.heap.size w w' := by
  have HLE := Lib.hid (SpfP.more_le ((gBad_zero m l).1 hg).2 ((gBad_zero m _).1 hg2).2 ht b hb)
  have HD := Lib.hid (BellP.far_bd m (BellP.ct (l ++ [((x0 : Int), (x1 : Int), (x2 : Int))])) t)
  have HS1 := Lib.hid hs1
  have HS2 := Lib.hid hs2
  have bz : ¬ (b : Int) < 0 := by omega
  have bm : ¬ (b : Int) ≥ (m : Int) := by omega
  clear hs1 hs2
  have HL := Lib.hid h
  have HO := one_at (w.alloc (.cells #[.int .i64 x0, .int .i64 x1, .int .i64 x2] 42))
  rw [show (w.alloc (.cells #[.int .i64 x0, .int .i64 x1, .int .i64 x2] 42)).heap.size = w.heap.size + 1 by simp] at HO
  have HO := Lib.hid HO
  clear h
  go_enter Try.func6, Try.ntmps6
  go_wp2_with fail
  refine HO.out.mono ?_
  rintro e w1 ⟨f0, _, rfl, o1, hb1⟩
  have HB3 := Lib.hid ((Box3.new w (.int .i64 x0) (.int .i64 x1) (.int .i64 x2) 42).below hb1 (Nat.lt_succ_self _))
  have HZZ := Lib.hid (((Below.refl w.heap.size w).alloc (Nat.le_refl _) (.cells #[.int .i64 x0, .int .i64 x1, .int .i64 x2] 42)).trans (hb1.mono (Nat.le_succ _)))
  have HL1 := Lib.hid (HL.out.below HZZ.out)
  have HC1 : Hid (Cell1 w1 f0 (.int .i64 3)) := Lib.hid ⟨o1⟩
  clear HL hb1 HO o1
  have HL := HL1
  clear HL1
  go_wp2_with fail
  refine (far_ok w1 m t v l (by omega) HL.out hg ht).mono ?_
  rintro e w2 ⟨f1, _, rfl, hV, hb2⟩
  have HL' := Lib.hid (HL.out.below hb2)
  have HB3' := Lib.hid (HB3.out.kept hb2)
  have HC1' := Lib.hid (HC1.out.kept hb2)
  have HZZ' := Lib.hid (Below.two HZZ.out hb2)
  have HX := Lib.hid (hV)
  clear hb2 HZZ HL HB3 HC1
  have HZZ := HZZ'
  clear HZZ'
  have HL := HL'
  clear HL'
  have HB3 := HB3'
  clear HB3'
  have HC1 := HC1'
  clear HC1'
  clear hV
  have o1 := HC1.out.c
  go_wp2_with fail
  clear o1
  have HZd := Lib.hid HZZ.out.drew
  have HLd := Lib.hid (HL.out.below (Below.refl w2.heap.size w2).drew)
  have HBd := Lib.hid (HB3.out.kept (Below.refl w2.heap.size w2).drew)
  have HXd := Lib.hid HX.out.drew
  clear HZZ HL
  refine wp_region_held_drew (S := (fun w' => w'.cell? ⟨w.heap.size, 0, none⟩ = some (.int .i64 x0) ∧ w'.cell? ⟨w.heap.size, 1, none⟩ = some (.int .i64 x1) ∧ w'.cell? ⟨w.heap.size, 2, none⟩ = some (.int .i64 x2))) (by kernel_rfl) ⟨HBd.out.c0, HBd.out.c1, HBd.out.c2⟩ (fun hHeld => ?_)
  generalize w2.drew = ws at hHeld HZd HLd HBd HXd ⊢
  have HSS : Hid (∀ w', Below ws.heap.size ws w' → w'.cell? ⟨w.heap.size, 0, none⟩ = some (.int .i64 x0) ∧ w'.cell? ⟨w.heap.size, 1, none⟩ = some (.int .i64 x1) ∧ w'.cell? ⟨w.heap.size, 2, none⟩ = some (.int .i64 x2)) := Lib.hid fun w' hb => ⟨(hb.cell (p := ⟨w.heap.size, 0, none⟩) HBd.out.lt).trans HBd.out.c0, (hb.cell (p := ⟨w.heap.size, 1, none⟩) HBd.out.lt).trans HBd.out.c1, (hb.cell (p := ⟨w.heap.size, 2, none⟩) HBd.out.lt).trans HBd.out.c2⟩
  have BB := Below.refl ws.heap.size ws
  refine wpAnyH_take (i := 0) (oi := { dst := some 44, op := Op.move (Operand.tmp 0), type := 3, pos := "still.go:132", after := #[], guard := none }) (v := ?_) rfl (by kernel_rfl) (by kernel_rfl) (by kernel_rfl) (fun _ _ _ h => h) (Or.inl ⟨by rfl, ?_⟩) hHeld ?_
  rotate_left
  · (intro w hSw; (try dsimp only at hSw); go_simp; first | done | with_reducible rfl)
  simp only [Act.put, List.setIfInBounds_toArray, List.set_cons_zero, List.set_cons_succ]
  refine wpAnyH_take (i := 2) (oi := { dst := some 46, op := Op.move (Operand.tmp 1), type := 22, pos := "still.go:132", after := #[], guard := none }) (v := ?_) rfl (by kernel_rfl) (by kernel_rfl) (by kernel_rfl) (fun _ _ _ h => h) (Or.inl ⟨by rfl, ?_⟩) hHeld ?_
  rotate_left
  · (intro w hSw; (try dsimp only at hSw); go_simp; first | done | with_reducible rfl)
  simp only [Act.put, List.setIfInBounds_toArray, List.set_cons_zero, List.set_cons_succ]
  refine wpAnyH_take (i := 4) (oi := { dst := some 48, op := Op.load 42 (Operand.tmp 7), type := 42, pos := "still.go:132", after := #[], guard := none }) (v := ?_) rfl (by kernel_rfl) (by kernel_rfl) (by kernel_rfl) (fun _ _ _ h => h) (Or.inl ⟨by rfl, ?_⟩) hHeld ?_
  rotate_left
  · (intro w hSw; (try dsimp only at hSw); go_simp; first | done | with_reducible rfl)
  simp only [Act.put, List.setIfInBounds_toArray, List.set_cons_zero, List.set_cons_succ]
  refine wpAnyH_take (i := 7) (oi := { dst := some 51, op := Op.move (Operand.tmp 3), type := 3, pos := "still.go:132", after := #[], guard := none }) (v := ?_) rfl (by kernel_rfl) (by kernel_rfl) (by kernel_rfl) (fun _ _ _ h => h) (Or.inl ⟨by rfl, ?_⟩) hHeld ?_
  rotate_left
  · (intro w hSw; (try dsimp only at hSw); go_simp; first | done | with_reducible rfl)
  simp only [Act.put, List.setIfInBounds_toArray, List.set_cons_zero, List.set_cons_succ]
  refine wpAnyH_ready (rs := [1, 5]) (by kernel_rfl) (by simp) ?_
  refine (AllReadyH.cons (o := { dst := some 45, op := Op.buildSlice 22 0 #[], type := 22, pos := "still.go:132", after := #[], guard := none }) rfl (fun K hK => ?_) (AllReadyH.cons (o := { dst := some 49, op := Op.buildSlice 22 1 #[(0, Operand.tmp 48)], type := 22, pos := "still.go:132", after := #[{ on := 4, ground := Ground.data }], guard := none }) rfl (fun K hK => ?_) AllReadyH.nil))
  · go_simp
    have BN : Below ws.heap.size ws (ws.alloc (.cells #[] 42)) := BB.alloc BB.size _
    have OO : OwnK (ws.alloc (.cells #[] 42)) ws.heap.size (.slice (some ⟨ws.heap.size, 0, none⟩) 0 0) [] := World.ownsRow_made ws #[] 0 BB.size (Nat.zero_le _) (by simp)
    have KK1 := HSS.out _ BN
    clear BB
    refine hK.out _ _ KK1 (fun hHeld => ?_)
    clear hK K
    generalize ws.alloc (.cells #[] 42) = wq1 at BN OO hHeld ⊢
    have BB := BN
    refine wpAnyH_ready (rs := [3, 5]) (by kernel_rfl) (by simp) ?_
    refine (AllReadyH.cons (o := { dst := some 47, op := Op.call { callee := Callee.builtin Builtin.append, args := #[Operand.tmp 45, Operand.tmp 46], argTypes := #[22, 22] }, type := 22, pos := "still.go:132", after := #[{ on := 1, ground := Ground.data }, { on := 2, ground := Ground.data }], guard := none }) rfl (fun K hK => ?_) (AllReadyH.cons (o := { dst := some 49, op := Op.buildSlice 22 1 #[(0, Operand.tmp 48)], type := 22, pos := "still.go:132", after := #[{ on := 4, ground := Ground.data }], guard := none }) rfl (fun K hK => ?_) AllReadyH.nil))
    · rw [if_pos (by rfl)]
      refine wp_copyK _ _ rfl ws.heap.size _ _ l rfl rfl OO (HLd.out.below BB) hn BB.size ?_
      intro v3 wq13 hO3 hg3
      have BN := BB.grown hg3 BB.size (OwnK.past OO)
      have ON := hO3
      clear OO hO3 hg3
      have KK3 := HSS.out _ BN
      clear BB
      simp only [Act.put, List.setIfInBounds_toArray, List.set_cons_zero, List.set_cons_succ]
      refine hK.out _ _ KK3 (fun hHeld => ?_)
      clear hK K
      have BB := BN
      have OO := ON
      refine wpAnyH_ready (rs := [5]) (by kernel_rfl) (by simp) ?_
      refine (AllReadyH.cons (o := { dst := some 49, op := Op.buildSlice 22 1 #[(0, Operand.tmp 48)], type := 22, pos := "still.go:132", after := #[{ on := 4, ground := Ground.data }], guard := none }) rfl (fun K hK => ?_) AllReadyH.nil)
      go_simp
      have BN : Below ws.heap.size ws (wq13.alloc (.cells #[.int .i64 x0, .int .i64 x1, .int .i64 x2] 42)) := BB.alloc BB.size _
      have XN : Box3 (wq13.alloc (.cells #[.int .i64 x0, .int .i64 x1, .int .i64 x2] 42)) wq13.heap.size (.int .i64 x0) (.int .i64 x1) (.int .i64 x2) := Box3.new wq13 _ _ _ _
      have ON := OO.keep ((Below.refl wq13.heap.size wq13).alloc (Nat.le_refl _) (.cells #[.int .i64 x0, .int .i64 x1, .int .i64 x2] 42))
      clear OO
      have KK5 := HSS.out _ BN
      clear BB
      refine hK.out _ _ KK5 (fun hHeld => ?_)
      clear hK K
      generalize wq13.alloc (.cells #[.int .i64 x0, .int .i64 x1, .int .i64 x2] 42) = wq135 at BN XN hHeld ON ⊢
      have BB := BN
      have X3 := XN
      have OO := ON
      refine wpAnyH_ready (rs := [6]) (by kernel_rfl) (by simp) ?_
      refine (AllReadyH.cons (o := { dst := some 50, op := Op.call { callee := Callee.builtin Builtin.append, args := #[Operand.tmp 47, Operand.tmp 49], argTypes := #[22, 22] }, type := 22, pos := "still.go:132", after := #[{ on := 3, ground := Ground.data }, { on := 5, ground := Ground.data }, { on := 3, ground := Ground.chain }], guard := none }) rfl (fun K hK => ?_) AllReadyH.nil)
      rw [if_pos (by rfl)]
      refine wp_append_oneK _ _ rfl ws.heap.size _ l (x0, x1, x2) _ 1 rfl rfl OO X3 hn1 BB.size ?_
      intro v6 wq1356 hO6 hg6 _
      have BN := BB.grown hg6 BB.size (OwnK.past OO)
      have ON := hO6.arg
      clear OO X3 hO6 hg6
      have KK6 := HSS.out _ BN
      clear BB
      simp only [Act.put, List.setIfInBounds_toArray, List.set_cons_zero, List.set_cons_succ]
      refine hK.out _ _ KK6 (fun hHeld => ?_)
      clear hK K
      have BB := BN
      refine wpAnyH_ready (rs := [8]) (by kernel_rfl) (by simp) ?_
      refine (AllReadyH.cons (o := { dst := some 52, op := Op.call { callee := Callee.value (Operand.func 9), args := #[Operand.tmp 44, Operand.tmp 50, Operand.tmp 51], argTypes := #[3, 22, 3] }, type := 27, pos := "still.go:132", after := #[{ on := 0, ground := Ground.data }, { on := 6, ground := Ground.data }, { on := 7, ground := Ground.data }, { on := 6, ground := Ground.chain }], guard := none }) rfl (fun K hK => ?_) AllReadyH.nil)
      go_simp
      go_at_call 9
      refine (far_ok _ m t _ (l ++ [((x0 : Int), (x1 : Int), (x2 : Int))]) (by simp; omega) ON hg2 ht).mono ?_
      rintro e w8 ⟨f2, _, rfl, hV8, hb8⟩
      have BN := Below.two BB hb8
      have KK8 := HSS.out _ BN
      clear BB
      refine hK.out _ _ KK8 (fun hHeld => ?_)
      clear hK K
      have BB := BN
      refine wpAnyH_take (i := 9) (oi := { dst := some 43, op := Op.move (Operand.tmp 52), type := 27, pos := "still.go:132", after := #[{ on := 8, ground := Ground.data }], guard := none }) (v := ?_) rfl (by kernel_rfl) (by kernel_rfl) (by kernel_rfl) (fun _ _ _ h => h) (Or.inl ⟨by rfl, ?_⟩) hHeld ?_
      rotate_left
      · (intro w hSw; (try dsimp only at hSw); go_simp; first | done | with_reducible rfl)
      simp only [Act.put, List.setIfInBounds_toArray, List.set_cons_zero, List.set_cons_succ]
      refine wpAnyH_take (i := 10) (oi := { dst := some 53, op := Op.extract (Operand.tmp 43) 0, type := 24, pos := "still.go:132", after := #[{ on := 9, ground := Ground.data }], guard := none }) (v := ?_) rfl (by kernel_rfl) (by kernel_rfl) (by kernel_rfl) (fun _ _ _ h => h) (Or.inl ⟨by rfl, ?_⟩) hHeld ?_
      rotate_left
      · (intro w hSw; (try dsimp only at hSw); go_simp; first | done | with_reducible rfl)
      simp only [Act.put, List.setIfInBounds_toArray, List.set_cons_zero, List.set_cons_succ]
      refine wpAnyH_take (i := 11) (oi := { dst := some 54, op := Op.extract (Operand.tmp 43) 1, type := 26, pos := "still.go:132", after := #[{ on := 9, ground := Ground.data }, { on := 12, ground := Ground.gcOnly Departure.lateStores }], guard := none }) (v := ?_) rfl (by kernel_rfl) (by kernel_rfl) (by kernel_rfl) (fun _ _ _ h => h) (Or.inl ⟨by rfl, ?_⟩) hHeld ?_
      rotate_left
      · (intro w hSw; (try dsimp only at hSw); go_simp; first | done | with_reducible rfl)
      simp only [Act.put, List.setIfInBounds_toArray, List.set_cons_zero, List.set_cons_succ]
      refine wpAnyH_take (i := 12) (oi := { dst := some 15, op := Op.assign (Operand.tmp 53), type := 24, pos := "still.go:132", after := #[{ on := 10, ground := Ground.data }, { on := 8, ground := Ground.chain }, { on := 0, ground := Ground.phase }, { on := 1, ground := Ground.phase }, { on := 2, ground := Ground.phase }, { on := 3, ground := Ground.phase }, { on := 4, ground := Ground.phase }, { on := 5, ground := Ground.phase }, { on := 6, ground := Ground.phase }, { on := 7, ground := Ground.phase }, { on := 8, ground := Ground.phase }, { on := 9, ground := Ground.phase }, { on := 10, ground := Ground.phase }, { on := 11, ground := Ground.textOnly Departure.lateStores }], guard := none }) (v := ?_) rfl (by kernel_rfl) (by kernel_rfl) (by kernel_rfl) (fun _ _ _ h => h) (Or.inl ⟨by rfl, ?_⟩) hHeld ?_
      rotate_left
      · (intro w hSw; (try dsimp only at hSw); go_simp; first | done | with_reducible rfl)
      simp only [Act.put, List.setIfInBounds_toArray, List.set_cons_zero, List.set_cons_succ]
      refine wpAnyH_take (i := 13) (oi := { dst := some 16, op := Op.assign (Operand.tmp 54), type := 26, pos := "still.go:132", after := #[{ on := 11, ground := Ground.data }, { on := 12, ground := Ground.chain }, { on := 0, ground := Ground.phase }, { on := 1, ground := Ground.phase }, { on := 2, ground := Ground.phase }, { on := 3, ground := Ground.phase }, { on := 4, ground := Ground.phase }, { on := 5, ground := Ground.phase }, { on := 6, ground := Ground.phase }, { on := 7, ground := Ground.phase }, { on := 8, ground := Ground.phase }, { on := 9, ground := Ground.phase }, { on := 10, ground := Ground.phase }, { on := 11, ground := Ground.phase }, { on := 12, ground := Ground.phase }], guard := none }) (v := ?_) rfl (by kernel_rfl) (by kernel_rfl) (by kernel_rfl) (fun _ _ _ h => h) (Or.inl ⟨by rfl, ?_⟩) hHeld ?_
      rotate_left
      · (intro w hSw; (try dsimp only at hSw); go_simp; first | done | with_reducible rfl)
      simp only [Act.put, List.setIfInBounds_toArray, List.set_cons_zero, List.set_cons_succ]
      refine wpAnyH_done (by kernel_rfl) ?_ _
      clear hHeld
      have HB8 := Lib.hid BB
      have HY := Lib.hid hV8
      have HXX := Lib.hid (HXd.out.keep BB)
      clear hV8 BB
      go_wp2_with fail
      have c0 := (HSS.out _ HB8.out).1
      have c1 := (HSS.out _ HB8.out).2.1
      have c2 := (HSS.out _ HB8.out).2.2
      have xb := HXX.out.c b hb
      have yb := HY.out.c b hb
      have y0 := HY.out.c x0 hx0
      have y1 := HY.out.c x1 hx1
      have hle := HLE.out
      have hs1 := HS1.out
      have hs2 := HS2.out
      have d0 := HD.out x0
      have d1 := HD.out x1
      generalize BellP.far m (BellP.ct (l ++ [((x0 : Int), (x1 : Int), (x2 : Int))])) t x0 = p at y0 hs1 hs2 d0
      generalize BellP.far m (BellP.ct (l ++ [((x0 : Int), (x1 : Int), (x2 : Int))])) t x1 = q at y1 hs1 hs2 d1
      generalize BellP.far m (BellP.ct (l ++ [((x0 : Int), (x1 : Int), (x2 : Int))])) t b = r at yb hle
      generalize BellP.far m (BellP.ct l) t b = s at xb hle
      have t1 : (r : Int) ≤ (s : Int) := by omega
      have t2 : (p : Int) ≤ (q : Int) + (x2 : Int) := by omega
      have t3 : (q : Int) ≤ (p : Int) + (x2 : Int) := by omega
      clear hle hs1 hs2
      go_quiet (fail)
      go_wp2_with fail
      go_ret
      exact ⟨rfl, Below.drewN (HZd.out.trans (HB8.out.mono HZd.out.size)) _⟩
    · go_simp
      have BN : Below ws.heap.size ws (wq1.alloc (.cells #[.int .i64 x0, .int .i64 x1, .int .i64 x2] 42)) := BB.alloc BB.size _
      have XN : Box3 (wq1.alloc (.cells #[.int .i64 x0, .int .i64 x1, .int .i64 x2] 42)) wq1.heap.size (.int .i64 x0) (.int .i64 x1) (.int .i64 x2) := Box3.new wq1 _ _ _ _
      have hne : some ws.heap.size ≠ some wq1.heap.size := fun e => by
        have h1 : ws.heap.size < wq1.heap.size := (World.ownsRow.lt OO _ rfl).2
        have := Option.some.inj e
        omega
      have ON := OO.keep ((Below.refl wq1.heap.size wq1).alloc (Nat.le_refl _) (.cells #[.int .i64 x0, .int .i64 x1, .int .i64 x2] 42))
      clear OO
      have KK5 := HSS.out _ BN
      clear BB
      refine hK.out _ _ KK5 (fun hHeld => ?_)
      clear hK K
      generalize wq1.alloc (.cells #[.int .i64 x0, .int .i64 x1, .int .i64 x2] 42) = wq15 at BN XN hHeld ON ⊢
      have BB := BN
      have X3 := XN
      have OO := ON
      refine wpAnyH_ready (rs := [3]) (by kernel_rfl) (by simp) ?_
      refine (AllReadyH.cons (o := { dst := some 47, op := Op.call { callee := Callee.builtin Builtin.append, args := #[Operand.tmp 45, Operand.tmp 46], argTypes := #[22, 22] }, type := 22, pos := "still.go:132", after := #[{ on := 1, ground := Ground.data }, { on := 2, ground := Ground.data }], guard := none }) rfl (fun K hK => ?_) AllReadyH.nil)
      rw [if_pos (by rfl)]
      refine wp_copyK _ _ rfl ws.heap.size _ _ l rfl rfl OO (HLd.out.below BB) hn BB.size ?_
      intro v3 wq153 hO3 hg3
      have BN := BB.grown hg3 BB.size (OwnK.past OO)
      have XN := X3.grown hg3 hne
      clear X3
      have ON := hO3
      clear OO hO3 hg3
      have KK3 := HSS.out _ BN
      clear BB
      simp only [Act.put, List.setIfInBounds_toArray, List.set_cons_zero, List.set_cons_succ]
      refine hK.out _ _ KK3 (fun hHeld => ?_)
      clear hK K
      have BB := BN
      have OO := ON
      have X3 := XN
      refine wpAnyH_ready (rs := [6]) (by kernel_rfl) (by simp) ?_
      refine (AllReadyH.cons (o := { dst := some 50, op := Op.call { callee := Callee.builtin Builtin.append, args := #[Operand.tmp 47, Operand.tmp 49], argTypes := #[22, 22] }, type := 22, pos := "still.go:132", after := #[{ on := 3, ground := Ground.data }, { on := 5, ground := Ground.data }, { on := 3, ground := Ground.chain }], guard := none }) rfl (fun K hK => ?_) AllReadyH.nil)
      rw [if_pos (by rfl)]
      refine wp_append_oneK _ _ rfl ws.heap.size _ l (x0, x1, x2) _ 1 rfl rfl OO X3 hn1 BB.size ?_
      intro v6 wq1536 hO6 hg6 _
      have BN := BB.grown hg6 BB.size (OwnK.past OO)
      have ON := hO6.arg
      clear OO X3 hO6 hg6
      have KK6 := HSS.out _ BN
      clear BB
      simp only [Act.put, List.setIfInBounds_toArray, List.set_cons_zero, List.set_cons_succ]
      refine hK.out _ _ KK6 (fun hHeld => ?_)
      clear hK K
      have BB := BN
      refine wpAnyH_ready (rs := [8]) (by kernel_rfl) (by simp) ?_
      refine (AllReadyH.cons (o := { dst := some 52, op := Op.call { callee := Callee.value (Operand.func 9), args := #[Operand.tmp 44, Operand.tmp 50, Operand.tmp 51], argTypes := #[3, 22, 3] }, type := 27, pos := "still.go:132", after := #[{ on := 0, ground := Ground.data }, { on := 6, ground := Ground.data }, { on := 7, ground := Ground.data }, { on := 6, ground := Ground.chain }], guard := none }) rfl (fun K hK => ?_) AllReadyH.nil)
      go_simp
      go_at_call 9
      refine (far_ok _ m t _ (l ++ [((x0 : Int), (x1 : Int), (x2 : Int))]) (by simp; omega) ON hg2 ht).mono ?_
      rintro e w8 ⟨f2, _, rfl, hV8, hb8⟩
      have BN := Below.two BB hb8
      have KK8 := HSS.out _ BN
      clear BB
      refine hK.out _ _ KK8 (fun hHeld => ?_)
      clear hK K
      have BB := BN
      refine wpAnyH_take (i := 9) (oi := { dst := some 43, op := Op.move (Operand.tmp 52), type := 27, pos := "still.go:132", after := #[{ on := 8, ground := Ground.data }], guard := none }) (v := ?_) rfl (by kernel_rfl) (by kernel_rfl) (by kernel_rfl) (fun _ _ _ h => h) (Or.inl ⟨by rfl, ?_⟩) hHeld ?_
      rotate_left
      · (intro w hSw; (try dsimp only at hSw); go_simp; first | done | with_reducible rfl)
      simp only [Act.put, List.setIfInBounds_toArray, List.set_cons_zero, List.set_cons_succ]
      refine wpAnyH_take (i := 10) (oi := { dst := some 53, op := Op.extract (Operand.tmp 43) 0, type := 24, pos := "still.go:132", after := #[{ on := 9, ground := Ground.data }], guard := none }) (v := ?_) rfl (by kernel_rfl) (by kernel_rfl) (by kernel_rfl) (fun _ _ _ h => h) (Or.inl ⟨by rfl, ?_⟩) hHeld ?_
      rotate_left
      · (intro w hSw; (try dsimp only at hSw); go_simp; first | done | with_reducible rfl)
      simp only [Act.put, List.setIfInBounds_toArray, List.set_cons_zero, List.set_cons_succ]
      refine wpAnyH_take (i := 11) (oi := { dst := some 54, op := Op.extract (Operand.tmp 43) 1, type := 26, pos := "still.go:132", after := #[{ on := 9, ground := Ground.data }, { on := 12, ground := Ground.gcOnly Departure.lateStores }], guard := none }) (v := ?_) rfl (by kernel_rfl) (by kernel_rfl) (by kernel_rfl) (fun _ _ _ h => h) (Or.inl ⟨by rfl, ?_⟩) hHeld ?_
      rotate_left
      · (intro w hSw; (try dsimp only at hSw); go_simp; first | done | with_reducible rfl)
      simp only [Act.put, List.setIfInBounds_toArray, List.set_cons_zero, List.set_cons_succ]
      refine wpAnyH_take (i := 12) (oi := { dst := some 15, op := Op.assign (Operand.tmp 53), type := 24, pos := "still.go:132", after := #[{ on := 10, ground := Ground.data }, { on := 8, ground := Ground.chain }, { on := 0, ground := Ground.phase }, { on := 1, ground := Ground.phase }, { on := 2, ground := Ground.phase }, { on := 3, ground := Ground.phase }, { on := 4, ground := Ground.phase }, { on := 5, ground := Ground.phase }, { on := 6, ground := Ground.phase }, { on := 7, ground := Ground.phase }, { on := 8, ground := Ground.phase }, { on := 9, ground := Ground.phase }, { on := 10, ground := Ground.phase }, { on := 11, ground := Ground.textOnly Departure.lateStores }], guard := none }) (v := ?_) rfl (by kernel_rfl) (by kernel_rfl) (by kernel_rfl) (fun _ _ _ h => h) (Or.inl ⟨by rfl, ?_⟩) hHeld ?_
      rotate_left
      · (intro w hSw; (try dsimp only at hSw); go_simp; first | done | with_reducible rfl)
      simp only [Act.put, List.setIfInBounds_toArray, List.set_cons_zero, List.set_cons_succ]
      refine wpAnyH_take (i := 13) (oi := { dst := some 16, op := Op.assign (Operand.tmp 54), type := 26, pos := "still.go:132", after := #[{ on := 11, ground := Ground.data }, { on := 12, ground := Ground.chain }, { on := 0, ground := Ground.phase }, { on := 1, ground := Ground.phase }, { on := 2, ground := Ground.phase }, { on := 3, ground := Ground.phase }, { on := 4, ground := Ground.phase }, { on := 5, ground := Ground.phase }, { on := 6, ground := Ground.phase }, { on := 7, ground := Ground.phase }, { on := 8, ground := Ground.phase }, { on := 9, ground := Ground.phase }, { on := 10, ground := Ground.phase }, { on := 11, ground := Ground.phase }, { on := 12, ground := Ground.phase }], guard := none }) (v := ?_) rfl (by kernel_rfl) (by kernel_rfl) (by kernel_rfl) (fun _ _ _ h => h) (Or.inl ⟨by rfl, ?_⟩) hHeld ?_
      rotate_left
      · (intro w hSw; (try dsimp only at hSw); go_simp; first | done | with_reducible rfl)
      simp only [Act.put, List.setIfInBounds_toArray, List.set_cons_zero, List.set_cons_succ]
      refine wpAnyH_done (by kernel_rfl) ?_ _
      clear hHeld
      have HB8 := Lib.hid BB
      have HY := Lib.hid hV8
      have HXX := Lib.hid (HXd.out.keep BB)
      clear hV8 BB
      go_wp2_with fail
      have c0 := (HSS.out _ HB8.out).1
      have c1 := (HSS.out _ HB8.out).2.1
      have c2 := (HSS.out _ HB8.out).2.2
      have xb := HXX.out.c b hb
      have yb := HY.out.c b hb
      have y0 := HY.out.c x0 hx0
      have y1 := HY.out.c x1 hx1
      have hle := HLE.out
      have hs1 := HS1.out
      have hs2 := HS2.out
      have d0 := HD.out x0
      have d1 := HD.out x1
      generalize BellP.far m (BellP.ct (l ++ [((x0 : Int), (x1 : Int), (x2 : Int))])) t x0 = p at y0 hs1 hs2 d0
      generalize BellP.far m (BellP.ct (l ++ [((x0 : Int), (x1 : Int), (x2 : Int))])) t x1 = q at y1 hs1 hs2 d1
      generalize BellP.far m (BellP.ct (l ++ [((x0 : Int), (x1 : Int), (x2 : Int))])) t b = r at yb hle
      generalize BellP.far m (BellP.ct l) t b = s at xb hle
      have t1 : (r : Int) ≤ (s : Int) := by omega
      have t2 : (p : Int) ≤ (q : Int) + (x2 : Int) := by omega
      have t3 : (q : Int) ≤ (p : Int) + (x2 : Int) := by omega
      clear hle hs1 hs2
      go_quiet (fail)
      go_wp2_with fail
      go_ret
      exact ⟨rfl, Below.drewN (HZd.out.trans (HB8.out.mono HZd.out.size)) _⟩
  · go_simp
    have BN : Below ws.heap.size ws (ws.alloc (.cells #[.int .i64 x0, .int .i64 x1, .int .i64 x2] 42)) := BB.alloc BB.size _
    have XN : Box3 (ws.alloc (.cells #[.int .i64 x0, .int .i64 x1, .int .i64 x2] 42)) ws.heap.size (.int .i64 x0) (.int .i64 x1) (.int .i64 x2) := Box3.new ws _ _ _ _
    have KK5 := HSS.out _ BN
    clear BB
    refine hK.out _ _ KK5 (fun hHeld => ?_)
    clear hK K
    generalize ws.alloc (.cells #[.int .i64 x0, .int .i64 x1, .int .i64 x2] 42) = wq5 at BN XN hHeld ⊢
    have BB := BN
    have X3 := XN
    refine wpAnyH_ready (rs := [1]) (by kernel_rfl) (by simp) ?_
    refine (AllReadyH.cons (o := { dst := some 45, op := Op.buildSlice 22 0 #[], type := 22, pos := "still.go:132", after := #[], guard := none }) rfl (fun K hK => ?_) AllReadyH.nil)
    go_simp
    have BN : Below ws.heap.size ws (wq5.alloc (.cells #[] 42)) := BB.alloc BB.size _
    have OO : OwnK (wq5.alloc (.cells #[] 42)) ws.heap.size (.slice (some ⟨wq5.heap.size, 0, none⟩) 0 0) [] := World.ownsRow_made wq5 #[] 0 BB.size (Nat.zero_le _) (by simp)
    have XN := X3.kept ((Below.refl wq5.heap.size wq5).alloc (Nat.le_refl _) (.cells #[] 42))
    have hne : some wq5.heap.size ≠ some ws.heap.size := fun e => by
      have := X3.lt
      have := Option.some.inj e
      omega
    clear X3
    have KK1 := HSS.out _ BN
    clear BB
    refine hK.out _ _ KK1 (fun hHeld => ?_)
    clear hK K
    generalize wq5.alloc (.cells #[] 42) = wq51 at BN OO hHeld XN ⊢
    have BB := BN
    have X3 := XN
    refine wpAnyH_ready (rs := [3]) (by kernel_rfl) (by simp) ?_
    refine (AllReadyH.cons (o := { dst := some 47, op := Op.call { callee := Callee.builtin Builtin.append, args := #[Operand.tmp 45, Operand.tmp 46], argTypes := #[22, 22] }, type := 22, pos := "still.go:132", after := #[{ on := 1, ground := Ground.data }, { on := 2, ground := Ground.data }], guard := none }) rfl (fun K hK => ?_) AllReadyH.nil)
    rw [if_pos (by rfl)]
    refine wp_copyK _ _ rfl ws.heap.size _ _ l rfl rfl OO (HLd.out.below BB) hn BB.size ?_
    intro v3 wq513 hO3 hg3
    have BN := BB.grown hg3 BB.size (OwnK.past OO)
    have XN := X3.grown hg3 hne
    clear X3
    have ON := hO3
    clear OO hO3 hg3
    have KK3 := HSS.out _ BN
    clear BB
    simp only [Act.put, List.setIfInBounds_toArray, List.set_cons_zero, List.set_cons_succ]
    refine hK.out _ _ KK3 (fun hHeld => ?_)
    clear hK K
    have BB := BN
    have OO := ON
    have X3 := XN
    refine wpAnyH_ready (rs := [6]) (by kernel_rfl) (by simp) ?_
    refine (AllReadyH.cons (o := { dst := some 50, op := Op.call { callee := Callee.builtin Builtin.append, args := #[Operand.tmp 47, Operand.tmp 49], argTypes := #[22, 22] }, type := 22, pos := "still.go:132", after := #[{ on := 3, ground := Ground.data }, { on := 5, ground := Ground.data }, { on := 3, ground := Ground.chain }], guard := none }) rfl (fun K hK => ?_) AllReadyH.nil)
    rw [if_pos (by rfl)]
    refine wp_append_oneK _ _ rfl ws.heap.size _ l (x0, x1, x2) _ 1 rfl rfl OO X3 hn1 BB.size ?_
    intro v6 wq5136 hO6 hg6 _
    have BN := BB.grown hg6 BB.size (OwnK.past OO)
    have ON := hO6.arg
    clear OO X3 hO6 hg6
    have KK6 := HSS.out _ BN
    clear BB
    simp only [Act.put, List.setIfInBounds_toArray, List.set_cons_zero, List.set_cons_succ]
    refine hK.out _ _ KK6 (fun hHeld => ?_)
    clear hK K
    have BB := BN
    refine wpAnyH_ready (rs := [8]) (by kernel_rfl) (by simp) ?_
    refine (AllReadyH.cons (o := { dst := some 52, op := Op.call { callee := Callee.value (Operand.func 9), args := #[Operand.tmp 44, Operand.tmp 50, Operand.tmp 51], argTypes := #[3, 22, 3] }, type := 27, pos := "still.go:132", after := #[{ on := 0, ground := Ground.data }, { on := 6, ground := Ground.data }, { on := 7, ground := Ground.data }, { on := 6, ground := Ground.chain }], guard := none }) rfl (fun K hK => ?_) AllReadyH.nil)
    go_simp
    go_at_call 9
    refine (far_ok _ m t _ (l ++ [((x0 : Int), (x1 : Int), (x2 : Int))]) (by simp; omega) ON hg2 ht).mono ?_
    rintro e w8 ⟨f2, _, rfl, hV8, hb8⟩
    have BN := Below.two BB hb8
    have KK8 := HSS.out _ BN
    clear BB
    refine hK.out _ _ KK8 (fun hHeld => ?_)
    clear hK K
    have BB := BN
    refine wpAnyH_take (i := 9) (oi := { dst := some 43, op := Op.move (Operand.tmp 52), type := 27, pos := "still.go:132", after := #[{ on := 8, ground := Ground.data }], guard := none }) (v := ?_) rfl (by kernel_rfl) (by kernel_rfl) (by kernel_rfl) (fun _ _ _ h => h) (Or.inl ⟨by rfl, ?_⟩) hHeld ?_
    rotate_left
    · (intro w hSw; (try dsimp only at hSw); go_simp; first | done | with_reducible rfl)
    simp only [Act.put, List.setIfInBounds_toArray, List.set_cons_zero, List.set_cons_succ]
    refine wpAnyH_take (i := 10) (oi := { dst := some 53, op := Op.extract (Operand.tmp 43) 0, type := 24, pos := "still.go:132", after := #[{ on := 9, ground := Ground.data }], guard := none }) (v := ?_) rfl (by kernel_rfl) (by kernel_rfl) (by kernel_rfl) (fun _ _ _ h => h) (Or.inl ⟨by rfl, ?_⟩) hHeld ?_
    rotate_left
    · (intro w hSw; (try dsimp only at hSw); go_simp; first | done | with_reducible rfl)
    simp only [Act.put, List.setIfInBounds_toArray, List.set_cons_zero, List.set_cons_succ]
    refine wpAnyH_take (i := 11) (oi := { dst := some 54, op := Op.extract (Operand.tmp 43) 1, type := 26, pos := "still.go:132", after := #[{ on := 9, ground := Ground.data }, { on := 12, ground := Ground.gcOnly Departure.lateStores }], guard := none }) (v := ?_) rfl (by kernel_rfl) (by kernel_rfl) (by kernel_rfl) (fun _ _ _ h => h) (Or.inl ⟨by rfl, ?_⟩) hHeld ?_
    rotate_left
    · (intro w hSw; (try dsimp only at hSw); go_simp; first | done | with_reducible rfl)
    simp only [Act.put, List.setIfInBounds_toArray, List.set_cons_zero, List.set_cons_succ]
    refine wpAnyH_take (i := 12) (oi := { dst := some 15, op := Op.assign (Operand.tmp 53), type := 24, pos := "still.go:132", after := #[{ on := 10, ground := Ground.data }, { on := 8, ground := Ground.chain }, { on := 0, ground := Ground.phase }, { on := 1, ground := Ground.phase }, { on := 2, ground := Ground.phase }, { on := 3, ground := Ground.phase }, { on := 4, ground := Ground.phase }, { on := 5, ground := Ground.phase }, { on := 6, ground := Ground.phase }, { on := 7, ground := Ground.phase }, { on := 8, ground := Ground.phase }, { on := 9, ground := Ground.phase }, { on := 10, ground := Ground.phase }, { on := 11, ground := Ground.textOnly Departure.lateStores }], guard := none }) (v := ?_) rfl (by kernel_rfl) (by kernel_rfl) (by kernel_rfl) (fun _ _ _ h => h) (Or.inl ⟨by rfl, ?_⟩) hHeld ?_
    rotate_left
    · (intro w hSw; (try dsimp only at hSw); go_simp; first | done | with_reducible rfl)
    simp only [Act.put, List.setIfInBounds_toArray, List.set_cons_zero, List.set_cons_succ]
    refine wpAnyH_take (i := 13) (oi := { dst := some 16, op := Op.assign (Operand.tmp 54), type := 26, pos := "still.go:132", after := #[{ on := 11, ground := Ground.data }, { on := 12, ground := Ground.chain }, { on := 0, ground := Ground.phase }, { on := 1, ground := Ground.phase }, { on := 2, ground := Ground.phase }, { on := 3, ground := Ground.phase }, { on := 4, ground := Ground.phase }, { on := 5, ground := Ground.phase }, { on := 6, ground := Ground.phase }, { on := 7, ground := Ground.phase }, { on := 8, ground := Ground.phase }, { on := 9, ground := Ground.phase }, { on := 10, ground := Ground.phase }, { on := 11, ground := Ground.phase }, { on := 12, ground := Ground.phase }], guard := none }) (v := ?_) rfl (by kernel_rfl) (by kernel_rfl) (by kernel_rfl) (fun _ _ _ h => h) (Or.inl ⟨by rfl, ?_⟩) hHeld ?_
    rotate_left
    · (intro w hSw; (try dsimp only at hSw); go_simp; first | done | with_reducible rfl)
    simp only [Act.put, List.setIfInBounds_toArray, List.set_cons_zero, List.set_cons_succ]
    refine wpAnyH_done (by kernel_rfl) ?_ _
    clear hHeld
    have HB8 := Lib.hid BB
    have HY := Lib.hid hV8
    have HXX := Lib.hid (HXd.out.keep BB)
    clear hV8 BB
    go_wp2_with fail
    have c0 := (HSS.out _ HB8.out).1
    have c1 := (HSS.out _ HB8.out).2.1
    have c2 := (HSS.out _ HB8.out).2.2
    have xb := HXX.out.c b hb
    have yb := HY.out.c b hb
    have y0 := HY.out.c x0 hx0
    have y1 := HY.out.c x1 hx1
    have hle := HLE.out
    have hs1 := HS1.out
    have hs2 := HS2.out
    have d0 := HD.out x0
    have d1 := HD.out x1
    generalize BellP.far m (BellP.ct (l ++ [((x0 : Int), (x1 : Int), (x2 : Int))])) t x0 = p at y0 hs1 hs2 d0
    generalize BellP.far m (BellP.ct (l ++ [((x0 : Int), (x1 : Int), (x2 : Int))])) t x1 = q at y1 hs1 hs2 d1
    generalize BellP.far m (BellP.ct (l ++ [((x0 : Int), (x1 : Int), (x2 : Int))])) t b = r at yb hle
    generalize BellP.far m (BellP.ct l) t b = s at xb hle
    have t1 : (r : Int) ≤ (s : Int) := by omega
    have t2 : (p : Int) ≤ (q : Int) + (x2 : Int) := by omega
    have t3 : (q : Int) ≤ (p : Int) + (x2 : Int) := by omega
    clear hle hs1 hs2
    go_quiet (fail)
    go_wp2_with fail
    go_ret
    exact ⟨rfl, Below.drewN (HZd.out.trans (HB8.out.mono HZd.out.size)) _⟩
theorem spfMore_walk (w : World) (n a b : Int) (v : Value) (l : List Lk) (x0 x1 x2 : Int) (hn : l.length * 24 ≤ 140737488355328) (hn1 : (l.length + 1) * 24 ≤ 140737488355328) (h : ArgK w v l) :
    Calls Try.prog 6 #[.int .i64 n, v, .agg #[.int .i64 x0, .int .i64 x1, .int .i64 x2], .int .i64 a, .int .i64 b] w fun e w' => e = .returned (.bool true) ∧ Below w.heap.size w w' := by
  by_cases h1 : spfBad n l a = 0
  · obtain ⟨m, t, rfl, rfl, _, _, ht, hg, _⟩ := spf_nat h1
    by_cases h2 : spfBad m (l ++ [(x0, x1, x2)]) t = 0
    · have hg2 := (spfBad_zero.1 h2).1
      by_cases h3 : b < 0
      · exact more_3 w m t b v l x0 x1 x2 hn hn1 h hg ht hg2 h3
      · by_cases h4 : (m : Int) ≤ b
        · exact more_4 w m t b v l x0 x1 x2 hn hn1 h hg ht hg2 h3 h4
        · obtain ⟨z, rfl⟩ : ∃ z : Nat, b = z := ⟨b.toNat, by omega⟩
          obtain ⟨p, q, r, e, hp, hq, hr, s1, s2⟩ := SpfP.more_step ((gBad_zero m _).1 hg2).2 ht
          injection e with e0 e
          injection e with e1 e2
          subst e0 e1 e2
          exact more_5 w m t z v l p q r hn hn1 h hg ht hg2 (by omega) hp hq hr s1 s2
    · exact more_2 w m t b v l x0 x1 x2 hn hn1 h hg ht h2
  · exact more_1 w n a b v l x0 x1 x2 hn hn1 h h1
end Go.Proofs.Ytjgmehmhhplkaaa
