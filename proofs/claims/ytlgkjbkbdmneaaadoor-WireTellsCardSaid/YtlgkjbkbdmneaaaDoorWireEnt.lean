/-
  wire.readEntry at every twenty bytes; what lay in memory stays.
-/
import Derived.Test.YtlgkjbkbdmneaaaDoorWireNum
import Derived.Test.YtlgkjbkbdmneaaaDoorEntList
import Derived.Test.YtlgkjbkbdmneaaaDoorMaskCode
import Derived.Deep.RegionHeld3
namespace Go.Proofs.YtlgkjbkbdmneaaaDoor
open Go.RowKit Go.Lib

theorem number_at (w : World) (b off : Nat) (l : List Nat) (hb : Byt l) (hs : SeenB w b off l) (i n c : Nat) (hi : i + n ≤ l.length) (hn : n ≤ 4) :
    Calls Tryd.prog 46 #[.slice (some ⟨b, off + i, none⟩) n c] w fun x w' => x = .returned (.int .u32 (num ((l.drop i).take n) : Int)) ∧ w' = w := by
  have hl : ((l.drop i).take n).length = n := by rw [List.length_take, List.length_drop]; omega
  have := number_any w b (off + i) c ((l.drop i).take n) (by omega) (hb.sub i n) (hs.sub i n)
  rw [hl] at this
  exact this

theorem below5 {w w1 : World} {n : Nat} (h : Below n w w1) (a b c d e : Value) : Below n w (((((w1.setCell ⟨n, 0, none⟩ a).setCell ⟨n, 1, none⟩ b).setCell ⟨n, 2, none⟩ c).setCell ⟨n, 3, none⟩ d).setCell ⟨n, 4, none⟩ e) :=
  ((((h.setCell (p := ⟨n, 0, none⟩) (Nat.le_refl _) a).setCell (p := ⟨n, 1, none⟩) (Nat.le_refl _) b).setCell (p := ⟨n, 2, none⟩) (Nat.le_refl _) c).setCell (p := ⟨n, 3, none⟩) (Nat.le_refl _) d).setCell (p := ⟨n, 4, none⟩) (Nat.le_refl _) e

theorem set_at {w : World} {n j : Nat} {u : Value} (i : Nat) (v : Value) (h : w.cell? ⟨n, j, none⟩ = some u) : (w.setCell ⟨n, i, none⟩ v).cell? ⟨n, j, none⟩ = some (if i = j then v else u) := by
  by_cases e : i = j
  · subst e; rw [if_pos rfl]; exact World.cell?_setCell_same _ _ _ h
  · rw [if_neg e, World.cell?_setCell_other _ _ _ _ (fun h => e (congrArg Addr.off h))]; exact h
theorem SeenO.drew {w : World} {b off : Nat} {e : En} (h : SeenO w b off e) : SeenO w.drew b off e := h.ofBlock rfl
theorem set5 {w : World} {n : Nat} {e0 : En} (h : EBox w n e0) (e : En) : SeenO (((((w.setCell ⟨n, 0, none⟩ (.int .u32 (e.a : Int))).setCell ⟨n, 1, none⟩ (.int .i64 e.n)).setCell ⟨n, 2, none⟩ (.int .i64 e.t)).setCell ⟨n, 3, none⟩ (.int .u32 (e.h : Int))).setCell ⟨n, 4, none⟩ (.int .i64 e.m)) n 0 e := by
  obtain ⟨⟨c0, c1, c2, c3, c4⟩, hf⟩ := h
  have key : ∀ {j : Nat} {u : Value}, w.cell? ⟨n, j, none⟩ = some u → _ := fun {j u} h => set_at 4 (.int .i64 e.m) (set_at 3 (.int .u32 (e.h : Int)) (set_at 2 (.int .i64 e.t) (set_at 1 (.int .i64 e.n) (set_at 0 (.int .u32 (e.a : Int)) h))))
  exact ⟨key c0, key c1, key c2, key c3, key c4⟩
theorem bodyPost_ent {fn : Func} {R : Ending → World → Prop} {a : Act} {W : World} {n : Nat} {e : En} {er : Value} (hres : fn.results = #[.cell 2 49, .tmp 3]) (h2 : a.tmps[2]?.getD undef = .pointer (some ⟨n, 0, none⟩)) (h3 : a.tmps[3]?.getD undef = er)
    (hs : SeenO W n 0 e) (hd : a.defers = []) (hR : R (.returned (.tuple #[e.v, er])) W) : bodyPost Tryd.prog fn R .ret a W := by
  obtain ⟨c0, c1, c2, c3, c4⟩ := hs
  simp only [Nat.zero_add] at c0 c1 c2 c3 c4
  refine bodyPost_ret (v := .tuple #[e.v, er]) ?_ hd hR
  unfold En.v
  simp [results, hres, go_sem, h2, h3, c0, c1, c2, c3, c4]

theorem wrap64s (n : Nat) (h : n < 4294967296) : IntKind.i64.wrap (n : Int) = (n : Int) := by
  rw [IntKind.wrap_i64]; omega

set_option maxHeartbeats 1000000 in
set_option maxRecDepth 100000 in
theorem readEntry_no (w : World) (b off c : Nat) (l : List Nat) (hl : l.length = 20) (hc : 20 ≤ c) (hb : Byt l) (hlt : b < w.heap.size) (hs : SeenB w b off l) (h : rdE l = none) :
    Calls Tryd.prog 38 #[.slice (some ⟨b, off, none⟩) 20 c] w fun x w' => x = .returned (.tuple #[En.v ⟨0, 0, 0, 0, 0⟩, .iface 27 (.int .i64 3)]) ∧ Below w.heap.size w w' := by
  have hm : MaskP.len (num ((l.drop 8).take 4)) = none := by
    cases hm : MaskP.len (num ((l.drop 8).take 4)) with
    | none => rfl
    | some n => unfold rdE at h; rw [hm] at h; cases h
  have hk := num_lt4 _ (hb.sub 8 4) (by rw [List.length_take]; omega)
  have B0 := (Below.refl w.heap.size w).alloc (Nat.le_refl _) (.cells #[.int .u32 0, .int .i64 0, .int .i64 0, .int .u32 0, .int .i64 0] 49)
  have HN := Lib.hid (number_at _ b off l hb (hs.below B0 hlt) 8 4 (c - 8) (by omega) (by omega))
  have HL := Lib.hid (len_no _ hk hm)
  have hE := EBox.new w ⟨0, 0, 0, 0, 0⟩ 49
  have HE := Lib.hid hE
  have HB := Lib.hid B0
  clear B0 hm hk h hs hb hE
  go_enter Tryd.func38, Tryd.ntmps38
  go_wp2_with fail
  refine HN.out.mono ?_
  rintro x w1 ⟨rfl, rfl⟩
  go_wp2_with fail
  refine (HL.out _).mono ?_
  rintro x w2 ⟨rfl, hb2⟩
  have E2 := HE.out.kept hb2
  have B2 := Below.two HB.out hb2
  obtain ⟨⟨c0, c1, c2, c3, c4⟩, hf⟩ := id E2
  simp only [Nat.zero_add] at c0 c1 c2 c3 c4
  go_wp2_with fail
  exact bodyPost_ent (e := ⟨0, 0, 0, 0, 0⟩) Tryd.results38 rfl rfl (set5 E2 ⟨0, 0, 0, 0, 0⟩) rfl ⟨rfl, below5 B2 _ _ _ _ _⟩

set_option maxHeartbeats 400000 in
set_option maxRecDepth 100000 in
theorem readEntry_yes (w : World) (b off c : Nat) (l : List Nat) (e : En) (hl : l.length = 20) (hc : 20 ≤ c) (hb : Byt l) (hlt : b < w.heap.size) (hs : SeenB w b off l) (h : rdE l = some e) :
    Calls Tryd.prog 38 #[.slice (some ⟨b, off, none⟩) 20 c] w fun x w' => x = .returned (.tuple #[e.v, .nilIface]) ∧ Below w.heap.size w w' := by
  obtain ⟨n, hm, rfl⟩ : ∃ n : Nat, MaskP.len (num ((l.drop 8).take 4)) = some n ∧ e = ⟨num ((l.drop 4).take 4), n, num ((l.drop 2).take 2), num ((l.drop 12).take 4), num ((l.drop 16).take 4)⟩ := by
    cases hm : MaskP.len (num ((l.drop 8).take 4)) with
    | none => unfold rdE at h; rw [hm] at h; cases h
    | some n => unfold rdE at h; rw [hm] at h; exact ⟨n, rfl, (Option.some.inj h).symm⟩
  have hk := num_lt4 _ (hb.sub 8 4) (by rw [List.length_take]; omega)
  have hk2 := num_lt4 _ (hb.sub 2 2) (by rw [List.length_take]; omega)
  have hk16 := num_lt4 _ (hb.sub 16 4) (by rw [List.length_take]; omega)
  have B0 := (Below.refl w.heap.size w).alloc (Nat.le_refl _) (.cells #[.int .u32 0, .int .i64 0, .int .i64 0, .int .u32 0, .int .i64 0] 49)
  have HN := Lib.hid (number_at _ b off l hb (hs.below B0 hlt) 8 4 (c - 8) (by omega) (by omega))
  have HL := Lib.hid (len_yes _ n hk hm)
  have hE := EBox.new w ⟨0, 0, 0, 0, 0⟩ 49
  have HE := Lib.hid hE
  have HB := Lib.hid B0
  have N4 : Hid (∀ (c : Nat) (w' : World), Below w.heap.size w w' → Calls Tryd.prog 46 #[.slice (some ⟨b, off + 4, none⟩) 4 c] w' fun x w2 => x = .returned (.int .u32 (num ((l.drop 4).take 4) : Int)) ∧ w2 = w') := Lib.hid fun c w' h => number_at w' b off l hb (hs.below h hlt) 4 4 c (by omega) (by omega)
  have N2 : Hid (∀ (c : Nat) (w' : World), Below w.heap.size w w' → Calls Tryd.prog 46 #[.slice (some ⟨b, off + 2, none⟩) 2 c] w' fun x w2 => x = .returned (.int .u32 (num ((l.drop 2).take 2) : Int)) ∧ w2 = w') := Lib.hid fun c w' h => number_at w' b off l hb (hs.below h hlt) 2 2 c (by omega) (by omega)
  have N12 : Hid (∀ (c : Nat) (w' : World), Below w.heap.size w w' → Calls Tryd.prog 46 #[.slice (some ⟨b, off + 12, none⟩) 4 c] w' fun x w2 => x = .returned (.int .u32 (num ((l.drop 12).take 4) : Int)) ∧ w2 = w') := Lib.hid fun c w' h => number_at w' b off l hb (hs.below h hlt) 12 4 c (by omega) (by omega)
  have N16 : Hid (∀ (c : Nat) (w' : World), Below w.heap.size w w' → Calls Tryd.prog 46 #[.slice (some ⟨b, off + 16, none⟩) 4 c] w' fun x w2 => x = .returned (.int .u32 (num ((l.drop 16).take 4) : Int)) ∧ w2 = w') := Lib.hid fun c w' h => number_at w' b off l hb (hs.below h hlt) 16 4 c (by omega) (by omega)
  clear B0 hm hk h hs hb hE
  unfold En.v
  simp only
  generalize num ((l.drop 4).take 4) = x4 at N4 ⊢
  generalize num ((l.drop 2).take 2) = x2 at N2 hk2 ⊢
  generalize num ((l.drop 12).take 4) = x12 at N12 ⊢
  generalize num ((l.drop 16).take 4) = x16 at N16 hk16 ⊢
  generalize num ((l.drop 8).take 4) = x8 at HN HL
  go_enter Tryd.func38, Tryd.ntmps38
  go_wp2_with fail
  refine HN.out.mono ?_
  rintro x w1 ⟨rfl, rfl⟩
  go_wp2_with fail
  refine (HL.out _).mono ?_
  rintro x w2 ⟨rfl, hb2⟩
  have E2 := HE.out.kept hb2
  have B2 := Below.two HB.out hb2
  have HB3 := Lib.hid (B2.drew); have HB2 := Lib.hid B2
  obtain ⟨⟨c0, c1, c2, c3, c4⟩, hf⟩ := id E2
  simp only [Nat.zero_add] at c0 c1 c2 c3 c4
  have f0 := hf 0; have f1 := hf 1; have f2 := hf 2; have f3 := hf 3; have f4 := hf 4
  have W2 := Lib.hid (wrap64s x2 hk2); have W16 := Lib.hid (wrap64s x16 hk16)
  clear B2 hb2 HN HL HE HB hf
  go_wp2_with fail
  refine wp_region_held_drew (S := (fun _ => True)) (by kernel_rfl) trivial (fun hHeld => ?_)
  refine wpAnyH_take (i := 0) (oi := { dst := some 17, op := Op.move (Operand.tmp 0), type := 25, pos := "wire.go:177", after := #[], guard := none }) (v := ?_) rfl (by kernel_rfl) (by kernel_rfl) (by kernel_rfl) (fun _ _ _ h => h) (Or.inl ⟨by rfl, ?_⟩) hHeld ?_
  rotate_left
  · (intro w hSw; (try dsimp only at hSw); go_simp; first | done | with_reducible rfl)
  simp only [Act.put, List.setIfInBounds_toArray, List.set_cons_zero, List.set_cons_succ]
  refine wpAnyH_take (i := 1) (oi := { dst := some 18, op := Op.slice 25 (Operand.tmp 17) (some (Operand.const (Value.int IntKind.i64 4))) (some (Operand.const (Value.int IntKind.i64 8))) none, type := 25, pos := "wire.go:177", after := #[{ on := 0, ground := Ground.data }], guard := none }) (v := ?_) rfl (by kernel_rfl) (by kernel_rfl) (by kernel_rfl) (fun _ _ _ h => h) (Or.inl ⟨by rfl, ?_⟩) hHeld ?_
  rotate_left
  · (intro w hSw; (try dsimp only at hSw); go_simp; rw [if_pos (show (8 : Int) ≤ (c : Int) by omega), if_neg (show ¬ c = 4 by omega)]; first | done | with_reducible rfl)
  simp only [Act.put, List.setIfInBounds_toArray, List.set_cons_zero, List.set_cons_succ]
  refine wpAnyH_take (i := 3) (oi := { dst := some 20, op := Op.move (Operand.tmp 4), type := 3, pos := "wire.go:177", after := #[], guard := none }) (v := ?_) rfl (by kernel_rfl) (by kernel_rfl) (by kernel_rfl) (fun _ _ _ h => h) (Or.inl ⟨by rfl, ?_⟩) hHeld ?_
  rotate_left
  · (intro w hSw; (try dsimp only at hSw); go_simp; first | done | with_reducible rfl)
  simp only [Act.put, List.setIfInBounds_toArray, List.set_cons_zero, List.set_cons_succ]
  refine wpAnyH_take (i := 5) (oi := { dst := some 22, op := Op.move (Operand.tmp 0), type := 25, pos := "wire.go:177", after := #[], guard := none }) (v := ?_) rfl (by kernel_rfl) (by kernel_rfl) (by kernel_rfl) (fun _ _ _ h => h) (Or.inl ⟨by rfl, ?_⟩) hHeld ?_
  rotate_left
  · (intro w hSw; (try dsimp only at hSw); go_simp; first | done | with_reducible rfl)
  simp only [Act.put, List.setIfInBounds_toArray, List.set_cons_zero, List.set_cons_succ]
  refine wpAnyH_take (i := 6) (oi := { dst := some 23, op := Op.slice 25 (Operand.tmp 22) (some (Operand.const (Value.int IntKind.i64 2))) (some (Operand.const (Value.int IntKind.i64 4))) none, type := 25, pos := "wire.go:177", after := #[{ on := 5, ground := Ground.data }], guard := none }) (v := ?_) rfl (by kernel_rfl) (by kernel_rfl) (by kernel_rfl) (fun _ _ _ h => h) (Or.inl ⟨by rfl, ?_⟩) hHeld ?_
  rotate_left
  · (intro w hSw; (try dsimp only at hSw); go_simp; rw [if_pos (show (4 : Int) ≤ (c : Int) by omega), if_neg (show ¬ c = 2 by omega)]; first | done | with_reducible rfl)
  simp only [Act.put, List.setIfInBounds_toArray, List.set_cons_zero, List.set_cons_succ]
  refine wpAnyH_take (i := 9) (oi := { dst := some 26, op := Op.move (Operand.tmp 0), type := 25, pos := "wire.go:177", after := #[], guard := none }) (v := ?_) rfl (by kernel_rfl) (by kernel_rfl) (by kernel_rfl) (fun _ _ _ h => h) (Or.inl ⟨by rfl, ?_⟩) hHeld ?_
  rotate_left
  · (intro w hSw; (try dsimp only at hSw); go_simp; first | done | with_reducible rfl)
  simp only [Act.put, List.setIfInBounds_toArray, List.set_cons_zero, List.set_cons_succ]
  refine wpAnyH_take (i := 10) (oi := { dst := some 27, op := Op.slice 25 (Operand.tmp 26) (some (Operand.const (Value.int IntKind.i64 12))) (some (Operand.const (Value.int IntKind.i64 16))) none, type := 25, pos := "wire.go:177", after := #[{ on := 9, ground := Ground.data }], guard := none }) (v := ?_) rfl (by kernel_rfl) (by kernel_rfl) (by kernel_rfl) (fun _ _ _ h => h) (Or.inl ⟨by rfl, ?_⟩) hHeld ?_
  rotate_left
  · (intro w hSw; (try dsimp only at hSw); go_simp; rw [if_pos (show (16 : Int) ≤ (c : Int) by omega), if_neg (show ¬ c = 12 by omega)]; first | done | with_reducible rfl)
  simp only [Act.put, List.setIfInBounds_toArray, List.set_cons_zero, List.set_cons_succ]
  refine wpAnyH_take (i := 12) (oi := { dst := some 29, op := Op.move (Operand.tmp 0), type := 25, pos := "wire.go:177", after := #[], guard := none }) (v := ?_) rfl (by kernel_rfl) (by kernel_rfl) (by kernel_rfl) (fun _ _ _ h => h) (Or.inl ⟨by rfl, ?_⟩) hHeld ?_
  rotate_left
  · (intro w hSw; (try dsimp only at hSw); go_simp; first | done | with_reducible rfl)
  simp only [Act.put, List.setIfInBounds_toArray, List.set_cons_zero, List.set_cons_succ]
  refine wpAnyH_take (i := 13) (oi := { dst := some 30, op := Op.slice 25 (Operand.tmp 29) (some (Operand.const (Value.int IntKind.i64 16))) (some (Operand.const (Value.int IntKind.i64 20))) none, type := 25, pos := "wire.go:177", after := #[{ on := 12, ground := Ground.data }], guard := none }) (v := ?_) rfl (by kernel_rfl) (by kernel_rfl) (by kernel_rfl) (fun _ _ _ h => h) (Or.inl ⟨by rfl, ?_⟩) hHeld ?_
  rotate_left
  · (intro w hSw; (try dsimp only at hSw); go_simp; rw [if_pos (show (20 : Int) ≤ (c : Int) by omega), if_neg (show ¬ c = 16 by omega)]; first | done | with_reducible rfl)
  simp only [Act.put, List.setIfInBounds_toArray, List.set_cons_zero, List.set_cons_succ]
  refine wpAnyH_ready (rs := [2]) (by kernel_rfl) (by simp) ?_
  refine AllReadyH.cons (o := { dst := some 19, op := Op.call { callee := Callee.value (Operand.func 46), args := #[Operand.tmp 18], argTypes := #[25] }, type := 45, pos := "wire.go:178", after := #[{ on := 1, ground := Ground.data }], guard := none }) rfl (fun K hK => ?_) AllReadyH.nil
  go_simp
  go_at_call 46
  refine (N4.out _ _ HB3.out).mono ?_
  rintro y w0' ⟨rfl, rfl⟩
  have KK0 : True := trivial
  go_wp2_with fail
  refine hK.out _ _ KK0 (fun hHeld => ?_)
  clear hK K
  refine wpAnyH_take (i := 4) (oi := { dst := some 21, op := Op.build 47 #[(0, Operand.tmp 19), (1, Operand.tmp 20)], type := 47, pos := "wire.go:177", after := #[{ on := 2, ground := Ground.data }, { on := 3, ground := Ground.data }], guard := none }) (v := ?_) rfl (by kernel_rfl) (by kernel_rfl) (by kernel_rfl) (fun _ _ _ h => h) (Or.inl ⟨by rfl, ?_⟩) hHeld ?_
  rotate_left
  · (intro w hSw; (try dsimp only at hSw); go_simp; first | done | with_reducible rfl)
  simp only [Act.put, List.setIfInBounds_toArray, List.set_cons_zero, List.set_cons_succ]
  refine wpAnyH_ready (rs := [7]) (by kernel_rfl) (by simp) ?_
  refine AllReadyH.cons (o := { dst := some 24, op := Op.call { callee := Callee.value (Operand.func 46), args := #[Operand.tmp 23], argTypes := #[25] }, type := 45, pos := "wire.go:179", after := #[{ on := 6, ground := Ground.data }, { on := 2, ground := Ground.chain }], guard := none }) rfl (fun K hK => ?_) AllReadyH.nil
  go_simp
  go_at_call 46
  refine (N2.out _ _ HB3.out).mono ?_
  rintro y w1' ⟨rfl, rfl⟩
  have KK1 : True := trivial
  go_wp2_with fail
  refine hK.out _ _ KK1 (fun hHeld => ?_)
  clear hK K
  refine wpAnyH_take (i := 8) (oi := { dst := some 25, op := Op.convert 45 3 (Operand.tmp 24), type := 3, pos := "wire.go:177", after := #[{ on := 7, ground := Ground.data }], guard := none }) (v := ?_) rfl (by kernel_rfl) (by kernel_rfl) (by kernel_rfl) (fun _ _ _ h => h) (Or.inl ⟨by rfl, ?_⟩) hHeld ?_
  rotate_left
  · (intro w hSw; (try dsimp only at hSw); go_simp; first | done | with_reducible rfl)
  simp only [Act.put, List.setIfInBounds_toArray, List.set_cons_zero, List.set_cons_succ]
  refine wpAnyH_ready (rs := [11]) (by kernel_rfl) (by simp) ?_
  refine AllReadyH.cons (o := { dst := some 28, op := Op.call { callee := Callee.value (Operand.func 46), args := #[Operand.tmp 27], argTypes := #[25] }, type := 45, pos := "wire.go:180", after := #[{ on := 10, ground := Ground.data }, { on := 7, ground := Ground.chain }], guard := none }) rfl (fun K hK => ?_) AllReadyH.nil
  go_simp
  go_at_call 46
  refine (N12.out _ _ HB3.out).mono ?_
  rintro y w2' ⟨rfl, rfl⟩
  have KK2 : True := trivial
  go_wp2_with fail
  refine hK.out _ _ KK2 (fun hHeld => ?_)
  clear hK K
  refine wpAnyH_ready (rs := [14]) (by kernel_rfl) (by simp) ?_
  refine AllReadyH.cons (o := { dst := some 31, op := Op.call { callee := Callee.value (Operand.func 46), args := #[Operand.tmp 30], argTypes := #[25] }, type := 45, pos := "wire.go:181", after := #[{ on := 13, ground := Ground.data }, { on := 11, ground := Ground.chain }], guard := none }) rfl (fun K hK => ?_) AllReadyH.nil
  go_simp
  go_at_call 46
  refine (N16.out _ _ HB3.out).mono ?_
  rintro y w3' ⟨rfl, rfl⟩
  have KK3 : True := trivial
  go_wp2_with fail
  refine hK.out _ _ KK3 (fun hHeld => ?_)
  clear hK K
  refine wpAnyH_take (i := 15) (oi := { dst := some 32, op := Op.convert 45 3 (Operand.tmp 31), type := 3, pos := "wire.go:177", after := #[{ on := 14, ground := Ground.data }], guard := none }) (v := ?_) rfl (by kernel_rfl) (by kernel_rfl) (by kernel_rfl) (fun _ _ _ h => h) (Or.inl ⟨by rfl, ?_⟩) hHeld ?_
  rotate_left
  · (intro w hSw; (try dsimp only at hSw); go_simp; first | done | with_reducible rfl)
  simp only [Act.put, List.setIfInBounds_toArray, List.set_cons_zero, List.set_cons_succ]
  refine wpAnyH_take (i := 16) (oi := { dst := some 33, op := Op.build 49 #[(0, Operand.tmp 21), (1, Operand.tmp 25), (2, Operand.tmp 28), (3, Operand.tmp 32)], type := 49, pos := "wire.go:177", after := #[{ on := 4, ground := Ground.data }, { on := 8, ground := Ground.data }, { on := 11, ground := Ground.data }, { on := 15, ground := Ground.data }], guard := none }) (v := ?_) rfl (by kernel_rfl) (by kernel_rfl) (by kernel_rfl) (fun _ _ _ h => h) (Or.inl ⟨by rfl, ?_⟩) hHeld ?_
  rotate_left
  · (intro w hSw; (try dsimp only at hSw); go_simp; first | done | with_reducible rfl)
  simp only [Act.put, List.setIfInBounds_toArray, List.set_cons_zero, List.set_cons_succ]
  refine wpAnyH_ready (rs := [17]) (by kernel_rfl) (by simp) ?_
  refine AllReadyH.cons (o := { dst := none, op := Op.store 49 (Operand.tmp 2) (Operand.tmp 33), type := 0, pos := "wire.go:177", after := #[{ on := 16, ground := Ground.data }, { on := 14, ground := Ground.chain }, { on := 0, ground := Ground.phase }, { on := 1, ground := Ground.phase }, { on := 2, ground := Ground.phase }, { on := 3, ground := Ground.phase }, { on := 4, ground := Ground.phase }, { on := 5, ground := Ground.phase }, { on := 6, ground := Ground.phase }, { on := 7, ground := Ground.phase }, { on := 8, ground := Ground.phase }, { on := 9, ground := Ground.phase }, { on := 10, ground := Ground.phase }, { on := 11, ground := Ground.phase }, { on := 12, ground := Ground.phase }, { on := 13, ground := Ground.phase }, { on := 14, ground := Ground.phase }, { on := 15, ground := Ground.phase }, { on := 16, ground := Ground.phase }], guard := none }) rfl (fun K hK => ?_) AllReadyH.nil
  go_simp
  go_wp2_with fail
  have KK4 : True := trivial
  refine hK.out _ _ KK4 (fun hHeld => ?_)
  clear hK K
  refine wpAnyH_take (i := 18) (oi := { dst := some 3, op := Op.assign (Operand.const Value.nilIface), type := 31, pos := "wire.go:177", after := #[{ on := 17, ground := Ground.chain }, { on := 0, ground := Ground.phase }, { on := 1, ground := Ground.phase }, { on := 2, ground := Ground.phase }, { on := 3, ground := Ground.phase }, { on := 4, ground := Ground.phase }, { on := 5, ground := Ground.phase }, { on := 6, ground := Ground.phase }, { on := 7, ground := Ground.phase }, { on := 8, ground := Ground.phase }, { on := 9, ground := Ground.phase }, { on := 10, ground := Ground.phase }, { on := 11, ground := Ground.phase }, { on := 12, ground := Ground.phase }, { on := 13, ground := Ground.phase }, { on := 14, ground := Ground.phase }, { on := 15, ground := Ground.phase }, { on := 16, ground := Ground.phase }, { on := 17, ground := Ground.phase }], guard := none }) (v := ?_) rfl (by kernel_rfl) (by kernel_rfl) (by kernel_rfl) (fun _ _ _ h => h) (Or.inl ⟨by rfl, ?_⟩) hHeld ?_
  rotate_left
  · (intro w hSw; (try dsimp only at hSw); go_simp; first | done | with_reducible rfl)
  simp only [Act.put, List.setIfInBounds_toArray, List.set_cons_zero, List.set_cons_succ]
  refine wpAnyH_done (by kernel_rfl) ?_ _
  go_wp2_with fail
  rw [W2.out, W16.out]
  exact bodyPost_ent (e := ⟨x4, n, x2, x12, x16⟩) Tryd.results38 rfl rfl (set5 E2 ⟨x4, n, x2, x12, x16⟩).drew rfl ⟨rfl, (below5 HB2.out _ _ _ _ _).drew⟩
end Go.Proofs.YtlgkjbkbdmneaaaDoor
