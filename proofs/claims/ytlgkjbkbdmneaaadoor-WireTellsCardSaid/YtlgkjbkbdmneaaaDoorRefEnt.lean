/-
  The document's own EntryOf at every twenty bytes; what lay in memory stays.
-/
import Derived.Test.YtlgkjbkbdmneaaaDoorRefNum
import Derived.Test.YtlgkjbkbdmneaaaDoorRefFault
import Derived.Test.YtlgkjbkbdmneaaaDoorWireEnt
import Derived.Test.YtlgkjbkbdmneaaaDoorEntTo
namespace Go.Proofs.YtlgkjbkbdmneaaaDoor
open Go.RowKit Go.Lib

set_option maxHeartbeats 40000000 in
set_option maxRecDepth 100000 in
theorem entryOf_any (w : World) (b off c : Nat) (l : List Nat) (hl : l.length = 20) (hb : Byt l) (hlt : b < w.heap.size) (hs : SeenB w b off l) :
    Calls Tryd.prog 29 #[.slice (some ⟨b, off, none⟩) 20 c] w (EntTo w l) := by
  have hN : ∀ (q : Nat), q + 4 ≤ 20 → ∀ (w' : World), Below w.heap.size w w' → Calls Tryd.prog 35 #[.slice (some ⟨b, off, none⟩) 20 c, .int .i64 (q : Int)] w' fun x w2 => x = .returned (.int .u32 (num ((l.drop q).take 4) : Int)) ∧ w2 = w'.drew := by
    intro q hq w' h
    have := refNum_any w' b off c l q (by omega) (by omega) hb (hs.below h hlt)
    rw [hl] at this
    exact this
  have N4 := Lib.hid (hN 4 (by omega)); have N8 := Lib.hid (hN 8 (by omega)); have N12 := Lib.hid (hN 12 (by omega)); have N16 := Lib.hid (hN 16 (by omega))
  have ST : Hid (∀ (w' : World), Below w.heap.size w w' → ∀ i, i < 20 → w'.cell? ⟨b, off + i, none⟩ = some (.int .u8 ((l[i]! : Nat) : Int))) := Lib.hid fun w' h i hi => (hs.below h hlt) i (by omega)
  have h4 := num_lt4 _ (hb.sub 4 4) (by rw [List.length_take]; omega)
  have h8 := num_lt4 _ (hb.sub 8 4) (by rw [List.length_take]; omega)
  have h16 := num_lt4 _ (hb.sub 16 4) (by rw [List.length_take]; omega)
  have h2 := hb.at 2 (by omega); have h3 := hb.at 3 (by omega)
  have HI := Lib.hid (fun k is (h : Found l k) => h.is (is := is) hl hb)
  have HF : Hid (∀ k, k ≤ 32 → (∀ j, j < k → MaskP.mk j ≠ num ((l.drop 8).take 4)) → (k = 32 ∨ MaskP.mk k = num ((l.drop 8).take 4)) → Found l k) := Lib.hid fun k h1 h2 h3 => ⟨h1, h2, h3⟩
  have HO : Hid (∀ k, EntOk l k ↔ (l[0]! = 0 ∧ l[1]! = 2 ∧ MaskP.mk k = num ((l.drop 8).take 4) ∧ PrefP.chk (num ((l.drop 4).take 4)) (k : Int) = 0 ∧ 1 ≤ num ((l.drop 16).take 4) ∧ num ((l.drop 16).take 4) ≤ 16)) := Lib.hid fun k => ⟨fun h => ⟨h.b0, h.b1, h.mq, h.ck, h.m0, h.m1⟩, fun ⟨a, b, c, d, e, f⟩ => ⟨a, b, c, d, e, f⟩⟩
  have HEO : Hid (∀ k, entOf l k = ⟨num ((l.drop 4).take 4), k, ((l[2]! * 256 + l[3]! : Nat) : Int), num ((l.drop 12).take 4), num ((l.drop 16).take 4)⟩) := Lib.hid fun k => rfl
  have s0 := ST.out; 
  clear hN hs hb
  have ST0 : Hid (∀ (w' : World), Below w.heap.size w w' → w'.cell? ⟨b, off, none⟩ = some (.int .u8 ((l[0]! : Nat) : Int)) ∧ w'.cell? ⟨b, off + 1, none⟩ = some (.int .u8 ((l[1]! : Nat) : Int))) := Lib.hid fun w' h => ⟨ST.out w' h 0 (by omega), ST.out w' h 1 (by omega)⟩
  have ST2 : Hid (∀ (w' : World), Below w.heap.size w w' → w'.cell? ⟨b, off + 2, none⟩ = some (.int .u8 ((l[2]! : Nat) : Int)) ∧ w'.cell? ⟨b, off + 3, none⟩ = some (.int .u8 ((l[3]! : Nat) : Int))) := Lib.hid fun w' h => ⟨ST.out w' h 2 (by omega), ST.out w' h 3 (by omega)⟩
  clear ST s0
  generalize num ((l.drop 4).take 4) = n4 at *
  generalize num ((l.drop 8).take 4) = n8 at *
  generalize num ((l.drop 12).take 4) = n12 at *
  generalize num ((l.drop 16).take 4) = n16 at *
  generalize l[0]! = x0 at *
  generalize l[1]! = x1 at *
  generalize l[2]! = x2 at *
  generalize l[3]! = x3 at *
  have A2 := Lib.hid (wrap64s x2 (by omega)); have A4 := Lib.hid (wrap64s x3 (by omega)); have A6 := Lib.hid (wrap64s n16 h16)
  have A3 := Lib.hid (show IntKind.i64.wrap ((x2 : Int) * 256) = (x2 : Int) * 256 by rw [IntKind.wrap_i64]; omega)
  have A5 := Lib.hid (show IntKind.i64.wrap ((x2 : Int) * 256 + (x3 : Int)) = (x2 : Int) * 256 + (x3 : Int) by rw [IntKind.wrap_i64]; omega)
  have HE0 := Lib.hid (EBox.new w ⟨0, 0, 0, 0, 0⟩ 49)
  have HB0 := Lib.hid ((Below.refl w.heap.size w).alloc (Nat.le_refl _) (.cells #[.int .u32 0, .int .i64 0, .int .i64 0, .int .u32 0, .int .i64 0] 49))
  have z0 : (w.alloc (.cells #[.int .u32 0, .int .i64 0, .int .i64 0, .int .u32 0, .int .i64 0] 49)).heap.size = w.heap.size + 1 := by simp
  go_enter Tryd.func29, Tryd.ntmps29
  go_wp2_with fail
  go_loopw [4] (fun vk wr => ∃ (k : Nat), vk = .int .i64 k ∧ k ≤ 32 ∧ Hid (∀ j, j < k → MaskP.mk j ≠ n8) ∧ Hid (Below w.heap.size w wr) ∧ Hid (EBox wr w.heap.size ⟨0, 0, 0, 0, 0⟩) ∧ wr.heap.size = w.heap.size + 1) (fun vk _ => 32 - (RowKit.intOf vk).toNat)
  case atStart => exact ⟨0, rfl, Nat.zero_le _, Lib.hid (fun j hj => by omega), HB0, HE0, z0⟩
  case round =>
    clear HE0 HB0 z0
    obtain ⟨k, rfl, hk, HJ, HB, HE, hz⟩ := hrel
    by_cases hk32 : k < 32
    · have hk' : (k : Int) < 32 := by omega
      by_cases hm : MaskP.mk k = n8
      · have hm' : ((MaskP.mk k : Int) == (n8 : Int)) = true := by rw [hm]; simp
        go_wp2_with fail
        refine (maskOf_any k hk _).mono ?_
        rintro y w1 ⟨rfl, rfl⟩
        go_wp2_with fail
        refine (N8.out _ HB.out).mono ?_
        rintro y w1 ⟨rfl, rfl⟩
        have HB1 := Lib.hid HB.out.drew
        have HE1 : Hid (EBox wr.drew w.heap.size ⟨0, 0, 0, 0, 0⟩) := Lib.hid (HE.out.ofBlock rfl)
        have HFk := Lib.hid (HF.out k hk HJ.out (Or.inr hm))
        have HZ := Lib.hid (show wr.drew.heap.size = w.heap.size + 1 from hz)
        go_wp2_with fail
        clear hz HB HE
        generalize wr.drew = wq at HB1 HE1 HZ ⊢
        have HBq := HB1; have HEq := HE1
        clear HB1 HE1 hm hm'
        have HBA := Lib.hid (HBq.out.alloc (show w.heap.size ≤ wq.heap.size by rw [HZ.out]; omega) (.cells #[.int .u32 0, .int .i64 0, .int .i64 0, .int .u32 0, .int .i64 0] 49))
        have EA := EBox.new wq ⟨0, 0, 0, 0, 0⟩ 49
        have OB := (Below.refl _ wq).alloc (Nat.le_refl _) (.cells #[.int .u32 (n4 : Int), .int .i64 (k : Int), .int .i64 ((x2 : Int) * 256 + (x3 : Int)), .int .u32 (n12 : Int), .int .i64 (n16 : Int)] 49)
        have HBX := Lib.hid (HBq.out.alloc (show w.heap.size ≤ wq.heap.size by rw [HZ.out]; omega) (.cells #[.int .u32 (n4 : Int), .int .i64 (k : Int), .int .i64 ((x2 : Int) * 256 + (x3 : Int)), .int .u32 (n12 : Int), .int .i64 (n16 : Int)] 49))
        have EX := Lib.hid (EBox.new wq ⟨n4, k, (x2 : Int) * 256 + (x3 : Int), n12, n16⟩ 49).seen
        have RX := Lib.hid (HEq.out.kept OB)
        have ltX := Lib.hid (EX.out.lt)
        obtain ⟨⟨c0, c1, c2, c3, c4⟩, hf⟩ := EA
        simp only [Nat.zero_add] at c0 c1 c2 c3 c4
        have f0 := hf 0; have f1 := hf 1; have f2 := hf 2; have f3 := hf 3; have f4 := hf 4
        clear hf OB
        have HEK := Lib.hid (show entOf l k = ⟨n4, k, (x2 : Int) * 256 + (x3 : Int), n12, n16⟩ by rw [HEO.out]; exact (En.same _ _).2 ⟨rfl, rfl, by simp only; omega, rfl, rfl⟩)
        go_wp2_with fail
        refine wp_region_held_drew (S := (fun w' => w'.cell? ⟨b, off + 2, none⟩ = some (.int .u8 (x2 : Int)) ∧ w'.cell? ⟨b, off + 3, none⟩ = some (.int .u8 (x3 : Int)))) (by kernel_rfl) (ST2.out _ HBq.out.drew) (fun hHeld => ?_)
        refine wpAnyH_take (i := 0) (oi := { dst := some 18, op := Op.move (Operand.tmp 0), type := 25, pos := "nets.go:252", after := #[], guard := none }) (v := ?_) rfl (by kernel_rfl) (by kernel_rfl) (by kernel_rfl) (fun _ _ _ h => h) (Or.inl ⟨by rfl, ?_⟩) hHeld ?_
        rotate_left
        · (intro w hSw; (try dsimp only at hSw); go_simp; first | done | with_reducible rfl)
        simp only [Act.put, List.setIfInBounds_toArray, List.set_cons_zero, List.set_cons_succ]
        refine wpAnyH_take (i := 2) (oi := { dst := some 20, op := Op.move (Operand.tmp 4), type := 3, pos := "nets.go:252", after := #[], guard := none }) (v := ?_) rfl (by kernel_rfl) (by kernel_rfl) (by kernel_rfl) (fun _ _ _ h => h) (Or.inl ⟨by rfl, ?_⟩) hHeld ?_
        rotate_left
        · (intro w hSw; (try dsimp only at hSw); go_simp; first | done | with_reducible rfl)
        simp only [Act.put, List.setIfInBounds_toArray, List.set_cons_zero, List.set_cons_succ]
        refine wpAnyH_take (i := 4) (oi := { dst := some 22, op := Op.move (Operand.tmp 0), type := 25, pos := "nets.go:252", after := #[], guard := none }) (v := ?_) rfl (by kernel_rfl) (by kernel_rfl) (by kernel_rfl) (fun _ _ _ h => h) (Or.inl ⟨by rfl, ?_⟩) hHeld ?_
        rotate_left
        · (intro w hSw; (try dsimp only at hSw); go_simp; first | done | with_reducible rfl)
        simp only [Act.put, List.setIfInBounds_toArray, List.set_cons_zero, List.set_cons_succ]
        refine wpAnyH_take (i := 5) (oi := { dst := some 23, op := Op.indexAddr 25 (Operand.tmp 22) (Operand.const (Value.int IntKind.i64 2)), type := 0, pos := "nets.go:252", after := #[{ on := 4, ground := Ground.data }], guard := none }) (v := ?_) rfl (by kernel_rfl) (by kernel_rfl) (by kernel_rfl) (fun _ _ _ h => h) (Or.inl ⟨by rfl, ?_⟩) hHeld ?_
        rotate_left
        · (intro w hSw; (try dsimp only at hSw); go_simp; first | done | with_reducible rfl)
        simp only [Act.put, List.setIfInBounds_toArray, List.set_cons_zero, List.set_cons_succ]
        refine wpAnyH_take (i := 6) (oi := { dst := some 24, op := Op.load 5 (Operand.tmp 23), type := 5, pos := "nets.go:252", after := #[{ on := 5, ground := Ground.data }], guard := none }) (v := ?_) rfl (by kernel_rfl) (by kernel_rfl) (by kernel_rfl) (fun _ _ _ h => h) (Or.inl ⟨by rfl, ?_⟩) hHeld ?_
        rotate_left
        · (intro w hSw; (try dsimp only at hSw); go_simp; first | done | with_reducible rfl)
        simp only [Act.put, List.setIfInBounds_toArray, List.set_cons_zero, List.set_cons_succ]
        refine wpAnyH_take (i := 7) (oi := { dst := some 25, op := Op.convert 5 3 (Operand.tmp 24), type := 3, pos := "nets.go:252", after := #[{ on := 6, ground := Ground.data }], guard := none }) (v := ?_) rfl (by kernel_rfl) (by kernel_rfl) (by kernel_rfl) (fun _ _ _ h => h) (Or.inl ⟨by rfl, ?_⟩) hHeld ?_
        rotate_left
        · (intro w hSw; (try dsimp only at hSw); go_simp; (try rw [A2.out]); first | done | with_reducible rfl)
        simp only [Act.put, List.setIfInBounds_toArray, List.set_cons_zero, List.set_cons_succ]
        refine wpAnyH_take (i := 8) (oi := { dst := some 26, op := Op.binOp BinOp.mul 3 (Operand.tmp 25) (Operand.const (Value.int IntKind.i64 256)) 3, type := 3, pos := "nets.go:252", after := #[{ on := 7, ground := Ground.data }], guard := none }) (v := ?_) rfl (by kernel_rfl) (by kernel_rfl) (by kernel_rfl) (fun _ _ _ h => h) (Or.inl ⟨by rfl, ?_⟩) hHeld ?_
        rotate_left
        · (intro w hSw; (try dsimp only at hSw); go_simp; (try rw [A3.out]); first | done | with_reducible rfl)
        simp only [Act.put, List.setIfInBounds_toArray, List.set_cons_zero, List.set_cons_succ]
        refine wpAnyH_take (i := 9) (oi := { dst := some 27, op := Op.move (Operand.tmp 0), type := 25, pos := "nets.go:252", after := #[], guard := none }) (v := ?_) rfl (by kernel_rfl) (by kernel_rfl) (by kernel_rfl) (fun _ _ _ h => h) (Or.inl ⟨by rfl, ?_⟩) hHeld ?_
        rotate_left
        · (intro w hSw; (try dsimp only at hSw); go_simp; first | done | with_reducible rfl)
        simp only [Act.put, List.setIfInBounds_toArray, List.set_cons_zero, List.set_cons_succ]
        refine wpAnyH_take (i := 10) (oi := { dst := some 28, op := Op.indexAddr 25 (Operand.tmp 27) (Operand.const (Value.int IntKind.i64 3)), type := 0, pos := "nets.go:252", after := #[{ on := 9, ground := Ground.data }], guard := none }) (v := ?_) rfl (by kernel_rfl) (by kernel_rfl) (by kernel_rfl) (fun _ _ _ h => h) (Or.inl ⟨by rfl, ?_⟩) hHeld ?_
        rotate_left
        · (intro w hSw; (try dsimp only at hSw); go_simp; first | done | with_reducible rfl)
        simp only [Act.put, List.setIfInBounds_toArray, List.set_cons_zero, List.set_cons_succ]
        refine wpAnyH_take (i := 11) (oi := { dst := some 29, op := Op.load 5 (Operand.tmp 28), type := 5, pos := "nets.go:252", after := #[{ on := 10, ground := Ground.data }], guard := none }) (v := ?_) rfl (by kernel_rfl) (by kernel_rfl) (by kernel_rfl) (fun _ _ _ h => h) (Or.inl ⟨by rfl, ?_⟩) hHeld ?_
        rotate_left
        · (intro w hSw; (try dsimp only at hSw); go_simp; first | done | with_reducible rfl)
        simp only [Act.put, List.setIfInBounds_toArray, List.set_cons_zero, List.set_cons_succ]
        refine wpAnyH_take (i := 12) (oi := { dst := some 30, op := Op.convert 5 3 (Operand.tmp 29), type := 3, pos := "nets.go:252", after := #[{ on := 11, ground := Ground.data }], guard := none }) (v := ?_) rfl (by kernel_rfl) (by kernel_rfl) (by kernel_rfl) (fun _ _ _ h => h) (Or.inl ⟨by rfl, ?_⟩) hHeld ?_
        rotate_left
        · (intro w hSw; (try dsimp only at hSw); go_simp; (try rw [A4.out]); first | done | with_reducible rfl)
        simp only [Act.put, List.setIfInBounds_toArray, List.set_cons_zero, List.set_cons_succ]
        refine wpAnyH_take (i := 13) (oi := { dst := some 31, op := Op.binOp BinOp.add 3 (Operand.tmp 26) (Operand.tmp 30) 3, type := 3, pos := "nets.go:252", after := #[{ on := 8, ground := Ground.data }, { on := 12, ground := Ground.data }], guard := none }) (v := ?_) rfl (by kernel_rfl) (by kernel_rfl) (by kernel_rfl) (fun _ _ _ h => h) (Or.inl ⟨by rfl, ?_⟩) hHeld ?_
        rotate_left
        · (intro w hSw; (try dsimp only at hSw); go_simp; (try rw [A5.out]); first | done | with_reducible rfl)
        simp only [Act.put, List.setIfInBounds_toArray, List.set_cons_zero, List.set_cons_succ]
        refine wpAnyH_take (i := 14) (oi := { dst := some 32, op := Op.move (Operand.tmp 0), type := 25, pos := "nets.go:252", after := #[], guard := none }) (v := ?_) rfl (by kernel_rfl) (by kernel_rfl) (by kernel_rfl) (fun _ _ _ h => h) (Or.inl ⟨by rfl, ?_⟩) hHeld ?_
        rotate_left
        · (intro w hSw; (try dsimp only at hSw); go_simp; first | done | with_reducible rfl)
        simp only [Act.put, List.setIfInBounds_toArray, List.set_cons_zero, List.set_cons_succ]
        refine wpAnyH_take (i := 16) (oi := { dst := some 34, op := Op.move (Operand.tmp 0), type := 25, pos := "nets.go:252", after := #[], guard := none }) (v := ?_) rfl (by kernel_rfl) (by kernel_rfl) (by kernel_rfl) (fun _ _ _ h => h) (Or.inl ⟨by rfl, ?_⟩) hHeld ?_
        rotate_left
        · (intro w hSw; (try dsimp only at hSw); go_simp; first | done | with_reducible rfl)
        simp only [Act.put, List.setIfInBounds_toArray, List.set_cons_zero, List.set_cons_succ]
        refine wpAnyH_ready (rs := [1, 20]) (by kernel_rfl) (by simp) ?_
        refine (AllReadyH.cons (o := { dst := some 19, op := Op.call { callee := Callee.value (Operand.func 35), args := #[Operand.tmp 18, Operand.const (Value.int IntKind.i64 4)], argTypes := #[25, 3] }, type := 45, pos := "nets.go:252", after := #[{ on := 0, ground := Ground.data }], guard := none }) rfl (fun K hK => ?_) (AllReadyH.cons (o := { dst := some 5, op := Op.alloc 49, type := 0, pos := "nets.go:252", after := #[], guard := none }) rfl (fun K hK => ?_) AllReadyH.nil))
        · go_simp
          go_at_call 35
          refine (N4.out _ HBq.out.drew).mono ?_
          rintro y w1' ⟨rfl, rfl⟩
          have KK1 := ST2.out _ HBq.out.drew.drew
          go_wp2_with fail
          refine hK.out _ _ KK1 (fun hHeld => ?_)
          clear hK K
          refine wpAnyH_take (i := 3) (oi := { dst := some 21, op := Op.build 47 #[(0, Operand.tmp 19), (1, Operand.tmp 20)], type := 47, pos := "nets.go:252", after := #[{ on := 1, ground := Ground.data }, { on := 2, ground := Ground.data }], guard := none }) (v := ?_) rfl (by kernel_rfl) (by kernel_rfl) (by kernel_rfl) (fun _ _ _ h => h) (Or.inl ⟨by rfl, ?_⟩) hHeld ?_
          rotate_left
          · (intro w hSw; (try dsimp only at hSw); go_simp; first | done | with_reducible rfl)
          simp only [Act.put, List.setIfInBounds_toArray, List.set_cons_zero, List.set_cons_succ]
          refine wpAnyH_ready (rs := [15, 20]) (by kernel_rfl) (by simp) ?_
          refine (AllReadyH.cons (o := { dst := some 33, op := Op.call { callee := Callee.value (Operand.func 35), args := #[Operand.tmp 32, Operand.const (Value.int IntKind.i64 12)], argTypes := #[25, 3] }, type := 45, pos := "nets.go:252", after := #[{ on := 14, ground := Ground.data }, { on := 1, ground := Ground.chain }], guard := none }) rfl (fun K hK => ?_) (AllReadyH.cons (o := { dst := some 5, op := Op.alloc 49, type := 0, pos := "nets.go:252", after := #[], guard := none }) rfl (fun K hK => ?_) AllReadyH.nil))
          · go_simp
            go_at_call 35
            refine (N12.out _ HBq.out.drew.drew).mono ?_
            rintro y w15' ⟨rfl, rfl⟩
            have KK15 := ST2.out _ HBq.out.drew.drew.drew
            go_wp2_with fail
            refine hK.out _ _ KK15 (fun hHeld => ?_)
            clear hK K
            refine wpAnyH_ready (rs := [17, 20]) (by kernel_rfl) (by simp) ?_
            refine (AllReadyH.cons (o := { dst := some 35, op := Op.call { callee := Callee.value (Operand.func 35), args := #[Operand.tmp 34, Operand.const (Value.int IntKind.i64 16)], argTypes := #[25, 3] }, type := 45, pos := "nets.go:252", after := #[{ on := 16, ground := Ground.data }, { on := 15, ground := Ground.chain }], guard := none }) rfl (fun K hK => ?_) (AllReadyH.cons (o := { dst := some 5, op := Op.alloc 49, type := 0, pos := "nets.go:252", after := #[], guard := none }) rfl (fun K hK => ?_) AllReadyH.nil))
            · go_simp
              go_at_call 35
              refine (N16.out _ HBq.out.drew.drew.drew).mono ?_
              rintro y w17' ⟨rfl, rfl⟩
              have KK17 := ST2.out _ HBq.out.drew.drew.drew.drew
              go_wp2_with fail
              refine hK.out _ _ KK17 (fun hHeld => ?_)
              clear hK K
              refine wpAnyH_take (i := 18) (oi := { dst := some 36, op := Op.convert 45 3 (Operand.tmp 35), type := 3, pos := "nets.go:252", after := #[{ on := 17, ground := Ground.data }], guard := none }) (v := ?_) rfl (by kernel_rfl) (by kernel_rfl) (by kernel_rfl) (fun _ _ _ h => h) (Or.inl ⟨by rfl, ?_⟩) hHeld ?_
              rotate_left
              · (intro w hSw; (try dsimp only at hSw); go_simp; (try rw [A6.out]); first | done | with_reducible rfl)
              simp only [Act.put, List.setIfInBounds_toArray, List.set_cons_zero, List.set_cons_succ]
              refine wpAnyH_take (i := 19) (oi := { dst := some 37, op := Op.build 49 #[(0, Operand.tmp 21), (1, Operand.tmp 31), (2, Operand.tmp 33), (3, Operand.tmp 36)], type := 49, pos := "nets.go:252", after := #[{ on := 3, ground := Ground.data }, { on := 13, ground := Ground.data }, { on := 15, ground := Ground.data }, { on := 18, ground := Ground.data }], guard := none }) (v := ?_) rfl (by kernel_rfl) (by kernel_rfl) (by kernel_rfl) (fun _ _ _ h => h) (Or.inl ⟨by rfl, ?_⟩) hHeld ?_
              rotate_left
              · (intro w hSw; (try dsimp only at hSw); go_simp; first | done | with_reducible rfl)
              simp only [Act.put, List.setIfInBounds_toArray, List.set_cons_zero, List.set_cons_succ]
              refine wpAnyH_ready (rs := [20]) (by kernel_rfl) (by simp) ?_
              refine (AllReadyH.cons (o := { dst := some 5, op := Op.alloc 49, type := 0, pos := "nets.go:252", after := #[], guard := none }) rfl (fun K hK => ?_) AllReadyH.nil)
              go_simp
              go_wp2_with fail
              have KK20 := ST2.out _ HBA.out.drew.drew.drew.drew
              refine hK.out _ _ KK20 (fun hHeld => ?_)
              clear hK K
              refine wpAnyH_ready (rs := [21]) (by kernel_rfl) (by simp) ?_
              refine (AllReadyH.cons (o := { dst := none, op := Op.store 49 (Operand.tmp 5) (Operand.tmp 37), type := 0, pos := "nets.go:252", after := #[{ on := 20, ground := Ground.data }, { on := 19, ground := Ground.data }, { on := 17, ground := Ground.chain }, { on := 0, ground := Ground.phase }, { on := 1, ground := Ground.phase }, { on := 2, ground := Ground.phase }, { on := 3, ground := Ground.phase }, { on := 4, ground := Ground.phase }, { on := 5, ground := Ground.phase }, { on := 6, ground := Ground.phase }, { on := 7, ground := Ground.phase }, { on := 8, ground := Ground.phase }, { on := 9, ground := Ground.phase }, { on := 10, ground := Ground.phase }, { on := 11, ground := Ground.phase }, { on := 12, ground := Ground.phase }, { on := 13, ground := Ground.phase }, { on := 14, ground := Ground.phase }, { on := 15, ground := Ground.phase }, { on := 16, ground := Ground.phase }, { on := 17, ground := Ground.phase }, { on := 18, ground := Ground.phase }, { on := 19, ground := Ground.phase }, { on := 20, ground := Ground.phase }], guard := none }) rfl (fun K hK => ?_) AllReadyH.nil)
              go_simp
              go_wp2_with fail
              have KK21 := ST2.out _ HBX.out.drew.drew.drew.drew
              refine hK.out _ _ KK21 (fun hHeld => ?_)
              clear hK K
              refine wpAnyH_done (by kernel_rfl) ?_ _
              obtain ⟨s0, s1⟩ := ST0.out _ HBX.out
              obtain ⟨e0, e1, e2, e3, e4⟩ := EX.out
              simp only [Nat.zero_add] at e0 e1 e2 e3 e4
              obtain ⟨⟨r0, r1, r2, r3, r4⟩, rf⟩ := RX.out
              simp only [Nat.zero_add] at r0 r1 r2 r3 r4
              have rf0 := rf 0; have rf1 := rf 1; have rf2 := rf 2; have rf3 := rf 3; have rf4 := rf 4
              clear rf c0 c1 c2 c3 c4 f0 f1 f2 f3 f4 hHeld
              by_cases g0 : x0 = 0
              · subst g0
                by_cases g1 : x1 = 2
                · subst g1
                  by_cases gm : MaskP.mk k = n8
                  · have gm' : ((MaskP.mk k : Int) == (n8 : Int)) = true := by rw [gm]; simp
                    by_cases gc : PrefP.chk n4 (k : Int) = 0
                    · have gc' : (PrefP.chk n4 (k : Int) == 0) = true := by rw [gc]; rfl
                      by_cases m1 : 1 ≤ n16
                      · have m1' : (1 : Int) ≤ n16 := by omega
                        by_cases m2 : n16 ≤ 16
                        · have m2' : (n16 : Int) ≤ 16 := by omega
                          have HX := Lib.hid (HI.out k true HFk.out ⟨fun _ => (HO.out k).2 ⟨rfl, rfl, gm, gc, m1, m2⟩, fun _ => rfl⟩)
                          go_wp2_with fail
                          refine (maskOf_any k hk _).mono ?_
                          rintro y w1 ⟨rfl, rfl⟩
                          go_wp2_with fail
                          refine (N8.out _ HBX.out.drew.drew.drew.drew).mono ?_
                          rintro y w1 ⟨rfl, rfl⟩
                          go_wp2_with fail
                          refine (fault_any n4 (k : Int) h4 _).mono ?_
                          rintro y w5 ⟨rfl, b5⟩
                          have HB5 := Lib.hid (Below.two HBX.out.drew.drew.drew.drew.drew b5)
                          have RX5 := Lib.hid ((RX.out.ofBlock (w1 := _) (by rfl) : EBox _ w.heap.size ⟨0, 0, 0, 0, 0⟩).kept b5)
                          have EX5 := Lib.hid ((SeenO.drew (SeenO.drew (SeenO.drew (SeenO.drew (SeenO.drew EX.out))))).ofBlock (b5.block wq.heap.size (by show wq.heap.size < _; exact ltX.out)))
                          obtain ⟨e0, e1, e2, e3, e4⟩ := EX5.out
                          simp only [Nat.zero_add] at e0 e1 e2 e3 e4
                          obtain ⟨⟨r0, r1, r2, r3, r4⟩, rf⟩ := RX5.out
                          simp only [Nat.zero_add] at r0 r1 r2 r3 r4
                          have rf0 := rf 0; have rf1 := rf 1; have rf2 := rf 2; have rf3 := rf 3; have rf4 := rf 4
                          clear rf b5
                          go_wp2_with fail
                          exact bodyPost_ent (e := ⟨n4, k, (x2 : Int) * 256 + (x3 : Int), n12, n16⟩) (er := .bool true) Tryd.results29 rfl (by first | rfl | exact congrArg Value.bool (decide_eq_false (by omega)) | exact congrArg Value.bool (decide_eq_true (by omega))) (set5 RX5.out ⟨n4, k, (x2 : Int) * 256 + (x3 : Int), n12, n16⟩) rfl (EntTo.of (by rw [← HEK.out]; exact HX.out) (below5 HB5.out _ _ _ _ _))
                        · have m2' : ¬ (n16 : Int) ≤ 16 := by omega
                          have HX := Lib.hid (HI.out k false HFk.out ⟨fun h => (by cases h), fun h => absurd ((HO.out k).1 h).2.2.2.2.2 m2⟩)
                          go_wp2_with fail
                          refine (maskOf_any k hk _).mono ?_
                          rintro y w1 ⟨rfl, rfl⟩
                          go_wp2_with fail
                          refine (N8.out _ HBX.out.drew.drew.drew.drew).mono ?_
                          rintro y w1 ⟨rfl, rfl⟩
                          go_wp2_with fail
                          refine (fault_any n4 (k : Int) h4 _).mono ?_
                          rintro y w5 ⟨rfl, b5⟩
                          have HB5 := Lib.hid (Below.two HBX.out.drew.drew.drew.drew.drew b5)
                          have RX5 := Lib.hid ((RX.out.ofBlock (w1 := _) (by rfl) : EBox _ w.heap.size ⟨0, 0, 0, 0, 0⟩).kept b5)
                          have EX5 := Lib.hid ((SeenO.drew (SeenO.drew (SeenO.drew (SeenO.drew (SeenO.drew EX.out))))).ofBlock (b5.block wq.heap.size (by show wq.heap.size < _; exact ltX.out)))
                          obtain ⟨e0, e1, e2, e3, e4⟩ := EX5.out
                          simp only [Nat.zero_add] at e0 e1 e2 e3 e4
                          obtain ⟨⟨r0, r1, r2, r3, r4⟩, rf⟩ := RX5.out
                          simp only [Nat.zero_add] at r0 r1 r2 r3 r4
                          have rf0 := rf 0; have rf1 := rf 1; have rf2 := rf 2; have rf3 := rf 3; have rf4 := rf 4
                          clear rf b5
                          go_wp2_with fail
                          exact bodyPost_ent (e := ⟨n4, k, (x2 : Int) * 256 + (x3 : Int), n12, n16⟩) (er := .bool false) Tryd.results29 rfl (by first | rfl | exact congrArg Value.bool (decide_eq_false (by omega)) | exact congrArg Value.bool (decide_eq_true (by omega))) (set5 RX5.out ⟨n4, k, (x2 : Int) * 256 + (x3 : Int), n12, n16⟩) rfl (EntTo.of (by rw [← HEK.out]; exact HX.out) (below5 HB5.out _ _ _ _ _))
                      · have m1' : ¬ (1 : Int) ≤ n16 := by omega
                        have HX := Lib.hid (HI.out k false HFk.out ⟨fun h => (by cases h), fun h => absurd ((HO.out k).1 h).2.2.2.2.1 m1⟩)
                        go_wp2_with fail
                        refine (maskOf_any k hk _).mono ?_
                        rintro y w1 ⟨rfl, rfl⟩
                        go_wp2_with fail
                        refine (N8.out _ HBX.out.drew.drew.drew.drew).mono ?_
                        rintro y w1 ⟨rfl, rfl⟩
                        go_wp2_with fail
                        refine (fault_any n4 (k : Int) h4 _).mono ?_
                        rintro y w5 ⟨rfl, b5⟩
                        have HB5 := Lib.hid (Below.two HBX.out.drew.drew.drew.drew.drew b5)
                        have RX5 := Lib.hid ((RX.out.ofBlock (w1 := _) (by rfl) : EBox _ w.heap.size ⟨0, 0, 0, 0, 0⟩).kept b5)
                        have EX5 := Lib.hid ((SeenO.drew (SeenO.drew (SeenO.drew (SeenO.drew (SeenO.drew EX.out))))).ofBlock (b5.block wq.heap.size (by show wq.heap.size < _; exact ltX.out)))
                        obtain ⟨e0, e1, e2, e3, e4⟩ := EX5.out
                        simp only [Nat.zero_add] at e0 e1 e2 e3 e4
                        obtain ⟨⟨r0, r1, r2, r3, r4⟩, rf⟩ := RX5.out
                        simp only [Nat.zero_add] at r0 r1 r2 r3 r4
                        have rf0 := rf 0; have rf1 := rf 1; have rf2 := rf 2; have rf3 := rf 3; have rf4 := rf 4
                        clear rf b5
                        go_wp2_with fail
                        exact bodyPost_ent (e := ⟨n4, k, (x2 : Int) * 256 + (x3 : Int), n12, n16⟩) (er := .bool false) Tryd.results29 rfl rfl (set5 RX5.out ⟨n4, k, (x2 : Int) * 256 + (x3 : Int), n12, n16⟩) rfl (EntTo.of (by rw [← HEK.out]; exact HX.out) (below5 HB5.out _ _ _ _ _))
                    · have gc' : (PrefP.chk n4 (k : Int) == 0) = false := by simpa using gc
                      have HX := Lib.hid (HI.out k false HFk.out ⟨fun h => (by cases h), fun h => absurd ((HO.out k).1 h).2.2.2.1 gc⟩)
                      go_wp2_with fail
                      refine (maskOf_any k hk _).mono ?_
                      rintro y w1 ⟨rfl, rfl⟩
                      go_wp2_with fail
                      refine (N8.out _ HBX.out.drew.drew.drew.drew).mono ?_
                      rintro y w1 ⟨rfl, rfl⟩
                      go_wp2_with fail
                      refine (fault_any n4 (k : Int) h4 _).mono ?_
                      rintro y w5 ⟨rfl, b5⟩
                      have HB5 := Lib.hid (Below.two HBX.out.drew.drew.drew.drew.drew b5)
                      have RX5 := Lib.hid ((RX.out.ofBlock (w1 := _) (by rfl) : EBox _ w.heap.size ⟨0, 0, 0, 0, 0⟩).kept b5)
                      have EX5 := Lib.hid ((SeenO.drew (SeenO.drew (SeenO.drew (SeenO.drew (SeenO.drew EX.out))))).ofBlock (b5.block wq.heap.size (by show wq.heap.size < _; exact ltX.out)))
                      obtain ⟨e0, e1, e2, e3, e4⟩ := EX5.out
                      simp only [Nat.zero_add] at e0 e1 e2 e3 e4
                      obtain ⟨⟨r0, r1, r2, r3, r4⟩, rf⟩ := RX5.out
                      simp only [Nat.zero_add] at r0 r1 r2 r3 r4
                      have rf0 := rf 0; have rf1 := rf 1; have rf2 := rf 2; have rf3 := rf 3; have rf4 := rf 4
                      clear rf b5
                      go_wp2_with fail
                      exact bodyPost_ent (e := ⟨n4, k, (x2 : Int) * 256 + (x3 : Int), n12, n16⟩) (er := .bool false) Tryd.results29 rfl rfl (set5 RX5.out ⟨n4, k, (x2 : Int) * 256 + (x3 : Int), n12, n16⟩) rfl (EntTo.of (by rw [← HEK.out]; exact HX.out) (below5 HB5.out _ _ _ _ _))
                  · have gm' : ((MaskP.mk k : Int) == (n8 : Int)) = false := by
                      have : ¬ (MaskP.mk k : Int) = n8 := by omega
                      simpa using this
                    have HX := Lib.hid (HI.out k false HFk.out ⟨fun h => (by cases h), fun h => absurd ((HO.out k).1 h).2.2.1 gm⟩)
                    go_wp2_with fail
                    refine (maskOf_any k hk _).mono ?_
                    rintro y w1 ⟨rfl, rfl⟩
                    go_wp2_with fail
                    refine (N8.out _ HBX.out.drew.drew.drew.drew).mono ?_
                    rintro y w1 ⟨rfl, rfl⟩
                    go_wp2_with fail
                    exact bodyPost_ent (e := ⟨n4, k, (x2 : Int) * 256 + (x3 : Int), n12, n16⟩) (er := .bool false) Tryd.results29 rfl rfl (set5 RX.out ⟨n4, k, (x2 : Int) * 256 + (x3 : Int), n12, n16⟩).drew.drew.drew.drew.drew rfl (EntTo.of (by rw [← HEK.out]; exact HX.out) (below5 HBX.out _ _ _ _ _).drew.drew.drew.drew.drew)
                · have g1' : ((x1 : Int) == 2) = false := by
                    have : ¬ (x1 : Int) = 2 := by omega
                    simpa using this
                  have HX := Lib.hid (HI.out k false HFk.out ⟨fun h => (by cases h), fun h => absurd ((HO.out k).1 h).2.1 g1⟩)
                  go_wp2_with fail
                  exact bodyPost_ent (e := ⟨n4, k, (x2 : Int) * 256 + (x3 : Int), n12, n16⟩) (er := .bool false) Tryd.results29 rfl rfl (set5 RX.out ⟨n4, k, (x2 : Int) * 256 + (x3 : Int), n12, n16⟩).drew.drew.drew.drew rfl (EntTo.of (by rw [← HEK.out]; exact HX.out) (below5 HBX.out _ _ _ _ _).drew.drew.drew.drew)
              · have g0' : ((x0 : Int) == 0) = false := by
                  have : ¬ (x0 : Int) = 0 := by omega
                  simpa using this
                have HX := Lib.hid (HI.out k false HFk.out ⟨fun h => (by cases h), fun h => absurd ((HO.out k).1 h).1 g0⟩)
                go_wp2_with fail
                exact bodyPost_ent (e := ⟨n4, k, (x2 : Int) * 256 + (x3 : Int), n12, n16⟩) (er := .bool false) Tryd.results29 rfl rfl (set5 RX.out ⟨n4, k, (x2 : Int) * 256 + (x3 : Int), n12, n16⟩).drew.drew.drew.drew rfl (EntTo.of (by rw [← HEK.out]; exact HX.out) (below5 HBX.out _ _ _ _ _).drew.drew.drew.drew)
            · go_simp
              go_wp2_with fail
              have KK20 := ST2.out _ HBA.out.drew.drew.drew
              refine hK.out _ _ KK20 (fun hHeld => ?_)
              clear hK K
              refine wpAnyH_ready (rs := [17]) (by kernel_rfl) (by simp) ?_
              refine (AllReadyH.cons (o := { dst := some 35, op := Op.call { callee := Callee.value (Operand.func 35), args := #[Operand.tmp 34, Operand.const (Value.int IntKind.i64 16)], argTypes := #[25, 3] }, type := 45, pos := "nets.go:252", after := #[{ on := 16, ground := Ground.data }, { on := 15, ground := Ground.chain }], guard := none }) rfl (fun K hK => ?_) AllReadyH.nil)
              go_simp
              go_at_call 35
              refine (N16.out _ HBA.out.drew.drew.drew).mono ?_
              rintro y w17' ⟨rfl, rfl⟩
              have KK17 := ST2.out _ HBA.out.drew.drew.drew.drew
              go_wp2_with fail
              refine hK.out _ _ KK17 (fun hHeld => ?_)
              clear hK K
              refine wpAnyH_take (i := 18) (oi := { dst := some 36, op := Op.convert 45 3 (Operand.tmp 35), type := 3, pos := "nets.go:252", after := #[{ on := 17, ground := Ground.data }], guard := none }) (v := ?_) rfl (by kernel_rfl) (by kernel_rfl) (by kernel_rfl) (fun _ _ _ h => h) (Or.inl ⟨by rfl, ?_⟩) hHeld ?_
              rotate_left
              · (intro w hSw; (try dsimp only at hSw); go_simp; (try rw [A6.out]); first | done | with_reducible rfl)
              simp only [Act.put, List.setIfInBounds_toArray, List.set_cons_zero, List.set_cons_succ]
              refine wpAnyH_take (i := 19) (oi := { dst := some 37, op := Op.build 49 #[(0, Operand.tmp 21), (1, Operand.tmp 31), (2, Operand.tmp 33), (3, Operand.tmp 36)], type := 49, pos := "nets.go:252", after := #[{ on := 3, ground := Ground.data }, { on := 13, ground := Ground.data }, { on := 15, ground := Ground.data }, { on := 18, ground := Ground.data }], guard := none }) (v := ?_) rfl (by kernel_rfl) (by kernel_rfl) (by kernel_rfl) (fun _ _ _ h => h) (Or.inl ⟨by rfl, ?_⟩) hHeld ?_
              rotate_left
              · (intro w hSw; (try dsimp only at hSw); go_simp; first | done | with_reducible rfl)
              simp only [Act.put, List.setIfInBounds_toArray, List.set_cons_zero, List.set_cons_succ]
              refine wpAnyH_ready (rs := [21]) (by kernel_rfl) (by simp) ?_
              refine (AllReadyH.cons (o := { dst := none, op := Op.store 49 (Operand.tmp 5) (Operand.tmp 37), type := 0, pos := "nets.go:252", after := #[{ on := 20, ground := Ground.data }, { on := 19, ground := Ground.data }, { on := 17, ground := Ground.chain }, { on := 0, ground := Ground.phase }, { on := 1, ground := Ground.phase }, { on := 2, ground := Ground.phase }, { on := 3, ground := Ground.phase }, { on := 4, ground := Ground.phase }, { on := 5, ground := Ground.phase }, { on := 6, ground := Ground.phase }, { on := 7, ground := Ground.phase }, { on := 8, ground := Ground.phase }, { on := 9, ground := Ground.phase }, { on := 10, ground := Ground.phase }, { on := 11, ground := Ground.phase }, { on := 12, ground := Ground.phase }, { on := 13, ground := Ground.phase }, { on := 14, ground := Ground.phase }, { on := 15, ground := Ground.phase }, { on := 16, ground := Ground.phase }, { on := 17, ground := Ground.phase }, { on := 18, ground := Ground.phase }, { on := 19, ground := Ground.phase }, { on := 20, ground := Ground.phase }], guard := none }) rfl (fun K hK => ?_) AllReadyH.nil)
              go_simp
              go_wp2_with fail
              have KK21 := ST2.out _ HBX.out.drew.drew.drew.drew
              refine hK.out _ _ KK21 (fun hHeld => ?_)
              clear hK K
              refine wpAnyH_done (by kernel_rfl) ?_ _
              obtain ⟨s0, s1⟩ := ST0.out _ HBX.out
              obtain ⟨e0, e1, e2, e3, e4⟩ := EX.out
              simp only [Nat.zero_add] at e0 e1 e2 e3 e4
              obtain ⟨⟨r0, r1, r2, r3, r4⟩, rf⟩ := RX.out
              simp only [Nat.zero_add] at r0 r1 r2 r3 r4
              have rf0 := rf 0; have rf1 := rf 1; have rf2 := rf 2; have rf3 := rf 3; have rf4 := rf 4
              clear rf c0 c1 c2 c3 c4 f0 f1 f2 f3 f4 hHeld
              by_cases g0 : x0 = 0
              · subst g0
                by_cases g1 : x1 = 2
                · subst g1
                  by_cases gm : MaskP.mk k = n8
                  · have gm' : ((MaskP.mk k : Int) == (n8 : Int)) = true := by rw [gm]; simp
                    by_cases gc : PrefP.chk n4 (k : Int) = 0
                    · have gc' : (PrefP.chk n4 (k : Int) == 0) = true := by rw [gc]; rfl
                      by_cases m1 : 1 ≤ n16
                      · have m1' : (1 : Int) ≤ n16 := by omega
                        by_cases m2 : n16 ≤ 16
                        · have m2' : (n16 : Int) ≤ 16 := by omega
                          have HX := Lib.hid (HI.out k true HFk.out ⟨fun _ => (HO.out k).2 ⟨rfl, rfl, gm, gc, m1, m2⟩, fun _ => rfl⟩)
                          go_wp2_with fail
                          refine (maskOf_any k hk _).mono ?_
                          rintro y w1 ⟨rfl, rfl⟩
                          go_wp2_with fail
                          refine (N8.out _ HBX.out.drew.drew.drew.drew).mono ?_
                          rintro y w1 ⟨rfl, rfl⟩
                          go_wp2_with fail
                          refine (fault_any n4 (k : Int) h4 _).mono ?_
                          rintro y w5 ⟨rfl, b5⟩
                          have HB5 := Lib.hid (Below.two HBX.out.drew.drew.drew.drew.drew b5)
                          have RX5 := Lib.hid ((RX.out.ofBlock (w1 := _) (by rfl) : EBox _ w.heap.size ⟨0, 0, 0, 0, 0⟩).kept b5)
                          have EX5 := Lib.hid ((SeenO.drew (SeenO.drew (SeenO.drew (SeenO.drew (SeenO.drew EX.out))))).ofBlock (b5.block wq.heap.size (by show wq.heap.size < _; exact ltX.out)))
                          obtain ⟨e0, e1, e2, e3, e4⟩ := EX5.out
                          simp only [Nat.zero_add] at e0 e1 e2 e3 e4
                          obtain ⟨⟨r0, r1, r2, r3, r4⟩, rf⟩ := RX5.out
                          simp only [Nat.zero_add] at r0 r1 r2 r3 r4
                          have rf0 := rf 0; have rf1 := rf 1; have rf2 := rf 2; have rf3 := rf 3; have rf4 := rf 4
                          clear rf b5
                          go_wp2_with fail
                          exact bodyPost_ent (e := ⟨n4, k, (x2 : Int) * 256 + (x3 : Int), n12, n16⟩) (er := .bool true) Tryd.results29 rfl (by first | rfl | exact congrArg Value.bool (decide_eq_false (by omega)) | exact congrArg Value.bool (decide_eq_true (by omega))) (set5 RX5.out ⟨n4, k, (x2 : Int) * 256 + (x3 : Int), n12, n16⟩) rfl (EntTo.of (by rw [← HEK.out]; exact HX.out) (below5 HB5.out _ _ _ _ _))
                        · have m2' : ¬ (n16 : Int) ≤ 16 := by omega
                          have HX := Lib.hid (HI.out k false HFk.out ⟨fun h => (by cases h), fun h => absurd ((HO.out k).1 h).2.2.2.2.2 m2⟩)
                          go_wp2_with fail
                          refine (maskOf_any k hk _).mono ?_
                          rintro y w1 ⟨rfl, rfl⟩
                          go_wp2_with fail
                          refine (N8.out _ HBX.out.drew.drew.drew.drew).mono ?_
                          rintro y w1 ⟨rfl, rfl⟩
                          go_wp2_with fail
                          refine (fault_any n4 (k : Int) h4 _).mono ?_
                          rintro y w5 ⟨rfl, b5⟩
                          have HB5 := Lib.hid (Below.two HBX.out.drew.drew.drew.drew.drew b5)
                          have RX5 := Lib.hid ((RX.out.ofBlock (w1 := _) (by rfl) : EBox _ w.heap.size ⟨0, 0, 0, 0, 0⟩).kept b5)
                          have EX5 := Lib.hid ((SeenO.drew (SeenO.drew (SeenO.drew (SeenO.drew (SeenO.drew EX.out))))).ofBlock (b5.block wq.heap.size (by show wq.heap.size < _; exact ltX.out)))
                          obtain ⟨e0, e1, e2, e3, e4⟩ := EX5.out
                          simp only [Nat.zero_add] at e0 e1 e2 e3 e4
                          obtain ⟨⟨r0, r1, r2, r3, r4⟩, rf⟩ := RX5.out
                          simp only [Nat.zero_add] at r0 r1 r2 r3 r4
                          have rf0 := rf 0; have rf1 := rf 1; have rf2 := rf 2; have rf3 := rf 3; have rf4 := rf 4
                          clear rf b5
                          go_wp2_with fail
                          exact bodyPost_ent (e := ⟨n4, k, (x2 : Int) * 256 + (x3 : Int), n12, n16⟩) (er := .bool false) Tryd.results29 rfl (by first | rfl | exact congrArg Value.bool (decide_eq_false (by omega)) | exact congrArg Value.bool (decide_eq_true (by omega))) (set5 RX5.out ⟨n4, k, (x2 : Int) * 256 + (x3 : Int), n12, n16⟩) rfl (EntTo.of (by rw [← HEK.out]; exact HX.out) (below5 HB5.out _ _ _ _ _))
                      · have m1' : ¬ (1 : Int) ≤ n16 := by omega
                        have HX := Lib.hid (HI.out k false HFk.out ⟨fun h => (by cases h), fun h => absurd ((HO.out k).1 h).2.2.2.2.1 m1⟩)
                        go_wp2_with fail
                        refine (maskOf_any k hk _).mono ?_
                        rintro y w1 ⟨rfl, rfl⟩
                        go_wp2_with fail
                        refine (N8.out _ HBX.out.drew.drew.drew.drew).mono ?_
                        rintro y w1 ⟨rfl, rfl⟩
                        go_wp2_with fail
                        refine (fault_any n4 (k : Int) h4 _).mono ?_
                        rintro y w5 ⟨rfl, b5⟩
                        have HB5 := Lib.hid (Below.two HBX.out.drew.drew.drew.drew.drew b5)
                        have RX5 := Lib.hid ((RX.out.ofBlock (w1 := _) (by rfl) : EBox _ w.heap.size ⟨0, 0, 0, 0, 0⟩).kept b5)
                        have EX5 := Lib.hid ((SeenO.drew (SeenO.drew (SeenO.drew (SeenO.drew (SeenO.drew EX.out))))).ofBlock (b5.block wq.heap.size (by show wq.heap.size < _; exact ltX.out)))
                        obtain ⟨e0, e1, e2, e3, e4⟩ := EX5.out
                        simp only [Nat.zero_add] at e0 e1 e2 e3 e4
                        obtain ⟨⟨r0, r1, r2, r3, r4⟩, rf⟩ := RX5.out
                        simp only [Nat.zero_add] at r0 r1 r2 r3 r4
                        have rf0 := rf 0; have rf1 := rf 1; have rf2 := rf 2; have rf3 := rf 3; have rf4 := rf 4
                        clear rf b5
                        go_wp2_with fail
                        exact bodyPost_ent (e := ⟨n4, k, (x2 : Int) * 256 + (x3 : Int), n12, n16⟩) (er := .bool false) Tryd.results29 rfl rfl (set5 RX5.out ⟨n4, k, (x2 : Int) * 256 + (x3 : Int), n12, n16⟩) rfl (EntTo.of (by rw [← HEK.out]; exact HX.out) (below5 HB5.out _ _ _ _ _))
                    · have gc' : (PrefP.chk n4 (k : Int) == 0) = false := by simpa using gc
                      have HX := Lib.hid (HI.out k false HFk.out ⟨fun h => (by cases h), fun h => absurd ((HO.out k).1 h).2.2.2.1 gc⟩)
                      go_wp2_with fail
                      refine (maskOf_any k hk _).mono ?_
                      rintro y w1 ⟨rfl, rfl⟩
                      go_wp2_with fail
                      refine (N8.out _ HBX.out.drew.drew.drew.drew).mono ?_
                      rintro y w1 ⟨rfl, rfl⟩
                      go_wp2_with fail
                      refine (fault_any n4 (k : Int) h4 _).mono ?_
                      rintro y w5 ⟨rfl, b5⟩
                      have HB5 := Lib.hid (Below.two HBX.out.drew.drew.drew.drew.drew b5)
                      have RX5 := Lib.hid ((RX.out.ofBlock (w1 := _) (by rfl) : EBox _ w.heap.size ⟨0, 0, 0, 0, 0⟩).kept b5)
                      have EX5 := Lib.hid ((SeenO.drew (SeenO.drew (SeenO.drew (SeenO.drew (SeenO.drew EX.out))))).ofBlock (b5.block wq.heap.size (by show wq.heap.size < _; exact ltX.out)))
                      obtain ⟨e0, e1, e2, e3, e4⟩ := EX5.out
                      simp only [Nat.zero_add] at e0 e1 e2 e3 e4
                      obtain ⟨⟨r0, r1, r2, r3, r4⟩, rf⟩ := RX5.out
                      simp only [Nat.zero_add] at r0 r1 r2 r3 r4
                      have rf0 := rf 0; have rf1 := rf 1; have rf2 := rf 2; have rf3 := rf 3; have rf4 := rf 4
                      clear rf b5
                      go_wp2_with fail
                      exact bodyPost_ent (e := ⟨n4, k, (x2 : Int) * 256 + (x3 : Int), n12, n16⟩) (er := .bool false) Tryd.results29 rfl rfl (set5 RX5.out ⟨n4, k, (x2 : Int) * 256 + (x3 : Int), n12, n16⟩) rfl (EntTo.of (by rw [← HEK.out]; exact HX.out) (below5 HB5.out _ _ _ _ _))
                  · have gm' : ((MaskP.mk k : Int) == (n8 : Int)) = false := by
                      have : ¬ (MaskP.mk k : Int) = n8 := by omega
                      simpa using this
                    have HX := Lib.hid (HI.out k false HFk.out ⟨fun h => (by cases h), fun h => absurd ((HO.out k).1 h).2.2.1 gm⟩)
                    go_wp2_with fail
                    refine (maskOf_any k hk _).mono ?_
                    rintro y w1 ⟨rfl, rfl⟩
                    go_wp2_with fail
                    refine (N8.out _ HBX.out.drew.drew.drew.drew).mono ?_
                    rintro y w1 ⟨rfl, rfl⟩
                    go_wp2_with fail
                    exact bodyPost_ent (e := ⟨n4, k, (x2 : Int) * 256 + (x3 : Int), n12, n16⟩) (er := .bool false) Tryd.results29 rfl rfl (set5 RX.out ⟨n4, k, (x2 : Int) * 256 + (x3 : Int), n12, n16⟩).drew.drew.drew.drew.drew rfl (EntTo.of (by rw [← HEK.out]; exact HX.out) (below5 HBX.out _ _ _ _ _).drew.drew.drew.drew.drew)
                · have g1' : ((x1 : Int) == 2) = false := by
                    have : ¬ (x1 : Int) = 2 := by omega
                    simpa using this
                  have HX := Lib.hid (HI.out k false HFk.out ⟨fun h => (by cases h), fun h => absurd ((HO.out k).1 h).2.1 g1⟩)
                  go_wp2_with fail
                  exact bodyPost_ent (e := ⟨n4, k, (x2 : Int) * 256 + (x3 : Int), n12, n16⟩) (er := .bool false) Tryd.results29 rfl rfl (set5 RX.out ⟨n4, k, (x2 : Int) * 256 + (x3 : Int), n12, n16⟩).drew.drew.drew.drew rfl (EntTo.of (by rw [← HEK.out]; exact HX.out) (below5 HBX.out _ _ _ _ _).drew.drew.drew.drew)
              · have g0' : ((x0 : Int) == 0) = false := by
                  have : ¬ (x0 : Int) = 0 := by omega
                  simpa using this
                have HX := Lib.hid (HI.out k false HFk.out ⟨fun h => (by cases h), fun h => absurd ((HO.out k).1 h).1 g0⟩)
                go_wp2_with fail
                exact bodyPost_ent (e := ⟨n4, k, (x2 : Int) * 256 + (x3 : Int), n12, n16⟩) (er := .bool false) Tryd.results29 rfl rfl (set5 RX.out ⟨n4, k, (x2 : Int) * 256 + (x3 : Int), n12, n16⟩).drew.drew.drew.drew rfl (EntTo.of (by rw [← HEK.out]; exact HX.out) (below5 HBX.out _ _ _ _ _).drew.drew.drew.drew)
          · go_simp
            go_wp2_with fail
            have KK20 := ST2.out _ HBA.out.drew.drew
            refine hK.out _ _ KK20 (fun hHeld => ?_)
            clear hK K
            refine wpAnyH_ready (rs := [15]) (by kernel_rfl) (by simp) ?_
            refine (AllReadyH.cons (o := { dst := some 33, op := Op.call { callee := Callee.value (Operand.func 35), args := #[Operand.tmp 32, Operand.const (Value.int IntKind.i64 12)], argTypes := #[25, 3] }, type := 45, pos := "nets.go:252", after := #[{ on := 14, ground := Ground.data }, { on := 1, ground := Ground.chain }], guard := none }) rfl (fun K hK => ?_) AllReadyH.nil)
            go_simp
            go_at_call 35
            refine (N12.out _ HBA.out.drew.drew).mono ?_
            rintro y w15' ⟨rfl, rfl⟩
            have KK15 := ST2.out _ HBA.out.drew.drew.drew
            go_wp2_with fail
            refine hK.out _ _ KK15 (fun hHeld => ?_)
            clear hK K
            refine wpAnyH_ready (rs := [17]) (by kernel_rfl) (by simp) ?_
            refine (AllReadyH.cons (o := { dst := some 35, op := Op.call { callee := Callee.value (Operand.func 35), args := #[Operand.tmp 34, Operand.const (Value.int IntKind.i64 16)], argTypes := #[25, 3] }, type := 45, pos := "nets.go:252", after := #[{ on := 16, ground := Ground.data }, { on := 15, ground := Ground.chain }], guard := none }) rfl (fun K hK => ?_) AllReadyH.nil)
            go_simp
            go_at_call 35
            refine (N16.out _ HBA.out.drew.drew.drew).mono ?_
            rintro y w17' ⟨rfl, rfl⟩
            have KK17 := ST2.out _ HBA.out.drew.drew.drew.drew
            go_wp2_with fail
            refine hK.out _ _ KK17 (fun hHeld => ?_)
            clear hK K
            refine wpAnyH_take (i := 18) (oi := { dst := some 36, op := Op.convert 45 3 (Operand.tmp 35), type := 3, pos := "nets.go:252", after := #[{ on := 17, ground := Ground.data }], guard := none }) (v := ?_) rfl (by kernel_rfl) (by kernel_rfl) (by kernel_rfl) (fun _ _ _ h => h) (Or.inl ⟨by rfl, ?_⟩) hHeld ?_
            rotate_left
            · (intro w hSw; (try dsimp only at hSw); go_simp; (try rw [A6.out]); first | done | with_reducible rfl)
            simp only [Act.put, List.setIfInBounds_toArray, List.set_cons_zero, List.set_cons_succ]
            refine wpAnyH_take (i := 19) (oi := { dst := some 37, op := Op.build 49 #[(0, Operand.tmp 21), (1, Operand.tmp 31), (2, Operand.tmp 33), (3, Operand.tmp 36)], type := 49, pos := "nets.go:252", after := #[{ on := 3, ground := Ground.data }, { on := 13, ground := Ground.data }, { on := 15, ground := Ground.data }, { on := 18, ground := Ground.data }], guard := none }) (v := ?_) rfl (by kernel_rfl) (by kernel_rfl) (by kernel_rfl) (fun _ _ _ h => h) (Or.inl ⟨by rfl, ?_⟩) hHeld ?_
            rotate_left
            · (intro w hSw; (try dsimp only at hSw); go_simp; first | done | with_reducible rfl)
            simp only [Act.put, List.setIfInBounds_toArray, List.set_cons_zero, List.set_cons_succ]
            refine wpAnyH_ready (rs := [21]) (by kernel_rfl) (by simp) ?_
            refine (AllReadyH.cons (o := { dst := none, op := Op.store 49 (Operand.tmp 5) (Operand.tmp 37), type := 0, pos := "nets.go:252", after := #[{ on := 20, ground := Ground.data }, { on := 19, ground := Ground.data }, { on := 17, ground := Ground.chain }, { on := 0, ground := Ground.phase }, { on := 1, ground := Ground.phase }, { on := 2, ground := Ground.phase }, { on := 3, ground := Ground.phase }, { on := 4, ground := Ground.phase }, { on := 5, ground := Ground.phase }, { on := 6, ground := Ground.phase }, { on := 7, ground := Ground.phase }, { on := 8, ground := Ground.phase }, { on := 9, ground := Ground.phase }, { on := 10, ground := Ground.phase }, { on := 11, ground := Ground.phase }, { on := 12, ground := Ground.phase }, { on := 13, ground := Ground.phase }, { on := 14, ground := Ground.phase }, { on := 15, ground := Ground.phase }, { on := 16, ground := Ground.phase }, { on := 17, ground := Ground.phase }, { on := 18, ground := Ground.phase }, { on := 19, ground := Ground.phase }, { on := 20, ground := Ground.phase }], guard := none }) rfl (fun K hK => ?_) AllReadyH.nil)
            go_simp
            go_wp2_with fail
            have KK21 := ST2.out _ HBX.out.drew.drew.drew.drew
            refine hK.out _ _ KK21 (fun hHeld => ?_)
            clear hK K
            refine wpAnyH_done (by kernel_rfl) ?_ _
            obtain ⟨s0, s1⟩ := ST0.out _ HBX.out
            obtain ⟨e0, e1, e2, e3, e4⟩ := EX.out
            simp only [Nat.zero_add] at e0 e1 e2 e3 e4
            obtain ⟨⟨r0, r1, r2, r3, r4⟩, rf⟩ := RX.out
            simp only [Nat.zero_add] at r0 r1 r2 r3 r4
            have rf0 := rf 0; have rf1 := rf 1; have rf2 := rf 2; have rf3 := rf 3; have rf4 := rf 4
            clear rf c0 c1 c2 c3 c4 f0 f1 f2 f3 f4 hHeld
            by_cases g0 : x0 = 0
            · subst g0
              by_cases g1 : x1 = 2
              · subst g1
                by_cases gm : MaskP.mk k = n8
                · have gm' : ((MaskP.mk k : Int) == (n8 : Int)) = true := by rw [gm]; simp
                  by_cases gc : PrefP.chk n4 (k : Int) = 0
                  · have gc' : (PrefP.chk n4 (k : Int) == 0) = true := by rw [gc]; rfl
                    by_cases m1 : 1 ≤ n16
                    · have m1' : (1 : Int) ≤ n16 := by omega
                      by_cases m2 : n16 ≤ 16
                      · have m2' : (n16 : Int) ≤ 16 := by omega
                        have HX := Lib.hid (HI.out k true HFk.out ⟨fun _ => (HO.out k).2 ⟨rfl, rfl, gm, gc, m1, m2⟩, fun _ => rfl⟩)
                        go_wp2_with fail
                        refine (maskOf_any k hk _).mono ?_
                        rintro y w1 ⟨rfl, rfl⟩
                        go_wp2_with fail
                        refine (N8.out _ HBX.out.drew.drew.drew.drew).mono ?_
                        rintro y w1 ⟨rfl, rfl⟩
                        go_wp2_with fail
                        refine (fault_any n4 (k : Int) h4 _).mono ?_
                        rintro y w5 ⟨rfl, b5⟩
                        have HB5 := Lib.hid (Below.two HBX.out.drew.drew.drew.drew.drew b5)
                        have RX5 := Lib.hid ((RX.out.ofBlock (w1 := _) (by rfl) : EBox _ w.heap.size ⟨0, 0, 0, 0, 0⟩).kept b5)
                        have EX5 := Lib.hid ((SeenO.drew (SeenO.drew (SeenO.drew (SeenO.drew (SeenO.drew EX.out))))).ofBlock (b5.block wq.heap.size (by show wq.heap.size < _; exact ltX.out)))
                        obtain ⟨e0, e1, e2, e3, e4⟩ := EX5.out
                        simp only [Nat.zero_add] at e0 e1 e2 e3 e4
                        obtain ⟨⟨r0, r1, r2, r3, r4⟩, rf⟩ := RX5.out
                        simp only [Nat.zero_add] at r0 r1 r2 r3 r4
                        have rf0 := rf 0; have rf1 := rf 1; have rf2 := rf 2; have rf3 := rf 3; have rf4 := rf 4
                        clear rf b5
                        go_wp2_with fail
                        exact bodyPost_ent (e := ⟨n4, k, (x2 : Int) * 256 + (x3 : Int), n12, n16⟩) (er := .bool true) Tryd.results29 rfl (by first | rfl | exact congrArg Value.bool (decide_eq_false (by omega)) | exact congrArg Value.bool (decide_eq_true (by omega))) (set5 RX5.out ⟨n4, k, (x2 : Int) * 256 + (x3 : Int), n12, n16⟩) rfl (EntTo.of (by rw [← HEK.out]; exact HX.out) (below5 HB5.out _ _ _ _ _))
                      · have m2' : ¬ (n16 : Int) ≤ 16 := by omega
                        have HX := Lib.hid (HI.out k false HFk.out ⟨fun h => (by cases h), fun h => absurd ((HO.out k).1 h).2.2.2.2.2 m2⟩)
                        go_wp2_with fail
                        refine (maskOf_any k hk _).mono ?_
                        rintro y w1 ⟨rfl, rfl⟩
                        go_wp2_with fail
                        refine (N8.out _ HBX.out.drew.drew.drew.drew).mono ?_
                        rintro y w1 ⟨rfl, rfl⟩
                        go_wp2_with fail
                        refine (fault_any n4 (k : Int) h4 _).mono ?_
                        rintro y w5 ⟨rfl, b5⟩
                        have HB5 := Lib.hid (Below.two HBX.out.drew.drew.drew.drew.drew b5)
                        have RX5 := Lib.hid ((RX.out.ofBlock (w1 := _) (by rfl) : EBox _ w.heap.size ⟨0, 0, 0, 0, 0⟩).kept b5)
                        have EX5 := Lib.hid ((SeenO.drew (SeenO.drew (SeenO.drew (SeenO.drew (SeenO.drew EX.out))))).ofBlock (b5.block wq.heap.size (by show wq.heap.size < _; exact ltX.out)))
                        obtain ⟨e0, e1, e2, e3, e4⟩ := EX5.out
                        simp only [Nat.zero_add] at e0 e1 e2 e3 e4
                        obtain ⟨⟨r0, r1, r2, r3, r4⟩, rf⟩ := RX5.out
                        simp only [Nat.zero_add] at r0 r1 r2 r3 r4
                        have rf0 := rf 0; have rf1 := rf 1; have rf2 := rf 2; have rf3 := rf 3; have rf4 := rf 4
                        clear rf b5
                        go_wp2_with fail
                        exact bodyPost_ent (e := ⟨n4, k, (x2 : Int) * 256 + (x3 : Int), n12, n16⟩) (er := .bool false) Tryd.results29 rfl (by first | rfl | exact congrArg Value.bool (decide_eq_false (by omega)) | exact congrArg Value.bool (decide_eq_true (by omega))) (set5 RX5.out ⟨n4, k, (x2 : Int) * 256 + (x3 : Int), n12, n16⟩) rfl (EntTo.of (by rw [← HEK.out]; exact HX.out) (below5 HB5.out _ _ _ _ _))
                    · have m1' : ¬ (1 : Int) ≤ n16 := by omega
                      have HX := Lib.hid (HI.out k false HFk.out ⟨fun h => (by cases h), fun h => absurd ((HO.out k).1 h).2.2.2.2.1 m1⟩)
                      go_wp2_with fail
                      refine (maskOf_any k hk _).mono ?_
                      rintro y w1 ⟨rfl, rfl⟩
                      go_wp2_with fail
                      refine (N8.out _ HBX.out.drew.drew.drew.drew).mono ?_
                      rintro y w1 ⟨rfl, rfl⟩
                      go_wp2_with fail
                      refine (fault_any n4 (k : Int) h4 _).mono ?_
                      rintro y w5 ⟨rfl, b5⟩
                      have HB5 := Lib.hid (Below.two HBX.out.drew.drew.drew.drew.drew b5)
                      have RX5 := Lib.hid ((RX.out.ofBlock (w1 := _) (by rfl) : EBox _ w.heap.size ⟨0, 0, 0, 0, 0⟩).kept b5)
                      have EX5 := Lib.hid ((SeenO.drew (SeenO.drew (SeenO.drew (SeenO.drew (SeenO.drew EX.out))))).ofBlock (b5.block wq.heap.size (by show wq.heap.size < _; exact ltX.out)))
                      obtain ⟨e0, e1, e2, e3, e4⟩ := EX5.out
                      simp only [Nat.zero_add] at e0 e1 e2 e3 e4
                      obtain ⟨⟨r0, r1, r2, r3, r4⟩, rf⟩ := RX5.out
                      simp only [Nat.zero_add] at r0 r1 r2 r3 r4
                      have rf0 := rf 0; have rf1 := rf 1; have rf2 := rf 2; have rf3 := rf 3; have rf4 := rf 4
                      clear rf b5
                      go_wp2_with fail
                      exact bodyPost_ent (e := ⟨n4, k, (x2 : Int) * 256 + (x3 : Int), n12, n16⟩) (er := .bool false) Tryd.results29 rfl rfl (set5 RX5.out ⟨n4, k, (x2 : Int) * 256 + (x3 : Int), n12, n16⟩) rfl (EntTo.of (by rw [← HEK.out]; exact HX.out) (below5 HB5.out _ _ _ _ _))
                  · have gc' : (PrefP.chk n4 (k : Int) == 0) = false := by simpa using gc
                    have HX := Lib.hid (HI.out k false HFk.out ⟨fun h => (by cases h), fun h => absurd ((HO.out k).1 h).2.2.2.1 gc⟩)
                    go_wp2_with fail
                    refine (maskOf_any k hk _).mono ?_
                    rintro y w1 ⟨rfl, rfl⟩
                    go_wp2_with fail
                    refine (N8.out _ HBX.out.drew.drew.drew.drew).mono ?_
                    rintro y w1 ⟨rfl, rfl⟩
                    go_wp2_with fail
                    refine (fault_any n4 (k : Int) h4 _).mono ?_
                    rintro y w5 ⟨rfl, b5⟩
                    have HB5 := Lib.hid (Below.two HBX.out.drew.drew.drew.drew.drew b5)
                    have RX5 := Lib.hid ((RX.out.ofBlock (w1 := _) (by rfl) : EBox _ w.heap.size ⟨0, 0, 0, 0, 0⟩).kept b5)
                    have EX5 := Lib.hid ((SeenO.drew (SeenO.drew (SeenO.drew (SeenO.drew (SeenO.drew EX.out))))).ofBlock (b5.block wq.heap.size (by show wq.heap.size < _; exact ltX.out)))
                    obtain ⟨e0, e1, e2, e3, e4⟩ := EX5.out
                    simp only [Nat.zero_add] at e0 e1 e2 e3 e4
                    obtain ⟨⟨r0, r1, r2, r3, r4⟩, rf⟩ := RX5.out
                    simp only [Nat.zero_add] at r0 r1 r2 r3 r4
                    have rf0 := rf 0; have rf1 := rf 1; have rf2 := rf 2; have rf3 := rf 3; have rf4 := rf 4
                    clear rf b5
                    go_wp2_with fail
                    exact bodyPost_ent (e := ⟨n4, k, (x2 : Int) * 256 + (x3 : Int), n12, n16⟩) (er := .bool false) Tryd.results29 rfl rfl (set5 RX5.out ⟨n4, k, (x2 : Int) * 256 + (x3 : Int), n12, n16⟩) rfl (EntTo.of (by rw [← HEK.out]; exact HX.out) (below5 HB5.out _ _ _ _ _))
                · have gm' : ((MaskP.mk k : Int) == (n8 : Int)) = false := by
                    have : ¬ (MaskP.mk k : Int) = n8 := by omega
                    simpa using this
                  have HX := Lib.hid (HI.out k false HFk.out ⟨fun h => (by cases h), fun h => absurd ((HO.out k).1 h).2.2.1 gm⟩)
                  go_wp2_with fail
                  refine (maskOf_any k hk _).mono ?_
                  rintro y w1 ⟨rfl, rfl⟩
                  go_wp2_with fail
                  refine (N8.out _ HBX.out.drew.drew.drew.drew).mono ?_
                  rintro y w1 ⟨rfl, rfl⟩
                  go_wp2_with fail
                  exact bodyPost_ent (e := ⟨n4, k, (x2 : Int) * 256 + (x3 : Int), n12, n16⟩) (er := .bool false) Tryd.results29 rfl rfl (set5 RX.out ⟨n4, k, (x2 : Int) * 256 + (x3 : Int), n12, n16⟩).drew.drew.drew.drew.drew rfl (EntTo.of (by rw [← HEK.out]; exact HX.out) (below5 HBX.out _ _ _ _ _).drew.drew.drew.drew.drew)
              · have g1' : ((x1 : Int) == 2) = false := by
                  have : ¬ (x1 : Int) = 2 := by omega
                  simpa using this
                have HX := Lib.hid (HI.out k false HFk.out ⟨fun h => (by cases h), fun h => absurd ((HO.out k).1 h).2.1 g1⟩)
                go_wp2_with fail
                exact bodyPost_ent (e := ⟨n4, k, (x2 : Int) * 256 + (x3 : Int), n12, n16⟩) (er := .bool false) Tryd.results29 rfl rfl (set5 RX.out ⟨n4, k, (x2 : Int) * 256 + (x3 : Int), n12, n16⟩).drew.drew.drew.drew rfl (EntTo.of (by rw [← HEK.out]; exact HX.out) (below5 HBX.out _ _ _ _ _).drew.drew.drew.drew)
            · have g0' : ((x0 : Int) == 0) = false := by
                have : ¬ (x0 : Int) = 0 := by omega
                simpa using this
              have HX := Lib.hid (HI.out k false HFk.out ⟨fun h => (by cases h), fun h => absurd ((HO.out k).1 h).1 g0⟩)
              go_wp2_with fail
              exact bodyPost_ent (e := ⟨n4, k, (x2 : Int) * 256 + (x3 : Int), n12, n16⟩) (er := .bool false) Tryd.results29 rfl rfl (set5 RX.out ⟨n4, k, (x2 : Int) * 256 + (x3 : Int), n12, n16⟩).drew.drew.drew.drew rfl (EntTo.of (by rw [← HEK.out]; exact HX.out) (below5 HBX.out _ _ _ _ _).drew.drew.drew.drew)
        · go_simp
          go_wp2_with fail
          have KK20 := ST2.out _ HBA.out.drew
          refine hK.out _ _ KK20 (fun hHeld => ?_)
          clear hK K
          refine wpAnyH_ready (rs := [1]) (by kernel_rfl) (by simp) ?_
          refine (AllReadyH.cons (o := { dst := some 19, op := Op.call { callee := Callee.value (Operand.func 35), args := #[Operand.tmp 18, Operand.const (Value.int IntKind.i64 4)], argTypes := #[25, 3] }, type := 45, pos := "nets.go:252", after := #[{ on := 0, ground := Ground.data }], guard := none }) rfl (fun K hK => ?_) AllReadyH.nil)
          go_simp
          go_at_call 35
          refine (N4.out _ HBA.out.drew).mono ?_
          rintro y w1' ⟨rfl, rfl⟩
          have KK1 := ST2.out _ HBA.out.drew.drew
          go_wp2_with fail
          refine hK.out _ _ KK1 (fun hHeld => ?_)
          clear hK K
          refine wpAnyH_take (i := 3) (oi := { dst := some 21, op := Op.build 47 #[(0, Operand.tmp 19), (1, Operand.tmp 20)], type := 47, pos := "nets.go:252", after := #[{ on := 1, ground := Ground.data }, { on := 2, ground := Ground.data }], guard := none }) (v := ?_) rfl (by kernel_rfl) (by kernel_rfl) (by kernel_rfl) (fun _ _ _ h => h) (Or.inl ⟨by rfl, ?_⟩) hHeld ?_
          rotate_left
          · (intro w hSw; (try dsimp only at hSw); go_simp; first | done | with_reducible rfl)
          simp only [Act.put, List.setIfInBounds_toArray, List.set_cons_zero, List.set_cons_succ]
          refine wpAnyH_ready (rs := [15]) (by kernel_rfl) (by simp) ?_
          refine (AllReadyH.cons (o := { dst := some 33, op := Op.call { callee := Callee.value (Operand.func 35), args := #[Operand.tmp 32, Operand.const (Value.int IntKind.i64 12)], argTypes := #[25, 3] }, type := 45, pos := "nets.go:252", after := #[{ on := 14, ground := Ground.data }, { on := 1, ground := Ground.chain }], guard := none }) rfl (fun K hK => ?_) AllReadyH.nil)
          go_simp
          go_at_call 35
          refine (N12.out _ HBA.out.drew.drew).mono ?_
          rintro y w15' ⟨rfl, rfl⟩
          have KK15 := ST2.out _ HBA.out.drew.drew.drew
          go_wp2_with fail
          refine hK.out _ _ KK15 (fun hHeld => ?_)
          clear hK K
          refine wpAnyH_ready (rs := [17]) (by kernel_rfl) (by simp) ?_
          refine (AllReadyH.cons (o := { dst := some 35, op := Op.call { callee := Callee.value (Operand.func 35), args := #[Operand.tmp 34, Operand.const (Value.int IntKind.i64 16)], argTypes := #[25, 3] }, type := 45, pos := "nets.go:252", after := #[{ on := 16, ground := Ground.data }, { on := 15, ground := Ground.chain }], guard := none }) rfl (fun K hK => ?_) AllReadyH.nil)
          go_simp
          go_at_call 35
          refine (N16.out _ HBA.out.drew.drew.drew).mono ?_
          rintro y w17' ⟨rfl, rfl⟩
          have KK17 := ST2.out _ HBA.out.drew.drew.drew.drew
          go_wp2_with fail
          refine hK.out _ _ KK17 (fun hHeld => ?_)
          clear hK K
          refine wpAnyH_take (i := 18) (oi := { dst := some 36, op := Op.convert 45 3 (Operand.tmp 35), type := 3, pos := "nets.go:252", after := #[{ on := 17, ground := Ground.data }], guard := none }) (v := ?_) rfl (by kernel_rfl) (by kernel_rfl) (by kernel_rfl) (fun _ _ _ h => h) (Or.inl ⟨by rfl, ?_⟩) hHeld ?_
          rotate_left
          · (intro w hSw; (try dsimp only at hSw); go_simp; (try rw [A6.out]); first | done | with_reducible rfl)
          simp only [Act.put, List.setIfInBounds_toArray, List.set_cons_zero, List.set_cons_succ]
          refine wpAnyH_take (i := 19) (oi := { dst := some 37, op := Op.build 49 #[(0, Operand.tmp 21), (1, Operand.tmp 31), (2, Operand.tmp 33), (3, Operand.tmp 36)], type := 49, pos := "nets.go:252", after := #[{ on := 3, ground := Ground.data }, { on := 13, ground := Ground.data }, { on := 15, ground := Ground.data }, { on := 18, ground := Ground.data }], guard := none }) (v := ?_) rfl (by kernel_rfl) (by kernel_rfl) (by kernel_rfl) (fun _ _ _ h => h) (Or.inl ⟨by rfl, ?_⟩) hHeld ?_
          rotate_left
          · (intro w hSw; (try dsimp only at hSw); go_simp; first | done | with_reducible rfl)
          simp only [Act.put, List.setIfInBounds_toArray, List.set_cons_zero, List.set_cons_succ]
          refine wpAnyH_ready (rs := [21]) (by kernel_rfl) (by simp) ?_
          refine (AllReadyH.cons (o := { dst := none, op := Op.store 49 (Operand.tmp 5) (Operand.tmp 37), type := 0, pos := "nets.go:252", after := #[{ on := 20, ground := Ground.data }, { on := 19, ground := Ground.data }, { on := 17, ground := Ground.chain }, { on := 0, ground := Ground.phase }, { on := 1, ground := Ground.phase }, { on := 2, ground := Ground.phase }, { on := 3, ground := Ground.phase }, { on := 4, ground := Ground.phase }, { on := 5, ground := Ground.phase }, { on := 6, ground := Ground.phase }, { on := 7, ground := Ground.phase }, { on := 8, ground := Ground.phase }, { on := 9, ground := Ground.phase }, { on := 10, ground := Ground.phase }, { on := 11, ground := Ground.phase }, { on := 12, ground := Ground.phase }, { on := 13, ground := Ground.phase }, { on := 14, ground := Ground.phase }, { on := 15, ground := Ground.phase }, { on := 16, ground := Ground.phase }, { on := 17, ground := Ground.phase }, { on := 18, ground := Ground.phase }, { on := 19, ground := Ground.phase }, { on := 20, ground := Ground.phase }], guard := none }) rfl (fun K hK => ?_) AllReadyH.nil)
          go_simp
          go_wp2_with fail
          have KK21 := ST2.out _ HBX.out.drew.drew.drew.drew
          refine hK.out _ _ KK21 (fun hHeld => ?_)
          clear hK K
          refine wpAnyH_done (by kernel_rfl) ?_ _
          obtain ⟨s0, s1⟩ := ST0.out _ HBX.out
          obtain ⟨e0, e1, e2, e3, e4⟩ := EX.out
          simp only [Nat.zero_add] at e0 e1 e2 e3 e4
          obtain ⟨⟨r0, r1, r2, r3, r4⟩, rf⟩ := RX.out
          simp only [Nat.zero_add] at r0 r1 r2 r3 r4
          have rf0 := rf 0; have rf1 := rf 1; have rf2 := rf 2; have rf3 := rf 3; have rf4 := rf 4
          clear rf c0 c1 c2 c3 c4 f0 f1 f2 f3 f4 hHeld
          by_cases g0 : x0 = 0
          · subst g0
            by_cases g1 : x1 = 2
            · subst g1
              by_cases gm : MaskP.mk k = n8
              · have gm' : ((MaskP.mk k : Int) == (n8 : Int)) = true := by rw [gm]; simp
                by_cases gc : PrefP.chk n4 (k : Int) = 0
                · have gc' : (PrefP.chk n4 (k : Int) == 0) = true := by rw [gc]; rfl
                  by_cases m1 : 1 ≤ n16
                  · have m1' : (1 : Int) ≤ n16 := by omega
                    by_cases m2 : n16 ≤ 16
                    · have m2' : (n16 : Int) ≤ 16 := by omega
                      have HX := Lib.hid (HI.out k true HFk.out ⟨fun _ => (HO.out k).2 ⟨rfl, rfl, gm, gc, m1, m2⟩, fun _ => rfl⟩)
                      go_wp2_with fail
                      refine (maskOf_any k hk _).mono ?_
                      rintro y w1 ⟨rfl, rfl⟩
                      go_wp2_with fail
                      refine (N8.out _ HBX.out.drew.drew.drew.drew).mono ?_
                      rintro y w1 ⟨rfl, rfl⟩
                      go_wp2_with fail
                      refine (fault_any n4 (k : Int) h4 _).mono ?_
                      rintro y w5 ⟨rfl, b5⟩
                      have HB5 := Lib.hid (Below.two HBX.out.drew.drew.drew.drew.drew b5)
                      have RX5 := Lib.hid ((RX.out.ofBlock (w1 := _) (by rfl) : EBox _ w.heap.size ⟨0, 0, 0, 0, 0⟩).kept b5)
                      have EX5 := Lib.hid ((SeenO.drew (SeenO.drew (SeenO.drew (SeenO.drew (SeenO.drew EX.out))))).ofBlock (b5.block wq.heap.size (by show wq.heap.size < _; exact ltX.out)))
                      obtain ⟨e0, e1, e2, e3, e4⟩ := EX5.out
                      simp only [Nat.zero_add] at e0 e1 e2 e3 e4
                      obtain ⟨⟨r0, r1, r2, r3, r4⟩, rf⟩ := RX5.out
                      simp only [Nat.zero_add] at r0 r1 r2 r3 r4
                      have rf0 := rf 0; have rf1 := rf 1; have rf2 := rf 2; have rf3 := rf 3; have rf4 := rf 4
                      clear rf b5
                      go_wp2_with fail
                      exact bodyPost_ent (e := ⟨n4, k, (x2 : Int) * 256 + (x3 : Int), n12, n16⟩) (er := .bool true) Tryd.results29 rfl (by first | rfl | exact congrArg Value.bool (decide_eq_false (by omega)) | exact congrArg Value.bool (decide_eq_true (by omega))) (set5 RX5.out ⟨n4, k, (x2 : Int) * 256 + (x3 : Int), n12, n16⟩) rfl (EntTo.of (by rw [← HEK.out]; exact HX.out) (below5 HB5.out _ _ _ _ _))
                    · have m2' : ¬ (n16 : Int) ≤ 16 := by omega
                      have HX := Lib.hid (HI.out k false HFk.out ⟨fun h => (by cases h), fun h => absurd ((HO.out k).1 h).2.2.2.2.2 m2⟩)
                      go_wp2_with fail
                      refine (maskOf_any k hk _).mono ?_
                      rintro y w1 ⟨rfl, rfl⟩
                      go_wp2_with fail
                      refine (N8.out _ HBX.out.drew.drew.drew.drew).mono ?_
                      rintro y w1 ⟨rfl, rfl⟩
                      go_wp2_with fail
                      refine (fault_any n4 (k : Int) h4 _).mono ?_
                      rintro y w5 ⟨rfl, b5⟩
                      have HB5 := Lib.hid (Below.two HBX.out.drew.drew.drew.drew.drew b5)
                      have RX5 := Lib.hid ((RX.out.ofBlock (w1 := _) (by rfl) : EBox _ w.heap.size ⟨0, 0, 0, 0, 0⟩).kept b5)
                      have EX5 := Lib.hid ((SeenO.drew (SeenO.drew (SeenO.drew (SeenO.drew (SeenO.drew EX.out))))).ofBlock (b5.block wq.heap.size (by show wq.heap.size < _; exact ltX.out)))
                      obtain ⟨e0, e1, e2, e3, e4⟩ := EX5.out
                      simp only [Nat.zero_add] at e0 e1 e2 e3 e4
                      obtain ⟨⟨r0, r1, r2, r3, r4⟩, rf⟩ := RX5.out
                      simp only [Nat.zero_add] at r0 r1 r2 r3 r4
                      have rf0 := rf 0; have rf1 := rf 1; have rf2 := rf 2; have rf3 := rf 3; have rf4 := rf 4
                      clear rf b5
                      go_wp2_with fail
                      exact bodyPost_ent (e := ⟨n4, k, (x2 : Int) * 256 + (x3 : Int), n12, n16⟩) (er := .bool false) Tryd.results29 rfl (by first | rfl | exact congrArg Value.bool (decide_eq_false (by omega)) | exact congrArg Value.bool (decide_eq_true (by omega))) (set5 RX5.out ⟨n4, k, (x2 : Int) * 256 + (x3 : Int), n12, n16⟩) rfl (EntTo.of (by rw [← HEK.out]; exact HX.out) (below5 HB5.out _ _ _ _ _))
                  · have m1' : ¬ (1 : Int) ≤ n16 := by omega
                    have HX := Lib.hid (HI.out k false HFk.out ⟨fun h => (by cases h), fun h => absurd ((HO.out k).1 h).2.2.2.2.1 m1⟩)
                    go_wp2_with fail
                    refine (maskOf_any k hk _).mono ?_
                    rintro y w1 ⟨rfl, rfl⟩
                    go_wp2_with fail
                    refine (N8.out _ HBX.out.drew.drew.drew.drew).mono ?_
                    rintro y w1 ⟨rfl, rfl⟩
                    go_wp2_with fail
                    refine (fault_any n4 (k : Int) h4 _).mono ?_
                    rintro y w5 ⟨rfl, b5⟩
                    have HB5 := Lib.hid (Below.two HBX.out.drew.drew.drew.drew.drew b5)
                    have RX5 := Lib.hid ((RX.out.ofBlock (w1 := _) (by rfl) : EBox _ w.heap.size ⟨0, 0, 0, 0, 0⟩).kept b5)
                    have EX5 := Lib.hid ((SeenO.drew (SeenO.drew (SeenO.drew (SeenO.drew (SeenO.drew EX.out))))).ofBlock (b5.block wq.heap.size (by show wq.heap.size < _; exact ltX.out)))
                    obtain ⟨e0, e1, e2, e3, e4⟩ := EX5.out
                    simp only [Nat.zero_add] at e0 e1 e2 e3 e4
                    obtain ⟨⟨r0, r1, r2, r3, r4⟩, rf⟩ := RX5.out
                    simp only [Nat.zero_add] at r0 r1 r2 r3 r4
                    have rf0 := rf 0; have rf1 := rf 1; have rf2 := rf 2; have rf3 := rf 3; have rf4 := rf 4
                    clear rf b5
                    go_wp2_with fail
                    exact bodyPost_ent (e := ⟨n4, k, (x2 : Int) * 256 + (x3 : Int), n12, n16⟩) (er := .bool false) Tryd.results29 rfl rfl (set5 RX5.out ⟨n4, k, (x2 : Int) * 256 + (x3 : Int), n12, n16⟩) rfl (EntTo.of (by rw [← HEK.out]; exact HX.out) (below5 HB5.out _ _ _ _ _))
                · have gc' : (PrefP.chk n4 (k : Int) == 0) = false := by simpa using gc
                  have HX := Lib.hid (HI.out k false HFk.out ⟨fun h => (by cases h), fun h => absurd ((HO.out k).1 h).2.2.2.1 gc⟩)
                  go_wp2_with fail
                  refine (maskOf_any k hk _).mono ?_
                  rintro y w1 ⟨rfl, rfl⟩
                  go_wp2_with fail
                  refine (N8.out _ HBX.out.drew.drew.drew.drew).mono ?_
                  rintro y w1 ⟨rfl, rfl⟩
                  go_wp2_with fail
                  refine (fault_any n4 (k : Int) h4 _).mono ?_
                  rintro y w5 ⟨rfl, b5⟩
                  have HB5 := Lib.hid (Below.two HBX.out.drew.drew.drew.drew.drew b5)
                  have RX5 := Lib.hid ((RX.out.ofBlock (w1 := _) (by rfl) : EBox _ w.heap.size ⟨0, 0, 0, 0, 0⟩).kept b5)
                  have EX5 := Lib.hid ((SeenO.drew (SeenO.drew (SeenO.drew (SeenO.drew (SeenO.drew EX.out))))).ofBlock (b5.block wq.heap.size (by show wq.heap.size < _; exact ltX.out)))
                  obtain ⟨e0, e1, e2, e3, e4⟩ := EX5.out
                  simp only [Nat.zero_add] at e0 e1 e2 e3 e4
                  obtain ⟨⟨r0, r1, r2, r3, r4⟩, rf⟩ := RX5.out
                  simp only [Nat.zero_add] at r0 r1 r2 r3 r4
                  have rf0 := rf 0; have rf1 := rf 1; have rf2 := rf 2; have rf3 := rf 3; have rf4 := rf 4
                  clear rf b5
                  go_wp2_with fail
                  exact bodyPost_ent (e := ⟨n4, k, (x2 : Int) * 256 + (x3 : Int), n12, n16⟩) (er := .bool false) Tryd.results29 rfl rfl (set5 RX5.out ⟨n4, k, (x2 : Int) * 256 + (x3 : Int), n12, n16⟩) rfl (EntTo.of (by rw [← HEK.out]; exact HX.out) (below5 HB5.out _ _ _ _ _))
              · have gm' : ((MaskP.mk k : Int) == (n8 : Int)) = false := by
                  have : ¬ (MaskP.mk k : Int) = n8 := by omega
                  simpa using this
                have HX := Lib.hid (HI.out k false HFk.out ⟨fun h => (by cases h), fun h => absurd ((HO.out k).1 h).2.2.1 gm⟩)
                go_wp2_with fail
                refine (maskOf_any k hk _).mono ?_
                rintro y w1 ⟨rfl, rfl⟩
                go_wp2_with fail
                refine (N8.out _ HBX.out.drew.drew.drew.drew).mono ?_
                rintro y w1 ⟨rfl, rfl⟩
                go_wp2_with fail
                exact bodyPost_ent (e := ⟨n4, k, (x2 : Int) * 256 + (x3 : Int), n12, n16⟩) (er := .bool false) Tryd.results29 rfl rfl (set5 RX.out ⟨n4, k, (x2 : Int) * 256 + (x3 : Int), n12, n16⟩).drew.drew.drew.drew.drew rfl (EntTo.of (by rw [← HEK.out]; exact HX.out) (below5 HBX.out _ _ _ _ _).drew.drew.drew.drew.drew)
            · have g1' : ((x1 : Int) == 2) = false := by
                have : ¬ (x1 : Int) = 2 := by omega
                simpa using this
              have HX := Lib.hid (HI.out k false HFk.out ⟨fun h => (by cases h), fun h => absurd ((HO.out k).1 h).2.1 g1⟩)
              go_wp2_with fail
              exact bodyPost_ent (e := ⟨n4, k, (x2 : Int) * 256 + (x3 : Int), n12, n16⟩) (er := .bool false) Tryd.results29 rfl rfl (set5 RX.out ⟨n4, k, (x2 : Int) * 256 + (x3 : Int), n12, n16⟩).drew.drew.drew.drew rfl (EntTo.of (by rw [← HEK.out]; exact HX.out) (below5 HBX.out _ _ _ _ _).drew.drew.drew.drew)
          · have g0' : ((x0 : Int) == 0) = false := by
              have : ¬ (x0 : Int) = 0 := by omega
              simpa using this
            have HX := Lib.hid (HI.out k false HFk.out ⟨fun h => (by cases h), fun h => absurd ((HO.out k).1 h).1 g0⟩)
            go_wp2_with fail
            exact bodyPost_ent (e := ⟨n4, k, (x2 : Int) * 256 + (x3 : Int), n12, n16⟩) (er := .bool false) Tryd.results29 rfl rfl (set5 RX.out ⟨n4, k, (x2 : Int) * 256 + (x3 : Int), n12, n16⟩).drew.drew.drew.drew rfl (EntTo.of (by rw [← HEK.out]; exact HX.out) (below5 HBX.out _ _ _ _ _).drew.drew.drew.drew)
      · have hm' : ((MaskP.mk k : Int) == (n8 : Int)) = false := by
          have : ¬ (MaskP.mk k : Int) = n8 := by omega
          simpa using this
        go_wp2_with fail
        refine (maskOf_any k hk _).mono ?_
        rintro y w1 ⟨rfl, rfl⟩
        go_wp2_with fail
        refine (N8.out _ HB.out).mono ?_
        rintro y w1 ⟨rfl, rfl⟩
        go_wp2_with fail
        go_roundw
        case rel => exact ⟨k + 1, by go_num, by omega, Lib.hid (fun j hj => by rcases Nat.lt_succ_iff_lt_or_eq.1 hj with h | h; exact HJ.out j h; rw [h]; exact hm), Lib.hid HB.out.drew, Lib.hid (HE.out.ofBlock rfl), hz⟩
        case measure => simp [RowKit.intOf]; omega
    · have hk' : ¬ (k : Int) < 32 := by omega
      have HFk := Lib.hid (HF.out k hk HJ.out (Or.inl (by omega)))
      have HBq := HB; have HEq := HE; have HZ := Lib.hid hz
      go_wp2_with fail
      clear hz HB HE
      generalize wr = wq at HBq HEq HZ ⊢
      have HBA := Lib.hid (HBq.out.alloc (show w.heap.size ≤ wq.heap.size by rw [HZ.out]; omega) (.cells #[.int .u32 0, .int .i64 0, .int .i64 0, .int .u32 0, .int .i64 0] 49))
      have EA := EBox.new wq ⟨0, 0, 0, 0, 0⟩ 49
      have OB := (Below.refl _ wq).alloc (Nat.le_refl _) (.cells #[.int .u32 (n4 : Int), .int .i64 (k : Int), .int .i64 ((x2 : Int) * 256 + (x3 : Int)), .int .u32 (n12 : Int), .int .i64 (n16 : Int)] 49)
      have HBX := Lib.hid (HBq.out.alloc (show w.heap.size ≤ wq.heap.size by rw [HZ.out]; omega) (.cells #[.int .u32 (n4 : Int), .int .i64 (k : Int), .int .i64 ((x2 : Int) * 256 + (x3 : Int)), .int .u32 (n12 : Int), .int .i64 (n16 : Int)] 49))
      have EX := Lib.hid (EBox.new wq ⟨n4, k, (x2 : Int) * 256 + (x3 : Int), n12, n16⟩ 49).seen
      have RX := Lib.hid (HEq.out.kept OB)
      have ltX := Lib.hid (EX.out.lt)
      obtain ⟨⟨c0, c1, c2, c3, c4⟩, hf⟩ := EA
      simp only [Nat.zero_add] at c0 c1 c2 c3 c4
      have f0 := hf 0; have f1 := hf 1; have f2 := hf 2; have f3 := hf 3; have f4 := hf 4
      clear hf OB
      have HEK := Lib.hid (show entOf l k = ⟨n4, k, (x2 : Int) * 256 + (x3 : Int), n12, n16⟩ by rw [HEO.out]; exact (En.same _ _).2 ⟨rfl, rfl, by simp only; omega, rfl, rfl⟩)
      go_wp2_with fail
      refine wp_region_held_drew (S := (fun w' => w'.cell? ⟨b, off + 2, none⟩ = some (.int .u8 (x2 : Int)) ∧ w'.cell? ⟨b, off + 3, none⟩ = some (.int .u8 (x3 : Int)))) (by kernel_rfl) (ST2.out _ HBq.out.drew) (fun hHeld => ?_)
      refine wpAnyH_take (i := 0) (oi := { dst := some 18, op := Op.move (Operand.tmp 0), type := 25, pos := "nets.go:252", after := #[], guard := none }) (v := ?_) rfl (by kernel_rfl) (by kernel_rfl) (by kernel_rfl) (fun _ _ _ h => h) (Or.inl ⟨by rfl, ?_⟩) hHeld ?_
      rotate_left
      · (intro w hSw; (try dsimp only at hSw); go_simp; first | done | with_reducible rfl)
      simp only [Act.put, List.setIfInBounds_toArray, List.set_cons_zero, List.set_cons_succ]
      refine wpAnyH_take (i := 2) (oi := { dst := some 20, op := Op.move (Operand.tmp 4), type := 3, pos := "nets.go:252", after := #[], guard := none }) (v := ?_) rfl (by kernel_rfl) (by kernel_rfl) (by kernel_rfl) (fun _ _ _ h => h) (Or.inl ⟨by rfl, ?_⟩) hHeld ?_
      rotate_left
      · (intro w hSw; (try dsimp only at hSw); go_simp; first | done | with_reducible rfl)
      simp only [Act.put, List.setIfInBounds_toArray, List.set_cons_zero, List.set_cons_succ]
      refine wpAnyH_take (i := 4) (oi := { dst := some 22, op := Op.move (Operand.tmp 0), type := 25, pos := "nets.go:252", after := #[], guard := none }) (v := ?_) rfl (by kernel_rfl) (by kernel_rfl) (by kernel_rfl) (fun _ _ _ h => h) (Or.inl ⟨by rfl, ?_⟩) hHeld ?_
      rotate_left
      · (intro w hSw; (try dsimp only at hSw); go_simp; first | done | with_reducible rfl)
      simp only [Act.put, List.setIfInBounds_toArray, List.set_cons_zero, List.set_cons_succ]
      refine wpAnyH_take (i := 5) (oi := { dst := some 23, op := Op.indexAddr 25 (Operand.tmp 22) (Operand.const (Value.int IntKind.i64 2)), type := 0, pos := "nets.go:252", after := #[{ on := 4, ground := Ground.data }], guard := none }) (v := ?_) rfl (by kernel_rfl) (by kernel_rfl) (by kernel_rfl) (fun _ _ _ h => h) (Or.inl ⟨by rfl, ?_⟩) hHeld ?_
      rotate_left
      · (intro w hSw; (try dsimp only at hSw); go_simp; first | done | with_reducible rfl)
      simp only [Act.put, List.setIfInBounds_toArray, List.set_cons_zero, List.set_cons_succ]
      refine wpAnyH_take (i := 6) (oi := { dst := some 24, op := Op.load 5 (Operand.tmp 23), type := 5, pos := "nets.go:252", after := #[{ on := 5, ground := Ground.data }], guard := none }) (v := ?_) rfl (by kernel_rfl) (by kernel_rfl) (by kernel_rfl) (fun _ _ _ h => h) (Or.inl ⟨by rfl, ?_⟩) hHeld ?_
      rotate_left
      · (intro w hSw; (try dsimp only at hSw); go_simp; first | done | with_reducible rfl)
      simp only [Act.put, List.setIfInBounds_toArray, List.set_cons_zero, List.set_cons_succ]
      refine wpAnyH_take (i := 7) (oi := { dst := some 25, op := Op.convert 5 3 (Operand.tmp 24), type := 3, pos := "nets.go:252", after := #[{ on := 6, ground := Ground.data }], guard := none }) (v := ?_) rfl (by kernel_rfl) (by kernel_rfl) (by kernel_rfl) (fun _ _ _ h => h) (Or.inl ⟨by rfl, ?_⟩) hHeld ?_
      rotate_left
      · (intro w hSw; (try dsimp only at hSw); go_simp; (try rw [A2.out]); first | done | with_reducible rfl)
      simp only [Act.put, List.setIfInBounds_toArray, List.set_cons_zero, List.set_cons_succ]
      refine wpAnyH_take (i := 8) (oi := { dst := some 26, op := Op.binOp BinOp.mul 3 (Operand.tmp 25) (Operand.const (Value.int IntKind.i64 256)) 3, type := 3, pos := "nets.go:252", after := #[{ on := 7, ground := Ground.data }], guard := none }) (v := ?_) rfl (by kernel_rfl) (by kernel_rfl) (by kernel_rfl) (fun _ _ _ h => h) (Or.inl ⟨by rfl, ?_⟩) hHeld ?_
      rotate_left
      · (intro w hSw; (try dsimp only at hSw); go_simp; (try rw [A3.out]); first | done | with_reducible rfl)
      simp only [Act.put, List.setIfInBounds_toArray, List.set_cons_zero, List.set_cons_succ]
      refine wpAnyH_take (i := 9) (oi := { dst := some 27, op := Op.move (Operand.tmp 0), type := 25, pos := "nets.go:252", after := #[], guard := none }) (v := ?_) rfl (by kernel_rfl) (by kernel_rfl) (by kernel_rfl) (fun _ _ _ h => h) (Or.inl ⟨by rfl, ?_⟩) hHeld ?_
      rotate_left
      · (intro w hSw; (try dsimp only at hSw); go_simp; first | done | with_reducible rfl)
      simp only [Act.put, List.setIfInBounds_toArray, List.set_cons_zero, List.set_cons_succ]
      refine wpAnyH_take (i := 10) (oi := { dst := some 28, op := Op.indexAddr 25 (Operand.tmp 27) (Operand.const (Value.int IntKind.i64 3)), type := 0, pos := "nets.go:252", after := #[{ on := 9, ground := Ground.data }], guard := none }) (v := ?_) rfl (by kernel_rfl) (by kernel_rfl) (by kernel_rfl) (fun _ _ _ h => h) (Or.inl ⟨by rfl, ?_⟩) hHeld ?_
      rotate_left
      · (intro w hSw; (try dsimp only at hSw); go_simp; first | done | with_reducible rfl)
      simp only [Act.put, List.setIfInBounds_toArray, List.set_cons_zero, List.set_cons_succ]
      refine wpAnyH_take (i := 11) (oi := { dst := some 29, op := Op.load 5 (Operand.tmp 28), type := 5, pos := "nets.go:252", after := #[{ on := 10, ground := Ground.data }], guard := none }) (v := ?_) rfl (by kernel_rfl) (by kernel_rfl) (by kernel_rfl) (fun _ _ _ h => h) (Or.inl ⟨by rfl, ?_⟩) hHeld ?_
      rotate_left
      · (intro w hSw; (try dsimp only at hSw); go_simp; first | done | with_reducible rfl)
      simp only [Act.put, List.setIfInBounds_toArray, List.set_cons_zero, List.set_cons_succ]
      refine wpAnyH_take (i := 12) (oi := { dst := some 30, op := Op.convert 5 3 (Operand.tmp 29), type := 3, pos := "nets.go:252", after := #[{ on := 11, ground := Ground.data }], guard := none }) (v := ?_) rfl (by kernel_rfl) (by kernel_rfl) (by kernel_rfl) (fun _ _ _ h => h) (Or.inl ⟨by rfl, ?_⟩) hHeld ?_
      rotate_left
      · (intro w hSw; (try dsimp only at hSw); go_simp; (try rw [A4.out]); first | done | with_reducible rfl)
      simp only [Act.put, List.setIfInBounds_toArray, List.set_cons_zero, List.set_cons_succ]
      refine wpAnyH_take (i := 13) (oi := { dst := some 31, op := Op.binOp BinOp.add 3 (Operand.tmp 26) (Operand.tmp 30) 3, type := 3, pos := "nets.go:252", after := #[{ on := 8, ground := Ground.data }, { on := 12, ground := Ground.data }], guard := none }) (v := ?_) rfl (by kernel_rfl) (by kernel_rfl) (by kernel_rfl) (fun _ _ _ h => h) (Or.inl ⟨by rfl, ?_⟩) hHeld ?_
      rotate_left
      · (intro w hSw; (try dsimp only at hSw); go_simp; (try rw [A5.out]); first | done | with_reducible rfl)
      simp only [Act.put, List.setIfInBounds_toArray, List.set_cons_zero, List.set_cons_succ]
      refine wpAnyH_take (i := 14) (oi := { dst := some 32, op := Op.move (Operand.tmp 0), type := 25, pos := "nets.go:252", after := #[], guard := none }) (v := ?_) rfl (by kernel_rfl) (by kernel_rfl) (by kernel_rfl) (fun _ _ _ h => h) (Or.inl ⟨by rfl, ?_⟩) hHeld ?_
      rotate_left
      · (intro w hSw; (try dsimp only at hSw); go_simp; first | done | with_reducible rfl)
      simp only [Act.put, List.setIfInBounds_toArray, List.set_cons_zero, List.set_cons_succ]
      refine wpAnyH_take (i := 16) (oi := { dst := some 34, op := Op.move (Operand.tmp 0), type := 25, pos := "nets.go:252", after := #[], guard := none }) (v := ?_) rfl (by kernel_rfl) (by kernel_rfl) (by kernel_rfl) (fun _ _ _ h => h) (Or.inl ⟨by rfl, ?_⟩) hHeld ?_
      rotate_left
      · (intro w hSw; (try dsimp only at hSw); go_simp; first | done | with_reducible rfl)
      simp only [Act.put, List.setIfInBounds_toArray, List.set_cons_zero, List.set_cons_succ]
      refine wpAnyH_ready (rs := [1, 20]) (by kernel_rfl) (by simp) ?_
      refine (AllReadyH.cons (o := { dst := some 19, op := Op.call { callee := Callee.value (Operand.func 35), args := #[Operand.tmp 18, Operand.const (Value.int IntKind.i64 4)], argTypes := #[25, 3] }, type := 45, pos := "nets.go:252", after := #[{ on := 0, ground := Ground.data }], guard := none }) rfl (fun K hK => ?_) (AllReadyH.cons (o := { dst := some 5, op := Op.alloc 49, type := 0, pos := "nets.go:252", after := #[], guard := none }) rfl (fun K hK => ?_) AllReadyH.nil))
      · go_simp
        go_at_call 35
        refine (N4.out _ HBq.out.drew).mono ?_
        rintro y w1' ⟨rfl, rfl⟩
        have KK1 := ST2.out _ HBq.out.drew.drew
        go_wp2_with fail
        refine hK.out _ _ KK1 (fun hHeld => ?_)
        clear hK K
        refine wpAnyH_take (i := 3) (oi := { dst := some 21, op := Op.build 47 #[(0, Operand.tmp 19), (1, Operand.tmp 20)], type := 47, pos := "nets.go:252", after := #[{ on := 1, ground := Ground.data }, { on := 2, ground := Ground.data }], guard := none }) (v := ?_) rfl (by kernel_rfl) (by kernel_rfl) (by kernel_rfl) (fun _ _ _ h => h) (Or.inl ⟨by rfl, ?_⟩) hHeld ?_
        rotate_left
        · (intro w hSw; (try dsimp only at hSw); go_simp; first | done | with_reducible rfl)
        simp only [Act.put, List.setIfInBounds_toArray, List.set_cons_zero, List.set_cons_succ]
        refine wpAnyH_ready (rs := [15, 20]) (by kernel_rfl) (by simp) ?_
        refine (AllReadyH.cons (o := { dst := some 33, op := Op.call { callee := Callee.value (Operand.func 35), args := #[Operand.tmp 32, Operand.const (Value.int IntKind.i64 12)], argTypes := #[25, 3] }, type := 45, pos := "nets.go:252", after := #[{ on := 14, ground := Ground.data }, { on := 1, ground := Ground.chain }], guard := none }) rfl (fun K hK => ?_) (AllReadyH.cons (o := { dst := some 5, op := Op.alloc 49, type := 0, pos := "nets.go:252", after := #[], guard := none }) rfl (fun K hK => ?_) AllReadyH.nil))
        · go_simp
          go_at_call 35
          refine (N12.out _ HBq.out.drew.drew).mono ?_
          rintro y w15' ⟨rfl, rfl⟩
          have KK15 := ST2.out _ HBq.out.drew.drew.drew
          go_wp2_with fail
          refine hK.out _ _ KK15 (fun hHeld => ?_)
          clear hK K
          refine wpAnyH_ready (rs := [17, 20]) (by kernel_rfl) (by simp) ?_
          refine (AllReadyH.cons (o := { dst := some 35, op := Op.call { callee := Callee.value (Operand.func 35), args := #[Operand.tmp 34, Operand.const (Value.int IntKind.i64 16)], argTypes := #[25, 3] }, type := 45, pos := "nets.go:252", after := #[{ on := 16, ground := Ground.data }, { on := 15, ground := Ground.chain }], guard := none }) rfl (fun K hK => ?_) (AllReadyH.cons (o := { dst := some 5, op := Op.alloc 49, type := 0, pos := "nets.go:252", after := #[], guard := none }) rfl (fun K hK => ?_) AllReadyH.nil))
          · go_simp
            go_at_call 35
            refine (N16.out _ HBq.out.drew.drew.drew).mono ?_
            rintro y w17' ⟨rfl, rfl⟩
            have KK17 := ST2.out _ HBq.out.drew.drew.drew.drew
            go_wp2_with fail
            refine hK.out _ _ KK17 (fun hHeld => ?_)
            clear hK K
            refine wpAnyH_take (i := 18) (oi := { dst := some 36, op := Op.convert 45 3 (Operand.tmp 35), type := 3, pos := "nets.go:252", after := #[{ on := 17, ground := Ground.data }], guard := none }) (v := ?_) rfl (by kernel_rfl) (by kernel_rfl) (by kernel_rfl) (fun _ _ _ h => h) (Or.inl ⟨by rfl, ?_⟩) hHeld ?_
            rotate_left
            · (intro w hSw; (try dsimp only at hSw); go_simp; (try rw [A6.out]); first | done | with_reducible rfl)
            simp only [Act.put, List.setIfInBounds_toArray, List.set_cons_zero, List.set_cons_succ]
            refine wpAnyH_take (i := 19) (oi := { dst := some 37, op := Op.build 49 #[(0, Operand.tmp 21), (1, Operand.tmp 31), (2, Operand.tmp 33), (3, Operand.tmp 36)], type := 49, pos := "nets.go:252", after := #[{ on := 3, ground := Ground.data }, { on := 13, ground := Ground.data }, { on := 15, ground := Ground.data }, { on := 18, ground := Ground.data }], guard := none }) (v := ?_) rfl (by kernel_rfl) (by kernel_rfl) (by kernel_rfl) (fun _ _ _ h => h) (Or.inl ⟨by rfl, ?_⟩) hHeld ?_
            rotate_left
            · (intro w hSw; (try dsimp only at hSw); go_simp; first | done | with_reducible rfl)
            simp only [Act.put, List.setIfInBounds_toArray, List.set_cons_zero, List.set_cons_succ]
            refine wpAnyH_ready (rs := [20]) (by kernel_rfl) (by simp) ?_
            refine (AllReadyH.cons (o := { dst := some 5, op := Op.alloc 49, type := 0, pos := "nets.go:252", after := #[], guard := none }) rfl (fun K hK => ?_) AllReadyH.nil)
            go_simp
            go_wp2_with fail
            have KK20 := ST2.out _ HBA.out.drew.drew.drew.drew
            refine hK.out _ _ KK20 (fun hHeld => ?_)
            clear hK K
            refine wpAnyH_ready (rs := [21]) (by kernel_rfl) (by simp) ?_
            refine (AllReadyH.cons (o := { dst := none, op := Op.store 49 (Operand.tmp 5) (Operand.tmp 37), type := 0, pos := "nets.go:252", after := #[{ on := 20, ground := Ground.data }, { on := 19, ground := Ground.data }, { on := 17, ground := Ground.chain }, { on := 0, ground := Ground.phase }, { on := 1, ground := Ground.phase }, { on := 2, ground := Ground.phase }, { on := 3, ground := Ground.phase }, { on := 4, ground := Ground.phase }, { on := 5, ground := Ground.phase }, { on := 6, ground := Ground.phase }, { on := 7, ground := Ground.phase }, { on := 8, ground := Ground.phase }, { on := 9, ground := Ground.phase }, { on := 10, ground := Ground.phase }, { on := 11, ground := Ground.phase }, { on := 12, ground := Ground.phase }, { on := 13, ground := Ground.phase }, { on := 14, ground := Ground.phase }, { on := 15, ground := Ground.phase }, { on := 16, ground := Ground.phase }, { on := 17, ground := Ground.phase }, { on := 18, ground := Ground.phase }, { on := 19, ground := Ground.phase }, { on := 20, ground := Ground.phase }], guard := none }) rfl (fun K hK => ?_) AllReadyH.nil)
            go_simp
            go_wp2_with fail
            have KK21 := ST2.out _ HBX.out.drew.drew.drew.drew
            refine hK.out _ _ KK21 (fun hHeld => ?_)
            clear hK K
            refine wpAnyH_done (by kernel_rfl) ?_ _
            obtain ⟨s0, s1⟩ := ST0.out _ HBX.out
            obtain ⟨e0, e1, e2, e3, e4⟩ := EX.out
            simp only [Nat.zero_add] at e0 e1 e2 e3 e4
            obtain ⟨⟨r0, r1, r2, r3, r4⟩, rf⟩ := RX.out
            simp only [Nat.zero_add] at r0 r1 r2 r3 r4
            have rf0 := rf 0; have rf1 := rf 1; have rf2 := rf 2; have rf3 := rf 3; have rf4 := rf 4
            clear rf c0 c1 c2 c3 c4 f0 f1 f2 f3 f4 hHeld
            by_cases g0 : x0 = 0
            · subst g0
              by_cases g1 : x1 = 2
              · subst g1
                by_cases gm : MaskP.mk k = n8
                · have gm' : ((MaskP.mk k : Int) == (n8 : Int)) = true := by rw [gm]; simp
                  by_cases gc : PrefP.chk n4 (k : Int) = 0
                  · have gc' : (PrefP.chk n4 (k : Int) == 0) = true := by rw [gc]; rfl
                    by_cases m1 : 1 ≤ n16
                    · have m1' : (1 : Int) ≤ n16 := by omega
                      by_cases m2 : n16 ≤ 16
                      · have m2' : (n16 : Int) ≤ 16 := by omega
                        have HX := Lib.hid (HI.out k true HFk.out ⟨fun _ => (HO.out k).2 ⟨rfl, rfl, gm, gc, m1, m2⟩, fun _ => rfl⟩)
                        go_wp2_with fail
                        refine (maskOf_any k hk _).mono ?_
                        rintro y w1 ⟨rfl, rfl⟩
                        go_wp2_with fail
                        refine (N8.out _ HBX.out.drew.drew.drew.drew).mono ?_
                        rintro y w1 ⟨rfl, rfl⟩
                        go_wp2_with fail
                        refine (fault_any n4 (k : Int) h4 _).mono ?_
                        rintro y w5 ⟨rfl, b5⟩
                        have HB5 := Lib.hid (Below.two HBX.out.drew.drew.drew.drew.drew b5)
                        have RX5 := Lib.hid ((RX.out.ofBlock (w1 := _) (by rfl) : EBox _ w.heap.size ⟨0, 0, 0, 0, 0⟩).kept b5)
                        have EX5 := Lib.hid ((SeenO.drew (SeenO.drew (SeenO.drew (SeenO.drew (SeenO.drew EX.out))))).ofBlock (b5.block wq.heap.size (by show wq.heap.size < _; exact ltX.out)))
                        obtain ⟨e0, e1, e2, e3, e4⟩ := EX5.out
                        simp only [Nat.zero_add] at e0 e1 e2 e3 e4
                        obtain ⟨⟨r0, r1, r2, r3, r4⟩, rf⟩ := RX5.out
                        simp only [Nat.zero_add] at r0 r1 r2 r3 r4
                        have rf0 := rf 0; have rf1 := rf 1; have rf2 := rf 2; have rf3 := rf 3; have rf4 := rf 4
                        clear rf b5
                        go_wp2_with fail
                        exact bodyPost_ent (e := ⟨n4, k, (x2 : Int) * 256 + (x3 : Int), n12, n16⟩) (er := .bool true) Tryd.results29 rfl (by first | rfl | exact congrArg Value.bool (decide_eq_false (by omega)) | exact congrArg Value.bool (decide_eq_true (by omega))) (set5 RX5.out ⟨n4, k, (x2 : Int) * 256 + (x3 : Int), n12, n16⟩) rfl (EntTo.of (by rw [← HEK.out]; exact HX.out) (below5 HB5.out _ _ _ _ _))
                      · have m2' : ¬ (n16 : Int) ≤ 16 := by omega
                        have HX := Lib.hid (HI.out k false HFk.out ⟨fun h => (by cases h), fun h => absurd ((HO.out k).1 h).2.2.2.2.2 m2⟩)
                        go_wp2_with fail
                        refine (maskOf_any k hk _).mono ?_
                        rintro y w1 ⟨rfl, rfl⟩
                        go_wp2_with fail
                        refine (N8.out _ HBX.out.drew.drew.drew.drew).mono ?_
                        rintro y w1 ⟨rfl, rfl⟩
                        go_wp2_with fail
                        refine (fault_any n4 (k : Int) h4 _).mono ?_
                        rintro y w5 ⟨rfl, b5⟩
                        have HB5 := Lib.hid (Below.two HBX.out.drew.drew.drew.drew.drew b5)
                        have RX5 := Lib.hid ((RX.out.ofBlock (w1 := _) (by rfl) : EBox _ w.heap.size ⟨0, 0, 0, 0, 0⟩).kept b5)
                        have EX5 := Lib.hid ((SeenO.drew (SeenO.drew (SeenO.drew (SeenO.drew (SeenO.drew EX.out))))).ofBlock (b5.block wq.heap.size (by show wq.heap.size < _; exact ltX.out)))
                        obtain ⟨e0, e1, e2, e3, e4⟩ := EX5.out
                        simp only [Nat.zero_add] at e0 e1 e2 e3 e4
                        obtain ⟨⟨r0, r1, r2, r3, r4⟩, rf⟩ := RX5.out
                        simp only [Nat.zero_add] at r0 r1 r2 r3 r4
                        have rf0 := rf 0; have rf1 := rf 1; have rf2 := rf 2; have rf3 := rf 3; have rf4 := rf 4
                        clear rf b5
                        go_wp2_with fail
                        exact bodyPost_ent (e := ⟨n4, k, (x2 : Int) * 256 + (x3 : Int), n12, n16⟩) (er := .bool false) Tryd.results29 rfl (by first | rfl | exact congrArg Value.bool (decide_eq_false (by omega)) | exact congrArg Value.bool (decide_eq_true (by omega))) (set5 RX5.out ⟨n4, k, (x2 : Int) * 256 + (x3 : Int), n12, n16⟩) rfl (EntTo.of (by rw [← HEK.out]; exact HX.out) (below5 HB5.out _ _ _ _ _))
                    · have m1' : ¬ (1 : Int) ≤ n16 := by omega
                      have HX := Lib.hid (HI.out k false HFk.out ⟨fun h => (by cases h), fun h => absurd ((HO.out k).1 h).2.2.2.2.1 m1⟩)
                      go_wp2_with fail
                      refine (maskOf_any k hk _).mono ?_
                      rintro y w1 ⟨rfl, rfl⟩
                      go_wp2_with fail
                      refine (N8.out _ HBX.out.drew.drew.drew.drew).mono ?_
                      rintro y w1 ⟨rfl, rfl⟩
                      go_wp2_with fail
                      refine (fault_any n4 (k : Int) h4 _).mono ?_
                      rintro y w5 ⟨rfl, b5⟩
                      have HB5 := Lib.hid (Below.two HBX.out.drew.drew.drew.drew.drew b5)
                      have RX5 := Lib.hid ((RX.out.ofBlock (w1 := _) (by rfl) : EBox _ w.heap.size ⟨0, 0, 0, 0, 0⟩).kept b5)
                      have EX5 := Lib.hid ((SeenO.drew (SeenO.drew (SeenO.drew (SeenO.drew (SeenO.drew EX.out))))).ofBlock (b5.block wq.heap.size (by show wq.heap.size < _; exact ltX.out)))
                      obtain ⟨e0, e1, e2, e3, e4⟩ := EX5.out
                      simp only [Nat.zero_add] at e0 e1 e2 e3 e4
                      obtain ⟨⟨r0, r1, r2, r3, r4⟩, rf⟩ := RX5.out
                      simp only [Nat.zero_add] at r0 r1 r2 r3 r4
                      have rf0 := rf 0; have rf1 := rf 1; have rf2 := rf 2; have rf3 := rf 3; have rf4 := rf 4
                      clear rf b5
                      go_wp2_with fail
                      exact bodyPost_ent (e := ⟨n4, k, (x2 : Int) * 256 + (x3 : Int), n12, n16⟩) (er := .bool false) Tryd.results29 rfl rfl (set5 RX5.out ⟨n4, k, (x2 : Int) * 256 + (x3 : Int), n12, n16⟩) rfl (EntTo.of (by rw [← HEK.out]; exact HX.out) (below5 HB5.out _ _ _ _ _))
                  · have gc' : (PrefP.chk n4 (k : Int) == 0) = false := by simpa using gc
                    have HX := Lib.hid (HI.out k false HFk.out ⟨fun h => (by cases h), fun h => absurd ((HO.out k).1 h).2.2.2.1 gc⟩)
                    go_wp2_with fail
                    refine (maskOf_any k hk _).mono ?_
                    rintro y w1 ⟨rfl, rfl⟩
                    go_wp2_with fail
                    refine (N8.out _ HBX.out.drew.drew.drew.drew).mono ?_
                    rintro y w1 ⟨rfl, rfl⟩
                    go_wp2_with fail
                    refine (fault_any n4 (k : Int) h4 _).mono ?_
                    rintro y w5 ⟨rfl, b5⟩
                    have HB5 := Lib.hid (Below.two HBX.out.drew.drew.drew.drew.drew b5)
                    have RX5 := Lib.hid ((RX.out.ofBlock (w1 := _) (by rfl) : EBox _ w.heap.size ⟨0, 0, 0, 0, 0⟩).kept b5)
                    have EX5 := Lib.hid ((SeenO.drew (SeenO.drew (SeenO.drew (SeenO.drew (SeenO.drew EX.out))))).ofBlock (b5.block wq.heap.size (by show wq.heap.size < _; exact ltX.out)))
                    obtain ⟨e0, e1, e2, e3, e4⟩ := EX5.out
                    simp only [Nat.zero_add] at e0 e1 e2 e3 e4
                    obtain ⟨⟨r0, r1, r2, r3, r4⟩, rf⟩ := RX5.out
                    simp only [Nat.zero_add] at r0 r1 r2 r3 r4
                    have rf0 := rf 0; have rf1 := rf 1; have rf2 := rf 2; have rf3 := rf 3; have rf4 := rf 4
                    clear rf b5
                    go_wp2_with fail
                    exact bodyPost_ent (e := ⟨n4, k, (x2 : Int) * 256 + (x3 : Int), n12, n16⟩) (er := .bool false) Tryd.results29 rfl rfl (set5 RX5.out ⟨n4, k, (x2 : Int) * 256 + (x3 : Int), n12, n16⟩) rfl (EntTo.of (by rw [← HEK.out]; exact HX.out) (below5 HB5.out _ _ _ _ _))
                · have gm' : ((MaskP.mk k : Int) == (n8 : Int)) = false := by
                    have : ¬ (MaskP.mk k : Int) = n8 := by omega
                    simpa using this
                  have HX := Lib.hid (HI.out k false HFk.out ⟨fun h => (by cases h), fun h => absurd ((HO.out k).1 h).2.2.1 gm⟩)
                  go_wp2_with fail
                  refine (maskOf_any k hk _).mono ?_
                  rintro y w1 ⟨rfl, rfl⟩
                  go_wp2_with fail
                  refine (N8.out _ HBX.out.drew.drew.drew.drew).mono ?_
                  rintro y w1 ⟨rfl, rfl⟩
                  go_wp2_with fail
                  exact bodyPost_ent (e := ⟨n4, k, (x2 : Int) * 256 + (x3 : Int), n12, n16⟩) (er := .bool false) Tryd.results29 rfl rfl (set5 RX.out ⟨n4, k, (x2 : Int) * 256 + (x3 : Int), n12, n16⟩).drew.drew.drew.drew.drew rfl (EntTo.of (by rw [← HEK.out]; exact HX.out) (below5 HBX.out _ _ _ _ _).drew.drew.drew.drew.drew)
              · have g1' : ((x1 : Int) == 2) = false := by
                  have : ¬ (x1 : Int) = 2 := by omega
                  simpa using this
                have HX := Lib.hid (HI.out k false HFk.out ⟨fun h => (by cases h), fun h => absurd ((HO.out k).1 h).2.1 g1⟩)
                go_wp2_with fail
                exact bodyPost_ent (e := ⟨n4, k, (x2 : Int) * 256 + (x3 : Int), n12, n16⟩) (er := .bool false) Tryd.results29 rfl rfl (set5 RX.out ⟨n4, k, (x2 : Int) * 256 + (x3 : Int), n12, n16⟩).drew.drew.drew.drew rfl (EntTo.of (by rw [← HEK.out]; exact HX.out) (below5 HBX.out _ _ _ _ _).drew.drew.drew.drew)
            · have g0' : ((x0 : Int) == 0) = false := by
                have : ¬ (x0 : Int) = 0 := by omega
                simpa using this
              have HX := Lib.hid (HI.out k false HFk.out ⟨fun h => (by cases h), fun h => absurd ((HO.out k).1 h).1 g0⟩)
              go_wp2_with fail
              exact bodyPost_ent (e := ⟨n4, k, (x2 : Int) * 256 + (x3 : Int), n12, n16⟩) (er := .bool false) Tryd.results29 rfl rfl (set5 RX.out ⟨n4, k, (x2 : Int) * 256 + (x3 : Int), n12, n16⟩).drew.drew.drew.drew rfl (EntTo.of (by rw [← HEK.out]; exact HX.out) (below5 HBX.out _ _ _ _ _).drew.drew.drew.drew)
          · go_simp
            go_wp2_with fail
            have KK20 := ST2.out _ HBA.out.drew.drew.drew
            refine hK.out _ _ KK20 (fun hHeld => ?_)
            clear hK K
            refine wpAnyH_ready (rs := [17]) (by kernel_rfl) (by simp) ?_
            refine (AllReadyH.cons (o := { dst := some 35, op := Op.call { callee := Callee.value (Operand.func 35), args := #[Operand.tmp 34, Operand.const (Value.int IntKind.i64 16)], argTypes := #[25, 3] }, type := 45, pos := "nets.go:252", after := #[{ on := 16, ground := Ground.data }, { on := 15, ground := Ground.chain }], guard := none }) rfl (fun K hK => ?_) AllReadyH.nil)
            go_simp
            go_at_call 35
            refine (N16.out _ HBA.out.drew.drew.drew).mono ?_
            rintro y w17' ⟨rfl, rfl⟩
            have KK17 := ST2.out _ HBA.out.drew.drew.drew.drew
            go_wp2_with fail
            refine hK.out _ _ KK17 (fun hHeld => ?_)
            clear hK K
            refine wpAnyH_take (i := 18) (oi := { dst := some 36, op := Op.convert 45 3 (Operand.tmp 35), type := 3, pos := "nets.go:252", after := #[{ on := 17, ground := Ground.data }], guard := none }) (v := ?_) rfl (by kernel_rfl) (by kernel_rfl) (by kernel_rfl) (fun _ _ _ h => h) (Or.inl ⟨by rfl, ?_⟩) hHeld ?_
            rotate_left
            · (intro w hSw; (try dsimp only at hSw); go_simp; (try rw [A6.out]); first | done | with_reducible rfl)
            simp only [Act.put, List.setIfInBounds_toArray, List.set_cons_zero, List.set_cons_succ]
            refine wpAnyH_take (i := 19) (oi := { dst := some 37, op := Op.build 49 #[(0, Operand.tmp 21), (1, Operand.tmp 31), (2, Operand.tmp 33), (3, Operand.tmp 36)], type := 49, pos := "nets.go:252", after := #[{ on := 3, ground := Ground.data }, { on := 13, ground := Ground.data }, { on := 15, ground := Ground.data }, { on := 18, ground := Ground.data }], guard := none }) (v := ?_) rfl (by kernel_rfl) (by kernel_rfl) (by kernel_rfl) (fun _ _ _ h => h) (Or.inl ⟨by rfl, ?_⟩) hHeld ?_
            rotate_left
            · (intro w hSw; (try dsimp only at hSw); go_simp; first | done | with_reducible rfl)
            simp only [Act.put, List.setIfInBounds_toArray, List.set_cons_zero, List.set_cons_succ]
            refine wpAnyH_ready (rs := [21]) (by kernel_rfl) (by simp) ?_
            refine (AllReadyH.cons (o := { dst := none, op := Op.store 49 (Operand.tmp 5) (Operand.tmp 37), type := 0, pos := "nets.go:252", after := #[{ on := 20, ground := Ground.data }, { on := 19, ground := Ground.data }, { on := 17, ground := Ground.chain }, { on := 0, ground := Ground.phase }, { on := 1, ground := Ground.phase }, { on := 2, ground := Ground.phase }, { on := 3, ground := Ground.phase }, { on := 4, ground := Ground.phase }, { on := 5, ground := Ground.phase }, { on := 6, ground := Ground.phase }, { on := 7, ground := Ground.phase }, { on := 8, ground := Ground.phase }, { on := 9, ground := Ground.phase }, { on := 10, ground := Ground.phase }, { on := 11, ground := Ground.phase }, { on := 12, ground := Ground.phase }, { on := 13, ground := Ground.phase }, { on := 14, ground := Ground.phase }, { on := 15, ground := Ground.phase }, { on := 16, ground := Ground.phase }, { on := 17, ground := Ground.phase }, { on := 18, ground := Ground.phase }, { on := 19, ground := Ground.phase }, { on := 20, ground := Ground.phase }], guard := none }) rfl (fun K hK => ?_) AllReadyH.nil)
            go_simp
            go_wp2_with fail
            have KK21 := ST2.out _ HBX.out.drew.drew.drew.drew
            refine hK.out _ _ KK21 (fun hHeld => ?_)
            clear hK K
            refine wpAnyH_done (by kernel_rfl) ?_ _
            obtain ⟨s0, s1⟩ := ST0.out _ HBX.out
            obtain ⟨e0, e1, e2, e3, e4⟩ := EX.out
            simp only [Nat.zero_add] at e0 e1 e2 e3 e4
            obtain ⟨⟨r0, r1, r2, r3, r4⟩, rf⟩ := RX.out
            simp only [Nat.zero_add] at r0 r1 r2 r3 r4
            have rf0 := rf 0; have rf1 := rf 1; have rf2 := rf 2; have rf3 := rf 3; have rf4 := rf 4
            clear rf c0 c1 c2 c3 c4 f0 f1 f2 f3 f4 hHeld
            by_cases g0 : x0 = 0
            · subst g0
              by_cases g1 : x1 = 2
              · subst g1
                by_cases gm : MaskP.mk k = n8
                · have gm' : ((MaskP.mk k : Int) == (n8 : Int)) = true := by rw [gm]; simp
                  by_cases gc : PrefP.chk n4 (k : Int) = 0
                  · have gc' : (PrefP.chk n4 (k : Int) == 0) = true := by rw [gc]; rfl
                    by_cases m1 : 1 ≤ n16
                    · have m1' : (1 : Int) ≤ n16 := by omega
                      by_cases m2 : n16 ≤ 16
                      · have m2' : (n16 : Int) ≤ 16 := by omega
                        have HX := Lib.hid (HI.out k true HFk.out ⟨fun _ => (HO.out k).2 ⟨rfl, rfl, gm, gc, m1, m2⟩, fun _ => rfl⟩)
                        go_wp2_with fail
                        refine (maskOf_any k hk _).mono ?_
                        rintro y w1 ⟨rfl, rfl⟩
                        go_wp2_with fail
                        refine (N8.out _ HBX.out.drew.drew.drew.drew).mono ?_
                        rintro y w1 ⟨rfl, rfl⟩
                        go_wp2_with fail
                        refine (fault_any n4 (k : Int) h4 _).mono ?_
                        rintro y w5 ⟨rfl, b5⟩
                        have HB5 := Lib.hid (Below.two HBX.out.drew.drew.drew.drew.drew b5)
                        have RX5 := Lib.hid ((RX.out.ofBlock (w1 := _) (by rfl) : EBox _ w.heap.size ⟨0, 0, 0, 0, 0⟩).kept b5)
                        have EX5 := Lib.hid ((SeenO.drew (SeenO.drew (SeenO.drew (SeenO.drew (SeenO.drew EX.out))))).ofBlock (b5.block wq.heap.size (by show wq.heap.size < _; exact ltX.out)))
                        obtain ⟨e0, e1, e2, e3, e4⟩ := EX5.out
                        simp only [Nat.zero_add] at e0 e1 e2 e3 e4
                        obtain ⟨⟨r0, r1, r2, r3, r4⟩, rf⟩ := RX5.out
                        simp only [Nat.zero_add] at r0 r1 r2 r3 r4
                        have rf0 := rf 0; have rf1 := rf 1; have rf2 := rf 2; have rf3 := rf 3; have rf4 := rf 4
                        clear rf b5
                        go_wp2_with fail
                        exact bodyPost_ent (e := ⟨n4, k, (x2 : Int) * 256 + (x3 : Int), n12, n16⟩) (er := .bool true) Tryd.results29 rfl (by first | rfl | exact congrArg Value.bool (decide_eq_false (by omega)) | exact congrArg Value.bool (decide_eq_true (by omega))) (set5 RX5.out ⟨n4, k, (x2 : Int) * 256 + (x3 : Int), n12, n16⟩) rfl (EntTo.of (by rw [← HEK.out]; exact HX.out) (below5 HB5.out _ _ _ _ _))
                      · have m2' : ¬ (n16 : Int) ≤ 16 := by omega
                        have HX := Lib.hid (HI.out k false HFk.out ⟨fun h => (by cases h), fun h => absurd ((HO.out k).1 h).2.2.2.2.2 m2⟩)
                        go_wp2_with fail
                        refine (maskOf_any k hk _).mono ?_
                        rintro y w1 ⟨rfl, rfl⟩
                        go_wp2_with fail
                        refine (N8.out _ HBX.out.drew.drew.drew.drew).mono ?_
                        rintro y w1 ⟨rfl, rfl⟩
                        go_wp2_with fail
                        refine (fault_any n4 (k : Int) h4 _).mono ?_
                        rintro y w5 ⟨rfl, b5⟩
                        have HB5 := Lib.hid (Below.two HBX.out.drew.drew.drew.drew.drew b5)
                        have RX5 := Lib.hid ((RX.out.ofBlock (w1 := _) (by rfl) : EBox _ w.heap.size ⟨0, 0, 0, 0, 0⟩).kept b5)
                        have EX5 := Lib.hid ((SeenO.drew (SeenO.drew (SeenO.drew (SeenO.drew (SeenO.drew EX.out))))).ofBlock (b5.block wq.heap.size (by show wq.heap.size < _; exact ltX.out)))
                        obtain ⟨e0, e1, e2, e3, e4⟩ := EX5.out
                        simp only [Nat.zero_add] at e0 e1 e2 e3 e4
                        obtain ⟨⟨r0, r1, r2, r3, r4⟩, rf⟩ := RX5.out
                        simp only [Nat.zero_add] at r0 r1 r2 r3 r4
                        have rf0 := rf 0; have rf1 := rf 1; have rf2 := rf 2; have rf3 := rf 3; have rf4 := rf 4
                        clear rf b5
                        go_wp2_with fail
                        exact bodyPost_ent (e := ⟨n4, k, (x2 : Int) * 256 + (x3 : Int), n12, n16⟩) (er := .bool false) Tryd.results29 rfl (by first | rfl | exact congrArg Value.bool (decide_eq_false (by omega)) | exact congrArg Value.bool (decide_eq_true (by omega))) (set5 RX5.out ⟨n4, k, (x2 : Int) * 256 + (x3 : Int), n12, n16⟩) rfl (EntTo.of (by rw [← HEK.out]; exact HX.out) (below5 HB5.out _ _ _ _ _))
                    · have m1' : ¬ (1 : Int) ≤ n16 := by omega
                      have HX := Lib.hid (HI.out k false HFk.out ⟨fun h => (by cases h), fun h => absurd ((HO.out k).1 h).2.2.2.2.1 m1⟩)
                      go_wp2_with fail
                      refine (maskOf_any k hk _).mono ?_
                      rintro y w1 ⟨rfl, rfl⟩
                      go_wp2_with fail
                      refine (N8.out _ HBX.out.drew.drew.drew.drew).mono ?_
                      rintro y w1 ⟨rfl, rfl⟩
                      go_wp2_with fail
                      refine (fault_any n4 (k : Int) h4 _).mono ?_
                      rintro y w5 ⟨rfl, b5⟩
                      have HB5 := Lib.hid (Below.two HBX.out.drew.drew.drew.drew.drew b5)
                      have RX5 := Lib.hid ((RX.out.ofBlock (w1 := _) (by rfl) : EBox _ w.heap.size ⟨0, 0, 0, 0, 0⟩).kept b5)
                      have EX5 := Lib.hid ((SeenO.drew (SeenO.drew (SeenO.drew (SeenO.drew (SeenO.drew EX.out))))).ofBlock (b5.block wq.heap.size (by show wq.heap.size < _; exact ltX.out)))
                      obtain ⟨e0, e1, e2, e3, e4⟩ := EX5.out
                      simp only [Nat.zero_add] at e0 e1 e2 e3 e4
                      obtain ⟨⟨r0, r1, r2, r3, r4⟩, rf⟩ := RX5.out
                      simp only [Nat.zero_add] at r0 r1 r2 r3 r4
                      have rf0 := rf 0; have rf1 := rf 1; have rf2 := rf 2; have rf3 := rf 3; have rf4 := rf 4
                      clear rf b5
                      go_wp2_with fail
                      exact bodyPost_ent (e := ⟨n4, k, (x2 : Int) * 256 + (x3 : Int), n12, n16⟩) (er := .bool false) Tryd.results29 rfl rfl (set5 RX5.out ⟨n4, k, (x2 : Int) * 256 + (x3 : Int), n12, n16⟩) rfl (EntTo.of (by rw [← HEK.out]; exact HX.out) (below5 HB5.out _ _ _ _ _))
                  · have gc' : (PrefP.chk n4 (k : Int) == 0) = false := by simpa using gc
                    have HX := Lib.hid (HI.out k false HFk.out ⟨fun h => (by cases h), fun h => absurd ((HO.out k).1 h).2.2.2.1 gc⟩)
                    go_wp2_with fail
                    refine (maskOf_any k hk _).mono ?_
                    rintro y w1 ⟨rfl, rfl⟩
                    go_wp2_with fail
                    refine (N8.out _ HBX.out.drew.drew.drew.drew).mono ?_
                    rintro y w1 ⟨rfl, rfl⟩
                    go_wp2_with fail
                    refine (fault_any n4 (k : Int) h4 _).mono ?_
                    rintro y w5 ⟨rfl, b5⟩
                    have HB5 := Lib.hid (Below.two HBX.out.drew.drew.drew.drew.drew b5)
                    have RX5 := Lib.hid ((RX.out.ofBlock (w1 := _) (by rfl) : EBox _ w.heap.size ⟨0, 0, 0, 0, 0⟩).kept b5)
                    have EX5 := Lib.hid ((SeenO.drew (SeenO.drew (SeenO.drew (SeenO.drew (SeenO.drew EX.out))))).ofBlock (b5.block wq.heap.size (by show wq.heap.size < _; exact ltX.out)))
                    obtain ⟨e0, e1, e2, e3, e4⟩ := EX5.out
                    simp only [Nat.zero_add] at e0 e1 e2 e3 e4
                    obtain ⟨⟨r0, r1, r2, r3, r4⟩, rf⟩ := RX5.out
                    simp only [Nat.zero_add] at r0 r1 r2 r3 r4
                    have rf0 := rf 0; have rf1 := rf 1; have rf2 := rf 2; have rf3 := rf 3; have rf4 := rf 4
                    clear rf b5
                    go_wp2_with fail
                    exact bodyPost_ent (e := ⟨n4, k, (x2 : Int) * 256 + (x3 : Int), n12, n16⟩) (er := .bool false) Tryd.results29 rfl rfl (set5 RX5.out ⟨n4, k, (x2 : Int) * 256 + (x3 : Int), n12, n16⟩) rfl (EntTo.of (by rw [← HEK.out]; exact HX.out) (below5 HB5.out _ _ _ _ _))
                · have gm' : ((MaskP.mk k : Int) == (n8 : Int)) = false := by
                    have : ¬ (MaskP.mk k : Int) = n8 := by omega
                    simpa using this
                  have HX := Lib.hid (HI.out k false HFk.out ⟨fun h => (by cases h), fun h => absurd ((HO.out k).1 h).2.2.1 gm⟩)
                  go_wp2_with fail
                  refine (maskOf_any k hk _).mono ?_
                  rintro y w1 ⟨rfl, rfl⟩
                  go_wp2_with fail
                  refine (N8.out _ HBX.out.drew.drew.drew.drew).mono ?_
                  rintro y w1 ⟨rfl, rfl⟩
                  go_wp2_with fail
                  exact bodyPost_ent (e := ⟨n4, k, (x2 : Int) * 256 + (x3 : Int), n12, n16⟩) (er := .bool false) Tryd.results29 rfl rfl (set5 RX.out ⟨n4, k, (x2 : Int) * 256 + (x3 : Int), n12, n16⟩).drew.drew.drew.drew.drew rfl (EntTo.of (by rw [← HEK.out]; exact HX.out) (below5 HBX.out _ _ _ _ _).drew.drew.drew.drew.drew)
              · have g1' : ((x1 : Int) == 2) = false := by
                  have : ¬ (x1 : Int) = 2 := by omega
                  simpa using this
                have HX := Lib.hid (HI.out k false HFk.out ⟨fun h => (by cases h), fun h => absurd ((HO.out k).1 h).2.1 g1⟩)
                go_wp2_with fail
                exact bodyPost_ent (e := ⟨n4, k, (x2 : Int) * 256 + (x3 : Int), n12, n16⟩) (er := .bool false) Tryd.results29 rfl rfl (set5 RX.out ⟨n4, k, (x2 : Int) * 256 + (x3 : Int), n12, n16⟩).drew.drew.drew.drew rfl (EntTo.of (by rw [← HEK.out]; exact HX.out) (below5 HBX.out _ _ _ _ _).drew.drew.drew.drew)
            · have g0' : ((x0 : Int) == 0) = false := by
                have : ¬ (x0 : Int) = 0 := by omega
                simpa using this
              have HX := Lib.hid (HI.out k false HFk.out ⟨fun h => (by cases h), fun h => absurd ((HO.out k).1 h).1 g0⟩)
              go_wp2_with fail
              exact bodyPost_ent (e := ⟨n4, k, (x2 : Int) * 256 + (x3 : Int), n12, n16⟩) (er := .bool false) Tryd.results29 rfl rfl (set5 RX.out ⟨n4, k, (x2 : Int) * 256 + (x3 : Int), n12, n16⟩).drew.drew.drew.drew rfl (EntTo.of (by rw [← HEK.out]; exact HX.out) (below5 HBX.out _ _ _ _ _).drew.drew.drew.drew)
        · go_simp
          go_wp2_with fail
          have KK20 := ST2.out _ HBA.out.drew.drew
          refine hK.out _ _ KK20 (fun hHeld => ?_)
          clear hK K
          refine wpAnyH_ready (rs := [15]) (by kernel_rfl) (by simp) ?_
          refine (AllReadyH.cons (o := { dst := some 33, op := Op.call { callee := Callee.value (Operand.func 35), args := #[Operand.tmp 32, Operand.const (Value.int IntKind.i64 12)], argTypes := #[25, 3] }, type := 45, pos := "nets.go:252", after := #[{ on := 14, ground := Ground.data }, { on := 1, ground := Ground.chain }], guard := none }) rfl (fun K hK => ?_) AllReadyH.nil)
          go_simp
          go_at_call 35
          refine (N12.out _ HBA.out.drew.drew).mono ?_
          rintro y w15' ⟨rfl, rfl⟩
          have KK15 := ST2.out _ HBA.out.drew.drew.drew
          go_wp2_with fail
          refine hK.out _ _ KK15 (fun hHeld => ?_)
          clear hK K
          refine wpAnyH_ready (rs := [17]) (by kernel_rfl) (by simp) ?_
          refine (AllReadyH.cons (o := { dst := some 35, op := Op.call { callee := Callee.value (Operand.func 35), args := #[Operand.tmp 34, Operand.const (Value.int IntKind.i64 16)], argTypes := #[25, 3] }, type := 45, pos := "nets.go:252", after := #[{ on := 16, ground := Ground.data }, { on := 15, ground := Ground.chain }], guard := none }) rfl (fun K hK => ?_) AllReadyH.nil)
          go_simp
          go_at_call 35
          refine (N16.out _ HBA.out.drew.drew.drew).mono ?_
          rintro y w17' ⟨rfl, rfl⟩
          have KK17 := ST2.out _ HBA.out.drew.drew.drew.drew
          go_wp2_with fail
          refine hK.out _ _ KK17 (fun hHeld => ?_)
          clear hK K
          refine wpAnyH_take (i := 18) (oi := { dst := some 36, op := Op.convert 45 3 (Operand.tmp 35), type := 3, pos := "nets.go:252", after := #[{ on := 17, ground := Ground.data }], guard := none }) (v := ?_) rfl (by kernel_rfl) (by kernel_rfl) (by kernel_rfl) (fun _ _ _ h => h) (Or.inl ⟨by rfl, ?_⟩) hHeld ?_
          rotate_left
          · (intro w hSw; (try dsimp only at hSw); go_simp; (try rw [A6.out]); first | done | with_reducible rfl)
          simp only [Act.put, List.setIfInBounds_toArray, List.set_cons_zero, List.set_cons_succ]
          refine wpAnyH_take (i := 19) (oi := { dst := some 37, op := Op.build 49 #[(0, Operand.tmp 21), (1, Operand.tmp 31), (2, Operand.tmp 33), (3, Operand.tmp 36)], type := 49, pos := "nets.go:252", after := #[{ on := 3, ground := Ground.data }, { on := 13, ground := Ground.data }, { on := 15, ground := Ground.data }, { on := 18, ground := Ground.data }], guard := none }) (v := ?_) rfl (by kernel_rfl) (by kernel_rfl) (by kernel_rfl) (fun _ _ _ h => h) (Or.inl ⟨by rfl, ?_⟩) hHeld ?_
          rotate_left
          · (intro w hSw; (try dsimp only at hSw); go_simp; first | done | with_reducible rfl)
          simp only [Act.put, List.setIfInBounds_toArray, List.set_cons_zero, List.set_cons_succ]
          refine wpAnyH_ready (rs := [21]) (by kernel_rfl) (by simp) ?_
          refine (AllReadyH.cons (o := { dst := none, op := Op.store 49 (Operand.tmp 5) (Operand.tmp 37), type := 0, pos := "nets.go:252", after := #[{ on := 20, ground := Ground.data }, { on := 19, ground := Ground.data }, { on := 17, ground := Ground.chain }, { on := 0, ground := Ground.phase }, { on := 1, ground := Ground.phase }, { on := 2, ground := Ground.phase }, { on := 3, ground := Ground.phase }, { on := 4, ground := Ground.phase }, { on := 5, ground := Ground.phase }, { on := 6, ground := Ground.phase }, { on := 7, ground := Ground.phase }, { on := 8, ground := Ground.phase }, { on := 9, ground := Ground.phase }, { on := 10, ground := Ground.phase }, { on := 11, ground := Ground.phase }, { on := 12, ground := Ground.phase }, { on := 13, ground := Ground.phase }, { on := 14, ground := Ground.phase }, { on := 15, ground := Ground.phase }, { on := 16, ground := Ground.phase }, { on := 17, ground := Ground.phase }, { on := 18, ground := Ground.phase }, { on := 19, ground := Ground.phase }, { on := 20, ground := Ground.phase }], guard := none }) rfl (fun K hK => ?_) AllReadyH.nil)
          go_simp
          go_wp2_with fail
          have KK21 := ST2.out _ HBX.out.drew.drew.drew.drew
          refine hK.out _ _ KK21 (fun hHeld => ?_)
          clear hK K
          refine wpAnyH_done (by kernel_rfl) ?_ _
          obtain ⟨s0, s1⟩ := ST0.out _ HBX.out
          obtain ⟨e0, e1, e2, e3, e4⟩ := EX.out
          simp only [Nat.zero_add] at e0 e1 e2 e3 e4
          obtain ⟨⟨r0, r1, r2, r3, r4⟩, rf⟩ := RX.out
          simp only [Nat.zero_add] at r0 r1 r2 r3 r4
          have rf0 := rf 0; have rf1 := rf 1; have rf2 := rf 2; have rf3 := rf 3; have rf4 := rf 4
          clear rf c0 c1 c2 c3 c4 f0 f1 f2 f3 f4 hHeld
          by_cases g0 : x0 = 0
          · subst g0
            by_cases g1 : x1 = 2
            · subst g1
              by_cases gm : MaskP.mk k = n8
              · have gm' : ((MaskP.mk k : Int) == (n8 : Int)) = true := by rw [gm]; simp
                by_cases gc : PrefP.chk n4 (k : Int) = 0
                · have gc' : (PrefP.chk n4 (k : Int) == 0) = true := by rw [gc]; rfl
                  by_cases m1 : 1 ≤ n16
                  · have m1' : (1 : Int) ≤ n16 := by omega
                    by_cases m2 : n16 ≤ 16
                    · have m2' : (n16 : Int) ≤ 16 := by omega
                      have HX := Lib.hid (HI.out k true HFk.out ⟨fun _ => (HO.out k).2 ⟨rfl, rfl, gm, gc, m1, m2⟩, fun _ => rfl⟩)
                      go_wp2_with fail
                      refine (maskOf_any k hk _).mono ?_
                      rintro y w1 ⟨rfl, rfl⟩
                      go_wp2_with fail
                      refine (N8.out _ HBX.out.drew.drew.drew.drew).mono ?_
                      rintro y w1 ⟨rfl, rfl⟩
                      go_wp2_with fail
                      refine (fault_any n4 (k : Int) h4 _).mono ?_
                      rintro y w5 ⟨rfl, b5⟩
                      have HB5 := Lib.hid (Below.two HBX.out.drew.drew.drew.drew.drew b5)
                      have RX5 := Lib.hid ((RX.out.ofBlock (w1 := _) (by rfl) : EBox _ w.heap.size ⟨0, 0, 0, 0, 0⟩).kept b5)
                      have EX5 := Lib.hid ((SeenO.drew (SeenO.drew (SeenO.drew (SeenO.drew (SeenO.drew EX.out))))).ofBlock (b5.block wq.heap.size (by show wq.heap.size < _; exact ltX.out)))
                      obtain ⟨e0, e1, e2, e3, e4⟩ := EX5.out
                      simp only [Nat.zero_add] at e0 e1 e2 e3 e4
                      obtain ⟨⟨r0, r1, r2, r3, r4⟩, rf⟩ := RX5.out
                      simp only [Nat.zero_add] at r0 r1 r2 r3 r4
                      have rf0 := rf 0; have rf1 := rf 1; have rf2 := rf 2; have rf3 := rf 3; have rf4 := rf 4
                      clear rf b5
                      go_wp2_with fail
                      exact bodyPost_ent (e := ⟨n4, k, (x2 : Int) * 256 + (x3 : Int), n12, n16⟩) (er := .bool true) Tryd.results29 rfl (by first | rfl | exact congrArg Value.bool (decide_eq_false (by omega)) | exact congrArg Value.bool (decide_eq_true (by omega))) (set5 RX5.out ⟨n4, k, (x2 : Int) * 256 + (x3 : Int), n12, n16⟩) rfl (EntTo.of (by rw [← HEK.out]; exact HX.out) (below5 HB5.out _ _ _ _ _))
                    · have m2' : ¬ (n16 : Int) ≤ 16 := by omega
                      have HX := Lib.hid (HI.out k false HFk.out ⟨fun h => (by cases h), fun h => absurd ((HO.out k).1 h).2.2.2.2.2 m2⟩)
                      go_wp2_with fail
                      refine (maskOf_any k hk _).mono ?_
                      rintro y w1 ⟨rfl, rfl⟩
                      go_wp2_with fail
                      refine (N8.out _ HBX.out.drew.drew.drew.drew).mono ?_
                      rintro y w1 ⟨rfl, rfl⟩
                      go_wp2_with fail
                      refine (fault_any n4 (k : Int) h4 _).mono ?_
                      rintro y w5 ⟨rfl, b5⟩
                      have HB5 := Lib.hid (Below.two HBX.out.drew.drew.drew.drew.drew b5)
                      have RX5 := Lib.hid ((RX.out.ofBlock (w1 := _) (by rfl) : EBox _ w.heap.size ⟨0, 0, 0, 0, 0⟩).kept b5)
                      have EX5 := Lib.hid ((SeenO.drew (SeenO.drew (SeenO.drew (SeenO.drew (SeenO.drew EX.out))))).ofBlock (b5.block wq.heap.size (by show wq.heap.size < _; exact ltX.out)))
                      obtain ⟨e0, e1, e2, e3, e4⟩ := EX5.out
                      simp only [Nat.zero_add] at e0 e1 e2 e3 e4
                      obtain ⟨⟨r0, r1, r2, r3, r4⟩, rf⟩ := RX5.out
                      simp only [Nat.zero_add] at r0 r1 r2 r3 r4
                      have rf0 := rf 0; have rf1 := rf 1; have rf2 := rf 2; have rf3 := rf 3; have rf4 := rf 4
                      clear rf b5
                      go_wp2_with fail
                      exact bodyPost_ent (e := ⟨n4, k, (x2 : Int) * 256 + (x3 : Int), n12, n16⟩) (er := .bool false) Tryd.results29 rfl (by first | rfl | exact congrArg Value.bool (decide_eq_false (by omega)) | exact congrArg Value.bool (decide_eq_true (by omega))) (set5 RX5.out ⟨n4, k, (x2 : Int) * 256 + (x3 : Int), n12, n16⟩) rfl (EntTo.of (by rw [← HEK.out]; exact HX.out) (below5 HB5.out _ _ _ _ _))
                  · have m1' : ¬ (1 : Int) ≤ n16 := by omega
                    have HX := Lib.hid (HI.out k false HFk.out ⟨fun h => (by cases h), fun h => absurd ((HO.out k).1 h).2.2.2.2.1 m1⟩)
                    go_wp2_with fail
                    refine (maskOf_any k hk _).mono ?_
                    rintro y w1 ⟨rfl, rfl⟩
                    go_wp2_with fail
                    refine (N8.out _ HBX.out.drew.drew.drew.drew).mono ?_
                    rintro y w1 ⟨rfl, rfl⟩
                    go_wp2_with fail
                    refine (fault_any n4 (k : Int) h4 _).mono ?_
                    rintro y w5 ⟨rfl, b5⟩
                    have HB5 := Lib.hid (Below.two HBX.out.drew.drew.drew.drew.drew b5)
                    have RX5 := Lib.hid ((RX.out.ofBlock (w1 := _) (by rfl) : EBox _ w.heap.size ⟨0, 0, 0, 0, 0⟩).kept b5)
                    have EX5 := Lib.hid ((SeenO.drew (SeenO.drew (SeenO.drew (SeenO.drew (SeenO.drew EX.out))))).ofBlock (b5.block wq.heap.size (by show wq.heap.size < _; exact ltX.out)))
                    obtain ⟨e0, e1, e2, e3, e4⟩ := EX5.out
                    simp only [Nat.zero_add] at e0 e1 e2 e3 e4
                    obtain ⟨⟨r0, r1, r2, r3, r4⟩, rf⟩ := RX5.out
                    simp only [Nat.zero_add] at r0 r1 r2 r3 r4
                    have rf0 := rf 0; have rf1 := rf 1; have rf2 := rf 2; have rf3 := rf 3; have rf4 := rf 4
                    clear rf b5
                    go_wp2_with fail
                    exact bodyPost_ent (e := ⟨n4, k, (x2 : Int) * 256 + (x3 : Int), n12, n16⟩) (er := .bool false) Tryd.results29 rfl rfl (set5 RX5.out ⟨n4, k, (x2 : Int) * 256 + (x3 : Int), n12, n16⟩) rfl (EntTo.of (by rw [← HEK.out]; exact HX.out) (below5 HB5.out _ _ _ _ _))
                · have gc' : (PrefP.chk n4 (k : Int) == 0) = false := by simpa using gc
                  have HX := Lib.hid (HI.out k false HFk.out ⟨fun h => (by cases h), fun h => absurd ((HO.out k).1 h).2.2.2.1 gc⟩)
                  go_wp2_with fail
                  refine (maskOf_any k hk _).mono ?_
                  rintro y w1 ⟨rfl, rfl⟩
                  go_wp2_with fail
                  refine (N8.out _ HBX.out.drew.drew.drew.drew).mono ?_
                  rintro y w1 ⟨rfl, rfl⟩
                  go_wp2_with fail
                  refine (fault_any n4 (k : Int) h4 _).mono ?_
                  rintro y w5 ⟨rfl, b5⟩
                  have HB5 := Lib.hid (Below.two HBX.out.drew.drew.drew.drew.drew b5)
                  have RX5 := Lib.hid ((RX.out.ofBlock (w1 := _) (by rfl) : EBox _ w.heap.size ⟨0, 0, 0, 0, 0⟩).kept b5)
                  have EX5 := Lib.hid ((SeenO.drew (SeenO.drew (SeenO.drew (SeenO.drew (SeenO.drew EX.out))))).ofBlock (b5.block wq.heap.size (by show wq.heap.size < _; exact ltX.out)))
                  obtain ⟨e0, e1, e2, e3, e4⟩ := EX5.out
                  simp only [Nat.zero_add] at e0 e1 e2 e3 e4
                  obtain ⟨⟨r0, r1, r2, r3, r4⟩, rf⟩ := RX5.out
                  simp only [Nat.zero_add] at r0 r1 r2 r3 r4
                  have rf0 := rf 0; have rf1 := rf 1; have rf2 := rf 2; have rf3 := rf 3; have rf4 := rf 4
                  clear rf b5
                  go_wp2_with fail
                  exact bodyPost_ent (e := ⟨n4, k, (x2 : Int) * 256 + (x3 : Int), n12, n16⟩) (er := .bool false) Tryd.results29 rfl rfl (set5 RX5.out ⟨n4, k, (x2 : Int) * 256 + (x3 : Int), n12, n16⟩) rfl (EntTo.of (by rw [← HEK.out]; exact HX.out) (below5 HB5.out _ _ _ _ _))
              · have gm' : ((MaskP.mk k : Int) == (n8 : Int)) = false := by
                  have : ¬ (MaskP.mk k : Int) = n8 := by omega
                  simpa using this
                have HX := Lib.hid (HI.out k false HFk.out ⟨fun h => (by cases h), fun h => absurd ((HO.out k).1 h).2.2.1 gm⟩)
                go_wp2_with fail
                refine (maskOf_any k hk _).mono ?_
                rintro y w1 ⟨rfl, rfl⟩
                go_wp2_with fail
                refine (N8.out _ HBX.out.drew.drew.drew.drew).mono ?_
                rintro y w1 ⟨rfl, rfl⟩
                go_wp2_with fail
                exact bodyPost_ent (e := ⟨n4, k, (x2 : Int) * 256 + (x3 : Int), n12, n16⟩) (er := .bool false) Tryd.results29 rfl rfl (set5 RX.out ⟨n4, k, (x2 : Int) * 256 + (x3 : Int), n12, n16⟩).drew.drew.drew.drew.drew rfl (EntTo.of (by rw [← HEK.out]; exact HX.out) (below5 HBX.out _ _ _ _ _).drew.drew.drew.drew.drew)
            · have g1' : ((x1 : Int) == 2) = false := by
                have : ¬ (x1 : Int) = 2 := by omega
                simpa using this
              have HX := Lib.hid (HI.out k false HFk.out ⟨fun h => (by cases h), fun h => absurd ((HO.out k).1 h).2.1 g1⟩)
              go_wp2_with fail
              exact bodyPost_ent (e := ⟨n4, k, (x2 : Int) * 256 + (x3 : Int), n12, n16⟩) (er := .bool false) Tryd.results29 rfl rfl (set5 RX.out ⟨n4, k, (x2 : Int) * 256 + (x3 : Int), n12, n16⟩).drew.drew.drew.drew rfl (EntTo.of (by rw [← HEK.out]; exact HX.out) (below5 HBX.out _ _ _ _ _).drew.drew.drew.drew)
          · have g0' : ((x0 : Int) == 0) = false := by
              have : ¬ (x0 : Int) = 0 := by omega
              simpa using this
            have HX := Lib.hid (HI.out k false HFk.out ⟨fun h => (by cases h), fun h => absurd ((HO.out k).1 h).1 g0⟩)
            go_wp2_with fail
            exact bodyPost_ent (e := ⟨n4, k, (x2 : Int) * 256 + (x3 : Int), n12, n16⟩) (er := .bool false) Tryd.results29 rfl rfl (set5 RX.out ⟨n4, k, (x2 : Int) * 256 + (x3 : Int), n12, n16⟩).drew.drew.drew.drew rfl (EntTo.of (by rw [← HEK.out]; exact HX.out) (below5 HBX.out _ _ _ _ _).drew.drew.drew.drew)
      · go_simp
        go_wp2_with fail
        have KK20 := ST2.out _ HBA.out.drew
        refine hK.out _ _ KK20 (fun hHeld => ?_)
        clear hK K
        refine wpAnyH_ready (rs := [1]) (by kernel_rfl) (by simp) ?_
        refine (AllReadyH.cons (o := { dst := some 19, op := Op.call { callee := Callee.value (Operand.func 35), args := #[Operand.tmp 18, Operand.const (Value.int IntKind.i64 4)], argTypes := #[25, 3] }, type := 45, pos := "nets.go:252", after := #[{ on := 0, ground := Ground.data }], guard := none }) rfl (fun K hK => ?_) AllReadyH.nil)
        go_simp
        go_at_call 35
        refine (N4.out _ HBA.out.drew).mono ?_
        rintro y w1' ⟨rfl, rfl⟩
        have KK1 := ST2.out _ HBA.out.drew.drew
        go_wp2_with fail
        refine hK.out _ _ KK1 (fun hHeld => ?_)
        clear hK K
        refine wpAnyH_take (i := 3) (oi := { dst := some 21, op := Op.build 47 #[(0, Operand.tmp 19), (1, Operand.tmp 20)], type := 47, pos := "nets.go:252", after := #[{ on := 1, ground := Ground.data }, { on := 2, ground := Ground.data }], guard := none }) (v := ?_) rfl (by kernel_rfl) (by kernel_rfl) (by kernel_rfl) (fun _ _ _ h => h) (Or.inl ⟨by rfl, ?_⟩) hHeld ?_
        rotate_left
        · (intro w hSw; (try dsimp only at hSw); go_simp; first | done | with_reducible rfl)
        simp only [Act.put, List.setIfInBounds_toArray, List.set_cons_zero, List.set_cons_succ]
        refine wpAnyH_ready (rs := [15]) (by kernel_rfl) (by simp) ?_
        refine (AllReadyH.cons (o := { dst := some 33, op := Op.call { callee := Callee.value (Operand.func 35), args := #[Operand.tmp 32, Operand.const (Value.int IntKind.i64 12)], argTypes := #[25, 3] }, type := 45, pos := "nets.go:252", after := #[{ on := 14, ground := Ground.data }, { on := 1, ground := Ground.chain }], guard := none }) rfl (fun K hK => ?_) AllReadyH.nil)
        go_simp
        go_at_call 35
        refine (N12.out _ HBA.out.drew.drew).mono ?_
        rintro y w15' ⟨rfl, rfl⟩
        have KK15 := ST2.out _ HBA.out.drew.drew.drew
        go_wp2_with fail
        refine hK.out _ _ KK15 (fun hHeld => ?_)
        clear hK K
        refine wpAnyH_ready (rs := [17]) (by kernel_rfl) (by simp) ?_
        refine (AllReadyH.cons (o := { dst := some 35, op := Op.call { callee := Callee.value (Operand.func 35), args := #[Operand.tmp 34, Operand.const (Value.int IntKind.i64 16)], argTypes := #[25, 3] }, type := 45, pos := "nets.go:252", after := #[{ on := 16, ground := Ground.data }, { on := 15, ground := Ground.chain }], guard := none }) rfl (fun K hK => ?_) AllReadyH.nil)
        go_simp
        go_at_call 35
        refine (N16.out _ HBA.out.drew.drew.drew).mono ?_
        rintro y w17' ⟨rfl, rfl⟩
        have KK17 := ST2.out _ HBA.out.drew.drew.drew.drew
        go_wp2_with fail
        refine hK.out _ _ KK17 (fun hHeld => ?_)
        clear hK K
        refine wpAnyH_take (i := 18) (oi := { dst := some 36, op := Op.convert 45 3 (Operand.tmp 35), type := 3, pos := "nets.go:252", after := #[{ on := 17, ground := Ground.data }], guard := none }) (v := ?_) rfl (by kernel_rfl) (by kernel_rfl) (by kernel_rfl) (fun _ _ _ h => h) (Or.inl ⟨by rfl, ?_⟩) hHeld ?_
        rotate_left
        · (intro w hSw; (try dsimp only at hSw); go_simp; (try rw [A6.out]); first | done | with_reducible rfl)
        simp only [Act.put, List.setIfInBounds_toArray, List.set_cons_zero, List.set_cons_succ]
        refine wpAnyH_take (i := 19) (oi := { dst := some 37, op := Op.build 49 #[(0, Operand.tmp 21), (1, Operand.tmp 31), (2, Operand.tmp 33), (3, Operand.tmp 36)], type := 49, pos := "nets.go:252", after := #[{ on := 3, ground := Ground.data }, { on := 13, ground := Ground.data }, { on := 15, ground := Ground.data }, { on := 18, ground := Ground.data }], guard := none }) (v := ?_) rfl (by kernel_rfl) (by kernel_rfl) (by kernel_rfl) (fun _ _ _ h => h) (Or.inl ⟨by rfl, ?_⟩) hHeld ?_
        rotate_left
        · (intro w hSw; (try dsimp only at hSw); go_simp; first | done | with_reducible rfl)
        simp only [Act.put, List.setIfInBounds_toArray, List.set_cons_zero, List.set_cons_succ]
        refine wpAnyH_ready (rs := [21]) (by kernel_rfl) (by simp) ?_
        refine (AllReadyH.cons (o := { dst := none, op := Op.store 49 (Operand.tmp 5) (Operand.tmp 37), type := 0, pos := "nets.go:252", after := #[{ on := 20, ground := Ground.data }, { on := 19, ground := Ground.data }, { on := 17, ground := Ground.chain }, { on := 0, ground := Ground.phase }, { on := 1, ground := Ground.phase }, { on := 2, ground := Ground.phase }, { on := 3, ground := Ground.phase }, { on := 4, ground := Ground.phase }, { on := 5, ground := Ground.phase }, { on := 6, ground := Ground.phase }, { on := 7, ground := Ground.phase }, { on := 8, ground := Ground.phase }, { on := 9, ground := Ground.phase }, { on := 10, ground := Ground.phase }, { on := 11, ground := Ground.phase }, { on := 12, ground := Ground.phase }, { on := 13, ground := Ground.phase }, { on := 14, ground := Ground.phase }, { on := 15, ground := Ground.phase }, { on := 16, ground := Ground.phase }, { on := 17, ground := Ground.phase }, { on := 18, ground := Ground.phase }, { on := 19, ground := Ground.phase }, { on := 20, ground := Ground.phase }], guard := none }) rfl (fun K hK => ?_) AllReadyH.nil)
        go_simp
        go_wp2_with fail
        have KK21 := ST2.out _ HBX.out.drew.drew.drew.drew
        refine hK.out _ _ KK21 (fun hHeld => ?_)
        clear hK K
        refine wpAnyH_done (by kernel_rfl) ?_ _
        obtain ⟨s0, s1⟩ := ST0.out _ HBX.out
        obtain ⟨e0, e1, e2, e3, e4⟩ := EX.out
        simp only [Nat.zero_add] at e0 e1 e2 e3 e4
        obtain ⟨⟨r0, r1, r2, r3, r4⟩, rf⟩ := RX.out
        simp only [Nat.zero_add] at r0 r1 r2 r3 r4
        have rf0 := rf 0; have rf1 := rf 1; have rf2 := rf 2; have rf3 := rf 3; have rf4 := rf 4
        clear rf c0 c1 c2 c3 c4 f0 f1 f2 f3 f4 hHeld
        by_cases g0 : x0 = 0
        · subst g0
          by_cases g1 : x1 = 2
          · subst g1
            by_cases gm : MaskP.mk k = n8
            · have gm' : ((MaskP.mk k : Int) == (n8 : Int)) = true := by rw [gm]; simp
              by_cases gc : PrefP.chk n4 (k : Int) = 0
              · have gc' : (PrefP.chk n4 (k : Int) == 0) = true := by rw [gc]; rfl
                by_cases m1 : 1 ≤ n16
                · have m1' : (1 : Int) ≤ n16 := by omega
                  by_cases m2 : n16 ≤ 16
                  · have m2' : (n16 : Int) ≤ 16 := by omega
                    have HX := Lib.hid (HI.out k true HFk.out ⟨fun _ => (HO.out k).2 ⟨rfl, rfl, gm, gc, m1, m2⟩, fun _ => rfl⟩)
                    go_wp2_with fail
                    refine (maskOf_any k hk _).mono ?_
                    rintro y w1 ⟨rfl, rfl⟩
                    go_wp2_with fail
                    refine (N8.out _ HBX.out.drew.drew.drew.drew).mono ?_
                    rintro y w1 ⟨rfl, rfl⟩
                    go_wp2_with fail
                    refine (fault_any n4 (k : Int) h4 _).mono ?_
                    rintro y w5 ⟨rfl, b5⟩
                    have HB5 := Lib.hid (Below.two HBX.out.drew.drew.drew.drew.drew b5)
                    have RX5 := Lib.hid ((RX.out.ofBlock (w1 := _) (by rfl) : EBox _ w.heap.size ⟨0, 0, 0, 0, 0⟩).kept b5)
                    have EX5 := Lib.hid ((SeenO.drew (SeenO.drew (SeenO.drew (SeenO.drew (SeenO.drew EX.out))))).ofBlock (b5.block wq.heap.size (by show wq.heap.size < _; exact ltX.out)))
                    obtain ⟨e0, e1, e2, e3, e4⟩ := EX5.out
                    simp only [Nat.zero_add] at e0 e1 e2 e3 e4
                    obtain ⟨⟨r0, r1, r2, r3, r4⟩, rf⟩ := RX5.out
                    simp only [Nat.zero_add] at r0 r1 r2 r3 r4
                    have rf0 := rf 0; have rf1 := rf 1; have rf2 := rf 2; have rf3 := rf 3; have rf4 := rf 4
                    clear rf b5
                    go_wp2_with fail
                    exact bodyPost_ent (e := ⟨n4, k, (x2 : Int) * 256 + (x3 : Int), n12, n16⟩) (er := .bool true) Tryd.results29 rfl (by first | rfl | exact congrArg Value.bool (decide_eq_false (by omega)) | exact congrArg Value.bool (decide_eq_true (by omega))) (set5 RX5.out ⟨n4, k, (x2 : Int) * 256 + (x3 : Int), n12, n16⟩) rfl (EntTo.of (by rw [← HEK.out]; exact HX.out) (below5 HB5.out _ _ _ _ _))
                  · have m2' : ¬ (n16 : Int) ≤ 16 := by omega
                    have HX := Lib.hid (HI.out k false HFk.out ⟨fun h => (by cases h), fun h => absurd ((HO.out k).1 h).2.2.2.2.2 m2⟩)
                    go_wp2_with fail
                    refine (maskOf_any k hk _).mono ?_
                    rintro y w1 ⟨rfl, rfl⟩
                    go_wp2_with fail
                    refine (N8.out _ HBX.out.drew.drew.drew.drew).mono ?_
                    rintro y w1 ⟨rfl, rfl⟩
                    go_wp2_with fail
                    refine (fault_any n4 (k : Int) h4 _).mono ?_
                    rintro y w5 ⟨rfl, b5⟩
                    have HB5 := Lib.hid (Below.two HBX.out.drew.drew.drew.drew.drew b5)
                    have RX5 := Lib.hid ((RX.out.ofBlock (w1 := _) (by rfl) : EBox _ w.heap.size ⟨0, 0, 0, 0, 0⟩).kept b5)
                    have EX5 := Lib.hid ((SeenO.drew (SeenO.drew (SeenO.drew (SeenO.drew (SeenO.drew EX.out))))).ofBlock (b5.block wq.heap.size (by show wq.heap.size < _; exact ltX.out)))
                    obtain ⟨e0, e1, e2, e3, e4⟩ := EX5.out
                    simp only [Nat.zero_add] at e0 e1 e2 e3 e4
                    obtain ⟨⟨r0, r1, r2, r3, r4⟩, rf⟩ := RX5.out
                    simp only [Nat.zero_add] at r0 r1 r2 r3 r4
                    have rf0 := rf 0; have rf1 := rf 1; have rf2 := rf 2; have rf3 := rf 3; have rf4 := rf 4
                    clear rf b5
                    go_wp2_with fail
                    exact bodyPost_ent (e := ⟨n4, k, (x2 : Int) * 256 + (x3 : Int), n12, n16⟩) (er := .bool false) Tryd.results29 rfl (by first | rfl | exact congrArg Value.bool (decide_eq_false (by omega)) | exact congrArg Value.bool (decide_eq_true (by omega))) (set5 RX5.out ⟨n4, k, (x2 : Int) * 256 + (x3 : Int), n12, n16⟩) rfl (EntTo.of (by rw [← HEK.out]; exact HX.out) (below5 HB5.out _ _ _ _ _))
                · have m1' : ¬ (1 : Int) ≤ n16 := by omega
                  have HX := Lib.hid (HI.out k false HFk.out ⟨fun h => (by cases h), fun h => absurd ((HO.out k).1 h).2.2.2.2.1 m1⟩)
                  go_wp2_with fail
                  refine (maskOf_any k hk _).mono ?_
                  rintro y w1 ⟨rfl, rfl⟩
                  go_wp2_with fail
                  refine (N8.out _ HBX.out.drew.drew.drew.drew).mono ?_
                  rintro y w1 ⟨rfl, rfl⟩
                  go_wp2_with fail
                  refine (fault_any n4 (k : Int) h4 _).mono ?_
                  rintro y w5 ⟨rfl, b5⟩
                  have HB5 := Lib.hid (Below.two HBX.out.drew.drew.drew.drew.drew b5)
                  have RX5 := Lib.hid ((RX.out.ofBlock (w1 := _) (by rfl) : EBox _ w.heap.size ⟨0, 0, 0, 0, 0⟩).kept b5)
                  have EX5 := Lib.hid ((SeenO.drew (SeenO.drew (SeenO.drew (SeenO.drew (SeenO.drew EX.out))))).ofBlock (b5.block wq.heap.size (by show wq.heap.size < _; exact ltX.out)))
                  obtain ⟨e0, e1, e2, e3, e4⟩ := EX5.out
                  simp only [Nat.zero_add] at e0 e1 e2 e3 e4
                  obtain ⟨⟨r0, r1, r2, r3, r4⟩, rf⟩ := RX5.out
                  simp only [Nat.zero_add] at r0 r1 r2 r3 r4
                  have rf0 := rf 0; have rf1 := rf 1; have rf2 := rf 2; have rf3 := rf 3; have rf4 := rf 4
                  clear rf b5
                  go_wp2_with fail
                  exact bodyPost_ent (e := ⟨n4, k, (x2 : Int) * 256 + (x3 : Int), n12, n16⟩) (er := .bool false) Tryd.results29 rfl rfl (set5 RX5.out ⟨n4, k, (x2 : Int) * 256 + (x3 : Int), n12, n16⟩) rfl (EntTo.of (by rw [← HEK.out]; exact HX.out) (below5 HB5.out _ _ _ _ _))
              · have gc' : (PrefP.chk n4 (k : Int) == 0) = false := by simpa using gc
                have HX := Lib.hid (HI.out k false HFk.out ⟨fun h => (by cases h), fun h => absurd ((HO.out k).1 h).2.2.2.1 gc⟩)
                go_wp2_with fail
                refine (maskOf_any k hk _).mono ?_
                rintro y w1 ⟨rfl, rfl⟩
                go_wp2_with fail
                refine (N8.out _ HBX.out.drew.drew.drew.drew).mono ?_
                rintro y w1 ⟨rfl, rfl⟩
                go_wp2_with fail
                refine (fault_any n4 (k : Int) h4 _).mono ?_
                rintro y w5 ⟨rfl, b5⟩
                have HB5 := Lib.hid (Below.two HBX.out.drew.drew.drew.drew.drew b5)
                have RX5 := Lib.hid ((RX.out.ofBlock (w1 := _) (by rfl) : EBox _ w.heap.size ⟨0, 0, 0, 0, 0⟩).kept b5)
                have EX5 := Lib.hid ((SeenO.drew (SeenO.drew (SeenO.drew (SeenO.drew (SeenO.drew EX.out))))).ofBlock (b5.block wq.heap.size (by show wq.heap.size < _; exact ltX.out)))
                obtain ⟨e0, e1, e2, e3, e4⟩ := EX5.out
                simp only [Nat.zero_add] at e0 e1 e2 e3 e4
                obtain ⟨⟨r0, r1, r2, r3, r4⟩, rf⟩ := RX5.out
                simp only [Nat.zero_add] at r0 r1 r2 r3 r4
                have rf0 := rf 0; have rf1 := rf 1; have rf2 := rf 2; have rf3 := rf 3; have rf4 := rf 4
                clear rf b5
                go_wp2_with fail
                exact bodyPost_ent (e := ⟨n4, k, (x2 : Int) * 256 + (x3 : Int), n12, n16⟩) (er := .bool false) Tryd.results29 rfl rfl (set5 RX5.out ⟨n4, k, (x2 : Int) * 256 + (x3 : Int), n12, n16⟩) rfl (EntTo.of (by rw [← HEK.out]; exact HX.out) (below5 HB5.out _ _ _ _ _))
            · have gm' : ((MaskP.mk k : Int) == (n8 : Int)) = false := by
                have : ¬ (MaskP.mk k : Int) = n8 := by omega
                simpa using this
              have HX := Lib.hid (HI.out k false HFk.out ⟨fun h => (by cases h), fun h => absurd ((HO.out k).1 h).2.2.1 gm⟩)
              go_wp2_with fail
              refine (maskOf_any k hk _).mono ?_
              rintro y w1 ⟨rfl, rfl⟩
              go_wp2_with fail
              refine (N8.out _ HBX.out.drew.drew.drew.drew).mono ?_
              rintro y w1 ⟨rfl, rfl⟩
              go_wp2_with fail
              exact bodyPost_ent (e := ⟨n4, k, (x2 : Int) * 256 + (x3 : Int), n12, n16⟩) (er := .bool false) Tryd.results29 rfl rfl (set5 RX.out ⟨n4, k, (x2 : Int) * 256 + (x3 : Int), n12, n16⟩).drew.drew.drew.drew.drew rfl (EntTo.of (by rw [← HEK.out]; exact HX.out) (below5 HBX.out _ _ _ _ _).drew.drew.drew.drew.drew)
          · have g1' : ((x1 : Int) == 2) = false := by
              have : ¬ (x1 : Int) = 2 := by omega
              simpa using this
            have HX := Lib.hid (HI.out k false HFk.out ⟨fun h => (by cases h), fun h => absurd ((HO.out k).1 h).2.1 g1⟩)
            go_wp2_with fail
            exact bodyPost_ent (e := ⟨n4, k, (x2 : Int) * 256 + (x3 : Int), n12, n16⟩) (er := .bool false) Tryd.results29 rfl rfl (set5 RX.out ⟨n4, k, (x2 : Int) * 256 + (x3 : Int), n12, n16⟩).drew.drew.drew.drew rfl (EntTo.of (by rw [← HEK.out]; exact HX.out) (below5 HBX.out _ _ _ _ _).drew.drew.drew.drew)
        · have g0' : ((x0 : Int) == 0) = false := by
            have : ¬ (x0 : Int) = 0 := by omega
            simpa using this
          have HX := Lib.hid (HI.out k false HFk.out ⟨fun h => (by cases h), fun h => absurd ((HO.out k).1 h).1 g0⟩)
          go_wp2_with fail
          exact bodyPost_ent (e := ⟨n4, k, (x2 : Int) * 256 + (x3 : Int), n12, n16⟩) (er := .bool false) Tryd.results29 rfl rfl (set5 RX.out ⟨n4, k, (x2 : Int) * 256 + (x3 : Int), n12, n16⟩).drew.drew.drew.drew rfl (EntTo.of (by rw [← HEK.out]; exact HX.out) (below5 HBX.out _ _ _ _ _).drew.drew.drew.drew)

theorem entAll : EntAll := fun w b off c l h1 h2 h3 h4 => entryOf_any w b off c l h1 h2 h3 h4
end Go.Proofs.YtlgkjbkbdmneaaaDoor
