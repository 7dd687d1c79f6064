/-
  The document's own Goes at every list of fewer than twenty bytes; what lay in memory stays.
-/
import Derived.Test.YtlgkjbkbdmneaaaDoorRefBytes
import Derived.Test.YtlgkjbkbdmneaaaDoorByteSet
import Derived.Test.YtlgkjbkbdmneaaaDoorRefNum
import Derived.Test.YtlgkjbkbdmneaaaDoorEntTo
import Derived.Test.YtlgkjbkbdmneaaaDoorSpoil
import Derived.Deep.RegionHeld3
import Derived.LoopN
namespace Go.Proofs.YtlgkjbkbdmneaaaDoor
open Go.RowKit Go.Lib

def GoesTo (w : World) (l : List Nat) (x : Ending) (w' : World) : Prop := ∃ r : Bool, x = .returned (.bool r) ∧ (r = true ↔ PreE l) ∧ Below w.heap.size w w'
theorem GoesTo.yes {w w' : World} {l : List Nat} (h : PreE l) (hb : Below w.heap.size w w') : GoesTo w l (.returned (.bool true)) w' := ⟨true, rfl, ⟨fun _ => h, fun _ => rfl⟩, hb⟩
theorem GoesTo.no {w w' : World} {l : List Nat} (h : ¬ PreE l) (hb : Below w.heap.size w w') : GoesTo w l (.returned (.bool false)) w' := ⟨false, rfl, ⟨fun h => (by cases h), fun h' => absurd h' h⟩, hb⟩

set_option maxHeartbeats 40000000 in
set_option maxRecDepth 100000 in
theorem goes_any (w : World) (b off c : Nat) (l : List Nat) (hl : l.length < 20) (hb : Byt l) (hlt : b < w.heap.size) (hs : SeenB w b off l) (hEnt : EntAll) :
    Calls Tryd.prog 28 #[.slice (some ⟨b, off, none⟩) l.length c] w (GoesTo w l) := by
  have HS := Lib.hid hs; have HY := Lib.hid hb; have HEN := Lib.hid hEnt
  have HP := Lib.hid (preE_iff hb)
  clear hs hb hEnt
  go_enter Tryd.func28, Tryd.ntmps28
  go_wp2_with fail
  go_loopw [3] (fun vk wr => ∃ (k : Nat), vk = .int .i64 k ∧ k ≤ 33 ∧ Hid (∀ k', k' < k → ∀ m', 1 ≤ m' → m' ≤ 16 → ¬ Hit l k' m') ∧ Hid (Below w.heap.size w wr)) (fun vk _ => 33 - (RowKit.intOf vk).toNat)
  case atStart => exact ⟨0, rfl, by omega, Lib.hid (fun k' h => by omega), Lib.hid (Below.refl _ _)⟩
  case round =>
    obtain ⟨k, rfl, hk, HK, HB⟩ := hrel
    by_cases hk2 : k ≤ 32
    · have hk' : (k : Int) ≤ 32 := by omega
      go_wp2_with fail
      go_loopw [4] (fun vm wr => ∃ (m : Nat), vm = .int .i64 m ∧ 1 ≤ m ∧ m ≤ 17 ∧ Hid (∀ m', 1 ≤ m' → m' < m → ¬ Hit l k m') ∧ Hid (Below w.heap.size w wr)) (fun vm _ => 17 - (RowKit.intOf vm).toNat)
      case atStart => exact ⟨1, rfl, by omega, by omega, Lib.hid (fun m' h1 h2 => by omega), HB⟩
      case round =>
        clear HB
        obtain ⟨m, rfl, hm1, hm, HM, HB⟩ := hrel
        by_cases hm2 : m ≤ 16
        · have hm' : (m : Int) ≤ 16 := by omega
          have B1 := (Below.refl _ wr).alloc (Nat.le_refl _) (.cells #[.int .u8 0, .int .u8 2, .int .u8 0, .int .u8 0, .int .u8 0, .int .u8 0, .int .u8 0, .int .u8 0] 5)
          have o1 := OwnB.made wr wr.heap.size (fill8 l 2) #[.int .u8 0, .int .u8 2, .int .u8 0, .int .u8 0, .int .u8 0, .int .u8 0, .int .u8 0, .int .u8 0] (by rw [fill8_start]; rfl) (Nat.le_refl _) (by rw [fill8_len]; decide)
          rw [fill8_len] at o1
          have HO1 := Lib.hid o1; have HB1 := Lib.hid (Below.two HB.out B1)
          have z1 := B1.size
          have hw0 := HB.out.size
          obtain ⟨G, hG⟩ : ∃ G, G = wr.heap.size := ⟨_, rfl⟩
          have hwG : w.heap.size ≤ G := by omega
          clear o1
          go_wp2_with fail
          rw [← hG]
          rw [← hG] at HO1
          generalize hW1 : wr.alloc (.cells #[.int .u8 0, .int .u8 2, .int .u8 0, .int .u8 0, .int .u8 0, .int .u8 0, .int .u8 0, .int .u8 0] 5) = W1 at HO1 HB1 ⊢
          have zG : G ≤ W1.heap.size := by rw [← hW1, hG]; exact z1
          clear B1 z1 hW1 hG hw0
          go_loopw [6] (fun vi w3 => ∃ (i : Nat), vi = .int .i64 i ∧ 2 ≤ i ∧ i ≤ 8 ∧ Hid (OwnB w3 G (.slice (some ⟨G, 0, none⟩) 8 8) (fill8 l i)) ∧ Hid (Below w.heap.size w w3) ∧ G ≤ w3.heap.size) (fun vi _ => 8 - (RowKit.intOf vi).toNat)
          case atStart => exact ⟨2, rfl, by omega, by omega, HO1, HB1, zG⟩
          case round =>
            clear HO1 HB1 zG
            obtain ⟨i, rfl, hi2, hi8, HO, HBi, zi⟩ := hrel
            by_cases hii : i < 8 ∧ i < l.length
            · have hi' : (i : Int) < 8 := by omega
              have hi'' : (i : Int) < l.length := by omega
              have cb := (HS.out.below HBi.out hlt) i hii.2
              obtain ⟨-, -, -, sg, fg⟩ := HO.out.at
              have cg := sg i (by rw [fill8_len]; omega)
              rw [Nat.zero_add] at cg
              have fg' := fg i
              have HN := Lib.hid (HO.out.set i l[i]!)
              rw [fill8_step l i hi2 hii.1 hii.2] at HN
              have HBn := Lib.hid (HBi.out.setCell (p := ⟨G, i, none⟩) hwG (.int .u8 ((l[i]! : Nat) : Int)))
              generalize l[i]! = y at cb HN HBn
              clear sg fg
              go_wp2_with fail
              go_roundw
              case rel => exact ⟨i + 1, by go_num, by omega, by omega, HN, HBn, by first | exact zi | (rw [setCell_size]; exact zi)⟩
              case measure => simp [RowKit.intOf]; omega
            · have HE8 := Lib.hid (fill8_end l i (by omega))
              rw [HE8.out] at HO
              by_cases hi3 : i < 8
              · have hi' : (i : Int) < 8 := by omega
                have hi'' : ¬ (i : Int) < l.length := by omega
                go_wp2_with fail
                refine (maskOf_any k (by omega) _).mono ?_
                rintro x wm ⟨rfl, rfl⟩
                go_wp2_with fail
                refine (four_any _ _ (MaskP.lt k)).mono ?_
                rintro x F1 ⟨f1, rfl, of1, bf1⟩
                obtain ⟨gf, cf, hvf, -, -⟩ : ∃ g cap, f1 = .slice (some ⟨g, 0, none⟩) 4 cap ∧ _ ∧ _ := by
                  rcases rowForm of1 with ⟨h, _⟩ | h
                  · cases h
                  · exact h
                subst hvf
                obtain ⟨-, -, -, sf1, -⟩ := of1.at
                have HOF := Lib.hid (HO.out.keep bf1); have HBF := Lib.hid (Below.two HBi.out bf1); have HSF := Lib.hid sf1
                have zF : G ≤ F1.heap.size := Nat.le_trans zi bf1.size
                clear of1 bf1 sf1 HO
                go_wp2_with (at_builtin; refine wpList_plain rfl fun _ hK => wp_append_B _ _ rfl G (.slice (some ⟨G, 0, none⟩) 8 8) _ (four (MaskP.mk k)) ⟨gf, 0, none⟩ 4 cf rfl rfl HOF.out rfl (by omega) ?_ ?_ zF ?_)
                · intro q u hu; have := HSF.out.cells q u hu; first | exact this | (rw [Addr.add_lit]; exact this) | simpa using this
                · simp [four]
                intro v6 W6 o6 a6
                refine hK _ _ ?_
                clear hK
                have b6 := a6.below (fun j hj => (HOF.out.lt j hj).1) zF
                have HB6 := Lib.hid (HBF.out.trans (b6.mono hwG))
                have z6 : G ≤ W6.heap.size := Nat.le_trans zF a6.size
                have HL6 := Lib.hid (fun j hj => (o6.lt j hj).2)
                clear a6 b6 HOF HBF HSF
                have B7 := (Below.refl _ W6).alloc (Nat.le_refl _) (.cells #[.int .u8 0, .int .u8 0, .int .u8 0, .int .u8 0] 5)
                have o7 := OwnB.made W6 W6.heap.size (fill4 l 12) #[.int .u8 0, .int .u8 0, .int .u8 0, .int .u8 0] (by rw [fill4_start]; rfl) (Nat.le_refl _) (by rw [fill4_len]; decide)
                rw [fill4_len] at o7
                have HO6 := Lib.hid (o6.keep B7); have HB7 := Lib.hid (Below.two HB6.out B7); have HH7 := Lib.hid o7
                obtain ⟨H, hH⟩ : ∃ H, H = W6.heap.size := ⟨_, rfl⟩
                have z7 := B7.size
                have HL7 := Lib.hid (fun j (hj : v6.ownBlock = some j) => (show j < H by rw [hH]; exact HL6.out j hj))
                have hGH : G ≤ H := by rw [hH]; exact z6
                clear o7 o6 B7 HB6 HL6
                go_wp2_with fail
                rw [← hH]
                rw [← hH] at HH7 z7
                generalize hW7 : W6.alloc (.cells #[.int .u8 0, .int .u8 0, .int .u8 0, .int .u8 0] 5) = W7 at HO6 HB7 HH7 z7 ⊢
                clear hW7 hH z6
                go_loopw [8] (fun vi w4 => ∃ (i : Nat), vi = .int .i64 (i : Int) ∧ 12 ≤ i ∧ i ≤ 16 ∧ (i = 12 ∨ i ≤ l.length) ∧ Hid (OwnB w4 H (.slice (some ⟨H, 0, none⟩) 4 4) (fill4 l i)) ∧ Hid (OwnB w4 G v6 ([0, 2, pad l 2, pad l 3, pad l 4, pad l 5, pad l 6, pad l 7] ++ four (MaskP.mk k))) ∧ Hid (Below w.heap.size w w4) ∧ H ≤ w4.heap.size) (fun vi _ => 16 - (RowKit.intOf vi).toNat)
                case atStart => exact ⟨12, rfl, by omega, by omega, Or.inl rfl, HH7, HO6, HB7, z7⟩
                case round =>
                  clear HH7 HO6 HB7 z7
                  obtain ⟨j, rfl, hj12, hj4, hjl, HH, HO, HBj, zj⟩ := hrel
                  by_cases hjj : j < 16 ∧ j < l.length
                  · exfalso; omega
                  · have HE4 := Lib.hid (fill4_end l j (by omega))
                    rw [HE4.out] at HH
                    by_cases hj3 : j < 16
                    · have hj' : (j : Int) < 16 := by omega
                      have hj'' : ¬ (j : Int) < l.length := by omega
                      go_wp2_with (at_builtin; refine wpList_plain rfl fun _ hK => wp_append_B _ _ rfl G v6 _ [pad l 12, pad l 13, pad l 14, pad l 15] ⟨H, 0, none⟩ 4 4 rfl rfl HO.out rfl (by omega) ?_ ?_ (Nat.le_trans hGH zj) ?_)
                      · intro q u hu; have := (HH.out.at).2.2.2.1.cells q u hu; first | exact this | (rw [Addr.add_lit]; exact this) | simpa using this
                      · simp [four]
                      intro v8 W8 o8 a8
                      refine hK _ _ ?_
                      clear hK
                      have b8 := a8.below (fun j hj => (HO.out.lt j hj).1) (Nat.le_trans hGH zj)
                      have HB8 := Lib.hid (HBj.out.trans (b8.mono hwG))
                      have z8 : G ≤ W8.heap.size := Nat.le_trans (Nat.le_trans hGH zj) a8.size
                      have HO8 := Lib.hid o8
                      have W32 := Lib.hid (wrap32s m (by omega))
                      clear a8 b8 o8 HH HO
                      go_wp2_with fail
                      try rw [W32.out]
                      refine (four_any _ m (by omega)).mono ?_
                      rintro x F2 ⟨f2, rfl, of2, bf2⟩
                      obtain ⟨gf2, cf2, hvf2, -, -⟩ : ∃ g cap, f2 = .slice (some ⟨g, 0, none⟩) 4 cap ∧ _ ∧ _ := by
                        rcases rowForm of2 with ⟨h, _⟩ | h
                        · cases h
                        · exact h
                      subst hvf2
                      obtain ⟨-, -, -, sf2, -⟩ := of2.at
                      have HOF := Lib.hid (HO8.out.keep bf2); have HBF := Lib.hid (Below.two HB8.out bf2); have HSF := Lib.hid sf2
                      have zF2 : G ≤ F2.heap.size := Nat.le_trans z8 bf2.size
                      clear of2 bf2 sf2 HO8
                      go_wp2_with (at_builtin; refine wpList_plain rfl fun _ hK => wp_append_B _ _ rfl G v8 _ (four m) ⟨gf2, 0, none⟩ 4 cf2 rfl rfl HOF.out rfl (by omega) ?_ ?_ zF2 ?_)
                      · intro q u hu; have := HSF.out.cells q u hu; first | exact this | (rw [Addr.add_lit]; exact this) | simpa using this
                      · simp [four]
                      intro v9 W9 o9 a9
                      refine hK _ _ ?_
                      clear hK
                      have b9 := a9.below (fun j hj => (HOF.out.lt j hj).1) zF2
                      have HB9 := Lib.hid (HBF.out.trans (b9.mono hwG))
                      have ow : OwnB W9 G v9 (wit l k m) := by rw [← wit_of]; simpa only [List.append_assoc, List.cons_append, List.nil_append] using o9
                      obtain ⟨g9, c9, hv9, -, -⟩ : ∃ g cap, v9 = .slice (some ⟨g, 0, none⟩) 20 cap ∧ _ ∧ _ := by
                        rcases rowForm ow with ⟨h, _⟩ | h
                        · cases h
                        · exact h
                      subst hv9
                      have HW9 := Lib.hid ow
                      clear a9 b9 o9 ow HOF HBF HSF
                      go_wp2_with fail
                      go_loopw [10, 9] (fun vi vs w5 => ∃ (i : Nat) (sm : Bool), vi = .int .i64 (i : Int) ∧ vs = .bool sm ∧ i ≤ l.length ∧ Hid (sm = true ↔ ∀ j, j < i → (wit l k m)[j]! = l[j]!) ∧ Hid (OwnB w5 G (.slice (some ⟨g9, 0, none⟩) 20 c9) (wit l k m)) ∧ Hid (Below w.heap.size w w5)) (fun vi _ _ => l.length - (RowKit.intOf vi).toNat)
                      case atStart => exact ⟨0, true, rfl, rfl, Nat.zero_le _, Lib.hid ⟨fun _ j hj => by omega, fun _ => rfl⟩, HW9, HB9⟩
                      case round =>
                        clear HW9 HB9
                        obtain ⟨i, sm, rfl, rfl, hil, HSM, HW, HBi⟩ := hrel
                        by_cases hin : i < l.length
                        · have hin' : (i : Int) < l.length := by omega
                          have hin20 : (i : Int) < 20 := by omega
                          obtain ⟨-, -, -, sg, -⟩ := HW.out.at
                          have cg0 := sg i (by rw [wit_len]; omega)
                          rw [Nat.zero_add] at cg0
                          have cg : wr.drew.cell? ⟨g9, i, none⟩ = _ := cg0
                          have cb : wr.drew.cell? ⟨b, off + i, none⟩ = _ := (HS.out.below HBi.out hlt) i hin
                          have HWn : Hid (OwnB wr.drew G (.slice (some ⟨g9, 0, none⟩) 20 c9) (wit l k m)) := Lib.hid (HW.out.ofBlock fun _ _ => rfl)
                          have HBn := Lib.hid HBi.out.drew
                          have HSS : Hid ((sm && ((wit l k m)[i]! == l[i]!)) = true ↔ ∀ j, j < i + 1 → (wit l k m)[j]! = l[j]!) := Lib.hid (by
                            rw [Bool.and_eq_true, HSM.out, beq_iff_eq]
                            constructor
                            · rintro ⟨h1, h2⟩ j hj
                              rcases Nat.lt_succ_iff_lt_or_eq.1 hj with h | h
                              · exact h1 j h
                              · rw [h]; exact h2
                            · intro h
                              exact ⟨fun j hj => h j (by omega), h i (by omega)⟩)
                          generalize hy9 : (wit l k m)[i]! = y at cg cg0 HSS
                          generalize hz9 : l[i]! = z at cb HSS
                          have hyz : ((y : Int) == (z : Int)) = (y == z) := by
                            by_cases h : y = z
                            · subst h; simp
                            · have h1 : ¬ (y : Int) = z := by omega
                              rw [beq_eq_false_iff_ne.2 h, beq_eq_false_iff_ne.2 h1]
                          clear sg cg0 hy9 hz9
                          cases sm
                          · go_wp2_with fail
                            refine wp_region_held_drew (S := (fun _ => True)) (by kernel_rfl) trivial (fun hHeld => ?_)
                            refine wpAnyH_take (i := 0) (oi := { dst := some 77, op := Op.move (Operand.tmp 9), type := 4, pos := "nets.go:274", after := #[], guard := none }) (v := ?_) rfl (by kernel_rfl) (by kernel_rfl) (by kernel_rfl) (fun _ _ _ h => h) (Or.inl ⟨by rfl, ?_⟩) hHeld ?_
                            rotate_left
                            · (intro w hSw; (try dsimp only at hSw); go_simp; first | done | with_reducible rfl)
                            simp only [Act.put, List.setIfInBounds_toArray, List.set_cons_zero, List.set_cons_succ]
                            refine wpAnyH_take (i := 1) (oi := { dst := some 78, op := Op.move (Operand.tmp 77), type := 4, pos := "nets.go:274", after := #[{ on := 0, ground := Ground.data }], guard := none }) (v := ?_) rfl (by kernel_rfl) (by kernel_rfl) (by kernel_rfl) (fun _ _ _ h => h) (Or.inl ⟨by rfl, ?_⟩) hHeld ?_
                            rotate_left
                            · (intro w hSw; (try dsimp only at hSw); go_simp; first | done | with_reducible rfl)
                            simp only [Act.put, List.setIfInBounds_toArray, List.set_cons_zero, List.set_cons_succ]
                            refine wpAnyH_take (i := 2) (oi := { dst := some 79, op := Op.move (Operand.tmp 5), type := 25, pos := "nets.go:274", after := #[{ on := 1, ground := Ground.guard }], guard := some (1, true) }) (v := undef) rfl (by kernel_rfl) (by kernel_rfl) (by kernel_rfl) (fun _ _ _ h => h) (Or.inr ⟨by rfl, rfl⟩) hHeld ?_
                            simp only [Act.put, List.setIfInBounds_toArray, List.set_cons_zero, List.set_cons_succ]
                            refine wpAnyH_take (i := 3) (oi := { dst := some 80, op := Op.move (Operand.tmp 10), type := 3, pos := "nets.go:274", after := #[{ on := 1, ground := Ground.guard }], guard := some (1, true) }) (v := undef) rfl (by kernel_rfl) (by kernel_rfl) (by kernel_rfl) (fun _ _ _ h => h) (Or.inr ⟨by rfl, rfl⟩) hHeld ?_
                            simp only [Act.put, List.setIfInBounds_toArray, List.set_cons_zero, List.set_cons_succ]
                            refine wpAnyH_take (i := 4) (oi := { dst := some 81, op := Op.indexAddr 25 (Operand.tmp 79) (Operand.tmp 80), type := 0, pos := "nets.go:274", after := #[{ on := 2, ground := Ground.data }, { on := 3, ground := Ground.data }, { on := 1, ground := Ground.guard }], guard := some (1, true) }) (v := undef) rfl (by kernel_rfl) (by kernel_rfl) (by kernel_rfl) (fun _ _ _ h => h) (Or.inr ⟨by rfl, rfl⟩) hHeld ?_
                            simp only [Act.put, List.setIfInBounds_toArray, List.set_cons_zero, List.set_cons_succ]
                            refine wpAnyH_take (i := 5) (oi := { dst := some 82, op := Op.load 5 (Operand.tmp 81), type := 5, pos := "nets.go:274", after := #[{ on := 4, ground := Ground.data }, { on := 1, ground := Ground.guard }], guard := some (1, true) }) (v := undef) rfl (by kernel_rfl) (by kernel_rfl) (by kernel_rfl) (fun _ _ _ h => h) (Or.inr ⟨by rfl, rfl⟩) hHeld ?_
                            simp only [Act.put, List.setIfInBounds_toArray, List.set_cons_zero, List.set_cons_succ]
                            refine wpAnyH_take (i := 6) (oi := { dst := some 83, op := Op.move (Operand.tmp 0), type := 25, pos := "nets.go:274", after := #[{ on := 1, ground := Ground.guard }], guard := some (1, true) }) (v := undef) rfl (by kernel_rfl) (by kernel_rfl) (by kernel_rfl) (fun _ _ _ h => h) (Or.inr ⟨by rfl, rfl⟩) hHeld ?_
                            simp only [Act.put, List.setIfInBounds_toArray, List.set_cons_zero, List.set_cons_succ]
                            refine wpAnyH_take (i := 7) (oi := { dst := some 84, op := Op.move (Operand.tmp 10), type := 3, pos := "nets.go:274", after := #[{ on := 1, ground := Ground.guard }], guard := some (1, true) }) (v := undef) rfl (by kernel_rfl) (by kernel_rfl) (by kernel_rfl) (fun _ _ _ h => h) (Or.inr ⟨by rfl, rfl⟩) hHeld ?_
                            simp only [Act.put, List.setIfInBounds_toArray, List.set_cons_zero, List.set_cons_succ]
                            refine wpAnyH_take (i := 8) (oi := { dst := some 85, op := Op.indexAddr 25 (Operand.tmp 83) (Operand.tmp 84), type := 0, pos := "nets.go:274", after := #[{ on := 6, ground := Ground.data }, { on := 7, ground := Ground.data }, { on := 1, ground := Ground.guard }], guard := some (1, true) }) (v := undef) rfl (by kernel_rfl) (by kernel_rfl) (by kernel_rfl) (fun _ _ _ h => h) (Or.inr ⟨by rfl, rfl⟩) hHeld ?_
                            simp only [Act.put, List.setIfInBounds_toArray, List.set_cons_zero, List.set_cons_succ]
                            refine wpAnyH_take (i := 9) (oi := { dst := some 86, op := Op.load 5 (Operand.tmp 85), type := 5, pos := "nets.go:274", after := #[{ on := 8, ground := Ground.data }, { on := 1, ground := Ground.guard }], guard := some (1, true) }) (v := undef) rfl (by kernel_rfl) (by kernel_rfl) (by kernel_rfl) (fun _ _ _ h => h) (Or.inr ⟨by rfl, rfl⟩) hHeld ?_
                            simp only [Act.put, List.setIfInBounds_toArray, List.set_cons_zero, List.set_cons_succ]
                            refine wpAnyH_take (i := 10) (oi := { dst := some 87, op := Op.binOp BinOp.eql 5 (Operand.tmp 82) (Operand.tmp 86) 5, type := 4, pos := "nets.go:274", after := #[{ on := 5, ground := Ground.data }, { on := 9, ground := Ground.data }, { on := 1, ground := Ground.guard }], guard := some (1, true) }) (v := undef) rfl (by kernel_rfl) (by kernel_rfl) (by kernel_rfl) (fun _ _ _ h => h) (Or.inr ⟨by rfl, rfl⟩) hHeld ?_
                            simp only [Act.put, List.setIfInBounds_toArray, List.set_cons_zero, List.set_cons_succ]
                            refine wpAnyH_take (i := 11) (oi := { dst := some 88, op := Op.pick (Operand.tmp 78) (Operand.tmp 87) (Operand.const (Value.bool false)), type := 4, pos := "nets.go:274", after := #[{ on := 1, ground := Ground.data }, { on := 10, ground := Ground.data }], guard := none }) (v := ?_) rfl (by kernel_rfl) (by kernel_rfl) (by kernel_rfl) (fun _ _ _ h => h) (Or.inl ⟨by rfl, ?_⟩) hHeld ?_
                            rotate_left
                            · (intro w hSw; (try dsimp only at hSw); go_simp; first | done | with_reducible rfl)
                            simp only [Act.put, List.setIfInBounds_toArray, List.set_cons_zero, List.set_cons_succ]
                            refine wpAnyH_take (i := 12) (oi := { dst := some 9, op := Op.assign (Operand.tmp 88), type := 4, pos := "nets.go:274", after := #[{ on := 11, ground := Ground.data }, { on := 1, ground := Ground.chain }, { on := 0, ground := Ground.phase }, { on := 1, ground := Ground.phase }, { on := 2, ground := Ground.phase }, { on := 3, ground := Ground.phase }, { on := 4, ground := Ground.phase }, { on := 5, ground := Ground.phase }, { on := 6, ground := Ground.phase }, { on := 7, ground := Ground.phase }, { on := 8, ground := Ground.phase }, { on := 9, ground := Ground.phase }, { on := 10, ground := Ground.phase }, { on := 11, ground := Ground.phase }], guard := none }) (v := ?_) rfl (by kernel_rfl) (by kernel_rfl) (by kernel_rfl) (fun _ _ _ h => h) (Or.inl ⟨by rfl, ?_⟩) hHeld ?_
                            rotate_left
                            · (intro w hSw; (try dsimp only at hSw); go_simp; first | done | with_reducible rfl)
                            simp only [Act.put, List.setIfInBounds_toArray, List.set_cons_zero, List.set_cons_succ]
                            refine wpAnyH_done (by kernel_rfl) ?_ _
                            go_wp2_with fail
                            go_roundw
                            case rel => exact ⟨i + 1, false, by go_num, rfl, by omega, by simpa using HSS, HWn, HBn⟩
                            case measure => simp [RowKit.intOf]; omega
                          · go_wp2_with fail
                            refine wp_region_held_drew (S := (fun w' => w'.cell? ⟨g9, i, none⟩ = some (.int .u8 (y : Int)) ∧ w'.cell? ⟨b, off + i, none⟩ = some (.int .u8 (z : Int)))) (by kernel_rfl) ⟨cg, cb⟩ (fun hHeld => ?_)
                            refine wpAnyH_take (i := 0) (oi := { dst := some 77, op := Op.move (Operand.tmp 9), type := 4, pos := "nets.go:274", after := #[], guard := none }) (v := ?_) rfl (by kernel_rfl) (by kernel_rfl) (by kernel_rfl) (fun _ _ _ h => h) (Or.inl ⟨by rfl, ?_⟩) hHeld ?_
                            rotate_left
                            · (intro w hSw; (try dsimp only at hSw); go_simp; first | done | with_reducible rfl)
                            simp only [Act.put, List.setIfInBounds_toArray, List.set_cons_zero, List.set_cons_succ]
                            refine wpAnyH_take (i := 1) (oi := { dst := some 78, op := Op.move (Operand.tmp 77), type := 4, pos := "nets.go:274", after := #[{ on := 0, ground := Ground.data }], guard := none }) (v := ?_) rfl (by kernel_rfl) (by kernel_rfl) (by kernel_rfl) (fun _ _ _ h => h) (Or.inl ⟨by rfl, ?_⟩) hHeld ?_
                            rotate_left
                            · (intro w hSw; (try dsimp only at hSw); go_simp; first | done | with_reducible rfl)
                            simp only [Act.put, List.setIfInBounds_toArray, List.set_cons_zero, List.set_cons_succ]
                            refine wpAnyH_take (i := 2) (oi := { dst := some 79, op := Op.move (Operand.tmp 5), type := 25, pos := "nets.go:274", after := #[{ on := 1, ground := Ground.guard }], guard := some (1, true) }) (v := ?_) rfl (by kernel_rfl) (by kernel_rfl) (by kernel_rfl) (fun _ _ _ h => h) (Or.inl ⟨by rfl, ?_⟩) hHeld ?_
                            rotate_left
                            · (intro w hSw; (try dsimp only at hSw); go_simp; first | done | with_reducible rfl)
                            simp only [Act.put, List.setIfInBounds_toArray, List.set_cons_zero, List.set_cons_succ]
                            refine wpAnyH_take (i := 3) (oi := { dst := some 80, op := Op.move (Operand.tmp 10), type := 3, pos := "nets.go:274", after := #[{ on := 1, ground := Ground.guard }], guard := some (1, true) }) (v := ?_) rfl (by kernel_rfl) (by kernel_rfl) (by kernel_rfl) (fun _ _ _ h => h) (Or.inl ⟨by rfl, ?_⟩) hHeld ?_
                            rotate_left
                            · (intro w hSw; (try dsimp only at hSw); go_simp; first | done | with_reducible rfl)
                            simp only [Act.put, List.setIfInBounds_toArray, List.set_cons_zero, List.set_cons_succ]
                            refine wpAnyH_take (i := 4) (oi := { dst := some 81, op := Op.indexAddr 25 (Operand.tmp 79) (Operand.tmp 80), type := 0, pos := "nets.go:274", after := #[{ on := 2, ground := Ground.data }, { on := 3, ground := Ground.data }, { on := 1, ground := Ground.guard }], guard := some (1, true) }) (v := ?_) rfl (by kernel_rfl) (by kernel_rfl) (by kernel_rfl) (fun _ _ _ h => h) (Or.inl ⟨by rfl, ?_⟩) hHeld ?_
                            rotate_left
                            · (intro w hSw; (try dsimp only at hSw); go_simp; first | done | with_reducible rfl)
                            simp only [Act.put, List.setIfInBounds_toArray, List.set_cons_zero, List.set_cons_succ]
                            refine wpAnyH_take (i := 5) (oi := { dst := some 82, op := Op.load 5 (Operand.tmp 81), type := 5, pos := "nets.go:274", after := #[{ on := 4, ground := Ground.data }, { on := 1, ground := Ground.guard }], guard := some (1, true) }) (v := ?_) rfl (by kernel_rfl) (by kernel_rfl) (by kernel_rfl) (fun _ _ _ h => h) (Or.inl ⟨by rfl, ?_⟩) hHeld ?_
                            rotate_left
                            · (intro w hSw; (try dsimp only at hSw); go_simp; first | done | with_reducible rfl)
                            simp only [Act.put, List.setIfInBounds_toArray, List.set_cons_zero, List.set_cons_succ]
                            refine wpAnyH_take (i := 6) (oi := { dst := some 83, op := Op.move (Operand.tmp 0), type := 25, pos := "nets.go:274", after := #[{ on := 1, ground := Ground.guard }], guard := some (1, true) }) (v := ?_) rfl (by kernel_rfl) (by kernel_rfl) (by kernel_rfl) (fun _ _ _ h => h) (Or.inl ⟨by rfl, ?_⟩) hHeld ?_
                            rotate_left
                            · (intro w hSw; (try dsimp only at hSw); go_simp; first | done | with_reducible rfl)
                            simp only [Act.put, List.setIfInBounds_toArray, List.set_cons_zero, List.set_cons_succ]
                            refine wpAnyH_take (i := 7) (oi := { dst := some 84, op := Op.move (Operand.tmp 10), type := 3, pos := "nets.go:274", after := #[{ on := 1, ground := Ground.guard }], guard := some (1, true) }) (v := ?_) rfl (by kernel_rfl) (by kernel_rfl) (by kernel_rfl) (fun _ _ _ h => h) (Or.inl ⟨by rfl, ?_⟩) hHeld ?_
                            rotate_left
                            · (intro w hSw; (try dsimp only at hSw); go_simp; first | done | with_reducible rfl)
                            simp only [Act.put, List.setIfInBounds_toArray, List.set_cons_zero, List.set_cons_succ]
                            refine wpAnyH_take (i := 8) (oi := { dst := some 85, op := Op.indexAddr 25 (Operand.tmp 83) (Operand.tmp 84), type := 0, pos := "nets.go:274", after := #[{ on := 6, ground := Ground.data }, { on := 7, ground := Ground.data }, { on := 1, ground := Ground.guard }], guard := some (1, true) }) (v := ?_) rfl (by kernel_rfl) (by kernel_rfl) (by kernel_rfl) (fun _ _ _ h => h) (Or.inl ⟨by rfl, ?_⟩) hHeld ?_
                            rotate_left
                            · (intro w hSw; (try dsimp only at hSw); go_simp; first | done | with_reducible rfl)
                            simp only [Act.put, List.setIfInBounds_toArray, List.set_cons_zero, List.set_cons_succ]
                            refine wpAnyH_take (i := 9) (oi := { dst := some 86, op := Op.load 5 (Operand.tmp 85), type := 5, pos := "nets.go:274", after := #[{ on := 8, ground := Ground.data }, { on := 1, ground := Ground.guard }], guard := some (1, true) }) (v := ?_) rfl (by kernel_rfl) (by kernel_rfl) (by kernel_rfl) (fun _ _ _ h => h) (Or.inl ⟨by rfl, ?_⟩) hHeld ?_
                            rotate_left
                            · (intro w hSw; (try dsimp only at hSw); go_simp; first | done | with_reducible rfl)
                            simp only [Act.put, List.setIfInBounds_toArray, List.set_cons_zero, List.set_cons_succ]
                            refine wpAnyH_take (i := 10) (oi := { dst := some 87, op := Op.binOp BinOp.eql 5 (Operand.tmp 82) (Operand.tmp 86) 5, type := 4, pos := "nets.go:274", after := #[{ on := 5, ground := Ground.data }, { on := 9, ground := Ground.data }, { on := 1, ground := Ground.guard }], guard := some (1, true) }) (v := ?_) rfl (by kernel_rfl) (by kernel_rfl) (by kernel_rfl) (fun _ _ _ h => h) (Or.inl ⟨by rfl, ?_⟩) hHeld ?_
                            rotate_left
                            · (intro w hSw; (try dsimp only at hSw); go_simp; first | done | with_reducible rfl)
                            simp only [Act.put, List.setIfInBounds_toArray, List.set_cons_zero, List.set_cons_succ]
                            refine wpAnyH_take (i := 11) (oi := { dst := some 88, op := Op.pick (Operand.tmp 78) (Operand.tmp 87) (Operand.const (Value.bool false)), type := 4, pos := "nets.go:274", after := #[{ on := 1, ground := Ground.data }, { on := 10, ground := Ground.data }], guard := none }) (v := ?_) rfl (by kernel_rfl) (by kernel_rfl) (by kernel_rfl) (fun _ _ _ h => h) (Or.inl ⟨by rfl, ?_⟩) hHeld ?_
                            rotate_left
                            · (intro w hSw; (try dsimp only at hSw); go_simp; first | done | with_reducible rfl)
                            simp only [Act.put, List.setIfInBounds_toArray, List.set_cons_zero, List.set_cons_succ]
                            refine wpAnyH_take (i := 12) (oi := { dst := some 9, op := Op.assign (Operand.tmp 88), type := 4, pos := "nets.go:274", after := #[{ on := 11, ground := Ground.data }, { on := 1, ground := Ground.chain }, { on := 0, ground := Ground.phase }, { on := 1, ground := Ground.phase }, { on := 2, ground := Ground.phase }, { on := 3, ground := Ground.phase }, { on := 4, ground := Ground.phase }, { on := 5, ground := Ground.phase }, { on := 6, ground := Ground.phase }, { on := 7, ground := Ground.phase }, { on := 8, ground := Ground.phase }, { on := 9, ground := Ground.phase }, { on := 10, ground := Ground.phase }, { on := 11, ground := Ground.phase }], guard := none }) (v := ?_) rfl (by kernel_rfl) (by kernel_rfl) (by kernel_rfl) (fun _ _ _ h => h) (Or.inl ⟨by rfl, ?_⟩) hHeld ?_
                            rotate_left
                            · (intro w hSw; (try dsimp only at hSw); go_simp; first | done | with_reducible rfl)
                            simp only [Act.put, List.setIfInBounds_toArray, List.set_cons_zero, List.set_cons_succ]
                            refine wpAnyH_done (by kernel_rfl) ?_ _
                            go_wp2_with fail
                            go_roundw
                            case rel => exact ⟨i + 1, (y == z), by go_num, by first | (rw [← hyz]; done) | (rw [← hyz]; rfl), by omega, by simpa using HSS, HWn, HBn⟩
                            case measure => simp [RowKit.intOf]; omega
                        · have hin' : ¬ (i : Int) < l.length := by omega
                          have ei : i = l.length := by omega
                          subst ei
                          obtain ⟨-, hg9, -, sg, -⟩ := HW.out.at
                          have HEE := Lib.hid (HEN.out wr g9 0 c9 (wit l k m) (wit_len l k m) (HY.out.wit k m) hg9 sg)
                          clear sg
                          go_wp2_with fail
                          refine HEE.out.mono ?_
                          rintro x W10 ⟨e, is, rfl, hei, b10⟩
                          have HIF := Lib.hid (hit_iff (by omega) HSM.out hei)
                          have HB10 := Lib.hid ((Below.two HBi.out b10).alloc (Nat.le_trans HBi.out.size b10.size) (.cells #[.int .u32 (e.a : Int), .int .i64 e.n, .int .i64 e.t, .int .u32 (e.h : Int), .int .i64 e.m] 49))
                          clear hei b10 HEE
                          unfold En.v
                          cases sm
                          · have HNO := Lib.hid (show ¬ Hit l k m from fun h => by cases (HIF.out.2 h).1)
                            clear HIF
                            go_wp2_with fail
                            go_roundw
                            case rel => exact ⟨m + 1, by go_num, by omega, by omega, Lib.hid (fun m' h1 h2 => by rcases Nat.lt_succ_iff_lt_or_eq.1 h2 with h | h; exact HM.out m' h1 h; rw [h]; exact HNO.out), HB10⟩
                            case measure => simp [RowKit.intOf]; omega
                          · cases is
                            · have HNO := Lib.hid (show ¬ Hit l k m from fun h => by cases (HIF.out.2 h).2)
                              clear HIF
                              go_wp2_with fail
                              go_roundw
                              case rel => exact ⟨m + 1, by go_num, by omega, by omega, Lib.hid (fun m' h1 h2 => by rcases Nat.lt_succ_iff_lt_or_eq.1 h2 with h | h; exact HM.out m' h1 h; rw [h]; exact HNO.out), HB10⟩
                              case measure => simp [RowKit.intOf]; omega
                            · have HYES := Lib.hid (show PreE l from HP.out.2 ⟨k, m, by omega, by omega, by omega, HIF.out.1 ⟨rfl, rfl⟩⟩)
                              clear HIF
                              go_wp2_with fail
                              go_ret
                              exact GoesTo.yes HYES.out HB10.out
                    · exfalso; omega
              · have hi' : ¬ (i : Int) < 8 := by omega
                go_wp2_with fail
                refine (maskOf_any k (by omega) _).mono ?_
                rintro x wm ⟨rfl, rfl⟩
                go_wp2_with fail
                refine (four_any _ _ (MaskP.lt k)).mono ?_
                rintro x F1 ⟨f1, rfl, of1, bf1⟩
                obtain ⟨gf, cf, hvf, -, -⟩ : ∃ g cap, f1 = .slice (some ⟨g, 0, none⟩) 4 cap ∧ _ ∧ _ := by
                  rcases rowForm of1 with ⟨h, _⟩ | h
                  · cases h
                  · exact h
                subst hvf
                obtain ⟨-, -, -, sf1, -⟩ := of1.at
                have HOF := Lib.hid (HO.out.keep bf1); have HBF := Lib.hid (Below.two HBi.out bf1); have HSF := Lib.hid sf1
                have zF : G ≤ F1.heap.size := Nat.le_trans zi bf1.size
                clear of1 bf1 sf1 HO
                go_wp2_with (at_builtin; refine wpList_plain rfl fun _ hK => wp_append_B _ _ rfl G (.slice (some ⟨G, 0, none⟩) 8 8) _ (four (MaskP.mk k)) ⟨gf, 0, none⟩ 4 cf rfl rfl HOF.out rfl (by omega) ?_ ?_ zF ?_)
                · intro q u hu; have := HSF.out.cells q u hu; first | exact this | (rw [Addr.add_lit]; exact this) | simpa using this
                · simp [four]
                intro v6 W6 o6 a6
                refine hK _ _ ?_
                clear hK
                have b6 := a6.below (fun j hj => (HOF.out.lt j hj).1) zF
                have HB6 := Lib.hid (HBF.out.trans (b6.mono hwG))
                have z6 : G ≤ W6.heap.size := Nat.le_trans zF a6.size
                have HL6 := Lib.hid (fun j hj => (o6.lt j hj).2)
                clear a6 b6 HOF HBF HSF
                have B7 := (Below.refl _ W6).alloc (Nat.le_refl _) (.cells #[.int .u8 0, .int .u8 0, .int .u8 0, .int .u8 0] 5)
                have o7 := OwnB.made W6 W6.heap.size (fill4 l 12) #[.int .u8 0, .int .u8 0, .int .u8 0, .int .u8 0] (by rw [fill4_start]; rfl) (Nat.le_refl _) (by rw [fill4_len]; decide)
                rw [fill4_len] at o7
                have HO6 := Lib.hid (o6.keep B7); have HB7 := Lib.hid (Below.two HB6.out B7); have HH7 := Lib.hid o7
                obtain ⟨H, hH⟩ : ∃ H, H = W6.heap.size := ⟨_, rfl⟩
                have z7 := B7.size
                have HL7 := Lib.hid (fun j (hj : v6.ownBlock = some j) => (show j < H by rw [hH]; exact HL6.out j hj))
                have hGH : G ≤ H := by rw [hH]; exact z6
                clear o7 o6 B7 HB6 HL6
                go_wp2_with fail
                rw [← hH]
                rw [← hH] at HH7 z7
                generalize hW7 : W6.alloc (.cells #[.int .u8 0, .int .u8 0, .int .u8 0, .int .u8 0] 5) = W7 at HO6 HB7 HH7 z7 ⊢
                clear hW7 hH z6
                go_loopw [8] (fun vi w4 => ∃ (i : Nat), vi = .int .i64 (i : Int) ∧ 12 ≤ i ∧ i ≤ 16 ∧ (i = 12 ∨ i ≤ l.length) ∧ Hid (OwnB w4 H (.slice (some ⟨H, 0, none⟩) 4 4) (fill4 l i)) ∧ Hid (OwnB w4 G v6 ([0, 2, pad l 2, pad l 3, pad l 4, pad l 5, pad l 6, pad l 7] ++ four (MaskP.mk k))) ∧ Hid (Below w.heap.size w w4) ∧ H ≤ w4.heap.size) (fun vi _ => 16 - (RowKit.intOf vi).toNat)
                case atStart => exact ⟨12, rfl, by omega, by omega, Or.inl rfl, HH7, HO6, HB7, z7⟩
                case round =>
                  clear HH7 HO6 HB7 z7
                  obtain ⟨j, rfl, hj12, hj4, hjl, HH, HO, HBj, zj⟩ := hrel
                  by_cases hjj : j < 16 ∧ j < l.length
                  · have hj' : (j : Int) < 16 := by omega
                    have hj'' : (j : Int) < l.length := by omega
                    have cb := (HS.out.below HBj.out hlt) j hjj.2
                    obtain ⟨-, -, -, sg, fg⟩ := HH.out.at
                    have cg := sg (j - 12) (by rw [fill4_len]; omega)
                    rw [Nat.zero_add] at cg
                    have fg' := fg (j - 12)
                    have HN := HH.out.set (j - 12) l[j]!
                    rw [fill4_step l j (by omega) (by omega) hjj.2] at HN
                    have HN := Lib.hid HN
                    have HON := Lib.hid (ownsRow_setCell_other HO.out (a := ⟨H, j - 12, none⟩) (fun e => by have h1 := HL7.out H e; omega) (.int .u8 ((l[j]! : Nat) : Int)))
                    have HBn := Lib.hid (HBj.out.setCell (p := ⟨H, j - 12, none⟩) (Nat.le_trans hwG hGH) (.int .u8 ((l[j]! : Nat) : Int)))
                    generalize l[j]! = y at cb HN HON HBn
                    obtain ⟨d, rfl⟩ : ∃ d, j = 12 + d := ⟨j - 12, by omega⟩
                    rw [show 12 + d - 12 = d by omega] at cg fg' HN HON HBn
                    clear sg fg
                    go_wp2_with fail
                    go_roundw
                    case rel => exact ⟨12 + d + 1, by go_num, by omega, by omega, Or.inr (by omega), HN, HON, HBn, by first | exact zj | (rw [setCell_size]; exact zj)⟩
                    case measure => simp [RowKit.intOf]; omega
                  · have HE4 := Lib.hid (fill4_end l j (by omega))
                    rw [HE4.out] at HH
                    by_cases hj3 : j < 16
                    · have hj' : (j : Int) < 16 := by omega
                      have hj'' : ¬ (j : Int) < l.length := by omega
                      go_wp2_with (at_builtin; refine wpList_plain rfl fun _ hK => wp_append_B _ _ rfl G v6 _ [pad l 12, pad l 13, pad l 14, pad l 15] ⟨H, 0, none⟩ 4 4 rfl rfl HO.out rfl (by omega) ?_ ?_ (Nat.le_trans hGH zj) ?_)
                      · intro q u hu; have := (HH.out.at).2.2.2.1.cells q u hu; first | exact this | (rw [Addr.add_lit]; exact this) | simpa using this
                      · simp [four]
                      intro v8 W8 o8 a8
                      refine hK _ _ ?_
                      clear hK
                      have b8 := a8.below (fun j hj => (HO.out.lt j hj).1) (Nat.le_trans hGH zj)
                      have HB8 := Lib.hid (HBj.out.trans (b8.mono hwG))
                      have z8 : G ≤ W8.heap.size := Nat.le_trans (Nat.le_trans hGH zj) a8.size
                      have HO8 := Lib.hid o8
                      have W32 := Lib.hid (wrap32s m (by omega))
                      clear a8 b8 o8 HH HO
                      go_wp2_with fail
                      try rw [W32.out]
                      refine (four_any _ m (by omega)).mono ?_
                      rintro x F2 ⟨f2, rfl, of2, bf2⟩
                      obtain ⟨gf2, cf2, hvf2, -, -⟩ : ∃ g cap, f2 = .slice (some ⟨g, 0, none⟩) 4 cap ∧ _ ∧ _ := by
                        rcases rowForm of2 with ⟨h, _⟩ | h
                        · cases h
                        · exact h
                      subst hvf2
                      obtain ⟨-, -, -, sf2, -⟩ := of2.at
                      have HOF := Lib.hid (HO8.out.keep bf2); have HBF := Lib.hid (Below.two HB8.out bf2); have HSF := Lib.hid sf2
                      have zF2 : G ≤ F2.heap.size := Nat.le_trans z8 bf2.size
                      clear of2 bf2 sf2 HO8
                      go_wp2_with (at_builtin; refine wpList_plain rfl fun _ hK => wp_append_B _ _ rfl G v8 _ (four m) ⟨gf2, 0, none⟩ 4 cf2 rfl rfl HOF.out rfl (by omega) ?_ ?_ zF2 ?_)
                      · intro q u hu; have := HSF.out.cells q u hu; first | exact this | (rw [Addr.add_lit]; exact this) | simpa using this
                      · simp [four]
                      intro v9 W9 o9 a9
                      refine hK _ _ ?_
                      clear hK
                      have b9 := a9.below (fun j hj => (HOF.out.lt j hj).1) zF2
                      have HB9 := Lib.hid (HBF.out.trans (b9.mono hwG))
                      have ow : OwnB W9 G v9 (wit l k m) := by rw [← wit_of]; simpa only [List.append_assoc, List.cons_append, List.nil_append] using o9
                      obtain ⟨g9, c9, hv9, -, -⟩ : ∃ g cap, v9 = .slice (some ⟨g, 0, none⟩) 20 cap ∧ _ ∧ _ := by
                        rcases rowForm ow with ⟨h, _⟩ | h
                        · cases h
                        · exact h
                      subst hv9
                      have HW9 := Lib.hid ow
                      clear a9 b9 o9 ow HOF HBF HSF
                      go_wp2_with fail
                      go_loopw [10, 9] (fun vi vs w5 => ∃ (i : Nat) (sm : Bool), vi = .int .i64 (i : Int) ∧ vs = .bool sm ∧ i ≤ l.length ∧ Hid (sm = true ↔ ∀ j, j < i → (wit l k m)[j]! = l[j]!) ∧ Hid (OwnB w5 G (.slice (some ⟨g9, 0, none⟩) 20 c9) (wit l k m)) ∧ Hid (Below w.heap.size w w5)) (fun vi _ _ => l.length - (RowKit.intOf vi).toNat)
                      case atStart => exact ⟨0, true, rfl, rfl, Nat.zero_le _, Lib.hid ⟨fun _ j hj => by omega, fun _ => rfl⟩, HW9, HB9⟩
                      case round =>
                        clear HW9 HB9
                        obtain ⟨i, sm, rfl, rfl, hil, HSM, HW, HBi⟩ := hrel
                        by_cases hin : i < l.length
                        · have hin' : (i : Int) < l.length := by omega
                          have hin20 : (i : Int) < 20 := by omega
                          obtain ⟨-, -, -, sg, -⟩ := HW.out.at
                          have cg0 := sg i (by rw [wit_len]; omega)
                          rw [Nat.zero_add] at cg0
                          have cg : wr.drew.cell? ⟨g9, i, none⟩ = _ := cg0
                          have cb : wr.drew.cell? ⟨b, off + i, none⟩ = _ := (HS.out.below HBi.out hlt) i hin
                          have HWn : Hid (OwnB wr.drew G (.slice (some ⟨g9, 0, none⟩) 20 c9) (wit l k m)) := Lib.hid (HW.out.ofBlock fun _ _ => rfl)
                          have HBn := Lib.hid HBi.out.drew
                          have HSS : Hid ((sm && ((wit l k m)[i]! == l[i]!)) = true ↔ ∀ j, j < i + 1 → (wit l k m)[j]! = l[j]!) := Lib.hid (by
                            rw [Bool.and_eq_true, HSM.out, beq_iff_eq]
                            constructor
                            · rintro ⟨h1, h2⟩ j hj
                              rcases Nat.lt_succ_iff_lt_or_eq.1 hj with h | h
                              · exact h1 j h
                              · rw [h]; exact h2
                            · intro h
                              exact ⟨fun j hj => h j (by omega), h i (by omega)⟩)
                          generalize hy9 : (wit l k m)[i]! = y at cg cg0 HSS
                          generalize hz9 : l[i]! = z at cb HSS
                          have hyz : ((y : Int) == (z : Int)) = (y == z) := by
                            by_cases h : y = z
                            · subst h; simp
                            · have h1 : ¬ (y : Int) = z := by omega
                              rw [beq_eq_false_iff_ne.2 h, beq_eq_false_iff_ne.2 h1]
                          clear sg cg0 hy9 hz9
                          cases sm
                          · go_wp2_with fail
                            refine wp_region_held_drew (S := (fun _ => True)) (by kernel_rfl) trivial (fun hHeld => ?_)
                            refine wpAnyH_take (i := 0) (oi := { dst := some 77, op := Op.move (Operand.tmp 9), type := 4, pos := "nets.go:274", after := #[], guard := none }) (v := ?_) rfl (by kernel_rfl) (by kernel_rfl) (by kernel_rfl) (fun _ _ _ h => h) (Or.inl ⟨by rfl, ?_⟩) hHeld ?_
                            rotate_left
                            · (intro w hSw; (try dsimp only at hSw); go_simp; first | done | with_reducible rfl)
                            simp only [Act.put, List.setIfInBounds_toArray, List.set_cons_zero, List.set_cons_succ]
                            refine wpAnyH_take (i := 1) (oi := { dst := some 78, op := Op.move (Operand.tmp 77), type := 4, pos := "nets.go:274", after := #[{ on := 0, ground := Ground.data }], guard := none }) (v := ?_) rfl (by kernel_rfl) (by kernel_rfl) (by kernel_rfl) (fun _ _ _ h => h) (Or.inl ⟨by rfl, ?_⟩) hHeld ?_
                            rotate_left
                            · (intro w hSw; (try dsimp only at hSw); go_simp; first | done | with_reducible rfl)
                            simp only [Act.put, List.setIfInBounds_toArray, List.set_cons_zero, List.set_cons_succ]
                            refine wpAnyH_take (i := 2) (oi := { dst := some 79, op := Op.move (Operand.tmp 5), type := 25, pos := "nets.go:274", after := #[{ on := 1, ground := Ground.guard }], guard := some (1, true) }) (v := undef) rfl (by kernel_rfl) (by kernel_rfl) (by kernel_rfl) (fun _ _ _ h => h) (Or.inr ⟨by rfl, rfl⟩) hHeld ?_
                            simp only [Act.put, List.setIfInBounds_toArray, List.set_cons_zero, List.set_cons_succ]
                            refine wpAnyH_take (i := 3) (oi := { dst := some 80, op := Op.move (Operand.tmp 10), type := 3, pos := "nets.go:274", after := #[{ on := 1, ground := Ground.guard }], guard := some (1, true) }) (v := undef) rfl (by kernel_rfl) (by kernel_rfl) (by kernel_rfl) (fun _ _ _ h => h) (Or.inr ⟨by rfl, rfl⟩) hHeld ?_
                            simp only [Act.put, List.setIfInBounds_toArray, List.set_cons_zero, List.set_cons_succ]
                            refine wpAnyH_take (i := 4) (oi := { dst := some 81, op := Op.indexAddr 25 (Operand.tmp 79) (Operand.tmp 80), type := 0, pos := "nets.go:274", after := #[{ on := 2, ground := Ground.data }, { on := 3, ground := Ground.data }, { on := 1, ground := Ground.guard }], guard := some (1, true) }) (v := undef) rfl (by kernel_rfl) (by kernel_rfl) (by kernel_rfl) (fun _ _ _ h => h) (Or.inr ⟨by rfl, rfl⟩) hHeld ?_
                            simp only [Act.put, List.setIfInBounds_toArray, List.set_cons_zero, List.set_cons_succ]
                            refine wpAnyH_take (i := 5) (oi := { dst := some 82, op := Op.load 5 (Operand.tmp 81), type := 5, pos := "nets.go:274", after := #[{ on := 4, ground := Ground.data }, { on := 1, ground := Ground.guard }], guard := some (1, true) }) (v := undef) rfl (by kernel_rfl) (by kernel_rfl) (by kernel_rfl) (fun _ _ _ h => h) (Or.inr ⟨by rfl, rfl⟩) hHeld ?_
                            simp only [Act.put, List.setIfInBounds_toArray, List.set_cons_zero, List.set_cons_succ]
                            refine wpAnyH_take (i := 6) (oi := { dst := some 83, op := Op.move (Operand.tmp 0), type := 25, pos := "nets.go:274", after := #[{ on := 1, ground := Ground.guard }], guard := some (1, true) }) (v := undef) rfl (by kernel_rfl) (by kernel_rfl) (by kernel_rfl) (fun _ _ _ h => h) (Or.inr ⟨by rfl, rfl⟩) hHeld ?_
                            simp only [Act.put, List.setIfInBounds_toArray, List.set_cons_zero, List.set_cons_succ]
                            refine wpAnyH_take (i := 7) (oi := { dst := some 84, op := Op.move (Operand.tmp 10), type := 3, pos := "nets.go:274", after := #[{ on := 1, ground := Ground.guard }], guard := some (1, true) }) (v := undef) rfl (by kernel_rfl) (by kernel_rfl) (by kernel_rfl) (fun _ _ _ h => h) (Or.inr ⟨by rfl, rfl⟩) hHeld ?_
                            simp only [Act.put, List.setIfInBounds_toArray, List.set_cons_zero, List.set_cons_succ]
                            refine wpAnyH_take (i := 8) (oi := { dst := some 85, op := Op.indexAddr 25 (Operand.tmp 83) (Operand.tmp 84), type := 0, pos := "nets.go:274", after := #[{ on := 6, ground := Ground.data }, { on := 7, ground := Ground.data }, { on := 1, ground := Ground.guard }], guard := some (1, true) }) (v := undef) rfl (by kernel_rfl) (by kernel_rfl) (by kernel_rfl) (fun _ _ _ h => h) (Or.inr ⟨by rfl, rfl⟩) hHeld ?_
                            simp only [Act.put, List.setIfInBounds_toArray, List.set_cons_zero, List.set_cons_succ]
                            refine wpAnyH_take (i := 9) (oi := { dst := some 86, op := Op.load 5 (Operand.tmp 85), type := 5, pos := "nets.go:274", after := #[{ on := 8, ground := Ground.data }, { on := 1, ground := Ground.guard }], guard := some (1, true) }) (v := undef) rfl (by kernel_rfl) (by kernel_rfl) (by kernel_rfl) (fun _ _ _ h => h) (Or.inr ⟨by rfl, rfl⟩) hHeld ?_
                            simp only [Act.put, List.setIfInBounds_toArray, List.set_cons_zero, List.set_cons_succ]
                            refine wpAnyH_take (i := 10) (oi := { dst := some 87, op := Op.binOp BinOp.eql 5 (Operand.tmp 82) (Operand.tmp 86) 5, type := 4, pos := "nets.go:274", after := #[{ on := 5, ground := Ground.data }, { on := 9, ground := Ground.data }, { on := 1, ground := Ground.guard }], guard := some (1, true) }) (v := undef) rfl (by kernel_rfl) (by kernel_rfl) (by kernel_rfl) (fun _ _ _ h => h) (Or.inr ⟨by rfl, rfl⟩) hHeld ?_
                            simp only [Act.put, List.setIfInBounds_toArray, List.set_cons_zero, List.set_cons_succ]
                            refine wpAnyH_take (i := 11) (oi := { dst := some 88, op := Op.pick (Operand.tmp 78) (Operand.tmp 87) (Operand.const (Value.bool false)), type := 4, pos := "nets.go:274", after := #[{ on := 1, ground := Ground.data }, { on := 10, ground := Ground.data }], guard := none }) (v := ?_) rfl (by kernel_rfl) (by kernel_rfl) (by kernel_rfl) (fun _ _ _ h => h) (Or.inl ⟨by rfl, ?_⟩) hHeld ?_
                            rotate_left
                            · (intro w hSw; (try dsimp only at hSw); go_simp; first | done | with_reducible rfl)
                            simp only [Act.put, List.setIfInBounds_toArray, List.set_cons_zero, List.set_cons_succ]
                            refine wpAnyH_take (i := 12) (oi := { dst := some 9, op := Op.assign (Operand.tmp 88), type := 4, pos := "nets.go:274", after := #[{ on := 11, ground := Ground.data }, { on := 1, ground := Ground.chain }, { on := 0, ground := Ground.phase }, { on := 1, ground := Ground.phase }, { on := 2, ground := Ground.phase }, { on := 3, ground := Ground.phase }, { on := 4, ground := Ground.phase }, { on := 5, ground := Ground.phase }, { on := 6, ground := Ground.phase }, { on := 7, ground := Ground.phase }, { on := 8, ground := Ground.phase }, { on := 9, ground := Ground.phase }, { on := 10, ground := Ground.phase }, { on := 11, ground := Ground.phase }], guard := none }) (v := ?_) rfl (by kernel_rfl) (by kernel_rfl) (by kernel_rfl) (fun _ _ _ h => h) (Or.inl ⟨by rfl, ?_⟩) hHeld ?_
                            rotate_left
                            · (intro w hSw; (try dsimp only at hSw); go_simp; first | done | with_reducible rfl)
                            simp only [Act.put, List.setIfInBounds_toArray, List.set_cons_zero, List.set_cons_succ]
                            refine wpAnyH_done (by kernel_rfl) ?_ _
                            go_wp2_with fail
                            go_roundw
                            case rel => exact ⟨i + 1, false, by go_num, rfl, by omega, by simpa using HSS, HWn, HBn⟩
                            case measure => simp [RowKit.intOf]; omega
                          · go_wp2_with fail
                            refine wp_region_held_drew (S := (fun w' => w'.cell? ⟨g9, i, none⟩ = some (.int .u8 (y : Int)) ∧ w'.cell? ⟨b, off + i, none⟩ = some (.int .u8 (z : Int)))) (by kernel_rfl) ⟨cg, cb⟩ (fun hHeld => ?_)
                            refine wpAnyH_take (i := 0) (oi := { dst := some 77, op := Op.move (Operand.tmp 9), type := 4, pos := "nets.go:274", after := #[], guard := none }) (v := ?_) rfl (by kernel_rfl) (by kernel_rfl) (by kernel_rfl) (fun _ _ _ h => h) (Or.inl ⟨by rfl, ?_⟩) hHeld ?_
                            rotate_left
                            · (intro w hSw; (try dsimp only at hSw); go_simp; first | done | with_reducible rfl)
                            simp only [Act.put, List.setIfInBounds_toArray, List.set_cons_zero, List.set_cons_succ]
                            refine wpAnyH_take (i := 1) (oi := { dst := some 78, op := Op.move (Operand.tmp 77), type := 4, pos := "nets.go:274", after := #[{ on := 0, ground := Ground.data }], guard := none }) (v := ?_) rfl (by kernel_rfl) (by kernel_rfl) (by kernel_rfl) (fun _ _ _ h => h) (Or.inl ⟨by rfl, ?_⟩) hHeld ?_
                            rotate_left
                            · (intro w hSw; (try dsimp only at hSw); go_simp; first | done | with_reducible rfl)
                            simp only [Act.put, List.setIfInBounds_toArray, List.set_cons_zero, List.set_cons_succ]
                            refine wpAnyH_take (i := 2) (oi := { dst := some 79, op := Op.move (Operand.tmp 5), type := 25, pos := "nets.go:274", after := #[{ on := 1, ground := Ground.guard }], guard := some (1, true) }) (v := ?_) rfl (by kernel_rfl) (by kernel_rfl) (by kernel_rfl) (fun _ _ _ h => h) (Or.inl ⟨by rfl, ?_⟩) hHeld ?_
                            rotate_left
                            · (intro w hSw; (try dsimp only at hSw); go_simp; first | done | with_reducible rfl)
                            simp only [Act.put, List.setIfInBounds_toArray, List.set_cons_zero, List.set_cons_succ]
                            refine wpAnyH_take (i := 3) (oi := { dst := some 80, op := Op.move (Operand.tmp 10), type := 3, pos := "nets.go:274", after := #[{ on := 1, ground := Ground.guard }], guard := some (1, true) }) (v := ?_) rfl (by kernel_rfl) (by kernel_rfl) (by kernel_rfl) (fun _ _ _ h => h) (Or.inl ⟨by rfl, ?_⟩) hHeld ?_
                            rotate_left
                            · (intro w hSw; (try dsimp only at hSw); go_simp; first | done | with_reducible rfl)
                            simp only [Act.put, List.setIfInBounds_toArray, List.set_cons_zero, List.set_cons_succ]
                            refine wpAnyH_take (i := 4) (oi := { dst := some 81, op := Op.indexAddr 25 (Operand.tmp 79) (Operand.tmp 80), type := 0, pos := "nets.go:274", after := #[{ on := 2, ground := Ground.data }, { on := 3, ground := Ground.data }, { on := 1, ground := Ground.guard }], guard := some (1, true) }) (v := ?_) rfl (by kernel_rfl) (by kernel_rfl) (by kernel_rfl) (fun _ _ _ h => h) (Or.inl ⟨by rfl, ?_⟩) hHeld ?_
                            rotate_left
                            · (intro w hSw; (try dsimp only at hSw); go_simp; first | done | with_reducible rfl)
                            simp only [Act.put, List.setIfInBounds_toArray, List.set_cons_zero, List.set_cons_succ]
                            refine wpAnyH_take (i := 5) (oi := { dst := some 82, op := Op.load 5 (Operand.tmp 81), type := 5, pos := "nets.go:274", after := #[{ on := 4, ground := Ground.data }, { on := 1, ground := Ground.guard }], guard := some (1, true) }) (v := ?_) rfl (by kernel_rfl) (by kernel_rfl) (by kernel_rfl) (fun _ _ _ h => h) (Or.inl ⟨by rfl, ?_⟩) hHeld ?_
                            rotate_left
                            · (intro w hSw; (try dsimp only at hSw); go_simp; first | done | with_reducible rfl)
                            simp only [Act.put, List.setIfInBounds_toArray, List.set_cons_zero, List.set_cons_succ]
                            refine wpAnyH_take (i := 6) (oi := { dst := some 83, op := Op.move (Operand.tmp 0), type := 25, pos := "nets.go:274", after := #[{ on := 1, ground := Ground.guard }], guard := some (1, true) }) (v := ?_) rfl (by kernel_rfl) (by kernel_rfl) (by kernel_rfl) (fun _ _ _ h => h) (Or.inl ⟨by rfl, ?_⟩) hHeld ?_
                            rotate_left
                            · (intro w hSw; (try dsimp only at hSw); go_simp; first | done | with_reducible rfl)
                            simp only [Act.put, List.setIfInBounds_toArray, List.set_cons_zero, List.set_cons_succ]
                            refine wpAnyH_take (i := 7) (oi := { dst := some 84, op := Op.move (Operand.tmp 10), type := 3, pos := "nets.go:274", after := #[{ on := 1, ground := Ground.guard }], guard := some (1, true) }) (v := ?_) rfl (by kernel_rfl) (by kernel_rfl) (by kernel_rfl) (fun _ _ _ h => h) (Or.inl ⟨by rfl, ?_⟩) hHeld ?_
                            rotate_left
                            · (intro w hSw; (try dsimp only at hSw); go_simp; first | done | with_reducible rfl)
                            simp only [Act.put, List.setIfInBounds_toArray, List.set_cons_zero, List.set_cons_succ]
                            refine wpAnyH_take (i := 8) (oi := { dst := some 85, op := Op.indexAddr 25 (Operand.tmp 83) (Operand.tmp 84), type := 0, pos := "nets.go:274", after := #[{ on := 6, ground := Ground.data }, { on := 7, ground := Ground.data }, { on := 1, ground := Ground.guard }], guard := some (1, true) }) (v := ?_) rfl (by kernel_rfl) (by kernel_rfl) (by kernel_rfl) (fun _ _ _ h => h) (Or.inl ⟨by rfl, ?_⟩) hHeld ?_
                            rotate_left
                            · (intro w hSw; (try dsimp only at hSw); go_simp; first | done | with_reducible rfl)
                            simp only [Act.put, List.setIfInBounds_toArray, List.set_cons_zero, List.set_cons_succ]
                            refine wpAnyH_take (i := 9) (oi := { dst := some 86, op := Op.load 5 (Operand.tmp 85), type := 5, pos := "nets.go:274", after := #[{ on := 8, ground := Ground.data }, { on := 1, ground := Ground.guard }], guard := some (1, true) }) (v := ?_) rfl (by kernel_rfl) (by kernel_rfl) (by kernel_rfl) (fun _ _ _ h => h) (Or.inl ⟨by rfl, ?_⟩) hHeld ?_
                            rotate_left
                            · (intro w hSw; (try dsimp only at hSw); go_simp; first | done | with_reducible rfl)
                            simp only [Act.put, List.setIfInBounds_toArray, List.set_cons_zero, List.set_cons_succ]
                            refine wpAnyH_take (i := 10) (oi := { dst := some 87, op := Op.binOp BinOp.eql 5 (Operand.tmp 82) (Operand.tmp 86) 5, type := 4, pos := "nets.go:274", after := #[{ on := 5, ground := Ground.data }, { on := 9, ground := Ground.data }, { on := 1, ground := Ground.guard }], guard := some (1, true) }) (v := ?_) rfl (by kernel_rfl) (by kernel_rfl) (by kernel_rfl) (fun _ _ _ h => h) (Or.inl ⟨by rfl, ?_⟩) hHeld ?_
                            rotate_left
                            · (intro w hSw; (try dsimp only at hSw); go_simp; first | done | with_reducible rfl)
                            simp only [Act.put, List.setIfInBounds_toArray, List.set_cons_zero, List.set_cons_succ]
                            refine wpAnyH_take (i := 11) (oi := { dst := some 88, op := Op.pick (Operand.tmp 78) (Operand.tmp 87) (Operand.const (Value.bool false)), type := 4, pos := "nets.go:274", after := #[{ on := 1, ground := Ground.data }, { on := 10, ground := Ground.data }], guard := none }) (v := ?_) rfl (by kernel_rfl) (by kernel_rfl) (by kernel_rfl) (fun _ _ _ h => h) (Or.inl ⟨by rfl, ?_⟩) hHeld ?_
                            rotate_left
                            · (intro w hSw; (try dsimp only at hSw); go_simp; first | done | with_reducible rfl)
                            simp only [Act.put, List.setIfInBounds_toArray, List.set_cons_zero, List.set_cons_succ]
                            refine wpAnyH_take (i := 12) (oi := { dst := some 9, op := Op.assign (Operand.tmp 88), type := 4, pos := "nets.go:274", after := #[{ on := 11, ground := Ground.data }, { on := 1, ground := Ground.chain }, { on := 0, ground := Ground.phase }, { on := 1, ground := Ground.phase }, { on := 2, ground := Ground.phase }, { on := 3, ground := Ground.phase }, { on := 4, ground := Ground.phase }, { on := 5, ground := Ground.phase }, { on := 6, ground := Ground.phase }, { on := 7, ground := Ground.phase }, { on := 8, ground := Ground.phase }, { on := 9, ground := Ground.phase }, { on := 10, ground := Ground.phase }, { on := 11, ground := Ground.phase }], guard := none }) (v := ?_) rfl (by kernel_rfl) (by kernel_rfl) (by kernel_rfl) (fun _ _ _ h => h) (Or.inl ⟨by rfl, ?_⟩) hHeld ?_
                            rotate_left
                            · (intro w hSw; (try dsimp only at hSw); go_simp; first | done | with_reducible rfl)
                            simp only [Act.put, List.setIfInBounds_toArray, List.set_cons_zero, List.set_cons_succ]
                            refine wpAnyH_done (by kernel_rfl) ?_ _
                            go_wp2_with fail
                            go_roundw
                            case rel => exact ⟨i + 1, (y == z), by go_num, by first | (rw [← hyz]; done) | (rw [← hyz]; rfl), by omega, by simpa using HSS, HWn, HBn⟩
                            case measure => simp [RowKit.intOf]; omega
                        · have hin' : ¬ (i : Int) < l.length := by omega
                          have ei : i = l.length := by omega
                          subst ei
                          obtain ⟨-, hg9, -, sg, -⟩ := HW.out.at
                          have HEE := Lib.hid (HEN.out wr g9 0 c9 (wit l k m) (wit_len l k m) (HY.out.wit k m) hg9 sg)
                          clear sg
                          go_wp2_with fail
                          refine HEE.out.mono ?_
                          rintro x W10 ⟨e, is, rfl, hei, b10⟩
                          have HIF := Lib.hid (hit_iff (by omega) HSM.out hei)
                          have HB10 := Lib.hid ((Below.two HBi.out b10).alloc (Nat.le_trans HBi.out.size b10.size) (.cells #[.int .u32 (e.a : Int), .int .i64 e.n, .int .i64 e.t, .int .u32 (e.h : Int), .int .i64 e.m] 49))
                          clear hei b10 HEE
                          unfold En.v
                          cases sm
                          · have HNO := Lib.hid (show ¬ Hit l k m from fun h => by cases (HIF.out.2 h).1)
                            clear HIF
                            go_wp2_with fail
                            go_roundw
                            case rel => exact ⟨m + 1, by go_num, by omega, by omega, Lib.hid (fun m' h1 h2 => by rcases Nat.lt_succ_iff_lt_or_eq.1 h2 with h | h; exact HM.out m' h1 h; rw [h]; exact HNO.out), HB10⟩
                            case measure => simp [RowKit.intOf]; omega
                          · cases is
                            · have HNO := Lib.hid (show ¬ Hit l k m from fun h => by cases (HIF.out.2 h).2)
                              clear HIF
                              go_wp2_with fail
                              go_roundw
                              case rel => exact ⟨m + 1, by go_num, by omega, by omega, Lib.hid (fun m' h1 h2 => by rcases Nat.lt_succ_iff_lt_or_eq.1 h2 with h | h; exact HM.out m' h1 h; rw [h]; exact HNO.out), HB10⟩
                              case measure => simp [RowKit.intOf]; omega
                            · have HYES := Lib.hid (show PreE l from HP.out.2 ⟨k, m, by omega, by omega, by omega, HIF.out.1 ⟨rfl, rfl⟩⟩)
                              clear HIF
                              go_wp2_with fail
                              go_ret
                              exact GoesTo.yes HYES.out HB10.out
                    · have hj' : ¬ (j : Int) < 16 := by omega
                      go_wp2_with (at_builtin; refine wpList_plain rfl fun _ hK => wp_append_B _ _ rfl G v6 _ [pad l 12, pad l 13, pad l 14, pad l 15] ⟨H, 0, none⟩ 4 4 rfl rfl HO.out rfl (by omega) ?_ ?_ (Nat.le_trans hGH zj) ?_)
                      · intro q u hu; have := (HH.out.at).2.2.2.1.cells q u hu; first | exact this | (rw [Addr.add_lit]; exact this) | simpa using this
                      · simp [four]
                      intro v8 W8 o8 a8
                      refine hK _ _ ?_
                      clear hK
                      have b8 := a8.below (fun j hj => (HO.out.lt j hj).1) (Nat.le_trans hGH zj)
                      have HB8 := Lib.hid (HBj.out.trans (b8.mono hwG))
                      have z8 : G ≤ W8.heap.size := Nat.le_trans (Nat.le_trans hGH zj) a8.size
                      have HO8 := Lib.hid o8
                      have W32 := Lib.hid (wrap32s m (by omega))
                      clear a8 b8 o8 HH HO
                      go_wp2_with fail
                      try rw [W32.out]
                      refine (four_any _ m (by omega)).mono ?_
                      rintro x F2 ⟨f2, rfl, of2, bf2⟩
                      obtain ⟨gf2, cf2, hvf2, -, -⟩ : ∃ g cap, f2 = .slice (some ⟨g, 0, none⟩) 4 cap ∧ _ ∧ _ := by
                        rcases rowForm of2 with ⟨h, _⟩ | h
                        · cases h
                        · exact h
                      subst hvf2
                      obtain ⟨-, -, -, sf2, -⟩ := of2.at
                      have HOF := Lib.hid (HO8.out.keep bf2); have HBF := Lib.hid (Below.two HB8.out bf2); have HSF := Lib.hid sf2
                      have zF2 : G ≤ F2.heap.size := Nat.le_trans z8 bf2.size
                      clear of2 bf2 sf2 HO8
                      go_wp2_with (at_builtin; refine wpList_plain rfl fun _ hK => wp_append_B _ _ rfl G v8 _ (four m) ⟨gf2, 0, none⟩ 4 cf2 rfl rfl HOF.out rfl (by omega) ?_ ?_ zF2 ?_)
                      · intro q u hu; have := HSF.out.cells q u hu; first | exact this | (rw [Addr.add_lit]; exact this) | simpa using this
                      · simp [four]
                      intro v9 W9 o9 a9
                      refine hK _ _ ?_
                      clear hK
                      have b9 := a9.below (fun j hj => (HOF.out.lt j hj).1) zF2
                      have HB9 := Lib.hid (HBF.out.trans (b9.mono hwG))
                      have ow : OwnB W9 G v9 (wit l k m) := by rw [← wit_of]; simpa only [List.append_assoc, List.cons_append, List.nil_append] using o9
                      obtain ⟨g9, c9, hv9, -, -⟩ : ∃ g cap, v9 = .slice (some ⟨g, 0, none⟩) 20 cap ∧ _ ∧ _ := by
                        rcases rowForm ow with ⟨h, _⟩ | h
                        · cases h
                        · exact h
                      subst hv9
                      have HW9 := Lib.hid ow
                      clear a9 b9 o9 ow HOF HBF HSF
                      go_wp2_with fail
                      go_loopw [10, 9] (fun vi vs w5 => ∃ (i : Nat) (sm : Bool), vi = .int .i64 (i : Int) ∧ vs = .bool sm ∧ i ≤ l.length ∧ Hid (sm = true ↔ ∀ j, j < i → (wit l k m)[j]! = l[j]!) ∧ Hid (OwnB w5 G (.slice (some ⟨g9, 0, none⟩) 20 c9) (wit l k m)) ∧ Hid (Below w.heap.size w w5)) (fun vi _ _ => l.length - (RowKit.intOf vi).toNat)
                      case atStart => exact ⟨0, true, rfl, rfl, Nat.zero_le _, Lib.hid ⟨fun _ j hj => by omega, fun _ => rfl⟩, HW9, HB9⟩
                      case round =>
                        clear HW9 HB9
                        obtain ⟨i, sm, rfl, rfl, hil, HSM, HW, HBi⟩ := hrel
                        by_cases hin : i < l.length
                        · have hin' : (i : Int) < l.length := by omega
                          have hin20 : (i : Int) < 20 := by omega
                          obtain ⟨-, -, -, sg, -⟩ := HW.out.at
                          have cg0 := sg i (by rw [wit_len]; omega)
                          rw [Nat.zero_add] at cg0
                          have cg : wr.drew.cell? ⟨g9, i, none⟩ = _ := cg0
                          have cb : wr.drew.cell? ⟨b, off + i, none⟩ = _ := (HS.out.below HBi.out hlt) i hin
                          have HWn : Hid (OwnB wr.drew G (.slice (some ⟨g9, 0, none⟩) 20 c9) (wit l k m)) := Lib.hid (HW.out.ofBlock fun _ _ => rfl)
                          have HBn := Lib.hid HBi.out.drew
                          have HSS : Hid ((sm && ((wit l k m)[i]! == l[i]!)) = true ↔ ∀ j, j < i + 1 → (wit l k m)[j]! = l[j]!) := Lib.hid (by
                            rw [Bool.and_eq_true, HSM.out, beq_iff_eq]
                            constructor
                            · rintro ⟨h1, h2⟩ j hj
                              rcases Nat.lt_succ_iff_lt_or_eq.1 hj with h | h
                              · exact h1 j h
                              · rw [h]; exact h2
                            · intro h
                              exact ⟨fun j hj => h j (by omega), h i (by omega)⟩)
                          generalize hy9 : (wit l k m)[i]! = y at cg cg0 HSS
                          generalize hz9 : l[i]! = z at cb HSS
                          have hyz : ((y : Int) == (z : Int)) = (y == z) := by
                            by_cases h : y = z
                            · subst h; simp
                            · have h1 : ¬ (y : Int) = z := by omega
                              rw [beq_eq_false_iff_ne.2 h, beq_eq_false_iff_ne.2 h1]
                          clear sg cg0 hy9 hz9
                          cases sm
                          · go_wp2_with fail
                            refine wp_region_held_drew (S := (fun _ => True)) (by kernel_rfl) trivial (fun hHeld => ?_)
                            refine wpAnyH_take (i := 0) (oi := { dst := some 77, op := Op.move (Operand.tmp 9), type := 4, pos := "nets.go:274", after := #[], guard := none }) (v := ?_) rfl (by kernel_rfl) (by kernel_rfl) (by kernel_rfl) (fun _ _ _ h => h) (Or.inl ⟨by rfl, ?_⟩) hHeld ?_
                            rotate_left
                            · (intro w hSw; (try dsimp only at hSw); go_simp; first | done | with_reducible rfl)
                            simp only [Act.put, List.setIfInBounds_toArray, List.set_cons_zero, List.set_cons_succ]
                            refine wpAnyH_take (i := 1) (oi := { dst := some 78, op := Op.move (Operand.tmp 77), type := 4, pos := "nets.go:274", after := #[{ on := 0, ground := Ground.data }], guard := none }) (v := ?_) rfl (by kernel_rfl) (by kernel_rfl) (by kernel_rfl) (fun _ _ _ h => h) (Or.inl ⟨by rfl, ?_⟩) hHeld ?_
                            rotate_left
                            · (intro w hSw; (try dsimp only at hSw); go_simp; first | done | with_reducible rfl)
                            simp only [Act.put, List.setIfInBounds_toArray, List.set_cons_zero, List.set_cons_succ]
                            refine wpAnyH_take (i := 2) (oi := { dst := some 79, op := Op.move (Operand.tmp 5), type := 25, pos := "nets.go:274", after := #[{ on := 1, ground := Ground.guard }], guard := some (1, true) }) (v := undef) rfl (by kernel_rfl) (by kernel_rfl) (by kernel_rfl) (fun _ _ _ h => h) (Or.inr ⟨by rfl, rfl⟩) hHeld ?_
                            simp only [Act.put, List.setIfInBounds_toArray, List.set_cons_zero, List.set_cons_succ]
                            refine wpAnyH_take (i := 3) (oi := { dst := some 80, op := Op.move (Operand.tmp 10), type := 3, pos := "nets.go:274", after := #[{ on := 1, ground := Ground.guard }], guard := some (1, true) }) (v := undef) rfl (by kernel_rfl) (by kernel_rfl) (by kernel_rfl) (fun _ _ _ h => h) (Or.inr ⟨by rfl, rfl⟩) hHeld ?_
                            simp only [Act.put, List.setIfInBounds_toArray, List.set_cons_zero, List.set_cons_succ]
                            refine wpAnyH_take (i := 4) (oi := { dst := some 81, op := Op.indexAddr 25 (Operand.tmp 79) (Operand.tmp 80), type := 0, pos := "nets.go:274", after := #[{ on := 2, ground := Ground.data }, { on := 3, ground := Ground.data }, { on := 1, ground := Ground.guard }], guard := some (1, true) }) (v := undef) rfl (by kernel_rfl) (by kernel_rfl) (by kernel_rfl) (fun _ _ _ h => h) (Or.inr ⟨by rfl, rfl⟩) hHeld ?_
                            simp only [Act.put, List.setIfInBounds_toArray, List.set_cons_zero, List.set_cons_succ]
                            refine wpAnyH_take (i := 5) (oi := { dst := some 82, op := Op.load 5 (Operand.tmp 81), type := 5, pos := "nets.go:274", after := #[{ on := 4, ground := Ground.data }, { on := 1, ground := Ground.guard }], guard := some (1, true) }) (v := undef) rfl (by kernel_rfl) (by kernel_rfl) (by kernel_rfl) (fun _ _ _ h => h) (Or.inr ⟨by rfl, rfl⟩) hHeld ?_
                            simp only [Act.put, List.setIfInBounds_toArray, List.set_cons_zero, List.set_cons_succ]
                            refine wpAnyH_take (i := 6) (oi := { dst := some 83, op := Op.move (Operand.tmp 0), type := 25, pos := "nets.go:274", after := #[{ on := 1, ground := Ground.guard }], guard := some (1, true) }) (v := undef) rfl (by kernel_rfl) (by kernel_rfl) (by kernel_rfl) (fun _ _ _ h => h) (Or.inr ⟨by rfl, rfl⟩) hHeld ?_
                            simp only [Act.put, List.setIfInBounds_toArray, List.set_cons_zero, List.set_cons_succ]
                            refine wpAnyH_take (i := 7) (oi := { dst := some 84, op := Op.move (Operand.tmp 10), type := 3, pos := "nets.go:274", after := #[{ on := 1, ground := Ground.guard }], guard := some (1, true) }) (v := undef) rfl (by kernel_rfl) (by kernel_rfl) (by kernel_rfl) (fun _ _ _ h => h) (Or.inr ⟨by rfl, rfl⟩) hHeld ?_
                            simp only [Act.put, List.setIfInBounds_toArray, List.set_cons_zero, List.set_cons_succ]
                            refine wpAnyH_take (i := 8) (oi := { dst := some 85, op := Op.indexAddr 25 (Operand.tmp 83) (Operand.tmp 84), type := 0, pos := "nets.go:274", after := #[{ on := 6, ground := Ground.data }, { on := 7, ground := Ground.data }, { on := 1, ground := Ground.guard }], guard := some (1, true) }) (v := undef) rfl (by kernel_rfl) (by kernel_rfl) (by kernel_rfl) (fun _ _ _ h => h) (Or.inr ⟨by rfl, rfl⟩) hHeld ?_
                            simp only [Act.put, List.setIfInBounds_toArray, List.set_cons_zero, List.set_cons_succ]
                            refine wpAnyH_take (i := 9) (oi := { dst := some 86, op := Op.load 5 (Operand.tmp 85), type := 5, pos := "nets.go:274", after := #[{ on := 8, ground := Ground.data }, { on := 1, ground := Ground.guard }], guard := some (1, true) }) (v := undef) rfl (by kernel_rfl) (by kernel_rfl) (by kernel_rfl) (fun _ _ _ h => h) (Or.inr ⟨by rfl, rfl⟩) hHeld ?_
                            simp only [Act.put, List.setIfInBounds_toArray, List.set_cons_zero, List.set_cons_succ]
                            refine wpAnyH_take (i := 10) (oi := { dst := some 87, op := Op.binOp BinOp.eql 5 (Operand.tmp 82) (Operand.tmp 86) 5, type := 4, pos := "nets.go:274", after := #[{ on := 5, ground := Ground.data }, { on := 9, ground := Ground.data }, { on := 1, ground := Ground.guard }], guard := some (1, true) }) (v := undef) rfl (by kernel_rfl) (by kernel_rfl) (by kernel_rfl) (fun _ _ _ h => h) (Or.inr ⟨by rfl, rfl⟩) hHeld ?_
                            simp only [Act.put, List.setIfInBounds_toArray, List.set_cons_zero, List.set_cons_succ]
                            refine wpAnyH_take (i := 11) (oi := { dst := some 88, op := Op.pick (Operand.tmp 78) (Operand.tmp 87) (Operand.const (Value.bool false)), type := 4, pos := "nets.go:274", after := #[{ on := 1, ground := Ground.data }, { on := 10, ground := Ground.data }], guard := none }) (v := ?_) rfl (by kernel_rfl) (by kernel_rfl) (by kernel_rfl) (fun _ _ _ h => h) (Or.inl ⟨by rfl, ?_⟩) hHeld ?_
                            rotate_left
                            · (intro w hSw; (try dsimp only at hSw); go_simp; first | done | with_reducible rfl)
                            simp only [Act.put, List.setIfInBounds_toArray, List.set_cons_zero, List.set_cons_succ]
                            refine wpAnyH_take (i := 12) (oi := { dst := some 9, op := Op.assign (Operand.tmp 88), type := 4, pos := "nets.go:274", after := #[{ on := 11, ground := Ground.data }, { on := 1, ground := Ground.chain }, { on := 0, ground := Ground.phase }, { on := 1, ground := Ground.phase }, { on := 2, ground := Ground.phase }, { on := 3, ground := Ground.phase }, { on := 4, ground := Ground.phase }, { on := 5, ground := Ground.phase }, { on := 6, ground := Ground.phase }, { on := 7, ground := Ground.phase }, { on := 8, ground := Ground.phase }, { on := 9, ground := Ground.phase }, { on := 10, ground := Ground.phase }, { on := 11, ground := Ground.phase }], guard := none }) (v := ?_) rfl (by kernel_rfl) (by kernel_rfl) (by kernel_rfl) (fun _ _ _ h => h) (Or.inl ⟨by rfl, ?_⟩) hHeld ?_
                            rotate_left
                            · (intro w hSw; (try dsimp only at hSw); go_simp; first | done | with_reducible rfl)
                            simp only [Act.put, List.setIfInBounds_toArray, List.set_cons_zero, List.set_cons_succ]
                            refine wpAnyH_done (by kernel_rfl) ?_ _
                            go_wp2_with fail
                            go_roundw
                            case rel => exact ⟨i + 1, false, by go_num, rfl, by omega, by simpa using HSS, HWn, HBn⟩
                            case measure => simp [RowKit.intOf]; omega
                          · go_wp2_with fail
                            refine wp_region_held_drew (S := (fun w' => w'.cell? ⟨g9, i, none⟩ = some (.int .u8 (y : Int)) ∧ w'.cell? ⟨b, off + i, none⟩ = some (.int .u8 (z : Int)))) (by kernel_rfl) ⟨cg, cb⟩ (fun hHeld => ?_)
                            refine wpAnyH_take (i := 0) (oi := { dst := some 77, op := Op.move (Operand.tmp 9), type := 4, pos := "nets.go:274", after := #[], guard := none }) (v := ?_) rfl (by kernel_rfl) (by kernel_rfl) (by kernel_rfl) (fun _ _ _ h => h) (Or.inl ⟨by rfl, ?_⟩) hHeld ?_
                            rotate_left
                            · (intro w hSw; (try dsimp only at hSw); go_simp; first | done | with_reducible rfl)
                            simp only [Act.put, List.setIfInBounds_toArray, List.set_cons_zero, List.set_cons_succ]
                            refine wpAnyH_take (i := 1) (oi := { dst := some 78, op := Op.move (Operand.tmp 77), type := 4, pos := "nets.go:274", after := #[{ on := 0, ground := Ground.data }], guard := none }) (v := ?_) rfl (by kernel_rfl) (by kernel_rfl) (by kernel_rfl) (fun _ _ _ h => h) (Or.inl ⟨by rfl, ?_⟩) hHeld ?_
                            rotate_left
                            · (intro w hSw; (try dsimp only at hSw); go_simp; first | done | with_reducible rfl)
                            simp only [Act.put, List.setIfInBounds_toArray, List.set_cons_zero, List.set_cons_succ]
                            refine wpAnyH_take (i := 2) (oi := { dst := some 79, op := Op.move (Operand.tmp 5), type := 25, pos := "nets.go:274", after := #[{ on := 1, ground := Ground.guard }], guard := some (1, true) }) (v := ?_) rfl (by kernel_rfl) (by kernel_rfl) (by kernel_rfl) (fun _ _ _ h => h) (Or.inl ⟨by rfl, ?_⟩) hHeld ?_
                            rotate_left
                            · (intro w hSw; (try dsimp only at hSw); go_simp; first | done | with_reducible rfl)
                            simp only [Act.put, List.setIfInBounds_toArray, List.set_cons_zero, List.set_cons_succ]
                            refine wpAnyH_take (i := 3) (oi := { dst := some 80, op := Op.move (Operand.tmp 10), type := 3, pos := "nets.go:274", after := #[{ on := 1, ground := Ground.guard }], guard := some (1, true) }) (v := ?_) rfl (by kernel_rfl) (by kernel_rfl) (by kernel_rfl) (fun _ _ _ h => h) (Or.inl ⟨by rfl, ?_⟩) hHeld ?_
                            rotate_left
                            · (intro w hSw; (try dsimp only at hSw); go_simp; first | done | with_reducible rfl)
                            simp only [Act.put, List.setIfInBounds_toArray, List.set_cons_zero, List.set_cons_succ]
                            refine wpAnyH_take (i := 4) (oi := { dst := some 81, op := Op.indexAddr 25 (Operand.tmp 79) (Operand.tmp 80), type := 0, pos := "nets.go:274", after := #[{ on := 2, ground := Ground.data }, { on := 3, ground := Ground.data }, { on := 1, ground := Ground.guard }], guard := some (1, true) }) (v := ?_) rfl (by kernel_rfl) (by kernel_rfl) (by kernel_rfl) (fun _ _ _ h => h) (Or.inl ⟨by rfl, ?_⟩) hHeld ?_
                            rotate_left
                            · (intro w hSw; (try dsimp only at hSw); go_simp; first | done | with_reducible rfl)
                            simp only [Act.put, List.setIfInBounds_toArray, List.set_cons_zero, List.set_cons_succ]
                            refine wpAnyH_take (i := 5) (oi := { dst := some 82, op := Op.load 5 (Operand.tmp 81), type := 5, pos := "nets.go:274", after := #[{ on := 4, ground := Ground.data }, { on := 1, ground := Ground.guard }], guard := some (1, true) }) (v := ?_) rfl (by kernel_rfl) (by kernel_rfl) (by kernel_rfl) (fun _ _ _ h => h) (Or.inl ⟨by rfl, ?_⟩) hHeld ?_
                            rotate_left
                            · (intro w hSw; (try dsimp only at hSw); go_simp; first | done | with_reducible rfl)
                            simp only [Act.put, List.setIfInBounds_toArray, List.set_cons_zero, List.set_cons_succ]
                            refine wpAnyH_take (i := 6) (oi := { dst := some 83, op := Op.move (Operand.tmp 0), type := 25, pos := "nets.go:274", after := #[{ on := 1, ground := Ground.guard }], guard := some (1, true) }) (v := ?_) rfl (by kernel_rfl) (by kernel_rfl) (by kernel_rfl) (fun _ _ _ h => h) (Or.inl ⟨by rfl, ?_⟩) hHeld ?_
                            rotate_left
                            · (intro w hSw; (try dsimp only at hSw); go_simp; first | done | with_reducible rfl)
                            simp only [Act.put, List.setIfInBounds_toArray, List.set_cons_zero, List.set_cons_succ]
                            refine wpAnyH_take (i := 7) (oi := { dst := some 84, op := Op.move (Operand.tmp 10), type := 3, pos := "nets.go:274", after := #[{ on := 1, ground := Ground.guard }], guard := some (1, true) }) (v := ?_) rfl (by kernel_rfl) (by kernel_rfl) (by kernel_rfl) (fun _ _ _ h => h) (Or.inl ⟨by rfl, ?_⟩) hHeld ?_
                            rotate_left
                            · (intro w hSw; (try dsimp only at hSw); go_simp; first | done | with_reducible rfl)
                            simp only [Act.put, List.setIfInBounds_toArray, List.set_cons_zero, List.set_cons_succ]
                            refine wpAnyH_take (i := 8) (oi := { dst := some 85, op := Op.indexAddr 25 (Operand.tmp 83) (Operand.tmp 84), type := 0, pos := "nets.go:274", after := #[{ on := 6, ground := Ground.data }, { on := 7, ground := Ground.data }, { on := 1, ground := Ground.guard }], guard := some (1, true) }) (v := ?_) rfl (by kernel_rfl) (by kernel_rfl) (by kernel_rfl) (fun _ _ _ h => h) (Or.inl ⟨by rfl, ?_⟩) hHeld ?_
                            rotate_left
                            · (intro w hSw; (try dsimp only at hSw); go_simp; first | done | with_reducible rfl)
                            simp only [Act.put, List.setIfInBounds_toArray, List.set_cons_zero, List.set_cons_succ]
                            refine wpAnyH_take (i := 9) (oi := { dst := some 86, op := Op.load 5 (Operand.tmp 85), type := 5, pos := "nets.go:274", after := #[{ on := 8, ground := Ground.data }, { on := 1, ground := Ground.guard }], guard := some (1, true) }) (v := ?_) rfl (by kernel_rfl) (by kernel_rfl) (by kernel_rfl) (fun _ _ _ h => h) (Or.inl ⟨by rfl, ?_⟩) hHeld ?_
                            rotate_left
                            · (intro w hSw; (try dsimp only at hSw); go_simp; first | done | with_reducible rfl)
                            simp only [Act.put, List.setIfInBounds_toArray, List.set_cons_zero, List.set_cons_succ]
                            refine wpAnyH_take (i := 10) (oi := { dst := some 87, op := Op.binOp BinOp.eql 5 (Operand.tmp 82) (Operand.tmp 86) 5, type := 4, pos := "nets.go:274", after := #[{ on := 5, ground := Ground.data }, { on := 9, ground := Ground.data }, { on := 1, ground := Ground.guard }], guard := some (1, true) }) (v := ?_) rfl (by kernel_rfl) (by kernel_rfl) (by kernel_rfl) (fun _ _ _ h => h) (Or.inl ⟨by rfl, ?_⟩) hHeld ?_
                            rotate_left
                            · (intro w hSw; (try dsimp only at hSw); go_simp; first | done | with_reducible rfl)
                            simp only [Act.put, List.setIfInBounds_toArray, List.set_cons_zero, List.set_cons_succ]
                            refine wpAnyH_take (i := 11) (oi := { dst := some 88, op := Op.pick (Operand.tmp 78) (Operand.tmp 87) (Operand.const (Value.bool false)), type := 4, pos := "nets.go:274", after := #[{ on := 1, ground := Ground.data }, { on := 10, ground := Ground.data }], guard := none }) (v := ?_) rfl (by kernel_rfl) (by kernel_rfl) (by kernel_rfl) (fun _ _ _ h => h) (Or.inl ⟨by rfl, ?_⟩) hHeld ?_
                            rotate_left
                            · (intro w hSw; (try dsimp only at hSw); go_simp; first | done | with_reducible rfl)
                            simp only [Act.put, List.setIfInBounds_toArray, List.set_cons_zero, List.set_cons_succ]
                            refine wpAnyH_take (i := 12) (oi := { dst := some 9, op := Op.assign (Operand.tmp 88), type := 4, pos := "nets.go:274", after := #[{ on := 11, ground := Ground.data }, { on := 1, ground := Ground.chain }, { on := 0, ground := Ground.phase }, { on := 1, ground := Ground.phase }, { on := 2, ground := Ground.phase }, { on := 3, ground := Ground.phase }, { on := 4, ground := Ground.phase }, { on := 5, ground := Ground.phase }, { on := 6, ground := Ground.phase }, { on := 7, ground := Ground.phase }, { on := 8, ground := Ground.phase }, { on := 9, ground := Ground.phase }, { on := 10, ground := Ground.phase }, { on := 11, ground := Ground.phase }], guard := none }) (v := ?_) rfl (by kernel_rfl) (by kernel_rfl) (by kernel_rfl) (fun _ _ _ h => h) (Or.inl ⟨by rfl, ?_⟩) hHeld ?_
                            rotate_left
                            · (intro w hSw; (try dsimp only at hSw); go_simp; first | done | with_reducible rfl)
                            simp only [Act.put, List.setIfInBounds_toArray, List.set_cons_zero, List.set_cons_succ]
                            refine wpAnyH_done (by kernel_rfl) ?_ _
                            go_wp2_with fail
                            go_roundw
                            case rel => exact ⟨i + 1, (y == z), by go_num, by first | (rw [← hyz]; done) | (rw [← hyz]; rfl), by omega, by simpa using HSS, HWn, HBn⟩
                            case measure => simp [RowKit.intOf]; omega
                        · have hin' : ¬ (i : Int) < l.length := by omega
                          have ei : i = l.length := by omega
                          subst ei
                          obtain ⟨-, hg9, -, sg, -⟩ := HW.out.at
                          have HEE := Lib.hid (HEN.out wr g9 0 c9 (wit l k m) (wit_len l k m) (HY.out.wit k m) hg9 sg)
                          clear sg
                          go_wp2_with fail
                          refine HEE.out.mono ?_
                          rintro x W10 ⟨e, is, rfl, hei, b10⟩
                          have HIF := Lib.hid (hit_iff (by omega) HSM.out hei)
                          have HB10 := Lib.hid ((Below.two HBi.out b10).alloc (Nat.le_trans HBi.out.size b10.size) (.cells #[.int .u32 (e.a : Int), .int .i64 e.n, .int .i64 e.t, .int .u32 (e.h : Int), .int .i64 e.m] 49))
                          clear hei b10 HEE
                          unfold En.v
                          cases sm
                          · have HNO := Lib.hid (show ¬ Hit l k m from fun h => by cases (HIF.out.2 h).1)
                            clear HIF
                            go_wp2_with fail
                            go_roundw
                            case rel => exact ⟨m + 1, by go_num, by omega, by omega, Lib.hid (fun m' h1 h2 => by rcases Nat.lt_succ_iff_lt_or_eq.1 h2 with h | h; exact HM.out m' h1 h; rw [h]; exact HNO.out), HB10⟩
                            case measure => simp [RowKit.intOf]; omega
                          · cases is
                            · have HNO := Lib.hid (show ¬ Hit l k m from fun h => by cases (HIF.out.2 h).2)
                              clear HIF
                              go_wp2_with fail
                              go_roundw
                              case rel => exact ⟨m + 1, by go_num, by omega, by omega, Lib.hid (fun m' h1 h2 => by rcases Nat.lt_succ_iff_lt_or_eq.1 h2 with h | h; exact HM.out m' h1 h; rw [h]; exact HNO.out), HB10⟩
                              case measure => simp [RowKit.intOf]; omega
                            · have HYES := Lib.hid (show PreE l from HP.out.2 ⟨k, m, by omega, by omega, by omega, HIF.out.1 ⟨rfl, rfl⟩⟩)
                              clear HIF
                              go_wp2_with fail
                              go_ret
                              exact GoesTo.yes HYES.out HB10.out
        · have hm' : ¬ (m : Int) ≤ 16 := by omega
          go_wp2_with fail
          go_roundw
          case rel => exact ⟨k + 1, by go_num, by omega, Lib.hid (fun k' h m' h1 h2 => by rcases Nat.lt_succ_iff_lt_or_eq.1 h with h | h; exact HK.out k' h m' h1 h2; subst h; exact HM.out m' h1 (by omega)), HB⟩
          case measure => simp [RowKit.intOf]; omega
    · have hk' : ¬ (k : Int) ≤ 32 := by omega
      go_wp2_with fail
      go_ret
      exact GoesTo.no (fun h => by obtain ⟨k', m', h1, h2, h3, h4⟩ := HP.out.1 h; exact HK.out k' (by omega) m' h2 h3 h4) HB.out
end Go.Proofs.YtlgkjbkbdmneaaaDoor
