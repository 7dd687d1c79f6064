/-
  The statement TrieLongest's function answers true at every list and every address; what lay in memory stays.
-/
import Derived.Test.YtbdmfcnlfmnmdaaTriePut
import Derived.Test.YtbdmfcnlfmnmdaaTrieList
import Derived.Test.YtbdmfcnlfmnmdaaTrieFind
import Derived.Test.YtbdmfcnlfmnmdaaPrefHas
import Derived.Deep.RegionHeld3
namespace Go.Proofs.Ytbdmfcnlfmnmdaa
open Go.RowKit

theorem heldN {w0 w w1 : World} {b i j B : Nat} {x y z : Value} (h : w.cell? ⟨b, i, none⟩ = some x ∧ w.cell? ⟨b, j, none⟩ = some y ∧ w.cell? ⟨B, 1, none⟩ = some z ∧ Below w0.heap.size w0 w) (hb : Below w.heap.size w w1) :
    w1.cell? ⟨b, i, none⟩ = some x ∧ w1.cell? ⟨b, j, none⟩ = some y ∧ w1.cell? ⟨B, 1, none⟩ = some z ∧ Below w0.heap.size w0 w1 := by
  obtain ⟨h1, h2, h3, h4⟩ := h
  have l1 : b < w.heap.size := World.block_lt_of_cell? _ _ h1
  have l3 : B < w.heap.size := World.block_lt_of_cell? _ _ h3
  exact ⟨(hb.cell (p := ⟨b, i, none⟩) l1).trans h1, (hb.cell (p := ⟨b, j, none⟩) l1).trans h2, (hb.cell (p := ⟨B, 1, none⟩) l3).trans h3, Below.two h4 hb⟩
theorem chk32 (a : Nat) (ha : a < 4294967296) : PrefP.chk a 32 = 0 := PrefP.chk_ok a 32 (by decide) (PrefP.cut_all a ha)
theorem fnd32 (f : Nt → Option Int) (a : Nat) (ha : a < 4294967296) (v : Int) : Fnd (setF f ((a, (32 : Int)) : Nt) (some v)) a (some (32, v)) := by
  refine ⟨by decide, ?_, fun n hn _ => ?_⟩
  · rw [PrefP.cut_all a ha]; exact setF_same _ _ _
  · obtain ⟨k, h1, h2, _⟩ := (PrefP.has_iff _ _ _).1 hn
    rw [h1]
    exact Int.ofNat_le.2 h2

set_option maxHeartbeats 4000000 in
set_option maxRecDepth 100000 in
theorem trieLongest_walk (w : World) (v : Value) (l : List Nt) (a : Nat) (hl : l.length * 16 ≤ 140737488355328) (ha : a < 4294967296) (h : Arg w v l) (hok : ∀ x ∈ l, x.1 < 4294967296) :
    Calls Try.prog 3 #[v, .int .u32 a] w fun e w' => e = .returned (.bool true) ∧ Below w.heap.size w w' := by
  obtain ⟨p, c, rfl, h⟩ := h
  have HA := Lib.hid h; have HOK := Lib.hid hok
  clear h hok
  go_enter Try.func3, Try.ntmps3
  go_wp2_with fail
  refine (new_tab w).mono ?_
  rintro e w1 ⟨rfl, T1, b1⟩
  have HT3 := Lib.hid T1; have HB3 := Lib.hid b1
  clear T1 b1
  go_wp2_with fail
  go_loopw [6] (fun s6 wr => ∃ (k : Nat) (S : Nat → Prop) (f : Nt → Option Int) (L : List Nt), s6 = .int .i64 k ∧ k ≤ l.length ∧ Hid (Tab wr S w.heap.size f L) ∧ Hid (Below w.heap.size w wr) ∧ Hid (∀ b, S b → w.heap.size ≤ b)) (fun s6 _ => l.length - (RowKit.intOf s6).toNat)
  case atStart => exact ⟨0, _, _, [], rfl, Nat.zero_le _, HT3, HB3, Lib.hid fun b hb => by omega⟩
  case round =>
    clear HT3 HB3
    obtain ⟨k, S, f, L, rfl, hk, HT, HB, HS⟩ := hrel
    by_cases hkn : k < l.length
    · obtain ⟨b, off, hp, hlt, hs⟩ : ∃ b off, p = some ⟨b, off, none⟩ ∧ b < w.heap.size ∧ Seen w b off l := by
        rcases HA.out with h | h
        · rw [h] at hkn; simp at hkn
        · exact h
      subst hp
      have sw := hs.below HB.out hlt
      have s0 : wr.cell? ⟨b, off + k * 2, none⟩ = some (.int .u32 (l[k]!.1 : Int)) := sw.c0 k hkn
      have s1 : wr.cell? ⟨b, off + k * 2 + 1, none⟩ = some (.int .i64 l[k]!.2) := sw.c1 k hkn
      have hx : l[k]!.1 < 4294967296 := HOK.out _ (by rw [getElem!_pos l k hkn]; exact List.getElem_mem hkn)
      generalize l[k]! = n at s0 s1 hx
      clear sw hs
      go_wp2_with fail
      refine (put_any wr S w.heap.size f L n k hx HT.out).mono ?_
      rintro e w4 ⟨rfl, ⟨L4, T4⟩, K4⟩
      go_wp2_with fail
      go_roundw
      case rel => exact ⟨k + 1, _, _, L4, by go_num, by omega, Lib.hid T4, Lib.hid (HB.out.trans (K4.below HS.out HB.out.size)), Lib.hid (plus_ge HS.out HB.out.size)⟩
      case measure => simp [RowKit.intOf]; omega
    · clear HA HOK
      go_wp2_with fail
      refine (find_any wr S w.heap.size f L a ha HT.out).mono ?_
      rintro e w5 ⟨q, rfl, hF, b5⟩
      have T5 := Lib.hid (HT.out.below b5); have B5 := Lib.hid (Below.two HB.out b5)
      have HF := Lib.hid hF
      clear hF b5 HT HB
      cases q with
      | none =>
        unfold foundV
        go_wp2_with fail
        have bx := Box.new w5 (.int .u32 0) (.int .i64 0) 30
        have bb : Below w5.heap.size w5 (w5.alloc (.cells #[.int .u32 0, .int .i64 0] 30)) := (Below.refl _ _).alloc (Nat.le_refl _) _
        generalize w5.alloc (.cells #[.int .u32 0, .int .i64 0] 30) = w6 at *
        have T6 := Lib.hid (T5.out.below bb); have B6 := Lib.hid (Below.two B5.out bb); have HX6 := Lib.hid bx
        clear bx bb T5 B5
        refine (get_any w6 S w.heap.size f L ((0, 0) : Nt) (by decide) T6.out).mono ?_
        rintro e w7 ⟨rfl, b7⟩
        have T7 := Lib.hid (T6.out.below b7); have B7 := Lib.hid (Below.two B6.out b7); have HX7 := Lib.hid (HX6.out.kept b7)
        clear b7 T6 B6 HX6
        generalize (if getE f ((0, 0) : Nt) = 0 then (f ((0, 0) : Nt)).getD 0 else 0) = gz
        obtain ⟨ge, hge⟩ : ∃ ge, errV (getE f ((0, 0) : Nt)) = ge := ⟨_, rfl⟩
        rw [hge]
        clear hge
        go_wp2_with fail
        refine (list_any w7 S w.heap.size f L T7.out).mono ?_
        rintro e w8 ⟨v8, rfl, o8, b8⟩
        have T8 := Lib.hid (T7.out.below b8); have B8 := Lib.hid (Below.two B7.out b8); have HBX := Lib.hid (HX7.out.kept b8); have O8 := Lib.hid o8
        clear o8 b8 T7 B7 HX7
        obtain ⟨p8, c8, rfl, hA8⟩ := O8.out.arg
        have HA8 := Lib.hid hA8; clear hA8
        have hfew := T8.out.few
        go_wp2_with fail
        go_loopw [13] (fun s13 wr => ∃ k : Nat, s13 = .int .i64 k ∧ k ≤ L.length ∧ Hid (Below w8.heap.size w8 wr)) (fun s13 _ => L.length - (RowKit.intOf s13).toNat)
        case atStart => exact ⟨0, rfl, Nat.zero_le _, Lib.hid (Below.refl _ _)⟩
        case round =>
          obtain ⟨k, rfl, hk, HB9⟩ := hrel
          by_cases hkn : k < L.length
          · obtain ⟨b, off, hp, hlt, hs⟩ : ∃ b off, p8 = some ⟨b, off, none⟩ ∧ b < w8.heap.size ∧ Seen w8 b off L := by
              rcases HA8.out with h | h
              · rw [h] at hkn; simp at hkn
              · exact h
            subst hp
            have sw := hs.below HB9.out hlt
            have s0 : wr.cell? ⟨b, off + k * 2, none⟩ = some (.int .u32 (L[k]!.1 : Int)) := sw.c0 k hkn
            have s1 : wr.cell? ⟨b, off + k * 2 + 1, none⟩ = some (.int .i64 L[k]!.2) := sw.c1 k hkn
            have s2 : wr.cell? ⟨w5.heap.size, 1, none⟩ = some (.int .i64 0) := (HBX.out.kept HB9.out).c1
            have hin : L[k]! ∈ L := by rw [getElem!_pos L k hkn]; exact List.getElem_mem hkn
            obtain ⟨zn, hzn⟩ := (T8.out.mem _).1 hin
            generalize L[k]! = n at s0 s1 hzn
            have HZ := Lib.hid hzn
            have HS : Hid (wr.cell? ⟨b, off + k * 2, none⟩ = some (.int .u32 (n.1 : Int)) ∧ wr.cell? ⟨b, off + k * 2 + 1, none⟩ = some (.int .i64 n.2) ∧ wr.cell? ⟨w5.heap.size, 1, none⟩ = some (.int .i64 0) ∧ Below w8.heap.size w8 wr) := Lib.hid ⟨s0, s1, s2, HB9.out⟩
            clear sw hs s0 s1 s2 hin hzn
            have hH : PrefP.has n.1 n.2 a = false := by
              cases e : PrefP.has n.1 n.2 a with
              | false => rfl
              | true =>
                have := HF.out n e
                rw [HZ.out] at this
                exact absurd this (by simp)
            have HH := Lib.hid hH; clear hH
            have H := HS.out; have s0 := H.1; clear HS
            go_wp2_with fail
            refine wp_region_held_drew (S := (fun w' => w'.cell? ⟨b, off + k * 2, none⟩ = some (.int .u32 (n.1 : Int)) ∧ w'.cell? ⟨b, off + k * 2 + 1, none⟩ = some (.int .i64 n.2) ∧ w'.cell? ⟨w5.heap.size, 1, none⟩ = some (.int .i64 0) ∧ Below w8.heap.size w8 w')) (by kernel_rfl) ⟨H.1, H.2.1, H.2.2.1, H.2.2.2.drew⟩ (fun hHeld => ?_)
            refine wpAnyH_take (i := 0) (oi := { dst := some 72, op := Op.move (Operand.tmp 12), type := 22, pos := "nets.go:377", after := #[], guard := none }) (v := ?_) rfl (by kernel_rfl) (by kernel_rfl) (by kernel_rfl) (fun _ _ _ h => h) (Or.inl ⟨by rfl, ?_⟩) hHeld ?_
            rotate_left
            · (intro w hSw; (try dsimp only at hSw); go_simp; first | done | with_reducible rfl)
            simp only [Act.put, List.setIfInBounds_toArray, List.set_cons_zero, List.set_cons_succ]
            refine wpAnyH_take (i := 1) (oi := { dst := some 73, op := Op.move (Operand.tmp 13), type := 3, pos := "nets.go:377", after := #[], guard := none }) (v := ?_) rfl (by kernel_rfl) (by kernel_rfl) (by kernel_rfl) (fun _ _ _ h => h) (Or.inl ⟨by rfl, ?_⟩) hHeld ?_
            rotate_left
            · (intro w hSw; (try dsimp only at hSw); go_simp; first | done | with_reducible rfl)
            simp only [Act.put, List.setIfInBounds_toArray, List.set_cons_zero, List.set_cons_succ]
            refine wpAnyH_take (i := 2) (oi := { dst := some 74, op := Op.indexAddr 22 (Operand.tmp 72) (Operand.tmp 73), type := 0, pos := "nets.go:377", after := #[{ on := 0, ground := Ground.data }, { on := 1, ground := Ground.data }], guard := none }) (v := ?_) rfl (by kernel_rfl) (by kernel_rfl) (by kernel_rfl) (fun _ _ _ h => h) (Or.inl ⟨by rfl, ?_⟩) hHeld ?_
            rotate_left
            · (intro w hSw; (try dsimp only at hSw); go_simp; first | done | with_reducible rfl)
            simp only [Act.put, List.setIfInBounds_toArray, List.set_cons_zero, List.set_cons_succ]
            refine wpAnyH_take (i := 3) (oi := { dst := some 75, op := Op.load 30 (Operand.tmp 74), type := 30, pos := "nets.go:377", after := #[{ on := 2, ground := Ground.data }], guard := none }) (v := ?_) rfl (by kernel_rfl) (by kernel_rfl) (by kernel_rfl) (fun _ _ _ h => h) (Or.inl ⟨by rfl, ?_⟩) hHeld ?_
            rotate_left
            · (intro w hSw; (try dsimp only at hSw); go_simp; first | done | with_reducible rfl)
            simp only [Act.put, List.setIfInBounds_toArray, List.set_cons_zero, List.set_cons_succ]
            refine wpAnyH_take (i := 4) (oi := { dst := some 76, op := Op.move (Operand.tmp 1), type := 23, pos := "nets.go:377", after := #[], guard := none }) (v := ?_) rfl (by kernel_rfl) (by kernel_rfl) (by kernel_rfl) (fun _ _ _ h => h) (Or.inl ⟨by rfl, ?_⟩) hHeld ?_
            rotate_left
            · (intro w hSw; (try dsimp only at hSw); go_simp; first | done | with_reducible rfl)
            simp only [Act.put, List.setIfInBounds_toArray, List.set_cons_zero, List.set_cons_succ]
            refine wpAnyH_ready (rs := [5]) (by kernel_rfl) (by simp) ?_
            refine AllReadyH.cons (o := { dst := some 77, op := Op.call { callee := Callee.value (Operand.func 9), args := #[Operand.tmp 75, Operand.tmp 76], argTypes := #[30, 23] }, type := 4, pos := "nets.go:377", after := #[{ on := 3, ground := Ground.data }, { on := 4, ground := Ground.data }], guard := none }) rfl (fun K hK => ?_) AllReadyH.nil
            go_simp
            go_at_call 9
            refine (has_any n.1 n.2 a ha _).mono ?_
            rintro e w9 ⟨rfl, hb9⟩
            have KK0 := heldN hHeld hb9; clear hHeld hb9
            rw [HH.out]
            go_wp2_with fail
            refine hK.out _ _ KK0 (fun hHeld => ?_)
            clear hK K
            refine wpAnyH_take (i := 6) (oi := { dst := some 78, op := Op.move (Operand.tmp 77), type := 4, pos := "nets.go:377", after := #[{ on := 5, ground := Ground.data }, { on := 5, ground := Ground.chain }], guard := none }) (v := ?_) rfl (by kernel_rfl) (by kernel_rfl) (by kernel_rfl) (fun _ _ _ h => h) (Or.inl ⟨by rfl, ?_⟩) hHeld ?_
            rotate_left
            · (intro w hSw; (try dsimp only at hSw); go_simp; first | done | with_reducible rfl)
            simp only [Act.put, List.setIfInBounds_toArray, List.set_cons_zero, List.set_cons_succ]
            refine wpAnyH_take (i := 7) (oi := { dst := some 79, op := Op.move (Operand.tmp 9), type := 27, pos := "nets.go:377", after := #[{ on := 6, ground := Ground.guard }], guard := some (6, true) }) (v := undef) rfl (by kernel_rfl) (by kernel_rfl) (by kernel_rfl) (fun _ _ _ h => h) (Or.inr ⟨by rfl, rfl⟩) hHeld ?_
            simp only [Act.put, List.setIfInBounds_toArray, List.set_cons_zero, List.set_cons_succ]
            refine wpAnyH_take (i := 8) (oi := { dst := some 80, op := Op.binOp BinOp.neq 27 (Operand.tmp 79) (Operand.const Value.nilIface) 27, type := 4, pos := "nets.go:377", after := #[{ on := 7, ground := Ground.data }, { on := 6, ground := Ground.guard }], guard := some (6, true) }) (v := undef) rfl (by kernel_rfl) (by kernel_rfl) (by kernel_rfl) (fun _ _ _ h => h) (Or.inr ⟨by rfl, rfl⟩) hHeld ?_
            simp only [Act.put, List.setIfInBounds_toArray, List.set_cons_zero, List.set_cons_succ]
            refine wpAnyH_take (i := 9) (oi := { dst := some 81, op := Op.move (Operand.tmp 80), type := 4, pos := "nets.go:377", after := #[{ on := 8, ground := Ground.data }, { on := 6, ground := Ground.chain }, { on := 6, ground := Ground.guard }], guard := some (6, true) }) (v := undef) rfl (by kernel_rfl) (by kernel_rfl) (by kernel_rfl) (fun _ _ _ h => h) (Or.inr ⟨by rfl, rfl⟩) hHeld ?_
            simp only [Act.put, List.setIfInBounds_toArray, List.set_cons_zero, List.set_cons_succ]
            refine wpAnyH_take (i := 10) (oi := { dst := some 82, op := Op.move (Operand.tmp 12), type := 22, pos := "nets.go:377", after := #[{ on := 9, ground := Ground.guard }], guard := some (9, false) }) (v := undef) rfl (by kernel_rfl) (by kernel_rfl) (by kernel_rfl) (fun _ _ _ h => h) (Or.inr ⟨by rfl, rfl⟩) hHeld ?_
            simp only [Act.put, List.setIfInBounds_toArray, List.set_cons_zero, List.set_cons_succ]
            refine wpAnyH_take (i := 11) (oi := { dst := some 83, op := Op.move (Operand.tmp 13), type := 3, pos := "nets.go:377", after := #[{ on := 9, ground := Ground.guard }], guard := some (9, false) }) (v := undef) rfl (by kernel_rfl) (by kernel_rfl) (by kernel_rfl) (fun _ _ _ h => h) (Or.inr ⟨by rfl, rfl⟩) hHeld ?_
            simp only [Act.put, List.setIfInBounds_toArray, List.set_cons_zero, List.set_cons_succ]
            refine wpAnyH_take (i := 12) (oi := { dst := some 84, op := Op.indexAddr 22 (Operand.tmp 82) (Operand.tmp 83), type := 0, pos := "nets.go:377", after := #[{ on := 10, ground := Ground.data }, { on := 11, ground := Ground.data }, { on := 9, ground := Ground.guard }], guard := some (9, false) }) (v := undef) rfl (by kernel_rfl) (by kernel_rfl) (by kernel_rfl) (fun _ _ _ h => h) (Or.inr ⟨by rfl, rfl⟩) hHeld ?_
            simp only [Act.put, List.setIfInBounds_toArray, List.set_cons_zero, List.set_cons_succ]
            refine wpAnyH_take (i := 13) (oi := { dst := some 85, op := Op.fieldAddr 30 (Operand.tmp 84) 1, type := 0, pos := "nets.go:377", after := #[{ on := 12, ground := Ground.data }, { on := 9, ground := Ground.guard }], guard := some (9, false) }) (v := undef) rfl (by kernel_rfl) (by kernel_rfl) (by kernel_rfl) (fun _ _ _ h => h) (Or.inr ⟨by rfl, rfl⟩) hHeld ?_
            simp only [Act.put, List.setIfInBounds_toArray, List.set_cons_zero, List.set_cons_succ]
            refine wpAnyH_take (i := 14) (oi := { dst := some 86, op := Op.load 3 (Operand.tmp 85), type := 3, pos := "nets.go:377", after := #[{ on := 13, ground := Ground.data }, { on := 9, ground := Ground.guard }], guard := some (9, false) }) (v := undef) rfl (by kernel_rfl) (by kernel_rfl) (by kernel_rfl) (fun _ _ _ h => h) (Or.inr ⟨by rfl, rfl⟩) hHeld ?_
            simp only [Act.put, List.setIfInBounds_toArray, List.set_cons_zero, List.set_cons_succ]
            refine wpAnyH_take (i := 15) (oi := { dst := some 87, op := Op.fieldAddr 30 (Operand.tmp 7) 1, type := 0, pos := "nets.go:377", after := #[{ on := 9, ground := Ground.guard }], guard := some (9, false) }) (v := undef) rfl (by kernel_rfl) (by kernel_rfl) (by kernel_rfl) (fun _ _ _ h => h) (Or.inr ⟨by rfl, rfl⟩) hHeld ?_
            simp only [Act.put, List.setIfInBounds_toArray, List.set_cons_zero, List.set_cons_succ]
            refine wpAnyH_take (i := 16) (oi := { dst := some 88, op := Op.load 3 (Operand.tmp 87), type := 3, pos := "nets.go:377", after := #[{ on := 15, ground := Ground.data }, { on := 9, ground := Ground.guard }], guard := some (9, false) }) (v := undef) rfl (by kernel_rfl) (by kernel_rfl) (by kernel_rfl) (fun _ _ _ h => h) (Or.inr ⟨by rfl, rfl⟩) hHeld ?_
            simp only [Act.put, List.setIfInBounds_toArray, List.set_cons_zero, List.set_cons_succ]
            refine wpAnyH_take (i := 17) (oi := { dst := some 89, op := Op.binOp BinOp.gtr 3 (Operand.tmp 86) (Operand.tmp 88) 3, type := 4, pos := "nets.go:377", after := #[{ on := 14, ground := Ground.data }, { on := 16, ground := Ground.data }, { on := 9, ground := Ground.guard }], guard := some (9, false) }) (v := undef) rfl (by kernel_rfl) (by kernel_rfl) (by kernel_rfl) (fun _ _ _ h => h) (Or.inr ⟨by rfl, rfl⟩) hHeld ?_
            simp only [Act.put, List.setIfInBounds_toArray, List.set_cons_zero, List.set_cons_succ]
            refine wpAnyH_take (i := 18) (oi := { dst := some 90, op := Op.pick (Operand.tmp 81) (Operand.const (Value.bool true)) (Operand.tmp 89), type := 4, pos := "nets.go:377", after := #[{ on := 9, ground := Ground.data }, { on := 17, ground := Ground.data }, { on := 6, ground := Ground.guard }], guard := some (6, true) }) (v := undef) rfl (by kernel_rfl) (by kernel_rfl) (by kernel_rfl) (fun _ _ _ h => h) (Or.inr ⟨by rfl, rfl⟩) hHeld ?_
            simp only [Act.put, List.setIfInBounds_toArray, List.set_cons_zero, List.set_cons_succ]
            refine wpAnyH_take (i := 19) (oi := { dst := some 91, op := Op.pick (Operand.tmp 78) (Operand.tmp 90) (Operand.const (Value.bool false)), type := 4, pos := "nets.go:377", after := #[{ on := 6, ground := Ground.data }, { on := 18, ground := Ground.data }], guard := none }) (v := ?_) rfl (by kernel_rfl) (by kernel_rfl) (by kernel_rfl) (fun _ _ _ h => h) (Or.inl ⟨by rfl, ?_⟩) hHeld ?_
            rotate_left
            · (intro w hSw; (try dsimp only at hSw); go_simp; first | done | with_reducible rfl)
            simp only [Act.put, List.setIfInBounds_toArray, List.set_cons_zero, List.set_cons_succ]
            refine wpAnyH_done (by kernel_rfl) ?_ _
            have HB12 := Lib.hid hHeld.2.2.2
            clear hHeld H s0
            go_wp2_with fail
            go_roundw
            case rel => exact ⟨k + 1, by go_num, by omega, HB12⟩
            case measure => simp [RowKit.intOf]; omega
          · go_wp2_with fail
            refine (put_any wr S w.heap.size f L ((a, (32 : Int)) : Nt) 7 ha (T8.out.below HB9.out)).mono ?_
            rintro e w10 ⟨rfl, ⟨L10, T10⟩, K10⟩
            have B10 : Below w.heap.size w w10 := (Below.two B8.out HB9.out).trans (K10.below HS.out (Below.two B8.out HB9.out).size)
            clear K10
            by_cases h64 : f ((a, (32 : Int)) : Nt) = none ∧ 64 ≤ L.length
            · have hE : putE f L ((a, (32 : Int)) : Nt) = 4 := by unfold putE; rw [if_pos (chk32 a ha), if_pos h64]
              have hL : L.length = 64 := by omega
              rw [hE, show errV 4 = .iface 50 (.int .i64 4) from rfl]
              have HT10 := Lib.hid T10
              clear T10 h64 hE
              go_wp2_with fail
              refine (find_any w10 _ w.heap.size _ L10 a ha HT10.out).mono ?_
              rintro e w11 ⟨q, rfl, hF, b11⟩
              cases q with
              | none =>
                clear hF
                unfold foundV
                go_wp2_with fail
                go_ret
                exact ⟨by simp, (Below.two B10 b11).alloc (Below.two B10 b11).size _⟩
              | some q =>
                obtain ⟨q1, q2⟩ := q
                clear hF
                unfold foundV
                go_wp2_with fail
                go_ret
                exact ⟨by simp, (Below.two B10 b11).alloc (Below.two B10 b11).size _⟩
            · have hE : putE f L ((a, (32 : Int)) : Nt) = 0 := by unfold putE; rw [if_pos (chk32 a ha), if_neg h64]
              have hF0 : putF f L ((a, (32 : Int)) : Nt) 7 = setF f ((a, (32 : Int)) : Nt) (some 7) := if_pos hE
              rw [hF0] at T10
              rw [hE, errV_zero]
              have HT10 := Lib.hid T10
              clear T10 h64 hE hF0
              go_wp2_with fail
              refine (find_any w10 _ w.heap.size _ L10 a ha HT10.out).mono ?_
              rintro e w11 ⟨q, rfl, hF, b11⟩
              obtain rfl : q = some (32, 7) := hF.only (fun _ => rfl) (fnd32 f a ha 7)
              clear hF
              unfold foundV
              simp only [PrefP.cut_all a ha]
              go_wp2_with fail
              go_ret
              exact ⟨by simp, (Below.two B10 b11).alloc (Below.two B10 b11).size _⟩
      | some q =>
        obtain ⟨j, z⟩ := q
        unfold foundV
        go_wp2_with fail
        have bx := Box.new w5 (.int .u32 (PrefP.cut a j : Int)) (.int .i64 j) 30
        have bb : Below w5.heap.size w5 (w5.alloc (.cells #[.int .u32 (PrefP.cut a j : Int), .int .i64 j] 30)) := (Below.refl _ _).alloc (Nat.le_refl _) _
        generalize w5.alloc (.cells #[.int .u32 (PrefP.cut a j : Int), .int .i64 j] 30) = w6 at *
        have T6 := Lib.hid (T5.out.below bb); have B6 := Lib.hid (Below.two B5.out bb); have HX6 := Lib.hid bx
        clear bx bb T5 B5
        refine (get_any w6 S w.heap.size f L ((PrefP.cut a j, (j : Int)) : Nt) (PrefP.cut_lt a j) T6.out).mono ?_
        rintro e w7 ⟨rfl, b7⟩
        have hG : getE f ((PrefP.cut a j, (j : Int)) : Nt) = 0 := by
          unfold getE
          rw [if_pos (T6.out.ok _ _ HF.out.2.1).2, if_neg (by rw [HF.out.2.1]; simp)]
        rw [hG, if_pos rfl, HF.out.2.1, errV_zero, Option.getD_some]
        have T7 := Lib.hid (T6.out.below b7); have B7 := Lib.hid (Below.two B6.out b7); have HX7 := Lib.hid (HX6.out.kept b7)
        clear b7 T6 B6 HX6 hG
        have c0 := HX7.out.c0
        have c1 := HX7.out.c1
        go_wp2_with fail
        refine (has_any (PrefP.cut a j) (j : Int) a ha _).mono ?_
        rintro e w7' ⟨rfl, b7⟩
        rw [show PrefP.has (PrefP.cut a j) (j : Int) a = true from (PrefP.has_iff _ _ _).2 ⟨j, rfl, HF.out.1, rfl⟩]
        have T7' := Lib.hid (T7.out.below b7); have B7' := Lib.hid (Below.two B7.out b7); have HX7' := Lib.hid (HX7.out.kept b7)
        clear b7 T7 B7 HX7 c0 c1
        go_wp2_with fail
        refine (list_any w7' S w.heap.size f L T7'.out).mono ?_
        rintro e w8 ⟨v8, rfl, o8, b8⟩
        have T8 := Lib.hid (T7'.out.below b8); have B8 := Lib.hid (Below.two B7'.out b8); have HBX := Lib.hid (HX7'.out.kept b8); have O8 := Lib.hid o8
        clear o8 b8 T7' B7' HX7'
        obtain ⟨p8, c8, rfl, hA8⟩ := O8.out.arg
        have HA8 := Lib.hid hA8; clear hA8
        have hfew := T8.out.few
        go_wp2_with fail
        go_loopw [13] (fun s13 wr => ∃ k : Nat, s13 = .int .i64 k ∧ k ≤ L.length ∧ Hid (Below w8.heap.size w8 wr)) (fun s13 _ => L.length - (RowKit.intOf s13).toNat)
        case atStart => exact ⟨0, rfl, Nat.zero_le _, Lib.hid (Below.refl _ _)⟩
        case round =>
          obtain ⟨k, rfl, hk, HB9⟩ := hrel
          by_cases hkn : k < L.length
          · obtain ⟨b, off, hp, hlt, hs⟩ : ∃ b off, p8 = some ⟨b, off, none⟩ ∧ b < w8.heap.size ∧ Seen w8 b off L := by
              rcases HA8.out with h | h
              · rw [h] at hkn; simp at hkn
              · exact h
            subst hp
            have sw := hs.below HB9.out hlt
            have s0 : wr.cell? ⟨b, off + k * 2, none⟩ = some (.int .u32 (L[k]!.1 : Int)) := sw.c0 k hkn
            have s1 : wr.cell? ⟨b, off + k * 2 + 1, none⟩ = some (.int .i64 L[k]!.2) := sw.c1 k hkn
            have s2 : wr.cell? ⟨w5.heap.size, 1, none⟩ = some (.int .i64 j) := (HBX.out.kept HB9.out).c1
            have hin : L[k]! ∈ L := by rw [getElem!_pos L k hkn]; exact List.getElem_mem hkn
            obtain ⟨zn, hzn⟩ := (T8.out.mem _).1 hin
            generalize L[k]! = n at s0 s1 hzn
            have HZ := Lib.hid hzn
            have HS : Hid (wr.cell? ⟨b, off + k * 2, none⟩ = some (.int .u32 (n.1 : Int)) ∧ wr.cell? ⟨b, off + k * 2 + 1, none⟩ = some (.int .i64 n.2) ∧ wr.cell? ⟨w5.heap.size, 1, none⟩ = some (.int .i64 j) ∧ Below w8.heap.size w8 wr) := Lib.hid ⟨s0, s1, s2, HB9.out⟩
            clear sw hs s0 s1 s2 hin hzn
            cases hH : PrefP.has n.1 n.2 a with
            | false =>
              have HH := Lib.hid hH; clear hH
              have H := HS.out; have s0 := H.1; clear HS
              go_wp2_with fail
              refine wp_region_held_drew (S := (fun w' => w'.cell? ⟨b, off + k * 2, none⟩ = some (.int .u32 (n.1 : Int)) ∧ w'.cell? ⟨b, off + k * 2 + 1, none⟩ = some (.int .i64 n.2) ∧ w'.cell? ⟨w5.heap.size, 1, none⟩ = some (.int .i64 j) ∧ Below w8.heap.size w8 w')) (by kernel_rfl) ⟨H.1, H.2.1, H.2.2.1, H.2.2.2.drew⟩ (fun hHeld => ?_)
              refine wpAnyH_take (i := 0) (oi := { dst := some 72, op := Op.move (Operand.tmp 12), type := 22, pos := "nets.go:377", after := #[], guard := none }) (v := ?_) rfl (by kernel_rfl) (by kernel_rfl) (by kernel_rfl) (fun _ _ _ h => h) (Or.inl ⟨by rfl, ?_⟩) hHeld ?_
              rotate_left
              · (intro w hSw; (try dsimp only at hSw); go_simp; first | done | with_reducible rfl)
              simp only [Act.put, List.setIfInBounds_toArray, List.set_cons_zero, List.set_cons_succ]
              refine wpAnyH_take (i := 1) (oi := { dst := some 73, op := Op.move (Operand.tmp 13), type := 3, pos := "nets.go:377", after := #[], guard := none }) (v := ?_) rfl (by kernel_rfl) (by kernel_rfl) (by kernel_rfl) (fun _ _ _ h => h) (Or.inl ⟨by rfl, ?_⟩) hHeld ?_
              rotate_left
              · (intro w hSw; (try dsimp only at hSw); go_simp; first | done | with_reducible rfl)
              simp only [Act.put, List.setIfInBounds_toArray, List.set_cons_zero, List.set_cons_succ]
              refine wpAnyH_take (i := 2) (oi := { dst := some 74, op := Op.indexAddr 22 (Operand.tmp 72) (Operand.tmp 73), type := 0, pos := "nets.go:377", after := #[{ on := 0, ground := Ground.data }, { on := 1, ground := Ground.data }], guard := none }) (v := ?_) rfl (by kernel_rfl) (by kernel_rfl) (by kernel_rfl) (fun _ _ _ h => h) (Or.inl ⟨by rfl, ?_⟩) hHeld ?_
              rotate_left
              · (intro w hSw; (try dsimp only at hSw); go_simp; first | done | with_reducible rfl)
              simp only [Act.put, List.setIfInBounds_toArray, List.set_cons_zero, List.set_cons_succ]
              refine wpAnyH_take (i := 3) (oi := { dst := some 75, op := Op.load 30 (Operand.tmp 74), type := 30, pos := "nets.go:377", after := #[{ on := 2, ground := Ground.data }], guard := none }) (v := ?_) rfl (by kernel_rfl) (by kernel_rfl) (by kernel_rfl) (fun _ _ _ h => h) (Or.inl ⟨by rfl, ?_⟩) hHeld ?_
              rotate_left
              · (intro w hSw; (try dsimp only at hSw); go_simp; first | done | with_reducible rfl)
              simp only [Act.put, List.setIfInBounds_toArray, List.set_cons_zero, List.set_cons_succ]
              refine wpAnyH_take (i := 4) (oi := { dst := some 76, op := Op.move (Operand.tmp 1), type := 23, pos := "nets.go:377", after := #[], guard := none }) (v := ?_) rfl (by kernel_rfl) (by kernel_rfl) (by kernel_rfl) (fun _ _ _ h => h) (Or.inl ⟨by rfl, ?_⟩) hHeld ?_
              rotate_left
              · (intro w hSw; (try dsimp only at hSw); go_simp; first | done | with_reducible rfl)
              simp only [Act.put, List.setIfInBounds_toArray, List.set_cons_zero, List.set_cons_succ]
              refine wpAnyH_ready (rs := [5]) (by kernel_rfl) (by simp) ?_
              refine AllReadyH.cons (o := { dst := some 77, op := Op.call { callee := Callee.value (Operand.func 9), args := #[Operand.tmp 75, Operand.tmp 76], argTypes := #[30, 23] }, type := 4, pos := "nets.go:377", after := #[{ on := 3, ground := Ground.data }, { on := 4, ground := Ground.data }], guard := none }) rfl (fun K hK => ?_) AllReadyH.nil
              go_simp
              go_at_call 9
              refine (has_any n.1 n.2 a ha _).mono ?_
              rintro e w9 ⟨rfl, hb9⟩
              have KK0 := heldN hHeld hb9; clear hHeld hb9
              rw [HH.out]
              go_wp2_with fail
              refine hK.out _ _ KK0 (fun hHeld => ?_)
              clear hK K
              refine wpAnyH_take (i := 6) (oi := { dst := some 78, op := Op.move (Operand.tmp 77), type := 4, pos := "nets.go:377", after := #[{ on := 5, ground := Ground.data }, { on := 5, ground := Ground.chain }], guard := none }) (v := ?_) rfl (by kernel_rfl) (by kernel_rfl) (by kernel_rfl) (fun _ _ _ h => h) (Or.inl ⟨by rfl, ?_⟩) hHeld ?_
              rotate_left
              · (intro w hSw; (try dsimp only at hSw); go_simp; first | done | with_reducible rfl)
              simp only [Act.put, List.setIfInBounds_toArray, List.set_cons_zero, List.set_cons_succ]
              refine wpAnyH_take (i := 7) (oi := { dst := some 79, op := Op.move (Operand.tmp 9), type := 27, pos := "nets.go:377", after := #[{ on := 6, ground := Ground.guard }], guard := some (6, true) }) (v := undef) rfl (by kernel_rfl) (by kernel_rfl) (by kernel_rfl) (fun _ _ _ h => h) (Or.inr ⟨by rfl, rfl⟩) hHeld ?_
              simp only [Act.put, List.setIfInBounds_toArray, List.set_cons_zero, List.set_cons_succ]
              refine wpAnyH_take (i := 8) (oi := { dst := some 80, op := Op.binOp BinOp.neq 27 (Operand.tmp 79) (Operand.const Value.nilIface) 27, type := 4, pos := "nets.go:377", after := #[{ on := 7, ground := Ground.data }, { on := 6, ground := Ground.guard }], guard := some (6, true) }) (v := undef) rfl (by kernel_rfl) (by kernel_rfl) (by kernel_rfl) (fun _ _ _ h => h) (Or.inr ⟨by rfl, rfl⟩) hHeld ?_
              simp only [Act.put, List.setIfInBounds_toArray, List.set_cons_zero, List.set_cons_succ]
              refine wpAnyH_take (i := 9) (oi := { dst := some 81, op := Op.move (Operand.tmp 80), type := 4, pos := "nets.go:377", after := #[{ on := 8, ground := Ground.data }, { on := 6, ground := Ground.chain }, { on := 6, ground := Ground.guard }], guard := some (6, true) }) (v := undef) rfl (by kernel_rfl) (by kernel_rfl) (by kernel_rfl) (fun _ _ _ h => h) (Or.inr ⟨by rfl, rfl⟩) hHeld ?_
              simp only [Act.put, List.setIfInBounds_toArray, List.set_cons_zero, List.set_cons_succ]
              refine wpAnyH_take (i := 10) (oi := { dst := some 82, op := Op.move (Operand.tmp 12), type := 22, pos := "nets.go:377", after := #[{ on := 9, ground := Ground.guard }], guard := some (9, false) }) (v := undef) rfl (by kernel_rfl) (by kernel_rfl) (by kernel_rfl) (fun _ _ _ h => h) (Or.inr ⟨by rfl, rfl⟩) hHeld ?_
              simp only [Act.put, List.setIfInBounds_toArray, List.set_cons_zero, List.set_cons_succ]
              refine wpAnyH_take (i := 11) (oi := { dst := some 83, op := Op.move (Operand.tmp 13), type := 3, pos := "nets.go:377", after := #[{ on := 9, ground := Ground.guard }], guard := some (9, false) }) (v := undef) rfl (by kernel_rfl) (by kernel_rfl) (by kernel_rfl) (fun _ _ _ h => h) (Or.inr ⟨by rfl, rfl⟩) hHeld ?_
              simp only [Act.put, List.setIfInBounds_toArray, List.set_cons_zero, List.set_cons_succ]
              refine wpAnyH_take (i := 12) (oi := { dst := some 84, op := Op.indexAddr 22 (Operand.tmp 82) (Operand.tmp 83), type := 0, pos := "nets.go:377", after := #[{ on := 10, ground := Ground.data }, { on := 11, ground := Ground.data }, { on := 9, ground := Ground.guard }], guard := some (9, false) }) (v := undef) rfl (by kernel_rfl) (by kernel_rfl) (by kernel_rfl) (fun _ _ _ h => h) (Or.inr ⟨by rfl, rfl⟩) hHeld ?_
              simp only [Act.put, List.setIfInBounds_toArray, List.set_cons_zero, List.set_cons_succ]
              refine wpAnyH_take (i := 13) (oi := { dst := some 85, op := Op.fieldAddr 30 (Operand.tmp 84) 1, type := 0, pos := "nets.go:377", after := #[{ on := 12, ground := Ground.data }, { on := 9, ground := Ground.guard }], guard := some (9, false) }) (v := undef) rfl (by kernel_rfl) (by kernel_rfl) (by kernel_rfl) (fun _ _ _ h => h) (Or.inr ⟨by rfl, rfl⟩) hHeld ?_
              simp only [Act.put, List.setIfInBounds_toArray, List.set_cons_zero, List.set_cons_succ]
              refine wpAnyH_take (i := 14) (oi := { dst := some 86, op := Op.load 3 (Operand.tmp 85), type := 3, pos := "nets.go:377", after := #[{ on := 13, ground := Ground.data }, { on := 9, ground := Ground.guard }], guard := some (9, false) }) (v := undef) rfl (by kernel_rfl) (by kernel_rfl) (by kernel_rfl) (fun _ _ _ h => h) (Or.inr ⟨by rfl, rfl⟩) hHeld ?_
              simp only [Act.put, List.setIfInBounds_toArray, List.set_cons_zero, List.set_cons_succ]
              refine wpAnyH_take (i := 15) (oi := { dst := some 87, op := Op.fieldAddr 30 (Operand.tmp 7) 1, type := 0, pos := "nets.go:377", after := #[{ on := 9, ground := Ground.guard }], guard := some (9, false) }) (v := undef) rfl (by kernel_rfl) (by kernel_rfl) (by kernel_rfl) (fun _ _ _ h => h) (Or.inr ⟨by rfl, rfl⟩) hHeld ?_
              simp only [Act.put, List.setIfInBounds_toArray, List.set_cons_zero, List.set_cons_succ]
              refine wpAnyH_take (i := 16) (oi := { dst := some 88, op := Op.load 3 (Operand.tmp 87), type := 3, pos := "nets.go:377", after := #[{ on := 15, ground := Ground.data }, { on := 9, ground := Ground.guard }], guard := some (9, false) }) (v := undef) rfl (by kernel_rfl) (by kernel_rfl) (by kernel_rfl) (fun _ _ _ h => h) (Or.inr ⟨by rfl, rfl⟩) hHeld ?_
              simp only [Act.put, List.setIfInBounds_toArray, List.set_cons_zero, List.set_cons_succ]
              refine wpAnyH_take (i := 17) (oi := { dst := some 89, op := Op.binOp BinOp.gtr 3 (Operand.tmp 86) (Operand.tmp 88) 3, type := 4, pos := "nets.go:377", after := #[{ on := 14, ground := Ground.data }, { on := 16, ground := Ground.data }, { on := 9, ground := Ground.guard }], guard := some (9, false) }) (v := undef) rfl (by kernel_rfl) (by kernel_rfl) (by kernel_rfl) (fun _ _ _ h => h) (Or.inr ⟨by rfl, rfl⟩) hHeld ?_
              simp only [Act.put, List.setIfInBounds_toArray, List.set_cons_zero, List.set_cons_succ]
              refine wpAnyH_take (i := 18) (oi := { dst := some 90, op := Op.pick (Operand.tmp 81) (Operand.const (Value.bool true)) (Operand.tmp 89), type := 4, pos := "nets.go:377", after := #[{ on := 9, ground := Ground.data }, { on := 17, ground := Ground.data }, { on := 6, ground := Ground.guard }], guard := some (6, true) }) (v := undef) rfl (by kernel_rfl) (by kernel_rfl) (by kernel_rfl) (fun _ _ _ h => h) (Or.inr ⟨by rfl, rfl⟩) hHeld ?_
              simp only [Act.put, List.setIfInBounds_toArray, List.set_cons_zero, List.set_cons_succ]
              refine wpAnyH_take (i := 19) (oi := { dst := some 91, op := Op.pick (Operand.tmp 78) (Operand.tmp 90) (Operand.const (Value.bool false)), type := 4, pos := "nets.go:377", after := #[{ on := 6, ground := Ground.data }, { on := 18, ground := Ground.data }], guard := none }) (v := ?_) rfl (by kernel_rfl) (by kernel_rfl) (by kernel_rfl) (fun _ _ _ h => h) (Or.inl ⟨by rfl, ?_⟩) hHeld ?_
              rotate_left
              · (intro w hSw; (try dsimp only at hSw); go_simp; first | done | with_reducible rfl)
              simp only [Act.put, List.setIfInBounds_toArray, List.set_cons_zero, List.set_cons_succ]
              refine wpAnyH_done (by kernel_rfl) ?_ _
              have HB12 := Lib.hid hHeld.2.2.2
              clear hHeld H s0
              go_wp2_with fail
              go_roundw
              case rel => exact ⟨k + 1, by go_num, by omega, HB12⟩
              case measure => simp [RowKit.intOf]; omega
            | true =>
              have HH := Lib.hid hH
              have hle : n.2 ≤ (j : Int) := HF.out.2.2 n hH (by rw [HZ.out]; simp)
              clear hH
              have H := HS.out; have s0 := H.1; clear HS
              go_wp2_with fail
              refine wp_region_held_drew (S := (fun w' => w'.cell? ⟨b, off + k * 2, none⟩ = some (.int .u32 (n.1 : Int)) ∧ w'.cell? ⟨b, off + k * 2 + 1, none⟩ = some (.int .i64 n.2) ∧ w'.cell? ⟨w5.heap.size, 1, none⟩ = some (.int .i64 j) ∧ Below w8.heap.size w8 w')) (by kernel_rfl) ⟨H.1, H.2.1, H.2.2.1, H.2.2.2.drew⟩ (fun hHeld => ?_)
              refine wpAnyH_take (i := 0) (oi := { dst := some 72, op := Op.move (Operand.tmp 12), type := 22, pos := "nets.go:377", after := #[], guard := none }) (v := ?_) rfl (by kernel_rfl) (by kernel_rfl) (by kernel_rfl) (fun _ _ _ h => h) (Or.inl ⟨by rfl, ?_⟩) hHeld ?_
              rotate_left
              · (intro w hSw; (try dsimp only at hSw); go_simp; first | done | with_reducible rfl)
              simp only [Act.put, List.setIfInBounds_toArray, List.set_cons_zero, List.set_cons_succ]
              refine wpAnyH_take (i := 1) (oi := { dst := some 73, op := Op.move (Operand.tmp 13), type := 3, pos := "nets.go:377", after := #[], guard := none }) (v := ?_) rfl (by kernel_rfl) (by kernel_rfl) (by kernel_rfl) (fun _ _ _ h => h) (Or.inl ⟨by rfl, ?_⟩) hHeld ?_
              rotate_left
              · (intro w hSw; (try dsimp only at hSw); go_simp; first | done | with_reducible rfl)
              simp only [Act.put, List.setIfInBounds_toArray, List.set_cons_zero, List.set_cons_succ]
              refine wpAnyH_take (i := 2) (oi := { dst := some 74, op := Op.indexAddr 22 (Operand.tmp 72) (Operand.tmp 73), type := 0, pos := "nets.go:377", after := #[{ on := 0, ground := Ground.data }, { on := 1, ground := Ground.data }], guard := none }) (v := ?_) rfl (by kernel_rfl) (by kernel_rfl) (by kernel_rfl) (fun _ _ _ h => h) (Or.inl ⟨by rfl, ?_⟩) hHeld ?_
              rotate_left
              · (intro w hSw; (try dsimp only at hSw); go_simp; first | done | with_reducible rfl)
              simp only [Act.put, List.setIfInBounds_toArray, List.set_cons_zero, List.set_cons_succ]
              refine wpAnyH_take (i := 3) (oi := { dst := some 75, op := Op.load 30 (Operand.tmp 74), type := 30, pos := "nets.go:377", after := #[{ on := 2, ground := Ground.data }], guard := none }) (v := ?_) rfl (by kernel_rfl) (by kernel_rfl) (by kernel_rfl) (fun _ _ _ h => h) (Or.inl ⟨by rfl, ?_⟩) hHeld ?_
              rotate_left
              · (intro w hSw; (try dsimp only at hSw); go_simp; first | done | with_reducible rfl)
              simp only [Act.put, List.setIfInBounds_toArray, List.set_cons_zero, List.set_cons_succ]
              refine wpAnyH_take (i := 4) (oi := { dst := some 76, op := Op.move (Operand.tmp 1), type := 23, pos := "nets.go:377", after := #[], guard := none }) (v := ?_) rfl (by kernel_rfl) (by kernel_rfl) (by kernel_rfl) (fun _ _ _ h => h) (Or.inl ⟨by rfl, ?_⟩) hHeld ?_
              rotate_left
              · (intro w hSw; (try dsimp only at hSw); go_simp; first | done | with_reducible rfl)
              simp only [Act.put, List.setIfInBounds_toArray, List.set_cons_zero, List.set_cons_succ]
              refine wpAnyH_ready (rs := [5]) (by kernel_rfl) (by simp) ?_
              refine AllReadyH.cons (o := { dst := some 77, op := Op.call { callee := Callee.value (Operand.func 9), args := #[Operand.tmp 75, Operand.tmp 76], argTypes := #[30, 23] }, type := 4, pos := "nets.go:377", after := #[{ on := 3, ground := Ground.data }, { on := 4, ground := Ground.data }], guard := none }) rfl (fun K hK => ?_) AllReadyH.nil
              go_simp
              go_at_call 9
              refine (has_any n.1 n.2 a ha _).mono ?_
              rintro e w9 ⟨rfl, hb9⟩
              have KK0 := heldN hHeld hb9; clear hHeld hb9
              rw [HH.out]
              go_wp2_with fail
              refine hK.out _ _ KK0 (fun hHeld => ?_)
              clear hK K
              refine wpAnyH_take (i := 6) (oi := { dst := some 78, op := Op.move (Operand.tmp 77), type := 4, pos := "nets.go:377", after := #[{ on := 5, ground := Ground.data }, { on := 5, ground := Ground.chain }], guard := none }) (v := ?_) rfl (by kernel_rfl) (by kernel_rfl) (by kernel_rfl) (fun _ _ _ h => h) (Or.inl ⟨by rfl, ?_⟩) hHeld ?_
              rotate_left
              · (intro w hSw; (try dsimp only at hSw); go_simp; first | done | with_reducible rfl)
              simp only [Act.put, List.setIfInBounds_toArray, List.set_cons_zero, List.set_cons_succ]
              refine wpAnyH_take (i := 7) (oi := { dst := some 79, op := Op.move (Operand.tmp 9), type := 27, pos := "nets.go:377", after := #[{ on := 6, ground := Ground.guard }], guard := some (6, true) }) (v := ?_) rfl (by kernel_rfl) (by kernel_rfl) (by kernel_rfl) (fun _ _ _ h => h) (Or.inl ⟨by rfl, ?_⟩) hHeld ?_
              rotate_left
              · (intro w hSw; (try dsimp only at hSw); go_simp; first | done | with_reducible rfl)
              simp only [Act.put, List.setIfInBounds_toArray, List.set_cons_zero, List.set_cons_succ]
              refine wpAnyH_take (i := 8) (oi := { dst := some 80, op := Op.binOp BinOp.neq 27 (Operand.tmp 79) (Operand.const Value.nilIface) 27, type := 4, pos := "nets.go:377", after := #[{ on := 7, ground := Ground.data }, { on := 6, ground := Ground.guard }], guard := some (6, true) }) (v := ?_) rfl (by kernel_rfl) (by kernel_rfl) (by kernel_rfl) (fun _ _ _ h => h) (Or.inl ⟨by rfl, ?_⟩) hHeld ?_
              rotate_left
              · (intro w hSw; (try dsimp only at hSw); go_simp; first | done | with_reducible rfl)
              simp only [Act.put, List.setIfInBounds_toArray, List.set_cons_zero, List.set_cons_succ]
              refine wpAnyH_take (i := 9) (oi := { dst := some 81, op := Op.move (Operand.tmp 80), type := 4, pos := "nets.go:377", after := #[{ on := 8, ground := Ground.data }, { on := 6, ground := Ground.chain }, { on := 6, ground := Ground.guard }], guard := some (6, true) }) (v := ?_) rfl (by kernel_rfl) (by kernel_rfl) (by kernel_rfl) (fun _ _ _ h => h) (Or.inl ⟨by rfl, ?_⟩) hHeld ?_
              rotate_left
              · (intro w hSw; (try dsimp only at hSw); go_simp; first | done | with_reducible rfl)
              simp only [Act.put, List.setIfInBounds_toArray, List.set_cons_zero, List.set_cons_succ]
              refine wpAnyH_take (i := 10) (oi := { dst := some 82, op := Op.move (Operand.tmp 12), type := 22, pos := "nets.go:377", after := #[{ on := 9, ground := Ground.guard }], guard := some (9, false) }) (v := ?_) rfl (by kernel_rfl) (by kernel_rfl) (by kernel_rfl) (fun _ _ _ h => h) (Or.inl ⟨by rfl, ?_⟩) hHeld ?_
              rotate_left
              · (intro w hSw; (try dsimp only at hSw); go_simp; first | done | with_reducible rfl)
              simp only [Act.put, List.setIfInBounds_toArray, List.set_cons_zero, List.set_cons_succ]
              refine wpAnyH_take (i := 11) (oi := { dst := some 83, op := Op.move (Operand.tmp 13), type := 3, pos := "nets.go:377", after := #[{ on := 9, ground := Ground.guard }], guard := some (9, false) }) (v := ?_) rfl (by kernel_rfl) (by kernel_rfl) (by kernel_rfl) (fun _ _ _ h => h) (Or.inl ⟨by rfl, ?_⟩) hHeld ?_
              rotate_left
              · (intro w hSw; (try dsimp only at hSw); go_simp; first | done | with_reducible rfl)
              simp only [Act.put, List.setIfInBounds_toArray, List.set_cons_zero, List.set_cons_succ]
              refine wpAnyH_take (i := 12) (oi := { dst := some 84, op := Op.indexAddr 22 (Operand.tmp 82) (Operand.tmp 83), type := 0, pos := "nets.go:377", after := #[{ on := 10, ground := Ground.data }, { on := 11, ground := Ground.data }, { on := 9, ground := Ground.guard }], guard := some (9, false) }) (v := ?_) rfl (by kernel_rfl) (by kernel_rfl) (by kernel_rfl) (fun _ _ _ h => h) (Or.inl ⟨by rfl, ?_⟩) hHeld ?_
              rotate_left
              · (intro w hSw; (try dsimp only at hSw); go_simp; first | done | with_reducible rfl)
              simp only [Act.put, List.setIfInBounds_toArray, List.set_cons_zero, List.set_cons_succ]
              refine wpAnyH_take (i := 13) (oi := { dst := some 85, op := Op.fieldAddr 30 (Operand.tmp 84) 1, type := 0, pos := "nets.go:377", after := #[{ on := 12, ground := Ground.data }, { on := 9, ground := Ground.guard }], guard := some (9, false) }) (v := ?_) rfl (by kernel_rfl) (by kernel_rfl) (by kernel_rfl) (fun _ _ _ h => h) (Or.inl ⟨by rfl, ?_⟩) hHeld ?_
              rotate_left
              · (intro w hSw; (try dsimp only at hSw); go_simp; first | done | with_reducible rfl)
              simp only [Act.put, List.setIfInBounds_toArray, List.set_cons_zero, List.set_cons_succ]
              refine wpAnyH_take (i := 14) (oi := { dst := some 86, op := Op.load 3 (Operand.tmp 85), type := 3, pos := "nets.go:377", after := #[{ on := 13, ground := Ground.data }, { on := 9, ground := Ground.guard }], guard := some (9, false) }) (v := ?_) rfl (by kernel_rfl) (by kernel_rfl) (by kernel_rfl) (fun _ _ _ h => h) (Or.inl ⟨by rfl, ?_⟩) hHeld ?_
              rotate_left
              · (intro w hSw; (try dsimp only at hSw); go_simp; first | done | with_reducible rfl)
              simp only [Act.put, List.setIfInBounds_toArray, List.set_cons_zero, List.set_cons_succ]
              refine wpAnyH_take (i := 15) (oi := { dst := some 87, op := Op.fieldAddr 30 (Operand.tmp 7) 1, type := 0, pos := "nets.go:377", after := #[{ on := 9, ground := Ground.guard }], guard := some (9, false) }) (v := ?_) rfl (by kernel_rfl) (by kernel_rfl) (by kernel_rfl) (fun _ _ _ h => h) (Or.inl ⟨by rfl, ?_⟩) hHeld ?_
              rotate_left
              · (intro w hSw; (try dsimp only at hSw); go_simp; first | done | with_reducible rfl)
              simp only [Act.put, List.setIfInBounds_toArray, List.set_cons_zero, List.set_cons_succ]
              refine wpAnyH_take (i := 16) (oi := { dst := some 88, op := Op.load 3 (Operand.tmp 87), type := 3, pos := "nets.go:377", after := #[{ on := 15, ground := Ground.data }, { on := 9, ground := Ground.guard }], guard := some (9, false) }) (v := ?_) rfl (by kernel_rfl) (by kernel_rfl) (by kernel_rfl) (fun _ _ _ h => h) (Or.inl ⟨by rfl, ?_⟩) hHeld ?_
              rotate_left
              · (intro w hSw; (try dsimp only at hSw); go_simp; first | done | with_reducible rfl)
              simp only [Act.put, List.setIfInBounds_toArray, List.set_cons_zero, List.set_cons_succ]
              refine wpAnyH_take (i := 17) (oi := { dst := some 89, op := Op.binOp BinOp.gtr 3 (Operand.tmp 86) (Operand.tmp 88) 3, type := 4, pos := "nets.go:377", after := #[{ on := 14, ground := Ground.data }, { on := 16, ground := Ground.data }, { on := 9, ground := Ground.guard }], guard := some (9, false) }) (v := ?_) rfl (by kernel_rfl) (by kernel_rfl) (by kernel_rfl) (fun _ _ _ h => h) (Or.inl ⟨by rfl, ?_⟩) hHeld ?_
              rotate_left
              · (intro w hSw; (try dsimp only at hSw); go_simp; first | done | with_reducible rfl)
              simp only [Act.put, List.setIfInBounds_toArray, List.set_cons_zero, List.set_cons_succ]
              refine wpAnyH_take (i := 18) (oi := { dst := some 90, op := Op.pick (Operand.tmp 81) (Operand.const (Value.bool true)) (Operand.tmp 89), type := 4, pos := "nets.go:377", after := #[{ on := 9, ground := Ground.data }, { on := 17, ground := Ground.data }, { on := 6, ground := Ground.guard }], guard := some (6, true) }) (v := ?_) rfl (by kernel_rfl) (by kernel_rfl) (by kernel_rfl) (fun _ _ _ h => h) (Or.inl ⟨by rfl, ?_⟩) hHeld ?_
              rotate_left
              · (intro w hSw; (try dsimp only at hSw); go_simp; first | done | with_reducible rfl)
              simp only [Act.put, List.setIfInBounds_toArray, List.set_cons_zero, List.set_cons_succ]
              refine wpAnyH_take (i := 19) (oi := { dst := some 91, op := Op.pick (Operand.tmp 78) (Operand.tmp 90) (Operand.const (Value.bool false)), type := 4, pos := "nets.go:377", after := #[{ on := 6, ground := Ground.data }, { on := 18, ground := Ground.data }], guard := none }) (v := ?_) rfl (by kernel_rfl) (by kernel_rfl) (by kernel_rfl) (fun _ _ _ h => h) (Or.inl ⟨by rfl, ?_⟩) hHeld ?_
              rotate_left
              · (intro w hSw; (try dsimp only at hSw); go_simp; first | done | with_reducible rfl)
              simp only [Act.put, List.setIfInBounds_toArray, List.set_cons_zero, List.set_cons_succ]
              refine wpAnyH_done (by kernel_rfl) ?_ _
              have HB12 := Lib.hid hHeld.2.2.2
              clear hHeld H s0
              go_wp2_with fail
              go_roundw
              case rel => exact ⟨k + 1, by go_num, by omega, HB12⟩
              case measure => simp [RowKit.intOf]; omega
          · go_wp2_with fail
            refine (put_any wr S w.heap.size f L ((a, (32 : Int)) : Nt) 7 ha (T8.out.below HB9.out)).mono ?_
            rintro e w10 ⟨rfl, ⟨L10, T10⟩, K10⟩
            have B10 : Below w.heap.size w w10 := (Below.two B8.out HB9.out).trans (K10.below HS.out (Below.two B8.out HB9.out).size)
            clear K10
            by_cases h64 : f ((a, (32 : Int)) : Nt) = none ∧ 64 ≤ L.length
            · have hE : putE f L ((a, (32 : Int)) : Nt) = 4 := by unfold putE; rw [if_pos (chk32 a ha), if_pos h64]
              have hL : L.length = 64 := by omega
              rw [hE, show errV 4 = .iface 50 (.int .i64 4) from rfl]
              have HT10 := Lib.hid T10
              clear T10 h64 hE
              go_wp2_with fail
              refine (find_any w10 _ w.heap.size _ L10 a ha HT10.out).mono ?_
              rintro e w11 ⟨q, rfl, hF, b11⟩
              cases q with
              | none =>
                clear hF
                unfold foundV
                go_wp2_with fail
                go_ret
                exact ⟨by simp, (Below.two B10 b11).alloc (Below.two B10 b11).size _⟩
              | some q =>
                obtain ⟨q1, q2⟩ := q
                clear hF
                unfold foundV
                go_wp2_with fail
                go_ret
                exact ⟨by simp, (Below.two B10 b11).alloc (Below.two B10 b11).size _⟩
            · have hE : putE f L ((a, (32 : Int)) : Nt) = 0 := by unfold putE; rw [if_pos (chk32 a ha), if_neg h64]
              have hF0 : putF f L ((a, (32 : Int)) : Nt) 7 = setF f ((a, (32 : Int)) : Nt) (some 7) := if_pos hE
              rw [hF0] at T10
              rw [hE, errV_zero]
              have HT10 := Lib.hid T10
              clear T10 h64 hE hF0
              go_wp2_with fail
              refine (find_any w10 _ w.heap.size _ L10 a ha HT10.out).mono ?_
              rintro e w11 ⟨q, rfl, hF, b11⟩
              obtain rfl : q = some (32, 7) := hF.only (fun _ => rfl) (fnd32 f a ha 7)
              clear hF
              unfold foundV
              simp only [PrefP.cut_all a ha]
              go_wp2_with fail
              go_ret
              exact ⟨by simp, (Below.two B10 b11).alloc (Below.two B10 b11).size _⟩
end Go.Proofs.Ytbdmfcnlfmnmdaa
