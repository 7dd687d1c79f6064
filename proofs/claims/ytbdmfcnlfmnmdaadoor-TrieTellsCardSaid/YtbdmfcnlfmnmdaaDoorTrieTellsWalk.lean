/-
  The statement TrieTells' function answers true at every two lists and every address; what lay in memory stays. Condition: the library's variable errors.errorType is as its text lays it.
-/
import Derived.Test.YtbdmfcnlfmnmdaaDoorTrieTellsHeap
import Derived.Test.YtbdmfcnlfmnmdaaDoorTrieList
import Derived.Test.YtbdmfcnlfmnmdaaDoorSameNets
import Derived.Test.YtbdmfcnlfmnmdaaDoorErrOne
import Derived.Deep.RegionHeld3
import Derived.Deep.CutBlock
namespace Go.Proofs.YtbdmfcnlfmnmdaaDoor
open Go.RowKit

set_option maxHeartbeats 4000000 in
set_option maxRecDepth 100000 in
theorem trieTells_walk (w : World) (v vI : Value) (l : List Nt) (vs : List Int) (a : Nat) (hl : l.length * 16 ≤ 140737488355328) (ha : a < 4294967296) (h : Arg w v l) (hI : ArgI w vI vs) (hok : ∀ x ∈ l, x.1 < 4294967296) (he : ErrType w) :
    Calls Tryd.prog 3 #[v, vI, .int .u32 a] w fun e w' => e = .returned (.bool true) ∧ Below w.heap.size w w' := by
  obtain ⟨p, c, rfl, h⟩ := h
  obtain ⟨pI, cI, rfl, hI⟩ := hI
  have HA := Lib.hid h; have HAI := Lib.hid hI; have HOK := Lib.hid hok; have HE := Lib.hid he
  clear h hI hok he
  go_enter Tryd.func3, Tryd.ntmps3
  go_wp2_with fail
  refine (new_tab w).mono ?_
  rintro e w1 ⟨rfl, T1, b1⟩
  have HT1 := Lib.hid T1; have HB1 := Lib.hid b1
  clear T1 b1
  go_wp2_with fail
  have HS0 : Hid (St w (fun b => b = w.heap.size) w.heap.size w1.heap.size (fun _ => none) [] (.slice none 0 0) (.slice none 0 0) [] (w1.alloc (.cells #[.slice none 0 0, .slice none 0 0] 28))) := Lib.hid (by
    have hb : Below w1.heap.size w1 (w1.alloc (.cells #[.slice none 0 0, .slice none 0 0] 28)) := (Below.refl _ _).alloc (Nat.le_refl _) _
    have hlt := HT1.out.lt w.heap.size rfl
    exact ⟨HT1.out.below hb, fun b e => by omega, by omega, by omega, Box.new w1 _ _ _, ⟨⟨none, 0, rfl, Or.inl rfl⟩, ⟨none, 0, rfl, Or.inl rfl⟩⟩, Below.two HB1.out hb⟩)
  clear HT1 HB1
  generalize w1.alloc (.cells #[.slice none 0 0, .slice none 0 0] 28) = W1 at *
  generalize w1.heap.size = mb at *
  go_loopw [9] (fun s9 wr => ∃ (k : Nat) (S : Nat → Prop) (f : Nt → Option Int) (L : List Nt) (vN vV : Value) (M : Mt), s9 = .int .i64 k ∧ k ≤ l.length ∧ k ≤ vs.length ∧ Hid (St w S w.heap.size mb f L vN vV M wr) ∧ Hid (TM M f)) (fun s9 _ => l.length - (RowKit.intOf s9).toNat)
  case atStart => exact ⟨0, _, _, [], _, _, [], rfl, Nat.zero_le _, Nat.zero_le _, HS0, Lib.hid TM.start⟩
  case round =>
    clear HS0
    obtain ⟨k, S, f, L, vN, vV, M, rfl, hk, hk2, HS, HM⟩ := hrel
    obtain ⟨pN, cN, eN, _⟩ := HS.out.m.n
    rw [nets_len] at eN
    subst eN
    obtain ⟨pV, cV, eV, _⟩ := HS.out.m.v
    rw [vals_len] at eV
    subst eV
    have hM64 : M.length ≤ 64 := by have := HM.out.len HS.out.t; have := HS.out.t.few; omega
    by_cases hkn : k < l.length ∧ k < vs.length
    · obtain ⟨hkl, hkv⟩ := hkn
      obtain ⟨b, off, hp, hlt, hs⟩ : ∃ b off, p = some ⟨b, off, none⟩ ∧ b < w.heap.size ∧ Seen w b off l := by
        rcases HA.out with h | h
        · rw [h] at hkl; simp at hkl
        · exact h
      obtain ⟨bi, oi, hpi, hlti, hsi⟩ : ∃ b off, pI = some ⟨b, off, none⟩ ∧ b < w.heap.size ∧ SeenI w b off vs := by
        rcases HAI.out with h | h
        · rw [h] at hkv; simp at hkv
        · exact h
      subst hp
      subst hpi
      have hx : l[k]!.1 < 4294967296 := HOK.out _ (by rw [getElem!_pos l k hkl]; exact List.getElem_mem hkl)
      have HR : Hid (Rd w b (off + k * 2) bi (oi + k) l[k]! vs[k]!) := Lib.hid ⟨hlt, hlti, hs.c0 k hkl, hs.c1 k hkl, hsi k hkv⟩
      generalize l[k]! = n at HR hx
      generalize vs[k]! = z at HR
      clear hs hsi hlt hlti
      have s0 := (HR.out.below HS.out.be).c0
      have s1 := (HR.out.below HS.out.be).c1
      go_wp2_with fail
      refine (fault_any n.1 n.2 hx wr).mono ?_
      rintro e w2 ⟨rfl, b2⟩
      have HS2 := Lib.hid (HS.out.below b2)
      clear s0 s1 b2 HS
      obtain ⟨r, hr⟩ : ∃ r, r = decide (n ∈ nets M ∨ M.length < 64) := ⟨_, rfl⟩
      have hpE := putE_r HM.out HS2.out.t n r hr
      have HHR := Lib.hid hr; clear hr
      rcases HM.out.get n with ⟨hc, hg⟩ | ⟨hc, hn, hg⟩ | ⟨hc, hn, hg⟩
      · rw [if_neg hc] at hpE
        have hcb : (PrefP.chk n.1 n.2 == 0) = false := by simp [hc]
        generalize PrefP.chk n.1 n.2 = ce at *
        have HPE := Lib.hid hpE; have HG := Lib.hid hg
        clear hpE hg
        go_wp2_with fail
        refine wp_region_held_drew (S := (fun w' => w'.cell? ⟨mb, 0, none⟩ = some (.slice pN M.length cN) ∧ w'.cell? ⟨mb, 1, none⟩ = some (.slice pV M.length cV) ∧ w'.cell? ⟨b, off + k * 2, none⟩ = some (.int .u32 (n.1 : Int)) ∧ w'.cell? ⟨b, off + k * 2 + 1, none⟩ = some (.int .i64 n.2) ∧ w'.cell? ⟨bi, oi + k, none⟩ = some (.int .i64 z) ∧ Below w2.heap.size w2 w')) (by kernel_rfl) (stHeld HR.out HS2.out (Below.refl _ _).drew) (fun hHeld => ?_)
        refine wpAnyH_take (i := 0) (oi := { dst := some 49, op := Op.move (Operand.tmp 12), type := 29, pos := "nets.go:318", after := #[], guard := none }) (v := ?_) rfl (by kernel_rfl) (by kernel_rfl) (by kernel_rfl) (fun _ _ _ h => h) (Or.inl ⟨by rfl, ?_⟩) hHeld ?_
        rotate_left
        · (intro w hSw; (try dsimp only at hSw); go_simp; first | done | with_reducible rfl)
        simp only [Act.put, List.setIfInBounds_toArray, List.set_cons_zero, List.set_cons_succ]
        refine wpAnyH_take (i := 1) (oi := { dst := some 50, op := Op.binOp BinOp.eql 29 (Operand.tmp 49) (Operand.const (Value.int IntKind.i64 0)) 29, type := 4, pos := "nets.go:318", after := #[{ on := 0, ground := Ground.data }], guard := none }) (v := ?_) rfl (by kernel_rfl) (by kernel_rfl) (by kernel_rfl) (fun _ _ _ h => h) (Or.inl ⟨by rfl, ?_⟩) hHeld ?_
        rotate_left
        · (intro w hSw; (try dsimp only at hSw); go_simp; first | done | with_reducible rfl)
        simp only [Act.put, List.setIfInBounds_toArray, List.set_cons_zero, List.set_cons_succ]
        refine wpAnyH_take (i := 2) (oi := { dst := some 51, op := Op.move (Operand.tmp 50), type := 4, pos := "nets.go:318", after := #[{ on := 1, ground := Ground.data }], guard := none }) (v := ?_) rfl (by kernel_rfl) (by kernel_rfl) (by kernel_rfl) (fun _ _ _ h => h) (Or.inl ⟨by rfl, ?_⟩) hHeld ?_
        rotate_left
        · (intro w hSw; (try dsimp only at hSw); go_simp; first | done | with_reducible rfl)
        simp only [Act.put, List.setIfInBounds_toArray, List.set_cons_zero, List.set_cons_succ]
        refine wpAnyH_take (i := 3) (oi := { dst := some 52, op := Op.fieldAddr 28 (Operand.tmp 8) 0, type := 0, pos := "nets.go:318", after := #[{ on := 2, ground := Ground.guard }], guard := some (2, true) }) (v := undef) rfl (by kernel_rfl) (by kernel_rfl) (by kernel_rfl) (fun _ _ _ h => h) (Or.inr ⟨by rfl, rfl⟩) hHeld ?_
        simp only [Act.put, List.setIfInBounds_toArray, List.set_cons_zero, List.set_cons_succ]
        refine wpAnyH_take (i := 4) (oi := { dst := some 53, op := Op.load 22 (Operand.tmp 52), type := 22, pos := "nets.go:318", after := #[{ on := 3, ground := Ground.data }, { on := 2, ground := Ground.guard }], guard := some (2, true) }) (v := undef) rfl (by kernel_rfl) (by kernel_rfl) (by kernel_rfl) (fun _ _ _ h => h) (Or.inr ⟨by rfl, rfl⟩) hHeld ?_
        simp only [Act.put, List.setIfInBounds_toArray, List.set_cons_zero, List.set_cons_succ]
        refine wpAnyH_take (i := 5) (oi := { dst := some 54, op := Op.move (Operand.tmp 0), type := 22, pos := "nets.go:318", after := #[{ on := 2, ground := Ground.guard }], guard := some (2, true) }) (v := undef) rfl (by kernel_rfl) (by kernel_rfl) (by kernel_rfl) (fun _ _ _ h => h) (Or.inr ⟨by rfl, rfl⟩) hHeld ?_
        simp only [Act.put, List.setIfInBounds_toArray, List.set_cons_zero, List.set_cons_succ]
        refine wpAnyH_take (i := 6) (oi := { dst := some 55, op := Op.move (Operand.tmp 9), type := 3, pos := "nets.go:318", after := #[{ on := 2, ground := Ground.guard }], guard := some (2, true) }) (v := undef) rfl (by kernel_rfl) (by kernel_rfl) (by kernel_rfl) (fun _ _ _ h => h) (Or.inr ⟨by rfl, rfl⟩) hHeld ?_
        simp only [Act.put, List.setIfInBounds_toArray, List.set_cons_zero, List.set_cons_succ]
        refine wpAnyH_take (i := 7) (oi := { dst := some 56, op := Op.indexAddr 22 (Operand.tmp 54) (Operand.tmp 55), type := 0, pos := "nets.go:318", after := #[{ on := 5, ground := Ground.data }, { on := 6, ground := Ground.data }, { on := 2, ground := Ground.guard }], guard := some (2, true) }) (v := undef) rfl (by kernel_rfl) (by kernel_rfl) (by kernel_rfl) (fun _ _ _ h => h) (Or.inr ⟨by rfl, rfl⟩) hHeld ?_
        simp only [Act.put, List.setIfInBounds_toArray, List.set_cons_zero, List.set_cons_succ]
        refine wpAnyH_take (i := 8) (oi := { dst := some 57, op := Op.load 32 (Operand.tmp 56), type := 32, pos := "nets.go:318", after := #[{ on := 7, ground := Ground.data }, { on := 2, ground := Ground.guard }], guard := some (2, true) }) (v := undef) rfl (by kernel_rfl) (by kernel_rfl) (by kernel_rfl) (fun _ _ _ h => h) (Or.inr ⟨by rfl, rfl⟩) hHeld ?_
        simp only [Act.put, List.setIfInBounds_toArray, List.set_cons_zero, List.set_cons_succ]
        refine wpAnyH_take (i := 9) (oi := { dst := some 58, op := Op.call { callee := Callee.value (Operand.func 9), args := #[Operand.tmp 53, Operand.tmp 57], argTypes := #[22, 32] }, type := 3, pos := "nets.go:318", after := #[{ on := 4, ground := Ground.data }, { on := 8, ground := Ground.data }, { on := 2, ground := Ground.chain }, { on := 2, ground := Ground.guard }], guard := some (2, true) }) (v := undef) rfl (by kernel_rfl) (by kernel_rfl) (by kernel_rfl) (fun _ _ _ h => h) (Or.inr ⟨by rfl, rfl⟩) hHeld ?_
        simp only [Act.put, List.setIfInBounds_toArray, List.set_cons_zero, List.set_cons_succ]
        refine wpAnyH_take (i := 10) (oi := { dst := some 59, op := Op.binOp BinOp.lss 3 (Operand.tmp 58) (Operand.const (Value.int IntKind.i64 0)) 3, type := 4, pos := "nets.go:318", after := #[{ on := 9, ground := Ground.data }, { on := 2, ground := Ground.guard }], guard := some (2, true) }) (v := undef) rfl (by kernel_rfl) (by kernel_rfl) (by kernel_rfl) (fun _ _ _ h => h) (Or.inr ⟨by rfl, rfl⟩) hHeld ?_
        simp only [Act.put, List.setIfInBounds_toArray, List.set_cons_zero, List.set_cons_succ]
        refine wpAnyH_take (i := 11) (oi := { dst := some 60, op := Op.pick (Operand.tmp 51) (Operand.tmp 59) (Operand.const (Value.bool false)), type := 4, pos := "nets.go:318", after := #[{ on := 2, ground := Ground.data }, { on := 10, ground := Ground.data }], guard := none }) (v := ?_) rfl (by kernel_rfl) (by kernel_rfl) (by kernel_rfl) (fun _ _ _ h => h) (Or.inl ⟨by rfl, ?_⟩) hHeld ?_
        rotate_left
        · (intro w hSw; (try dsimp only at hSw); go_simp; first | done | with_reducible rfl)
        simp only [Act.put, List.setIfInBounds_toArray, List.set_cons_zero, List.set_cons_succ]
        refine wpAnyH_done (by kernel_rfl) ?_ _
        have HS3 := Lib.hid (HS2.out.below hHeld.2.2.2.2.2)
        clear hHeld HS2
        have s0 := (HR.out.below HS3.out.be).c0
        have s1 := (HR.out.below HS3.out.be).c1
        have s2 := (HR.out.below HS3.out.be).ci
        go_wp2_with fail
        refine (get_any _ S w.heap.size f L n hx HS3.out.t).mono ?_
        rintro e w5 ⟨rfl, b5⟩
        rw [HG.out, if_neg hc]
        have HS5 := Lib.hid (HS3.out.below b5)
        clear s0 s1 s2 b5 HS3
        go_wp2_with fail
        refine (sameErr_any ce ce w5 (HE.out.below HS5.out.be)).mono ?_
        rintro e w6 ⟨rfl, b6⟩
        rw [beq_self_eq_true]
        have HS6 := Lib.hid (HS5.out.below b6)
        clear b6 HS5
        by_cases hz : 0 < z
        · have s2 := (HR.out.below HS6.out.be).ci
          go_upto_region 19 with fail
          clear s2
          go_cut [17, 18] from 31 to 151 (fun s17 s18 wc => ∃ B p1 m1 c1 p2 m2 c2, s17 = .pointer (some ⟨B, 0, none⟩) ∧ s18 = .bool r ∧ w6.heap.size ≤ B ∧ Hid (Box wc B (.slice p1 m1 c1) (.slice p2 m2 c2)) ∧ Hid (r = true → Own wc w6.heap.size (.slice p1 m1 c1) (nets (dropM M n ++ [(n, z)])) ∧ OwnI wc w6.heap.size (.slice p2 m2 c2) (vals (dropM M n ++ [(n, z)]))) ∧ Hid (Below w6.heap.size w6 wc))
          case first =>
            refine wp_region_held_drew (S := (fun w' => w'.cell? ⟨mb, 0, none⟩ = some (.slice pN M.length cN) ∧ w'.cell? ⟨mb, 1, none⟩ = some (.slice pV M.length cV) ∧ w'.cell? ⟨b, off + k * 2, none⟩ = some (.int .u32 (n.1 : Int)) ∧ w'.cell? ⟨b, off + k * 2 + 1, none⟩ = some (.int .i64 n.2) ∧ w'.cell? ⟨bi, oi + k, none⟩ = some (.int .i64 z) ∧ Below w6.heap.size w6 w')) (by kernel_rfl) (stHeld HR.out HS6.out (Below.refl _ _).drew) (fun hHeld => ?_)
            refine wpAnyH_take (i := 0) (oi := { dst := some 92, op := Op.load 28 (Operand.tmp 8), type := 28, pos := "nets.go:327", after := #[], guard := none }) (v := ?_) rfl (by kernel_rfl) (by kernel_rfl) (by kernel_rfl) (fun _ _ _ h => h) (Or.inl ⟨by rfl, ?_⟩) hHeld ?_
            rotate_left
            · (intro w hSw; (try dsimp only at hSw); go_simp; first | done | with_reducible rfl)
            simp only [Act.put, List.setIfInBounds_toArray, List.set_cons_zero, List.set_cons_succ]
            refine wpAnyH_take (i := 1) (oi := { dst := some 93, op := Op.move (Operand.tmp 0), type := 22, pos := "nets.go:327", after := #[], guard := none }) (v := ?_) rfl (by kernel_rfl) (by kernel_rfl) (by kernel_rfl) (fun _ _ _ h => h) (Or.inl ⟨by rfl, ?_⟩) hHeld ?_
            rotate_left
            · (intro w hSw; (try dsimp only at hSw); go_simp; first | done | with_reducible rfl)
            simp only [Act.put, List.setIfInBounds_toArray, List.set_cons_zero, List.set_cons_succ]
            refine wpAnyH_take (i := 2) (oi := { dst := some 94, op := Op.move (Operand.tmp 9), type := 3, pos := "nets.go:327", after := #[], guard := none }) (v := ?_) rfl (by kernel_rfl) (by kernel_rfl) (by kernel_rfl) (fun _ _ _ h => h) (Or.inl ⟨by rfl, ?_⟩) hHeld ?_
            rotate_left
            · (intro w hSw; (try dsimp only at hSw); go_simp; first | done | with_reducible rfl)
            simp only [Act.put, List.setIfInBounds_toArray, List.set_cons_zero, List.set_cons_succ]
            refine wpAnyH_take (i := 3) (oi := { dst := some 95, op := Op.indexAddr 22 (Operand.tmp 93) (Operand.tmp 94), type := 0, pos := "nets.go:327", after := #[{ on := 1, ground := Ground.data }, { on := 2, ground := Ground.data }], guard := none }) (v := ?_) rfl (by kernel_rfl) (by kernel_rfl) (by kernel_rfl) (fun _ _ _ h => h) (Or.inl ⟨by rfl, ?_⟩) hHeld ?_
            rotate_left
            · (intro w hSw; (try dsimp only at hSw); go_simp; first | done | with_reducible rfl)
            simp only [Act.put, List.setIfInBounds_toArray, List.set_cons_zero, List.set_cons_succ]
            refine wpAnyH_take (i := 4) (oi := { dst := some 96, op := Op.load 32 (Operand.tmp 95), type := 32, pos := "nets.go:327", after := #[{ on := 3, ground := Ground.data }], guard := none }) (v := ?_) rfl (by kernel_rfl) (by kernel_rfl) (by kernel_rfl) (fun _ _ _ h => h) (Or.inl ⟨by rfl, ?_⟩) hHeld ?_
            rotate_left
            · (intro w hSw; (try dsimp only at hSw); go_simp; first | done | with_reducible rfl)
            simp only [Act.put, List.setIfInBounds_toArray, List.set_cons_zero, List.set_cons_succ]
            refine wpAnyH_take (i := 5) (oi := { dst := some 97, op := Op.move (Operand.tmp 1), type := 23, pos := "nets.go:327", after := #[], guard := none }) (v := ?_) rfl (by kernel_rfl) (by kernel_rfl) (by kernel_rfl) (fun _ _ _ h => h) (Or.inl ⟨by rfl, ?_⟩) hHeld ?_
            rotate_left
            · (intro w hSw; (try dsimp only at hSw); go_simp; first | done | with_reducible rfl)
            simp only [Act.put, List.setIfInBounds_toArray, List.set_cons_zero, List.set_cons_succ]
            refine wpAnyH_take (i := 6) (oi := { dst := some 98, op := Op.move (Operand.tmp 9), type := 3, pos := "nets.go:327", after := #[], guard := none }) (v := ?_) rfl (by kernel_rfl) (by kernel_rfl) (by kernel_rfl) (fun _ _ _ h => h) (Or.inl ⟨by rfl, ?_⟩) hHeld ?_
            rotate_left
            · (intro w hSw; (try dsimp only at hSw); go_simp; first | done | with_reducible rfl)
            simp only [Act.put, List.setIfInBounds_toArray, List.set_cons_zero, List.set_cons_succ]
            refine wpAnyH_take (i := 7) (oi := { dst := some 99, op := Op.indexAddr 23 (Operand.tmp 97) (Operand.tmp 98), type := 0, pos := "nets.go:327", after := #[{ on := 5, ground := Ground.data }, { on := 6, ground := Ground.data }], guard := none }) (v := ?_) rfl (by kernel_rfl) (by kernel_rfl) (by kernel_rfl) (fun _ _ _ h => h) (Or.inl ⟨by rfl, ?_⟩) hHeld ?_
            rotate_left
            · (intro w hSw; (try dsimp only at hSw); go_simp; first | done | with_reducible rfl)
            simp only [Act.put, List.setIfInBounds_toArray, List.set_cons_zero, List.set_cons_succ]
            refine wpAnyH_take (i := 8) (oi := { dst := some 100, op := Op.load 3 (Operand.tmp 99), type := 3, pos := "nets.go:327", after := #[{ on := 7, ground := Ground.data }], guard := none }) (v := ?_) rfl (by kernel_rfl) (by kernel_rfl) (by kernel_rfl) (fun _ _ _ h => h) (Or.inl ⟨by rfl, ?_⟩) hHeld ?_
            rotate_left
            · (intro w hSw; (try dsimp only at hSw); go_simp; first | done | with_reducible rfl)
            simp only [Act.put, List.setIfInBounds_toArray, List.set_cons_zero, List.set_cons_succ]
            refine wpAnyH_ready (rs := [9, 13]) (by kernel_rfl) (by simp) ?_
            refine (AllReadyH.cons (o := { dst := some 101, op := Op.call { callee := Callee.value (Operand.func 12), args := #[Operand.tmp 92, Operand.tmp 96, Operand.tmp 100], argTypes := #[28, 32, 3] }, type := 39, pos := "nets.go:327", after := #[{ on := 0, ground := Ground.data }, { on := 4, ground := Ground.data }, { on := 8, ground := Ground.data }], guard := none }) rfl (fun K hK => ?_) (AllReadyH.cons (o := { dst := some 17, op := Op.alloc 28, type := 0, pos := "nets.go:327", after := #[], guard := none }) rfl (fun K hK => ?_) AllReadyH.nil))
            · go_simp
              go_at_call 12
              refine (putIn_any _ _ _ M n z (by omega) (HS6.out.below hHeld.2.2.2.2.2).m.n.arg (HS6.out.below hHeld.2.2.2.2.2).m.v.arg r HHR.out).mono ?_
              rintro e w9 ⟨p1, m1, c1, p2, m2, c2, rfl, HO, hb9⟩
              have bel := Below.two hHeld.2.2.2.2.2 hb9
              have KK9 := stHeld HR.out HS6.out bel
              clear hHeld hb9
              go_wp2_with fail
              refine hK.out _ _ KK9 (fun hHeld => ?_)
              clear hK K
              refine wpAnyH_take (i := 10) (oi := { dst := some 91, op := Op.move (Operand.tmp 101), type := 39, pos := "nets.go:327", after := #[{ on := 9, ground := Ground.data }], guard := none }) (v := ?_) rfl (by kernel_rfl) (by kernel_rfl) (by kernel_rfl) (fun _ _ _ h => h) (Or.inl ⟨by rfl, ?_⟩) hHeld ?_
              rotate_left
              · (intro w hSw; (try dsimp only at hSw); go_simp; first | done | with_reducible rfl)
              simp only [Act.put, List.setIfInBounds_toArray, List.set_cons_zero, List.set_cons_succ]
              refine wpAnyH_take (i := 11) (oi := { dst := some 102, op := Op.extract (Operand.tmp 91) 0, type := 28, pos := "nets.go:327", after := #[{ on := 10, ground := Ground.data }], guard := none }) (v := ?_) rfl (by kernel_rfl) (by kernel_rfl) (by kernel_rfl) (fun _ _ _ h => h) (Or.inl ⟨by rfl, ?_⟩) hHeld ?_
              rotate_left
              · (intro w hSw; (try dsimp only at hSw); go_simp; first | done | with_reducible rfl)
              simp only [Act.put, List.setIfInBounds_toArray, List.set_cons_zero, List.set_cons_succ]
              refine wpAnyH_take (i := 12) (oi := { dst := some 103, op := Op.extract (Operand.tmp 91) 1, type := 4, pos := "nets.go:327", after := #[{ on := 10, ground := Ground.data }, { on := 14, ground := Ground.gcOnly Departure.lateStores }], guard := none }) (v := ?_) rfl (by kernel_rfl) (by kernel_rfl) (by kernel_rfl) (fun _ _ _ h => h) (Or.inl ⟨by rfl, ?_⟩) hHeld ?_
              rotate_left
              · (intro w hSw; (try dsimp only at hSw); go_simp; first | done | with_reducible rfl)
              simp only [Act.put, List.setIfInBounds_toArray, List.set_cons_zero, List.set_cons_succ]
              refine wpAnyH_ready (rs := [13]) (by kernel_rfl) (by simp) ?_
              refine (AllReadyH.cons (o := { dst := some 17, op := Op.alloc 28, type := 0, pos := "nets.go:327", after := #[], guard := none }) rfl (fun K hK => ?_) AllReadyH.nil)
              go_simp
              have KK13 := stHeld HR.out HS6.out (hHeld.2.2.2.2.2.alloc hHeld.2.2.2.2.2.size (.cells #[.slice none 0 0, .slice none 0 0] 28))
              clear hHeld
              refine hK.out _ _ KK13 (fun hHeld => ?_)
              clear hK K
              refine wpAnyH_ready (rs := [14]) (by kernel_rfl) (by simp) ?_
              refine (AllReadyH.cons (o := { dst := none, op := Op.store 28 (Operand.tmp 17) (Operand.tmp 102), type := 0, pos := "nets.go:327", after := #[{ on := 13, ground := Ground.data }, { on := 11, ground := Ground.data }, { on := 9, ground := Ground.chain }, { on := 0, ground := Ground.phase }, { on := 1, ground := Ground.phase }, { on := 2, ground := Ground.phase }, { on := 3, ground := Ground.phase }, { on := 4, ground := Ground.phase }, { on := 5, ground := Ground.phase }, { on := 6, ground := Ground.phase }, { on := 7, ground := Ground.phase }, { on := 8, ground := Ground.phase }, { on := 9, ground := Ground.phase }, { on := 10, ground := Ground.phase }, { on := 11, ground := Ground.phase }, { on := 12, ground := Ground.textOnly Departure.lateStores }, { on := 13, ground := Ground.phase }], guard := none }) rfl (fun K hK => ?_) AllReadyH.nil)
              go_simp
              have KK14 := stHeld HR.out HS6.out (bel.alloc bel.size (.cells #[.slice p1 m1 c1, .slice p2 m2 c2] 28))
              clear hHeld
              refine hK.out _ _ KK14 (fun hHeld => ?_)
              clear hK K
              refine wpAnyH_take (i := 15) (oi := { dst := some 18, op := Op.assign (Operand.tmp 103), type := 4, pos := "nets.go:327", after := #[{ on := 12, ground := Ground.data }, { on := 14, ground := Ground.chain }, { on := 0, ground := Ground.phase }, { on := 1, ground := Ground.phase }, { on := 2, ground := Ground.phase }, { on := 3, ground := Ground.phase }, { on := 4, ground := Ground.phase }, { on := 5, ground := Ground.phase }, { on := 6, ground := Ground.phase }, { on := 7, ground := Ground.phase }, { on := 8, ground := Ground.phase }, { on := 9, ground := Ground.phase }, { on := 10, ground := Ground.phase }, { on := 11, ground := Ground.phase }, { on := 12, ground := Ground.phase }, { on := 13, ground := Ground.phase }, { on := 14, ground := Ground.phase }], guard := none }) (v := ?_) rfl (by kernel_rfl) (by kernel_rfl) (by kernel_rfl) (fun _ _ _ h => h) (Or.inl ⟨by rfl, ?_⟩) hHeld ?_
              rotate_left
              · (intro w hSw; (try dsimp only at hSw); go_simp; first | done | with_reducible rfl)
              simp only [Act.put, List.setIfInBounds_toArray, List.set_cons_zero, List.set_cons_succ]
              refine wpAnyH_done (by kernel_rfl) ?_ _
              go_wp2_with fail
              go_meet
              case rel => exact ⟨w9.heap.size, p1, m1, c1, p2, m2, c2, rfl, rfl, bel.size, Lib.hid (Box.new w9 _ _ _), Lib.hid (fun e => ⟨(HO.out e).1.keep ((Below.refl _ _).alloc (Nat.le_refl _) _), (HO.out e).2.keep ((Below.refl _ _).alloc (Nat.le_refl _) _)⟩), Lib.hid (bel.alloc bel.size _)⟩
            · go_simp
              have KK13 := stHeld HR.out HS6.out (hHeld.2.2.2.2.2.alloc hHeld.2.2.2.2.2.size (.cells #[.slice none 0 0, .slice none 0 0] 28))
              clear hHeld
              refine hK.out _ _ KK13 (fun hHeld => ?_)
              clear hK K
              refine wpAnyH_ready (rs := [9]) (by kernel_rfl) (by simp) ?_
              refine (AllReadyH.cons (o := { dst := some 101, op := Op.call { callee := Callee.value (Operand.func 12), args := #[Operand.tmp 92, Operand.tmp 96, Operand.tmp 100], argTypes := #[28, 32, 3] }, type := 39, pos := "nets.go:327", after := #[{ on := 0, ground := Ground.data }, { on := 4, ground := Ground.data }, { on := 8, ground := Ground.data }], guard := none }) rfl (fun K hK => ?_) AllReadyH.nil)
              go_simp
              go_at_call 12
              refine (putIn_any _ _ _ M n z (by omega) (HS6.out.below hHeld.2.2.2.2.2).m.n.arg (HS6.out.below hHeld.2.2.2.2.2).m.v.arg r HHR.out).mono ?_
              rintro e w9 ⟨p1, m1, c1, p2, m2, c2, rfl, HO, hb9⟩
              obtain ⟨BX', _⟩ := box1 (w := w6.drew) hb9
              have BX : Box w9 w6.heap.size (.slice none 0 0) (.slice none 0 0) := BX'
              clear BX'
              have bel := Below.two hHeld.2.2.2.2.2 hb9
              have KK9 := stHeld HR.out HS6.out bel
              clear hHeld hb9
              obtain ⟨l6, k0, k1, j0, j1⟩ := id BX
              go_wp2_with fail
              refine hK.out _ _ KK9 (fun hHeld => ?_)
              clear hK K
              refine wpAnyH_take (i := 10) (oi := { dst := some 91, op := Op.move (Operand.tmp 101), type := 39, pos := "nets.go:327", after := #[{ on := 9, ground := Ground.data }], guard := none }) (v := ?_) rfl (by kernel_rfl) (by kernel_rfl) (by kernel_rfl) (fun _ _ _ h => h) (Or.inl ⟨by rfl, ?_⟩) hHeld ?_
              rotate_left
              · (intro w hSw; (try dsimp only at hSw); go_simp; first | done | with_reducible rfl)
              simp only [Act.put, List.setIfInBounds_toArray, List.set_cons_zero, List.set_cons_succ]
              refine wpAnyH_take (i := 11) (oi := { dst := some 102, op := Op.extract (Operand.tmp 91) 0, type := 28, pos := "nets.go:327", after := #[{ on := 10, ground := Ground.data }], guard := none }) (v := ?_) rfl (by kernel_rfl) (by kernel_rfl) (by kernel_rfl) (fun _ _ _ h => h) (Or.inl ⟨by rfl, ?_⟩) hHeld ?_
              rotate_left
              · (intro w hSw; (try dsimp only at hSw); go_simp; first | done | with_reducible rfl)
              simp only [Act.put, List.setIfInBounds_toArray, List.set_cons_zero, List.set_cons_succ]
              refine wpAnyH_take (i := 12) (oi := { dst := some 103, op := Op.extract (Operand.tmp 91) 1, type := 4, pos := "nets.go:327", after := #[{ on := 10, ground := Ground.data }, { on := 14, ground := Ground.gcOnly Departure.lateStores }], guard := none }) (v := ?_) rfl (by kernel_rfl) (by kernel_rfl) (by kernel_rfl) (fun _ _ _ h => h) (Or.inl ⟨by rfl, ?_⟩) hHeld ?_
              rotate_left
              · (intro w hSw; (try dsimp only at hSw); go_simp; first | done | with_reducible rfl)
              simp only [Act.put, List.setIfInBounds_toArray, List.set_cons_zero, List.set_cons_succ]
              refine wpAnyH_ready (rs := [14]) (by kernel_rfl) (by simp) ?_
              refine (AllReadyH.cons (o := { dst := none, op := Op.store 28 (Operand.tmp 17) (Operand.tmp 102), type := 0, pos := "nets.go:327", after := #[{ on := 13, ground := Ground.data }, { on := 11, ground := Ground.data }, { on := 9, ground := Ground.chain }, { on := 0, ground := Ground.phase }, { on := 1, ground := Ground.phase }, { on := 2, ground := Ground.phase }, { on := 3, ground := Ground.phase }, { on := 4, ground := Ground.phase }, { on := 5, ground := Ground.phase }, { on := 6, ground := Ground.phase }, { on := 7, ground := Ground.phase }, { on := 8, ground := Ground.phase }, { on := 9, ground := Ground.phase }, { on := 10, ground := Ground.phase }, { on := 11, ground := Ground.phase }, { on := 12, ground := Ground.textOnly Departure.lateStores }, { on := 13, ground := Ground.phase }], guard := none }) rfl (fun K hK => ?_) AllReadyH.nil)
              go_simp
              have KK14 := stHeld HR.out HS6.out ((bel.setCell (p := ⟨w6.heap.size, 0, none⟩) (Nat.le_refl _) (.slice p1 m1 c1)).setCell (p := ⟨w6.heap.size, 1, none⟩) (Nat.le_refl _) (.slice p2 m2 c2))
              clear hHeld
              refine hK.out _ _ KK14 (fun hHeld => ?_)
              clear hK K
              refine wpAnyH_take (i := 15) (oi := { dst := some 18, op := Op.assign (Operand.tmp 103), type := 4, pos := "nets.go:327", after := #[{ on := 12, ground := Ground.data }, { on := 14, ground := Ground.chain }, { on := 0, ground := Ground.phase }, { on := 1, ground := Ground.phase }, { on := 2, ground := Ground.phase }, { on := 3, ground := Ground.phase }, { on := 4, ground := Ground.phase }, { on := 5, ground := Ground.phase }, { on := 6, ground := Ground.phase }, { on := 7, ground := Ground.phase }, { on := 8, ground := Ground.phase }, { on := 9, ground := Ground.phase }, { on := 10, ground := Ground.phase }, { on := 11, ground := Ground.phase }, { on := 12, ground := Ground.phase }, { on := 13, ground := Ground.phase }, { on := 14, ground := Ground.phase }], guard := none }) (v := ?_) rfl (by kernel_rfl) (by kernel_rfl) (by kernel_rfl) (fun _ _ _ h => h) (Or.inl ⟨by rfl, ?_⟩) hHeld ?_
              rotate_left
              · (intro w hSw; (try dsimp only at hSw); go_simp; first | done | with_reducible rfl)
              simp only [Act.put, List.setIfInBounds_toArray, List.set_cons_zero, List.set_cons_succ]
              refine wpAnyH_done (by kernel_rfl) ?_ _
              go_wp2_with fail
              go_meet
              case rel => exact ⟨w6.heap.size, p1, m1, c1, p2, m2, c2, rfl, rfl, Nat.le_refl _, Lib.hid (BX.set _ _), Lib.hid (fun e => ⟨Own.down (ownsRow_setCell_below (ownsRow_setCell_below (HO.out e).1 (a := ⟨w6.heap.size, 0, none⟩) (by simp) _) (a := ⟨w6.heap.size, 1, none⟩) (by simp) _) (by simp), OwnI.down (ownsRow_setCell_below (ownsRow_setCell_below (HO.out e).2 (a := ⟨w6.heap.size, 0, none⟩) (by simp) _) (a := ⟨w6.heap.size, 1, none⟩) (by simp) _) (by simp)⟩), Lib.hid ((bel.setCell (p := ⟨w6.heap.size, 0, none⟩) (Nat.le_refl _) _).setCell (p := ⟨w6.heap.size, 1, none⟩) (Nat.le_refl _) _)⟩
          case rest =>
            obtain ⟨B, p1, m1, c1, p2, m2, c2, rfl, rfl, hB, HX, HO, HD⟩ := hcut
            have HSc := Lib.hid (HS6.out.below HD.out)
            have HLT := Lib.hid (show (∀ b, S b → b < w6.heap.size) ∧ mb < w6.heap.size from ⟨HS6.out.t.lt, HS6.out.bx.lt⟩)
            clear HD HS6
            go_wp2_with fail
            refine wp_region_held_drew (S := (fun w' => w'.cell? ⟨b, off + k * 2, none⟩ = some (.int .u32 (n.1 : Int)) ∧ w'.cell? ⟨b, off + k * 2 + 1, none⟩ = some (.int .i64 n.2) ∧ w'.cell? ⟨bi, oi + k, none⟩ = some (.int .i64 z))) (by kernel_rfl) (rdHeld HR.out HSc.out.drew.be) (fun hHeld => ?_)
            refine wpAnyH_take (i := 0) (oi := { dst := some 110, op := Op.move (Operand.tmp 7), type := 25, pos := "nets.go:331", after := #[], guard := none }) (v := ?_) rfl (by kernel_rfl) (by kernel_rfl) (by kernel_rfl) (fun _ _ _ h => h) (Or.inl ⟨by rfl, ?_⟩) hHeld ?_
            rotate_left
            · (intro w hSw; (try dsimp only at hSw); go_simp; first | done | with_reducible rfl)
            simp only [Act.put, List.setIfInBounds_toArray, List.set_cons_zero, List.set_cons_succ]
            refine wpAnyH_take (i := 1) (oi := { dst := some 111, op := Op.move (Operand.tmp 0), type := 22, pos := "nets.go:331", after := #[], guard := none }) (v := ?_) rfl (by kernel_rfl) (by kernel_rfl) (by kernel_rfl) (fun _ _ _ h => h) (Or.inl ⟨by rfl, ?_⟩) hHeld ?_
            rotate_left
            · (intro w hSw; (try dsimp only at hSw); go_simp; first | done | with_reducible rfl)
            simp only [Act.put, List.setIfInBounds_toArray, List.set_cons_zero, List.set_cons_succ]
            refine wpAnyH_take (i := 2) (oi := { dst := some 112, op := Op.move (Operand.tmp 9), type := 3, pos := "nets.go:331", after := #[], guard := none }) (v := ?_) rfl (by kernel_rfl) (by kernel_rfl) (by kernel_rfl) (fun _ _ _ h => h) (Or.inl ⟨by rfl, ?_⟩) hHeld ?_
            rotate_left
            · (intro w hSw; (try dsimp only at hSw); go_simp; first | done | with_reducible rfl)
            simp only [Act.put, List.setIfInBounds_toArray, List.set_cons_zero, List.set_cons_succ]
            refine wpAnyH_take (i := 3) (oi := { dst := some 113, op := Op.indexAddr 22 (Operand.tmp 111) (Operand.tmp 112), type := 0, pos := "nets.go:331", after := #[{ on := 1, ground := Ground.data }, { on := 2, ground := Ground.data }], guard := none }) (v := ?_) rfl (by kernel_rfl) (by kernel_rfl) (by kernel_rfl) (fun _ _ _ h => h) (Or.inl ⟨by rfl, ?_⟩) hHeld ?_
            rotate_left
            · (intro w hSw; (try dsimp only at hSw); go_simp; first | done | with_reducible rfl)
            simp only [Act.put, List.setIfInBounds_toArray, List.set_cons_zero, List.set_cons_succ]
            refine wpAnyH_take (i := 4) (oi := { dst := some 114, op := Op.load 32 (Operand.tmp 113), type := 32, pos := "nets.go:331", after := #[{ on := 3, ground := Ground.data }], guard := none }) (v := ?_) rfl (by kernel_rfl) (by kernel_rfl) (by kernel_rfl) (fun _ _ _ h => h) (Or.inl ⟨by rfl, ?_⟩) hHeld ?_
            rotate_left
            · (intro w hSw; (try dsimp only at hSw); go_simp; first | done | with_reducible rfl)
            simp only [Act.put, List.setIfInBounds_toArray, List.set_cons_zero, List.set_cons_succ]
            refine wpAnyH_take (i := 5) (oi := { dst := some 115, op := Op.move (Operand.tmp 1), type := 23, pos := "nets.go:331", after := #[], guard := none }) (v := ?_) rfl (by kernel_rfl) (by kernel_rfl) (by kernel_rfl) (fun _ _ _ h => h) (Or.inl ⟨by rfl, ?_⟩) hHeld ?_
            rotate_left
            · (intro w hSw; (try dsimp only at hSw); go_simp; first | done | with_reducible rfl)
            simp only [Act.put, List.setIfInBounds_toArray, List.set_cons_zero, List.set_cons_succ]
            refine wpAnyH_take (i := 6) (oi := { dst := some 116, op := Op.move (Operand.tmp 9), type := 3, pos := "nets.go:331", after := #[], guard := none }) (v := ?_) rfl (by kernel_rfl) (by kernel_rfl) (by kernel_rfl) (fun _ _ _ h => h) (Or.inl ⟨by rfl, ?_⟩) hHeld ?_
            rotate_left
            · (intro w hSw; (try dsimp only at hSw); go_simp; first | done | with_reducible rfl)
            simp only [Act.put, List.setIfInBounds_toArray, List.set_cons_zero, List.set_cons_succ]
            refine wpAnyH_take (i := 7) (oi := { dst := some 117, op := Op.indexAddr 23 (Operand.tmp 115) (Operand.tmp 116), type := 0, pos := "nets.go:331", after := #[{ on := 5, ground := Ground.data }, { on := 6, ground := Ground.data }], guard := none }) (v := ?_) rfl (by kernel_rfl) (by kernel_rfl) (by kernel_rfl) (fun _ _ _ h => h) (Or.inl ⟨by rfl, ?_⟩) hHeld ?_
            rotate_left
            · (intro w hSw; (try dsimp only at hSw); go_simp; first | done | with_reducible rfl)
            simp only [Act.put, List.setIfInBounds_toArray, List.set_cons_zero, List.set_cons_succ]
            refine wpAnyH_take (i := 8) (oi := { dst := some 118, op := Op.load 3 (Operand.tmp 117), type := 3, pos := "nets.go:331", after := #[{ on := 7, ground := Ground.data }], guard := none }) (v := ?_) rfl (by kernel_rfl) (by kernel_rfl) (by kernel_rfl) (fun _ _ _ h => h) (Or.inl ⟨by rfl, ?_⟩) hHeld ?_
            rotate_left
            · (intro w hSw; (try dsimp only at hSw); go_simp; first | done | with_reducible rfl)
            simp only [Act.put, List.setIfInBounds_toArray, List.set_cons_zero, List.set_cons_succ]
            refine wpAnyH_take (i := 10) (oi := { dst := some 120, op := Op.move (Operand.tmp 10), type := 29, pos := "nets.go:331", after := #[], guard := none }) (v := ?_) rfl (by kernel_rfl) (by kernel_rfl) (by kernel_rfl) (fun _ _ _ h => h) (Or.inl ⟨by rfl, ?_⟩) hHeld ?_
            rotate_left
            · (intro w hSw; (try dsimp only at hSw); go_simp; first | done | with_reducible rfl)
            simp only [Act.put, List.setIfInBounds_toArray, List.set_cons_zero, List.set_cons_succ]
            refine wpAnyH_ready (rs := [9]) (by kernel_rfl) (by simp) ?_
            refine AllReadyH.cons (o := { dst := some 119, op := Op.call { callee := Callee.value (Operand.func 13), args := #[Operand.tmp 110, Operand.tmp 114, Operand.tmp 118], argTypes := #[25, 32, 3] }, type := 35, pos := "nets.go:331", after := #[{ on := 0, ground := Ground.data }, { on := 4, ground := Ground.data }, { on := 8, ground := Ground.data }], guard := none }) rfl (fun K hK => ?_) AllReadyH.nil
            go_simp
            go_at_call 13
            refine (put_any _ S w.heap.size f L n z hx HSc.out.drew.t).mono ?_
            rintro e w9 ⟨rfl, ⟨L9, T9⟩, K9⟩
            rw [HPE.out] 
            have HS9 := Lib.hid (HSc.out.drew.put K9 T9)
            have HK9 := Lib.hid K9
            have KK0 := rdHeld HR.out HS9.out.be; clear hHeld T9 K9
            go_wp2_with fail
            refine hK.out _ _ KK0 (fun hHeld => ?_)
            clear hK K
            refine wpAnyH_ready (rs := [11]) (by kernel_rfl) (by simp) ?_
            refine AllReadyH.cons (o := { dst := some 121, op := Op.call { callee := Callee.value (Operand.func 11), args := #[Operand.tmp 119, Operand.tmp 120], argTypes := #[35, 29] }, type := 4, pos := "nets.go:331", after := #[{ on := 9, ground := Ground.data }, { on := 10, ground := Ground.data }, { on := 9, ground := Ground.chain }], guard := none }) rfl (fun K hK => ?_) AllReadyH.nil
            go_simp
            go_at_call 11
            refine (sameErr_any ce ce _ (HE.out.below HS9.out.be)).mono ?_
            rintro e w10 ⟨rfl, b10⟩
            rw [beq_self_eq_true]
            have HS10 := Lib.hid (HS9.out.below b10); have HB10 := Lib.hid b10
            have KK1 := rdHeld HR.out HS10.out.be; clear hHeld b10
            go_wp2_with fail
            refine hK.out _ _ KK1 (fun hHeld => ?_)
            clear hK K
            refine wpAnyH_take (i := 12) (oi := { dst := some 16, op := Op.assign (Operand.tmp 121), type := 4, pos := "nets.go:331", after := #[{ on := 11, ground := Ground.data }, { on := 11, ground := Ground.chain }, { on := 0, ground := Ground.phase }, { on := 1, ground := Ground.phase }, { on := 2, ground := Ground.phase }, { on := 3, ground := Ground.phase }, { on := 4, ground := Ground.phase }, { on := 5, ground := Ground.phase }, { on := 6, ground := Ground.phase }, { on := 7, ground := Ground.phase }, { on := 8, ground := Ground.phase }, { on := 9, ground := Ground.phase }, { on := 10, ground := Ground.phase }, { on := 11, ground := Ground.phase }], guard := none }) (v := ?_) rfl (by kernel_rfl) (by kernel_rfl) (by kernel_rfl) (fun _ _ _ h => h) (Or.inl ⟨by rfl, ?_⟩) hHeld ?_
            rotate_left
            · (intro w hSw; (try dsimp only at hSw); go_simp; first | done | with_reducible rfl)
            simp only [Act.put, List.setIfInBounds_toArray, List.set_cons_zero, List.set_cons_succ]
            refine wpAnyH_done (by kernel_rfl) ?_ _
            clear hHeld
            clear HX HO HLT
            go_wp2_with fail
            go_roundw
            case rel => exact ⟨k + 1, _, _, L9, _, _, M, by go_num, by omega, by omega, HS10, Lib.hid (by unfold putF; rw [if_neg (by rw [HPE.out]; exact hc)]; exact HM.out)⟩
            case measure => simp [RowKit.intOf]; omega
        · have s0 := (HR.out.below HS6.out.be).c0
          have s1 := (HR.out.below HS6.out.be).c1
          have s2 := (HR.out.below HS6.out.be).ci
          go_wp2_with fail
          refine (drop_any _ S w.heap.size f L n hx HS6.out.t).mono ?_
          rintro e w9 ⟨rfl, ⟨L9, T9⟩, K9⟩
          rw [HG.out]
          have HS9 := Lib.hid (HS6.out.drop K9 T9)
          clear T9 K9 s0 s1 s2
          go_wp2_with fail
          refine (sameErr_any ce ce _ (HE.out.below HS9.out.be)).mono ?_
          rintro e w10 ⟨rfl, b10⟩
          rw [beq_self_eq_true]
          have HS10 := Lib.hid (HS9.out.below b10)
          clear b10 HS9
          go_wp2_with fail
          go_roundw
          case rel => exact ⟨k + 1, _, _, L9, _, _, M, by go_num, by omega, by omega, HS10, Lib.hid (by unfold dropF; rw [if_neg (by rw [HG.out]; exact hc)]; exact HM.out)⟩
          case measure => simp [RowKit.intOf]; omega
      · rw [if_pos hc] at hpE
        rw [hc]
        have HG := Lib.hid hg; have hP := plc_none hn
        have HC := Lib.hid hc
        clear hg hc
        go_wp2_with fail
        refine wp_region_held_drew (S := (fun w' => w'.cell? ⟨mb, 0, none⟩ = some (.slice pN M.length cN) ∧ w'.cell? ⟨mb, 1, none⟩ = some (.slice pV M.length cV) ∧ w'.cell? ⟨b, off + k * 2, none⟩ = some (.int .u32 (n.1 : Int)) ∧ w'.cell? ⟨b, off + k * 2 + 1, none⟩ = some (.int .i64 n.2) ∧ w'.cell? ⟨bi, oi + k, none⟩ = some (.int .i64 z) ∧ Below w2.heap.size w2 w')) (by kernel_rfl) (stHeld HR.out HS2.out (Below.refl _ _).drew) (fun hHeld => ?_)
        refine wpAnyH_take (i := 0) (oi := { dst := some 49, op := Op.move (Operand.tmp 12), type := 29, pos := "nets.go:318", after := #[], guard := none }) (v := ?_) rfl (by kernel_rfl) (by kernel_rfl) (by kernel_rfl) (fun _ _ _ h => h) (Or.inl ⟨by rfl, ?_⟩) hHeld ?_
        rotate_left
        · (intro w hSw; (try dsimp only at hSw); go_simp; first | done | with_reducible rfl)
        simp only [Act.put, List.setIfInBounds_toArray, List.set_cons_zero, List.set_cons_succ]
        refine wpAnyH_take (i := 1) (oi := { dst := some 50, op := Op.binOp BinOp.eql 29 (Operand.tmp 49) (Operand.const (Value.int IntKind.i64 0)) 29, type := 4, pos := "nets.go:318", after := #[{ on := 0, ground := Ground.data }], guard := none }) (v := ?_) rfl (by kernel_rfl) (by kernel_rfl) (by kernel_rfl) (fun _ _ _ h => h) (Or.inl ⟨by rfl, ?_⟩) hHeld ?_
        rotate_left
        · (intro w hSw; (try dsimp only at hSw); go_simp; first | done | with_reducible rfl)
        simp only [Act.put, List.setIfInBounds_toArray, List.set_cons_zero, List.set_cons_succ]
        refine wpAnyH_take (i := 2) (oi := { dst := some 51, op := Op.move (Operand.tmp 50), type := 4, pos := "nets.go:318", after := #[{ on := 1, ground := Ground.data }], guard := none }) (v := ?_) rfl (by kernel_rfl) (by kernel_rfl) (by kernel_rfl) (fun _ _ _ h => h) (Or.inl ⟨by rfl, ?_⟩) hHeld ?_
        rotate_left
        · (intro w hSw; (try dsimp only at hSw); go_simp; first | done | with_reducible rfl)
        simp only [Act.put, List.setIfInBounds_toArray, List.set_cons_zero, List.set_cons_succ]
        refine wpAnyH_take (i := 3) (oi := { dst := some 52, op := Op.fieldAddr 28 (Operand.tmp 8) 0, type := 0, pos := "nets.go:318", after := #[{ on := 2, ground := Ground.guard }], guard := some (2, true) }) (v := ?_) rfl (by kernel_rfl) (by kernel_rfl) (by kernel_rfl) (fun _ _ _ h => h) (Or.inl ⟨by rfl, ?_⟩) hHeld ?_
        rotate_left
        · (intro w hSw; (try dsimp only at hSw); go_simp; first | done | with_reducible rfl)
        simp only [Act.put, List.setIfInBounds_toArray, List.set_cons_zero, List.set_cons_succ]
        refine wpAnyH_take (i := 4) (oi := { dst := some 53, op := Op.load 22 (Operand.tmp 52), type := 22, pos := "nets.go:318", after := #[{ on := 3, ground := Ground.data }, { on := 2, ground := Ground.guard }], guard := some (2, true) }) (v := ?_) rfl (by kernel_rfl) (by kernel_rfl) (by kernel_rfl) (fun _ _ _ h => h) (Or.inl ⟨by rfl, ?_⟩) hHeld ?_
        rotate_left
        · (intro w hSw; (try dsimp only at hSw); go_simp; first | done | with_reducible rfl)
        simp only [Act.put, List.setIfInBounds_toArray, List.set_cons_zero, List.set_cons_succ]
        refine wpAnyH_take (i := 5) (oi := { dst := some 54, op := Op.move (Operand.tmp 0), type := 22, pos := "nets.go:318", after := #[{ on := 2, ground := Ground.guard }], guard := some (2, true) }) (v := ?_) rfl (by kernel_rfl) (by kernel_rfl) (by kernel_rfl) (fun _ _ _ h => h) (Or.inl ⟨by rfl, ?_⟩) hHeld ?_
        rotate_left
        · (intro w hSw; (try dsimp only at hSw); go_simp; first | done | with_reducible rfl)
        simp only [Act.put, List.setIfInBounds_toArray, List.set_cons_zero, List.set_cons_succ]
        refine wpAnyH_take (i := 6) (oi := { dst := some 55, op := Op.move (Operand.tmp 9), type := 3, pos := "nets.go:318", after := #[{ on := 2, ground := Ground.guard }], guard := some (2, true) }) (v := ?_) rfl (by kernel_rfl) (by kernel_rfl) (by kernel_rfl) (fun _ _ _ h => h) (Or.inl ⟨by rfl, ?_⟩) hHeld ?_
        rotate_left
        · (intro w hSw; (try dsimp only at hSw); go_simp; first | done | with_reducible rfl)
        simp only [Act.put, List.setIfInBounds_toArray, List.set_cons_zero, List.set_cons_succ]
        refine wpAnyH_take (i := 7) (oi := { dst := some 56, op := Op.indexAddr 22 (Operand.tmp 54) (Operand.tmp 55), type := 0, pos := "nets.go:318", after := #[{ on := 5, ground := Ground.data }, { on := 6, ground := Ground.data }, { on := 2, ground := Ground.guard }], guard := some (2, true) }) (v := ?_) rfl (by kernel_rfl) (by kernel_rfl) (by kernel_rfl) (fun _ _ _ h => h) (Or.inl ⟨by rfl, ?_⟩) hHeld ?_
        rotate_left
        · (intro w hSw; (try dsimp only at hSw); go_simp; first | done | with_reducible rfl)
        simp only [Act.put, List.setIfInBounds_toArray, List.set_cons_zero, List.set_cons_succ]
        refine wpAnyH_take (i := 8) (oi := { dst := some 57, op := Op.load 32 (Operand.tmp 56), type := 32, pos := "nets.go:318", after := #[{ on := 7, ground := Ground.data }, { on := 2, ground := Ground.guard }], guard := some (2, true) }) (v := ?_) rfl (by kernel_rfl) (by kernel_rfl) (by kernel_rfl) (fun _ _ _ h => h) (Or.inl ⟨by rfl, ?_⟩) hHeld ?_
        rotate_left
        · (intro w hSw; (try dsimp only at hSw); go_simp; first | done | with_reducible rfl)
        simp only [Act.put, List.setIfInBounds_toArray, List.set_cons_zero, List.set_cons_succ]
        refine wpAnyH_ready (rs := [9]) (by kernel_rfl) (by simp) ?_
        refine AllReadyH.cons (o := { dst := some 58, op := Op.call { callee := Callee.value (Operand.func 9), args := #[Operand.tmp 53, Operand.tmp 57], argTypes := #[22, 32] }, type := 3, pos := "nets.go:318", after := #[{ on := 4, ground := Ground.data }, { on := 8, ground := Ground.data }, { on := 2, ground := Ground.chain }, { on := 2, ground := Ground.guard }], guard := some (2, true) }) rfl (fun K hK => ?_) AllReadyH.nil
        go_simp
        go_at_call 9
        refine (places_any _ _ (nets M) n (by rw [nets_len]; omega) (HS2.out.below hHeld.2.2.2.2.2).m.n.arg).mono ?_
        rintro e w3' ⟨rfl, hb3⟩
        have KK0 := stHeld HR.out HS2.out (Below.two hHeld.2.2.2.2.2 hb3); clear hHeld hb3
        rw [hP]
        go_wp2_with fail
        refine hK.out _ _ KK0 (fun hHeld => ?_)
        clear hK K
        refine wpAnyH_take (i := 10) (oi := { dst := some 59, op := Op.binOp BinOp.lss 3 (Operand.tmp 58) (Operand.const (Value.int IntKind.i64 0)) 3, type := 4, pos := "nets.go:318", after := #[{ on := 9, ground := Ground.data }, { on := 2, ground := Ground.guard }], guard := some (2, true) }) (v := ?_) rfl (by kernel_rfl) (by kernel_rfl) (by kernel_rfl) (fun _ _ _ h => h) (Or.inl ⟨by rfl, ?_⟩) hHeld ?_
        rotate_left
        · (intro w hSw; (try dsimp only at hSw); go_simp; first | done | with_reducible rfl)
        simp only [Act.put, List.setIfInBounds_toArray, List.set_cons_zero, List.set_cons_succ]
        refine wpAnyH_take (i := 11) (oi := { dst := some 60, op := Op.pick (Operand.tmp 51) (Operand.tmp 59) (Operand.const (Value.bool false)), type := 4, pos := "nets.go:318", after := #[{ on := 2, ground := Ground.data }, { on := 10, ground := Ground.data }], guard := none }) (v := ?_) rfl (by kernel_rfl) (by kernel_rfl) (by kernel_rfl) (fun _ _ _ h => h) (Or.inl ⟨by rfl, ?_⟩) hHeld ?_
        rotate_left
        · (intro w hSw; (try dsimp only at hSw); go_simp; first | done | with_reducible rfl)
        simp only [Act.put, List.setIfInBounds_toArray, List.set_cons_zero, List.set_cons_succ]
        refine wpAnyH_done (by kernel_rfl) ?_ _
        have HS3 := Lib.hid (HS2.out.below hHeld.2.2.2.2.2)
        clear hHeld HS2
        have s0 := (HR.out.below HS3.out.be).c0
        have s1 := (HR.out.below HS3.out.be).c1
        have s2 := (HR.out.below HS3.out.be).ci
        go_wp2_with fail
        refine (get_any _ S w.heap.size f L n hx HS3.out.t).mono ?_
        rintro e w5 ⟨rfl, b5⟩
        rw [HG.out, if_neg (by decide)]
        have HS5 := Lib.hid (HS3.out.below b5)
        clear s0 s1 s2 b5 HS3
        go_wp2_with fail
        refine (sameErr_any 2 2 w5 (HE.out.below HS5.out.be)).mono ?_
        rintro e w6 ⟨rfl, b6⟩
        rw [beq_self_eq_true]
        have HS6 := Lib.hid (HS5.out.below b6)
        clear b6 HS5
        by_cases hz : 0 < z
        · have s2 := (HR.out.below HS6.out.be).ci
          go_upto_region 19 with fail
          clear s2
          go_cut [17, 18] from 31 to 151 (fun s17 s18 wc => ∃ B p1 m1 c1 p2 m2 c2, s17 = .pointer (some ⟨B, 0, none⟩) ∧ s18 = .bool r ∧ w6.heap.size ≤ B ∧ Hid (Box wc B (.slice p1 m1 c1) (.slice p2 m2 c2)) ∧ Hid (r = true → Own wc w6.heap.size (.slice p1 m1 c1) (nets (dropM M n ++ [(n, z)])) ∧ OwnI wc w6.heap.size (.slice p2 m2 c2) (vals (dropM M n ++ [(n, z)]))) ∧ Hid (Below w6.heap.size w6 wc))
          case first =>
            refine wp_region_held_drew (S := (fun w' => w'.cell? ⟨mb, 0, none⟩ = some (.slice pN M.length cN) ∧ w'.cell? ⟨mb, 1, none⟩ = some (.slice pV M.length cV) ∧ w'.cell? ⟨b, off + k * 2, none⟩ = some (.int .u32 (n.1 : Int)) ∧ w'.cell? ⟨b, off + k * 2 + 1, none⟩ = some (.int .i64 n.2) ∧ w'.cell? ⟨bi, oi + k, none⟩ = some (.int .i64 z) ∧ Below w6.heap.size w6 w')) (by kernel_rfl) (stHeld HR.out HS6.out (Below.refl _ _).drew) (fun hHeld => ?_)
            refine wpAnyH_take (i := 0) (oi := { dst := some 92, op := Op.load 28 (Operand.tmp 8), type := 28, pos := "nets.go:327", after := #[], guard := none }) (v := ?_) rfl (by kernel_rfl) (by kernel_rfl) (by kernel_rfl) (fun _ _ _ h => h) (Or.inl ⟨by rfl, ?_⟩) hHeld ?_
            rotate_left
            · (intro w hSw; (try dsimp only at hSw); go_simp; first | done | with_reducible rfl)
            simp only [Act.put, List.setIfInBounds_toArray, List.set_cons_zero, List.set_cons_succ]
            refine wpAnyH_take (i := 1) (oi := { dst := some 93, op := Op.move (Operand.tmp 0), type := 22, pos := "nets.go:327", after := #[], guard := none }) (v := ?_) rfl (by kernel_rfl) (by kernel_rfl) (by kernel_rfl) (fun _ _ _ h => h) (Or.inl ⟨by rfl, ?_⟩) hHeld ?_
            rotate_left
            · (intro w hSw; (try dsimp only at hSw); go_simp; first | done | with_reducible rfl)
            simp only [Act.put, List.setIfInBounds_toArray, List.set_cons_zero, List.set_cons_succ]
            refine wpAnyH_take (i := 2) (oi := { dst := some 94, op := Op.move (Operand.tmp 9), type := 3, pos := "nets.go:327", after := #[], guard := none }) (v := ?_) rfl (by kernel_rfl) (by kernel_rfl) (by kernel_rfl) (fun _ _ _ h => h) (Or.inl ⟨by rfl, ?_⟩) hHeld ?_
            rotate_left
            · (intro w hSw; (try dsimp only at hSw); go_simp; first | done | with_reducible rfl)
            simp only [Act.put, List.setIfInBounds_toArray, List.set_cons_zero, List.set_cons_succ]
            refine wpAnyH_take (i := 3) (oi := { dst := some 95, op := Op.indexAddr 22 (Operand.tmp 93) (Operand.tmp 94), type := 0, pos := "nets.go:327", after := #[{ on := 1, ground := Ground.data }, { on := 2, ground := Ground.data }], guard := none }) (v := ?_) rfl (by kernel_rfl) (by kernel_rfl) (by kernel_rfl) (fun _ _ _ h => h) (Or.inl ⟨by rfl, ?_⟩) hHeld ?_
            rotate_left
            · (intro w hSw; (try dsimp only at hSw); go_simp; first | done | with_reducible rfl)
            simp only [Act.put, List.setIfInBounds_toArray, List.set_cons_zero, List.set_cons_succ]
            refine wpAnyH_take (i := 4) (oi := { dst := some 96, op := Op.load 32 (Operand.tmp 95), type := 32, pos := "nets.go:327", after := #[{ on := 3, ground := Ground.data }], guard := none }) (v := ?_) rfl (by kernel_rfl) (by kernel_rfl) (by kernel_rfl) (fun _ _ _ h => h) (Or.inl ⟨by rfl, ?_⟩) hHeld ?_
            rotate_left
            · (intro w hSw; (try dsimp only at hSw); go_simp; first | done | with_reducible rfl)
            simp only [Act.put, List.setIfInBounds_toArray, List.set_cons_zero, List.set_cons_succ]
            refine wpAnyH_take (i := 5) (oi := { dst := some 97, op := Op.move (Operand.tmp 1), type := 23, pos := "nets.go:327", after := #[], guard := none }) (v := ?_) rfl (by kernel_rfl) (by kernel_rfl) (by kernel_rfl) (fun _ _ _ h => h) (Or.inl ⟨by rfl, ?_⟩) hHeld ?_
            rotate_left
            · (intro w hSw; (try dsimp only at hSw); go_simp; first | done | with_reducible rfl)
            simp only [Act.put, List.setIfInBounds_toArray, List.set_cons_zero, List.set_cons_succ]
            refine wpAnyH_take (i := 6) (oi := { dst := some 98, op := Op.move (Operand.tmp 9), type := 3, pos := "nets.go:327", after := #[], guard := none }) (v := ?_) rfl (by kernel_rfl) (by kernel_rfl) (by kernel_rfl) (fun _ _ _ h => h) (Or.inl ⟨by rfl, ?_⟩) hHeld ?_
            rotate_left
            · (intro w hSw; (try dsimp only at hSw); go_simp; first | done | with_reducible rfl)
            simp only [Act.put, List.setIfInBounds_toArray, List.set_cons_zero, List.set_cons_succ]
            refine wpAnyH_take (i := 7) (oi := { dst := some 99, op := Op.indexAddr 23 (Operand.tmp 97) (Operand.tmp 98), type := 0, pos := "nets.go:327", after := #[{ on := 5, ground := Ground.data }, { on := 6, ground := Ground.data }], guard := none }) (v := ?_) rfl (by kernel_rfl) (by kernel_rfl) (by kernel_rfl) (fun _ _ _ h => h) (Or.inl ⟨by rfl, ?_⟩) hHeld ?_
            rotate_left
            · (intro w hSw; (try dsimp only at hSw); go_simp; first | done | with_reducible rfl)
            simp only [Act.put, List.setIfInBounds_toArray, List.set_cons_zero, List.set_cons_succ]
            refine wpAnyH_take (i := 8) (oi := { dst := some 100, op := Op.load 3 (Operand.tmp 99), type := 3, pos := "nets.go:327", after := #[{ on := 7, ground := Ground.data }], guard := none }) (v := ?_) rfl (by kernel_rfl) (by kernel_rfl) (by kernel_rfl) (fun _ _ _ h => h) (Or.inl ⟨by rfl, ?_⟩) hHeld ?_
            rotate_left
            · (intro w hSw; (try dsimp only at hSw); go_simp; first | done | with_reducible rfl)
            simp only [Act.put, List.setIfInBounds_toArray, List.set_cons_zero, List.set_cons_succ]
            refine wpAnyH_ready (rs := [9, 13]) (by kernel_rfl) (by simp) ?_
            refine (AllReadyH.cons (o := { dst := some 101, op := Op.call { callee := Callee.value (Operand.func 12), args := #[Operand.tmp 92, Operand.tmp 96, Operand.tmp 100], argTypes := #[28, 32, 3] }, type := 39, pos := "nets.go:327", after := #[{ on := 0, ground := Ground.data }, { on := 4, ground := Ground.data }, { on := 8, ground := Ground.data }], guard := none }) rfl (fun K hK => ?_) (AllReadyH.cons (o := { dst := some 17, op := Op.alloc 28, type := 0, pos := "nets.go:327", after := #[], guard := none }) rfl (fun K hK => ?_) AllReadyH.nil))
            · go_simp
              go_at_call 12
              refine (putIn_any _ _ _ M n z (by omega) (HS6.out.below hHeld.2.2.2.2.2).m.n.arg (HS6.out.below hHeld.2.2.2.2.2).m.v.arg r HHR.out).mono ?_
              rintro e w9 ⟨p1, m1, c1, p2, m2, c2, rfl, HO, hb9⟩
              have bel := Below.two hHeld.2.2.2.2.2 hb9
              have KK9 := stHeld HR.out HS6.out bel
              clear hHeld hb9
              go_wp2_with fail
              refine hK.out _ _ KK9 (fun hHeld => ?_)
              clear hK K
              refine wpAnyH_take (i := 10) (oi := { dst := some 91, op := Op.move (Operand.tmp 101), type := 39, pos := "nets.go:327", after := #[{ on := 9, ground := Ground.data }], guard := none }) (v := ?_) rfl (by kernel_rfl) (by kernel_rfl) (by kernel_rfl) (fun _ _ _ h => h) (Or.inl ⟨by rfl, ?_⟩) hHeld ?_
              rotate_left
              · (intro w hSw; (try dsimp only at hSw); go_simp; first | done | with_reducible rfl)
              simp only [Act.put, List.setIfInBounds_toArray, List.set_cons_zero, List.set_cons_succ]
              refine wpAnyH_take (i := 11) (oi := { dst := some 102, op := Op.extract (Operand.tmp 91) 0, type := 28, pos := "nets.go:327", after := #[{ on := 10, ground := Ground.data }], guard := none }) (v := ?_) rfl (by kernel_rfl) (by kernel_rfl) (by kernel_rfl) (fun _ _ _ h => h) (Or.inl ⟨by rfl, ?_⟩) hHeld ?_
              rotate_left
              · (intro w hSw; (try dsimp only at hSw); go_simp; first | done | with_reducible rfl)
              simp only [Act.put, List.setIfInBounds_toArray, List.set_cons_zero, List.set_cons_succ]
              refine wpAnyH_take (i := 12) (oi := { dst := some 103, op := Op.extract (Operand.tmp 91) 1, type := 4, pos := "nets.go:327", after := #[{ on := 10, ground := Ground.data }, { on := 14, ground := Ground.gcOnly Departure.lateStores }], guard := none }) (v := ?_) rfl (by kernel_rfl) (by kernel_rfl) (by kernel_rfl) (fun _ _ _ h => h) (Or.inl ⟨by rfl, ?_⟩) hHeld ?_
              rotate_left
              · (intro w hSw; (try dsimp only at hSw); go_simp; first | done | with_reducible rfl)
              simp only [Act.put, List.setIfInBounds_toArray, List.set_cons_zero, List.set_cons_succ]
              refine wpAnyH_ready (rs := [13]) (by kernel_rfl) (by simp) ?_
              refine (AllReadyH.cons (o := { dst := some 17, op := Op.alloc 28, type := 0, pos := "nets.go:327", after := #[], guard := none }) rfl (fun K hK => ?_) AllReadyH.nil)
              go_simp
              have KK13 := stHeld HR.out HS6.out (hHeld.2.2.2.2.2.alloc hHeld.2.2.2.2.2.size (.cells #[.slice none 0 0, .slice none 0 0] 28))
              clear hHeld
              refine hK.out _ _ KK13 (fun hHeld => ?_)
              clear hK K
              refine wpAnyH_ready (rs := [14]) (by kernel_rfl) (by simp) ?_
              refine (AllReadyH.cons (o := { dst := none, op := Op.store 28 (Operand.tmp 17) (Operand.tmp 102), type := 0, pos := "nets.go:327", after := #[{ on := 13, ground := Ground.data }, { on := 11, ground := Ground.data }, { on := 9, ground := Ground.chain }, { on := 0, ground := Ground.phase }, { on := 1, ground := Ground.phase }, { on := 2, ground := Ground.phase }, { on := 3, ground := Ground.phase }, { on := 4, ground := Ground.phase }, { on := 5, ground := Ground.phase }, { on := 6, ground := Ground.phase }, { on := 7, ground := Ground.phase }, { on := 8, ground := Ground.phase }, { on := 9, ground := Ground.phase }, { on := 10, ground := Ground.phase }, { on := 11, ground := Ground.phase }, { on := 12, ground := Ground.textOnly Departure.lateStores }, { on := 13, ground := Ground.phase }], guard := none }) rfl (fun K hK => ?_) AllReadyH.nil)
              go_simp
              have KK14 := stHeld HR.out HS6.out (bel.alloc bel.size (.cells #[.slice p1 m1 c1, .slice p2 m2 c2] 28))
              clear hHeld
              refine hK.out _ _ KK14 (fun hHeld => ?_)
              clear hK K
              refine wpAnyH_take (i := 15) (oi := { dst := some 18, op := Op.assign (Operand.tmp 103), type := 4, pos := "nets.go:327", after := #[{ on := 12, ground := Ground.data }, { on := 14, ground := Ground.chain }, { on := 0, ground := Ground.phase }, { on := 1, ground := Ground.phase }, { on := 2, ground := Ground.phase }, { on := 3, ground := Ground.phase }, { on := 4, ground := Ground.phase }, { on := 5, ground := Ground.phase }, { on := 6, ground := Ground.phase }, { on := 7, ground := Ground.phase }, { on := 8, ground := Ground.phase }, { on := 9, ground := Ground.phase }, { on := 10, ground := Ground.phase }, { on := 11, ground := Ground.phase }, { on := 12, ground := Ground.phase }, { on := 13, ground := Ground.phase }, { on := 14, ground := Ground.phase }], guard := none }) (v := ?_) rfl (by kernel_rfl) (by kernel_rfl) (by kernel_rfl) (fun _ _ _ h => h) (Or.inl ⟨by rfl, ?_⟩) hHeld ?_
              rotate_left
              · (intro w hSw; (try dsimp only at hSw); go_simp; first | done | with_reducible rfl)
              simp only [Act.put, List.setIfInBounds_toArray, List.set_cons_zero, List.set_cons_succ]
              refine wpAnyH_done (by kernel_rfl) ?_ _
              go_wp2_with fail
              go_meet
              case rel => exact ⟨w9.heap.size, p1, m1, c1, p2, m2, c2, rfl, rfl, bel.size, Lib.hid (Box.new w9 _ _ _), Lib.hid (fun e => ⟨(HO.out e).1.keep ((Below.refl _ _).alloc (Nat.le_refl _) _), (HO.out e).2.keep ((Below.refl _ _).alloc (Nat.le_refl _) _)⟩), Lib.hid (bel.alloc bel.size _)⟩
            · go_simp
              have KK13 := stHeld HR.out HS6.out (hHeld.2.2.2.2.2.alloc hHeld.2.2.2.2.2.size (.cells #[.slice none 0 0, .slice none 0 0] 28))
              clear hHeld
              refine hK.out _ _ KK13 (fun hHeld => ?_)
              clear hK K
              refine wpAnyH_ready (rs := [9]) (by kernel_rfl) (by simp) ?_
              refine (AllReadyH.cons (o := { dst := some 101, op := Op.call { callee := Callee.value (Operand.func 12), args := #[Operand.tmp 92, Operand.tmp 96, Operand.tmp 100], argTypes := #[28, 32, 3] }, type := 39, pos := "nets.go:327", after := #[{ on := 0, ground := Ground.data }, { on := 4, ground := Ground.data }, { on := 8, ground := Ground.data }], guard := none }) rfl (fun K hK => ?_) AllReadyH.nil)
              go_simp
              go_at_call 12
              refine (putIn_any _ _ _ M n z (by omega) (HS6.out.below hHeld.2.2.2.2.2).m.n.arg (HS6.out.below hHeld.2.2.2.2.2).m.v.arg r HHR.out).mono ?_
              rintro e w9 ⟨p1, m1, c1, p2, m2, c2, rfl, HO, hb9⟩
              obtain ⟨BX', _⟩ := box1 (w := w6.drew) hb9
              have BX : Box w9 w6.heap.size (.slice none 0 0) (.slice none 0 0) := BX'
              clear BX'
              have bel := Below.two hHeld.2.2.2.2.2 hb9
              have KK9 := stHeld HR.out HS6.out bel
              clear hHeld hb9
              obtain ⟨l6, k0, k1, j0, j1⟩ := id BX
              go_wp2_with fail
              refine hK.out _ _ KK9 (fun hHeld => ?_)
              clear hK K
              refine wpAnyH_take (i := 10) (oi := { dst := some 91, op := Op.move (Operand.tmp 101), type := 39, pos := "nets.go:327", after := #[{ on := 9, ground := Ground.data }], guard := none }) (v := ?_) rfl (by kernel_rfl) (by kernel_rfl) (by kernel_rfl) (fun _ _ _ h => h) (Or.inl ⟨by rfl, ?_⟩) hHeld ?_
              rotate_left
              · (intro w hSw; (try dsimp only at hSw); go_simp; first | done | with_reducible rfl)
              simp only [Act.put, List.setIfInBounds_toArray, List.set_cons_zero, List.set_cons_succ]
              refine wpAnyH_take (i := 11) (oi := { dst := some 102, op := Op.extract (Operand.tmp 91) 0, type := 28, pos := "nets.go:327", after := #[{ on := 10, ground := Ground.data }], guard := none }) (v := ?_) rfl (by kernel_rfl) (by kernel_rfl) (by kernel_rfl) (fun _ _ _ h => h) (Or.inl ⟨by rfl, ?_⟩) hHeld ?_
              rotate_left
              · (intro w hSw; (try dsimp only at hSw); go_simp; first | done | with_reducible rfl)
              simp only [Act.put, List.setIfInBounds_toArray, List.set_cons_zero, List.set_cons_succ]
              refine wpAnyH_take (i := 12) (oi := { dst := some 103, op := Op.extract (Operand.tmp 91) 1, type := 4, pos := "nets.go:327", after := #[{ on := 10, ground := Ground.data }, { on := 14, ground := Ground.gcOnly Departure.lateStores }], guard := none }) (v := ?_) rfl (by kernel_rfl) (by kernel_rfl) (by kernel_rfl) (fun _ _ _ h => h) (Or.inl ⟨by rfl, ?_⟩) hHeld ?_
              rotate_left
              · (intro w hSw; (try dsimp only at hSw); go_simp; first | done | with_reducible rfl)
              simp only [Act.put, List.setIfInBounds_toArray, List.set_cons_zero, List.set_cons_succ]
              refine wpAnyH_ready (rs := [14]) (by kernel_rfl) (by simp) ?_
              refine (AllReadyH.cons (o := { dst := none, op := Op.store 28 (Operand.tmp 17) (Operand.tmp 102), type := 0, pos := "nets.go:327", after := #[{ on := 13, ground := Ground.data }, { on := 11, ground := Ground.data }, { on := 9, ground := Ground.chain }, { on := 0, ground := Ground.phase }, { on := 1, ground := Ground.phase }, { on := 2, ground := Ground.phase }, { on := 3, ground := Ground.phase }, { on := 4, ground := Ground.phase }, { on := 5, ground := Ground.phase }, { on := 6, ground := Ground.phase }, { on := 7, ground := Ground.phase }, { on := 8, ground := Ground.phase }, { on := 9, ground := Ground.phase }, { on := 10, ground := Ground.phase }, { on := 11, ground := Ground.phase }, { on := 12, ground := Ground.textOnly Departure.lateStores }, { on := 13, ground := Ground.phase }], guard := none }) rfl (fun K hK => ?_) AllReadyH.nil)
              go_simp
              have KK14 := stHeld HR.out HS6.out ((bel.setCell (p := ⟨w6.heap.size, 0, none⟩) (Nat.le_refl _) (.slice p1 m1 c1)).setCell (p := ⟨w6.heap.size, 1, none⟩) (Nat.le_refl _) (.slice p2 m2 c2))
              clear hHeld
              refine hK.out _ _ KK14 (fun hHeld => ?_)
              clear hK K
              refine wpAnyH_take (i := 15) (oi := { dst := some 18, op := Op.assign (Operand.tmp 103), type := 4, pos := "nets.go:327", after := #[{ on := 12, ground := Ground.data }, { on := 14, ground := Ground.chain }, { on := 0, ground := Ground.phase }, { on := 1, ground := Ground.phase }, { on := 2, ground := Ground.phase }, { on := 3, ground := Ground.phase }, { on := 4, ground := Ground.phase }, { on := 5, ground := Ground.phase }, { on := 6, ground := Ground.phase }, { on := 7, ground := Ground.phase }, { on := 8, ground := Ground.phase }, { on := 9, ground := Ground.phase }, { on := 10, ground := Ground.phase }, { on := 11, ground := Ground.phase }, { on := 12, ground := Ground.phase }, { on := 13, ground := Ground.phase }, { on := 14, ground := Ground.phase }], guard := none }) (v := ?_) rfl (by kernel_rfl) (by kernel_rfl) (by kernel_rfl) (fun _ _ _ h => h) (Or.inl ⟨by rfl, ?_⟩) hHeld ?_
              rotate_left
              · (intro w hSw; (try dsimp only at hSw); go_simp; first | done | with_reducible rfl)
              simp only [Act.put, List.setIfInBounds_toArray, List.set_cons_zero, List.set_cons_succ]
              refine wpAnyH_done (by kernel_rfl) ?_ _
              go_wp2_with fail
              go_meet
              case rel => exact ⟨w6.heap.size, p1, m1, c1, p2, m2, c2, rfl, rfl, Nat.le_refl _, Lib.hid (BX.set _ _), Lib.hid (fun e => ⟨Own.down (ownsRow_setCell_below (ownsRow_setCell_below (HO.out e).1 (a := ⟨w6.heap.size, 0, none⟩) (by simp) _) (a := ⟨w6.heap.size, 1, none⟩) (by simp) _) (by simp), OwnI.down (ownsRow_setCell_below (ownsRow_setCell_below (HO.out e).2 (a := ⟨w6.heap.size, 0, none⟩) (by simp) _) (a := ⟨w6.heap.size, 1, none⟩) (by simp) _) (by simp)⟩), Lib.hid ((bel.setCell (p := ⟨w6.heap.size, 0, none⟩) (Nat.le_refl _) _).setCell (p := ⟨w6.heap.size, 1, none⟩) (Nat.le_refl _) _)⟩
          case rest =>
            obtain ⟨B, p1, m1, c1, p2, m2, c2, rfl, rfl, hB, HX, HO, HD⟩ := hcut
            have HSc := Lib.hid (HS6.out.below HD.out)
            have HLT := Lib.hid (show (∀ b, S b → b < w6.heap.size) ∧ mb < w6.heap.size from ⟨HS6.out.t.lt, HS6.out.bx.lt⟩)
            clear HD HS6
            cases r
            · have HPE : Hid (putE f L n = 4) := Lib.hid (by rw [hpE]; rfl)
              clear hpE
              go_wp2_with fail
              refine wp_region_held_drew (S := (fun w' => w'.cell? ⟨b, off + k * 2, none⟩ = some (.int .u32 (n.1 : Int)) ∧ w'.cell? ⟨b, off + k * 2 + 1, none⟩ = some (.int .i64 n.2) ∧ w'.cell? ⟨bi, oi + k, none⟩ = some (.int .i64 z))) (by kernel_rfl) (rdHeld HR.out HSc.out.drew.be) (fun hHeld => ?_)
              refine wpAnyH_take (i := 0) (oi := { dst := some 110, op := Op.move (Operand.tmp 7), type := 25, pos := "nets.go:331", after := #[], guard := none }) (v := ?_) rfl (by kernel_rfl) (by kernel_rfl) (by kernel_rfl) (fun _ _ _ h => h) (Or.inl ⟨by rfl, ?_⟩) hHeld ?_
              rotate_left
              · (intro w hSw; (try dsimp only at hSw); go_simp; first | done | with_reducible rfl)
              simp only [Act.put, List.setIfInBounds_toArray, List.set_cons_zero, List.set_cons_succ]
              refine wpAnyH_take (i := 1) (oi := { dst := some 111, op := Op.move (Operand.tmp 0), type := 22, pos := "nets.go:331", after := #[], guard := none }) (v := ?_) rfl (by kernel_rfl) (by kernel_rfl) (by kernel_rfl) (fun _ _ _ h => h) (Or.inl ⟨by rfl, ?_⟩) hHeld ?_
              rotate_left
              · (intro w hSw; (try dsimp only at hSw); go_simp; first | done | with_reducible rfl)
              simp only [Act.put, List.setIfInBounds_toArray, List.set_cons_zero, List.set_cons_succ]
              refine wpAnyH_take (i := 2) (oi := { dst := some 112, op := Op.move (Operand.tmp 9), type := 3, pos := "nets.go:331", after := #[], guard := none }) (v := ?_) rfl (by kernel_rfl) (by kernel_rfl) (by kernel_rfl) (fun _ _ _ h => h) (Or.inl ⟨by rfl, ?_⟩) hHeld ?_
              rotate_left
              · (intro w hSw; (try dsimp only at hSw); go_simp; first | done | with_reducible rfl)
              simp only [Act.put, List.setIfInBounds_toArray, List.set_cons_zero, List.set_cons_succ]
              refine wpAnyH_take (i := 3) (oi := { dst := some 113, op := Op.indexAddr 22 (Operand.tmp 111) (Operand.tmp 112), type := 0, pos := "nets.go:331", after := #[{ on := 1, ground := Ground.data }, { on := 2, ground := Ground.data }], guard := none }) (v := ?_) rfl (by kernel_rfl) (by kernel_rfl) (by kernel_rfl) (fun _ _ _ h => h) (Or.inl ⟨by rfl, ?_⟩) hHeld ?_
              rotate_left
              · (intro w hSw; (try dsimp only at hSw); go_simp; first | done | with_reducible rfl)
              simp only [Act.put, List.setIfInBounds_toArray, List.set_cons_zero, List.set_cons_succ]
              refine wpAnyH_take (i := 4) (oi := { dst := some 114, op := Op.load 32 (Operand.tmp 113), type := 32, pos := "nets.go:331", after := #[{ on := 3, ground := Ground.data }], guard := none }) (v := ?_) rfl (by kernel_rfl) (by kernel_rfl) (by kernel_rfl) (fun _ _ _ h => h) (Or.inl ⟨by rfl, ?_⟩) hHeld ?_
              rotate_left
              · (intro w hSw; (try dsimp only at hSw); go_simp; first | done | with_reducible rfl)
              simp only [Act.put, List.setIfInBounds_toArray, List.set_cons_zero, List.set_cons_succ]
              refine wpAnyH_take (i := 5) (oi := { dst := some 115, op := Op.move (Operand.tmp 1), type := 23, pos := "nets.go:331", after := #[], guard := none }) (v := ?_) rfl (by kernel_rfl) (by kernel_rfl) (by kernel_rfl) (fun _ _ _ h => h) (Or.inl ⟨by rfl, ?_⟩) hHeld ?_
              rotate_left
              · (intro w hSw; (try dsimp only at hSw); go_simp; first | done | with_reducible rfl)
              simp only [Act.put, List.setIfInBounds_toArray, List.set_cons_zero, List.set_cons_succ]
              refine wpAnyH_take (i := 6) (oi := { dst := some 116, op := Op.move (Operand.tmp 9), type := 3, pos := "nets.go:331", after := #[], guard := none }) (v := ?_) rfl (by kernel_rfl) (by kernel_rfl) (by kernel_rfl) (fun _ _ _ h => h) (Or.inl ⟨by rfl, ?_⟩) hHeld ?_
              rotate_left
              · (intro w hSw; (try dsimp only at hSw); go_simp; first | done | with_reducible rfl)
              simp only [Act.put, List.setIfInBounds_toArray, List.set_cons_zero, List.set_cons_succ]
              refine wpAnyH_take (i := 7) (oi := { dst := some 117, op := Op.indexAddr 23 (Operand.tmp 115) (Operand.tmp 116), type := 0, pos := "nets.go:331", after := #[{ on := 5, ground := Ground.data }, { on := 6, ground := Ground.data }], guard := none }) (v := ?_) rfl (by kernel_rfl) (by kernel_rfl) (by kernel_rfl) (fun _ _ _ h => h) (Or.inl ⟨by rfl, ?_⟩) hHeld ?_
              rotate_left
              · (intro w hSw; (try dsimp only at hSw); go_simp; first | done | with_reducible rfl)
              simp only [Act.put, List.setIfInBounds_toArray, List.set_cons_zero, List.set_cons_succ]
              refine wpAnyH_take (i := 8) (oi := { dst := some 118, op := Op.load 3 (Operand.tmp 117), type := 3, pos := "nets.go:331", after := #[{ on := 7, ground := Ground.data }], guard := none }) (v := ?_) rfl (by kernel_rfl) (by kernel_rfl) (by kernel_rfl) (fun _ _ _ h => h) (Or.inl ⟨by rfl, ?_⟩) hHeld ?_
              rotate_left
              · (intro w hSw; (try dsimp only at hSw); go_simp; first | done | with_reducible rfl)
              simp only [Act.put, List.setIfInBounds_toArray, List.set_cons_zero, List.set_cons_succ]
              refine wpAnyH_take (i := 10) (oi := { dst := some 120, op := Op.move (Operand.tmp 10), type := 29, pos := "nets.go:331", after := #[], guard := none }) (v := ?_) rfl (by kernel_rfl) (by kernel_rfl) (by kernel_rfl) (fun _ _ _ h => h) (Or.inl ⟨by rfl, ?_⟩) hHeld ?_
              rotate_left
              · (intro w hSw; (try dsimp only at hSw); go_simp; first | done | with_reducible rfl)
              simp only [Act.put, List.setIfInBounds_toArray, List.set_cons_zero, List.set_cons_succ]
              refine wpAnyH_ready (rs := [9]) (by kernel_rfl) (by simp) ?_
              refine AllReadyH.cons (o := { dst := some 119, op := Op.call { callee := Callee.value (Operand.func 13), args := #[Operand.tmp 110, Operand.tmp 114, Operand.tmp 118], argTypes := #[25, 32, 3] }, type := 35, pos := "nets.go:331", after := #[{ on := 0, ground := Ground.data }, { on := 4, ground := Ground.data }, { on := 8, ground := Ground.data }], guard := none }) rfl (fun K hK => ?_) AllReadyH.nil
              go_simp
              go_at_call 13
              refine (put_any _ S w.heap.size f L n z hx HSc.out.drew.t).mono ?_
              rintro e w9 ⟨rfl, ⟨L9, T9⟩, K9⟩
              rw [HPE.out] 
              have HS9 := Lib.hid (HSc.out.drew.put K9 T9)
              have HK9 := Lib.hid K9
              have KK0 := rdHeld HR.out HS9.out.be; clear hHeld T9 K9
              go_wp2_with fail
              refine hK.out _ _ KK0 (fun hHeld => ?_)
              clear hK K
              refine wpAnyH_ready (rs := [11]) (by kernel_rfl) (by simp) ?_
              refine AllReadyH.cons (o := { dst := some 121, op := Op.call { callee := Callee.value (Operand.func 11), args := #[Operand.tmp 119, Operand.tmp 120], argTypes := #[35, 29] }, type := 4, pos := "nets.go:331", after := #[{ on := 9, ground := Ground.data }, { on := 10, ground := Ground.data }, { on := 9, ground := Ground.chain }], guard := none }) rfl (fun K hK => ?_) AllReadyH.nil
              go_simp
              go_at_call 11
              refine (sameErr_any 4 4 _ (HE.out.below HS9.out.be)).mono ?_
              rintro e w10 ⟨rfl, b10⟩
              rw [beq_self_eq_true]
              have HS10 := Lib.hid (HS9.out.below b10); have HB10 := Lib.hid b10
              have KK1 := rdHeld HR.out HS10.out.be; clear hHeld b10
              go_wp2_with fail
              refine hK.out _ _ KK1 (fun hHeld => ?_)
              clear hK K
              refine wpAnyH_take (i := 12) (oi := { dst := some 16, op := Op.assign (Operand.tmp 121), type := 4, pos := "nets.go:331", after := #[{ on := 11, ground := Ground.data }, { on := 11, ground := Ground.chain }, { on := 0, ground := Ground.phase }, { on := 1, ground := Ground.phase }, { on := 2, ground := Ground.phase }, { on := 3, ground := Ground.phase }, { on := 4, ground := Ground.phase }, { on := 5, ground := Ground.phase }, { on := 6, ground := Ground.phase }, { on := 7, ground := Ground.phase }, { on := 8, ground := Ground.phase }, { on := 9, ground := Ground.phase }, { on := 10, ground := Ground.phase }, { on := 11, ground := Ground.phase }], guard := none }) (v := ?_) rfl (by kernel_rfl) (by kernel_rfl) (by kernel_rfl) (fun _ _ _ h => h) (Or.inl ⟨by rfl, ?_⟩) hHeld ?_
              rotate_left
              · (intro w hSw; (try dsimp only at hSw); go_simp; first | done | with_reducible rfl)
              simp only [Act.put, List.setIfInBounds_toArray, List.set_cons_zero, List.set_cons_succ]
              refine wpAnyH_done (by kernel_rfl) ?_ _
              clear hHeld
              clear HX HO HLT
              go_wp2_with fail
              go_roundw
              case rel => exact ⟨k + 1, _, _, L9, _, _, M, by go_num, by omega, by omega, HS10, Lib.hid (by unfold putF; rw [if_neg (by rw [HPE.out]; decide)]; exact HM.out)⟩
              case measure => simp [RowKit.intOf]; omega
            · have HPE : Hid (putE f L n = 0) := Lib.hid (by rw [hpE]; rfl)
              clear hpE
              go_wp2_with fail
              refine wp_region_held_drew (S := (fun w' => w'.cell? ⟨b, off + k * 2, none⟩ = some (.int .u32 (n.1 : Int)) ∧ w'.cell? ⟨b, off + k * 2 + 1, none⟩ = some (.int .i64 n.2) ∧ w'.cell? ⟨bi, oi + k, none⟩ = some (.int .i64 z))) (by kernel_rfl) (rdHeld HR.out HSc.out.drew.be) (fun hHeld => ?_)
              refine wpAnyH_take (i := 0) (oi := { dst := some 110, op := Op.move (Operand.tmp 7), type := 25, pos := "nets.go:331", after := #[], guard := none }) (v := ?_) rfl (by kernel_rfl) (by kernel_rfl) (by kernel_rfl) (fun _ _ _ h => h) (Or.inl ⟨by rfl, ?_⟩) hHeld ?_
              rotate_left
              · (intro w hSw; (try dsimp only at hSw); go_simp; first | done | with_reducible rfl)
              simp only [Act.put, List.setIfInBounds_toArray, List.set_cons_zero, List.set_cons_succ]
              refine wpAnyH_take (i := 1) (oi := { dst := some 111, op := Op.move (Operand.tmp 0), type := 22, pos := "nets.go:331", after := #[], guard := none }) (v := ?_) rfl (by kernel_rfl) (by kernel_rfl) (by kernel_rfl) (fun _ _ _ h => h) (Or.inl ⟨by rfl, ?_⟩) hHeld ?_
              rotate_left
              · (intro w hSw; (try dsimp only at hSw); go_simp; first | done | with_reducible rfl)
              simp only [Act.put, List.setIfInBounds_toArray, List.set_cons_zero, List.set_cons_succ]
              refine wpAnyH_take (i := 2) (oi := { dst := some 112, op := Op.move (Operand.tmp 9), type := 3, pos := "nets.go:331", after := #[], guard := none }) (v := ?_) rfl (by kernel_rfl) (by kernel_rfl) (by kernel_rfl) (fun _ _ _ h => h) (Or.inl ⟨by rfl, ?_⟩) hHeld ?_
              rotate_left
              · (intro w hSw; (try dsimp only at hSw); go_simp; first | done | with_reducible rfl)
              simp only [Act.put, List.setIfInBounds_toArray, List.set_cons_zero, List.set_cons_succ]
              refine wpAnyH_take (i := 3) (oi := { dst := some 113, op := Op.indexAddr 22 (Operand.tmp 111) (Operand.tmp 112), type := 0, pos := "nets.go:331", after := #[{ on := 1, ground := Ground.data }, { on := 2, ground := Ground.data }], guard := none }) (v := ?_) rfl (by kernel_rfl) (by kernel_rfl) (by kernel_rfl) (fun _ _ _ h => h) (Or.inl ⟨by rfl, ?_⟩) hHeld ?_
              rotate_left
              · (intro w hSw; (try dsimp only at hSw); go_simp; first | done | with_reducible rfl)
              simp only [Act.put, List.setIfInBounds_toArray, List.set_cons_zero, List.set_cons_succ]
              refine wpAnyH_take (i := 4) (oi := { dst := some 114, op := Op.load 32 (Operand.tmp 113), type := 32, pos := "nets.go:331", after := #[{ on := 3, ground := Ground.data }], guard := none }) (v := ?_) rfl (by kernel_rfl) (by kernel_rfl) (by kernel_rfl) (fun _ _ _ h => h) (Or.inl ⟨by rfl, ?_⟩) hHeld ?_
              rotate_left
              · (intro w hSw; (try dsimp only at hSw); go_simp; first | done | with_reducible rfl)
              simp only [Act.put, List.setIfInBounds_toArray, List.set_cons_zero, List.set_cons_succ]
              refine wpAnyH_take (i := 5) (oi := { dst := some 115, op := Op.move (Operand.tmp 1), type := 23, pos := "nets.go:331", after := #[], guard := none }) (v := ?_) rfl (by kernel_rfl) (by kernel_rfl) (by kernel_rfl) (fun _ _ _ h => h) (Or.inl ⟨by rfl, ?_⟩) hHeld ?_
              rotate_left
              · (intro w hSw; (try dsimp only at hSw); go_simp; first | done | with_reducible rfl)
              simp only [Act.put, List.setIfInBounds_toArray, List.set_cons_zero, List.set_cons_succ]
              refine wpAnyH_take (i := 6) (oi := { dst := some 116, op := Op.move (Operand.tmp 9), type := 3, pos := "nets.go:331", after := #[], guard := none }) (v := ?_) rfl (by kernel_rfl) (by kernel_rfl) (by kernel_rfl) (fun _ _ _ h => h) (Or.inl ⟨by rfl, ?_⟩) hHeld ?_
              rotate_left
              · (intro w hSw; (try dsimp only at hSw); go_simp; first | done | with_reducible rfl)
              simp only [Act.put, List.setIfInBounds_toArray, List.set_cons_zero, List.set_cons_succ]
              refine wpAnyH_take (i := 7) (oi := { dst := some 117, op := Op.indexAddr 23 (Operand.tmp 115) (Operand.tmp 116), type := 0, pos := "nets.go:331", after := #[{ on := 5, ground := Ground.data }, { on := 6, ground := Ground.data }], guard := none }) (v := ?_) rfl (by kernel_rfl) (by kernel_rfl) (by kernel_rfl) (fun _ _ _ h => h) (Or.inl ⟨by rfl, ?_⟩) hHeld ?_
              rotate_left
              · (intro w hSw; (try dsimp only at hSw); go_simp; first | done | with_reducible rfl)
              simp only [Act.put, List.setIfInBounds_toArray, List.set_cons_zero, List.set_cons_succ]
              refine wpAnyH_take (i := 8) (oi := { dst := some 118, op := Op.load 3 (Operand.tmp 117), type := 3, pos := "nets.go:331", after := #[{ on := 7, ground := Ground.data }], guard := none }) (v := ?_) rfl (by kernel_rfl) (by kernel_rfl) (by kernel_rfl) (fun _ _ _ h => h) (Or.inl ⟨by rfl, ?_⟩) hHeld ?_
              rotate_left
              · (intro w hSw; (try dsimp only at hSw); go_simp; first | done | with_reducible rfl)
              simp only [Act.put, List.setIfInBounds_toArray, List.set_cons_zero, List.set_cons_succ]
              refine wpAnyH_take (i := 10) (oi := { dst := some 120, op := Op.move (Operand.tmp 10), type := 29, pos := "nets.go:331", after := #[], guard := none }) (v := ?_) rfl (by kernel_rfl) (by kernel_rfl) (by kernel_rfl) (fun _ _ _ h => h) (Or.inl ⟨by rfl, ?_⟩) hHeld ?_
              rotate_left
              · (intro w hSw; (try dsimp only at hSw); go_simp; first | done | with_reducible rfl)
              simp only [Act.put, List.setIfInBounds_toArray, List.set_cons_zero, List.set_cons_succ]
              refine wpAnyH_ready (rs := [9]) (by kernel_rfl) (by simp) ?_
              refine AllReadyH.cons (o := { dst := some 119, op := Op.call { callee := Callee.value (Operand.func 13), args := #[Operand.tmp 110, Operand.tmp 114, Operand.tmp 118], argTypes := #[25, 32, 3] }, type := 35, pos := "nets.go:331", after := #[{ on := 0, ground := Ground.data }, { on := 4, ground := Ground.data }, { on := 8, ground := Ground.data }], guard := none }) rfl (fun K hK => ?_) AllReadyH.nil
              go_simp
              go_at_call 13
              refine (put_any _ S w.heap.size f L n z hx HSc.out.drew.t).mono ?_
              rintro e w9 ⟨rfl, ⟨L9, T9⟩, K9⟩
              rw [HPE.out] 
              have HS9 := Lib.hid (HSc.out.drew.put K9 T9)
              have HK9 := Lib.hid K9
              have KK0 := rdHeld HR.out HS9.out.be; clear hHeld T9 K9
              go_wp2_with fail
              refine hK.out _ _ KK0 (fun hHeld => ?_)
              clear hK K
              refine wpAnyH_ready (rs := [11]) (by kernel_rfl) (by simp) ?_
              refine AllReadyH.cons (o := { dst := some 121, op := Op.call { callee := Callee.value (Operand.func 11), args := #[Operand.tmp 119, Operand.tmp 120], argTypes := #[35, 29] }, type := 4, pos := "nets.go:331", after := #[{ on := 9, ground := Ground.data }, { on := 10, ground := Ground.data }, { on := 9, ground := Ground.chain }], guard := none }) rfl (fun K hK => ?_) AllReadyH.nil
              go_simp
              go_at_call 11
              refine (sameErr_any 0 0 _ (HE.out.below HS9.out.be)).mono ?_
              rintro e w10 ⟨rfl, b10⟩
              rw [beq_self_eq_true]
              have HS10 := Lib.hid (HS9.out.below b10); have HB10 := Lib.hid b10
              have KK1 := rdHeld HR.out HS10.out.be; clear hHeld b10
              go_wp2_with fail
              refine hK.out _ _ KK1 (fun hHeld => ?_)
              clear hK K
              refine wpAnyH_take (i := 12) (oi := { dst := some 16, op := Op.assign (Operand.tmp 121), type := 4, pos := "nets.go:331", after := #[{ on := 11, ground := Ground.data }, { on := 11, ground := Ground.chain }, { on := 0, ground := Ground.phase }, { on := 1, ground := Ground.phase }, { on := 2, ground := Ground.phase }, { on := 3, ground := Ground.phase }, { on := 4, ground := Ground.phase }, { on := 5, ground := Ground.phase }, { on := 6, ground := Ground.phase }, { on := 7, ground := Ground.phase }, { on := 8, ground := Ground.phase }, { on := 9, ground := Ground.phase }, { on := 10, ground := Ground.phase }, { on := 11, ground := Ground.phase }], guard := none }) (v := ?_) rfl (by kernel_rfl) (by kernel_rfl) (by kernel_rfl) (fun _ _ _ h => h) (Or.inl ⟨by rfl, ?_⟩) hHeld ?_
              rotate_left
              · (intro w hSw; (try dsimp only at hSw); go_simp; first | done | with_reducible rfl)
              simp only [Act.put, List.setIfInBounds_toArray, List.set_cons_zero, List.set_cons_succ]
              refine wpAnyH_done (by kernel_rfl) ?_ _
              clear hHeld
              have HMT := Lib.hid (((MT.of (HO.out (by trivial)).1 (HO.out (by trivial)).2 HLT.out.1 HLT.out.2).below (Below.refl _ _).drew).keep HK9.out |>.below HB10.out)
              have hBS : ¬ S B := fun e => by have := HLT.out.1 _ e; omega
              have HX10 := Lib.hid ((HX.out.drew1.keepS HK9.out hBS).kept HB10.out)
              obtain ⟨_, k0, k1, _, _⟩ := HX10.out
              obtain ⟨_, j0, j1, i0, i1⟩ := HS10.out.bx
              clear HX HO
              go_wp2_with fail
              go_roundw
              case rel => exact ⟨k + 1, _, _, L9, _, _, (dropM M n ++ [(n, z)]), by go_num, by omega, by omega, Lib.hid (HS10.out.set HMT.out), Lib.hid (by unfold putF; rw [if_pos HPE.out]; exact HM.out.put n z)⟩
              case measure => simp [RowKit.intOf]; omega
        · have s0 := (HR.out.below HS6.out.be).c0
          have s1 := (HR.out.below HS6.out.be).c1
          have s2 := (HR.out.below HS6.out.be).ci
          go_wp2_with fail
          refine (drop_any _ S w.heap.size f L n hx HS6.out.t).mono ?_
          rintro e w9 ⟨rfl, ⟨L9, T9⟩, K9⟩
          rw [HG.out]
          have HS9 := Lib.hid (HS6.out.drop K9 T9)
          clear T9 K9 s0 s1 s2
          go_wp2_with fail
          refine (sameErr_any 2 2 _ (HE.out.below HS9.out.be)).mono ?_
          rintro e w10 ⟨rfl, b10⟩
          rw [beq_self_eq_true]
          have HS10 := Lib.hid (HS9.out.below b10)
          clear b10 HS9
          go_wp2_with fail
          go_roundw
          case rel => exact ⟨k + 1, _, _, L9, _, _, M, by go_num, by omega, by omega, HS10, Lib.hid (by unfold dropF; rw [if_neg (by rw [HG.out]; decide)]; exact HM.out)⟩
          case measure => simp [RowKit.intOf]; omega
      · rw [if_pos hc] at hpE
        rw [hc]
        obtain ⟨j, hP, hj, hfv⟩ := HM.out.place n hn
        obtain ⟨bv, ov, hpv⟩ := stPtr HS2.out (by omega)
        subst hpv
        generalize hy : (vals M)[j]! = y at hfv
        have HY := Lib.hid hy; have HFV := Lib.hid hfv; have HG := Lib.hid hg; have HN := Lib.hid hn; have HC := Lib.hid hc
        clear hy hfv hg hn hc
        go_wp2_with fail
        refine wp_region_held_drew (S := (fun w' => w'.cell? ⟨mb, 0, none⟩ = some (.slice pN M.length cN) ∧ w'.cell? ⟨mb, 1, none⟩ = some (.slice (some ⟨bv, ov, none⟩) M.length cV) ∧ w'.cell? ⟨b, off + k * 2, none⟩ = some (.int .u32 (n.1 : Int)) ∧ w'.cell? ⟨b, off + k * 2 + 1, none⟩ = some (.int .i64 n.2) ∧ w'.cell? ⟨bi, oi + k, none⟩ = some (.int .i64 z) ∧ Below w2.heap.size w2 w')) (by kernel_rfl) (stHeld HR.out HS2.out (Below.refl _ _).drew) (fun hHeld => ?_)
        refine wpAnyH_take (i := 0) (oi := { dst := some 49, op := Op.move (Operand.tmp 12), type := 29, pos := "nets.go:318", after := #[], guard := none }) (v := ?_) rfl (by kernel_rfl) (by kernel_rfl) (by kernel_rfl) (fun _ _ _ h => h) (Or.inl ⟨by rfl, ?_⟩) hHeld ?_
        rotate_left
        · (intro w hSw; (try dsimp only at hSw); go_simp; first | done | with_reducible rfl)
        simp only [Act.put, List.setIfInBounds_toArray, List.set_cons_zero, List.set_cons_succ]
        refine wpAnyH_take (i := 1) (oi := { dst := some 50, op := Op.binOp BinOp.eql 29 (Operand.tmp 49) (Operand.const (Value.int IntKind.i64 0)) 29, type := 4, pos := "nets.go:318", after := #[{ on := 0, ground := Ground.data }], guard := none }) (v := ?_) rfl (by kernel_rfl) (by kernel_rfl) (by kernel_rfl) (fun _ _ _ h => h) (Or.inl ⟨by rfl, ?_⟩) hHeld ?_
        rotate_left
        · (intro w hSw; (try dsimp only at hSw); go_simp; first | done | with_reducible rfl)
        simp only [Act.put, List.setIfInBounds_toArray, List.set_cons_zero, List.set_cons_succ]
        refine wpAnyH_take (i := 2) (oi := { dst := some 51, op := Op.move (Operand.tmp 50), type := 4, pos := "nets.go:318", after := #[{ on := 1, ground := Ground.data }], guard := none }) (v := ?_) rfl (by kernel_rfl) (by kernel_rfl) (by kernel_rfl) (fun _ _ _ h => h) (Or.inl ⟨by rfl, ?_⟩) hHeld ?_
        rotate_left
        · (intro w hSw; (try dsimp only at hSw); go_simp; first | done | with_reducible rfl)
        simp only [Act.put, List.setIfInBounds_toArray, List.set_cons_zero, List.set_cons_succ]
        refine wpAnyH_take (i := 3) (oi := { dst := some 52, op := Op.fieldAddr 28 (Operand.tmp 8) 0, type := 0, pos := "nets.go:318", after := #[{ on := 2, ground := Ground.guard }], guard := some (2, true) }) (v := ?_) rfl (by kernel_rfl) (by kernel_rfl) (by kernel_rfl) (fun _ _ _ h => h) (Or.inl ⟨by rfl, ?_⟩) hHeld ?_
        rotate_left
        · (intro w hSw; (try dsimp only at hSw); go_simp; first | done | with_reducible rfl)
        simp only [Act.put, List.setIfInBounds_toArray, List.set_cons_zero, List.set_cons_succ]
        refine wpAnyH_take (i := 4) (oi := { dst := some 53, op := Op.load 22 (Operand.tmp 52), type := 22, pos := "nets.go:318", after := #[{ on := 3, ground := Ground.data }, { on := 2, ground := Ground.guard }], guard := some (2, true) }) (v := ?_) rfl (by kernel_rfl) (by kernel_rfl) (by kernel_rfl) (fun _ _ _ h => h) (Or.inl ⟨by rfl, ?_⟩) hHeld ?_
        rotate_left
        · (intro w hSw; (try dsimp only at hSw); go_simp; first | done | with_reducible rfl)
        simp only [Act.put, List.setIfInBounds_toArray, List.set_cons_zero, List.set_cons_succ]
        refine wpAnyH_take (i := 5) (oi := { dst := some 54, op := Op.move (Operand.tmp 0), type := 22, pos := "nets.go:318", after := #[{ on := 2, ground := Ground.guard }], guard := some (2, true) }) (v := ?_) rfl (by kernel_rfl) (by kernel_rfl) (by kernel_rfl) (fun _ _ _ h => h) (Or.inl ⟨by rfl, ?_⟩) hHeld ?_
        rotate_left
        · (intro w hSw; (try dsimp only at hSw); go_simp; first | done | with_reducible rfl)
        simp only [Act.put, List.setIfInBounds_toArray, List.set_cons_zero, List.set_cons_succ]
        refine wpAnyH_take (i := 6) (oi := { dst := some 55, op := Op.move (Operand.tmp 9), type := 3, pos := "nets.go:318", after := #[{ on := 2, ground := Ground.guard }], guard := some (2, true) }) (v := ?_) rfl (by kernel_rfl) (by kernel_rfl) (by kernel_rfl) (fun _ _ _ h => h) (Or.inl ⟨by rfl, ?_⟩) hHeld ?_
        rotate_left
        · (intro w hSw; (try dsimp only at hSw); go_simp; first | done | with_reducible rfl)
        simp only [Act.put, List.setIfInBounds_toArray, List.set_cons_zero, List.set_cons_succ]
        refine wpAnyH_take (i := 7) (oi := { dst := some 56, op := Op.indexAddr 22 (Operand.tmp 54) (Operand.tmp 55), type := 0, pos := "nets.go:318", after := #[{ on := 5, ground := Ground.data }, { on := 6, ground := Ground.data }, { on := 2, ground := Ground.guard }], guard := some (2, true) }) (v := ?_) rfl (by kernel_rfl) (by kernel_rfl) (by kernel_rfl) (fun _ _ _ h => h) (Or.inl ⟨by rfl, ?_⟩) hHeld ?_
        rotate_left
        · (intro w hSw; (try dsimp only at hSw); go_simp; first | done | with_reducible rfl)
        simp only [Act.put, List.setIfInBounds_toArray, List.set_cons_zero, List.set_cons_succ]
        refine wpAnyH_take (i := 8) (oi := { dst := some 57, op := Op.load 32 (Operand.tmp 56), type := 32, pos := "nets.go:318", after := #[{ on := 7, ground := Ground.data }, { on := 2, ground := Ground.guard }], guard := some (2, true) }) (v := ?_) rfl (by kernel_rfl) (by kernel_rfl) (by kernel_rfl) (fun _ _ _ h => h) (Or.inl ⟨by rfl, ?_⟩) hHeld ?_
        rotate_left
        · (intro w hSw; (try dsimp only at hSw); go_simp; first | done | with_reducible rfl)
        simp only [Act.put, List.setIfInBounds_toArray, List.set_cons_zero, List.set_cons_succ]
        refine wpAnyH_ready (rs := [9]) (by kernel_rfl) (by simp) ?_
        refine AllReadyH.cons (o := { dst := some 58, op := Op.call { callee := Callee.value (Operand.func 9), args := #[Operand.tmp 53, Operand.tmp 57], argTypes := #[22, 32] }, type := 3, pos := "nets.go:318", after := #[{ on := 4, ground := Ground.data }, { on := 8, ground := Ground.data }, { on := 2, ground := Ground.chain }, { on := 2, ground := Ground.guard }], guard := some (2, true) }) rfl (fun K hK => ?_) AllReadyH.nil
        go_simp
        go_at_call 9
        refine (places_any _ _ (nets M) n (by rw [nets_len]; omega) (HS2.out.below hHeld.2.2.2.2.2).m.n.arg).mono ?_
        rintro e w3' ⟨rfl, hb3⟩
        have KK0 := stHeld HR.out HS2.out (Below.two hHeld.2.2.2.2.2 hb3); clear hHeld hb3
        rw [hP]
        go_wp2_with fail
        refine hK.out _ _ KK0 (fun hHeld => ?_)
        clear hK K
        refine wpAnyH_take (i := 10) (oi := { dst := some 59, op := Op.binOp BinOp.lss 3 (Operand.tmp 58) (Operand.const (Value.int IntKind.i64 0)) 3, type := 4, pos := "nets.go:318", after := #[{ on := 9, ground := Ground.data }, { on := 2, ground := Ground.guard }], guard := some (2, true) }) (v := ?_) rfl (by kernel_rfl) (by kernel_rfl) (by kernel_rfl) (fun _ _ _ h => h) (Or.inl ⟨by rfl, ?_⟩) hHeld ?_
        rotate_left
        · (intro w hSw; (try dsimp only at hSw); go_simp; first | done | with_reducible rfl)
        simp only [Act.put, List.setIfInBounds_toArray, List.set_cons_zero, List.set_cons_succ]
        refine wpAnyH_take (i := 11) (oi := { dst := some 60, op := Op.pick (Operand.tmp 51) (Operand.tmp 59) (Operand.const (Value.bool false)), type := 4, pos := "nets.go:318", after := #[{ on := 2, ground := Ground.data }, { on := 10, ground := Ground.data }], guard := none }) (v := ?_) rfl (by kernel_rfl) (by kernel_rfl) (by kernel_rfl) (fun _ _ _ h => h) (Or.inl ⟨by rfl, ?_⟩) hHeld ?_
        rotate_left
        · (intro w hSw; (try dsimp only at hSw); go_simp; first | done | with_reducible rfl)
        simp only [Act.put, List.setIfInBounds_toArray, List.set_cons_zero, List.set_cons_succ]
        refine wpAnyH_done (by kernel_rfl) ?_ _
        have HS3 := Lib.hid (HS2.out.below hHeld.2.2.2.2.2)
        clear hHeld HS2
        go_wp2_with fail
        refine wp_region_held_drew (S := (fun w' => w'.cell? ⟨mb, 0, none⟩ = some (.slice pN M.length cN) ∧ w'.cell? ⟨mb, 1, none⟩ = some (.slice (some ⟨bv, ov, none⟩) M.length cV) ∧ w'.cell? ⟨b, off + k * 2, none⟩ = some (.int .u32 (n.1 : Int)) ∧ w'.cell? ⟨b, off + k * 2 + 1, none⟩ = some (.int .i64 n.2) ∧ w'.cell? ⟨bi, oi + k, none⟩ = some (.int .i64 z) ∧ w'.cell? ⟨bv, ov + j, none⟩ = some (.int .i64 y) ∧ Below w3'.heap.size w3' w')) (by kernel_rfl) (stHeldV HR.out HS3.out (Below.refl _ _).drew hj HY.out) (fun hHeld => ?_)
        refine wpAnyH_take (i := 0) (oi := { dst := some 63, op := Op.fieldAddr 28 (Operand.tmp 8) 1, type := 0, pos := "nets.go:321", after := #[], guard := none }) (v := ?_) rfl (by kernel_rfl) (by kernel_rfl) (by kernel_rfl) (fun _ _ _ h => h) (Or.inl ⟨by rfl, ?_⟩) hHeld ?_
        rotate_left
        · (intro w hSw; (try dsimp only at hSw); go_simp; first | done | with_reducible rfl)
        simp only [Act.put, List.setIfInBounds_toArray, List.set_cons_zero, List.set_cons_succ]
        refine wpAnyH_take (i := 1) (oi := { dst := some 64, op := Op.load 23 (Operand.tmp 63), type := 23, pos := "nets.go:321", after := #[{ on := 0, ground := Ground.data }], guard := none }) (v := ?_) rfl (by kernel_rfl) (by kernel_rfl) (by kernel_rfl) (fun _ _ _ h => h) (Or.inl ⟨by rfl, ?_⟩) hHeld ?_
        rotate_left
        · (intro w hSw; (try dsimp only at hSw); go_simp; first | done | with_reducible rfl)
        simp only [Act.put, List.setIfInBounds_toArray, List.set_cons_zero, List.set_cons_succ]
        refine wpAnyH_take (i := 2) (oi := { dst := some 65, op := Op.fieldAddr 28 (Operand.tmp 8) 0, type := 0, pos := "nets.go:321", after := #[], guard := none }) (v := ?_) rfl (by kernel_rfl) (by kernel_rfl) (by kernel_rfl) (fun _ _ _ h => h) (Or.inl ⟨by rfl, ?_⟩) hHeld ?_
        rotate_left
        · (intro w hSw; (try dsimp only at hSw); go_simp; first | done | with_reducible rfl)
        simp only [Act.put, List.setIfInBounds_toArray, List.set_cons_zero, List.set_cons_succ]
        refine wpAnyH_take (i := 3) (oi := { dst := some 66, op := Op.load 22 (Operand.tmp 65), type := 22, pos := "nets.go:321", after := #[{ on := 2, ground := Ground.data }], guard := none }) (v := ?_) rfl (by kernel_rfl) (by kernel_rfl) (by kernel_rfl) (fun _ _ _ h => h) (Or.inl ⟨by rfl, ?_⟩) hHeld ?_
        rotate_left
        · (intro w hSw; (try dsimp only at hSw); go_simp; first | done | with_reducible rfl)
        simp only [Act.put, List.setIfInBounds_toArray, List.set_cons_zero, List.set_cons_succ]
        refine wpAnyH_take (i := 4) (oi := { dst := some 67, op := Op.move (Operand.tmp 0), type := 22, pos := "nets.go:321", after := #[], guard := none }) (v := ?_) rfl (by kernel_rfl) (by kernel_rfl) (by kernel_rfl) (fun _ _ _ h => h) (Or.inl ⟨by rfl, ?_⟩) hHeld ?_
        rotate_left
        · (intro w hSw; (try dsimp only at hSw); go_simp; first | done | with_reducible rfl)
        simp only [Act.put, List.setIfInBounds_toArray, List.set_cons_zero, List.set_cons_succ]
        refine wpAnyH_take (i := 5) (oi := { dst := some 68, op := Op.move (Operand.tmp 9), type := 3, pos := "nets.go:321", after := #[], guard := none }) (v := ?_) rfl (by kernel_rfl) (by kernel_rfl) (by kernel_rfl) (fun _ _ _ h => h) (Or.inl ⟨by rfl, ?_⟩) hHeld ?_
        rotate_left
        · (intro w hSw; (try dsimp only at hSw); go_simp; first | done | with_reducible rfl)
        simp only [Act.put, List.setIfInBounds_toArray, List.set_cons_zero, List.set_cons_succ]
        refine wpAnyH_take (i := 6) (oi := { dst := some 69, op := Op.indexAddr 22 (Operand.tmp 67) (Operand.tmp 68), type := 0, pos := "nets.go:321", after := #[{ on := 4, ground := Ground.data }, { on := 5, ground := Ground.data }], guard := none }) (v := ?_) rfl (by kernel_rfl) (by kernel_rfl) (by kernel_rfl) (fun _ _ _ h => h) (Or.inl ⟨by rfl, ?_⟩) hHeld ?_
        rotate_left
        · (intro w hSw; (try dsimp only at hSw); go_simp; first | done | with_reducible rfl)
        simp only [Act.put, List.setIfInBounds_toArray, List.set_cons_zero, List.set_cons_succ]
        refine wpAnyH_take (i := 7) (oi := { dst := some 70, op := Op.load 32 (Operand.tmp 69), type := 32, pos := "nets.go:321", after := #[{ on := 6, ground := Ground.data }], guard := none }) (v := ?_) rfl (by kernel_rfl) (by kernel_rfl) (by kernel_rfl) (fun _ _ _ h => h) (Or.inl ⟨by rfl, ?_⟩) hHeld ?_
        rotate_left
        · (intro w hSw; (try dsimp only at hSw); go_simp; first | done | with_reducible rfl)
        simp only [Act.put, List.setIfInBounds_toArray, List.set_cons_zero, List.set_cons_succ]
        refine wpAnyH_ready (rs := [8]) (by kernel_rfl) (by simp) ?_
        refine AllReadyH.cons (o := { dst := some 71, op := Op.call { callee := Callee.value (Operand.func 9), args := #[Operand.tmp 66, Operand.tmp 70], argTypes := #[22, 32] }, type := 3, pos := "nets.go:321", after := #[{ on := 3, ground := Ground.data }, { on := 7, ground := Ground.data }], guard := none }) rfl (fun K hK => ?_) AllReadyH.nil
        go_simp
        go_at_call 9
        refine (places_any _ _ (nets M) n (by rw [nets_len]; omega) (HS3.out.below hHeld.2.2.2.2.2.2).m.n.arg).mono ?_
        rintro e w4' ⟨rfl, hb4⟩
        have KK0 := stHeldV HR.out HS3.out (Below.two hHeld.2.2.2.2.2.2 hb4) hj HY.out; clear hHeld hb4
        rw [hP]
        go_wp2_with fail
        refine hK.out _ _ KK0 (fun hHeld => ?_)
        clear hK K
        refine wpAnyH_take (i := 9) (oi := { dst := some 72, op := Op.indexAddr 23 (Operand.tmp 64) (Operand.tmp 71), type := 0, pos := "nets.go:321", after := #[{ on := 1, ground := Ground.data }, { on := 8, ground := Ground.data }], guard := none }) (v := ?_) rfl (by kernel_rfl) (by kernel_rfl) (by kernel_rfl) (fun _ _ _ h => h) (Or.inl ⟨by rfl, ?_⟩) hHeld ?_
        rotate_left
        · (intro w hSw; (try dsimp only at hSw); go_simp; first | done | with_reducible rfl)
        simp only [Act.put, List.setIfInBounds_toArray, List.set_cons_zero, List.set_cons_succ]
        refine wpAnyH_take (i := 10) (oi := { dst := some 73, op := Op.load 3 (Operand.tmp 72), type := 3, pos := "nets.go:321", after := #[{ on := 9, ground := Ground.data }], guard := none }) (v := ?_) rfl (by kernel_rfl) (by kernel_rfl) (by kernel_rfl) (fun _ _ _ h => h) (Or.inl ⟨by rfl, ?_⟩) hHeld ?_
        rotate_left
        · (intro w hSw; (try dsimp only at hSw); go_simp; first | done | with_reducible rfl)
        simp only [Act.put, List.setIfInBounds_toArray, List.set_cons_zero, List.set_cons_succ]
        refine wpAnyH_take (i := 11) (oi := { dst := some 11, op := Op.assign (Operand.tmp 73), type := 3, pos := "nets.go:321", after := #[{ on := 10, ground := Ground.data }, { on := 8, ground := Ground.chain }, { on := 0, ground := Ground.phase }, { on := 1, ground := Ground.phase }, { on := 2, ground := Ground.phase }, { on := 3, ground := Ground.phase }, { on := 4, ground := Ground.phase }, { on := 5, ground := Ground.phase }, { on := 6, ground := Ground.phase }, { on := 7, ground := Ground.phase }, { on := 8, ground := Ground.phase }, { on := 9, ground := Ground.phase }, { on := 10, ground := Ground.phase }], guard := none }) (v := ?_) rfl (by kernel_rfl) (by kernel_rfl) (by kernel_rfl) (fun _ _ _ h => h) (Or.inl ⟨by rfl, ?_⟩) hHeld ?_
        rotate_left
        · (intro w hSw; (try dsimp only at hSw); go_simp; first | done | with_reducible rfl)
        simp only [Act.put, List.setIfInBounds_toArray, List.set_cons_zero, List.set_cons_succ]
        refine wpAnyH_done (by kernel_rfl) ?_ _
        have HS4 := Lib.hid (HS3.out.below hHeld.2.2.2.2.2.2)
        clear hHeld HS3
        have s0 := (HR.out.below HS4.out.be).c0
        have s1 := (HR.out.below HS4.out.be).c1
        have s2 := (HR.out.below HS4.out.be).ci
        go_wp2_with fail
        refine (get_any _ S w.heap.size f L n hx HS4.out.t).mono ?_
        rintro e w5 ⟨rfl, b5⟩
        rw [HG.out, if_pos rfl, HFV.out, Option.getD_some]
        have HS5 := Lib.hid (HS4.out.below b5)
        clear s0 s1 s2 b5 HS4
        go_wp2_with fail
        refine (sameErr_any 0 0 w5 (HE.out.below HS5.out.be)).mono ?_
        rintro e w6 ⟨rfl, b6⟩
        rw [beq_self_eq_true]
        have HS6 := Lib.hid (HS5.out.below b6)
        clear b6 HS5
        by_cases hz : 0 < z
        · have s2 := (HR.out.below HS6.out.be).ci
          go_upto_region 19 with fail
          clear s2
          go_cut [17, 18] from 31 to 151 (fun s17 s18 wc => ∃ B p1 m1 c1 p2 m2 c2, s17 = .pointer (some ⟨B, 0, none⟩) ∧ s18 = .bool r ∧ w6.heap.size ≤ B ∧ Hid (Box wc B (.slice p1 m1 c1) (.slice p2 m2 c2)) ∧ Hid (r = true → Own wc w6.heap.size (.slice p1 m1 c1) (nets (dropM M n ++ [(n, z)])) ∧ OwnI wc w6.heap.size (.slice p2 m2 c2) (vals (dropM M n ++ [(n, z)]))) ∧ Hid (Below w6.heap.size w6 wc))
          case first =>
            refine wp_region_held_drew (S := (fun w' => w'.cell? ⟨mb, 0, none⟩ = some (.slice pN M.length cN) ∧ w'.cell? ⟨mb, 1, none⟩ = some (.slice (some ⟨bv, ov, none⟩) M.length cV) ∧ w'.cell? ⟨b, off + k * 2, none⟩ = some (.int .u32 (n.1 : Int)) ∧ w'.cell? ⟨b, off + k * 2 + 1, none⟩ = some (.int .i64 n.2) ∧ w'.cell? ⟨bi, oi + k, none⟩ = some (.int .i64 z) ∧ Below w6.heap.size w6 w')) (by kernel_rfl) (stHeld HR.out HS6.out (Below.refl _ _).drew) (fun hHeld => ?_)
            refine wpAnyH_take (i := 0) (oi := { dst := some 92, op := Op.load 28 (Operand.tmp 8), type := 28, pos := "nets.go:327", after := #[], guard := none }) (v := ?_) rfl (by kernel_rfl) (by kernel_rfl) (by kernel_rfl) (fun _ _ _ h => h) (Or.inl ⟨by rfl, ?_⟩) hHeld ?_
            rotate_left
            · (intro w hSw; (try dsimp only at hSw); go_simp; first | done | with_reducible rfl)
            simp only [Act.put, List.setIfInBounds_toArray, List.set_cons_zero, List.set_cons_succ]
            refine wpAnyH_take (i := 1) (oi := { dst := some 93, op := Op.move (Operand.tmp 0), type := 22, pos := "nets.go:327", after := #[], guard := none }) (v := ?_) rfl (by kernel_rfl) (by kernel_rfl) (by kernel_rfl) (fun _ _ _ h => h) (Or.inl ⟨by rfl, ?_⟩) hHeld ?_
            rotate_left
            · (intro w hSw; (try dsimp only at hSw); go_simp; first | done | with_reducible rfl)
            simp only [Act.put, List.setIfInBounds_toArray, List.set_cons_zero, List.set_cons_succ]
            refine wpAnyH_take (i := 2) (oi := { dst := some 94, op := Op.move (Operand.tmp 9), type := 3, pos := "nets.go:327", after := #[], guard := none }) (v := ?_) rfl (by kernel_rfl) (by kernel_rfl) (by kernel_rfl) (fun _ _ _ h => h) (Or.inl ⟨by rfl, ?_⟩) hHeld ?_
            rotate_left
            · (intro w hSw; (try dsimp only at hSw); go_simp; first | done | with_reducible rfl)
            simp only [Act.put, List.setIfInBounds_toArray, List.set_cons_zero, List.set_cons_succ]
            refine wpAnyH_take (i := 3) (oi := { dst := some 95, op := Op.indexAddr 22 (Operand.tmp 93) (Operand.tmp 94), type := 0, pos := "nets.go:327", after := #[{ on := 1, ground := Ground.data }, { on := 2, ground := Ground.data }], guard := none }) (v := ?_) rfl (by kernel_rfl) (by kernel_rfl) (by kernel_rfl) (fun _ _ _ h => h) (Or.inl ⟨by rfl, ?_⟩) hHeld ?_
            rotate_left
            · (intro w hSw; (try dsimp only at hSw); go_simp; first | done | with_reducible rfl)
            simp only [Act.put, List.setIfInBounds_toArray, List.set_cons_zero, List.set_cons_succ]
            refine wpAnyH_take (i := 4) (oi := { dst := some 96, op := Op.load 32 (Operand.tmp 95), type := 32, pos := "nets.go:327", after := #[{ on := 3, ground := Ground.data }], guard := none }) (v := ?_) rfl (by kernel_rfl) (by kernel_rfl) (by kernel_rfl) (fun _ _ _ h => h) (Or.inl ⟨by rfl, ?_⟩) hHeld ?_
            rotate_left
            · (intro w hSw; (try dsimp only at hSw); go_simp; first | done | with_reducible rfl)
            simp only [Act.put, List.setIfInBounds_toArray, List.set_cons_zero, List.set_cons_succ]
            refine wpAnyH_take (i := 5) (oi := { dst := some 97, op := Op.move (Operand.tmp 1), type := 23, pos := "nets.go:327", after := #[], guard := none }) (v := ?_) rfl (by kernel_rfl) (by kernel_rfl) (by kernel_rfl) (fun _ _ _ h => h) (Or.inl ⟨by rfl, ?_⟩) hHeld ?_
            rotate_left
            · (intro w hSw; (try dsimp only at hSw); go_simp; first | done | with_reducible rfl)
            simp only [Act.put, List.setIfInBounds_toArray, List.set_cons_zero, List.set_cons_succ]
            refine wpAnyH_take (i := 6) (oi := { dst := some 98, op := Op.move (Operand.tmp 9), type := 3, pos := "nets.go:327", after := #[], guard := none }) (v := ?_) rfl (by kernel_rfl) (by kernel_rfl) (by kernel_rfl) (fun _ _ _ h => h) (Or.inl ⟨by rfl, ?_⟩) hHeld ?_
            rotate_left
            · (intro w hSw; (try dsimp only at hSw); go_simp; first | done | with_reducible rfl)
            simp only [Act.put, List.setIfInBounds_toArray, List.set_cons_zero, List.set_cons_succ]
            refine wpAnyH_take (i := 7) (oi := { dst := some 99, op := Op.indexAddr 23 (Operand.tmp 97) (Operand.tmp 98), type := 0, pos := "nets.go:327", after := #[{ on := 5, ground := Ground.data }, { on := 6, ground := Ground.data }], guard := none }) (v := ?_) rfl (by kernel_rfl) (by kernel_rfl) (by kernel_rfl) (fun _ _ _ h => h) (Or.inl ⟨by rfl, ?_⟩) hHeld ?_
            rotate_left
            · (intro w hSw; (try dsimp only at hSw); go_simp; first | done | with_reducible rfl)
            simp only [Act.put, List.setIfInBounds_toArray, List.set_cons_zero, List.set_cons_succ]
            refine wpAnyH_take (i := 8) (oi := { dst := some 100, op := Op.load 3 (Operand.tmp 99), type := 3, pos := "nets.go:327", after := #[{ on := 7, ground := Ground.data }], guard := none }) (v := ?_) rfl (by kernel_rfl) (by kernel_rfl) (by kernel_rfl) (fun _ _ _ h => h) (Or.inl ⟨by rfl, ?_⟩) hHeld ?_
            rotate_left
            · (intro w hSw; (try dsimp only at hSw); go_simp; first | done | with_reducible rfl)
            simp only [Act.put, List.setIfInBounds_toArray, List.set_cons_zero, List.set_cons_succ]
            refine wpAnyH_ready (rs := [9, 13]) (by kernel_rfl) (by simp) ?_
            refine (AllReadyH.cons (o := { dst := some 101, op := Op.call { callee := Callee.value (Operand.func 12), args := #[Operand.tmp 92, Operand.tmp 96, Operand.tmp 100], argTypes := #[28, 32, 3] }, type := 39, pos := "nets.go:327", after := #[{ on := 0, ground := Ground.data }, { on := 4, ground := Ground.data }, { on := 8, ground := Ground.data }], guard := none }) rfl (fun K hK => ?_) (AllReadyH.cons (o := { dst := some 17, op := Op.alloc 28, type := 0, pos := "nets.go:327", after := #[], guard := none }) rfl (fun K hK => ?_) AllReadyH.nil))
            · go_simp
              go_at_call 12
              refine (putIn_any _ _ _ M n z (by omega) (HS6.out.below hHeld.2.2.2.2.2).m.n.arg (HS6.out.below hHeld.2.2.2.2.2).m.v.arg r HHR.out).mono ?_
              rintro e w9 ⟨p1, m1, c1, p2, m2, c2, rfl, HO, hb9⟩
              have bel := Below.two hHeld.2.2.2.2.2 hb9
              have KK9 := stHeld HR.out HS6.out bel
              clear hHeld hb9
              go_wp2_with fail
              refine hK.out _ _ KK9 (fun hHeld => ?_)
              clear hK K
              refine wpAnyH_take (i := 10) (oi := { dst := some 91, op := Op.move (Operand.tmp 101), type := 39, pos := "nets.go:327", after := #[{ on := 9, ground := Ground.data }], guard := none }) (v := ?_) rfl (by kernel_rfl) (by kernel_rfl) (by kernel_rfl) (fun _ _ _ h => h) (Or.inl ⟨by rfl, ?_⟩) hHeld ?_
              rotate_left
              · (intro w hSw; (try dsimp only at hSw); go_simp; first | done | with_reducible rfl)
              simp only [Act.put, List.setIfInBounds_toArray, List.set_cons_zero, List.set_cons_succ]
              refine wpAnyH_take (i := 11) (oi := { dst := some 102, op := Op.extract (Operand.tmp 91) 0, type := 28, pos := "nets.go:327", after := #[{ on := 10, ground := Ground.data }], guard := none }) (v := ?_) rfl (by kernel_rfl) (by kernel_rfl) (by kernel_rfl) (fun _ _ _ h => h) (Or.inl ⟨by rfl, ?_⟩) hHeld ?_
              rotate_left
              · (intro w hSw; (try dsimp only at hSw); go_simp; first | done | with_reducible rfl)
              simp only [Act.put, List.setIfInBounds_toArray, List.set_cons_zero, List.set_cons_succ]
              refine wpAnyH_take (i := 12) (oi := { dst := some 103, op := Op.extract (Operand.tmp 91) 1, type := 4, pos := "nets.go:327", after := #[{ on := 10, ground := Ground.data }, { on := 14, ground := Ground.gcOnly Departure.lateStores }], guard := none }) (v := ?_) rfl (by kernel_rfl) (by kernel_rfl) (by kernel_rfl) (fun _ _ _ h => h) (Or.inl ⟨by rfl, ?_⟩) hHeld ?_
              rotate_left
              · (intro w hSw; (try dsimp only at hSw); go_simp; first | done | with_reducible rfl)
              simp only [Act.put, List.setIfInBounds_toArray, List.set_cons_zero, List.set_cons_succ]
              refine wpAnyH_ready (rs := [13]) (by kernel_rfl) (by simp) ?_
              refine (AllReadyH.cons (o := { dst := some 17, op := Op.alloc 28, type := 0, pos := "nets.go:327", after := #[], guard := none }) rfl (fun K hK => ?_) AllReadyH.nil)
              go_simp
              have KK13 := stHeld HR.out HS6.out (hHeld.2.2.2.2.2.alloc hHeld.2.2.2.2.2.size (.cells #[.slice none 0 0, .slice none 0 0] 28))
              clear hHeld
              refine hK.out _ _ KK13 (fun hHeld => ?_)
              clear hK K
              refine wpAnyH_ready (rs := [14]) (by kernel_rfl) (by simp) ?_
              refine (AllReadyH.cons (o := { dst := none, op := Op.store 28 (Operand.tmp 17) (Operand.tmp 102), type := 0, pos := "nets.go:327", after := #[{ on := 13, ground := Ground.data }, { on := 11, ground := Ground.data }, { on := 9, ground := Ground.chain }, { on := 0, ground := Ground.phase }, { on := 1, ground := Ground.phase }, { on := 2, ground := Ground.phase }, { on := 3, ground := Ground.phase }, { on := 4, ground := Ground.phase }, { on := 5, ground := Ground.phase }, { on := 6, ground := Ground.phase }, { on := 7, ground := Ground.phase }, { on := 8, ground := Ground.phase }, { on := 9, ground := Ground.phase }, { on := 10, ground := Ground.phase }, { on := 11, ground := Ground.phase }, { on := 12, ground := Ground.textOnly Departure.lateStores }, { on := 13, ground := Ground.phase }], guard := none }) rfl (fun K hK => ?_) AllReadyH.nil)
              go_simp
              have KK14 := stHeld HR.out HS6.out (bel.alloc bel.size (.cells #[.slice p1 m1 c1, .slice p2 m2 c2] 28))
              clear hHeld
              refine hK.out _ _ KK14 (fun hHeld => ?_)
              clear hK K
              refine wpAnyH_take (i := 15) (oi := { dst := some 18, op := Op.assign (Operand.tmp 103), type := 4, pos := "nets.go:327", after := #[{ on := 12, ground := Ground.data }, { on := 14, ground := Ground.chain }, { on := 0, ground := Ground.phase }, { on := 1, ground := Ground.phase }, { on := 2, ground := Ground.phase }, { on := 3, ground := Ground.phase }, { on := 4, ground := Ground.phase }, { on := 5, ground := Ground.phase }, { on := 6, ground := Ground.phase }, { on := 7, ground := Ground.phase }, { on := 8, ground := Ground.phase }, { on := 9, ground := Ground.phase }, { on := 10, ground := Ground.phase }, { on := 11, ground := Ground.phase }, { on := 12, ground := Ground.phase }, { on := 13, ground := Ground.phase }, { on := 14, ground := Ground.phase }], guard := none }) (v := ?_) rfl (by kernel_rfl) (by kernel_rfl) (by kernel_rfl) (fun _ _ _ h => h) (Or.inl ⟨by rfl, ?_⟩) hHeld ?_
              rotate_left
              · (intro w hSw; (try dsimp only at hSw); go_simp; first | done | with_reducible rfl)
              simp only [Act.put, List.setIfInBounds_toArray, List.set_cons_zero, List.set_cons_succ]
              refine wpAnyH_done (by kernel_rfl) ?_ _
              go_wp2_with fail
              go_meet
              case rel => exact ⟨w9.heap.size, p1, m1, c1, p2, m2, c2, rfl, rfl, bel.size, Lib.hid (Box.new w9 _ _ _), Lib.hid (fun e => ⟨(HO.out e).1.keep ((Below.refl _ _).alloc (Nat.le_refl _) _), (HO.out e).2.keep ((Below.refl _ _).alloc (Nat.le_refl _) _)⟩), Lib.hid (bel.alloc bel.size _)⟩
            · go_simp
              have KK13 := stHeld HR.out HS6.out (hHeld.2.2.2.2.2.alloc hHeld.2.2.2.2.2.size (.cells #[.slice none 0 0, .slice none 0 0] 28))
              clear hHeld
              refine hK.out _ _ KK13 (fun hHeld => ?_)
              clear hK K
              refine wpAnyH_ready (rs := [9]) (by kernel_rfl) (by simp) ?_
              refine (AllReadyH.cons (o := { dst := some 101, op := Op.call { callee := Callee.value (Operand.func 12), args := #[Operand.tmp 92, Operand.tmp 96, Operand.tmp 100], argTypes := #[28, 32, 3] }, type := 39, pos := "nets.go:327", after := #[{ on := 0, ground := Ground.data }, { on := 4, ground := Ground.data }, { on := 8, ground := Ground.data }], guard := none }) rfl (fun K hK => ?_) AllReadyH.nil)
              go_simp
              go_at_call 12
              refine (putIn_any _ _ _ M n z (by omega) (HS6.out.below hHeld.2.2.2.2.2).m.n.arg (HS6.out.below hHeld.2.2.2.2.2).m.v.arg r HHR.out).mono ?_
              rintro e w9 ⟨p1, m1, c1, p2, m2, c2, rfl, HO, hb9⟩
              obtain ⟨BX', _⟩ := box1 (w := w6.drew) hb9
              have BX : Box w9 w6.heap.size (.slice none 0 0) (.slice none 0 0) := BX'
              clear BX'
              have bel := Below.two hHeld.2.2.2.2.2 hb9
              have KK9 := stHeld HR.out HS6.out bel
              clear hHeld hb9
              obtain ⟨l6, k0, k1, j0, j1⟩ := id BX
              go_wp2_with fail
              refine hK.out _ _ KK9 (fun hHeld => ?_)
              clear hK K
              refine wpAnyH_take (i := 10) (oi := { dst := some 91, op := Op.move (Operand.tmp 101), type := 39, pos := "nets.go:327", after := #[{ on := 9, ground := Ground.data }], guard := none }) (v := ?_) rfl (by kernel_rfl) (by kernel_rfl) (by kernel_rfl) (fun _ _ _ h => h) (Or.inl ⟨by rfl, ?_⟩) hHeld ?_
              rotate_left
              · (intro w hSw; (try dsimp only at hSw); go_simp; first | done | with_reducible rfl)
              simp only [Act.put, List.setIfInBounds_toArray, List.set_cons_zero, List.set_cons_succ]
              refine wpAnyH_take (i := 11) (oi := { dst := some 102, op := Op.extract (Operand.tmp 91) 0, type := 28, pos := "nets.go:327", after := #[{ on := 10, ground := Ground.data }], guard := none }) (v := ?_) rfl (by kernel_rfl) (by kernel_rfl) (by kernel_rfl) (fun _ _ _ h => h) (Or.inl ⟨by rfl, ?_⟩) hHeld ?_
              rotate_left
              · (intro w hSw; (try dsimp only at hSw); go_simp; first | done | with_reducible rfl)
              simp only [Act.put, List.setIfInBounds_toArray, List.set_cons_zero, List.set_cons_succ]
              refine wpAnyH_take (i := 12) (oi := { dst := some 103, op := Op.extract (Operand.tmp 91) 1, type := 4, pos := "nets.go:327", after := #[{ on := 10, ground := Ground.data }, { on := 14, ground := Ground.gcOnly Departure.lateStores }], guard := none }) (v := ?_) rfl (by kernel_rfl) (by kernel_rfl) (by kernel_rfl) (fun _ _ _ h => h) (Or.inl ⟨by rfl, ?_⟩) hHeld ?_
              rotate_left
              · (intro w hSw; (try dsimp only at hSw); go_simp; first | done | with_reducible rfl)
              simp only [Act.put, List.setIfInBounds_toArray, List.set_cons_zero, List.set_cons_succ]
              refine wpAnyH_ready (rs := [14]) (by kernel_rfl) (by simp) ?_
              refine (AllReadyH.cons (o := { dst := none, op := Op.store 28 (Operand.tmp 17) (Operand.tmp 102), type := 0, pos := "nets.go:327", after := #[{ on := 13, ground := Ground.data }, { on := 11, ground := Ground.data }, { on := 9, ground := Ground.chain }, { on := 0, ground := Ground.phase }, { on := 1, ground := Ground.phase }, { on := 2, ground := Ground.phase }, { on := 3, ground := Ground.phase }, { on := 4, ground := Ground.phase }, { on := 5, ground := Ground.phase }, { on := 6, ground := Ground.phase }, { on := 7, ground := Ground.phase }, { on := 8, ground := Ground.phase }, { on := 9, ground := Ground.phase }, { on := 10, ground := Ground.phase }, { on := 11, ground := Ground.phase }, { on := 12, ground := Ground.textOnly Departure.lateStores }, { on := 13, ground := Ground.phase }], guard := none }) rfl (fun K hK => ?_) AllReadyH.nil)
              go_simp
              have KK14 := stHeld HR.out HS6.out ((bel.setCell (p := ⟨w6.heap.size, 0, none⟩) (Nat.le_refl _) (.slice p1 m1 c1)).setCell (p := ⟨w6.heap.size, 1, none⟩) (Nat.le_refl _) (.slice p2 m2 c2))
              clear hHeld
              refine hK.out _ _ KK14 (fun hHeld => ?_)
              clear hK K
              refine wpAnyH_take (i := 15) (oi := { dst := some 18, op := Op.assign (Operand.tmp 103), type := 4, pos := "nets.go:327", after := #[{ on := 12, ground := Ground.data }, { on := 14, ground := Ground.chain }, { on := 0, ground := Ground.phase }, { on := 1, ground := Ground.phase }, { on := 2, ground := Ground.phase }, { on := 3, ground := Ground.phase }, { on := 4, ground := Ground.phase }, { on := 5, ground := Ground.phase }, { on := 6, ground := Ground.phase }, { on := 7, ground := Ground.phase }, { on := 8, ground := Ground.phase }, { on := 9, ground := Ground.phase }, { on := 10, ground := Ground.phase }, { on := 11, ground := Ground.phase }, { on := 12, ground := Ground.phase }, { on := 13, ground := Ground.phase }, { on := 14, ground := Ground.phase }], guard := none }) (v := ?_) rfl (by kernel_rfl) (by kernel_rfl) (by kernel_rfl) (fun _ _ _ h => h) (Or.inl ⟨by rfl, ?_⟩) hHeld ?_
              rotate_left
              · (intro w hSw; (try dsimp only at hSw); go_simp; first | done | with_reducible rfl)
              simp only [Act.put, List.setIfInBounds_toArray, List.set_cons_zero, List.set_cons_succ]
              refine wpAnyH_done (by kernel_rfl) ?_ _
              go_wp2_with fail
              go_meet
              case rel => exact ⟨w6.heap.size, p1, m1, c1, p2, m2, c2, rfl, rfl, Nat.le_refl _, Lib.hid (BX.set _ _), Lib.hid (fun e => ⟨Own.down (ownsRow_setCell_below (ownsRow_setCell_below (HO.out e).1 (a := ⟨w6.heap.size, 0, none⟩) (by simp) _) (a := ⟨w6.heap.size, 1, none⟩) (by simp) _) (by simp), OwnI.down (ownsRow_setCell_below (ownsRow_setCell_below (HO.out e).2 (a := ⟨w6.heap.size, 0, none⟩) (by simp) _) (a := ⟨w6.heap.size, 1, none⟩) (by simp) _) (by simp)⟩), Lib.hid ((bel.setCell (p := ⟨w6.heap.size, 0, none⟩) (Nat.le_refl _) _).setCell (p := ⟨w6.heap.size, 1, none⟩) (Nat.le_refl _) _)⟩
          case rest =>
            obtain ⟨B, p1, m1, c1, p2, m2, c2, rfl, rfl, hB, HX, HO, HD⟩ := hcut
            have HSc := Lib.hid (HS6.out.below HD.out)
            have HLT := Lib.hid (show (∀ b, S b → b < w6.heap.size) ∧ mb < w6.heap.size from ⟨HS6.out.t.lt, HS6.out.bx.lt⟩)
            clear HD HS6
            cases r
            · exact absurd HHR.out (by simp [HN.out])
            · have HPE : Hid (putE f L n = 0) := Lib.hid (by rw [hpE]; rfl)
              clear hpE
              go_wp2_with fail
              refine wp_region_held_drew (S := (fun w' => w'.cell? ⟨b, off + k * 2, none⟩ = some (.int .u32 (n.1 : Int)) ∧ w'.cell? ⟨b, off + k * 2 + 1, none⟩ = some (.int .i64 n.2) ∧ w'.cell? ⟨bi, oi + k, none⟩ = some (.int .i64 z))) (by kernel_rfl) (rdHeld HR.out HSc.out.drew.be) (fun hHeld => ?_)
              refine wpAnyH_take (i := 0) (oi := { dst := some 110, op := Op.move (Operand.tmp 7), type := 25, pos := "nets.go:331", after := #[], guard := none }) (v := ?_) rfl (by kernel_rfl) (by kernel_rfl) (by kernel_rfl) (fun _ _ _ h => h) (Or.inl ⟨by rfl, ?_⟩) hHeld ?_
              rotate_left
              · (intro w hSw; (try dsimp only at hSw); go_simp; first | done | with_reducible rfl)
              simp only [Act.put, List.setIfInBounds_toArray, List.set_cons_zero, List.set_cons_succ]
              refine wpAnyH_take (i := 1) (oi := { dst := some 111, op := Op.move (Operand.tmp 0), type := 22, pos := "nets.go:331", after := #[], guard := none }) (v := ?_) rfl (by kernel_rfl) (by kernel_rfl) (by kernel_rfl) (fun _ _ _ h => h) (Or.inl ⟨by rfl, ?_⟩) hHeld ?_
              rotate_left
              · (intro w hSw; (try dsimp only at hSw); go_simp; first | done | with_reducible rfl)
              simp only [Act.put, List.setIfInBounds_toArray, List.set_cons_zero, List.set_cons_succ]
              refine wpAnyH_take (i := 2) (oi := { dst := some 112, op := Op.move (Operand.tmp 9), type := 3, pos := "nets.go:331", after := #[], guard := none }) (v := ?_) rfl (by kernel_rfl) (by kernel_rfl) (by kernel_rfl) (fun _ _ _ h => h) (Or.inl ⟨by rfl, ?_⟩) hHeld ?_
              rotate_left
              · (intro w hSw; (try dsimp only at hSw); go_simp; first | done | with_reducible rfl)
              simp only [Act.put, List.setIfInBounds_toArray, List.set_cons_zero, List.set_cons_succ]
              refine wpAnyH_take (i := 3) (oi := { dst := some 113, op := Op.indexAddr 22 (Operand.tmp 111) (Operand.tmp 112), type := 0, pos := "nets.go:331", after := #[{ on := 1, ground := Ground.data }, { on := 2, ground := Ground.data }], guard := none }) (v := ?_) rfl (by kernel_rfl) (by kernel_rfl) (by kernel_rfl) (fun _ _ _ h => h) (Or.inl ⟨by rfl, ?_⟩) hHeld ?_
              rotate_left
              · (intro w hSw; (try dsimp only at hSw); go_simp; first | done | with_reducible rfl)
              simp only [Act.put, List.setIfInBounds_toArray, List.set_cons_zero, List.set_cons_succ]
              refine wpAnyH_take (i := 4) (oi := { dst := some 114, op := Op.load 32 (Operand.tmp 113), type := 32, pos := "nets.go:331", after := #[{ on := 3, ground := Ground.data }], guard := none }) (v := ?_) rfl (by kernel_rfl) (by kernel_rfl) (by kernel_rfl) (fun _ _ _ h => h) (Or.inl ⟨by rfl, ?_⟩) hHeld ?_
              rotate_left
              · (intro w hSw; (try dsimp only at hSw); go_simp; first | done | with_reducible rfl)
              simp only [Act.put, List.setIfInBounds_toArray, List.set_cons_zero, List.set_cons_succ]
              refine wpAnyH_take (i := 5) (oi := { dst := some 115, op := Op.move (Operand.tmp 1), type := 23, pos := "nets.go:331", after := #[], guard := none }) (v := ?_) rfl (by kernel_rfl) (by kernel_rfl) (by kernel_rfl) (fun _ _ _ h => h) (Or.inl ⟨by rfl, ?_⟩) hHeld ?_
              rotate_left
              · (intro w hSw; (try dsimp only at hSw); go_simp; first | done | with_reducible rfl)
              simp only [Act.put, List.setIfInBounds_toArray, List.set_cons_zero, List.set_cons_succ]
              refine wpAnyH_take (i := 6) (oi := { dst := some 116, op := Op.move (Operand.tmp 9), type := 3, pos := "nets.go:331", after := #[], guard := none }) (v := ?_) rfl (by kernel_rfl) (by kernel_rfl) (by kernel_rfl) (fun _ _ _ h => h) (Or.inl ⟨by rfl, ?_⟩) hHeld ?_
              rotate_left
              · (intro w hSw; (try dsimp only at hSw); go_simp; first | done | with_reducible rfl)
              simp only [Act.put, List.setIfInBounds_toArray, List.set_cons_zero, List.set_cons_succ]
              refine wpAnyH_take (i := 7) (oi := { dst := some 117, op := Op.indexAddr 23 (Operand.tmp 115) (Operand.tmp 116), type := 0, pos := "nets.go:331", after := #[{ on := 5, ground := Ground.data }, { on := 6, ground := Ground.data }], guard := none }) (v := ?_) rfl (by kernel_rfl) (by kernel_rfl) (by kernel_rfl) (fun _ _ _ h => h) (Or.inl ⟨by rfl, ?_⟩) hHeld ?_
              rotate_left
              · (intro w hSw; (try dsimp only at hSw); go_simp; first | done | with_reducible rfl)
              simp only [Act.put, List.setIfInBounds_toArray, List.set_cons_zero, List.set_cons_succ]
              refine wpAnyH_take (i := 8) (oi := { dst := some 118, op := Op.load 3 (Operand.tmp 117), type := 3, pos := "nets.go:331", after := #[{ on := 7, ground := Ground.data }], guard := none }) (v := ?_) rfl (by kernel_rfl) (by kernel_rfl) (by kernel_rfl) (fun _ _ _ h => h) (Or.inl ⟨by rfl, ?_⟩) hHeld ?_
              rotate_left
              · (intro w hSw; (try dsimp only at hSw); go_simp; first | done | with_reducible rfl)
              simp only [Act.put, List.setIfInBounds_toArray, List.set_cons_zero, List.set_cons_succ]
              refine wpAnyH_take (i := 10) (oi := { dst := some 120, op := Op.move (Operand.tmp 10), type := 29, pos := "nets.go:331", after := #[], guard := none }) (v := ?_) rfl (by kernel_rfl) (by kernel_rfl) (by kernel_rfl) (fun _ _ _ h => h) (Or.inl ⟨by rfl, ?_⟩) hHeld ?_
              rotate_left
              · (intro w hSw; (try dsimp only at hSw); go_simp; first | done | with_reducible rfl)
              simp only [Act.put, List.setIfInBounds_toArray, List.set_cons_zero, List.set_cons_succ]
              refine wpAnyH_ready (rs := [9]) (by kernel_rfl) (by simp) ?_
              refine AllReadyH.cons (o := { dst := some 119, op := Op.call { callee := Callee.value (Operand.func 13), args := #[Operand.tmp 110, Operand.tmp 114, Operand.tmp 118], argTypes := #[25, 32, 3] }, type := 35, pos := "nets.go:331", after := #[{ on := 0, ground := Ground.data }, { on := 4, ground := Ground.data }, { on := 8, ground := Ground.data }], guard := none }) rfl (fun K hK => ?_) AllReadyH.nil
              go_simp
              go_at_call 13
              refine (put_any _ S w.heap.size f L n z hx HSc.out.drew.t).mono ?_
              rintro e w9 ⟨rfl, ⟨L9, T9⟩, K9⟩
              rw [HPE.out] 
              have HS9 := Lib.hid (HSc.out.drew.put K9 T9)
              have HK9 := Lib.hid K9
              have KK0 := rdHeld HR.out HS9.out.be; clear hHeld T9 K9
              go_wp2_with fail
              refine hK.out _ _ KK0 (fun hHeld => ?_)
              clear hK K
              refine wpAnyH_ready (rs := [11]) (by kernel_rfl) (by simp) ?_
              refine AllReadyH.cons (o := { dst := some 121, op := Op.call { callee := Callee.value (Operand.func 11), args := #[Operand.tmp 119, Operand.tmp 120], argTypes := #[35, 29] }, type := 4, pos := "nets.go:331", after := #[{ on := 9, ground := Ground.data }, { on := 10, ground := Ground.data }, { on := 9, ground := Ground.chain }], guard := none }) rfl (fun K hK => ?_) AllReadyH.nil
              go_simp
              go_at_call 11
              refine (sameErr_any 0 0 _ (HE.out.below HS9.out.be)).mono ?_
              rintro e w10 ⟨rfl, b10⟩
              rw [beq_self_eq_true]
              have HS10 := Lib.hid (HS9.out.below b10); have HB10 := Lib.hid b10
              have KK1 := rdHeld HR.out HS10.out.be; clear hHeld b10
              go_wp2_with fail
              refine hK.out _ _ KK1 (fun hHeld => ?_)
              clear hK K
              refine wpAnyH_take (i := 12) (oi := { dst := some 16, op := Op.assign (Operand.tmp 121), type := 4, pos := "nets.go:331", after := #[{ on := 11, ground := Ground.data }, { on := 11, ground := Ground.chain }, { on := 0, ground := Ground.phase }, { on := 1, ground := Ground.phase }, { on := 2, ground := Ground.phase }, { on := 3, ground := Ground.phase }, { on := 4, ground := Ground.phase }, { on := 5, ground := Ground.phase }, { on := 6, ground := Ground.phase }, { on := 7, ground := Ground.phase }, { on := 8, ground := Ground.phase }, { on := 9, ground := Ground.phase }, { on := 10, ground := Ground.phase }, { on := 11, ground := Ground.phase }], guard := none }) (v := ?_) rfl (by kernel_rfl) (by kernel_rfl) (by kernel_rfl) (fun _ _ _ h => h) (Or.inl ⟨by rfl, ?_⟩) hHeld ?_
              rotate_left
              · (intro w hSw; (try dsimp only at hSw); go_simp; first | done | with_reducible rfl)
              simp only [Act.put, List.setIfInBounds_toArray, List.set_cons_zero, List.set_cons_succ]
              refine wpAnyH_done (by kernel_rfl) ?_ _
              clear hHeld
              have HMT := Lib.hid (((MT.of (HO.out (by trivial)).1 (HO.out (by trivial)).2 HLT.out.1 HLT.out.2).below (Below.refl _ _).drew).keep HK9.out |>.below HB10.out)
              have hBS : ¬ S B := fun e => by have := HLT.out.1 _ e; omega
              have HX10 := Lib.hid ((HX.out.drew1.keepS HK9.out hBS).kept HB10.out)
              obtain ⟨_, k0, k1, _, _⟩ := HX10.out
              obtain ⟨_, j0, j1, i0, i1⟩ := HS10.out.bx
              clear HX HO
              go_wp2_with fail
              go_roundw
              case rel => exact ⟨k + 1, _, _, L9, _, _, (dropM M n ++ [(n, z)]), by go_num, by omega, by omega, Lib.hid (HS10.out.set HMT.out), Lib.hid (by unfold putF; rw [if_pos HPE.out]; exact HM.out.put n z)⟩
              case measure => simp [RowKit.intOf]; omega
        · have s0 := (HR.out.below HS6.out.be).c0
          have s1 := (HR.out.below HS6.out.be).c1
          have s2 := (HR.out.below HS6.out.be).ci
          go_wp2_with fail
          refine (drop_any _ S w.heap.size f L n hx HS6.out.t).mono ?_
          rintro e w9 ⟨rfl, ⟨L9, T9⟩, K9⟩
          rw [HG.out]
          have HS9 := Lib.hid (HS6.out.drop K9 T9)
          clear T9 K9 s0 s1 s2
          go_wp2_with fail
          refine (sameErr_any 0 0 _ (HE.out.below HS9.out.be)).mono ?_
          rintro e w10 ⟨rfl, b10⟩
          rw [beq_self_eq_true]
          have HS10 := Lib.hid (HS9.out.below b10)
          clear b10 HS9
          obtain ⟨_, j0, j1, i0, i1⟩ := HS10.out.bx
          go_wp2_with fail
          refine wp_region_held_drew (S := (fun w' => w'.cell? ⟨b, off + k * 2, none⟩ = some (.int .u32 (n.1 : Int)) ∧ w'.cell? ⟨b, off + k * 2 + 1, none⟩ = some (.int .i64 n.2) ∧ w'.cell? ⟨bi, oi + k, none⟩ = some (.int .i64 z))) (by kernel_rfl) (rdHeld HR.out HS10.out.drew.be) (fun hHeld => ?_)
          refine wpAnyH_take (i := 1) (oi := { dst := some 136, op := Op.move (Operand.tmp 0), type := 22, pos := "nets.go:338", after := #[], guard := none }) (v := ?_) rfl (by kernel_rfl) (by kernel_rfl) (by kernel_rfl) (fun _ _ _ h => h) (Or.inl ⟨by rfl, ?_⟩) hHeld ?_
          rotate_left
          · (intro w hSw; (try dsimp only at hSw); go_simp; first | done | with_reducible rfl)
          simp only [Act.put, List.setIfInBounds_toArray, List.set_cons_zero, List.set_cons_succ]
          refine wpAnyH_take (i := 2) (oi := { dst := some 137, op := Op.move (Operand.tmp 9), type := 3, pos := "nets.go:338", after := #[], guard := none }) (v := ?_) rfl (by kernel_rfl) (by kernel_rfl) (by kernel_rfl) (fun _ _ _ h => h) (Or.inl ⟨by rfl, ?_⟩) hHeld ?_
          rotate_left
          · (intro w hSw; (try dsimp only at hSw); go_simp; first | done | with_reducible rfl)
          simp only [Act.put, List.setIfInBounds_toArray, List.set_cons_zero, List.set_cons_succ]
          refine wpAnyH_take (i := 3) (oi := { dst := some 138, op := Op.indexAddr 22 (Operand.tmp 136) (Operand.tmp 137), type := 0, pos := "nets.go:338", after := #[{ on := 1, ground := Ground.data }, { on := 2, ground := Ground.data }], guard := none }) (v := ?_) rfl (by kernel_rfl) (by kernel_rfl) (by kernel_rfl) (fun _ _ _ h => h) (Or.inl ⟨by rfl, ?_⟩) hHeld ?_
          rotate_left
          · (intro w hSw; (try dsimp only at hSw); go_simp; first | done | with_reducible rfl)
          simp only [Act.put, List.setIfInBounds_toArray, List.set_cons_zero, List.set_cons_succ]
          refine wpAnyH_take (i := 4) (oi := { dst := some 139, op := Op.load 32 (Operand.tmp 138), type := 32, pos := "nets.go:338", after := #[{ on := 3, ground := Ground.data }], guard := none }) (v := ?_) rfl (by kernel_rfl) (by kernel_rfl) (by kernel_rfl) (fun _ _ _ h => h) (Or.inl ⟨by rfl, ?_⟩) hHeld ?_
          rotate_left
          · (intro w hSw; (try dsimp only at hSw); go_simp; first | done | with_reducible rfl)
          simp only [Act.put, List.setIfInBounds_toArray, List.set_cons_zero, List.set_cons_succ]
          refine wpAnyH_ready (rs := [0]) (by kernel_rfl) (by simp) ?_
          refine (AllReadyH.cons (o := { dst := some 135, op := Op.load 28 (Operand.tmp 8), type := 28, pos := "nets.go:338", after := #[], guard := none }) rfl (fun K hK => ?_) AllReadyH.nil)
          go_simp
          have KK0 := hHeld
          clear hHeld
          refine hK.out _ _ KK0 (fun hHeld => ?_)
          clear hK K
          refine wpAnyH_ready (rs := [5]) (by kernel_rfl) (by simp) ?_
          refine (AllReadyH.cons (o := { dst := some 140, op := Op.call { callee := Callee.value (Operand.func 15), args := #[Operand.tmp 135, Operand.tmp 139], argTypes := #[28, 32] }, type := 28, pos := "nets.go:338", after := #[{ on := 0, ground := Ground.data }, { on := 4, ground := Ground.data }], guard := none }) rfl (fun K hK => ?_) AllReadyH.nil)
          go_simp
          go_at_call 15
          refine (dropFrom_any _ _ _ M n (by omega) HS10.out.drew.m.n.arg HS10.out.drew.m.v.arg).mono ?_
          rintro e w11 ⟨uN, uV, rfl, hO, hOI, b11⟩
          obtain ⟨p1, c1, e1, _⟩ := id hO.arg
          obtain ⟨p2, c2, e2, _⟩ := id hOI.arg
          generalize (nets (dropM M n)).length = m1 at e1
          generalize (vals (dropM M n)).length = m2 at e2
          subst e1
          subst e2
          have HS11 := Lib.hid (HS10.out.drew.below b11)
          have HMT := Lib.hid (MT.of hO hOI (HS10.out.drew.t.lt) HS10.out.drew.bx.lt)
          have KK5 := rdHeld HR.out HS11.out.be
          obtain ⟨_, j0, j1, i0, i1⟩ := HS11.out.bx
          clear hHeld hO hOI b11
          go_wp2_with fail
          refine hK.out _ _ KK5 (fun hHeld => ?_)
          clear hK K
          refine wpAnyH_ready (rs := [6]) (by kernel_rfl) (by simp) ?_
          refine (AllReadyH.cons (o := { dst := none, op := Op.store 28 (Operand.tmp 8) (Operand.tmp 140), type := 0, pos := "nets.go:338", after := #[{ on := 5, ground := Ground.data }, { on := 5, ground := Ground.chain }, { on := 0, ground := Ground.phase }, { on := 1, ground := Ground.phase }, { on := 2, ground := Ground.phase }, { on := 3, ground := Ground.phase }, { on := 4, ground := Ground.phase }, { on := 5, ground := Ground.phase }], guard := none }) rfl (fun K hK => ?_) AllReadyH.nil)
          go_simp
          have HS12 := Lib.hid (HS11.out.set HMT.out)
          have KK6 := rdHeld HR.out HS12.out.be
          clear hHeld j0 j1 i0 i1
          refine hK.out _ _ KK6 (fun hHeld => ?_)
          clear hK K
          refine wpAnyH_done (by kernel_rfl) ?_ _
          clear hHeld
          go_wp2_with fail
          go_roundw
          case rel => exact ⟨k + 1, _, _, L9, _, _, dropM M n, by go_num, by omega, by omega, HS12, Lib.hid (by unfold dropF; rw [if_pos HG.out]; exact HM.out.drop n)⟩
          case measure => simp [RowKit.intOf]; omega
    · by_cases hkl : k < l.length
      · have hkv : ¬ k < vs.length := fun e => hkn ⟨hkl, e⟩
        clear hkn
        obtain ⟨_, j0, j1, _, _⟩ := HS.out.bx
        go_wp2_with fail
        refine (findIn_any _ _ _ M a ha (by omega) (HM.out.ok HS.out.t) HS.out.m.n.arg).mono ?_
        rintro e w2 ⟨rfl, b2⟩
        have HS2 := Lib.hid (HS.out.below b2)
        clear b2 j0 j1 HS
        cases hF : fndM M a M.length with
        | none =>
          have HF := Lib.hid hF; clear hF
          simp only [plcV]
          have X3 := Box.new w2 (.int .u32 0) (.int .i64 0) 32
          have b3 : Below w2.heap.size w2 (w2.alloc (.cells #[.int .u32 0, .int .i64 0] 32)) := (Below.refl _ _).alloc (Nat.le_refl _) _
          have HS4 := Lib.hid (HS2.out.below b3); have HX4 := Lib.hid X3
          clear b3 X3
          go_wp2_with fail
          generalize w2.alloc (.cells #[.int .u32 0, .int .i64 0] 32) = W3 at *
          refine (find_any _ S w.heap.size f L a ha HS4.out.t).mono ?_
          rintro e w5 ⟨q, rfl, hq, b5⟩
          rw [foundV_eq]
          obtain rfl : q = none := by
            rcases HM.out.found hq with ⟨_, h⟩ | ⟨j, _, _, h, _⟩
            · exact h
            · rw [HF.out] at h; exact absurd h (by simp)
          simp only [fN, fZ, fE]
          have HS5 := Lib.hid (HS4.out.below b5); have HX5 := Lib.hid (HX4.out.kept b5)
          clear b5 hq
          have Y5 := Box.new w5 (.int .u32 0) (.int .i64 0) 32
          have c5 : Below w5.heap.size w5 (w5.alloc (.cells #[.int .u32 0, .int .i64 0] 32)) := (Below.refl _ _).alloc (Nat.le_refl _) _
          have HY5 := Lib.hid Y5; have HC5 := Lib.hid c5
          clear Y5 c5
          go_wp2_with fail
          generalize w5.alloc (.cells #[.int .u32 0, .int .i64 0] 32) = W5 at *
          refine (sameErr_any 2 2 W5 (HE.out.below (HS5.out.below HC5.out).be)).mono ?_
          rintro e w6 ⟨rfl, b6⟩
          rw [beq_self_eq_true]
          have HS6 := Lib.hid ((HS5.out.below HC5.out).below b6); have HX6 := Lib.hid ((HX5.out.kept HC5.out).kept b6); have HY6 := Lib.hid (HY5.out.kept b6)
          have hL64 := HS6.out.t.few
          clear b6 HC5 HS5 HX5 HY5
          go_wp2_with fail
          refine wp_region_held_drew (S := (fun w' => w'.cell? ⟨mb, 0, none⟩ = some (.slice pN M.length cN) ∧ Below w6.heap.size w6 w')) (by kernel_rfl) ⟨HS6.out.drew.bx.c0, (Below.refl _ _).drew⟩ (fun hHeld => ?_)
          refine wpAnyH_take (i := 0) (oi := { dst := some 177, op := Op.move (Operand.tmp 7), type := 25, pos := "nets.go:357", after := #[], guard := none }) (v := ?_) rfl (by kernel_rfl) (by kernel_rfl) (by kernel_rfl) (fun _ _ _ h => h) (Or.inl ⟨by rfl, ?_⟩) hHeld ?_
          rotate_left
          · (intro w hSw; (try dsimp only at hSw); go_simp; first | done | with_reducible rfl)
          simp only [Act.put, List.setIfInBounds_toArray, List.set_cons_zero, List.set_cons_succ]
          refine wpAnyH_take (i := 2) (oi := { dst := some 179, op := Op.fieldAddr 28 (Operand.tmp 8) 0, type := 0, pos := "nets.go:357", after := #[], guard := none }) (v := ?_) rfl (by kernel_rfl) (by kernel_rfl) (by kernel_rfl) (fun _ _ _ h => h) (Or.inl ⟨by rfl, ?_⟩) hHeld ?_
          rotate_left
          · (intro w hSw; (try dsimp only at hSw); go_simp; first | done | with_reducible rfl)
          simp only [Act.put, List.setIfInBounds_toArray, List.set_cons_zero, List.set_cons_succ]
          refine wpAnyH_take (i := 3) (oi := { dst := some 180, op := Op.load 22 (Operand.tmp 179), type := 22, pos := "nets.go:357", after := #[{ on := 2, ground := Ground.data }], guard := none }) (v := ?_) rfl (by kernel_rfl) (by kernel_rfl) (by kernel_rfl) (fun _ _ _ h => h) (Or.inl ⟨by rfl, ?_⟩) hHeld ?_
          rotate_left
          · (intro w hSw; (try dsimp only at hSw); go_simp; first | done | with_reducible rfl)
          simp only [Act.put, List.setIfInBounds_toArray, List.set_cons_zero, List.set_cons_succ]
          refine wpAnyH_ready (rs := [1]) (by kernel_rfl) (by simp) ?_
          refine AllReadyH.cons (o := { dst := some 178, op := Op.call { callee := Callee.value (Operand.func 19), args := #[Operand.tmp 177], argTypes := #[25] }, type := 22, pos := "nets.go:357", after := #[{ on := 0, ground := Ground.data }], guard := none }) rfl (fun K hK => ?_) AllReadyH.nil
          go_simp
          go_at_call 19
          refine (list_any _ S w.heap.size f L (HS6.out.below hHeld.2).t).mono ?_
          rintro e w7 ⟨v7, rfl, o7, b7⟩
          have B7 := Lib.hid (Below.two hHeld.2 b7); have O7 := Lib.hid o7.arg
          have KK0 : _ ∧ _ := ⟨(HS6.out.below B7.out).bx.c0, B7.out⟩
          clear hHeld o7 b7
          go_wp2_with fail
          refine hK.out _ _ KK0 (fun hHeld => ?_)
          clear hK K
          refine wpAnyH_ready (rs := [4]) (by kernel_rfl) (by simp) ?_
          refine AllReadyH.cons (o := { dst := some 181, op := Op.call { callee := Callee.value (Operand.func 20), args := #[Operand.tmp 180], argTypes := #[22] }, type := 22, pos := "nets.go:357", after := #[{ on := 3, ground := Ground.data }, { on := 1, ground := Ground.chain }], guard := none }) rfl (fun K hK => ?_) AllReadyH.nil
          go_simp
          go_at_call 20
          refine (ordered_any _ _ (nets M) (by rw [nets_len]; omega) (HS6.out.below hHeld.2).m.n.arg).mono ?_
          rintro e w8 ⟨v8, rfl, o8, b8⟩
          rw [HM.out.order HS6.out.t] at o8
          have B8 := Lib.hid (Below.two hHeld.2 b8); have O8 := Lib.hid o8.arg; have O7b := Lib.hid (O7.out.below b8)
          have KK1 : _ ∧ _ := ⟨(HS6.out.below B8.out).bx.c0, B8.out⟩
          clear hHeld o8 b8 O7
          go_wp2_with fail
          refine hK.out _ _ KK1 (fun hHeld => ?_)
          clear hK K
          refine wpAnyH_ready (rs := [5]) (by kernel_rfl) (by simp) ?_
          refine AllReadyH.cons (o := { dst := some 182, op := Op.call { callee := Callee.value (Operand.func 18), args := #[Operand.tmp 178, Operand.tmp 181], argTypes := #[22, 22] }, type := 4, pos := "nets.go:357", after := #[{ on := 1, ground := Ground.data }, { on := 4, ground := Ground.data }, { on := 4, ground := Ground.chain }], guard := none }) rfl (fun K hK => ?_) AllReadyH.nil
          go_simp
          go_at_call 18
          refine (sameNets_any _ _ _ L L (by omega) O7b.out O8.out).mono ?_
          rintro e w9 ⟨rfl, b9⟩
          rw [decide_eq_true rfl]
          have B9 := Lib.hid (Below.two hHeld.2 b9)
          have KK2 : _ ∧ _ := ⟨(HS6.out.below B9.out).bx.c0, B9.out⟩
          clear hHeld b9
          go_wp2_with fail
          refine hK.out _ _ KK2 (fun hHeld => ?_)
          clear hK K
          refine wpAnyH_take (i := 6) (oi := { dst := some 27, op := Op.assign (Operand.tmp 182), type := 4, pos := "nets.go:357", after := #[{ on := 5, ground := Ground.data }, { on := 5, ground := Ground.chain }, { on := 0, ground := Ground.phase }, { on := 1, ground := Ground.phase }, { on := 2, ground := Ground.phase }, { on := 3, ground := Ground.phase }, { on := 4, ground := Ground.phase }, { on := 5, ground := Ground.phase }], guard := none }) (v := ?_) rfl (by kernel_rfl) (by kernel_rfl) (by kernel_rfl) (fun _ _ _ h => h) (Or.inl ⟨by rfl, ?_⟩) hHeld ?_
          rotate_left
          · (intro w hSw; (try dsimp only at hSw); go_simp; first | done | with_reducible rfl)
          simp only [Act.put, List.setIfInBounds_toArray, List.set_cons_zero, List.set_cons_succ]
          refine wpAnyH_done (by kernel_rfl) ?_ _
          have B10 := Lib.hid hHeld.2
          obtain ⟨_, x0, x1, _, _⟩ := HX6.out.kept hHeld.2
          obtain ⟨_, y0, y1, _, _⟩ := HY6.out.kept hHeld.2
          clear hHeld
          go_wp2_with fail
          go_ret
          exact ⟨by simp, Below.two HS6.out.be B10.out⟩
        | some j =>
          have HF := Lib.hid hF
          have hj := fndM_lt M a _ j hF
          clear hF
          obtain ⟨bn, on, hpn⟩ := stNet HS2.out (by omega)
          subst hpn
          obtain ⟨bv, ov, hpv⟩ := stPtr HS2.out (by omega)
          subst hpv
          simp only [plcV]
          have X3 := Box.new w2 (.int .u32 0) (.int .i64 0) 32
          have b3 : Below w2.heap.size w2 (w2.alloc (.cells #[.int .u32 0, .int .i64 0] 32)) := (Below.refl _ _).alloc (Nat.le_refl _) _
          have HS3 := Lib.hid (HS2.out.below b3); have HX3 := Lib.hid X3; have HB3 := Lib.hid b3
          clear b3 X3
          go_upto_region 36 with fail
          generalize w2.alloc (.cells #[.int .u32 0, .int .i64 0] 32) = W3 at *
          obtain ⟨n0, n1⟩ := stNetAt HS3.out j hj
          obtain ⟨_, j0, j1, _, _⟩ := HS3.out.bx
          obtain ⟨_, x0, x1, x2, x3⟩ := HX3.out
          obtain ⟨nn, hnn⟩ : ∃ nn, M[j]!.1 = nn := ⟨_, rfl⟩
          obtain ⟨y, hy⟩ : ∃ y, (vals M)[j]! = y := ⟨_, rfl⟩
          rw [hnn] at n0 n1
          have HNN := Lib.hid hnn; have HYV := Lib.hid hy
          clear hnn hy
          go_upto_region 37 with fail
          have b4 : Below w2.heap.size w2 ((W3.setCell ⟨w2.heap.size, 0, none⟩ (.int .u32 (nn.1 : Int))).setCell ⟨w2.heap.size, 1, none⟩ (.int .i64 nn.2)) := (HB3.out.setCell (p := ⟨w2.heap.size, 0, none⟩) (Nat.le_refl _) _).setCell (p := ⟨w2.heap.size, 1, none⟩) (Nat.le_refl _) _
          have HS4 := Lib.hid (HS2.out.below b4); have HX4 := Lib.hid (HX3.out.set (.int .u32 (nn.1 : Int)) (.int .i64 nn.2))
          clear b4 n0 n1 j0 j1 x0 x1 x2 x3
          generalize (W3.setCell ⟨w2.heap.size, 0, none⟩ (.int .u32 (nn.1 : Int))).setCell ⟨w2.heap.size, 1, none⟩ (.int .i64 nn.2) = W4 at *
          obtain ⟨_, j0, j1, _, _⟩ := HS4.out.bx
          have n0 := stVal HS4.out j hj
          rw [HYV.out] at n0
          go_wp2_with fail
          clear n0 j0 j1
          refine (find_any _ S w.heap.size f L a ha HS4.out.t).mono ?_
          rintro e w5 ⟨q, rfl, hq, b5⟩
          rw [foundV_eq]
          have hf : fN q a = nn ∧ fZ q = y ∧ fE q = 0 := by
            rcases HM.out.found hq with ⟨h, _⟩ | ⟨j', k', z', h, hj', hq', h1, h2⟩
            · rw [HF.out] at h; exact absurd h (by simp)
            · rw [HF.out] at h
              obtain rfl := Option.some.inj h
              refine ⟨by rw [← h1, HNN.out], ?_, by rw [hq']; rfl⟩
              rw [← h2, ← HYV.out, vals_at M _ hj]
          rw [hf.1, hf.2.1, hf.2.2]
          clear hf
          have HS5 := Lib.hid (HS4.out.below b5); have HX5 := Lib.hid (HX4.out.kept b5)
          clear b5 hq
          have Y5 := Box.new w5 (.int .u32 (nn.1 : Int)) (.int .i64 nn.2) 32
          have c5 : Below w5.heap.size w5 (w5.alloc (.cells #[.int .u32 (nn.1 : Int), .int .i64 nn.2] 32)) := (Below.refl _ _).alloc (Nat.le_refl _) _
          have HY5 := Lib.hid Y5; have HC5 := Lib.hid c5
          clear Y5 c5
          go_wp2_with fail
          generalize w5.alloc (.cells #[.int .u32 (nn.1 : Int), .int .i64 nn.2] 32) = W5 at *
          refine (sameErr_any 0 0 W5 (HE.out.below (HS5.out.below HC5.out).be)).mono ?_
          rintro e w6 ⟨rfl, b6⟩
          rw [beq_self_eq_true]
          have HS6 := Lib.hid ((HS5.out.below HC5.out).below b6); have HX6 := Lib.hid ((HX5.out.kept HC5.out).kept b6); have HY6 := Lib.hid (HY5.out.kept b6)
          have hL64 := HS6.out.t.few
          clear b6 HC5 HS5 HX5 HY5
          go_wp2_with fail
          refine wp_region_held_drew (S := (fun w' => w'.cell? ⟨mb, 0, none⟩ = some (.slice (some ⟨bn, on, none⟩) M.length cN) ∧ Below w6.heap.size w6 w')) (by kernel_rfl) ⟨HS6.out.drew.bx.c0, (Below.refl _ _).drew⟩ (fun hHeld => ?_)
          refine wpAnyH_take (i := 0) (oi := { dst := some 177, op := Op.move (Operand.tmp 7), type := 25, pos := "nets.go:357", after := #[], guard := none }) (v := ?_) rfl (by kernel_rfl) (by kernel_rfl) (by kernel_rfl) (fun _ _ _ h => h) (Or.inl ⟨by rfl, ?_⟩) hHeld ?_
          rotate_left
          · (intro w hSw; (try dsimp only at hSw); go_simp; first | done | with_reducible rfl)
          simp only [Act.put, List.setIfInBounds_toArray, List.set_cons_zero, List.set_cons_succ]
          refine wpAnyH_take (i := 2) (oi := { dst := some 179, op := Op.fieldAddr 28 (Operand.tmp 8) 0, type := 0, pos := "nets.go:357", after := #[], guard := none }) (v := ?_) rfl (by kernel_rfl) (by kernel_rfl) (by kernel_rfl) (fun _ _ _ h => h) (Or.inl ⟨by rfl, ?_⟩) hHeld ?_
          rotate_left
          · (intro w hSw; (try dsimp only at hSw); go_simp; first | done | with_reducible rfl)
          simp only [Act.put, List.setIfInBounds_toArray, List.set_cons_zero, List.set_cons_succ]
          refine wpAnyH_take (i := 3) (oi := { dst := some 180, op := Op.load 22 (Operand.tmp 179), type := 22, pos := "nets.go:357", after := #[{ on := 2, ground := Ground.data }], guard := none }) (v := ?_) rfl (by kernel_rfl) (by kernel_rfl) (by kernel_rfl) (fun _ _ _ h => h) (Or.inl ⟨by rfl, ?_⟩) hHeld ?_
          rotate_left
          · (intro w hSw; (try dsimp only at hSw); go_simp; first | done | with_reducible rfl)
          simp only [Act.put, List.setIfInBounds_toArray, List.set_cons_zero, List.set_cons_succ]
          refine wpAnyH_ready (rs := [1]) (by kernel_rfl) (by simp) ?_
          refine AllReadyH.cons (o := { dst := some 178, op := Op.call { callee := Callee.value (Operand.func 19), args := #[Operand.tmp 177], argTypes := #[25] }, type := 22, pos := "nets.go:357", after := #[{ on := 0, ground := Ground.data }], guard := none }) rfl (fun K hK => ?_) AllReadyH.nil
          go_simp
          go_at_call 19
          refine (list_any _ S w.heap.size f L (HS6.out.below hHeld.2).t).mono ?_
          rintro e w7 ⟨v7, rfl, o7, b7⟩
          have B7 := Lib.hid (Below.two hHeld.2 b7); have O7 := Lib.hid o7.arg
          have KK0 : _ ∧ _ := ⟨(HS6.out.below B7.out).bx.c0, B7.out⟩
          clear hHeld o7 b7
          go_wp2_with fail
          refine hK.out _ _ KK0 (fun hHeld => ?_)
          clear hK K
          refine wpAnyH_ready (rs := [4]) (by kernel_rfl) (by simp) ?_
          refine AllReadyH.cons (o := { dst := some 181, op := Op.call { callee := Callee.value (Operand.func 20), args := #[Operand.tmp 180], argTypes := #[22] }, type := 22, pos := "nets.go:357", after := #[{ on := 3, ground := Ground.data }, { on := 1, ground := Ground.chain }], guard := none }) rfl (fun K hK => ?_) AllReadyH.nil
          go_simp
          go_at_call 20
          refine (ordered_any _ _ (nets M) (by rw [nets_len]; omega) (HS6.out.below hHeld.2).m.n.arg).mono ?_
          rintro e w8 ⟨v8, rfl, o8, b8⟩
          rw [HM.out.order HS6.out.t] at o8
          have B8 := Lib.hid (Below.two hHeld.2 b8); have O8 := Lib.hid o8.arg; have O7b := Lib.hid (O7.out.below b8)
          have KK1 : _ ∧ _ := ⟨(HS6.out.below B8.out).bx.c0, B8.out⟩
          clear hHeld o8 b8 O7
          go_wp2_with fail
          refine hK.out _ _ KK1 (fun hHeld => ?_)
          clear hK K
          refine wpAnyH_ready (rs := [5]) (by kernel_rfl) (by simp) ?_
          refine AllReadyH.cons (o := { dst := some 182, op := Op.call { callee := Callee.value (Operand.func 18), args := #[Operand.tmp 178, Operand.tmp 181], argTypes := #[22, 22] }, type := 4, pos := "nets.go:357", after := #[{ on := 1, ground := Ground.data }, { on := 4, ground := Ground.data }, { on := 4, ground := Ground.chain }], guard := none }) rfl (fun K hK => ?_) AllReadyH.nil
          go_simp
          go_at_call 18
          refine (sameNets_any _ _ _ L L (by omega) O7b.out O8.out).mono ?_
          rintro e w9 ⟨rfl, b9⟩
          rw [decide_eq_true rfl]
          have B9 := Lib.hid (Below.two hHeld.2 b9)
          have KK2 : _ ∧ _ := ⟨(HS6.out.below B9.out).bx.c0, B9.out⟩
          clear hHeld b9
          go_wp2_with fail
          refine hK.out _ _ KK2 (fun hHeld => ?_)
          clear hK K
          refine wpAnyH_take (i := 6) (oi := { dst := some 27, op := Op.assign (Operand.tmp 182), type := 4, pos := "nets.go:357", after := #[{ on := 5, ground := Ground.data }, { on := 5, ground := Ground.chain }, { on := 0, ground := Ground.phase }, { on := 1, ground := Ground.phase }, { on := 2, ground := Ground.phase }, { on := 3, ground := Ground.phase }, { on := 4, ground := Ground.phase }, { on := 5, ground := Ground.phase }], guard := none }) (v := ?_) rfl (by kernel_rfl) (by kernel_rfl) (by kernel_rfl) (fun _ _ _ h => h) (Or.inl ⟨by rfl, ?_⟩) hHeld ?_
          rotate_left
          · (intro w hSw; (try dsimp only at hSw); go_simp; first | done | with_reducible rfl)
          simp only [Act.put, List.setIfInBounds_toArray, List.set_cons_zero, List.set_cons_succ]
          refine wpAnyH_done (by kernel_rfl) ?_ _
          have B10 := Lib.hid hHeld.2
          obtain ⟨_, x0, x1, _, _⟩ := HX6.out.kept hHeld.2
          obtain ⟨_, y0, y1, _, _⟩ := HY6.out.kept hHeld.2
          clear hHeld
          go_wp2_with fail
          go_ret
          exact ⟨by simp, Below.two HS6.out.be B10.out⟩
      · clear hkn
        obtain ⟨_, j0, j1, _, _⟩ := HS.out.bx
        go_wp2_with fail
        refine (findIn_any _ _ _ M a ha (by omega) (HM.out.ok HS.out.t) HS.out.m.n.arg).mono ?_
        rintro e w2 ⟨rfl, b2⟩
        have HS2 := Lib.hid (HS.out.below b2)
        clear b2 j0 j1 HS
        cases hF : fndM M a M.length with
        | none =>
          have HF := Lib.hid hF; clear hF
          simp only [plcV]
          have X3 := Box.new w2 (.int .u32 0) (.int .i64 0) 32
          have b3 : Below w2.heap.size w2 (w2.alloc (.cells #[.int .u32 0, .int .i64 0] 32)) := (Below.refl _ _).alloc (Nat.le_refl _) _
          have HS4 := Lib.hid (HS2.out.below b3); have HX4 := Lib.hid X3
          clear b3 X3
          go_wp2_with fail
          generalize w2.alloc (.cells #[.int .u32 0, .int .i64 0] 32) = W3 at *
          refine (find_any _ S w.heap.size f L a ha HS4.out.t).mono ?_
          rintro e w5 ⟨q, rfl, hq, b5⟩
          rw [foundV_eq]
          obtain rfl : q = none := by
            rcases HM.out.found hq with ⟨_, h⟩ | ⟨j, _, _, h, _⟩
            · exact h
            · rw [HF.out] at h; exact absurd h (by simp)
          simp only [fN, fZ, fE]
          have HS5 := Lib.hid (HS4.out.below b5); have HX5 := Lib.hid (HX4.out.kept b5)
          clear b5 hq
          have Y5 := Box.new w5 (.int .u32 0) (.int .i64 0) 32
          have c5 : Below w5.heap.size w5 (w5.alloc (.cells #[.int .u32 0, .int .i64 0] 32)) := (Below.refl _ _).alloc (Nat.le_refl _) _
          have HY5 := Lib.hid Y5; have HC5 := Lib.hid c5
          clear Y5 c5
          go_wp2_with fail
          generalize w5.alloc (.cells #[.int .u32 0, .int .i64 0] 32) = W5 at *
          refine (sameErr_any 2 2 W5 (HE.out.below (HS5.out.below HC5.out).be)).mono ?_
          rintro e w6 ⟨rfl, b6⟩
          rw [beq_self_eq_true]
          have HS6 := Lib.hid ((HS5.out.below HC5.out).below b6); have HX6 := Lib.hid ((HX5.out.kept HC5.out).kept b6); have HY6 := Lib.hid (HY5.out.kept b6)
          have hL64 := HS6.out.t.few
          clear b6 HC5 HS5 HX5 HY5
          go_wp2_with fail
          refine wp_region_held_drew (S := (fun w' => w'.cell? ⟨mb, 0, none⟩ = some (.slice pN M.length cN) ∧ Below w6.heap.size w6 w')) (by kernel_rfl) ⟨HS6.out.drew.bx.c0, (Below.refl _ _).drew⟩ (fun hHeld => ?_)
          refine wpAnyH_take (i := 0) (oi := { dst := some 177, op := Op.move (Operand.tmp 7), type := 25, pos := "nets.go:357", after := #[], guard := none }) (v := ?_) rfl (by kernel_rfl) (by kernel_rfl) (by kernel_rfl) (fun _ _ _ h => h) (Or.inl ⟨by rfl, ?_⟩) hHeld ?_
          rotate_left
          · (intro w hSw; (try dsimp only at hSw); go_simp; first | done | with_reducible rfl)
          simp only [Act.put, List.setIfInBounds_toArray, List.set_cons_zero, List.set_cons_succ]
          refine wpAnyH_take (i := 2) (oi := { dst := some 179, op := Op.fieldAddr 28 (Operand.tmp 8) 0, type := 0, pos := "nets.go:357", after := #[], guard := none }) (v := ?_) rfl (by kernel_rfl) (by kernel_rfl) (by kernel_rfl) (fun _ _ _ h => h) (Or.inl ⟨by rfl, ?_⟩) hHeld ?_
          rotate_left
          · (intro w hSw; (try dsimp only at hSw); go_simp; first | done | with_reducible rfl)
          simp only [Act.put, List.setIfInBounds_toArray, List.set_cons_zero, List.set_cons_succ]
          refine wpAnyH_take (i := 3) (oi := { dst := some 180, op := Op.load 22 (Operand.tmp 179), type := 22, pos := "nets.go:357", after := #[{ on := 2, ground := Ground.data }], guard := none }) (v := ?_) rfl (by kernel_rfl) (by kernel_rfl) (by kernel_rfl) (fun _ _ _ h => h) (Or.inl ⟨by rfl, ?_⟩) hHeld ?_
          rotate_left
          · (intro w hSw; (try dsimp only at hSw); go_simp; first | done | with_reducible rfl)
          simp only [Act.put, List.setIfInBounds_toArray, List.set_cons_zero, List.set_cons_succ]
          refine wpAnyH_ready (rs := [1]) (by kernel_rfl) (by simp) ?_
          refine AllReadyH.cons (o := { dst := some 178, op := Op.call { callee := Callee.value (Operand.func 19), args := #[Operand.tmp 177], argTypes := #[25] }, type := 22, pos := "nets.go:357", after := #[{ on := 0, ground := Ground.data }], guard := none }) rfl (fun K hK => ?_) AllReadyH.nil
          go_simp
          go_at_call 19
          refine (list_any _ S w.heap.size f L (HS6.out.below hHeld.2).t).mono ?_
          rintro e w7 ⟨v7, rfl, o7, b7⟩
          have B7 := Lib.hid (Below.two hHeld.2 b7); have O7 := Lib.hid o7.arg
          have KK0 : _ ∧ _ := ⟨(HS6.out.below B7.out).bx.c0, B7.out⟩
          clear hHeld o7 b7
          go_wp2_with fail
          refine hK.out _ _ KK0 (fun hHeld => ?_)
          clear hK K
          refine wpAnyH_ready (rs := [4]) (by kernel_rfl) (by simp) ?_
          refine AllReadyH.cons (o := { dst := some 181, op := Op.call { callee := Callee.value (Operand.func 20), args := #[Operand.tmp 180], argTypes := #[22] }, type := 22, pos := "nets.go:357", after := #[{ on := 3, ground := Ground.data }, { on := 1, ground := Ground.chain }], guard := none }) rfl (fun K hK => ?_) AllReadyH.nil
          go_simp
          go_at_call 20
          refine (ordered_any _ _ (nets M) (by rw [nets_len]; omega) (HS6.out.below hHeld.2).m.n.arg).mono ?_
          rintro e w8 ⟨v8, rfl, o8, b8⟩
          rw [HM.out.order HS6.out.t] at o8
          have B8 := Lib.hid (Below.two hHeld.2 b8); have O8 := Lib.hid o8.arg; have O7b := Lib.hid (O7.out.below b8)
          have KK1 : _ ∧ _ := ⟨(HS6.out.below B8.out).bx.c0, B8.out⟩
          clear hHeld o8 b8 O7
          go_wp2_with fail
          refine hK.out _ _ KK1 (fun hHeld => ?_)
          clear hK K
          refine wpAnyH_ready (rs := [5]) (by kernel_rfl) (by simp) ?_
          refine AllReadyH.cons (o := { dst := some 182, op := Op.call { callee := Callee.value (Operand.func 18), args := #[Operand.tmp 178, Operand.tmp 181], argTypes := #[22, 22] }, type := 4, pos := "nets.go:357", after := #[{ on := 1, ground := Ground.data }, { on := 4, ground := Ground.data }, { on := 4, ground := Ground.chain }], guard := none }) rfl (fun K hK => ?_) AllReadyH.nil
          go_simp
          go_at_call 18
          refine (sameNets_any _ _ _ L L (by omega) O7b.out O8.out).mono ?_
          rintro e w9 ⟨rfl, b9⟩
          rw [decide_eq_true rfl]
          have B9 := Lib.hid (Below.two hHeld.2 b9)
          have KK2 : _ ∧ _ := ⟨(HS6.out.below B9.out).bx.c0, B9.out⟩
          clear hHeld b9
          go_wp2_with fail
          refine hK.out _ _ KK2 (fun hHeld => ?_)
          clear hK K
          refine wpAnyH_take (i := 6) (oi := { dst := some 27, op := Op.assign (Operand.tmp 182), type := 4, pos := "nets.go:357", after := #[{ on := 5, ground := Ground.data }, { on := 5, ground := Ground.chain }, { on := 0, ground := Ground.phase }, { on := 1, ground := Ground.phase }, { on := 2, ground := Ground.phase }, { on := 3, ground := Ground.phase }, { on := 4, ground := Ground.phase }, { on := 5, ground := Ground.phase }], guard := none }) (v := ?_) rfl (by kernel_rfl) (by kernel_rfl) (by kernel_rfl) (fun _ _ _ h => h) (Or.inl ⟨by rfl, ?_⟩) hHeld ?_
          rotate_left
          · (intro w hSw; (try dsimp only at hSw); go_simp; first | done | with_reducible rfl)
          simp only [Act.put, List.setIfInBounds_toArray, List.set_cons_zero, List.set_cons_succ]
          refine wpAnyH_done (by kernel_rfl) ?_ _
          have B10 := Lib.hid hHeld.2
          obtain ⟨_, x0, x1, _, _⟩ := HX6.out.kept hHeld.2
          obtain ⟨_, y0, y1, _, _⟩ := HY6.out.kept hHeld.2
          clear hHeld
          go_wp2_with fail
          go_ret
          exact ⟨by simp, Below.two HS6.out.be B10.out⟩
        | some j =>
          have HF := Lib.hid hF
          have hj := fndM_lt M a _ j hF
          clear hF
          obtain ⟨bn, on, hpn⟩ := stNet HS2.out (by omega)
          subst hpn
          obtain ⟨bv, ov, hpv⟩ := stPtr HS2.out (by omega)
          subst hpv
          simp only [plcV]
          have X3 := Box.new w2 (.int .u32 0) (.int .i64 0) 32
          have b3 : Below w2.heap.size w2 (w2.alloc (.cells #[.int .u32 0, .int .i64 0] 32)) := (Below.refl _ _).alloc (Nat.le_refl _) _
          have HS3 := Lib.hid (HS2.out.below b3); have HX3 := Lib.hid X3; have HB3 := Lib.hid b3
          clear b3 X3
          go_upto_region 36 with fail
          generalize w2.alloc (.cells #[.int .u32 0, .int .i64 0] 32) = W3 at *
          obtain ⟨n0, n1⟩ := stNetAt HS3.out j hj
          obtain ⟨_, j0, j1, _, _⟩ := HS3.out.bx
          obtain ⟨_, x0, x1, x2, x3⟩ := HX3.out
          obtain ⟨nn, hnn⟩ : ∃ nn, M[j]!.1 = nn := ⟨_, rfl⟩
          obtain ⟨y, hy⟩ : ∃ y, (vals M)[j]! = y := ⟨_, rfl⟩
          rw [hnn] at n0 n1
          have HNN := Lib.hid hnn; have HYV := Lib.hid hy
          clear hnn hy
          go_upto_region 37 with fail
          have b4 : Below w2.heap.size w2 ((W3.setCell ⟨w2.heap.size, 0, none⟩ (.int .u32 (nn.1 : Int))).setCell ⟨w2.heap.size, 1, none⟩ (.int .i64 nn.2)) := (HB3.out.setCell (p := ⟨w2.heap.size, 0, none⟩) (Nat.le_refl _) _).setCell (p := ⟨w2.heap.size, 1, none⟩) (Nat.le_refl _) _
          have HS4 := Lib.hid (HS2.out.below b4); have HX4 := Lib.hid (HX3.out.set (.int .u32 (nn.1 : Int)) (.int .i64 nn.2))
          clear b4 n0 n1 j0 j1 x0 x1 x2 x3
          generalize (W3.setCell ⟨w2.heap.size, 0, none⟩ (.int .u32 (nn.1 : Int))).setCell ⟨w2.heap.size, 1, none⟩ (.int .i64 nn.2) = W4 at *
          obtain ⟨_, j0, j1, _, _⟩ := HS4.out.bx
          have n0 := stVal HS4.out j hj
          rw [HYV.out] at n0
          go_wp2_with fail
          clear n0 j0 j1
          refine (find_any _ S w.heap.size f L a ha HS4.out.t).mono ?_
          rintro e w5 ⟨q, rfl, hq, b5⟩
          rw [foundV_eq]
          have hf : fN q a = nn ∧ fZ q = y ∧ fE q = 0 := by
            rcases HM.out.found hq with ⟨h, _⟩ | ⟨j', k', z', h, hj', hq', h1, h2⟩
            · rw [HF.out] at h; exact absurd h (by simp)
            · rw [HF.out] at h
              obtain rfl := Option.some.inj h
              refine ⟨by rw [← h1, HNN.out], ?_, by rw [hq']; rfl⟩
              rw [← h2, ← HYV.out, vals_at M _ hj]
          rw [hf.1, hf.2.1, hf.2.2]
          clear hf
          have HS5 := Lib.hid (HS4.out.below b5); have HX5 := Lib.hid (HX4.out.kept b5)
          clear b5 hq
          have Y5 := Box.new w5 (.int .u32 (nn.1 : Int)) (.int .i64 nn.2) 32
          have c5 : Below w5.heap.size w5 (w5.alloc (.cells #[.int .u32 (nn.1 : Int), .int .i64 nn.2] 32)) := (Below.refl _ _).alloc (Nat.le_refl _) _
          have HY5 := Lib.hid Y5; have HC5 := Lib.hid c5
          clear Y5 c5
          go_wp2_with fail
          generalize w5.alloc (.cells #[.int .u32 (nn.1 : Int), .int .i64 nn.2] 32) = W5 at *
          refine (sameErr_any 0 0 W5 (HE.out.below (HS5.out.below HC5.out).be)).mono ?_
          rintro e w6 ⟨rfl, b6⟩
          rw [beq_self_eq_true]
          have HS6 := Lib.hid ((HS5.out.below HC5.out).below b6); have HX6 := Lib.hid ((HX5.out.kept HC5.out).kept b6); have HY6 := Lib.hid (HY5.out.kept b6)
          have hL64 := HS6.out.t.few
          clear b6 HC5 HS5 HX5 HY5
          go_wp2_with fail
          refine wp_region_held_drew (S := (fun w' => w'.cell? ⟨mb, 0, none⟩ = some (.slice (some ⟨bn, on, none⟩) M.length cN) ∧ Below w6.heap.size w6 w')) (by kernel_rfl) ⟨HS6.out.drew.bx.c0, (Below.refl _ _).drew⟩ (fun hHeld => ?_)
          refine wpAnyH_take (i := 0) (oi := { dst := some 177, op := Op.move (Operand.tmp 7), type := 25, pos := "nets.go:357", after := #[], guard := none }) (v := ?_) rfl (by kernel_rfl) (by kernel_rfl) (by kernel_rfl) (fun _ _ _ h => h) (Or.inl ⟨by rfl, ?_⟩) hHeld ?_
          rotate_left
          · (intro w hSw; (try dsimp only at hSw); go_simp; first | done | with_reducible rfl)
          simp only [Act.put, List.setIfInBounds_toArray, List.set_cons_zero, List.set_cons_succ]
          refine wpAnyH_take (i := 2) (oi := { dst := some 179, op := Op.fieldAddr 28 (Operand.tmp 8) 0, type := 0, pos := "nets.go:357", after := #[], guard := none }) (v := ?_) rfl (by kernel_rfl) (by kernel_rfl) (by kernel_rfl) (fun _ _ _ h => h) (Or.inl ⟨by rfl, ?_⟩) hHeld ?_
          rotate_left
          · (intro w hSw; (try dsimp only at hSw); go_simp; first | done | with_reducible rfl)
          simp only [Act.put, List.setIfInBounds_toArray, List.set_cons_zero, List.set_cons_succ]
          refine wpAnyH_take (i := 3) (oi := { dst := some 180, op := Op.load 22 (Operand.tmp 179), type := 22, pos := "nets.go:357", after := #[{ on := 2, ground := Ground.data }], guard := none }) (v := ?_) rfl (by kernel_rfl) (by kernel_rfl) (by kernel_rfl) (fun _ _ _ h => h) (Or.inl ⟨by rfl, ?_⟩) hHeld ?_
          rotate_left
          · (intro w hSw; (try dsimp only at hSw); go_simp; first | done | with_reducible rfl)
          simp only [Act.put, List.setIfInBounds_toArray, List.set_cons_zero, List.set_cons_succ]
          refine wpAnyH_ready (rs := [1]) (by kernel_rfl) (by simp) ?_
          refine AllReadyH.cons (o := { dst := some 178, op := Op.call { callee := Callee.value (Operand.func 19), args := #[Operand.tmp 177], argTypes := #[25] }, type := 22, pos := "nets.go:357", after := #[{ on := 0, ground := Ground.data }], guard := none }) rfl (fun K hK => ?_) AllReadyH.nil
          go_simp
          go_at_call 19
          refine (list_any _ S w.heap.size f L (HS6.out.below hHeld.2).t).mono ?_
          rintro e w7 ⟨v7, rfl, o7, b7⟩
          have B7 := Lib.hid (Below.two hHeld.2 b7); have O7 := Lib.hid o7.arg
          have KK0 : _ ∧ _ := ⟨(HS6.out.below B7.out).bx.c0, B7.out⟩
          clear hHeld o7 b7
          go_wp2_with fail
          refine hK.out _ _ KK0 (fun hHeld => ?_)
          clear hK K
          refine wpAnyH_ready (rs := [4]) (by kernel_rfl) (by simp) ?_
          refine AllReadyH.cons (o := { dst := some 181, op := Op.call { callee := Callee.value (Operand.func 20), args := #[Operand.tmp 180], argTypes := #[22] }, type := 22, pos := "nets.go:357", after := #[{ on := 3, ground := Ground.data }, { on := 1, ground := Ground.chain }], guard := none }) rfl (fun K hK => ?_) AllReadyH.nil
          go_simp
          go_at_call 20
          refine (ordered_any _ _ (nets M) (by rw [nets_len]; omega) (HS6.out.below hHeld.2).m.n.arg).mono ?_
          rintro e w8 ⟨v8, rfl, o8, b8⟩
          rw [HM.out.order HS6.out.t] at o8
          have B8 := Lib.hid (Below.two hHeld.2 b8); have O8 := Lib.hid o8.arg; have O7b := Lib.hid (O7.out.below b8)
          have KK1 : _ ∧ _ := ⟨(HS6.out.below B8.out).bx.c0, B8.out⟩
          clear hHeld o8 b8 O7
          go_wp2_with fail
          refine hK.out _ _ KK1 (fun hHeld => ?_)
          clear hK K
          refine wpAnyH_ready (rs := [5]) (by kernel_rfl) (by simp) ?_
          refine AllReadyH.cons (o := { dst := some 182, op := Op.call { callee := Callee.value (Operand.func 18), args := #[Operand.tmp 178, Operand.tmp 181], argTypes := #[22, 22] }, type := 4, pos := "nets.go:357", after := #[{ on := 1, ground := Ground.data }, { on := 4, ground := Ground.data }, { on := 4, ground := Ground.chain }], guard := none }) rfl (fun K hK => ?_) AllReadyH.nil
          go_simp
          go_at_call 18
          refine (sameNets_any _ _ _ L L (by omega) O7b.out O8.out).mono ?_
          rintro e w9 ⟨rfl, b9⟩
          rw [decide_eq_true rfl]
          have B9 := Lib.hid (Below.two hHeld.2 b9)
          have KK2 : _ ∧ _ := ⟨(HS6.out.below B9.out).bx.c0, B9.out⟩
          clear hHeld b9
          go_wp2_with fail
          refine hK.out _ _ KK2 (fun hHeld => ?_)
          clear hK K
          refine wpAnyH_take (i := 6) (oi := { dst := some 27, op := Op.assign (Operand.tmp 182), type := 4, pos := "nets.go:357", after := #[{ on := 5, ground := Ground.data }, { on := 5, ground := Ground.chain }, { on := 0, ground := Ground.phase }, { on := 1, ground := Ground.phase }, { on := 2, ground := Ground.phase }, { on := 3, ground := Ground.phase }, { on := 4, ground := Ground.phase }, { on := 5, ground := Ground.phase }], guard := none }) (v := ?_) rfl (by kernel_rfl) (by kernel_rfl) (by kernel_rfl) (fun _ _ _ h => h) (Or.inl ⟨by rfl, ?_⟩) hHeld ?_
          rotate_left
          · (intro w hSw; (try dsimp only at hSw); go_simp; first | done | with_reducible rfl)
          simp only [Act.put, List.setIfInBounds_toArray, List.set_cons_zero, List.set_cons_succ]
          refine wpAnyH_done (by kernel_rfl) ?_ _
          have B10 := Lib.hid hHeld.2
          obtain ⟨_, x0, x1, _, _⟩ := HX6.out.kept hHeld.2
          obtain ⟨_, y0, y1, _, _⟩ := HY6.out.kept hHeld.2
          clear hHeld
          go_wp2_with fail
          go_ret
          exact ⟨by simp, Below.two HS6.out.be B10.out⟩
end Go.Proofs.YtbdmfcnlfmnmdaaDoor
