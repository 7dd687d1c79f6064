/-
  cover.Cover at every list: its cover, or the error; what lay in memory stays.
-/
import Derived.Test.YtbdmfcnlfmnmdaaDoorCoverJoin
import Derived.Test.YtbdmfcnlfmnmdaaDoorNetApp
import Derived.Test.YtbdmfcnlfmnmdaaDoorCoverSorted
import Derived.Test.YtbdmfcnlfmnmdaaDoorCoverCheck
import Derived.Test.YtbdmfcnlfmnmdaaDoorPrefIn
namespace Go.Proofs.YtbdmfcnlfmnmdaaDoor
open Go.RowKit Go.Lib

/-- One network more, on what was found (from its end). -/
def stepR (st : List Nt) (n : Nt) : List Nt :=
  match st with
  | [] => joinR [n]
  | t :: r => if PrefP.in n.1 n.2 t.1 t.2 = true then t :: r else joinR (n :: t :: r)
/-- All of them, one by one. -/
def covR : List Nt → List Nt → List Nt
  | [], st => st
  | n :: r, st => covR r (stepR st n)
/-- THE COVER of a list of networks. -/
def cov (l : List Nt) : List Nt := (covR (srt l) []).reverse

theorem joinR_len : ∀ l : List Nt, (joinR l).length ≤ l.length := by
  intro l
  induction hl : l.length using Nat.strongRecOn generalizing l with
  | ind n ih =>
    match l, hl with
    | [], _ => rw [joinR]; exact Nat.zero_le _
    | [x], hl => rw [joinR]; exact Nat.le_of_eq hl
    | x :: y :: r, hl =>
      cases h : wh y x with
      | none => rw [joinR_stop x y r h]; exact Nat.le_of_eq hl
      | some u =>
        rw [joinR_go x y u r h]
        have := ih (u :: r).length (by simp at hl ⊢; omega) (u :: r) rfl
        simp at this hl ⊢; omega
theorem joinR_ok : ∀ l : List Nt, (∀ x ∈ l, x.1 < 4294967296 ∧ PrefP.chk x.1 x.2 = 0) → ∀ x ∈ joinR l, x.1 < 4294967296 ∧ PrefP.chk x.1 x.2 = 0 := by
  intro l
  induction hl : l.length using Nat.strongRecOn generalizing l with
  | ind n ih =>
    match l, hl with
    | [], _ => intro h; rw [joinR]; exact h
    | [x], _ => intro h; rw [joinR]; exact h
    | x :: y :: r, hl =>
      intro hok
      cases h : wh y x with
      | none => rw [joinR_stop x y r h]; exact hok
      | some u =>
        rw [joinR_go x y u r h]
        refine ih (u :: r).length (by simp at hl ⊢; omega) (u :: r) rfl ?_
        intro q hq
        rw [List.mem_cons] at hq
        have oy := hok y (by simp)
        rcases hq with rfl | hq
        · exact wh_ok y x q oy.1 oy.2 h
        · exact hok q (by simp [hq])

set_option maxHeartbeats 8000000 in
set_option maxRecDepth 100000 in
theorem cover_ok (w : World) (v : Value) (l : List Nt) (harg : Arg w v l) (hl : l.length ≤ 64) (hok : ∀ x ∈ l, x.1 < 4294967296 ∧ PrefP.chk x.1 x.2 = 0) :
    Calls Tryd.prog 23 #[v] w fun e w' => ∃ v', e = .returned (.tuple #[v', .nilIface]) ∧ Own w' w.heap.size v' (cov l) ∧ Below w.heap.size w w' := by
  have hbad : badL l = 0 := (badL_zero l).2 ⟨fun x hx => (hok x hx).2, hl⟩
  have hC := checkL_any w v l (by omega) harg (fun x hx => (hok x hx).1)
  rw [hbad, show errV 0 = Value.nilIface from rfl] at hC
  have HC := Lib.hid hC; clear hC hbad
  have HA := Lib.hid harg; clear harg
  have HL := Lib.hid hok; clear hok
  have hi : Tryd.prog.info? 32 = some infoN := by kernel_rfl
  obtain ⟨z, hz⟩ : ∃ z, infoN.zero = some z ∧ z.cells.size = 2 := ⟨.agg #[.int .u32 0, .int .i64 0], by kernel_rfl, by kernel_rfl⟩
  have hby : infoN.bytes = 16 := by kernel_rfl
  go_enter Tryd.func23, Tryd.ntmps23
  go_wp2_with fail
  refine HC.out.mono ?_
  rintro e0 w1 ⟨rfl, hb1⟩
  go_wp2_with fail
  refine (sorted_any w1 v l hl (HA.out.below hb1)).mono ?_
  rintro e1 W1 ⟨vs, rfl, hsrt, hb2⟩
  have hB0 := Below.two hb1 hb2
  have hsl := srt_len l
  have hsm := Lib.hid (srt_mem l)
  obtain ⟨p, c, rfl, hcase⟩ := hsrt
  have HD := Lib.hid hcase; clear hcase
  generalize hq : srt l = L at hsl hsm HD ⊢
  have HQ := Lib.hid hq; clear hq
  go_wp2_with fail
  go_loopw [16, 5] (fun vk vf wr => ∃ (k : Nat) (st : List Nt), vk = .int .i64 k ∧ k ≤ L.length ∧ st.length ≤ k ∧ Hid (Own wr W1.heap.size vf st.reverse) ∧ Hid (Below W1.heap.size W1 wr) ∧ Hid (∀ x ∈ st, x.1 < 4294967296 ∧ PrefP.chk x.1 x.2 = 0) ∧ Hid (covR (L.drop k) st = covR L [])) (fun vk _ _ => L.length - (intOf vk).toNat)
  case atStart => exact ⟨0, [], rfl, Nat.zero_le _, Nat.le_refl _, Lib.hid (World.ownsRow_nil W1 W1.heap.size 32 2), Lib.hid (Below.refl _ _), Lib.hid (by simp), Lib.hid rfl⟩
  case round =>
    obtain ⟨k, st, rfl, hk, hst, HW, HB, HOK, HE⟩ := hrel
    by_cases hkn : k < L.length
    · obtain ⟨b, off, rfl, hbl, hseen⟩ : ∃ b off, p = some ⟨b, off, none⟩ ∧ b < W1.heap.size ∧ Seen W1 b off L := by
        rcases HD.out with e | e
        · rw [e] at hkn; simp at hkn
        · exact e
      have S := hseen.below HB.out hbl
      have s0 : wr.cell? ⟨b, off + k * 2, none⟩ = some (.int .u32 (L[k]!.1 : Int)) := S.c0 k hkn
      have s1 : wr.cell? ⟨b, off + k * 2 + 1, none⟩ = some (.int .i64 L[k]!.2) := S.c1 k hkn
      have okn : L[k]!.1 < 4294967296 ∧ PrefP.chk L[k]!.1 L[k]!.2 = 0 := HL.out _ ((hsm.out _).1 (by rw [getElem!_pos L k hkn]; exact List.getElem_mem hkn))
      have hd := drop_at L k hkn
      clear S hseen
      generalize L[k]! = n at s0 s1 okn hd
      obtain ⟨_, ⟨rfl, hn⟩ | ⟨g, cap, cs, rfl, hg0, hg, hcap, hmax, hsz, hcs⟩⟩ := id HW.out
      · have e0 : st = [] := by simpa using hn
        subst e0
        go_upto_region 8 with fail
        refine wp_region_held_drew (S := (fun w' => w'.cell? ⟨wr.heap.size, 0, none⟩ = some (.int .u32 (n.1 : Int)) ∧ w'.cell? ⟨wr.heap.size, 1, none⟩ = some (.int .i64 n.2) ∧ Below wr.heap.size wr w')) (by kernel_rfl) ⟨(Box.new wr (.int .u32 (n.1 : Int)) (.int .i64 n.2) 32).c0, (Box.new wr (.int .u32 (n.1 : Int)) (.int .i64 n.2) 32).c1, ((Below.refl _ wr).alloc (Nat.le_refl _) _).drew⟩ (fun hHeld => ?_)
        refine wpAnyH_take (i := 0) (oi := { dst := some 20, op := Op.move (Operand.tmp 5), type := 22, pos := "cover.go:74", after := #[], guard := none }) (v := ?_) rfl (by kernel_rfl) (by kernel_rfl) (by kernel_rfl) (fun _ _ _ h => h) (Or.inl ⟨by rfl, ?_⟩) hHeld ?_
        rotate_left
        · (intro w hSw; (try dsimp only at hSw); go_simp; first | done | with_reducible rfl)
        simp only [Act.put, List.setIfInBounds_toArray, List.set_cons_zero, List.set_cons_succ]
        refine wpAnyH_take (i := 1) (oi := { dst := some 21, op := Op.call { callee := Callee.builtin Builtin.len, args := #[Operand.tmp 20], argTypes := #[22] }, type := 3, pos := "cover.go:74", after := #[{ on := 0, ground := Ground.data }], guard := none }) (v := ?_) rfl (by kernel_rfl) (by kernel_rfl) (by kernel_rfl) (fun _ _ _ h => h) (Or.inl ⟨by rfl, ?_⟩) hHeld ?_
        rotate_left
        · (intro w hSw; (try dsimp only at hSw); go_simp; first | done | with_reducible rfl)
        simp only [Act.put, List.setIfInBounds_toArray, List.set_cons_zero, List.set_cons_succ]
        refine wpAnyH_take (i := 2) (oi := { dst := some 22, op := Op.binOp BinOp.gtr 3 (Operand.tmp 21) (Operand.const (Value.int IntKind.i64 0)) 3, type := 4, pos := "cover.go:74", after := #[{ on := 1, ground := Ground.data }], guard := none }) (v := ?_) rfl (by kernel_rfl) (by kernel_rfl) (by kernel_rfl) (fun _ _ _ h => h) (Or.inl ⟨by rfl, ?_⟩) hHeld ?_
        rotate_left
        · (intro w hSw; (try dsimp only at hSw); go_simp; first | done | with_reducible rfl)
        simp only [Act.put, List.setIfInBounds_toArray, List.set_cons_zero, List.set_cons_succ]
        refine wpAnyH_take (i := 3) (oi := { dst := some 23, op := Op.move (Operand.tmp 22), type := 4, pos := "cover.go:74", after := #[{ on := 2, ground := Ground.data }], guard := none }) (v := ?_) rfl (by kernel_rfl) (by kernel_rfl) (by kernel_rfl) (fun _ _ _ h => h) (Or.inl ⟨by rfl, ?_⟩) hHeld ?_
        rotate_left
        · (intro w hSw; (try dsimp only at hSw); go_simp; first | done | with_reducible rfl)
        simp only [Act.put, List.setIfInBounds_toArray, List.set_cons_zero, List.set_cons_succ]
        refine wpAnyH_take (i := 4) (oi := { dst := some 24, op := Op.load 32 (Operand.tmp 7), type := 32, pos := "cover.go:74", after := #[{ on := 3, ground := Ground.guard }], guard := some (3, true) }) (v := undef) rfl (by kernel_rfl) (by kernel_rfl) (by kernel_rfl) (fun _ _ _ h => h) (Or.inr ⟨by rfl, rfl⟩) hHeld ?_
        simp only [Act.put, List.setIfInBounds_toArray, List.set_cons_zero, List.set_cons_succ]
        refine wpAnyH_take (i := 5) (oi := { dst := some 25, op := Op.move (Operand.tmp 5), type := 22, pos := "cover.go:74", after := #[{ on := 3, ground := Ground.guard }], guard := some (3, true) }) (v := undef) rfl (by kernel_rfl) (by kernel_rfl) (by kernel_rfl) (fun _ _ _ h => h) (Or.inr ⟨by rfl, rfl⟩) hHeld ?_
        simp only [Act.put, List.setIfInBounds_toArray, List.set_cons_zero, List.set_cons_succ]
        refine wpAnyH_take (i := 6) (oi := { dst := some 26, op := Op.move (Operand.tmp 5), type := 22, pos := "cover.go:74", after := #[{ on := 3, ground := Ground.guard }], guard := some (3, true) }) (v := undef) rfl (by kernel_rfl) (by kernel_rfl) (by kernel_rfl) (fun _ _ _ h => h) (Or.inr ⟨by rfl, rfl⟩) hHeld ?_
        simp only [Act.put, List.setIfInBounds_toArray, List.set_cons_zero, List.set_cons_succ]
        refine wpAnyH_take (i := 7) (oi := { dst := some 27, op := Op.call { callee := Callee.builtin Builtin.len, args := #[Operand.tmp 26], argTypes := #[22] }, type := 3, pos := "cover.go:74", after := #[{ on := 6, ground := Ground.data }, { on := 3, ground := Ground.guard }], guard := some (3, true) }) (v := undef) rfl (by kernel_rfl) (by kernel_rfl) (by kernel_rfl) (fun _ _ _ h => h) (Or.inr ⟨by rfl, rfl⟩) hHeld ?_
        simp only [Act.put, List.setIfInBounds_toArray, List.set_cons_zero, List.set_cons_succ]
        refine wpAnyH_take (i := 8) (oi := { dst := some 28, op := Op.binOp BinOp.sub 3 (Operand.tmp 27) (Operand.const (Value.int IntKind.i64 1)) 3, type := 3, pos := "cover.go:74", after := #[{ on := 7, ground := Ground.data }, { on := 3, ground := Ground.guard }], guard := some (3, true) }) (v := undef) rfl (by kernel_rfl) (by kernel_rfl) (by kernel_rfl) (fun _ _ _ h => h) (Or.inr ⟨by rfl, rfl⟩) hHeld ?_
        simp only [Act.put, List.setIfInBounds_toArray, List.set_cons_zero, List.set_cons_succ]
        refine wpAnyH_take (i := 9) (oi := { dst := some 29, op := Op.indexAddr 22 (Operand.tmp 25) (Operand.tmp 28), type := 0, pos := "cover.go:74", after := #[{ on := 5, ground := Ground.data }, { on := 8, ground := Ground.data }, { on := 3, ground := Ground.guard }], guard := some (3, true) }) (v := undef) rfl (by kernel_rfl) (by kernel_rfl) (by kernel_rfl) (fun _ _ _ h => h) (Or.inr ⟨by rfl, rfl⟩) hHeld ?_
        simp only [Act.put, List.setIfInBounds_toArray, List.set_cons_zero, List.set_cons_succ]
        refine wpAnyH_take (i := 10) (oi := { dst := some 30, op := Op.load 32 (Operand.tmp 29), type := 32, pos := "cover.go:74", after := #[{ on := 9, ground := Ground.data }, { on := 3, ground := Ground.guard }], guard := some (3, true) }) (v := undef) rfl (by kernel_rfl) (by kernel_rfl) (by kernel_rfl) (fun _ _ _ h => h) (Or.inr ⟨by rfl, rfl⟩) hHeld ?_
        simp only [Act.put, List.setIfInBounds_toArray, List.set_cons_zero, List.set_cons_succ]
        refine wpAnyH_take (i := 11) (oi := { dst := some 31, op := Op.call { callee := Callee.value (Operand.func 39), args := #[Operand.tmp 24, Operand.tmp 30], argTypes := #[32, 32] }, type := 4, pos := "cover.go:74", after := #[{ on := 4, ground := Ground.data }, { on := 10, ground := Ground.data }, { on := 3, ground := Ground.chain }, { on := 3, ground := Ground.guard }], guard := some (3, true) }) (v := undef) rfl (by kernel_rfl) (by kernel_rfl) (by kernel_rfl) (fun _ _ _ h => h) (Or.inr ⟨by rfl, rfl⟩) hHeld ?_
        simp only [Act.put, List.setIfInBounds_toArray, List.set_cons_zero, List.set_cons_succ]
        refine wpAnyH_take (i := 12) (oi := { dst := some 32, op := Op.pick (Operand.tmp 23) (Operand.tmp 31) (Operand.const (Value.bool false)), type := 4, pos := "cover.go:74", after := #[{ on := 3, ground := Ground.data }, { on := 11, ground := Ground.data }], guard := none }) (v := ?_) rfl (by kernel_rfl) (by kernel_rfl) (by kernel_rfl) (fun _ _ _ h => h) (Or.inl ⟨by rfl, ?_⟩) hHeld ?_
        rotate_left
        · (intro w hSw; (try dsimp only at hSw); go_simp; first | done | with_reducible rfl)
        simp only [Act.put, List.setIfInBounds_toArray, List.set_cons_zero, List.set_cons_succ]
        refine wpAnyH_done (by kernel_rfl) ?_ _
        have bel := hHeld.2.2
        have BX : Box (wr.alloc (.cells #[.int .u32 (n.1 : Int), .int .i64 n.2] 32)).drew wr.heap.size (.int .u32 (n.1 : Int)) (.int .i64 n.2) :=
          have BN := Box.new wr (.int .u32 (n.1 : Int)) (.int .i64 n.2) 32
          ⟨BN.lt, BN.c0, BN.c1, BN.f0, BN.f1⟩
        clear hHeld
        generalize (wr.alloc (.cells #[.int .u32 (n.1 : Int), .int .i64 n.2] 32)).drew = V at bel BX ⊢
        obtain ⟨l6, k0, k1, j0, j1⟩ := id BX
        have ow := HW.out.keep bel
        unfold Own at ow
        have HO : Hid (V.ownsRow W1.heap.size 32 2 (.slice none 0 0) 0 []) := Lib.hid ow
        clear ow
        have hbV : W1.heap.size ≤ V.heap.size := Nat.le_trans HB.out.size bel.size
        go_wp2_with (at_builtin; refine wpList_append_own _ rfl _ _ 22 rfl W1.heap.size 32 infoN z 2 16 (by kernel_rfl) hi hz.1 infoN_size hby hz.2 (by omega) (.slice none 0 0) 0 [] rfl ?q0 ⟨V.heap.size, 0, none⟩ 1 1 [Nt.v0 n, Nt.v1 n] rfl rfl ?q1 ?q2 ?q3 ?q4 ?q5 ?_)
        case q0 => exact rowKeep HO.out ((Below.refl _ V).alloc (Nat.le_refl _) (.cells #[.int .u32 (n.1 : Int), .int .i64 n.2] 32))
        case q1 =>
          intro j v hj
          have NB := Box.new V (.int .u32 (n.1 : Int)) (.int .i64 n.2) 32
          match j, hj with
          | 0, hj => simp at hj; subst hj; exact NB.c0
          | 1, hj => simp at hj; subst hj; exact NB.c1
        case q2 => intro v hv; simp [Nt.v0, Nt.v1] at hv; rcases hv with rfl | rfl <;> rfl
        case q3 => simp only [maxLen]; omega
        case q4 => omega
        case q5 => simp; omega
        intro v' w' hown hgrow _
        have bel2 : Below W1.heap.size V w' := ((Below.refl _ V).alloc hbV (.cells #[.int .u32 (n.1 : Int), .int .i64 n.2] 32)).grown hgrow (by simp; omega) (by
          intro q hq
          simp [Value.ownBlock] at hq)
        have own2 : Own w' W1.heap.size v' (([] : List Nt).reverse ++ [n]) := by
          unfold Own
          rw [List.length_append, cellsL_app]
          exact hown
        have hJ := Lib.hid (join_any W1.heap.size w' v' (([] : List Nt).reverse ++ [n]) (by first | (simp; done) | (simp; omega)) (Nat.le_trans hbV bel2.size) own2 (by
          intro q hq
          rw [List.mem_append, List.mem_reverse, List.mem_singleton] at hq
          rcases hq with hq | rfl
          · exact HOK.out q hq
          · exact okn))
        clear hown hgrow own2 k0 k1
        go_wp2_with fail
        refine hJ.out.mono ?_
        rintro e2 w3 ⟨v3, rfl, own3, bel3⟩
        rw [List.reverse_append, List.reverse_reverse, show ([n] : List Nt).reverse ++ ([] : List Nt) = n :: ([] : List Nt) from rfl] at own3
        have O3 := Lib.hid own3; clear own3
        go_wp2_with fail
        go_roundw
        case rel =>
          refine ⟨k + 1, joinR (n :: ([] : List Nt)), by go_num, by omega, ?_, O3, Lib.hid ((HB.out.trans (bel.mono HB.out.size)).trans (bel2.trans bel3)), Lib.hid (joinR_ok (n :: ([] : List Nt)) ?_), Lib.hid ?_⟩
          · have := joinR_len (n :: ([] : List Nt)); simp at this; omega
          · intro q hq
            rw [List.mem_cons] at hq
            rcases hq with rfl | hq
            · exact okn
            · exact HOK.out q hq
          · rw [← HE.out, hd, covR, stepR]
        case measure => simp [intOf]; omega
      · cases st with
        | nil =>
          go_upto_region 8 with fail
          refine wp_region_held_drew (S := (fun w' => w'.cell? ⟨wr.heap.size, 0, none⟩ = some (.int .u32 (n.1 : Int)) ∧ w'.cell? ⟨wr.heap.size, 1, none⟩ = some (.int .i64 n.2) ∧ Below wr.heap.size wr w')) (by kernel_rfl) ⟨(Box.new wr (.int .u32 (n.1 : Int)) (.int .i64 n.2) 32).c0, (Box.new wr (.int .u32 (n.1 : Int)) (.int .i64 n.2) 32).c1, ((Below.refl _ wr).alloc (Nat.le_refl _) _).drew⟩ (fun hHeld => ?_)
          refine wpAnyH_take (i := 0) (oi := { dst := some 20, op := Op.move (Operand.tmp 5), type := 22, pos := "cover.go:74", after := #[], guard := none }) (v := ?_) rfl (by kernel_rfl) (by kernel_rfl) (by kernel_rfl) (fun _ _ _ h => h) (Or.inl ⟨by rfl, ?_⟩) hHeld ?_
          rotate_left
          · (intro w hSw; (try dsimp only at hSw); go_simp; first | done | with_reducible rfl)
          simp only [Act.put, List.setIfInBounds_toArray, List.set_cons_zero, List.set_cons_succ]
          refine wpAnyH_take (i := 1) (oi := { dst := some 21, op := Op.call { callee := Callee.builtin Builtin.len, args := #[Operand.tmp 20], argTypes := #[22] }, type := 3, pos := "cover.go:74", after := #[{ on := 0, ground := Ground.data }], guard := none }) (v := ?_) rfl (by kernel_rfl) (by kernel_rfl) (by kernel_rfl) (fun _ _ _ h => h) (Or.inl ⟨by rfl, ?_⟩) hHeld ?_
          rotate_left
          · (intro w hSw; (try dsimp only at hSw); go_simp; first | done | with_reducible rfl)
          simp only [Act.put, List.setIfInBounds_toArray, List.set_cons_zero, List.set_cons_succ]
          refine wpAnyH_take (i := 2) (oi := { dst := some 22, op := Op.binOp BinOp.gtr 3 (Operand.tmp 21) (Operand.const (Value.int IntKind.i64 0)) 3, type := 4, pos := "cover.go:74", after := #[{ on := 1, ground := Ground.data }], guard := none }) (v := ?_) rfl (by kernel_rfl) (by kernel_rfl) (by kernel_rfl) (fun _ _ _ h => h) (Or.inl ⟨by rfl, ?_⟩) hHeld ?_
          rotate_left
          · (intro w hSw; (try dsimp only at hSw); go_simp; first | done | with_reducible rfl)
          simp only [Act.put, List.setIfInBounds_toArray, List.set_cons_zero, List.set_cons_succ]
          refine wpAnyH_take (i := 3) (oi := { dst := some 23, op := Op.move (Operand.tmp 22), type := 4, pos := "cover.go:74", after := #[{ on := 2, ground := Ground.data }], guard := none }) (v := ?_) rfl (by kernel_rfl) (by kernel_rfl) (by kernel_rfl) (fun _ _ _ h => h) (Or.inl ⟨by rfl, ?_⟩) hHeld ?_
          rotate_left
          · (intro w hSw; (try dsimp only at hSw); go_simp; first | done | with_reducible rfl)
          simp only [Act.put, List.setIfInBounds_toArray, List.set_cons_zero, List.set_cons_succ]
          refine wpAnyH_take (i := 4) (oi := { dst := some 24, op := Op.load 32 (Operand.tmp 7), type := 32, pos := "cover.go:74", after := #[{ on := 3, ground := Ground.guard }], guard := some (3, true) }) (v := undef) rfl (by kernel_rfl) (by kernel_rfl) (by kernel_rfl) (fun _ _ _ h => h) (Or.inr ⟨by rfl, rfl⟩) hHeld ?_
          simp only [Act.put, List.setIfInBounds_toArray, List.set_cons_zero, List.set_cons_succ]
          refine wpAnyH_take (i := 5) (oi := { dst := some 25, op := Op.move (Operand.tmp 5), type := 22, pos := "cover.go:74", after := #[{ on := 3, ground := Ground.guard }], guard := some (3, true) }) (v := undef) rfl (by kernel_rfl) (by kernel_rfl) (by kernel_rfl) (fun _ _ _ h => h) (Or.inr ⟨by rfl, rfl⟩) hHeld ?_
          simp only [Act.put, List.setIfInBounds_toArray, List.set_cons_zero, List.set_cons_succ]
          refine wpAnyH_take (i := 6) (oi := { dst := some 26, op := Op.move (Operand.tmp 5), type := 22, pos := "cover.go:74", after := #[{ on := 3, ground := Ground.guard }], guard := some (3, true) }) (v := undef) rfl (by kernel_rfl) (by kernel_rfl) (by kernel_rfl) (fun _ _ _ h => h) (Or.inr ⟨by rfl, rfl⟩) hHeld ?_
          simp only [Act.put, List.setIfInBounds_toArray, List.set_cons_zero, List.set_cons_succ]
          refine wpAnyH_take (i := 7) (oi := { dst := some 27, op := Op.call { callee := Callee.builtin Builtin.len, args := #[Operand.tmp 26], argTypes := #[22] }, type := 3, pos := "cover.go:74", after := #[{ on := 6, ground := Ground.data }, { on := 3, ground := Ground.guard }], guard := some (3, true) }) (v := undef) rfl (by kernel_rfl) (by kernel_rfl) (by kernel_rfl) (fun _ _ _ h => h) (Or.inr ⟨by rfl, rfl⟩) hHeld ?_
          simp only [Act.put, List.setIfInBounds_toArray, List.set_cons_zero, List.set_cons_succ]
          refine wpAnyH_take (i := 8) (oi := { dst := some 28, op := Op.binOp BinOp.sub 3 (Operand.tmp 27) (Operand.const (Value.int IntKind.i64 1)) 3, type := 3, pos := "cover.go:74", after := #[{ on := 7, ground := Ground.data }, { on := 3, ground := Ground.guard }], guard := some (3, true) }) (v := undef) rfl (by kernel_rfl) (by kernel_rfl) (by kernel_rfl) (fun _ _ _ h => h) (Or.inr ⟨by rfl, rfl⟩) hHeld ?_
          simp only [Act.put, List.setIfInBounds_toArray, List.set_cons_zero, List.set_cons_succ]
          refine wpAnyH_take (i := 9) (oi := { dst := some 29, op := Op.indexAddr 22 (Operand.tmp 25) (Operand.tmp 28), type := 0, pos := "cover.go:74", after := #[{ on := 5, ground := Ground.data }, { on := 8, ground := Ground.data }, { on := 3, ground := Ground.guard }], guard := some (3, true) }) (v := undef) rfl (by kernel_rfl) (by kernel_rfl) (by kernel_rfl) (fun _ _ _ h => h) (Or.inr ⟨by rfl, rfl⟩) hHeld ?_
          simp only [Act.put, List.setIfInBounds_toArray, List.set_cons_zero, List.set_cons_succ]
          refine wpAnyH_take (i := 10) (oi := { dst := some 30, op := Op.load 32 (Operand.tmp 29), type := 32, pos := "cover.go:74", after := #[{ on := 9, ground := Ground.data }, { on := 3, ground := Ground.guard }], guard := some (3, true) }) (v := undef) rfl (by kernel_rfl) (by kernel_rfl) (by kernel_rfl) (fun _ _ _ h => h) (Or.inr ⟨by rfl, rfl⟩) hHeld ?_
          simp only [Act.put, List.setIfInBounds_toArray, List.set_cons_zero, List.set_cons_succ]
          refine wpAnyH_take (i := 11) (oi := { dst := some 31, op := Op.call { callee := Callee.value (Operand.func 39), args := #[Operand.tmp 24, Operand.tmp 30], argTypes := #[32, 32] }, type := 4, pos := "cover.go:74", after := #[{ on := 4, ground := Ground.data }, { on := 10, ground := Ground.data }, { on := 3, ground := Ground.chain }, { on := 3, ground := Ground.guard }], guard := some (3, true) }) (v := undef) rfl (by kernel_rfl) (by kernel_rfl) (by kernel_rfl) (fun _ _ _ h => h) (Or.inr ⟨by rfl, rfl⟩) hHeld ?_
          simp only [Act.put, List.setIfInBounds_toArray, List.set_cons_zero, List.set_cons_succ]
          refine wpAnyH_take (i := 12) (oi := { dst := some 32, op := Op.pick (Operand.tmp 23) (Operand.tmp 31) (Operand.const (Value.bool false)), type := 4, pos := "cover.go:74", after := #[{ on := 3, ground := Ground.data }, { on := 11, ground := Ground.data }], guard := none }) (v := ?_) rfl (by kernel_rfl) (by kernel_rfl) (by kernel_rfl) (fun _ _ _ h => h) (Or.inl ⟨by rfl, ?_⟩) hHeld ?_
          rotate_left
          · (intro w hSw; (try dsimp only at hSw); go_simp; first | done | with_reducible rfl)
          simp only [Act.put, List.setIfInBounds_toArray, List.set_cons_zero, List.set_cons_succ]
          refine wpAnyH_done (by kernel_rfl) ?_ _
          have bel := hHeld.2.2
          have BX : Box (wr.alloc (.cells #[.int .u32 (n.1 : Int), .int .i64 n.2] 32)).drew wr.heap.size (.int .u32 (n.1 : Int)) (.int .i64 n.2) :=
            have BN := Box.new wr (.int .u32 (n.1 : Int)) (.int .i64 n.2) 32
            ⟨BN.lt, BN.c0, BN.c1, BN.f0, BN.f1⟩
          clear hHeld
          generalize (wr.alloc (.cells #[.int .u32 (n.1 : Int), .int .i64 n.2] 32)).drew = V at bel BX ⊢
          obtain ⟨l6, k0, k1, j0, j1⟩ := id BX
          have ow := HW.out.keep bel
          unfold Own at ow
          have HO : Hid (V.ownsRow W1.heap.size 32 2 (.slice (some ⟨g, 0, none⟩) 0 cap) 0 []) := Lib.hid ow
          clear ow
          have hbV : W1.heap.size ≤ V.heap.size := Nat.le_trans HB.out.size bel.size
          go_wp2_with (at_builtin; refine wpList_append_own _ rfl _ _ 22 rfl W1.heap.size 32 infoN z 2 16 (by kernel_rfl) hi hz.1 infoN_size hby hz.2 (by omega) (.slice (some ⟨g, 0, none⟩) 0 cap) 0 [] rfl ?q0 ⟨V.heap.size, 0, none⟩ 1 1 [Nt.v0 n, Nt.v1 n] rfl rfl ?q1 ?q2 ?q3 ?q4 ?q5 ?_)
          case q0 => exact rowKeep HO.out ((Below.refl _ V).alloc (Nat.le_refl _) (.cells #[.int .u32 (n.1 : Int), .int .i64 n.2] 32))
          case q1 =>
            intro j v hj
            have NB := Box.new V (.int .u32 (n.1 : Int)) (.int .i64 n.2) 32
            match j, hj with
            | 0, hj => simp at hj; subst hj; exact NB.c0
            | 1, hj => simp at hj; subst hj; exact NB.c1
          case q2 => intro v hv; simp [Nt.v0, Nt.v1] at hv; rcases hv with rfl | rfl <;> rfl
          case q3 => simp only [maxLen]; omega
          case q4 => omega
          case q5 => simp; omega
          intro v' w' hown hgrow _
          have bel2 : Below W1.heap.size V w' := ((Below.refl _ V).alloc hbV (.cells #[.int .u32 (n.1 : Int), .int .i64 n.2] 32)).grown hgrow (by simp; omega) (by
            intro q hq
            simp [Value.ownBlock] at hq; omega)
          have own2 : Own w' W1.heap.size v' (([] : List Nt).reverse ++ [n]) := by
            unfold Own
            rw [List.length_append, cellsL_app]
            exact hown
          have hJ := Lib.hid (join_any W1.heap.size w' v' (([] : List Nt).reverse ++ [n]) (by first | (simp; done) | (simp; omega)) (Nat.le_trans hbV bel2.size) own2 (by
            intro q hq
            rw [List.mem_append, List.mem_reverse, List.mem_singleton] at hq
            rcases hq with hq | rfl
            · exact HOK.out q hq
            · exact okn))
          clear hown hgrow own2 k0 k1
          go_wp2_with fail
          refine hJ.out.mono ?_
          rintro e2 w3 ⟨v3, rfl, own3, bel3⟩
          rw [List.reverse_append, List.reverse_reverse, show ([n] : List Nt).reverse ++ ([] : List Nt) = n :: ([] : List Nt) from rfl] at own3
          have O3 := Lib.hid own3; clear own3
          go_wp2_with fail
          go_roundw
          case rel =>
            refine ⟨k + 1, joinR (n :: ([] : List Nt)), by go_num, by omega, ?_, O3, Lib.hid ((HB.out.trans (bel.mono HB.out.size)).trans (bel2.trans bel3)), Lib.hid (joinR_ok (n :: ([] : List Nt)) ?_), Lib.hid ?_⟩
            · have := joinR_len (n :: ([] : List Nt)); simp at this; omega
            · intro q hq
              rw [List.mem_cons] at hq
              rcases hq with rfl | hq
              · exact okn
              · exact HOK.out q hq
            · rw [← HE.out, hd, covR, stepR]
          case measure => simp [intOf]; omega
        | cons t r =>
          obtain ⟨m, hm⟩ : ∃ m, m = (t :: r).reverse.length := ⟨_, rfl⟩
          have hS := Own.seen (l := (t :: r).reverse) hg hcs hg0 hcap
          have hgl : g < wr.heap.size := (Array.getElem?_eq_some_iff.1 hg).1
          have ht : (t :: r).reverse[r.length]! = t := by simp
          obtain ⟨e, he⟩ : ∃ e, e = r.length := ⟨_, rfl⟩
          have me : m = e + 1 := by rw [hm, he]; simp
          have t0 : wr.cell? ⟨g, e * 2, none⟩ = some (.int .u32 (t.1 : Int)) := by have := hS.c0 r.length (by simp); rwa [ht, Nat.zero_add, ← he] at this
          have t1 : wr.cell? ⟨g, e * 2 + 1, none⟩ = some (.int .i64 t.2) := by have := hS.c1 r.length (by simp); rwa [ht, Nat.zero_add, ← he] at this
          rw [← hm] at HW hcap
          rw [← hm]
          have HR1 : Hid (r.length + 1 ≤ k) := Lib.hid (by simpa using hst)
          have hm64 : m < 64 := by rw [me, he]; simp at hst; omega
          have HM := Lib.hid hm
          have HJ : Hid (∀ w', Below wr.heap.size wr w' → (w'.cell? ⟨wr.heap.size, 0, none⟩ = some (.int .u32 (n.1 : Int)) ∧ w'.cell? ⟨wr.heap.size, 1, none⟩ = some (.int .i64 n.2)) → (w'.cell? ⟨wr.heap.size, 0, none⟩ = some (.int .u32 (n.1 : Int)) ∧ w'.cell? ⟨wr.heap.size, 1, none⟩ = some (.int .i64 n.2) ∧ w'.cell? ⟨g, e * 2, none⟩ = some (.int .u32 (t.1 : Int)) ∧ w'.cell? ⟨g, e * 2 + 1, none⟩ = some (.int .i64 t.2) ∧ Below wr.heap.size wr w')) :=
            Lib.hid fun w' hb hn => ⟨hn.1, hn.2, (hb.cell (p := ⟨g, e * 2, none⟩) hgl).trans t0, (hb.cell (p := ⟨g, e * 2 + 1, none⟩) hgl).trans t1, hb⟩
          clear hS hg hcs ht t0 t1 hm
          have b1 : e < m := by omega
          have b0 : 0 < m := by omega
          have hw1 : IntKind.i64.wrap ((m : Int) - 1) = (e : Int) := by simp [IntKind.wrap, IntKind.bits, IntKind.signed]; omega
          have ME := Lib.hid me; have EE := Lib.hid he
          clear me he
          cases hin : PrefP.in n.1 n.2 t.1 t.2 with
          | true =>
            go_upto_region 8 with fail
            refine wp_region_held_drew (S := (fun w' => w'.cell? ⟨wr.heap.size, 0, none⟩ = some (.int .u32 (n.1 : Int)) ∧ w'.cell? ⟨wr.heap.size, 1, none⟩ = some (.int .i64 n.2) ∧ w'.cell? ⟨g, e * 2, none⟩ = some (.int .u32 (t.1 : Int)) ∧ w'.cell? ⟨g, e * 2 + 1, none⟩ = some (.int .i64 t.2) ∧ Below wr.heap.size wr w')) (by kernel_rfl) (HJ.out _ (((Below.refl _ wr).alloc (Nat.le_refl _) _).drew) ⟨(Box.new wr (.int .u32 (n.1 : Int)) (.int .i64 n.2) 32).c0, (Box.new wr (.int .u32 (n.1 : Int)) (.int .i64 n.2) 32).c1⟩) (fun hHeld => ?_)
            refine wpAnyH_take (i := 0) (oi := { dst := some 20, op := Op.move (Operand.tmp 5), type := 22, pos := "cover.go:74", after := #[], guard := none }) (v := ?_) rfl (by kernel_rfl) (by kernel_rfl) (by kernel_rfl) (fun _ _ _ h => h) (Or.inl ⟨by rfl, ?_⟩) hHeld ?_
            rotate_left
            · (intro w hSw; (try dsimp only at hSw); go_simp; first | done | with_reducible rfl)
            simp only [Act.put, List.setIfInBounds_toArray, List.set_cons_zero, List.set_cons_succ]
            refine wpAnyH_take (i := 1) (oi := { dst := some 21, op := Op.call { callee := Callee.builtin Builtin.len, args := #[Operand.tmp 20], argTypes := #[22] }, type := 3, pos := "cover.go:74", after := #[{ on := 0, ground := Ground.data }], guard := none }) (v := ?_) rfl (by kernel_rfl) (by kernel_rfl) (by kernel_rfl) (fun _ _ _ h => h) (Or.inl ⟨by rfl, ?_⟩) hHeld ?_
            rotate_left
            · (intro w hSw; (try dsimp only at hSw); go_simp; first | done | with_reducible rfl)
            simp only [Act.put, List.setIfInBounds_toArray, List.set_cons_zero, List.set_cons_succ]
            refine wpAnyH_take (i := 2) (oi := { dst := some 22, op := Op.binOp BinOp.gtr 3 (Operand.tmp 21) (Operand.const (Value.int IntKind.i64 0)) 3, type := 4, pos := "cover.go:74", after := #[{ on := 1, ground := Ground.data }], guard := none }) (v := ?_) rfl (by kernel_rfl) (by kernel_rfl) (by kernel_rfl) (fun _ _ _ h => h) (Or.inl ⟨by rfl, ?_⟩) hHeld ?_
            rotate_left
            · (intro w hSw; (try dsimp only at hSw); go_simp; first | done | with_reducible rfl)
            simp only [Act.put, List.setIfInBounds_toArray, List.set_cons_zero, List.set_cons_succ]
            refine wpAnyH_take (i := 3) (oi := { dst := some 23, op := Op.move (Operand.tmp 22), type := 4, pos := "cover.go:74", after := #[{ on := 2, ground := Ground.data }], guard := none }) (v := ?_) rfl (by kernel_rfl) (by kernel_rfl) (by kernel_rfl) (fun _ _ _ h => h) (Or.inl ⟨by rfl, ?_⟩) hHeld ?_
            rotate_left
            · (intro w hSw; (try dsimp only at hSw); go_simp; first | done | with_reducible rfl)
            simp only [Act.put, List.setIfInBounds_toArray, List.set_cons_zero, List.set_cons_succ]
            refine wpAnyH_take (i := 4) (oi := { dst := some 24, op := Op.load 32 (Operand.tmp 7), type := 32, pos := "cover.go:74", after := #[{ on := 3, ground := Ground.guard }], guard := some (3, true) }) (v := ?_) rfl (by kernel_rfl) (by kernel_rfl) (by kernel_rfl) (fun _ _ _ h => h) (Or.inl ⟨by rfl, ?_⟩) hHeld ?_
            rotate_left
            · (intro w hSw; (try dsimp only at hSw); go_simp; first | done | with_reducible rfl)
            simp only [Act.put, List.setIfInBounds_toArray, List.set_cons_zero, List.set_cons_succ]
            refine wpAnyH_take (i := 5) (oi := { dst := some 25, op := Op.move (Operand.tmp 5), type := 22, pos := "cover.go:74", after := #[{ on := 3, ground := Ground.guard }], guard := some (3, true) }) (v := ?_) rfl (by kernel_rfl) (by kernel_rfl) (by kernel_rfl) (fun _ _ _ h => h) (Or.inl ⟨by rfl, ?_⟩) hHeld ?_
            rotate_left
            · (intro w hSw; (try dsimp only at hSw); go_simp; first | done | with_reducible rfl)
            simp only [Act.put, List.setIfInBounds_toArray, List.set_cons_zero, List.set_cons_succ]
            refine wpAnyH_take (i := 6) (oi := { dst := some 26, op := Op.move (Operand.tmp 5), type := 22, pos := "cover.go:74", after := #[{ on := 3, ground := Ground.guard }], guard := some (3, true) }) (v := ?_) rfl (by kernel_rfl) (by kernel_rfl) (by kernel_rfl) (fun _ _ _ h => h) (Or.inl ⟨by rfl, ?_⟩) hHeld ?_
            rotate_left
            · (intro w hSw; (try dsimp only at hSw); go_simp; first | done | with_reducible rfl)
            simp only [Act.put, List.setIfInBounds_toArray, List.set_cons_zero, List.set_cons_succ]
            refine wpAnyH_take (i := 7) (oi := { dst := some 27, op := Op.call { callee := Callee.builtin Builtin.len, args := #[Operand.tmp 26], argTypes := #[22] }, type := 3, pos := "cover.go:74", after := #[{ on := 6, ground := Ground.data }, { on := 3, ground := Ground.guard }], guard := some (3, true) }) (v := ?_) rfl (by kernel_rfl) (by kernel_rfl) (by kernel_rfl) (fun _ _ _ h => h) (Or.inl ⟨by rfl, ?_⟩) hHeld ?_
            rotate_left
            · (intro w hSw; (try dsimp only at hSw); go_simp; first | done | with_reducible rfl)
            simp only [Act.put, List.setIfInBounds_toArray, List.set_cons_zero, List.set_cons_succ]
            refine wpAnyH_take (i := 8) (oi := { dst := some 28, op := Op.binOp BinOp.sub 3 (Operand.tmp 27) (Operand.const (Value.int IntKind.i64 1)) 3, type := 3, pos := "cover.go:74", after := #[{ on := 7, ground := Ground.data }, { on := 3, ground := Ground.guard }], guard := some (3, true) }) (v := ?_) rfl (by kernel_rfl) (by kernel_rfl) (by kernel_rfl) (fun _ _ _ h => h) (Or.inl ⟨by rfl, ?_⟩) hHeld ?_
            rotate_left
            · (intro w hSw; (try dsimp only at hSw); go_simp; first | done | with_reducible rfl)
            simp only [Act.put, List.setIfInBounds_toArray, List.set_cons_zero, List.set_cons_succ]
            refine wpAnyH_take (i := 9) (oi := { dst := some 29, op := Op.indexAddr 22 (Operand.tmp 25) (Operand.tmp 28), type := 0, pos := "cover.go:74", after := #[{ on := 5, ground := Ground.data }, { on := 8, ground := Ground.data }, { on := 3, ground := Ground.guard }], guard := some (3, true) }) (v := ?_) rfl (by kernel_rfl) (by kernel_rfl) (by kernel_rfl) (fun _ _ _ h => h) (Or.inl ⟨by rfl, ?_⟩) hHeld ?_
            rotate_left
            · (intro w hSw; (try dsimp only at hSw); go_simp; first | done | with_reducible rfl)
            simp only [Act.put, List.setIfInBounds_toArray, List.set_cons_zero, List.set_cons_succ]
            refine wpAnyH_take (i := 10) (oi := { dst := some 30, op := Op.load 32 (Operand.tmp 29), type := 32, pos := "cover.go:74", after := #[{ on := 9, ground := Ground.data }, { on := 3, ground := Ground.guard }], guard := some (3, true) }) (v := ?_) rfl (by kernel_rfl) (by kernel_rfl) (by kernel_rfl) (fun _ _ _ h => h) (Or.inl ⟨by rfl, ?_⟩) hHeld ?_
            rotate_left
            · (intro w hSw; (try dsimp only at hSw); go_simp; first | done | with_reducible rfl)
            simp only [Act.put, List.setIfInBounds_toArray, List.set_cons_zero, List.set_cons_succ]
            refine wpAnyH_ready (rs := [11]) (by kernel_rfl) (by simp) ?_
            refine (AllReadyH.cons (o := { dst := some 31, op := Op.call { callee := Callee.value (Operand.func 39), args := #[Operand.tmp 24, Operand.tmp 30], argTypes := #[32, 32] }, type := 4, pos := "cover.go:74", after := #[{ on := 4, ground := Ground.data }, { on := 10, ground := Ground.data }, { on := 3, ground := Ground.chain }, { on := 3, ground := Ground.guard }], guard := some (3, true) }) rfl (fun K hK => ?_) AllReadyH.nil)
            go_simp
            go_at_call 39
            refine (in_any _ _ _ _ okn.1 _).mono ?_
            rintro e1 V ⟨rfl, hq⟩
            obtain ⟨BX, bel⟩ := box1d hq; clear hq
            have KK11 := HJ.out V bel ⟨BX.c0, BX.c1⟩
            clear hHeld
            rw [hin]
            go_wp2_with fail
            refine hK.out _ _ KK11 (fun hHeld => ?_)
            clear hK K
            refine wpAnyH_take (i := 12) (oi := { dst := some 32, op := Op.pick (Operand.tmp 23) (Operand.tmp 31) (Operand.const (Value.bool false)), type := 4, pos := "cover.go:74", after := #[{ on := 3, ground := Ground.data }, { on := 11, ground := Ground.data }], guard := none }) (v := ?_) rfl (by kernel_rfl) (by kernel_rfl) (by kernel_rfl) (fun _ _ _ h => h) (Or.inl ⟨by rfl, ?_⟩) hHeld ?_
            rotate_left
            · (intro w hSw; (try dsimp only at hSw); go_simp; first | done | with_reducible rfl)
            simp only [Act.put, List.setIfInBounds_toArray, List.set_cons_zero, List.set_cons_succ]
            refine wpAnyH_done (by kernel_rfl) ?_ _
            go_wp2_with fail
            go_roundw
            case rel => exact ⟨k + 1, t :: r, by go_num, by omega, by omega, Lib.hid (HW.out.keep bel), Lib.hid (HB.out.trans (bel.mono HB.out.size)), HOK, Lib.hid (by rw [← HE.out, hd, covR, stepR, if_pos hin])⟩
            case measure => simp [intOf]; omega
          | false =>
            go_upto_region 8 with fail
            refine wp_region_held_drew (S := (fun w' => w'.cell? ⟨wr.heap.size, 0, none⟩ = some (.int .u32 (n.1 : Int)) ∧ w'.cell? ⟨wr.heap.size, 1, none⟩ = some (.int .i64 n.2) ∧ w'.cell? ⟨g, e * 2, none⟩ = some (.int .u32 (t.1 : Int)) ∧ w'.cell? ⟨g, e * 2 + 1, none⟩ = some (.int .i64 t.2) ∧ Below wr.heap.size wr w')) (by kernel_rfl) (HJ.out _ (((Below.refl _ wr).alloc (Nat.le_refl _) _).drew) ⟨(Box.new wr (.int .u32 (n.1 : Int)) (.int .i64 n.2) 32).c0, (Box.new wr (.int .u32 (n.1 : Int)) (.int .i64 n.2) 32).c1⟩) (fun hHeld => ?_)
            refine wpAnyH_take (i := 0) (oi := { dst := some 20, op := Op.move (Operand.tmp 5), type := 22, pos := "cover.go:74", after := #[], guard := none }) (v := ?_) rfl (by kernel_rfl) (by kernel_rfl) (by kernel_rfl) (fun _ _ _ h => h) (Or.inl ⟨by rfl, ?_⟩) hHeld ?_
            rotate_left
            · (intro w hSw; (try dsimp only at hSw); go_simp; first | done | with_reducible rfl)
            simp only [Act.put, List.setIfInBounds_toArray, List.set_cons_zero, List.set_cons_succ]
            refine wpAnyH_take (i := 1) (oi := { dst := some 21, op := Op.call { callee := Callee.builtin Builtin.len, args := #[Operand.tmp 20], argTypes := #[22] }, type := 3, pos := "cover.go:74", after := #[{ on := 0, ground := Ground.data }], guard := none }) (v := ?_) rfl (by kernel_rfl) (by kernel_rfl) (by kernel_rfl) (fun _ _ _ h => h) (Or.inl ⟨by rfl, ?_⟩) hHeld ?_
            rotate_left
            · (intro w hSw; (try dsimp only at hSw); go_simp; first | done | with_reducible rfl)
            simp only [Act.put, List.setIfInBounds_toArray, List.set_cons_zero, List.set_cons_succ]
            refine wpAnyH_take (i := 2) (oi := { dst := some 22, op := Op.binOp BinOp.gtr 3 (Operand.tmp 21) (Operand.const (Value.int IntKind.i64 0)) 3, type := 4, pos := "cover.go:74", after := #[{ on := 1, ground := Ground.data }], guard := none }) (v := ?_) rfl (by kernel_rfl) (by kernel_rfl) (by kernel_rfl) (fun _ _ _ h => h) (Or.inl ⟨by rfl, ?_⟩) hHeld ?_
            rotate_left
            · (intro w hSw; (try dsimp only at hSw); go_simp; first | done | with_reducible rfl)
            simp only [Act.put, List.setIfInBounds_toArray, List.set_cons_zero, List.set_cons_succ]
            refine wpAnyH_take (i := 3) (oi := { dst := some 23, op := Op.move (Operand.tmp 22), type := 4, pos := "cover.go:74", after := #[{ on := 2, ground := Ground.data }], guard := none }) (v := ?_) rfl (by kernel_rfl) (by kernel_rfl) (by kernel_rfl) (fun _ _ _ h => h) (Or.inl ⟨by rfl, ?_⟩) hHeld ?_
            rotate_left
            · (intro w hSw; (try dsimp only at hSw); go_simp; first | done | with_reducible rfl)
            simp only [Act.put, List.setIfInBounds_toArray, List.set_cons_zero, List.set_cons_succ]
            refine wpAnyH_take (i := 4) (oi := { dst := some 24, op := Op.load 32 (Operand.tmp 7), type := 32, pos := "cover.go:74", after := #[{ on := 3, ground := Ground.guard }], guard := some (3, true) }) (v := ?_) rfl (by kernel_rfl) (by kernel_rfl) (by kernel_rfl) (fun _ _ _ h => h) (Or.inl ⟨by rfl, ?_⟩) hHeld ?_
            rotate_left
            · (intro w hSw; (try dsimp only at hSw); go_simp; first | done | with_reducible rfl)
            simp only [Act.put, List.setIfInBounds_toArray, List.set_cons_zero, List.set_cons_succ]
            refine wpAnyH_take (i := 5) (oi := { dst := some 25, op := Op.move (Operand.tmp 5), type := 22, pos := "cover.go:74", after := #[{ on := 3, ground := Ground.guard }], guard := some (3, true) }) (v := ?_) rfl (by kernel_rfl) (by kernel_rfl) (by kernel_rfl) (fun _ _ _ h => h) (Or.inl ⟨by rfl, ?_⟩) hHeld ?_
            rotate_left
            · (intro w hSw; (try dsimp only at hSw); go_simp; first | done | with_reducible rfl)
            simp only [Act.put, List.setIfInBounds_toArray, List.set_cons_zero, List.set_cons_succ]
            refine wpAnyH_take (i := 6) (oi := { dst := some 26, op := Op.move (Operand.tmp 5), type := 22, pos := "cover.go:74", after := #[{ on := 3, ground := Ground.guard }], guard := some (3, true) }) (v := ?_) rfl (by kernel_rfl) (by kernel_rfl) (by kernel_rfl) (fun _ _ _ h => h) (Or.inl ⟨by rfl, ?_⟩) hHeld ?_
            rotate_left
            · (intro w hSw; (try dsimp only at hSw); go_simp; first | done | with_reducible rfl)
            simp only [Act.put, List.setIfInBounds_toArray, List.set_cons_zero, List.set_cons_succ]
            refine wpAnyH_take (i := 7) (oi := { dst := some 27, op := Op.call { callee := Callee.builtin Builtin.len, args := #[Operand.tmp 26], argTypes := #[22] }, type := 3, pos := "cover.go:74", after := #[{ on := 6, ground := Ground.data }, { on := 3, ground := Ground.guard }], guard := some (3, true) }) (v := ?_) rfl (by kernel_rfl) (by kernel_rfl) (by kernel_rfl) (fun _ _ _ h => h) (Or.inl ⟨by rfl, ?_⟩) hHeld ?_
            rotate_left
            · (intro w hSw; (try dsimp only at hSw); go_simp; first | done | with_reducible rfl)
            simp only [Act.put, List.setIfInBounds_toArray, List.set_cons_zero, List.set_cons_succ]
            refine wpAnyH_take (i := 8) (oi := { dst := some 28, op := Op.binOp BinOp.sub 3 (Operand.tmp 27) (Operand.const (Value.int IntKind.i64 1)) 3, type := 3, pos := "cover.go:74", after := #[{ on := 7, ground := Ground.data }, { on := 3, ground := Ground.guard }], guard := some (3, true) }) (v := ?_) rfl (by kernel_rfl) (by kernel_rfl) (by kernel_rfl) (fun _ _ _ h => h) (Or.inl ⟨by rfl, ?_⟩) hHeld ?_
            rotate_left
            · (intro w hSw; (try dsimp only at hSw); go_simp; first | done | with_reducible rfl)
            simp only [Act.put, List.setIfInBounds_toArray, List.set_cons_zero, List.set_cons_succ]
            refine wpAnyH_take (i := 9) (oi := { dst := some 29, op := Op.indexAddr 22 (Operand.tmp 25) (Operand.tmp 28), type := 0, pos := "cover.go:74", after := #[{ on := 5, ground := Ground.data }, { on := 8, ground := Ground.data }, { on := 3, ground := Ground.guard }], guard := some (3, true) }) (v := ?_) rfl (by kernel_rfl) (by kernel_rfl) (by kernel_rfl) (fun _ _ _ h => h) (Or.inl ⟨by rfl, ?_⟩) hHeld ?_
            rotate_left
            · (intro w hSw; (try dsimp only at hSw); go_simp; first | done | with_reducible rfl)
            simp only [Act.put, List.setIfInBounds_toArray, List.set_cons_zero, List.set_cons_succ]
            refine wpAnyH_take (i := 10) (oi := { dst := some 30, op := Op.load 32 (Operand.tmp 29), type := 32, pos := "cover.go:74", after := #[{ on := 9, ground := Ground.data }, { on := 3, ground := Ground.guard }], guard := some (3, true) }) (v := ?_) rfl (by kernel_rfl) (by kernel_rfl) (by kernel_rfl) (fun _ _ _ h => h) (Or.inl ⟨by rfl, ?_⟩) hHeld ?_
            rotate_left
            · (intro w hSw; (try dsimp only at hSw); go_simp; first | done | with_reducible rfl)
            simp only [Act.put, List.setIfInBounds_toArray, List.set_cons_zero, List.set_cons_succ]
            refine wpAnyH_ready (rs := [11]) (by kernel_rfl) (by simp) ?_
            refine (AllReadyH.cons (o := { dst := some 31, op := Op.call { callee := Callee.value (Operand.func 39), args := #[Operand.tmp 24, Operand.tmp 30], argTypes := #[32, 32] }, type := 4, pos := "cover.go:74", after := #[{ on := 4, ground := Ground.data }, { on := 10, ground := Ground.data }, { on := 3, ground := Ground.chain }, { on := 3, ground := Ground.guard }], guard := some (3, true) }) rfl (fun K hK => ?_) AllReadyH.nil)
            go_simp
            go_at_call 39
            refine (in_any _ _ _ _ okn.1 _).mono ?_
            rintro e1 V ⟨rfl, hq⟩
            obtain ⟨BX, bel⟩ := box1d hq; clear hq
            have KK11 := HJ.out V bel ⟨BX.c0, BX.c1⟩
            clear hHeld
            rw [hin]
            go_wp2_with fail
            refine hK.out _ _ KK11 (fun hHeld => ?_)
            clear hK K
            refine wpAnyH_take (i := 12) (oi := { dst := some 32, op := Op.pick (Operand.tmp 23) (Operand.tmp 31) (Operand.const (Value.bool false)), type := 4, pos := "cover.go:74", after := #[{ on := 3, ground := Ground.data }, { on := 11, ground := Ground.data }], guard := none }) (v := ?_) rfl (by kernel_rfl) (by kernel_rfl) (by kernel_rfl) (fun _ _ _ h => h) (Or.inl ⟨by rfl, ?_⟩) hHeld ?_
            rotate_left
            · (intro w hSw; (try dsimp only at hSw); go_simp; first | done | with_reducible rfl)
            simp only [Act.put, List.setIfInBounds_toArray, List.set_cons_zero, List.set_cons_succ]
            refine wpAnyH_done (by kernel_rfl) ?_ _
            obtain ⟨l6, k0, k1, j0, j1⟩ := id BX
            have ow := HW.out.keep bel
            unfold Own at ow
            rw [← HM.out] at ow
            have HO : Hid (V.ownsRow W1.heap.size 32 2 (.slice (some ⟨g, 0, none⟩) m cap) m (cellsL (t :: r).reverse)) := Lib.hid ow
            clear ow
            have hbV : W1.heap.size ≤ V.heap.size := Nat.le_trans HB.out.size bel.size
            go_wp2_with (at_builtin; refine wpList_append_own _ rfl _ _ 22 rfl W1.heap.size 32 infoN z 2 16 (by kernel_rfl) hi hz.1 infoN_size hby hz.2 (by omega) (.slice (some ⟨g, 0, none⟩) m cap) m (cellsL (t :: r).reverse) rfl ?q0 ⟨V.heap.size, 0, none⟩ 1 1 [Nt.v0 n, Nt.v1 n] rfl rfl ?q1 ?q2 ?q3 ?q4 ?q5 ?_)
            case q0 => exact rowKeep HO.out ((Below.refl _ V).alloc (Nat.le_refl _) (.cells #[.int .u32 (n.1 : Int), .int .i64 n.2] 32))
            case q1 =>
              intro j v hj
              have NB := Box.new V (.int .u32 (n.1 : Int)) (.int .i64 n.2) 32
              match j, hj with
              | 0, hj => simp at hj; subst hj; exact NB.c0
              | 1, hj => simp at hj; subst hj; exact NB.c1
            case q2 => intro v hv; simp [Nt.v0, Nt.v1] at hv; rcases hv with rfl | rfl <;> rfl
            case q3 => simp only [maxLen]; omega
            case q4 => omega
            case q5 => simp; omega
            intro v' w' hown hgrow _
            have bel2 : Below W1.heap.size V w' := ((Below.refl _ V).alloc hbV (.cells #[.int .u32 (n.1 : Int), .int .i64 n.2] 32)).grown hgrow (by simp; omega) (by
              intro q hq
              simp [Value.ownBlock] at hq; omega)
            have own2 : Own w' W1.heap.size v' ((t :: r).reverse ++ [n]) := by
              unfold Own
              rw [List.length_append, cellsL_app, ← HM.out, List.reverse_cons]
              exact hown
            have hJ := Lib.hid (join_any W1.heap.size w' v' ((t :: r).reverse ++ [n]) (by have hr1 := HR1.out; first | (simp; done) | (simp; omega)) (Nat.le_trans hbV bel2.size) own2 (by
              intro q hq
              rw [List.mem_append, List.mem_reverse, List.mem_singleton] at hq
              rcases hq with hq | rfl
              · exact HOK.out q hq
              · exact okn))
            clear hown hgrow own2 k0 k1
            go_wp2_with fail
            refine hJ.out.mono ?_
            rintro e2 w3 ⟨v3, rfl, own3, bel3⟩
            rw [List.reverse_append, List.reverse_reverse, show ([n] : List Nt).reverse ++ (t :: r) = n :: (t :: r) from rfl] at own3
            have O3 := Lib.hid own3; clear own3
            go_wp2_with fail
            go_roundw
            case rel =>
              refine ⟨k + 1, joinR (n :: (t :: r)), by go_num, by omega, ?_, O3, Lib.hid ((HB.out.trans (bel.mono HB.out.size)).trans (bel2.trans bel3)), Lib.hid (joinR_ok (n :: (t :: r)) ?_), Lib.hid ?_⟩
              · have hr1 := HR1.out; have := joinR_len (n :: (t :: r)); simp at this; omega
              · intro q hq
                rw [List.mem_cons] at hq
                rcases hq with rfl | hq
                · exact okn
                · exact HOK.out q hq
              · rw [← HE.out, hd, covR, stepR, if_neg (by rw [hin]; exact Bool.noConfusion)]
            case measure => simp [intOf]; omega
    · go_wp2_with fail
      have e : covR L [] = st := by rw [← HE.out, List.drop_eq_nil_of_le (by omega)]; rfl
      refine bodyPost_ret (v := .tuple #[_, .nilIface]) (by simp [results, Tryd.results23, go_sem]; rfl) rfl ?_
      refine ⟨_, rfl, ?_, hB0.trans (HB.out.mono hB0.size)⟩
      unfold cov
      rw [HQ.out, e]
      obtain ⟨q1, q2⟩ := HW.out
      refine ⟨q1, ?_⟩
      rcases q2 with q2 | ⟨g, cap, cur, h1, h2, h3⟩
      · exact Or.inl q2
      · exact Or.inr ⟨g, cap, cur, h1, Nat.le_trans hB0.size h2, h3⟩
end Go.Proofs.YtbdmfcnlfmnmdaaDoor
