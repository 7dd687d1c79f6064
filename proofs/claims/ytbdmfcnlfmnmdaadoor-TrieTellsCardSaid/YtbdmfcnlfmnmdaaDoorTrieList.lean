/-
  (*trie.Table).List at every table: its networks in their order, in a list of the caller's own; what lay in memory stays.
-/
import Derived.Test.YtbdmfcnlfmnmdaaDoorTrieVisit
import Derived.Laws.EntriesVeiled
namespace Go.Proofs.YtbdmfcnlfmnmdaaDoor
open Go.RowKit

set_option maxHeartbeats 4000000 in
set_option maxRecDepth 100000 in
theorem list_tri (w : World) (M : Tm) (tb : Nat) (c : Int) (h : Tri w M tb c) (hlen : M.list.length ≤ 1000000) :
    Calls Tryd.prog 19 #[.pointer (some ⟨tb, 0, none⟩)] w fun e w' => ∃ v, e = .returned v ∧ Own w' w.heap.size v M.list ∧ Below w.heap.size w w' := by
  obtain ⟨x0, r1, r2⟩ := h.root
  have hp : pt (M 0 0) = .pointer (some ⟨tb, 0, none⟩) := by rw [r1, pt_some, r2]
  have HP := Lib.hid hp
  have hblt := h.blt
  have HT := Lib.hid h; have HBL := Lib.hid hblt; have HLEN := Lib.hid hlen
  clear h r1 r2 hp hblt hlen
  go_enter Tryd.func19, Tryd.ntmps19
  go_wp2_with fail
  generalize hX : (w.alloc (.cells #[.slice none 0 0] 22)).alloc (.cells #[.func (.func 33) #[] #[.pointer (some ⟨w.heap.size, 0, none⟩), .pointer (some ⟨w.heap.size + 1, 0, none⟩)]] 70) = X
  have bX : Below w.heap.size w X := by rw [← hX]; exact ((Below.refl _ w).alloc (Nat.le_refl _) _).alloc (by simp) _
  have sX : X.heap.size = w.heap.size + 2 := by rw [← hX]; simp
  have vX : Vis X (w.heap.size + 2) w.heap.size (w.heap.size + 1) (.slice none 0 0) [] := by
    rw [← hX]
    exact ⟨World.ownsRow_nil _ _ _ _, by simp, by simp, by simp [visV], by omega, by omega, by omega, by simp⟩
  clear hX
  have HI := Lib.hid (visit_any (w.heap.size + 2) w.heap.size (w.heap.size + 1) tb c M (fun b hb => by have := HBL.out b hb; omega) 32 0 rfl 0 X.drew (.slice none 0 0) [] (by decide) (PrefP.cut_zero 0) (HT.out.below bX).drew (vX.below (Below.refl _ _).drew) (by rw [List.length_nil, Nat.zero_add]; exact HLEN.out))
  have vk := vX.k
  clear vX
  refine wp_region_held_drew (S := (fun w' => w'.cell? ⟨w.heap.size + 1, 0, none⟩ = some (.func (.func 33) #[] #[.pointer (some ⟨w.heap.size, 0, none⟩), .pointer (some ⟨w.heap.size + 1, 0, none⟩)]))) (by kernel_rfl) vk (fun hHeld => ?_)
  refine wpAnyH_take (i := 0) (oi := { dst := some 6, op := Op.load 70 (Operand.tmp 4), type := 70, pos := "trie.go:163", after := #[], guard := none }) (v := ?_) rfl (by kernel_rfl) (by kernel_rfl) (by kernel_rfl) (fun _ _ _ h => h) (Or.inl ⟨by rfl, ?_⟩) hHeld ?_
  rotate_left
  · (intro w hSw; (try dsimp only at hSw); go_simp; first | done | with_reducible rfl)
  simp only [Act.put, List.setIfInBounds_toArray, List.set_cons_zero, List.set_cons_succ]
  refine wpAnyH_take (i := 1) (oi := { dst := some 7, op := Op.move (Operand.tmp 0), type := 25, pos := "trie.go:163", after := #[], guard := none }) (v := ?_) rfl (by kernel_rfl) (by kernel_rfl) (by kernel_rfl) (fun _ _ _ h => h) (Or.inl ⟨by rfl, ?_⟩) hHeld ?_
  rotate_left
  · (intro w hSw; (try dsimp only at hSw); go_simp; first | done | with_reducible rfl)
  simp only [Act.put, List.setIfInBounds_toArray, List.set_cons_zero, List.set_cons_succ]
  refine wpAnyH_take (i := 2) (oi := { dst := some 8, op := Op.nilCheck (Operand.tmp 7), type := 0, pos := "trie.go:163", after := #[{ on := 1, ground := Ground.data }], guard := none }) (v := ?_) rfl (by kernel_rfl) (by kernel_rfl) (by kernel_rfl) (fun _ _ _ h => h) (Or.inl ⟨by rfl, ?_⟩) hHeld ?_
  rotate_left
  · (intro w hSw; (try dsimp only at hSw); go_simp; first | done | with_reducible rfl)
  simp only [Act.put, List.setIfInBounds_toArray, List.set_cons_zero, List.set_cons_succ]
  refine wpAnyH_take (i := 3) (oi := { dst := some 9, op := Op.fieldAddr 61 (Operand.tmp 8) 0, type := 0, pos := "trie.go:163", after := #[{ on := 2, ground := Ground.data }], guard := none }) (v := ?_) rfl (by kernel_rfl) (by kernel_rfl) (by kernel_rfl) (fun _ _ _ h => h) (Or.inl ⟨by rfl, ?_⟩) hHeld ?_
  rotate_left
  · (intro w hSw; (try dsimp only at hSw); go_simp; first | done | with_reducible rfl)
  simp only [Act.put, List.setIfInBounds_toArray, List.set_cons_zero, List.set_cons_succ]
  refine wpAnyH_take (i := 4) (oi := { dst := some 10, op := Op.build 32 #[], type := 32, pos := "trie.go:163", after := #[], guard := none }) (v := ?_) rfl (by kernel_rfl) (by kernel_rfl) (by kernel_rfl) (fun _ _ _ h => h) (Or.inl ⟨by rfl, ?_⟩) hHeld ?_
  rotate_left
  · (intro w hSw; (try dsimp only at hSw); go_simp; first | done | with_reducible rfl)
  simp only [Act.put, List.setIfInBounds_toArray, List.set_cons_zero, List.set_cons_succ]
  refine wpAnyH_ready (rs := [5]) (by kernel_rfl) (by simp) ?_
  refine AllReadyH.cons (o := { dst := some 11, op := Op.call { callee := Callee.value (Operand.tmp 6), args := #[Operand.tmp 9, Operand.tmp 10], argTypes := #[56, 32] }, type := 0, pos := "trie.go:163", after := #[{ on := 0, ground := Ground.data }, { on := 3, ground := Ground.data }, { on := 4, ground := Ground.data }], guard := none }) rfl (fun K hK => ?_) AllReadyH.nil
  go_simp
  go_at_call 33
  have IHc := HI.out
  rw [HP.out] at IHc
  refine IHc.mono ?_
  rintro e W2 ⟨rfl, v2, hV2, hW2⟩
  clear IHc
  have KK0 : W2.cell? ⟨w.heap.size + 1, 0, none⟩ = some (.func (.func 33) #[] #[.pointer (some ⟨w.heap.size, 0, none⟩), .pointer (some ⟨w.heap.size + 1, 0, none⟩)]) := hV2.k
  have cN := hV2.c
  obtain ⟨p2, k2, hp2, _⟩ := hV2.own.arg
  have HV2 := Lib.hid hV2; have HW2 := Lib.hid hW2
  clear hHeld hV2 hW2
  go_wp2_with fail
  refine hK.out _ _ KK0 (fun hHeld => ?_)
  clear hK K
  refine wpAnyH_done (by kernel_rfl) ?_ _
  rw [hp2] at cN
  go_wp2_with fail
  go_ret
  refine ⟨v2, by rw [hp2]; rfl, (HV2.out.own).down (by omega), ?_⟩
  have k2' := (Keep.of (S := fun b => b = w.heap.size ∨ some b = (Value.slice none 0 0).ownBlock) ((Below.refl X.heap.size X).drew)).trans HW2.out.keep
  exact bX.trans (k2'.below (fun b hb => by
    rcases hb with rfl | hb
    · exact Nat.le_refl _
    · simp [Value.ownBlock] at hb) (by omega))
/-- List: the networks in their order. -/
theorem list_any (w : World) (S : Nat → Prop) (tb : Nat) (f : Nt → Option Int) (L : List Nt) (h : Tab w S tb f L) :
    Calls Tryd.prog 19 #[.pointer (some ⟨tb, 0, none⟩)] w fun e w' => ∃ v, e = .returned v ∧ Own w' w.heap.size v L ∧ Below w.heap.size w w' := by
  obtain ⟨h64, M, h1, _, _, rfl, _⟩ := h
  exact list_tri w M tb _ h1 (by omega)
end Go.Proofs.YtbdmfcnlfmnmdaaDoor
