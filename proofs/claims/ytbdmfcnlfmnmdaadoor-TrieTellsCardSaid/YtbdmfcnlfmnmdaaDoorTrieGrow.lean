/-
  (*trie.Table).grow at every table and every right network: the nodes that are missing on the way are added; the network's node is told.
-/
import Derived.Test.YtbdmfcnlfmnmdaaDoorTrieLook
namespace Go.Proofs.YtbdmfcnlfmnmdaaDoor
open Go.RowKit

/-- Nodes were added, without their networks, at new places. -/
def Grew (B : Nat) (M M' : Tm) : Prop := ∀ a d, M' a d = M a d ∨ (M a d = none ∧ ∃ y, M' a d = some y ∧ y.u = false ∧ B ≤ y.b)
theorem Grew.refl (B : Nat) (M : Tm) : Grew B M M := fun _ _ => Or.inl rfl
theorem Grew.upd {B : Nat} {M M' : Tm} (h : Grew B M M') (a d b : Nat) (v : Int) (hn : M' a d = none) (hb : B ≤ b) : Grew B M (M'.upd a d (some ⟨b, false, v⟩)) := by
  intro a' d'
  by_cases e : a' = a ∧ d' = d
  · obtain ⟨rfl, rfl⟩ := e
    refine Or.inr ⟨?_, _, Tm.upd_same _ _ _ _, rfl, hb⟩
    rcases h a' d' with h1 | ⟨h1, _⟩
    · rw [← h1]; exact hn
    · exact h1
  · rw [Tm.upd_other _ _ _ _ _ _ e]
    exact h a' d'
theorem Grew.val {B : Nat} {M M' : Tm} (h : Grew B M M') (n : Nt) : M'.val n = M.val n := by
  unfold Tm.val
  split
  · rcases h n.1 n.2.toNat with h1 | ⟨h1, y, h2, h3, _⟩
    · rw [h1]
    · rw [h1, h2]; simp [h3]
  · rfl
theorem Grew.bl {B : Nat} {M M' : Tm} (h : Grew B M M') (b : Nat) (hb : M'.Bl b) : M.Bl b ∨ B ≤ b := by
  obtain ⟨a, d, x, h1, h2⟩ := hb
  rcases h a d with h3 | ⟨_, y, h4, _, h5⟩
  · rw [h3] at h1; exact Or.inl ⟨a, d, x, h1, h2⟩
  · rw [h4] at h1
    obtain rfl := Option.some.inj h1
    exact Or.inr (by omega)

set_option maxHeartbeats 4000000 in
set_option maxRecDepth 100000 in
theorem grow_any (w : World) (M : Tm) (tb : Nat) (c : Int) (a n : Nat) (hn : n ≤ 32) (hc : PrefP.cut a n = a) (h : Tri w M tb c) :
    Calls Tryd.prog 28 #[.pointer (some ⟨tb, 0, none⟩), .agg #[.int .u32 a, .int .i64 n]] w fun e w' => ∃ M' x, e = .returned (.pointer (some ⟨x.b, 0, none⟩)) ∧ M' a n = some x ∧ Tri w' M' tb c ∧ Grew (w.heap.size + 1) M M' ∧ Keep M.Bl w w' := by
  have N0 := Box.new w (.int .u32 a) (.int .i64 n) 32
  have B0 : Below w.heap.size w (w.alloc (.cells #[.int .u32 a, .int .i64 n] 32)) := (Below.refl _ _).alloc (Nat.le_refl _) _
  have T0 := h.below B0
  have hlt : ∀ b, M.Bl b → b < w.heap.size := h.blt
  have HC := Lib.hid hc; have HN := Lib.hid N0; have HK := Lib.hid (Keep.of (S := M.Bl) B0); have HL := Lib.hid hlt
  have HT := Lib.hid T0
  obtain ⟨x0, r1, r2⟩ := h.root
  have HR1 := Lib.hid (show M (PrefP.cut a 0) 0 = some x0 by rw [PrefP.cut_zero]; exact r1)
  subst r2
  clear h hc N0 B0 r1 T0 hlt
  go_enter Tryd.func28, Tryd.ntmps28
  go_wp2_with fail
  go_loopw [5, 13] (fun s5 s13 wr => ∃ (k : Nat) (M' : Tm) (x : Nd), s13 = .int .i64 k ∧ k ≤ n ∧ s5 = .pointer (some ⟨x.b, 0, none⟩) ∧ Hid (M' (PrefP.cut a k) k = some x) ∧ Hid (Box wr w.heap.size (.int .u32 a) (.int .i64 n)) ∧ Hid (Tri wr M' x0.b c) ∧ Hid (Grew (w.heap.size + 1) M M') ∧ Hid (Keep M.Bl w wr)) (fun _ s13 _ => n - (intOf s13).toNat)
  case atStart => exact ⟨0, M, x0, rfl, Nat.zero_le _, rfl, HR1, HN, HT, Lib.hid (Grew.refl _ _), HK⟩
  case round =>
    clear HT HK HN HR1
    obtain ⟨k, M', x, rfl, hk, rfl, HM, HBx, HT, HG, HK⟩ := hrel
    obtain ⟨l1, c0, c1, f0, f1⟩ := HBx.out
    by_cases hkn : k < n
    · have hT := HT.out
      have hM := HM.out
      have hbl := TrieP.bt_lt a k
      have d0 := hT.cell _ _ _ hM (TrieP.bt a k) (by omega)
      have e0 := hT.free _ _ _ hM (TrieP.bt a k)
      rw [nc_kid _ _ _ _ _ hbl, ← TrieP.step a k (by omega)] at d0
      have hlt' : (TrieP.bt a k : Int) < 2 := by omega
      have hxb : x.b ≠ w.heap.size := by
        rcases HG.out.bl x.b ⟨_, _, _, hM, rfl⟩ with h1 | h1
        · have := HL.out _ h1; omega
        · omega
      have hxl := hT.lt _ _ _ hM
      cases hy : M' (PrefP.cut a (k + 1)) (k + 1) with
      | some y =>
        rw [hy, pt_some] at d0
        have HY := Lib.hid hy
        clear hy hM hT
        go_wp2_with fail
        go_quiet (first | (go_at_call 31; exact Calls.quiet_of_same (bit_any a k (by omega) _)))
        go_wp2_with fail
        go_roundw
        case rel => exact ⟨k + 1, M', y, by go_num, by omega, rfl, HY, Lib.hid (HBx.out.drewN _), Lib.hid (HT.out.drewN _), HG, Lib.hid (HK.out.drewN _)⟩
        case measure => simp [intOf]; omega
      | none =>
        rw [hy, pt_none] at d0
        have HY := Lib.hid hy
        clear hy hM hT
        go_wp2_with fail
        go_quiet (first | (go_at_call 31; exact Calls.quiet_of_same (bit_any a k (by omega) _)))
        have A0 : ∀ o, ((wr.drewN nq).alloc o).cell? ⟨x.b, TrieP.bt a k, none⟩ = some (.pointer none) := fun o => (World.cell?_alloc_lt _ _ _ (by simpa using hxl)).trans d0
        have A1 : ∀ o, ((wr.drewN nq).alloc o).frozen? ⟨x.b, TrieP.bt a k, none⟩ = false := fun o => (World.frozen?_of_block (w := wr) (Below.heap_alloc _ _ _ (by simpa using hxl))).trans e0
        go_wp2_with fail
        go_roundw
        case rel =>
          have hY := HY.out
          rw [TrieP.step a k (by omega)] at hY
          have hadd := (HT.out.drewN nq).add HM.out (by omega) hbl hY 59
          rw [← TrieP.step a k (by omega)] at hadd
          have hsz : (wr.drewN nq).heap.size = wr.heap.size := rfl
          have hle : w.heap.size + 1 ≤ wr.heap.size := l1
          refine ⟨k + 1, _, ⟨wr.heap.size, false, 0⟩, by go_num, by omega, rfl, Lib.hid (Tm.upd_same _ _ _ _), Lib.hid ?_, Lib.hid hadd, Lib.hid (HG.out.upd _ _ _ _ HY.out hle), Lib.hid ?_⟩
          · have bx := (HBx.out.drewN nq).alloc (.cells #[.pointer none, .pointer none, .bool false, .int .i64 0] 59)
            exact ⟨by simpa [World.setCell] using bx.lt, (World.cell?_setCell_other _ _ _ _ (by intro e; simp only [Addr.mk.injEq] at e; exact hxb e.1)).trans bx.c0, (World.cell?_setCell_other _ _ _ _ (by intro e; simp only [Addr.mk.injEq] at e; exact hxb e.1)).trans bx.c1, by rw [World.frozen?_setCell]; exact bx.f0, by rw [World.frozen?_setCell]; exact bx.f1⟩
          · refine ((HK.out.drewN nq).trans (Keep.alloc _ _ _)).then (S' := fun b => b = x.b) (Keep.setCell _ _ _ _ _ rfl) ?_
            rintro b rfl
            rcases HG.out.bl x.b ⟨_, _, _, HM.out, rfl⟩ with h1 | h1
            · exact Or.inl h1
            · exact Or.inr (by omega)
        case measure => simp [intOf]; omega
    · obtain rfl : k = n := by omega
      go_wp2_with fail
      go_ret
      exact ⟨M', x, rfl, by have := HM.out; rwa [HC.out] at this, HT.out, HG.out, HK.out⟩
end Go.Proofs.YtbdmfcnlfmnmdaaDoor
