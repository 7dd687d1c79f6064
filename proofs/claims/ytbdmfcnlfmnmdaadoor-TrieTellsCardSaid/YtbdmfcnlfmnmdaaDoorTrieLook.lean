/-
  (*trie.Table).lookup at every table and every right network: the node, if its network is there; what lay in memory stays.
-/
import Derived.Test.YtbdmfcnlfmnmdaaDoorTrieBit
namespace Go.Proofs.YtbdmfcnlfmnmdaaDoor
open Go.RowKit

/-- The node of a network that is there. -/
def Tm.look (M : Tm) (a d : Nat) : Option Nd := (M a d).bind fun x => if x.u then some x else none
theorem Tm.look_some {M : Tm} {a d : Nat} {x : Nd} (h : M a d = some x) (hu : x.u = true) : M.look a d = some x := by simp [Tm.look, h, hu]
theorem Tm.look_off {M : Tm} {a d : Nat} {x : Nd} (h : M a d = some x) (hu : x.u = false) : M.look a d = none := by simp [Tm.look, h, hu]
theorem Tm.look_none {M : Tm} {a d : Nat} (h : M a d = none) : M.look a d = none := by simp [Tm.look, h]

set_option maxHeartbeats 4000000 in
set_option maxRecDepth 100000 in
theorem lookup_any (w : World) (M : Tm) (tb : Nat) (c : Int) (a n : Nat) (hn : n ≤ 32) (hc : PrefP.cut a n = a) (h : Tri w M tb c) :
    Calls Tryd.prog 26 #[.pointer (some ⟨tb, 0, none⟩), .agg #[.int .u32 a, .int .i64 n]] w fun e w' => e = .returned (pt (M.look a n)) ∧ Below w.heap.size w w' := by
  have N0 := Box.new w (.int .u32 a) (.int .i64 n) 32
  have B0 : Below w.heap.size w (w.alloc (.cells #[.int .u32 a, .int .i64 n] 32)) := (Below.refl _ _).alloc (Nat.le_refl _) _
  have HT := Lib.hid h; have HC := Lib.hid hc; have HN := Lib.hid N0; have HB := Lib.hid B0
  obtain ⟨x0, r1, r2⟩ := h.root
  have hr : pt (M (PrefP.cut a 0) 0) = .pointer (some ⟨tb, 0, none⟩) := by rw [PrefP.cut_zero, r1, pt_some, r2]
  have HR := Lib.hid hr
  clear h hc N0 B0 r1 r2 hr
  generalize hR : pt (M.look a n) = R
  have HE := Lib.hid hR; clear hR
  go_enter Tryd.func26, Tryd.ntmps26
  go_wp2_with fail
  go_loopw [5, 6] (fun s5 s6 wr => ∃ (k : Nat), s6 = .int .i64 k ∧ k ≤ n ∧ Hid (s5 = pt (M (PrefP.cut a k) k)) ∧ Hid (Box wr w.heap.size (.int .u32 a) (.int .i64 n)) ∧ Hid (Below w.heap.size w wr)) (fun _ s6 _ => n - (intOf s6).toNat)
  case atStart => exact ⟨0, rfl, Nat.zero_le _, Lib.hid HR.out.symm, HN, HB⟩
  case round =>
    obtain ⟨k, rfl, hk, HP, HBx, HBl⟩ := hrel
    have hp := HP.out
    obtain ⟨l1, c0, c1, f0, f1⟩ := HBx.out
    cases hM : M (PrefP.cut a k) k with
    | none =>
      rw [hM, pt_none] at hp
      subst hp
      have hl : M.look a n = none := by
        cases e : M a n with
        | none => exact Tm.look_none e
        | some y =>
          obtain ⟨j, rfl⟩ : ∃ j, n = k + j := ⟨n - k, by omega⟩
          obtain ⟨z, hz⟩ := HT.out.ok.anc j a k y e
          rw [hM] at hz
          exact absurd hz (by simp)
      have hE := HE.out
      rw [hl, pt_none] at hE
      have HE' := Lib.hid hE
      clear hM hl HP HE hE
      go_wp2_with fail
      all_goals
        go_ret
        exact ⟨by rw [← HE'.out]; rfl, HBl.out⟩
    | some x =>
      rw [hM, pt_some] at hp
      subst hp
      have hT := HT.out.below HBl.out
      have d0 := hT.cell _ _ _ hM (TrieP.bt a k) (by have := TrieP.bt_lt a k; omega)
      have d2 := hT.cell _ _ _ hM 2 (by decide)
      rw [show nc M (PrefP.cut a k) k x 2 = .bool x.u from rfl] at d2
      by_cases hkn : k < n
      · have hlt := TrieP.bt_lt a k
        rw [nc_kid _ _ _ _ _ hlt, ← TrieP.step a k (by omega)] at d0
        obtain ⟨q, hq⟩ := pt_pointer (M (PrefP.cut a (k + 1)) (k + 1))
        rw [hq] at d0
        have HQ := Lib.hid hq
        have hlt' : (TrieP.bt a k : Int) < 2 := by omega
        clear HP hM hT hq
        go_wp2_with fail
        go_quiet (first | (go_at_call 31; exact Calls.quiet_of_same (bit_any a k (by omega) _)))
        go_wp2_with fail
        go_roundw
        case rel => exact ⟨k + 1, by go_num, by omega, Lib.hid HQ.out.symm, Lib.hid (HBx.out.drewN _), Lib.hid (Below.drewN HBl.out _)⟩
        case measure => simp [intOf]; omega
      · obtain rfl : k = n := by omega
        rw [HC.out] at hM
        have hE := HE.out
        cases hu : x.u with
        | true =>
          rw [Tm.look_some hM hu, pt_some] at hE
          have HE' := Lib.hid hE
          rw [hu] at d2
          clear HP hM hT hE HE hu d0
          go_wp2_with fail
          go_ret
          exact ⟨by rw [← HE'.out]; rfl, HBl.out⟩
        | false =>
          rw [Tm.look_off hM hu, pt_none] at hE
          have HE' := Lib.hid hE
          rw [hu] at d2
          clear HP hM hT hE HE hu d0
          go_wp2_with fail
          go_ret
          exact ⟨by rw [← HE'.out]; rfl, HBl.out⟩
end Go.Proofs.YtbdmfcnlfmnmdaaDoor
