/-
  cover.check at every list of networks: the error of the first one that is none, else that there are too many; what lay in memory stays.
-/
import Derived.Test.YtbdmfcnlfmnmdaaDoorCoverList
import Derived.Test.YtbdmfcnlfmnmdaaDoorPrefErr
import Derived.LoopN
namespace Go.Proofs.YtbdmfcnlfmnmdaaDoor
open Go.RowKit

/-- The error of the first network that is none; 0: all are right. -/
def bad1 : List Nt → Int
  | [] => 0
  | x :: r => if PrefP.chk x.1 x.2 = 0 then bad1 r else PrefP.chk x.1 x.2
/-- The error of a list. -/
def badL (l : List Nt) : Int := if bad1 l = 0 then (if 64 < l.length then 4 else 0) else bad1 l
theorem bad1_zero : ∀ l : List Nt, bad1 l = 0 ↔ ∀ x ∈ l, PrefP.chk x.1 x.2 = 0
  | [] => by simp [bad1]
  | x :: r => by
    rw [bad1]
    by_cases h : PrefP.chk x.1 x.2 = 0
    · rw [if_pos h, bad1_zero r]; simp [h]
    · rw [if_neg h]; simp [h]
theorem badL_zero (l : List Nt) : badL l = 0 ↔ (∀ x ∈ l, PrefP.chk x.1 x.2 = 0) ∧ l.length ≤ 64 := by
  unfold badL
  by_cases h : bad1 l = 0
  · rw [if_pos h, ← bad1_zero]
    by_cases h2 : 64 < l.length
    · rw [if_pos h2]; constructor
      · intro h; simp at h
      · intro h; omega
    · rw [if_neg h2]; simp [h]; omega
  · rw [if_neg h, ← bad1_zero]; simp [h]
set_option maxHeartbeats 1000000 in
set_option maxRecDepth 100000 in
theorem checkL_some (w : World) (b off c : Nat) (l : List Nt) (hn : l.length < 4611686018427387904) (hb : b < w.heap.size) (hs : Seen w b off l) (hok : ∀ x ∈ l, x.1 < 4294967296) :
    Calls Tryd.prog 37 #[.slice (some ⟨b, off, none⟩) l.length c] w fun e w' => e = .returned (errV (badL l)) ∧ Below w.heap.size w w' := by
  have HS := Lib.hid hs; clear hs
  have HK := Lib.hid hok; clear hok
  go_enter Tryd.func37, Tryd.ntmps37
  go_wp2_with fail
  go_loopw [8] (fun v wr => ∃ (k : Nat), v = .int .i64 k ∧ k ≤ l.length ∧ Hid (Below w.heap.size w wr) ∧ Hid (bad1 (l.drop k) = bad1 l)) (fun v _ => l.length - (intOf v).toNat)
  case atStart => exact ⟨0, rfl, Nat.zero_le _, Lib.hid (Below.refl _ _), Lib.hid rfl⟩
  case round =>
    obtain ⟨k, rfl, hk, hB, HE⟩ := hrel
    by_cases hkn : k < l.length
    · have S := HS.out.below hB.out hb
      have s0 : wr.cell? ⟨b, off + k * 2, none⟩ = some (.int .u32 (l[k]!.1 : Int)) := S.c0 k hkn
      have s1 : wr.cell? ⟨b, off + k * 2 + 1, none⟩ = some (.int .i64 l[k]!.2) := S.c1 k hkn
      have ha : l[k]!.1 < 4294967296 := HK.out _ (by rw [getElem!_pos l k hkn]; exact List.getElem_mem hkn)
      have hd := drop_at l k hkn
      clear S
      generalize l[k]! = x at s0 s1 ha hd
      have hC := check1_any x.1 x.2 ha
      by_cases h0 : PrefP.chk x.1 x.2 = 0
      · rw [h0] at hC
        have HC := Lib.hid hC; clear hC
        go_wp2_with fail
        refine (HC.out _).mono ?_
        rintro e w1 ⟨rfl, hb1⟩
        clear s0 s1
        rw [show errV 0 = Value.nilIface from rfl]
        go_wp2_with fail
        go_roundw
        case rel => exact ⟨k + 1, by go_num, by omega, Lib.hid (Below.two hB.out (box1 hb1).2), Lib.hid (by rw [← HE.out, hd, bad1, if_pos h0])⟩
        case measure => simp [intOf]; omega
      · have hE : errV (PrefP.chk x.1 x.2) = .iface 29 (.int .i64 (PrefP.chk x.1 x.2)) := if_neg h0
        rw [hE] at hC
        have HC := Lib.hid hC; clear hC
        have e2 : badL l = PrefP.chk x.1 x.2 := by
          have e3 : bad1 l = PrefP.chk x.1 x.2 := by rw [← HE.out, hd, bad1, if_neg h0]
          unfold badL; rw [e3, if_neg h0]
        have E2 := Lib.hid e2; clear e2
        generalize PrefP.chk x.1 x.2 = q at HC E2 h0 hE
        go_wp2_with fail
        refine (HC.out _).mono ?_
        rintro e w1 ⟨rfl, hb1⟩
        clear s0 s1
        go_wp2_with fail
        go_ret
        exact ⟨by rw [E2.out, hE]; rfl, Below.two hB.out (box1 hb1).2⟩
    · have e0 : bad1 l = 0 := by rw [← HE.out, List.drop_eq_nil_of_le (by omega)]; rfl
      by_cases h64 : 64 < l.length
      · have e2 : badL l = 4 := by unfold badL; rw [if_pos e0, if_pos h64]
        go_wp2_with fail
        go_ret
        exact ⟨by rw [e2]; rfl, hB.out⟩
      · have e2 : badL l = 0 := by unfold badL; rw [if_pos e0, if_neg h64]
        go_wp2_with fail
        go_ret
        exact ⟨by rw [e2]; rfl, hB.out⟩

set_option maxHeartbeats 400000 in
set_option maxRecDepth 100000 in
theorem checkL_none (w : World) (p : Option Addr) (c : Nat) :
    Calls Tryd.prog 37 #[.slice p 0 c] w fun e w' => e = .returned (errV (badL [])) ∧ Below w.heap.size w w' := by
  go_enter Tryd.func37, Tryd.ntmps37
  go_wp2_with fail
  refine wp_loop_rounds 1 ?_
  rw [rounds_succ]
  go_wp2_with fail
  go_ret
  exact ⟨rfl, Below.refl _ _⟩
/-- cover.check at every list. -/
theorem checkL_any (w : World) (v : Value) (l : List Nt) (hn : l.length < 4611686018427387904) (h : Arg w v l) (hok : ∀ x ∈ l, x.1 < 4294967296) :
    Calls Tryd.prog 37 #[v] w fun e w' => e = .returned (errV (badL l)) ∧ Below w.heap.size w w' := by
  obtain ⟨p, c, rfl, h⟩ := h
  rcases h with rfl | ⟨b, off, rfl, hb, hs⟩
  · exact checkL_none w p c
  · exact checkL_some w b off c l hn hb hs hok
end Go.Proofs.YtbdmfcnlfmnmdaaDoor
