/-
  The document's own answers NetsFault and Full; what lay in memory stays.
-/
import Derived.Test.YthoegphihpngoaaDoorRefHalf
import Derived.Test.YthoegphihpngoaaDoorCoverOnly
import Derived.Test.YthoegphihpngoaaDoorCoverCheck
import Derived.LoopN
namespace Go.Proofs.YthoegphihpngoaaDoor
open Go.RowKit

/-- Two pairs of cells, kept by a draw and by a call. -/
theorem heldPair {w0 w w1 : World} {b b' p q : Nat} {x y x' y' : Value} (h : w.cell? ⟨b, 0, none⟩ = some x ∧ w.cell? ⟨b, 1, none⟩ = some y ∧ w.cell? ⟨b', p, none⟩ = some x' ∧ w.cell? ⟨b', q, none⟩ = some y' ∧ Hid (Below w0.heap.size w0 w)) (hb : Below w.heap.size w w1) :
    w1.cell? ⟨b, 0, none⟩ = some x ∧ w1.cell? ⟨b, 1, none⟩ = some y ∧ w1.cell? ⟨b', p, none⟩ = some x' ∧ w1.cell? ⟨b', q, none⟩ = some y' ∧ Hid (Below w0.heap.size w0 w1) := by
  obtain ⟨h1, h2, h3, h4, h5⟩ := h
  have l1 : b < w.heap.size := World.block_lt_of_cell? _ _ h1
  have l2 : b' < w.heap.size := World.block_lt_of_cell? _ _ h3
  exact ⟨(hb.cell (p := ⟨b, 0, none⟩) l1).trans h1, (hb.cell (p := ⟨b, 1, none⟩) l1).trans h2, (hb.cell (p := ⟨b', p, none⟩) l2).trans h3, (hb.cell (p := ⟨b', q, none⟩) l2).trans h4, Lib.hid (Below.two h5.out hb)⟩

set_option maxHeartbeats 1000000 in
set_option maxRecDepth 100000 in
theorem netsFault_some (w : World) (b off c : Nat) (l : List Nt) (hn : l.length < 4611686018427387904) (hb : b < w.heap.size) (hs : Seen w b off l) (hok : ∀ x ∈ l, x.1 < 4294967296) :
    Calls Tryd.prog 5 #[.slice (some ⟨b, off, none⟩) l.length c] w fun e w' => e = .returned (.int .i64 (badL l)) ∧ Below w.heap.size w w' := by
  have HS := Lib.hid hs; clear hs
  have HK := Lib.hid hok; clear hok
  go_enter Tryd.func5, Tryd.ntmps5
  go_wp2_with fail
  go_loopw [3] (fun v wr => ∃ (k : Nat), v = .int .i64 k ∧ k ≤ l.length ∧ Hid (Below w.heap.size w wr) ∧ Hid (bad1 (l.drop k) = bad1 l)) (fun v _ => l.length - (intOf v).toNat)
  case atStart => exact ⟨0, rfl, Nat.zero_le _, Lib.hid (Below.refl _ _), Lib.hid rfl⟩
  case round =>
    obtain ⟨k, rfl, hk, hB, HE⟩ := hrel
    by_cases hkn : k < l.length
    · have S := HS.out.below hB.out hb
      have s0 : wr.cell? ⟨b, off + k * 2, none⟩ = some (.int .u32 (l[k]!.1 : Int)) := S.c0 k hkn
      have s1 : wr.cell? ⟨b, off + k * 2 + 1, none⟩ = some (.int .i64 l[k]!.2) := S.c1 k hkn
      have ha : l[k]!.1 < 4294967296 := HK.out _ (by rw [getElem!_pos l k hkn]; exact List.getElem_mem hkn)
      have hd := drop_at l k hkn
      clear S
      generalize l[k]! = x at s0 s1 ha hd
      have HC := Lib.hid (fault_any x.1 x.2 ha)
      by_cases h0 : PrefP.chk x.1 x.2 = 0
      · rw [h0] at HC
        go_wp2_with fail
        refine (HC.out _).mono ?_
        rintro e w1 ⟨rfl, hb1⟩
        clear s0 s1
        go_wp2_with fail
        go_roundw
        case rel => exact ⟨k + 1, by go_num, by omega, Lib.hid (Below.two hB.out hb1), Lib.hid (by rw [← HE.out, hd, bad1, if_pos h0])⟩
        case measure => simp [intOf]; omega
      · have e2 : badL l = PrefP.chk x.1 x.2 := by
          have e3 : bad1 l = PrefP.chk x.1 x.2 := by rw [← HE.out, hd, bad1, if_neg h0]
          unfold badL; rw [e3, if_neg h0]
        have E2 := Lib.hid e2; clear e2
        generalize PrefP.chk x.1 x.2 = q at HC E2 h0
        have hq : (q != 0) = true := by simpa using h0
        have L1 : b < wr.heap.size := World.block_lt_of_cell? _ _ s0
        go_wp2_with fail
        refine (HC.out _).mono ?_
        rintro e w1 ⟨rfl, hb1⟩
        have s0' : w1.cell? ⟨b, off + k * 2, none⟩ = some (.int .u32 (x.1 : Int)) := (hb1.cell (p := ⟨b, off + k * 2, none⟩) L1).trans s0
        have s1' : w1.cell? ⟨b, off + k * 2 + 1, none⟩ = some (.int .i64 x.2) := (hb1.cell (p := ⟨b, off + k * 2 + 1, none⟩) L1).trans s1
        clear s0 s1
        go_wp2_with fail
        refine (HC.out _).mono ?_
        rintro e w2 ⟨rfl, hb2⟩
        go_wp2_with fail
        go_ret
        exact ⟨by rw [E2.out]; rfl, Below.two (Below.two hB.out hb1) hb2⟩
    · have e0 : bad1 l = 0 := by rw [← HE.out, List.drop_eq_nil_of_le (by omega)]; rfl
      by_cases h64 : 64 < l.length
      · have e2 : badL l = 4 := by unfold badL; rw [if_pos e0, if_pos h64]
        go_wp2_with fail
        go_ret
        exact ⟨by rw [e2]; rfl, hB.out⟩
      · have e2 : badL l = 0 := by unfold badL; rw [if_pos e0, if_neg h64]
        go_wp2_with fail
        go_ret
        exact ⟨by rw [e2]; rfl, hB.out⟩

set_option maxHeartbeats 400000 in
set_option maxRecDepth 100000 in
theorem netsFault_none (w : World) (p : Option Addr) (c : Nat) :
    Calls Tryd.prog 5 #[.slice p 0 c] w fun e w' => e = .returned (.int .i64 (badL [])) ∧ Below w.heap.size w w' := by
  go_enter Tryd.func5, Tryd.ntmps5
  go_wp2_with fail
  refine wp_loop_rounds 1 ?_
  rw [rounds_succ]
  go_wp2_with fail
  go_ret
  exact ⟨rfl, Below.refl _ _⟩
/-- NetsFault at every list. -/
theorem netsFault_any (w : World) (v : Value) (l : List Nt) (hn : l.length < 4611686018427387904) (h : Arg w v l) (hok : ∀ x ∈ l, x.1 < 4294967296) :
    Calls Tryd.prog 5 #[v] w fun e w' => e = .returned (.int .i64 (badL l)) ∧ Below w.heap.size w w' := by
  obtain ⟨p, c, rfl, h⟩ := h
  rcases h with rfl | ⟨b, off, rfl, hb, hs⟩
  · exact netsFault_none w p c
  · exact netsFault_some w b off c l hn hb hs hok

end Go.Proofs.YthoegphihpngoaaDoor
