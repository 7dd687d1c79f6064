/-
  cover.Has at every list and every address: whether a network of the list has it; what lay in memory stays.
-/
import Derived.Test.YthoegphihpngoaaDoorCoverGood
namespace Go.Proofs.YthoegphihpngoaaDoor
open Go.RowKit Go.Lib

set_option maxHeartbeats 400000 in
set_option maxRecDepth 100000 in
theorem hasC_any (x : Nt) (a B : Nat) (ha : a < 4294967296) (W : World) (hB : W.cell? ⟨B, 0, none⟩ = some (.int .u32 (a : Int))) :
    Calls Tryd.prog 24 #[.agg #[.int .u32 (x.1 : Int), .int .i64 x.2], .pointer (some ⟨B, 0, none⟩)] W fun e w' => e = .returned (.bool (PrefP.has x.1 x.2 a)) ∧ Below W.heap.size W w' := by
  have hl : B < W.heap.size := World.block_lt_of_cell? _ _ hB
  go_enter Tryd.func24, Tryd.ntmps24
  go_wp2_with fail
  refine (has_any x.1 x.2 a ha _).mono ?_
  rintro e w1 ⟨rfl, hb⟩
  have hb' := (box1 hb).2
  go_wp2_with fail
  go_ret
  exact ⟨rfl, hb'⟩

set_option maxHeartbeats 1000000 in
set_option maxRecDepth 100000 in
theorem index_some (W : World) (b off c a B : Nat) (l : List Nt) (ha : a < 4294967296) (hn : l.length < 4611686018427387904) (hb : b < W.heap.size) (hs : Seen W b off l) (hB : W.cell? ⟨B, 0, none⟩ = some (.int .u32 (a : Int))) :
    Calls Tryd.prog 33 #[.slice (some ⟨b, off, none⟩) l.length c, .func (.func 24) #[] #[.pointer (some ⟨B, 0, none⟩)]] W fun e w' => ∃ z, e = .returned (.int .i64 z) ∧ decide (0 ≤ z) = anyHas l a ∧ Below W.heap.size W w' := by
  have eg : ∀ args w, (callFunc 24 args).run Tryd.prog w = .ok (.enter 24 args) w := enters_of Tryd.func24 (by kernel_rfl) rfl
  have HS := Lib.hid hs; clear hs
  have hBl : B < W.heap.size := World.block_lt_of_cell? _ _ hB
  have HBC := Lib.hid hB; clear hB
  go_enter Tryd.func33, Tryd.ntmps33
  go_wp2_with fail
  go_loopw [8] (fun v wr => ∃ (k : Nat), v = .int .i64 k ∧ k ≤ l.length ∧ Hid (Below W.heap.size W wr) ∧ Hid (anyHas (l.drop k) a = anyHas l a)) (fun v _ => l.length - (intOf v).toNat)
  case atStart => exact ⟨0, rfl, Nat.zero_le _, Lib.hid (Below.refl _ _), Lib.hid rfl⟩
  case round =>
    obtain ⟨k, rfl, hk, hBl2, HE⟩ := hrel
    by_cases hkn : k < l.length
    · have S := HS.out.below hBl2.out hb
      have s0 : wr.cell? ⟨b, off + k * 2, none⟩ = some (.int .u32 (l[k]!.1 : Int)) := S.c0 k hkn
      have s1 : wr.cell? ⟨b, off + k * 2 + 1, none⟩ = some (.int .i64 l[k]!.2) := S.c1 k hkn
      have hB' : wr.cell? ⟨B, 0, none⟩ = some (.int .u32 (a : Int)) := (hBl2.out.cell (p := ⟨B, 0, none⟩) hBl).trans HBC.out
      have hd := drop_at l k hkn
      clear S
      generalize l[k]! = x at s0 s1 hd
      have hC := Lib.hid (hasC_any x a B ha wr hB'); clear hB'
      cases hx : PrefP.has x.1 x.2 a with
      | true =>
        rw [hx] at hC
        go_wp2_with fail
        refine hC.out.mono ?_
        rintro e w1 ⟨rfl, hb1⟩
        go_wp2_with fail
        go_ret
        refine ⟨(k : Int), rfl, ?_, Below.two hBl2.out hb1⟩
        rw [← HE.out, hd]
        unfold anyHas
        rw [List.any_cons, hx, Bool.true_or, decide_eq_true (by omega)]
      | false =>
        rw [hx] at hC
        go_wp2_with fail
        refine hC.out.mono ?_
        rintro e w1 ⟨rfl, hb1⟩
        go_wp2_with fail
        go_roundw
        case rel =>
          refine ⟨k + 1, by go_num, by omega, Lib.hid (Below.two hBl2.out hb1), Lib.hid ?_⟩
          rw [← HE.out, hd]
          unfold anyHas
          rw [List.any_cons, hx, Bool.false_or]
        case measure => simp [intOf]; omega
    · go_wp2_with fail
      go_ret
      refine ⟨-1, rfl, ?_, hBl2.out⟩
      rw [← HE.out, List.drop_eq_nil_of_le (by omega)]
      rfl
set_option maxHeartbeats 400000 in
set_option maxRecDepth 100000 in
theorem index_none (W : World) (p : Option Addr) (c : Nat) (u : Value) :
    Calls Tryd.prog 33 #[.slice p 0 c, u] W fun e w' => e = .returned (.int .i64 (-1)) ∧ w' = W := by
  go_enter Tryd.func33, Tryd.ntmps33
  go_wp2_with fail
  refine wp_loop_rounds 1 ?_
  rw [rounds_succ]
  go_wp2_with fail
  go_ret
  exact ⟨rfl, rfl⟩
theorem index_any (W : World) (v : Value) (a B : Nat) (l : List Nt) (ha : a < 4294967296) (hn : l.length < 4611686018427387904) (h : Arg W v l) (hB : W.cell? ⟨B, 0, none⟩ = some (.int .u32 (a : Int))) :
    Calls Tryd.prog 33 #[v, .func (.func 24) #[] #[.pointer (some ⟨B, 0, none⟩)]] W fun e w' => ∃ z, e = .returned (.int .i64 z) ∧ decide (0 ≤ z) = anyHas l a ∧ Below W.heap.size W w' := by
  obtain ⟨p, c, rfl, h⟩ := h
  rcases h with rfl | ⟨b, off, rfl, hb, hs⟩
  · refine (index_none W p c _).mono ?_
    rintro e w' ⟨rfl, rfl⟩
    exact ⟨-1, rfl, rfl, Below.refl _ _⟩
  · exact index_some W b off c a B l ha hn hb hs hB
set_option maxHeartbeats 400000 in
set_option maxRecDepth 100000 in
theorem hasL_any (w : World) (v : Value) (a : Nat) (l : List Nt) (ha : a < 4294967296) (hn : l.length < 4611686018427387904) (h : Arg w v l) :
    Calls Tryd.prog 12 #[v, .int .u32 (a : Int)] w fun e w' => e = .returned (.bool (anyHas l a)) ∧ Below w.heap.size w w' := by
  have HI : Hid (∀ W, Arg W v l → ∀ B, W.cell? ⟨B, 0, none⟩ = some (.int .u32 (a : Int)) → Calls Tryd.prog 23 #[v, .func (.func 24) #[] #[.pointer (some ⟨B, 0, none⟩)]] W fun e w' => e = .returned (.bool (anyHas l a)) ∧ Below W.heap.size W w') := Lib.hid (by
    intro W hW B hB
    have H := Lib.hid (index_any W v a B l ha hn hW hB)
    clear hW hB
    go_enter Tryd.func23, Tryd.ntmps23
    go_wp2_with fail
    refine H.out.mono ?_
    rintro e w1 ⟨z, rfl, hz, hb⟩
    have HZ := Lib.hid hz; clear hz
    go_wp2_with fail
    go_ret
    exact ⟨by rw [← HZ.out]; rfl, hb⟩)
  have hA := h.below ((Below.refl _ w).alloc (Nat.le_refl _) (.cells #[.int .u32 (a : Int)] 23))
  have HA := Lib.hid hA; clear hA h
  go_enter Tryd.func12, Tryd.ntmps12
  go_wp2_with fail
  refine (HI.out _ HA.out w.heap.size (by simp)).mono ?_
  rintro e w1 ⟨rfl, hb⟩
  have hb' : Below w.heap.size w w1 := ((Below.refl _ w).alloc (Nat.le_refl _) _).trans (hb.mono (by simp))
  go_wp2_with fail
  go_ret
  exact ⟨rfl, hb'⟩
end Go.Proofs.YthoegphihpngoaaDoor
