/-
  rib.aged: a new list of the routes that are kept, as they are at a time; what lay in memory stays.
-/
import Derived.Test.YtoocmogmocapoaaDoorRibRoute
import Derived.LoopN
import Derived.OwnWalk
namespace Go.Proofs.YtoocmogmocapoaaDoor
open Go.RowKit Go.Lib RibP

/-- A rib in memory: its time, and its list. -/
structure Rbd (w : World) (p : Nat) (v : Value) (now : Int) (L : List Rt) : Prop where
  box : Box w p (.int .i64 now) v
  arg : LArg w v L
  good : Fine now L
  n0 : 0 ≤ now
  n1 : now ≤ 1099511627776
  lt : ∀ g, v.ownBlock = some g → g < w.heap.size

set_option maxHeartbeats 4000000 in
set_option maxRecDepth 100000 in
theorem aged_some (w : World) (p b off c : Nat) (L : List Rt) (now : Int) (hp : w.cell? ⟨p, 1, none⟩ = some (.slice (some ⟨b, off, none⟩) L.length c)) (hlen : L.length ≤ 64) (hb : b < w.heap.size) (hs : LSeen w b off L)
    (hL : ∀ e ∈ L, 0 ≤ e.t ∧ e.t ≤ now) (hn : now ≤ 1099511627776) :
    Calls Tryd.prog 26 #[.pointer (some ⟨p, 0, none⟩), .int .i64 now] w fun r w' => ∃ v, r = .returned v ∧ LOwn 64 w' w.heap.size v (age now L) ∧ Below w.heap.size w w' := by
  have HS := Lib.hid hs
  have HL := Lib.hid hL
  clear hs hL
  go_enter Tryd.func26, Tryd.ntmps26
  go_wp2_with fail
  go_loopw [5, 15] (fun u v wr => ∃ (k : Nat), v = .int .i64 k ∧ k ≤ L.length ∧ Hid (Below w.heap.size w wr) ∧ Hid (LOwn 64 wr w.heap.size u (age now (L.take k)))) (fun _ v _ => L.length - (RowKit.intOf v).toNat)
  case atStart => exact ⟨0, rfl, Nat.zero_le _, Lib.hid (Below.refl _ _), Lib.hid (LOwn.nil _ _ _)⟩
  case round =>
    obtain ⟨k, rfl, hk, hB, HO⟩ := hrel
    by_cases hkn : k < L.length
    · have S := (HS.out.below hB.out hb) k hkn
      obtain ⟨a0, a1, a2, a3, a4⟩ := S.rt
      have a0 : wr.cell? ⟨b, off + k * 5, none⟩ = _ := a0
      have a1 : wr.cell? ⟨b, off + k * 5 + 1, none⟩ = _ := a1
      have a2 : wr.cell? ⟨b, off + k * 5 + 2, none⟩ = _ := a2
      have a3 : wr.cell? ⟨b, off + k * 5 + 3, none⟩ = _ := a3
      have a4 : wr.cell? ⟨b, off + k * 5 + 4, none⟩ = _ := a4
      have he := HL.out L[k]! (by rw [getElem!_pos L k hkn]; exact List.getElem_mem hkn)
      have HA := Lib.hid fun w => agedR_any w L[k]! now he.1 he.2 hn
      have hl1 := Lib.hid (age_len now (L.take k))
      cases hk2 : kpt now (ageR now L[k]!) with
      | true =>
        have HM := Lib.hid (age_yes now L k hkn hk2)
        rw [hk2] at HA
        clear S he hk2
        generalize L[k]! = x at a0 a1 a2 a3 a4 HM HA
        go_wp2_with fail
        refine (HA.out _).mono ?_
        rintro r w2 ⟨rfl, hb2⟩
        have hb3 := ((Below.refl wr.heap.size wr).alloc (Nat.le_refl _) (.cells #[.int .i64 x.h.f, .int .u32 (x.h.n.1 : Int), .int .i64 x.h.n.2, .int .i64 x.h.m, .int .i64 x.t] 64)).trans (hb2.mono (by simp))
        have B2 := Lib.hid (hB.out.trans (hb3.mono hB.out.size))
        have O2 := Lib.hid (HO.out.keep hb3)
        clear hb2 hb3
        generalize ageR now x = y at HM ⊢
        dsimp only [Rt.v]
        go_wp2_with (at_builtin; refine wpList_plain rfl fun K' hK' => ?_; refine wp_append_L1 tyR _ _ rfl w.heap.size _ (age now (L.take k)) y (w2.heap.size + 1) 1 rfl rfl ?q1 ?q2 ?q3 ?q4 ?q5 ?q6)
        case q1 => exact (O2.out.keep ((Below.refl _ _).alloc (Nat.le_refl _) _)).keep ((Below.refl _ _).alloc (Nat.le_refl _) _)
        case q2 =>
          have := (RBox.new (w2.alloc (.cells #[.int .i64 y.h.f, .int .u32 (y.h.n.1 : Int), .int .i64 y.h.n.2, .int .i64 y.h.m, .int .i64 y.t] 64)) y 64).at_
          simpa using this
        case q3 =>
          have := hl1.out
          rw [List.length_take] at this
          omega
        case q4 =>
          have := hl1.out
          rw [List.length_take] at this
          simp only [maxLen]; omega
        case q5 => have := B2.out.size; simp; omega
        case q6 =>
          intro v' w4 hO4 hA4
          refine hK' _ _ ?_
          have O4 := Lib.hid hO4
          have B4 := Lib.hid (B2.out.trans ((((Below.refl w2.heap.size w2).alloc (Nat.le_refl _) (.cells #[.int .i64 y.h.f, .int .u32 (y.h.n.1 : Int), .int .i64 y.h.n.2, .int .i64 y.h.m, .int .i64 y.t] 64)).alloc (by simp) (.cells #[.int .i64 y.h.f, .int .u32 (y.h.n.1 : Int), .int .i64 y.h.n.2, .int .i64 y.h.m, .int .i64 y.t] 64)).mono B2.out.size |>.trans (hA4.below (n := w.heap.size) (fun j hj => (O2.out.lt j hj).1) (by have := B2.out.size; simp; omega))))
          clear hO4 hA4
          go_wp2_with fail
          go_roundw
          case rel => exact ⟨k + 1, by go_num, by omega, B4, Lib.hid (by rw [HM.out]; exact O4.out)⟩
          case measure => simp [RowKit.intOf]; omega
      | false =>
        have HM := Lib.hid (age_no now L k hkn hk2)
        rw [hk2] at HA
        clear S he hk2
        generalize L[k]! = x at a0 a1 a2 a3 a4 HM HA
        go_wp2_with fail
        refine (HA.out _).mono ?_
        rintro r w2 ⟨rfl, hb2⟩
        have hb3 := ((Below.refl wr.heap.size wr).alloc (Nat.le_refl _) (.cells #[.int .i64 x.h.f, .int .u32 (x.h.n.1 : Int), .int .i64 x.h.n.2, .int .i64 x.h.m, .int .i64 x.t] 64)).trans (hb2.mono (by simp))
        have B2 := Lib.hid (hB.out.trans (hb3.mono hB.out.size))
        have O2 := Lib.hid (HO.out.keep hb3)
        clear hb2 hb3
        generalize ageR now x = y
        dsimp only [Rt.v]
        go_wp2_with fail
        have B3 := Lib.hid (B2.out.alloc B2.out.size (.cells #[.int .i64 y.h.f, .int .u32 (y.h.n.1 : Int), .int .i64 y.h.n.2, .int .i64 y.h.m, .int .i64 y.t] 64))
        have O3 := Lib.hid (O2.out.keep ((Below.refl w2.heap.size w2).alloc (Nat.le_refl _) (.cells #[.int .i64 y.h.f, .int .u32 (y.h.n.1 : Int), .int .i64 y.h.n.2, .int .i64 y.h.m, .int .i64 y.t] 64)))
        go_roundw
        case rel => exact ⟨k + 1, by go_num, by omega, B3, Lib.hid (by rw [HM.out]; exact O3.out)⟩
        case measure => simp [RowKit.intOf]; omega
    · have e : L.take k = L := List.take_of_length_le (by omega)
      go_wp2_with fail
      go_ret
      rw [e] at HO
      exact ⟨_, rfl, HO.out, hB.out⟩

set_option maxHeartbeats 1000000 in
set_option maxRecDepth 100000 in
theorem aged_none (w : World) (p c : Nat) (q : Option Addr) (now : Int) (hp : w.cell? ⟨p, 1, none⟩ = some (.slice q 0 c)) :
    Calls Tryd.prog 26 #[.pointer (some ⟨p, 0, none⟩), .int .i64 now] w fun r w' => r = .returned (.slice none 0 0) ∧ Below w.heap.size w w' := by
  go_enter Tryd.func26, Tryd.ntmps26
  go_wp2_with fail
  refine wp_loop_rounds 1 ?_
  rw [rounds_succ]
  go_wp2_with fail
  go_ret
  exact ⟨rfl, Below.refl _ _⟩
theorem aged_any {w : World} {p : Nat} {v : Value} {now0 : Int} {L : List Rt} (h : Rbd w p v now0 L) (now : Int) (h1 : now0 ≤ now) (h2 : now ≤ 1099511627776) :
    Calls Tryd.prog 26 #[.pointer (some ⟨p, 0, none⟩), .int .i64 now] w fun r w' => ∃ v, r = .returned v ∧ LOwn 64 w' w.heap.size v (age now L) ∧ Below w.heap.size w w' := by
  obtain ⟨hb, ⟨q, c, rfl, _, ha⟩, hg, _, _, _⟩ := h
  rcases ha with rfl | ⟨b, off, rfl, hlt, hs⟩
  · refine (aged_none w p c q now hb.c1).mono ?_
    rintro r w' ⟨rfl, hb⟩
    exact ⟨_, rfl, LOwn.nil _ _ _, hb⟩
  · exact aged_some w p b off c L now hb.c1 hg.len hlt hs (fun e he => by
      obtain ⟨_, _, _, _, _, a6, a7⟩ := hg.each e he
      exact ⟨a6, by omega⟩) h2
end Go.Proofs.YtoocmogmocapoaaDoor
