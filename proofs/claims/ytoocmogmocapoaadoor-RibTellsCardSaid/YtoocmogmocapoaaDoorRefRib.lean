/-
  The document's own TimeFault, Heards and Aged of a rib; what lay in memory stays.
-/
import Derived.Test.YtoocmogmocapoaaDoorRibMem
import Derived.Test.YtoocmogmocapoaaDoorRibLearn
import Derived.Test.YtoocmogmocapoaaDoorRibActs
import Derived.OneCell
import Derived.LoopN
import Derived.OwnWalk
namespace Go.Proofs.YtoocmogmocapoaaDoor
open Go.RowKit Go.Lib RibP

theorem tyT : TyL Rt 27 59 40 := ⟨by kernel_rfl, (Tryd.prog.info? 59).get (by kernel_rfl), .agg #[.int .i64 0, .int .u32 0, .int .i64 0, .int .i64 0, .int .i64 0], by kernel_rfl, by kernel_rfl, by kernel_rfl, by kernel_rfl, by kernel_rfl⟩

section
variable (w : World) (now : Int) (q : Option Addr) (n c : Nat) (f t : Int) (L : List Rt)
set_option maxHeartbeats 400000 in
set_option maxRecDepth 100000 in
theorem timeFault_early (h : t < now) : Calls Tryd.prog 9 #[.agg #[.int .i64 now, .slice q n c], .int .i64 f, .int .i64 t] w fun r w' => r = .returned (.int .i64 1) ∧ Below w.heap.size w w' := by
  go_enter Tryd.func9, Tryd.ntmps9
  go_wp2_with fail
  go_ret
  exact ⟨rfl, (Below.refl _ _).alloc (Nat.le_refl _) _⟩
set_option maxHeartbeats 400000 in
set_option maxRecDepth 100000 in
theorem timeFault_late (h : ¬ t < now) (h2 : 1099511627776 < t) : Calls Tryd.prog 9 #[.agg #[.int .i64 now, .slice q n c], .int .i64 f, .int .i64 t] w fun r w' => r = .returned (.int .i64 1) ∧ Below w.heap.size w w' := by
  go_enter Tryd.func9, Tryd.ntmps9
  go_wp2_with fail
  go_ret
  exact ⟨rfl, (Below.refl _ _).alloc (Nat.le_refl _) _⟩
set_option maxHeartbeats 400000 in
set_option maxRecDepth 100000 in
theorem timeFault_low (h : ¬ t < now) (h2 : ¬ 1099511627776 < t) (h3 : f < 0) : Calls Tryd.prog 9 #[.agg #[.int .i64 now, .slice q n c], .int .i64 f, .int .i64 t] w fun r w' => r = .returned (.int .i64 1) ∧ Below w.heap.size w w' := by
  go_enter Tryd.func9, Tryd.ntmps9
  go_wp2_with fail
  go_ret
  exact ⟨rfl, (Below.refl _ _).alloc (Nat.le_refl _) _⟩
set_option maxHeartbeats 400000 in
set_option maxRecDepth 100000 in
theorem timeFault_high (h : ¬ t < now) (h2 : ¬ 1099511627776 < t) (h3 : ¬ f < 0) (h4 : 8 ≤ f) : Calls Tryd.prog 9 #[.agg #[.int .i64 now, .slice q n c], .int .i64 f, .int .i64 t] w fun r w' => r = .returned (.int .i64 1) ∧ Below w.heap.size w w' := by
  go_enter Tryd.func9, Tryd.ntmps9
  go_wp2_with fail
  go_ret
  exact ⟨rfl, (Below.refl _ _).alloc (Nat.le_refl _) _⟩
set_option maxHeartbeats 400000 in
set_option maxRecDepth 100000 in
theorem timeFault_none (h : ¬ t < now) (h2 : ¬ 1099511627776 < t) (h3 : ¬ f < 0) (h4 : ¬ 8 ≤ f) : Calls Tryd.prog 9 #[.agg #[.int .i64 now, .slice q n c], .int .i64 f, .int .i64 t] w fun r w' => r = .returned (.int .i64 0) ∧ Below w.heap.size w w' := by
  go_enter Tryd.func9, Tryd.ntmps9
  go_wp2_with fail
  go_ret
  exact ⟨rfl, (Below.refl _ _).alloc (Nat.le_refl _) _⟩
/-- TimeFault. -/
theorem timeFault_any : Calls Tryd.prog 9 #[.agg #[.int .i64 now, .slice q n c], .int .i64 f, .int .i64 t] w fun r w' => r = .returned (.int .i64 (nearE (now, L) f t)) ∧ Below w.heap.size w w' := by
  unfold nearE
  by_cases h1 : t < now
  · rw [if_neg (fun h => by have := h.1.1; simp only at this; omega)]
    exact timeFault_early w now q n c f t h1
  · by_cases h2 : 1099511627776 < t
    · rw [if_neg (fun h => by have := h.1.2; omega)]
      exact timeFault_late w now q n c f t h1 h2
    · by_cases h3 : f < 0
      · rw [if_neg (fun h => by have := h.2.1; omega)]
        exact timeFault_low w now q n c f t h1 h2 h3
      · by_cases h4 : 8 ≤ f
        · rw [if_neg (fun h => by have := h.2.2; omega)]
          exact timeFault_high w now q n c f t h1 h2 h3 h4
        · rw [if_pos ⟨⟨by simp only; omega, by omega⟩, by omega, by omega⟩]
          exact timeFault_none w now q n c f t h1 h2 h3 h4
end

set_option maxHeartbeats 2000000 in
set_option maxRecDepth 100000 in
theorem heards_some (w : World) (now : Int) (b off c : Nat) (M : List Rt) (hlen : M.length ≤ 64) (hb : b < w.heap.size) (hs : LSeen w b off M) :
    Calls Tryd.prog 16 #[.agg #[.int .i64 now, .slice (some ⟨b, off, none⟩) M.length c]] w fun r w' => ∃ v, r = .returned v ∧ LOwn 53 w' w.heap.size v (M.map Rt.h) ∧ Below w.heap.size w w' := by
  have HS := Lib.hid hs
  have hX := Box.new w (.int .i64 now) (.slice (some ⟨b, off, none⟩) M.length c) 29
  have HX := Lib.hid hX
  have HA := Lib.hid ((Below.refl w.heap.size w).alloc (Nat.le_refl _) (.cells #[.int .i64 now, .slice (some ⟨b, off, none⟩) M.length c] 29))
  clear hs hX
  go_enter Tryd.func16, Tryd.ntmps16
  go_wp2_with fail
  generalize w.alloc (.cells #[.int .i64 now, .slice (some ⟨b, off, none⟩) M.length c] 29) = wA at HX HA ⊢
  go_loopw [3, 4] (fun u v wr => ∃ (k : Nat), v = .int .i64 k ∧ k ≤ M.length ∧ Hid (Below wA.heap.size wA wr) ∧ Hid (LOwn 53 wr wA.heap.size u ((M.take k).map Rt.h))) (fun _ v _ => M.length - (RowKit.intOf v).toNat)
  case atStart => exact ⟨0, rfl, Nat.zero_le _, Lib.hid (Below.refl _ _), Lib.hid (LOwn.nil _ _ _)⟩
  case round =>
    obtain ⟨k, rfl, hk, hB, hO⟩ := hrel
    obtain ⟨_, x0, x1, _, _⟩ := HX.out.kept hB.out
    by_cases hkn : k < M.length
    · obtain ⟨b0, b1, b2, b3, b4⟩ := ((HS.out.below (HA.out.trans (hB.out.mono HA.out.size)) hb) k hkn).rt
      have a0 : wr.cell? ⟨b, off + k * 5, none⟩ = _ := b0
      have a1 : wr.cell? ⟨b, off + k * 5 + 1, none⟩ = _ := b1
      have a2 : wr.cell? ⟨b, off + k * 5 + 2, none⟩ = _ := b2
      have a3 : wr.cell? ⟨b, off + k * 5 + 3, none⟩ = _ := b3
      have hm : (M.take (k + 1)).map Rt.h = (M.take k).map Rt.h ++ [M[k]!.h] := by rw [take_more M k hkn, List.map_append]; rfl
      have HM := Lib.hid hm
      have hl := Lib.hid (show ((M.take k).map Rt.h).length ≤ 64 by rw [List.length_map, List.length_take]; omega)
      clear b0 b1 b2 b3 b4 hm
      generalize M[k]! = x at a0 a1 a2 a3 HM
      generalize (M.take k).map Rt.h = N at hO HM hl
      go_wp2_with (at_builtin; refine wpList_plain rfl fun K' hK' => ?_; refine wp_append_L1 tyH _ _ rfl wA.heap.size _ N x.h wr.heap.size 1 rfl rfl (hO.out.keep ((Below.refl _ _).alloc (Nat.le_refl _) _)) (LAt.ofHd (by simp) (by simp) (by simp) (by simp)) (by have := hl.out; omega) (by have := hl.out; simp only [maxLen]; omega) (by have := hB.out.size; simp; omega) ?_; intro v' w4 hO4 hA4; refine hK' _ _ ?_)
      have O4 := Lib.hid hO4
      have BA := Lib.hid (show Below wA.heap.size wA w4 from (hB.out.alloc hB.out.size (.cells #[.int .i64 x.h.f, .int .u32 (x.h.n.1 : Int), .int .i64 x.h.n.2, .int .i64 x.h.m] 53)).trans (hA4.below (fun j hj => (hO.out.lt j hj).1) (by have := hB.out.size; simp; omega)))
      clear hO4 hA4
      go_wp2_with fail
      go_roundw
      case rel => exact ⟨k + 1, by go_num, by omega, BA, Lib.hid (by rw [HM.out]; exact O4.out)⟩
      case measure => simp [RowKit.intOf]; omega
    · have e : M.take k = M := List.take_of_length_le (by omega)
      go_wp2_with fail
      go_ret
      rw [e] at hO
      exact ⟨_, rfl, hO.out.down HA.out.size, HA.out.trans (hB.out.mono HA.out.size)⟩
set_option maxHeartbeats 1000000 in
set_option maxRecDepth 100000 in
theorem heards_none (w : World) (now : Int) (q : Option Addr) (c : Nat) :
    Calls Tryd.prog 16 #[.agg #[.int .i64 now, .slice q 0 c]] w fun r w' => r = .returned (.slice none 0 0) ∧ Below w.heap.size w w' := by
  go_enter Tryd.func16, Tryd.ntmps16
  go_wp2_with fail
  refine wp_loop_rounds 1 ?_
  rw [rounds_succ]
  go_wp2_with fail
  go_ret
  exact ⟨rfl, (Below.refl _ _).alloc (Nat.le_refl _) _⟩
/-- Heards. -/
theorem heards_any (w : World) (now : Int) (v : Value) (M : List Rt) (hlen : M.length ≤ 64) (h : LArg w v M) :
    Calls Tryd.prog 16 #[.agg #[.int .i64 now, v]] w fun r w' => ∃ v, r = .returned v ∧ LOwn 53 w' w.heap.size v (M.map Rt.h) ∧ Below w.heap.size w w' := by
  obtain ⟨p, c, rfl, _, h⟩ := h
  rcases h with rfl | ⟨b, off, rfl, hb, hs⟩
  · refine (heards_none w now p c).mono ?_
    rintro r w' ⟨rfl, hb⟩
    exact ⟨_, rfl, LOwn.nil _ _ _, hb⟩
  · exact heards_some w now b off c M hlen hb hs

/-- A rib of the document's is returned (in the block of a result). -/
theorem bodyPost_rib {fn : Func} {R : Ending → World → Prop} {a : Act} {W : World} {n s : Nat} {now : Int} {p : Option Addr} {m c : Nat} (hres : fn.results = #[.cell s 29]) (h2 : a.tmps[s]?.getD undef = .pointer (some ⟨n, 0, none⟩))
    (hs : Box W n (.int .i64 now) (.slice p m c)) (hd : a.defers = []) (hR : R (.returned (.agg #[.int .i64 now, .slice p m c])) W) : bodyPost Tryd.prog fn R .ret a W := by
  obtain ⟨_, c0, c1, _, _⟩ := hs
  refine bodyPost_ret (v := .agg #[.int .i64 now, .slice p m c]) ?_ hd hR
  simp [results, hres, go_sem, h2, c0, c1]

namespace RibP
theorem ageR_lt (now : Int) (e : Rt) (h : e.h.m ≤ 16) : ageR now e = if e.h.m < 16 ∧ 180 ≤ now - e.t then ⟨⟨e.h.f, e.h.n, 16⟩, e.t + 180⟩ else e := by
  unfold ageR
  by_cases h1 : e.h.m = 16
  · rw [if_neg (fun h => h.1 h1), if_neg (fun h => by omega)]
  · by_cases h2 : 180 ≤ now - e.t
    · rw [if_pos ⟨h1, h2⟩, if_pos ⟨by omega, h2⟩]
    · rw [if_neg (fun h => h2 h.2), if_neg (fun h => h2 h.2)]
theorem kpt_lt (now : Int) (e : Rt) (h : e.h.m ≤ 16) : kpt now e = decide (e.h.m < 16 ∨ now - e.t < 120) := by
  unfold kpt
  exact decide_eq_decide.2 ⟨fun h1 => h1.elim (fun h2 => Or.inl (by omega)) Or.inr, fun h1 => h1.elim (fun h2 => Or.inl (by omega)) Or.inr⟩
end RibP
end Go.Proofs.YtoocmogmocapoaaDoor
