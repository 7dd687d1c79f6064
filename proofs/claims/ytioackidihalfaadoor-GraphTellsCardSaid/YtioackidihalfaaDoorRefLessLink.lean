/-
  The document's LessLink at every list of links and every two numbers: the links without that one; what lay in memory stays.
-/
import Derived.Test.YtioackidihalfaaDoorRefCost
namespace Go.Proofs.YtioackidihalfaaDoor
open Go.RowKit

theorem less_snoc (l : List Lk) (a b : Int) (x : Lk) : less (l ++ [x]) a b = if bond a b x = true then less l a b else less l a b ++ [x] := by
  unfold less
  rw [List.filter_append]
  by_cases h : bond a b x = true
  · rw [if_pos h]; simp [h]
  · rw [if_neg h]; simp [h]
theorem less_len (l : List Lk) (a b : Int) : (less l a b).length ≤ l.length := List.length_filter_le _ l

set_option maxHeartbeats 1000000 in
set_option maxRecDepth 100000 in
theorem lessLink_some (w : World) (b0 off c : Nat) (l : List Lk) (a b : Int) (hn : l.length * 24 ≤ 140737488355328) (hb : b0 < w.heap.size) (hs : SeenK w b0 off l) :
    Calls Tryd.prog 11 #[.slice (some ⟨b0, off, none⟩) l.length c, .int .i64 a, .int .i64 b] w fun e w' => ∃ u, e = .returned u ∧ OwnK w' w.heap.size u (less l a b) ∧ Below w.heap.size w w' := by
  have HS := Lib.hid hs; clear hs
  go_enter Tryd.func11, Tryd.ntmps11
  go_wp2_with fail
  go_loopw [7, 8] (fun u v wr => ∃ (k : Nat), v = .int .i64 k ∧ k ≤ l.length ∧ Hid (Below w.heap.size w wr) ∧ Hid (OwnK wr w.heap.size u (less (l.take k) a b))) (fun _ v _ => l.length - (intOf v).toNat)
  case atStart => exact ⟨0, rfl, Nat.zero_le _, Lib.hid (Below.refl _ _), Lib.hid (OwnK.nil _ _)⟩
  case round =>
    obtain ⟨k, rfl, hk, hB, HO⟩ := hrel
    by_cases hkn : k < l.length
    · have S := HS.out.below hB.out hb
      have s0 : wr.cell? ⟨b0, off + k * 3, none⟩ = some (.int .i64 l[k]!.1) := S.c0 k hkn
      have s1 : wr.cell? ⟨b0, off + k * 3 + 1, none⟩ = some (.int .i64 l[k]!.2.1) := S.c1 k hkn
      have s2 : wr.cell? ⟨b0, off + k * 3 + 2, none⟩ = some (.int .i64 l[k]!.2.2) := S.c2 k hkn
      have ht := Lib.hid (show l.take (k + 1) = l.take k ++ [l[k]!] by rw [getElem!_pos l k hkn]; exact List.take_succ_eq_append_getElem hkn)
      have hlen : (less (l.take k) a b).length ≤ k := Nat.le_trans (less_len _ a b) (List.length_take_le k l)
      clear S
      generalize l[k]! = x at s0 s1 s2 ht
      have HL := Lib.hid (less_snoc (l.take k) a b x)
      have HA := Lib.hid (HO.out.keep ((Below.refl wr.heap.size wr).alloc (Nat.le_refl _) (.cells #[.int .i64 x.1, .int .i64 x.2.1, .int .i64 x.2.2] 46)))
      have HX := Lib.hid (Box3.new wr (.int .i64 x.1) (.int .i64 x.2.1) (.int .i64 x.2.2) 46)
      rcases tie_cases a b x with ⟨hx, e1, e2⟩ | ⟨hx, e1, e3, e4⟩ | ⟨hx, e1, e2, e3, e4⟩ | ⟨hx, e1, e2, e3⟩ | ⟨hx, e1, e3, e4⟩ | ⟨hx, e1, e3⟩
      · rw [if_pos hx, ← ht.out] at HL
        clear hx
        go_wp2_with fail
        go_roundw
        case rel => exact ⟨k + 1, by go_num, by omega, hB, Lib.hid (by rw [HL.out]; exact HO.out)⟩
        case measure => simp [intOf]; omega
      · rw [if_pos hx, ← ht.out] at HL
        clear hx
        go_wp2_with fail
        go_roundw
        case rel => exact ⟨k + 1, by go_num, by omega, hB, Lib.hid (by rw [HL.out]; exact HO.out)⟩
        case measure => simp [intOf]; omega
      all_goals
        rw [if_neg (by rw [hx]; simp), ← ht.out] at HL
        clear hx
        obtain ⟨y0, y1, y2⟩ := x
        simp only at s0 s1 s2 HA HX e1 HL
        go_wp2_with (at_builtin; refine wpl_append_oneK rfl _ _ rfl w.heap.size _ (less (l.take k) a b) (y0, y1, y2) wr.heap.size 1 rfl rfl HA.out HX.out (by omega) (Nat.le_trans hB.out.size (by simp)) ?_; intro v' w3 hO3 hg3 _)
        go_roundw
        case rel => exact ⟨k + 1, by go_num, by omega, Lib.hid ((hB.out.alloc hB.out.size _).grown hg3 (Nat.le_trans hB.out.size (by simp)) HO.out.past), Lib.hid (by rw [HL.out]; exact hO3)⟩
        case measure => simp [intOf]; omega
    · have e : l.take k = l := List.take_of_length_le (by omega)
      rw [e] at HO
      go_wp2_with fail
      go_ret
      exact ⟨_, rfl, HO.out, hB.out⟩
set_option maxHeartbeats 400000 in
set_option maxRecDepth 100000 in
theorem lessLink_none (w : World) (p : Option Addr) (c : Nat) (a b : Int) :
    Calls Tryd.prog 11 #[.slice p 0 c, .int .i64 a, .int .i64 b] w fun e w' => ∃ u, e = .returned u ∧ OwnK w' w.heap.size u (less [] a b) ∧ Below w.heap.size w w' := by
  go_enter Tryd.func11, Tryd.ntmps11
  go_wp2_with fail
  refine wp_loop_rounds 1 ?_
  rw [rounds_succ]
  go_wp2_with fail
  go_ret
  exact ⟨_, rfl, OwnK.nil _ _, Below.refl _ _⟩
/-- waywardenref2.LessLink. -/
theorem lessLink_any (w : World) (v : Value) (l : List Lk) (a b : Int) (hn : l.length * 24 ≤ 140737488355328) (h : ArgK w v l) :
    Calls Tryd.prog 11 #[v, .int .i64 a, .int .i64 b] w fun e w' => ∃ u, e = .returned u ∧ OwnK w' w.heap.size u (less l a b) ∧ Below w.heap.size w w' := by
  obtain ⟨p, c, rfl, h⟩ := h
  rcases h with rfl | ⟨b0, off, rfl, hb, hs⟩
  · exact lessLink_none w p c a b
  · exact lessLink_some w b0 off c l a b hn hb hs
end Go.Proofs.YtioackidihalfaaDoor
