/-
  The document's LengthOf at every number of nodes, links and nodes in a row; what lay in memory stays.
-/
import Derived.Test.YtomfkmclgabcpaaDoorRefCost
import Derived.Test.YtomfkmclgabcpaaDoorDrewN
import Derived.Test.YtomfkmclgabcpaaDoorWayLen
import Derived.Test.YtomfkmclgabcpaaDoorRowSeen
import Derived.Deep.QuietTactic
import Derived.BigQuiet
namespace Go.Proofs.YtomfkmclgabcpaaDoor
open Go.RowKit Go.Lib

def lenN : Option Int → Value
  | some z => .tuple #[.int .i64 z, .bool true]
  | none => .tuple #[.int .i64 0, .bool false]

set_option maxHeartbeats 2000000 in
set_option maxRecDepth 100000 in
theorem lengthOf_some (w : World) (n : Int) (v : Value) (l : List Lk) (b off c : Nat) (ws : List Int) (hn : l.length < 4611686018427387904) (hw : ws.length < 4611686018427387904) (h1 : 1 ≤ ws.length) (h : ArgK w v l) (hb : b < w.heap.size) (hs : SeenI w b off ws) :
    Calls Tryd.prog 7 #[.int .i64 n, v, .slice (some ⟨b, off, none⟩) ws.length c] w fun e w' => e = .returned (lenN (lengthG n l ws)) ∧ Below w.heap.size w w' := by
  have HS := Lib.hid hs
  have HK := Lib.hid h
  have t0 : ((ws.length : Int) == 0) = false := by
    have : ¬ (ws.length : Int) = 0 := by omega
    simpa using this
  have HC := Lib.hid (fun (w : World) (x y : Int) (h : ArgK w v l) => costOf_any w v l x y hn h)
  clear hs h
  go_enter Tryd.func7, Tryd.ntmps7
  go_wp2_with fail
  clear t0
  go_loopw [8, 9] (fun s x wr => ∃ (k : Nat) (z : Int), x = .int .i64 k ∧ k ≤ ws.length ∧ s = .int .i64 z ∧ Hid (Below w.heap.size w wr) ∧ Hid ((k = 0 ∧ z = 0) ∨ (1 ≤ k ∧ lengthG n l ws = lenTo n l z ws[k - 1]! (ws.drop k)))) (fun _ x _ => ws.length - (RowKit.intOf x).toNat)
  case atStart => exact ⟨0, 0, rfl, Nat.zero_le _, rfl, Lib.hid (Below.refl _ _), Lib.hid (Or.inl ⟨rfl, rfl⟩)⟩
  case round =>
    obtain ⟨k, z, rfl, hk, rfl, HB, HE⟩ := hrel
    by_cases hkn : k < ws.length
    · have a0 := (HS.out.below HB.out hb) k hkn
      have hd : ws.drop k = ws[k]! :: ws.drop (k + 1) := by rw [getElem!_pos ws k hkn]; exact List.drop_eq_getElem_cons hkn
      by_cases hk0 : k = 0
      · subst hk0
        obtain rfl : z = 0 := by
          rcases HE.out with ⟨_, e⟩ | ⟨e, _⟩
          · exact e
          · omega
        have hl : lengthG n l ws = if ws[0]! < 0 ∨ n ≤ ws[0]! then none else lenTo n l 0 ws[0]! (ws.drop 1) := by
          rw [List.drop_zero] at hd
          rw [hd]; rfl
        have HL := Lib.hid hl
        clear hl hd HE
        generalize hy : ws[0]! = y at a0 HL
        have HY := Lib.hid hy
        clear hy
        rw [Nat.add_zero] at a0
        by_cases h2 : y < 0
        · have E : Hid (lengthG n l ws = none) := Lib.hid (by rw [HL.out, if_pos (Or.inl h2)])
          clear HL
          go_wp2_with fail
          go_ret2
          exact ⟨by rw [E.out]; rfl, HB.out⟩
        · by_cases h3 : n ≤ y
          · have E : Hid (lengthG n l ws = none) := Lib.hid (by rw [HL.out, if_pos (Or.inr h3)])
            clear HL
            go_wp2_with fail
            go_ret2
            exact ⟨by rw [E.out]; rfl, HB.out⟩
          · have E : Hid (lengthG n l ws = lenTo n l 0 y (ws.drop 1)) := Lib.hid (by rw [HL.out, if_neg (by omega)])
            clear HL
            go_wp2_with fail
            go_roundw
            case rel => exact ⟨1, 0, rfl, by omega, rfl, HB, Lib.hid (Or.inr ⟨Nat.le_refl _, by rw [E.out]; show _ = lenTo n l 0 ws[0]! _; rw [HY.out]⟩)⟩
            case measure => simp [RowKit.intOf]; omega
      · obtain ⟨j, rfl⟩ : ∃ j, k = j + 1 := ⟨k - 1, by omega⟩
        have hl : lengthG n l ws = lenTo n l z ws[j]! (ws.drop (j + 1)) := by
          rcases HE.out with ⟨e, _⟩ | ⟨_, e⟩
          · omega
          · simpa using e
        rw [hd] at hl
        replace hl : lengthG n l ws = if ws[j + 1]! < 0 ∨ n ≤ ws[j + 1]! ∨ costG l ws[j]! ws[j + 1]! = 0 ∨ costG l ws[j]! ws[j + 1]! = 16 then none else lenTo n l (wrap64 (z + costG l ws[j]! ws[j + 1]!)) ws[j + 1]! (ws.drop (j + 1 + 1)) := hl
        have HL := Lib.hid hl
        have a1 := (HS.out.below HB.out hb) j (by omega)
        have HKW := Lib.hid (HK.out.below HB.out)
        clear hl hd HE
        generalize hy : ws[j + 1]! = y at a0 HL
        have HY := Lib.hid hy
        generalize ws[j]! = x at a1 HL
        clear hy hk0
        by_cases h2 : y < 0
        · have E : Hid (lengthG n l ws = none) := Lib.hid (by rw [HL.out, if_pos (Or.inl h2)])
          clear HL
          go_wp2_with fail
          go_ret2
          exact ⟨by rw [E.out]; rfl, HB.out⟩
        · by_cases h3 : n ≤ y
          · have E : Hid (lengthG n l ws = none) := Lib.hid (by rw [HL.out, if_pos (Or.inr (Or.inl h3))])
            clear HL
            go_wp2_with fail
            go_ret2
            exact ⟨by rw [E.out]; rfl, HB.out⟩
          · have HCC : Hid (∀ m, Calls Tryd.prog 19 #[v, .int .i64 x, .int .i64 y] (wr.drewN m) fun e w' => e = .returned (.int .i64 (costG l x y)) ∧ w' = wr.drewN m) := Lib.hid fun m => (HC.out (wr.drewN m) x y (HKW.out.below (bel_drewN (Below.refl _ _) m))).mono fun e w' ⟨h, h'⟩ => ⟨h, h'.symm⟩
            have HL2 : Hid (lengthG n l ws = if costG l x y = 0 ∨ costG l x y = 16 then none else lenTo n l (wrap64 (z + costG l x y)) y (ws.drop (j + 1 + 1))) := Lib.hid (by
              rw [HL.out]
              by_cases g : costG l x y = 0 ∨ costG l x y = 16
              · rw [if_pos (Or.inr (Or.inr g)), if_pos g]
              · rw [if_neg (by omega), if_neg g])
            clear HL
            generalize costG l x y = q at HCC HL2
            have hwj : IntKind.i64.wrap (j : Int) = j := by rw [IntKind.wrap_i64]; omega
            have hji : (j : Int) < ws.length := by omega
            have hj1 : (j : Int) + 1 < ws.length := by omega
            have hj0 : 0 ≤ (j : Int) + 1 := by omega
            go_wp2_with fail
            go_quiet (first | (go_at_call 19; exact Calls.quiet_of_same (HCC.out _)))
            by_cases g0 : q = 0
            · have E : Hid (lengthG n l ws = none) := Lib.hid (by rw [HL2.out, if_pos (Or.inl g0)])
              subst g0
              clear HL2
              go_wp2_with fail
              go_ret2
              exact ⟨by rw [E.out]; rfl, bel_drewN HB.out _⟩
            · have g0' : (q == 0) = false := by simpa using g0
              by_cases g1 : q = 16
              · have E : Hid (lengthG n l ws = none) := Lib.hid (by rw [HL2.out, if_pos (Or.inr g1)])
                subst g1
                clear HL2
                go_wp2_with fail
                go_ret2
                exact ⟨by rw [E.out]; rfl, bel_drewN HB.out _⟩
              · have g1' : (q == 16) = false := by simpa using g1
                have E : Hid (lengthG n l ws = lenTo n l (wrap64 (z + q)) y (ws.drop (j + 1 + 1))) := Lib.hid (by rw [HL2.out, if_neg (by omega)])
                clear HL2
                go_wp2_with fail
                go_roundw
                case rel =>
                  refine ⟨j + 1 + 1, wrap64 (z + q), by go_num, by omega, rfl, Lib.hid (bel_drewN HB.out _), Lib.hid (Or.inr ⟨by omega, ?_⟩)⟩
                  rw [E.out, show j + 1 + 1 - 1 = j + 1 by omega, HY.out]
                case measure => simp [RowKit.intOf]; omega
    · obtain rfl : k = ws.length := by omega
      have E : Hid (lengthG n l ws = some z) := Lib.hid (by
        rcases HE.out with ⟨e, _⟩ | ⟨_, e⟩
        · omega
        · rw [e, List.drop_length]; rfl)
      clear HE
      go_wp2_with fail
      go_ret2
      exact ⟨by rw [E.out]; rfl, HB.out⟩
set_option maxHeartbeats 400000 in
set_option maxRecDepth 100000 in
theorem lengthOf_none (w : World) (n : Int) (v : Value) (p : Option Addr) (c : Nat) :
    Calls Tryd.prog 7 #[.int .i64 n, v, .slice p 0 c] w fun e w' => e = .returned (.tuple #[.int .i64 0, .bool false]) ∧ w = w' := by
  go_enter Tryd.func7, Tryd.ntmps7
  go_wp2_with fail
  go_ret2
  exact ⟨rfl, rfl⟩
/-- waywardenref1.LengthOf. -/
theorem lengthOf_any (w : World) (n : Int) (v u : Value) (l : List Lk) (ws : List Int) (hn : l.length < 4611686018427387904) (hw : ws.length < 4611686018427387904) (h : ArgK w v l) (hu : ArgI w u ws) :
    Calls Tryd.prog 7 #[.int .i64 n, v, u] w fun e w' => e = .returned (lenN (lengthG n l ws)) ∧ Below w.heap.size w w' := by
  obtain ⟨p, c, rfl, hu⟩ := hu
  by_cases h0 : ws.length = 0
  · obtain rfl : ws = [] := List.length_eq_zero_iff.1 h0
    refine (lengthOf_none w n v p c).mono ?_
    rintro e w1 ⟨rfl, rfl⟩
    exact ⟨rfl, Below.refl _ _⟩
  · rcases hu with rfl | ⟨b, off, rfl, hb, hs⟩
    · exact absurd rfl h0
    · exact lengthOf_some w n v l b off c ws hn hw (by omega) h hb hs
end Go.Proofs.YtomfkmclgabcpaaDoor
