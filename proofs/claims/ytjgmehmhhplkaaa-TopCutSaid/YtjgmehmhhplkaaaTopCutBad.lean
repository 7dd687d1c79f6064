/-
  The law TopCut at every number of nodes, every links, a place and two nodes of which one is not there.
-/
import Derived.Test.YtjgmehmhhplkaaaSpfOne
import Derived.Test.YtjgmehmhhplkaaaSpfLists
import Derived.Test.YtjgmehmhhplkaaaSpfCutPlain
import Derived.Test.YtjgmehmhhplkaaaGraphCut
import Derived.Deep.RegionHeld3
import Derived.Deep.QuietTactic
import Derived.BigQuiet
namespace Go.Proofs.Ytjgmehmhhplkaaa
open Go.RowKit Go.Lib

/-- A row of links laid, read. -/
theorem RowF.argK {w : World} {g : Nat} {L : List Lk} (h : RowF w g L.length (fun i => L[i]!)) (c : Nat) : ArgK w (.slice (some ⟨g, 0, none⟩) L.length c) L :=
  ⟨_, c, rfl, Or.inr ⟨g, 0, rfl, h.lt, h.seen _ (Nat.le_refl _) fun _ _ => rfl⟩⟩
set_option maxHeartbeats 4000000 in
set_option maxRecDepth 100000 in
theorem topCut_1 (w : World) (n k a b : Int) (v : Value) (l : List Lk) (hn : l.length < 4611686018427387904) (h : ArgK w v l) (hg : spfBad n l a ≠ 0) :
    Calls Try.prog 7 #[.int .i64 n, v, .int .i64 k, .int .i64 a, .int .i64 b] w fun e w' => e = .returned (.bool true) ∧ Below w.heap.size w w' := by
  have HL := Lib.hid (h)
  have HR := Lib.hid (fun w1 (h1 : ArgK w1 v l) => far_bad w1 n a v l hn h1 hg)
  rw [spf_err hg] at HR
  clear h
  generalize spfBad n l a = q at HR hg
  have HZZ : Hid (Below w.heap.size w w) := Lib.hid (Below.refl _ _)
  go_enter Try.func7, Try.ntmps7
  go_wp2_with fail
  refine (HR.out _ HL.out).mono ?_
  rintro e w1 ⟨rfl, hb1⟩
  have HL' := Lib.hid (HL.out.below hb1)
  have HZZ' := Lib.hid (Below.two HZZ.out hb1)
  clear hb1 HZZ HL
  have HZZ := HZZ'
  clear HZZ'
  have HL := HL'
  clear HL'
  go_wp2_with fail
  refine (one_at w1).mono ?_
  rintro e w2 ⟨f0, _, rfl, o1, hb2⟩
  have HL' := Lib.hid (HL.out.below hb2)
  have HZZ' := Lib.hid (Below.two HZZ.out hb2)
  clear hb2 HZZ HL
  have HZZ := HZZ'
  clear HZZ'
  have HL := HL'
  clear HL'
  go_wp2_with fail
  go_ret
  exact ⟨rfl, HZZ.out⟩
set_option maxHeartbeats 4000000 in
set_option maxRecDepth 100000 in
theorem topCut_2 (w : World) (m t : Nat) (k b : Int) (v : Value) (l : List Lk) (hn : l.length * 24 ≤ 140737488355328) (h : ArgK w v l) (hg : gBad m l = 0) (ht : t < m) (hc : k < 0 ∨ (l.length : Int) ≤ k ∨ b < 0 ∨ (m : Int) ≤ b) :
    Calls Try.prog 7 #[.int .i64 m, v, .int .i64 k, .int .i64 t, .int .i64 b] w fun e w' => e = .returned (.bool true) ∧ Below w.heap.size w w' := by
  have HL := Lib.hid (h)
  obtain ⟨p, c, rfl, _⟩ := h
  generalize hlen : l.length = len at HL hc
  have HLen := Lib.hid hlen
  have HZZ : Hid (Below w.heap.size w w) := Lib.hid (Below.refl _ _)
  go_enter Try.func7, Try.ntmps7
  go_wp2_with fail
  refine (far_ok w m t (.slice p len c) l (by omega) HL.out hg ht).mono ?_
  rintro e w1 ⟨f1, _, rfl, _, hb1⟩
  have HL' := Lib.hid (HL.out.below hb1)
  have HZZ' := Lib.hid (Below.two HZZ.out hb1)
  clear hb1 HZZ HL
  have HZZ := HZZ'
  clear HZZ'
  have HL := HL'
  clear HL'
  go_wp2_with fail
  refine (one_at w1).mono ?_
  rintro e w2 ⟨f0, _, rfl, o1, hb2⟩
  have HL' := Lib.hid (HL.out.below hb2)
  have HZZ' := Lib.hid (Below.two HZZ.out hb2)
  clear hb2 HZZ HL
  have HZZ := HZZ'
  clear HZZ'
  have HL := HL'
  clear HL'
  rcases hc with hc | hc | hc | hc
  · go_wp2_with fail
    go_ret
    exact ⟨rfl, HZZ.out⟩
  · by_cases k0 : k < 0
    · go_wp2_with fail
      go_ret
      exact ⟨rfl, HZZ.out⟩
    · have k1 : k ≥ (len : Int) := by omega
      clear hc
      go_wp2_with fail
      go_ret
      exact ⟨rfl, HZZ.out⟩
  · by_cases k0 : k < 0
    · go_wp2_with fail
      go_ret
      exact ⟨rfl, HZZ.out⟩
    · by_cases k1 : k ≥ (len : Int)
      · go_wp2_with fail
        go_ret
        exact ⟨rfl, HZZ.out⟩
      · go_wp2_with fail
        go_ret
        exact ⟨rfl, HZZ.out⟩
  · by_cases k0 : k < 0
    · go_wp2_with fail
      go_ret
      exact ⟨rfl, HZZ.out⟩
    · by_cases k1 : k ≥ (len : Int)
      · go_wp2_with fail
        go_ret
        exact ⟨rfl, HZZ.out⟩
      · by_cases k2 : b < 0
        · go_wp2_with fail
          go_ret
          exact ⟨rfl, HZZ.out⟩
        · have k3 : b ≥ (m : Int) := by omega
          clear hc
          go_wp2_with fail
          go_ret
          exact ⟨rfl, HZZ.out⟩
end Go.Proofs.Ytjgmehmhhplkaaa
