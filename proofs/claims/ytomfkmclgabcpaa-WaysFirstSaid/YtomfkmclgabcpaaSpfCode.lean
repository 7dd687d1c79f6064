/-
  spf.Far at every number of nodes, every list of links and every node; what lay in memory stays.
-/
import Derived.Test.YtomfkmclgabcpaaSpfChecked
namespace Go.Proofs.Ytomfkmclgabcpaa
open Go.RowKit Go.Lib

set_option maxHeartbeats 400000 in
set_option maxRecDepth 100000 in
/-- spf.Far at what is wrong. -/
theorem far_bad (w : World) (n fr : Int) (v : Value) (l : List Lk) (hn : l.length < 4611686018427387904) (h : ArgK w v l) (hg : spfBad n l fr ≠ 0) :
    Calls Try.prog 8 #[.int .i64 n, v, .int .i64 fr] w fun e w' => e = .returned (.tuple #[.slice none 0 0, errV (spfBad n l fr)]) ∧ Below w.heap.size w w' := by
  have HC := Lib.hid (checked_bad w n fr v l hn h hg)
  rw [spf_err hg] at HC ⊢
  clear h
  generalize spfBad n l fr = q at HC hg
  go_enter Try.func8, Try.ntmps8
  go_wp2_with fail
  refine HC.out.mono ?_
  rintro e w1 ⟨rfl, hb1⟩
  go_wp2_with fail
  go_ret2
  exact ⟨rfl, hb1⟩
set_option maxHeartbeats 400000 in
set_option maxRecDepth 100000 in
/-- spf.Far at what is right. -/
theorem far_ok (w : World) (m t : Nat) (v : Value) (l : List Lk) (hn : l.length < 4611686018427387904) (h : ArgK w v l) (hg : gBad m l = 0) (ht : t < m) :
    Calls Try.prog 8 #[.int .i64 m, v, .int .i64 t] w fun e w' => ∃ f, w.heap.size ≤ f ∧ e = .returned (.tuple #[.slice (some ⟨f, 0, none⟩) m m, .nilIface]) ∧ Vec w' f m (fun i => (BellP.far m (BellP.ct l) t i : Int)) ∧ Below w.heap.size w w' := by
  have HC := Lib.hid (checked_ok w m t v l hn h hg ht)
  obtain ⟨hm, hR⟩ := (gBad_zero m l).1 hg
  have HR := Lib.hid hR
  have h1 : 1 ≤ m := by omega
  have h8 : m ≤ 8 := by omega
  clear h hg hR hm
  go_enter Try.func8, Try.ntmps8
  go_wp2_with fail
  refine HC.out.mono ?_
  rintro e w1 ⟨g, hgs, rfl, hG, hb1⟩
  have HD := Lib.hid (distances_any w1 g m t (BellP.ct l) h1 h8 ht (BellP.ct_cost HR.out) (SpfP.ct_sym l) (hG.congr fun i _ j _ => (BellP.ct_int HR.out i j).symm))
  have HB := Lib.hid hb1
  clear hG hb1
  go_wp2_with fail
  refine HD.out.mono ?_
  rintro e w2 ⟨f, hf, rfl, hv, hb2⟩
  have HH := Lib.hid (And.intro hv hb2)
  clear hv hb2
  go_wp2_with fail
  go_ret2
  exact ⟨f, Nat.le_trans HB.out.size hf, rfl, HH.out.1, Below.two HB.out HH.out.2⟩
end Go.Proofs.Ytomfkmclgabcpaa
