/-
  The law BellLeast at every number of nodes, every links, node and nodes in a row: it tells true; what lay in memory stays.
-/
import Derived.Test.YtjgpibchnpodjaaBellRounded
import Derived.Test.YtjgpibchnpodjaaRefLength
namespace Go.Proofs.Ytjgpibchnpodjaa
open Go.RowKit Go.Lib

/-- A way is a walk, as long. -/
theorem lenTo_walk {n : Nat} {l : List Lk} (hr : Right n l) : ∀ (r : List Int) (s z : Int) (x : Nat), x < n → 0 ≤ s → s + 16 * r.length < 4611686018427387904 → lenTo n l s x r = some z →
    ∃ ws : List Nat, ws.length = r.length ∧ (∀ y ∈ ws, y < n) ∧ z = s + (MatP.wl (BellP.ct l) x ws : Int) ∧ ((MatP.en x ws : Nat) : Int) = ((x : Int) :: r)[r.length]!
  | [], s, z, x, _, _, _, h => ⟨[], rfl, by simp, by simp [lenTo] at h; simp [MatP.wl, h], rfl⟩
  | y :: r, s, z, x, hx, hs, hb, h => by
    rw [lenTo] at h
    split at h
    · cases h
    · rename_i hn
      obtain ⟨b, rfl⟩ : ∃ b : Nat, y = b := ⟨y.toNat, by omega⟩
      have hc := BellP.ct_int hr x b
      have hbd := (BellP.ct_cost hr).bd x b
      rw [← hc] at h
      simp only [List.length_cons] at hb
      have hw : wrap64 (s + (BellP.ct l x b : Int)) = s + (BellP.ct l x b : Int) := by unfold wrap64; omega
      rw [hw] at h
      obtain ⟨ws, h1, h2, h3, h4⟩ := lenTo_walk hr r _ z b (by omega) (by omega) (by omega) h
      refine ⟨b :: ws, by simp [h1], fun q hq => ?_, ?_, ?_⟩
      · rcases List.mem_cons.1 hq with e | hq
        · omega
        · exact h2 q hq
      · rw [h3]; simp only [MatP.wl]; omega
      · show ((MatP.en b ws : Nat) : Int) = _
        rw [h4]
        simp
/-- No way is shorter than the node is far. -/
theorem length_far {n t : Nat} {l : List Lk} (hr : Right n l) (ht : t < n) (ws : List Int) (z : Int) (hw : ws.length * 8 ≤ 140737488351232) (h : lengthG n l ws = some z) (he : ws[ws.length - 1]! = t) :
    1 ≤ ws.length ∧ 0 ≤ ws[0]! ∧ ws[0]! < n ∧ (BellP.far n (BellP.ct l) t ws[0]!.toNat : Int) ≤ z := by
  cases ws with
  | nil => cases h
  | cons x r =>
    rw [lengthG] at h
    split at h
    · cases h
    · rename_i hn
      obtain ⟨a, rfl⟩ : ∃ a : Nat, x = a := ⟨x.toNat, by omega⟩
      simp only [List.length_cons] at hw
      obtain ⟨ws, h1, h2, h3, h4⟩ := lenTo_walk hr r 0 z a (by omega) (by omega) (by omega) h
      have he' : ((a : Int) :: r)[r.length]! = t := by simpa using he
      rw [he'] at h4
      have h5 := BellP.far_wl (BellP.ct_cost hr) ht ws a (by omega) h2 (by omega)
      refine ⟨by simp, ?_, ?_, ?_⟩
      · show (0 : Int) ≤ (a : Int); omega
      · show (a : Int) < n; omega
      · show (BellP.far n (BellP.ct l) t ((a : Int).toNat) : Int) ≤ z
        rw [show (a : Int).toNat = a by omega]; omega

set_option maxHeartbeats 2000000 in
set_option maxRecDepth 100000 in
theorem least_1a (w : World) (n to : Int) (v u : Value) (l : List Lk) (ws : List Int) (hn : l.length < 4611686018427387904) (hw : ws.length < 4611686018427387904) (h : ArgK w v l) (hu : ArgI w u ws) (hg : runBad n l to ≠ 0) (hz : lengthG n l ws = none) :
    Calls Try.prog 5 #[.int .i64 n, v, .int .i64 to, u] w fun e w' => e = .returned (.bool true) ∧ Below w.heap.size w w' := by
  have HL := Lib.hid (h)
  have HU := Lib.hid (hu)
  have HR := Lib.hid (fun w1 (h1 : ArgK w1 v l) => run_bad w1 n to v l hn h1 hg)
  rw [errV_ne hg] at HR
  have HN := Lib.hid (fun w1 (h1 : ArgK w1 v l) (h2 : ArgI w1 u ws) => lengthOf_any w1 n v u l ws hn hw h1 h2)
  rw [hz] at HN
  obtain ⟨pu, cu, rfl, _⟩ := id hu
  clear h hu hz
  generalize runBad n l to = q at HR hg
  have HZZ : Hid (Below w.heap.size w w) := Lib.hid (Below.refl _ _)
  go_enter Try.func5, Try.ntmps5
  go_wp2_with fail
  refine (rounded_any w).mono ?_
  rintro e w1 ⟨rfl, hb1⟩
  have HL' := Lib.hid (HL.out.below hb1)
  have HU' := Lib.hid (HU.out.below hb1)
  have HZZ' := Lib.hid (Below.two HZZ.out hb1)
  clear hb1 HZZ HL HU
  have HZZ := HZZ'
  clear HZZ'
  have HL := HL'
  clear HL'
  have HU := HU'
  clear HU'
  go_wp2_with fail
  refine (HR.out _ HL.out).mono ?_
  rintro e w2 ⟨rfl, hb2⟩
  have HL' := Lib.hid (HL.out.below hb2)
  have HU' := Lib.hid (HU.out.below hb2)
  have HZZ' := Lib.hid (Below.two HZZ.out hb2)
  clear hb2 HZZ HL HU
  have HZZ := HZZ'
  clear HZZ'
  have HL := HL'
  clear HL'
  have HU := HU'
  clear HU'
  go_wp2_with fail
  refine (HN.out _ HL.out HU.out).mono ?_
  rintro e w3 ⟨rfl, hb3⟩
  have HL' := Lib.hid (HL.out.below hb3)
  have HU' := Lib.hid (HU.out.below hb3)
  have HZZ' := Lib.hid (Below.two HZZ.out hb3)
  clear hb3 HZZ HL HU
  have HZZ := HZZ'
  clear HZZ'
  have HL := HL'
  clear HL'
  have HU := HU'
  clear HU'
  simp only [lenN]
  go_wp2_with fail
  go_ret
  exact ⟨rfl, HZZ.out⟩
set_option maxHeartbeats 2000000 in
set_option maxRecDepth 100000 in
theorem least_1b (w : World) (n to : Int) (v u : Value) (l : List Lk) (ws : List Int) (z : Int) (hn : l.length < 4611686018427387904) (hw : ws.length < 4611686018427387904) (h : ArgK w v l) (hu : ArgI w u ws) (hg : runBad n l to ≠ 0) (hz : lengthG n l ws = some z) :
    Calls Try.prog 5 #[.int .i64 n, v, .int .i64 to, u] w fun e w' => e = .returned (.bool true) ∧ Below w.heap.size w w' := by
  have HL := Lib.hid (h)
  have HU := Lib.hid (hu)
  have HR := Lib.hid (fun w1 (h1 : ArgK w1 v l) => run_bad w1 n to v l hn h1 hg)
  rw [errV_ne hg] at HR
  have HN := Lib.hid (fun w1 (h1 : ArgK w1 v l) (h2 : ArgI w1 u ws) => lengthOf_any w1 n v u l ws hn hw h1 h2)
  rw [hz] at HN
  obtain ⟨pu, cu, rfl, _⟩ := id hu
  clear h hu hz
  generalize runBad n l to = q at HR hg
  have HZZ : Hid (Below w.heap.size w w) := Lib.hid (Below.refl _ _)
  go_enter Try.func5, Try.ntmps5
  go_wp2_with fail
  refine (rounded_any w).mono ?_
  rintro e w1 ⟨rfl, hb1⟩
  have HL' := Lib.hid (HL.out.below hb1)
  have HU' := Lib.hid (HU.out.below hb1)
  have HZZ' := Lib.hid (Below.two HZZ.out hb1)
  clear hb1 HZZ HL HU
  have HZZ := HZZ'
  clear HZZ'
  have HL := HL'
  clear HL'
  have HU := HU'
  clear HU'
  go_wp2_with fail
  refine (HR.out _ HL.out).mono ?_
  rintro e w2 ⟨rfl, hb2⟩
  have HL' := Lib.hid (HL.out.below hb2)
  have HU' := Lib.hid (HU.out.below hb2)
  have HZZ' := Lib.hid (Below.two HZZ.out hb2)
  clear hb2 HZZ HL HU
  have HZZ := HZZ'
  clear HZZ'
  have HL := HL'
  clear HL'
  have HU := HU'
  clear HU'
  go_wp2_with fail
  refine (HN.out _ HL.out HU.out).mono ?_
  rintro e w3 ⟨rfl, hb3⟩
  have HL' := Lib.hid (HL.out.below hb3)
  have HU' := Lib.hid (HU.out.below hb3)
  have HZZ' := Lib.hid (Below.two HZZ.out hb3)
  clear hb3 HZZ HL HU
  have HZZ := HZZ'
  clear HZZ'
  have HL := HL'
  clear HL'
  have HU := HU'
  clear HU'
  simp only [lenN]
  go_wp2_with fail
  go_ret
  exact ⟨rfl, HZZ.out⟩
set_option maxHeartbeats 2000000 in
set_option maxRecDepth 100000 in
theorem least_2 (w : World) (m t r : Nat) (v u : Value) (l : List Lk) (ws : List Int) (hn : l.length < 4611686018427387904) (hw : ws.length * 8 ≤ 140737488351232) (h : ArgK w v l) (hu : ArgI w u ws) (hg : gBad m l = 0) (ht : t < m) (hc : BellP.Cnt m (BellP.ct l) t r) (hz : lengthG m l ws = none) :
    Calls Try.prog 5 #[.int .i64 m, v, .int .i64 t, u] w fun e w' => e = .returned (.bool true) ∧ Below w.heap.size w w' := by
  have HL := Lib.hid (h)
  have HU := Lib.hid (hu)
  have HN := Lib.hid (fun w1 (h1 : ArgK w1 v l) (h2 : ArgI w1 u ws) => lengthOf_any w1 m v u l ws hn (by omega) h1 h2)
  rw [hz] at HN
  have HC := Lib.hid hc
  obtain ⟨pu, cu, rfl, _⟩ := id hu
  clear h hu hz hc
  have HZZ : Hid (Below w.heap.size w w) := Lib.hid (Below.refl _ _)
  go_enter Try.func5, Try.ntmps5
  go_wp2_with fail
  refine (rounded_any w).mono ?_
  rintro e w1 ⟨rfl, hb1⟩
  have HL' := Lib.hid (HL.out.below hb1)
  have HU' := Lib.hid (HU.out.below hb1)
  have HZZ' := Lib.hid (Below.two HZZ.out hb1)
  clear hb1 HZZ HL HU
  have HZZ := HZZ'
  clear HZZ'
  have HL := HL'
  clear HL'
  have HU := HU'
  clear HU'
  go_wp2_with fail
  refine (run_ok w1 m t r v l hn HL.out hg ht HC.out).mono ?_
  rintro e w2 ⟨q1, _, rfl, hV, hb2⟩
  have HL' := Lib.hid (HL.out.below hb2)
  have HU' := Lib.hid (HU.out.below hb2)
  have HZZ' := Lib.hid (Below.two HZZ.out hb2)
  clear hb2 HZZ HL HU
  have HZZ := HZZ'
  clear HZZ'
  have HL := HL'
  clear HL'
  have HU := HU'
  clear HU'
  clear hV
  go_wp2_with fail
  refine (HN.out _ HL.out HU.out).mono ?_
  rintro e w3 ⟨rfl, hb3⟩
  have HL' := Lib.hid (HL.out.below hb3)
  have HU' := Lib.hid (HU.out.below hb3)
  have HZZ' := Lib.hid (Below.two HZZ.out hb3)
  clear hb3 HZZ HL HU
  have HZZ := HZZ'
  clear HZZ'
  have HL := HL'
  clear HL'
  have HU := HU'
  clear HU'
  simp only [lenN]
  go_wp2_with fail
  go_ret
  exact ⟨rfl, HZZ.out⟩
set_option maxHeartbeats 2000000 in
set_option maxRecDepth 100000 in
theorem least_3 (w : World) (m t r : Nat) (v u : Value) (l : List Lk) (ws : List Int) (z : Int) (hn : l.length < 4611686018427387904) (hw : ws.length * 8 ≤ 140737488351232) (h : ArgK w v l) (hu : ArgI w u ws) (hg : gBad m l = 0) (ht : t < m) (hc : BellP.Cnt m (BellP.ct l) t r) (hz : lengthG m l ws = some z) (he : ws[ws.length - 1]! ≠ t) :
    Calls Try.prog 5 #[.int .i64 m, v, .int .i64 t, u] w fun e w' => e = .returned (.bool true) ∧ Below w.heap.size w w' := by
  have HL := Lib.hid (h)
  have HU := Lib.hid (hu)
  have HN := Lib.hid (fun w1 (h1 : ArgK w1 v l) (h2 : ArgI w1 u ws) => lengthOf_any w1 m v u l ws hn (by omega) h1 h2)
  rw [hz] at HN
  have HC := Lib.hid hc
  have h1 : 1 ≤ ws.length := by
    cases ws with
    | nil => cases hz
    | cons _ _ => simp
  obtain ⟨pu, cu, rfl, h0 | ⟨bu, ou, rfl, hbu, hsu⟩⟩ := id hu
  · subst h0; simp at h1
  have a0 : w.cell? ⟨bu, ou + (ws.length - 1), none⟩ = some (.int .i64 ws[ws.length - 1]!) := hsu (ws.length - 1) (by omega)
  have a1 : w.cell? ⟨bu, ou + 0, none⟩ = some (.int .i64 ws[0]!) := hsu 0 (by omega)
  generalize ws[ws.length - 1]! = y at a0 he
  have he' : (y != (t : Int)) = true := by simpa using he
  clear a1 he
  have HA := Lib.hid (fun w' (hb : Below w.heap.size w w') => (hb.cell (p := ⟨bu, ou + (ws.length - 1), none⟩) hbu).trans a0)
  obtain ⟨j, hj⟩ : ∃ j, ws.length = j + 1 := ⟨ws.length - 1, by omega⟩
  rw [show ws.length - 1 = j by omega] at HA
  have HJ := Lib.hid hj
  have hjb : j < 17592186043904 := by omega
  clear a0 h hu hz hc hsu hj hw h1
  have HZZ : Hid (Below w.heap.size w w) := Lib.hid (Below.refl _ _)
  go_enter Try.func5, Try.ntmps5
  go_wp2_with fail
  refine (rounded_any w).mono ?_
  rintro e w1 ⟨rfl, hb1⟩
  have HL' := Lib.hid (HL.out.below hb1)
  have HU' := Lib.hid (HU.out.below hb1)
  have HZZ' := Lib.hid (Below.two HZZ.out hb1)
  clear hb1 HZZ HL HU
  have HZZ := HZZ'
  clear HZZ'
  have HL := HL'
  clear HL'
  have HU := HU'
  clear HU'
  go_wp2_with fail
  refine (run_ok w1 m t r v l hn HL.out hg ht HC.out).mono ?_
  rintro e w2 ⟨q1, _, rfl, hV, hb2⟩
  have HL' := Lib.hid (HL.out.below hb2)
  have HU' := Lib.hid (HU.out.below hb2)
  have HZZ' := Lib.hid (Below.two HZZ.out hb2)
  clear hb2 HZZ HL HU
  have HZZ := HZZ'
  clear HZZ'
  have HL := HL'
  clear HL'
  have HU := HU'
  clear HU'
  clear hV
  go_wp2_with fail
  refine (HN.out _ HL.out HU.out).mono ?_
  rintro e w3 ⟨rfl, hb3⟩
  have HL' := Lib.hid (HL.out.below hb3)
  have HU' := Lib.hid (HU.out.below hb3)
  have HZZ' := Lib.hid (Below.two HZZ.out hb3)
  clear hb3 HZZ HL HU
  have HZZ := HZZ'
  clear HZZ'
  have HL := HL'
  clear HL'
  have HU := HU'
  clear HU'
  simp only [lenN]

  have a0 := HA.out _ HZZ.out
  rw [HJ.out]
  clear HJ
  have hwj : IntKind.i64.wrap (j : Int) = j := by rw [IntKind.wrap_i64]; omega
  go_wp2_with fail
  go_ret
  exact ⟨rfl, HZZ.out⟩
set_option maxHeartbeats 2000000 in
set_option maxRecDepth 100000 in
theorem least_4 (w : World) (m t r : Nat) (v u : Value) (l : List Lk) (ws : List Int) (z : Int) (hn : l.length < 4611686018427387904) (hw : ws.length * 8 ≤ 140737488351232) (h : ArgK w v l) (hu : ArgI w u ws) (hg : gBad m l = 0) (ht : t < m) (hc : BellP.Cnt m (BellP.ct l) t r) (hz : lengthG m l ws = some z) (he : ws[ws.length - 1]! = t) :
    Calls Try.prog 5 #[.int .i64 m, v, .int .i64 t, u] w fun e w' => e = .returned (.bool true) ∧ Below w.heap.size w w' := by
  have HL := Lib.hid (h)
  have HU := Lib.hid (hu)
  have HN := Lib.hid (fun w1 (h1 : ArgK w1 v l) (h2 : ArgI w1 u ws) => lengthOf_any w1 m v u l ws hn (by omega) h1 h2)
  rw [hz] at HN
  have HC := Lib.hid hc
  have h1 : 1 ≤ ws.length := by
    cases ws with
    | nil => cases hz
    | cons _ _ => simp
  obtain ⟨_, hx0, hxm, hfar⟩ := length_far ((gBad_zero m l).1 hg).2 ht ws z hw hz he
  obtain ⟨pu, cu, rfl, h0 | ⟨bu, ou, rfl, hbu, hsu⟩⟩ := id hu
  · subst h0; simp at h1
  have a0 : w.cell? ⟨bu, ou + (ws.length - 1), none⟩ = some (.int .i64 ws[ws.length - 1]!) := hsu (ws.length - 1) (by omega)
  have a1 : w.cell? ⟨bu, ou + 0, none⟩ = some (.int .i64 ws[0]!) := hsu 0 (by omega)
  generalize ws[ws.length - 1]! = y at a0 he
  subst he
  generalize hX : ws[0]! = x at a1 hx0 hxm hfar
  clear hX
  obtain ⟨a, rfl⟩ : ∃ a : Nat, x = a := ⟨x.toNat, by omega⟩
  rw [show (a : Int).toNat = a by omega] at hfar
  have HFar := Lib.hid hfar
  have ham : a < m := by omega
  rw [Nat.add_zero] at a1
  have HA := Lib.hid (fun w' (hb : Below w.heap.size w w') => And.intro ((hb.cell (p := ⟨bu, ou + (ws.length - 1), none⟩) hbu).trans a0) ((hb.cell (p := ⟨bu, ou, none⟩) hbu).trans a1))
  obtain ⟨j, hj⟩ : ∃ j, ws.length = j + 1 := ⟨ws.length - 1, by omega⟩
  rw [show ws.length - 1 = j by omega] at HA
  have HJ := Lib.hid hj
  have hjb : j < 17592186043904 := by omega
  clear a0 a1 hfar hx0 hxm h hu hz hc hsu hj hw h1
  have HZZ : Hid (Below w.heap.size w w) := Lib.hid (Below.refl _ _)
  go_enter Try.func5, Try.ntmps5
  go_wp2_with fail
  refine (rounded_any w).mono ?_
  rintro e w1 ⟨rfl, hb1⟩
  have HL' := Lib.hid (HL.out.below hb1)
  have HU' := Lib.hid (HU.out.below hb1)
  have HZZ' := Lib.hid (Below.two HZZ.out hb1)
  clear hb1 HZZ HL HU
  have HZZ := HZZ'
  clear HZZ'
  have HL := HL'
  clear HL'
  have HU := HU'
  clear HU'
  go_wp2_with fail
  refine (run_ok w1 m t r v l hn HL.out hg ht HC.out).mono ?_
  rintro e w2 ⟨q1, _, rfl, hV, hb2⟩
  have HL' := Lib.hid (HL.out.below hb2)
  have HU' := Lib.hid (HU.out.below hb2)
  have HZZ' := Lib.hid (Below.two HZZ.out hb2)
  have HF := Lib.hid (hV)
  clear hb2 HZZ HL HU
  have HZZ := HZZ'
  clear HZZ'
  have HL := HL'
  clear HL'
  have HU := HU'
  clear HU'
  clear hV
  go_wp2_with fail
  refine (HN.out _ HL.out HU.out).mono ?_
  rintro e w3 ⟨rfl, hb3⟩
  have HL' := Lib.hid (HL.out.below hb3)
  have HU' := Lib.hid (HU.out.below hb3)
  have HF' := Lib.hid (HF.out.keep hb3)
  have HZZ' := Lib.hid (Below.two HZZ.out hb3)
  clear hb3 HZZ HL HU HF
  have HZZ := HZZ'
  clear HZZ'
  have HL := HL'
  clear HL'
  have HU := HU'
  clear HU'
  have HF := HF'
  clear HF'
  simp only [lenN]

  obtain ⟨a0, a1⟩ := HA.out _ HZZ.out
  have f0 := HF.out.c a ham
  rw [HJ.out]
  clear HJ
  have hwj : IntKind.i64.wrap (j : Int) = j := by rw [IntKind.wrap_i64]; omega
  generalize BellP.far m (BellP.ct l) t a = f at f0 HFar
  have hle := HFar.out
  go_wp2_with fail
  go_ret
  exact ⟨rfl, HZZ.out⟩
theorem bellLeast_walk (w : World) (n to : Int) (v u : Value) (l : List Lk) (ws : List Int) (hn : l.length < 4611686018427387904) (hw : ws.length * 8 ≤ 140737488351232) (h : ArgK w v l) (hu : ArgI w u ws) :
    Calls Try.prog 5 #[.int .i64 n, v, .int .i64 to, u] w fun e w' => e = .returned (.bool true) ∧ Below w.heap.size w w' := by
  by_cases h1 : runBad n l to = 0
  · obtain ⟨m, t, rfl, rfl, hm, _, ht, hg, hr⟩ := run_nat h1
    obtain ⟨r, hc⟩ := BellP.cnt_is (BellP.ct_cost hr) ht
    cases hz : lengthG m l ws with
    | none => exact least_2 w m t r v u l ws hn hw h hu hg ht hc hz
    | some z =>
      by_cases he : ws[ws.length - 1]! = t
      · exact least_4 w m t r v u l ws z hn hw h hu hg ht hc hz he
      · exact least_3 w m t r v u l ws z hn hw h hu hg ht hc hz he
  · cases hz : lengthG n l ws with
    | none => exact least_1a w n to v u l ws hn (by omega) h hu h1 hz
    | some z => exact least_1b w n to v u l ws z hn (by omega) h hu h1 hz
end Go.Proofs.Ytjgpibchnpodjaa
