/-
  The acts on a rib: New, Learn, Age, Lose, Now; what each leaves.
-/
import Derived.Test.YtoocmogmocapoaaDoorRibLearn
import Derived.Test.YtoocmogmocapoaaDoorPrefErr
namespace Go.Proofs.YtoocmogmocapoaaDoor
open Go.RowKit Go.Lib RibP

namespace RibP
/-- A rib's time and its routes. -/
abbrev St := Int × List Rt
def okT (now t : Int) : Prop := now ≤ t ∧ t ≤ 1099511627776
def near (f : Int) : Prop := 0 ≤ f ∧ f < 8
instance (now t : Int) : Decidable (okT now t) := by unfold okT; infer_instance
instance (f : Int) : Decidable (near f) := by unfold near; infer_instance
def ageE (s : St) (t : Int) : Int := if okT s.1 t then 0 else 1
def ageS (s : St) (t : Int) : St := if okT s.1 t then (t, age t s.2) else s
def nearE (s : St) (f t : Int) : Int := if okT s.1 t ∧ near f then 0 else 1
def loseS (s : St) (f t : Int) : St := if okT s.1 t ∧ near f then (t, lose f t (age t s.2)) else s
def metE (m : Int) : Int := if 1 ≤ m ∧ m ≤ 16 then 0 else 1
def learnE (s : St) (f : Int) (n : Nt) (m t : Int) : Int :=
  if nearE s f t ≠ 0 then 1 else if PrefP.chk n.1 n.2 ≠ 0 then PrefP.chk n.1 n.2 else if metE m ≠ 0 then 1 else if full ⟨⟨f, n, m⟩, t⟩ (age t s.2) then 4 else 0
def learnS (s : St) (f : Int) (n : Nt) (m t : Int) : St := if learnE s f n m t = 0 then (t, learn ⟨⟨f, n, m⟩, t⟩ (age t s.2)) else s
theorem learnE_zero {s : St} {f : Int} {n : Nt} {m t : Int} (h : learnE s f n m t = 0) : (okT s.1 t ∧ near f) ∧ PrefP.chk n.1 n.2 = 0 ∧ (1 ≤ m ∧ m ≤ 16) ∧ ¬ full ⟨⟨f, n, m⟩, t⟩ (age t s.2) := by
  unfold learnE at h
  by_cases h1 : okT s.1 t ∧ near f
  · rw [if_neg (by unfold nearE; rw [if_pos h1]; simp)] at h
    by_cases h2 : PrefP.chk n.1 n.2 = 0
    · rw [if_neg (by simp [h2])] at h
      by_cases h3 : 1 ≤ m ∧ m ≤ 16
      · rw [if_neg (by unfold metE; rw [if_pos h3]; simp)] at h
        by_cases h4 : full ⟨⟨f, n, m⟩, t⟩ (age t s.2)
        · rw [if_pos h4] at h; simp at h
        · exact ⟨h1, h2, h3, h4⟩
      · rw [if_pos (by unfold metE; rw [if_neg h3]; simp)] at h; simp at h
    · rw [if_pos h2] at h; exact absurd h h2
  · rw [if_pos (by unfold nearE; rw [if_neg h1]; simp)] at h; simp at h
/-- A right rib. -/
structure Rib (s : St) : Prop where
  fine : Fine s.1 s.2
  n0 : 0 ≤ s.1
  n1 : s.1 ≤ 1099511627776
theorem Rib.age {s : St} (h : Rib s) (t : Int) : Rib (ageS s t) := by
  unfold ageS
  split
  · rename_i h1
    have := h.n0
    exact ⟨h.fine.age h1.1, by show 0 ≤ t; have := h1.1; omega, h1.2⟩
  · exact h
theorem Rib.lose {s : St} (h : Rib s) (f t : Int) : Rib (loseS s f t) := by
  unfold loseS
  split
  · rename_i h1
    have h2 : 0 ≤ t := by have := h.n0; have := h1.1.1; omega
    exact ⟨(h.fine.age h1.1.1).lose f h2, h2, h1.1.2⟩
  · exact h
theorem Rib.learn {s : St} (h : Rib s) (f : Int) (n : Nt) (m t : Int) (hn : n.1 < 4294967296) : Rib (learnS s f n m t) := by
  unfold learnS
  split
  · rename_i h1
    obtain ⟨⟨h2, h3⟩, h4, h5, h6⟩ := learnE_zero h1
    have h7 : 0 ≤ t := by have := h.n0; have := h2.1; omega
    exact ⟨(h.fine.age h2.1).learn ⟨h3.1, h3.2, hn, h5.1, h5.2, h7, Int.le_refl _⟩ h6, h7, h2.2⟩
  · exact h
theorem Rib.new : Rib (0, []) := ⟨Fine.nil _, Int.le_refl _, by decide⟩
end RibP

/-- What an act leaves: the rib at s, in its block p; all else as it was. -/
def RStp (w w' : World) (p : Nat) (v : Value) (s : St) : Prop := ∃ v', Rbd w' p v' s.1 s.2 ∧ (v' = v ∨ ∀ g, v'.ownBlock = some g → w.heap.size ≤ g) ∧ Keep (fun x => x = p) w w'
theorem Rbd.rib {w : World} {p : Nat} {v : Value} {now : Int} {L : List Rt} (h : Rbd w p v now L) : Rib (now, L) := ⟨h.good, h.n0, h.n1⟩
theorem Rbd.below {w w1 : World} {p : Nat} {v : Value} {now : Int} {L : List Rt} (h : Rbd w p v now L) (hb : Below w.heap.size w w1) : Rbd w1 p v now L := ⟨h.box.kept hb, h.arg.below hb, h.good, h.n0, h.n1, fun g hg => Nat.lt_of_lt_of_le (h.lt g hg) hb.size⟩
theorem RStp.same {w w1 : World} {p : Nat} {v : Value} {s : St} (h : Rbd w p v s.1 s.2) (hb : Below w.heap.size w w1) : RStp w w1 p v s := ⟨v, h.below hb, Or.inl rfl, Keep.of hb⟩
/-- The rib's block written anew. -/
theorem RStp.put {w w1 : World} {p : Nat} {v v' : Value} {now : Int} {s : St} {L : List Rt} (h : Rbd w p v now L) (hb : Below w.heap.size w w1) (ha : LArg w1 v' s.2) (hv : ∀ g, v'.ownBlock = some g → w.heap.size ≤ g ∧ g < w1.heap.size) (hr : Rib s) :
    RStp w ((w1.setCell ⟨p, 0, none⟩ (.int .i64 s.1)).setCell ⟨p, 1, none⟩ v') p v s := by
  have hp := h.box.lt
  have k1 : Keep (fun x => x = p) w1 ((w1.setCell ⟨p, 0, none⟩ (.int .i64 s.1)).setCell ⟨p, 1, none⟩ v') := (Keep.setCell (fun x => x = p) w1 p 0 _ rfl).trans (Keep.setCell (fun x => x = p) _ p 1 _ rfl)
  exact ⟨v', ⟨(h.box.kept hb).set _ _, ha.keep k1 fun g hg e => by have := hv g hg; omega, hr.fine, hr.n0, hr.n1, fun g hg => Nat.lt_of_lt_of_le (hv g hg).2 k1.size⟩, Or.inr fun g hg => (hv g hg).1, (Keep.of hb).trans k1⟩

section
variable {w : World} {p : Nat} {v : Value} {now : Int} {L : List Rt}
set_option maxHeartbeats 400000 in
set_option maxRecDepth 100000 in
theorem checkTime_any (h : Box w p (.int .i64 now) v) (t : Int) : Calls Tryd.prog 28 #[.pointer (some ⟨p, 0, none⟩), .int .i64 t] w fun r w' => r = .returned (errV (ageE (now, L) t)) ∧ Below w.heap.size w w' := by
  have c0 := h.c0
  clear h
  by_cases h1 : now ≤ t
  · by_cases h2 : t ≤ 1099511627776
    · have e : errV (ageE (now, L) t) = .nilIface := by unfold ageE; rw [if_pos ⟨h1, h2⟩]; rfl
      rw [e]
      clear e
      have n1 : ¬ t < now := by omega
      have n2 : ¬ 1099511627776 < t := by omega
      go_enter Tryd.func28, Tryd.ntmps28
      go_wp2_with fail
      go_ret
      exact ⟨rfl, Below.refl _ _⟩
    · have e : errV (ageE (now, L) t) = .iface 30 (.int .i64 1) := by unfold ageE; rw [if_neg (fun h => h2 h.2)]; rfl
      rw [e]
      clear e
      have n1 : ¬ t < now := by omega
      have n2 : 1099511627776 < t := by omega
      go_enter Tryd.func28, Tryd.ntmps28
      go_wp2_with fail
      go_ret
      exact ⟨rfl, Below.refl _ _⟩
  · have e : errV (ageE (now, L) t) = .iface 30 (.int .i64 1) := by unfold ageE; rw [if_neg (fun h => h1 h.1)]; rfl
    rw [e]
    clear e
    have n1 : t < now := by omega
    go_enter Tryd.func28, Tryd.ntmps28
    go_wp2_with fail
    go_ret
    exact ⟨rfl, Below.refl _ _⟩
set_option maxHeartbeats 400000 in
set_option maxRecDepth 100000 in
theorem checkFrom_any (h : Box w p (.int .i64 now) v) (f t : Int) : Calls Tryd.prog 22 #[.pointer (some ⟨p, 0, none⟩), .int .i64 f, .int .i64 t] w fun r w' => r = .returned (errV (nearE (now, L) f t)) ∧ Below w.heap.size w w' := by
  have HC := checkTime_any (L := L) h t
  clear h
  by_cases h1 : okT now t
  · have e0 : errV (ageE (now, L) t) = .nilIface := by unfold ageE; rw [if_pos h1]; rfl
    rw [e0] at HC
    have H := Lib.hid HC
    by_cases h2 : 0 ≤ f
    · by_cases h3 : f < 8
      · have e : errV (nearE (now, L) f t) = .nilIface := by unfold nearE; rw [if_pos ⟨h1, h2, h3⟩]; rfl
        rw [e]
        have n1 : ¬ f < 0 := by omega
        have n2 : ¬ 8 ≤ f := by omega
        clear e e0 h1 HC
        go_enter Tryd.func22, Tryd.ntmps22
        go_wp2_with fail
        refine H.out.mono ?_
        rintro r w1 ⟨rfl, hb⟩
        go_wp2_with fail
        go_ret
        exact ⟨rfl, hb⟩
      · have e : errV (nearE (now, L) f t) = .iface 30 (.int .i64 1) := by unfold nearE; rw [if_neg (fun h => h3 h.2.2)]; rfl
        rw [e]
        have n1 : ¬ f < 0 := by omega
        have n2 : 8 ≤ f := by omega
        clear e e0 h1 HC
        go_enter Tryd.func22, Tryd.ntmps22
        go_wp2_with fail
        refine H.out.mono ?_
        rintro r w1 ⟨rfl, hb⟩
        go_wp2_with fail
        go_ret
        exact ⟨rfl, hb⟩
    · have e : errV (nearE (now, L) f t) = .iface 30 (.int .i64 1) := by unfold nearE; rw [if_neg (fun h => h2 h.2.1)]; rfl
      rw [e]
      have n1 : f < 0 := by omega
      clear e e0 h1 HC
      go_enter Tryd.func22, Tryd.ntmps22
      go_wp2_with fail
      refine H.out.mono ?_
      rintro r w1 ⟨rfl, hb⟩
      go_wp2_with fail
      go_ret
      exact ⟨rfl, hb⟩
  · have e0 : errV (ageE (now, L) t) = .iface 30 (.int .i64 1) := by unfold ageE; rw [if_neg h1]; rfl
    rw [e0] at HC
    have H := Lib.hid HC
    have e : errV (nearE (now, L) f t) = .iface 30 (.int .i64 1) := by unfold nearE; rw [if_neg (fun h => h1 h.1)]; rfl
    rw [e]
    clear e e0 h1 HC
    go_enter Tryd.func22, Tryd.ntmps22
    go_wp2_with fail
    refine H.out.mono ?_
    rintro r w1 ⟨rfl, hb⟩
    go_wp2_with fail
    go_ret
    exact ⟨rfl, hb⟩
set_option maxHeartbeats 400000 in
set_option maxRecDepth 100000 in
theorem checkMetric_any (w : World) (m : Int) : Calls Tryd.prog 24 #[.int .i64 m] w fun r w' => r = .returned (errV (metE m)) ∧ Below w.heap.size w w' := by
  by_cases h1 : 1 ≤ m
  · by_cases h2 : m ≤ 16
    · have e : errV (metE m) = .nilIface := by unfold metE; rw [if_pos ⟨h1, h2⟩]; rfl
      rw [e]
      clear e
      have n1 : ¬ m < 1 := by omega
      have n2 : ¬ 16 < m := by omega
      go_enter Tryd.func24, Tryd.ntmps24
      go_wp2_with fail
      go_ret
      exact ⟨rfl, Below.refl _ _⟩
    · have e : errV (metE m) = .iface 30 (.int .i64 1) := by unfold metE; rw [if_neg (fun h => h2 h.2)]; rfl
      rw [e]
      clear e
      have n1 : ¬ m < 1 := by omega
      have n2 : 16 < m := by omega
      go_enter Tryd.func24, Tryd.ntmps24
      go_wp2_with fail
      go_ret
      exact ⟨rfl, Below.refl _ _⟩
  · have e : errV (metE m) = .iface 30 (.int .i64 1) := by unfold metE; rw [if_neg (fun h => h1 h.1)]; rfl
    rw [e]
    clear e
    have n1 : m < 1 := by omega
    go_enter Tryd.func24, Tryd.ntmps24
    go_wp2_with fail
    go_ret
    exact ⟨rfl, Below.refl _ _⟩
set_option maxHeartbeats 400000 in
set_option maxRecDepth 100000 in
theorem rNew_any (w : World) : Calls Tryd.prog 5 #[] w fun r w' => r = .returned (.pointer (some ⟨w.heap.size, 0, none⟩)) ∧ Rbd w' w.heap.size (.slice none 0 0) 0 [] ∧ Below w.heap.size w w' := by
  have HB := Lib.hid (Box.new w (.int .i64 0) (.slice none 0 0) 56)
  go_enter Tryd.func5, Tryd.ntmps5
  go_wp2_with fail
  go_ret
  exact ⟨rfl, ⟨HB.out, LArg.nil _, Fine.nil _, Int.le_refl _, by decide, fun g hg => by cases hg⟩, (Below.refl _ _).alloc (Nat.le_refl _) _⟩
set_option maxHeartbeats 400000 in
set_option maxRecDepth 100000 in
theorem rNow_any (h : Rbd w p v now L) : Calls Tryd.prog 17 #[.pointer (some ⟨p, 0, none⟩)] w fun r w' => r = .returned (.int .i64 now) ∧ w = w' := by
  have c0 := h.box.c0
  clear h
  go_enter Tryd.func17, Tryd.ntmps17
  go_wp2_with fail
  go_ret
  exact ⟨rfl, rfl⟩
set_option maxHeartbeats 1000000 in
set_option maxRecDepth 100000 in
theorem rAge_any (h : Rbd w p v now L) (t : Int) : Calls Tryd.prog 12 #[.pointer (some ⟨p, 0, none⟩), .int .i64 t] w fun r w' => r = .returned (errV (ageE (now, L) t)) ∧ RStp w w' p v (ageS (now, L) t) := by
  have HC := checkTime_any (L := L) h.box t
  have H := Lib.hid h
  by_cases h1 : okT now t
  · have e0 : errV (ageE (now, L) t) = .nilIface := by unfold ageE; rw [if_pos h1]; rfl
    have es := Lib.hid (show ageS (now, L) t = (t, age t L) from if_pos h1)
    rw [e0] at HC ⊢
    have HK := Lib.hid HC
    have HT := Lib.hid h1
    clear h HC e0 h1
    go_enter Tryd.func12, Tryd.ntmps12
    go_wp2_with fail
    refine HK.out.mono ?_
    rintro r w1 ⟨rfl, hb⟩
    have H1 := H.out.below hb
    have HA := Lib.hid (aged_any H1 t HT.out.1 HT.out.2)
    have HB := Lib.hid hb
    clear H1 hb
    go_wp2_with fail
    refine HA.out.mono ?_
    rintro r w2 ⟨v2, rfl, ho, hb2⟩
    obtain ⟨q, c, rfl, _, _⟩ := ho.arg
    have HO := Lib.hid ho
    have HB2 := Lib.hid (Below.two HB.out hb2)
    have HB1 := Lib.hid hb2
    have b2 := H.out.box.kept HB2.out
    obtain ⟨blt, c0, c1, f0, f1⟩ := b2
    clear ho hb2
    go_wp2_with fail
    go_ret
    rw [es.out]
    exact ⟨rfl, RStp.put (s := (t, age t L)) H.out HB2.out HO.out.arg (fun g hg => ⟨Nat.le_trans HB.out.size (HO.out.lt g hg).1, (HO.out.lt g hg).2⟩) (by have := H.out.rib.age t; rwa [es.out] at this)⟩
  · have e0 : errV (ageE (now, L) t) = .iface 30 (.int .i64 1) := by unfold ageE; rw [if_neg h1]; rfl
    have es := Lib.hid (show ageS (now, L) t = (now, L) from if_neg h1)
    rw [e0] at HC ⊢
    have HK := Lib.hid HC
    clear h HC e0 h1
    go_enter Tryd.func12, Tryd.ntmps12
    go_wp2_with fail
    refine HK.out.mono ?_
    rintro r w1 ⟨rfl, hb⟩
    go_wp2_with fail
    go_ret
    rw [es.out]
    exact ⟨rfl, RStp.same H.out hb⟩
end
end Go.Proofs.YtoocmogmocapoaaDoor
