/-
  wheel's New, Set and Clear.
-/
import Derived.Test.YtdgfaolflnljaaaDoorWheelDrop
import Derived.Test.YtdgfaolflnljaaaDoorGrid
namespace Go.Proofs.YtdgfaolflnljaaaDoor
open Go.RowKit Go.Lib WheelP Go.Maps

section
variable {w w1 : World} {p now : Nat} {m : Nat → Option Nat} {f : Nat → Nat}
/-- One id put into a slot that has a map. -/
theorem Whl.put (h : Whl w p m now f) {k x b : Nat} (hx : now < x) (hx2 : x ≤ 1099511627776) (h0 : f k = 0) (hm : m (x % 64) = some b) (ht : Keep (fun x => x = b) w w1) (hn : MapAt w1 b (upd (sl f (x % 64)) k x)) : Whl w1 p m now (upd f k x) := by
  have hi : x % 64 < 64 := Nat.mod_lt _ (by omega)
  have hp := (h.mp _ b hi hm).1
  have hb := ht.block p h.lt (fun e => hp e.symm)
  have hz : ∀ j, sl f j k = 0 := fun j => by unfold sl; rw [h0]; split <;> rfl
  refine ⟨(World.cell?_of_block (w := w) (a := ⟨p, 0, none⟩) hb).trans h.c0, fun i hi => (World.cell?_of_block (w := w) (a := ⟨p, 1 + i, none⟩) hb).trans (h.cm i hi),
    fun o => (World.frozen?_of_block (w := w) (a := ⟨p, o, none⟩) hb).trans (h.fz o), Nat.lt_of_lt_of_le h.lt ht.size, fun j c hj hc => ?_, fun j hj hc l hl => ?_, h.one, fun l hl => ?_, h.nle⟩
  · refine ⟨(h.mp j c hj hc).1, ?_⟩
    by_cases e : x % 64 = j
    · subst e
      rw [hm] at hc
      cases hc
      rw [sl_upd_same _ _ _ _ rfl]
      exact hn
    · rw [sl_upd_other _ _ _ _ e (hz j)]
      refine (h.mp j c hj hc).2.frame (ht.block c (h.mp j c hj hc).2.lt fun ec => ?_)
      subst ec
      exact e (h.one _ j c hi hj hm hc)
  · have e : x % 64 ≠ j := fun e => by rw [e, hc] at hm; cases hm
    rw [sl_upd_other _ _ _ _ e (hz j)]
    exact h.no j hj hc l hl
  · by_cases e : l = k
    · rw [e, upd_at]; exact Or.inr ⟨hx, hx2⟩
    · rw [upd_ne _ _ _ _ e]; exact h.late l hl
theorem upd_upd (f : Nat → Nat) (k x l : Nat) : upd (upd f k 0) k x l = upd f k x l := by
  by_cases e : l = k
  · rw [e, upd_at, upd_at]
  · rw [upd_ne _ _ _ _ e, upd_ne _ _ _ _ e, upd_ne _ _ _ _ e]
/-- A slot's map made anew. -/
def updM (m : Nat → Option Nat) (j b : Nat) : Nat → Option Nat := fun i => if i = j then some b else m i
theorem updM_at (m : Nat → Option Nat) (j b : Nat) : updM m j b j = some b := if_pos rfl
theorem updM_ne (m : Nat → Option Nat) (j b i : Nat) (h : i ≠ j) : updM m j b i = m i := if_neg h
theorem Whl.grow (h : Whl w p m now f) {j : Nat} (hj : j < 64) (hm : m j = none) : Whl ((w.alloc (.map #[] 0)).setCell ⟨p, 1 + j, none⟩ (.map (some w.heap.size))) p (updM m j w.heap.size) now f := by
  have A := h.below ((Below.refl w.heap.size w).alloc (Nat.le_refl _) (.map #[] 0))
  have hsz : (w.alloc (.map #[] 0)).heap.size = w.heap.size + 1 := by simp
  refine ⟨?_, fun i hi => ?_, fun o => (World.frozen?_setCell _ _ _ _).trans (A.fz o), by simpa [World.setCell] using A.lt, fun i b hi hb => ?_, fun i hi hb k hk => ?_, fun i i' b hi hi' hb hb' => ?_, h.late, h.nle⟩
  · rw [set_if _ p 0 (1 + j) _ _ A.c0, if_neg (by omega)]
  · rw [set_if _ p (1 + i) (1 + j) _ _ (A.cm i hi)]
    by_cases e : i = j
    · subst e; rw [if_pos rfl, updM_at]
    · rw [if_neg (by omega), updM_ne _ _ _ _ e]
  · by_cases e : i = j
    · subst e
      rw [updM_at] at hb
      cases hb
      refine ⟨fun c => ?_, (MapAt.made w _ (h.no i hi hm)).frame (Below.heap_setCell _ _ _ _ fun c => ?_)⟩
      · have := h.lt; omega
      · have := h.lt; simp at c; omega
    · rw [updM_ne _ _ _ _ e] at hb
      refine ⟨(A.mp i b hi hb).1, (A.mp i b hi hb).2.frame (Below.heap_setCell _ _ _ _ (A.mp i b hi hb).1)⟩
  · by_cases e : i = j
    · subst e; rw [updM_at] at hb; cases hb
    · rw [updM_ne _ _ _ _ e] at hb; exact h.no i hi hb k hk
  · by_cases e : i = j
    · by_cases e' : i' = j
      · omega
      · subst e
        rw [updM_at] at hb
        cases hb
        rw [updM_ne _ _ _ _ e'] at hb'
        have := (h.mp i' _ hi' hb').2.lt
        omega
    · rw [updM_ne _ _ _ _ e] at hb
      by_cases e' : i' = j
      · subst e'
        rw [updM_at] at hb'
        cases hb'
        have := (h.mp i _ hi hb).2.lt
        omega
      · rw [updM_ne _ _ _ _ e'] at hb'
        exact h.one i i' b hi hi' hb hb'
end
theorem keep_grow (w : World) (p j : Nat) (m : Nat → Option Nat) : Keep (InW p m) w ((w.alloc (.map #[] 0)).setCell ⟨p, 1 + j, none⟩ (.map (some w.heap.size))) :=
  (Keep.alloc _ _ _).trans (Keep.setCell _ _ _ _ _ (Or.inl rfl))

theorem eql_none (w : World) : (binOp BinOp.eql 41 (.map none) (.map none)).run Tryd.prog w = .ok (.bool true) w := by kernel_rfl
theorem eql_some (w : World) (b : Nat) : (binOp BinOp.eql 41 (.map (some b)) (.map none)).run Tryd.prog w = .ok (.bool false) w := by kernel_rfl

set_option maxHeartbeats 1000000 in
set_option maxRecDepth 100000 in
theorem wSet_bad (w : World) (p : Nat) (m : Nat → Option Nat) (now : Nat) (f : Nat → Nat) (h : Whl w p m now f) (i x : Int) (hi : i < 0 ∨ 64 ≤ i ∨ x ≤ now ∨ 1099511627776 < x) :
    Calls Tryd.prog 9 #[.pointer (some ⟨p, 0, none⟩), .int .i64 i, .int .i64 x] w fun e w' => e = .returned (.iface 27 (.int .i64 1)) ∧ w = w' := by
  have c0 := h.c0
  clear h
  by_cases t : i < 0 ∨ 64 ≤ i
  · have HC := Lib.hid (wCheck_bad w i t)
    clear hi t
    go_enter Tryd.func9, Tryd.ntmps9
    go_wp2_with fail
    refine HC.out.mono ?_
    rintro e w1 ⟨rfl, rfl⟩
    go_wp2_with fail
    go_ret
    exact ⟨rfl, rfl⟩
  · obtain ⟨k, rfl⟩ : ∃ k : Nat, i = k := ⟨i.toNat, by omega⟩
    have HC := Lib.hid (wCheck_ok w k (by omega))
    have h2 : x ≤ now ∨ 1099511627776 < x := by omega
    clear hi t
    by_cases t : x ≤ now
    · clear h2
      go_enter Tryd.func9, Tryd.ntmps9
      go_wp2_with fail
      refine HC.out.mono ?_
      rintro e w1 ⟨rfl, rfl⟩
      go_wp2_with fail
      go_ret
      exact ⟨rfl, rfl⟩
    · have t2 : x > 1099511627776 := by omega
      clear h2
      go_enter Tryd.func9, Tryd.ntmps9
      go_wp2_with fail
      refine HC.out.mono ?_
      rintro e w1 ⟨rfl, rfl⟩
      go_wp2_with fail
      go_ret
      exact ⟨rfl, rfl⟩

set_option maxHeartbeats 2000000 in
set_option maxRecDepth 100000 in
theorem wSet_ok (w : World) (p : Nat) (m : Nat → Option Nat) (now : Nat) (f : Nat → Nat) (h : Whl w p m now f) (k x : Nat) (hk : k < 64) (hx : now < x) (hx2 : x ≤ 1099511627776) :
    Calls Tryd.prog 9 #[.pointer (some ⟨p, 0, none⟩), .int .i64 k, .int .i64 x] w fun e w' => e = .returned .nilIface ∧ ∃ m', Whl w' p m' now (upd f k x) ∧ Keep (InW p m) w w' ∧ ∀ b, InW p m' b → InW p m b ∨ w.heap.size ≤ b := by
  have c0 := h.c0
  have HC := Lib.hid (wCheck_ok w k hk)
  have HD := Lib.hid (wDrop_any w p m now f h k hk)
  have hkey := key_nat k (by omega)
  have hwx := wf_nat x hx2
  have hk2 := Lib.hid (And.intro hk (And.intro hx hx2))
  have t : ¬ (x : Int) ≤ (now : Int) := by omega
  have t2 : ¬ (x : Int) > 1099511627776 := by omega
  have tm : Int.tmod (x : Int) 64 = ((x % 64 : Nat) : Int) := by
    rw [Int.tmod_eq_emod_of_nonneg (by omega)]; omega
  clear h hk hx hx2
  go_enter Tryd.func9, Tryd.ntmps9
  go_wp2_with fail
  refine HC.out.mono ?_
  rintro e w1 ⟨rfl, rfl⟩
  go_wp2_with fail
  refine HD.out.mono ?_
  rintro e w1 ⟨rfl, h1, hkp⟩
  have hj : x % 64 < 64 := Nat.mod_lt _ (by omega)
  have c1 := h1.cm (x % 64) hj
  have HW := Lib.hid h1
  have HK := Lib.hid hkp
  clear h1 hkp c0 HC HD
  obtain ⟨j, hje⟩ : ∃ j, j = x % 64 := ⟨_, rfl⟩
  rw [← hje] at tm hj c1
  have HJ := Lib.hid hje
  clear hje
  have hj2 : (j : Int) < 64 := by omega
  cases hm : m j with
  | some b =>
    rw [hm] at c1
    have hown := (HW.out.mp j b hj hm).2
    unfold MapAt at hown
    have he := eql_some w1 b
    go_wp2_with (at_mapUpdate; refine wpList_mapUpdate_in _ rfl _ _ _ 41 rfl 3 3 int_law Tryd.underlying41 _ b 64 _ rfl hown (by unfold maxLen; omega) _ _ _ rfl rfl hkey _ [] (plainElem_int Tryd.underlying3 hwx) ?_; intro w2 hown2 hturn2)
    go_ret
    have e := HJ.out
    subst e
    refine ⟨rfl, m, ?_, HK.out.trans ((keep_map hturn2).mono fun c hc => Or.inr ⟨_, hj, by rw [hm, hc]⟩), fun c hc => Or.inl hc⟩
    have h2 := HW.out.put (k := k) hk2.out.2.1 hk2.out.2.2 (upd_at _ _ _) hm (keep_map hturn2) (owns_put hown2 hk2.out.1 (by have := hk2.out.2.1; omega))
    exact h2.congr fun l _ => upd_upd f k x l
  | none =>
    rw [hm] at c1
    have he := eql_none w1
    have hg := HW.out.grow hj hm
    have hmj : updM m j w1.heap.size j = some w1.heap.size := updM_at _ _ _
    have c2 := hg.cm j hj
    rw [hmj] at c2
    have hf := (HW.out.below ((Below.refl w1.heap.size w1).alloc (Nat.le_refl _) (.map #[] 0))).fz (1 + j)
    have ca := (HW.out.below ((Below.refl w1.heap.size w1).alloc (Nat.le_refl _) (.map #[] 0))).cm j hj
    rw [hm] at ca
    have hmm := @run_makeMap Tryd.prog
    have hown := (hg.mp j _ hj hmj).2
    unfold MapAt at hown
    have HG := Lib.hid hg
    have HM := Lib.hid hmj
    clear hg hmj
    go_wp2_with (at_mapUpdate; refine wpList_mapUpdate_in _ rfl _ _ _ 41 rfl 3 3 int_law Tryd.underlying41 _ w1.heap.size 64 _ rfl hown (by unfold maxLen; omega) _ _ _ rfl rfl hkey _ [] (plainElem_int Tryd.underlying3 hwx) ?_; intro w2 hown2 hturn2)
    go_ret
    have e := HJ.out
    subst e
    have hs := HK.out.size
    have hsz : ((w1.alloc (.map #[] 0)).setCell ⟨p, 1 + x % 64, none⟩ (.map (some w1.heap.size))).heap.size = w1.heap.size + 1 := by simp [World.setCell]
    refine ⟨rfl, updM m (x % 64) w1.heap.size, ?_, (HK.out.trans (keep_grow w1 p (x % 64) m)).then (keep_map hturn2) fun c hc => Or.inr (by rw [hc]; exact hs), fun c hc => ?_⟩
    · have h2 := HG.out.put (k := k) hk2.out.2.1 hk2.out.2.2 (upd_at _ _ _) HM.out (keep_map hturn2) (owns_put hown2 hk2.out.1 (by have := hk2.out.2.1; omega))
      exact h2.congr fun l _ => upd_upd f k x l
    · rcases hc with rfl | ⟨i, hi, hc⟩
      · exact Or.inl (Or.inl rfl)
      · by_cases ei : i = x % 64
        · rw [ei, updM_at] at hc
          cases hc
          exact Or.inr hs
        · rw [updM_ne _ _ _ _ ei] at hc
          exact Or.inl (Or.inr ⟨i, hi, hc⟩)

def cells0 : List Value := .int .i64 0 :: List.replicate 64 (.map none)
theorem zero_wheel (w : World) : (zeroValue 44).run Tryd.prog w = .ok (.agg cells0.toArray) w := by kernel_rfl
theorem box_wheel (w : World) : (Instr.box 44 (.agg cells0.toArray)).run Tryd.prog w = .ok (.pointer (some ⟨w.heap.size, 0, none⟩)) (w.alloc (.cells cells0.toArray 44)) := by
  unfold cells0
  kernel_rfl
theorem Whl.made (w : World) : Whl (w.alloc (.cells cells0.toArray 44)) w.heap.size (fun _ => none) 0 (fun _ => 0) := by
  refine ⟨by simp [cells0], fun i hi => ?_, fun o => ?_, by simp, fun i b hi hm => (nomatch hm), fun i hi _ k hk => (by unfold sl; split <;> rfl), fun i j b hi hj hm => (nomatch hm), fun k hk => Or.inl rfl, by omega⟩
  · have e : cells0[1 + i]? = some (.map none) := by
      unfold cells0
      rw [show 1 + i = i + 1 by omega, List.getElem?_cons_succ, List.getElem?_replicate, if_pos hi]
    simpa using e
  · rw [frozen?_alloc_cells]
    exact frozen_past _ _ (Nat.le_refl _)

set_option maxHeartbeats 1000000 in
set_option maxRecDepth 100000 in
/-- A wheel made anew. -/
theorem wNew_any (w : World) :
    Calls Tryd.prog 6 #[] w fun e w' => e = .returned (.pointer (some ⟨w.heap.size, 0, none⟩)) ∧ Whl w' w.heap.size (fun _ => none) 0 (fun _ => 0) ∧ Below w.heap.size w w' := by
  have hz := zero_wheel w
  have hb := box_wheel w
  have HW := Lib.hid (Whl.made w)
  generalize cells0.toArray = C at hz hb HW
  go_enter Tryd.func6, Tryd.ntmps6
  go_wp2_with fail
  go_ret
  exact ⟨rfl, HW.out, (Below.refl _ _).alloc (Nat.le_refl _) _⟩
end Go.Proofs.YtdgfaolflnljaaaDoor
