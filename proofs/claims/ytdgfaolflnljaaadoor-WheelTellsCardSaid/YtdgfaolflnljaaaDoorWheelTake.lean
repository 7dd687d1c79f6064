/-
  wheel's take: what is due in a slot, in whatever order its map tells it; what is left in it.
-/
import Derived.Test.YtdgfaolflnljaaaDoorWheelDrop
import Derived.Test.YtdgfaolflnljaaaDoorDueList
import Derived.OwnWalk
import Derived.Laws.IdiomRangeMap
import Derived.LoopN
namespace Go.Proofs.YtdgfaolflnljaaaDoor
open Go.RowKit Go.Lib WheelP Go.Maps

theorem keep_grown {a c : World} {row : Option Nat} (h : a.grownBy c row) : Keep (fun x => row = some x) a c :=
  ⟨h.os, h.tape, h.output, h.size, fun k hk hn => h.block k hk (fun e => hn e.symm)⟩
theorem OwnD.past {w : World} {base : Nat} {v : Value} {l : List Du} (h : OwnD w base v l) : ∀ q, v.ownBlock = some q → base ≤ q := fun q hq => (World.ownsRow.lt h q hq).1
theorem OwnD.stay {w w1 : World} {S : Nat → Prop} {base : Nat} {v : Value} {l : List Du} (h : OwnD w base v l) (hk : Keep S w w1) (hs : ∀ q, v.ownBlock = some q → ¬ S q) : OwnD w1 base v l := by
  obtain ⟨h1, h2⟩ := h
  refine ⟨h1, ?_⟩
  rcases h2 with h2 | ⟨g, cap, cur, hv, hg0, hg, rest⟩
  · exact Or.inl h2
  · exact Or.inr ⟨g, cap, cur, hv, hg0, by rw [hk.block g (Array.getElem?_eq_some_iff.1 hg).1 (hs g (by rw [hv]; rfl))]; exact hg, rest⟩
theorem OwnD.nil (w : World) (base : Nat) : OwnD w base (.slice none 0 0) [] := ⟨by simp [cellsD], Or.inl ⟨rfl, rfl⟩⟩

namespace WheelP
/-- What is in the map while some are still to come. -/
def gl (g : Nat → Nat) (now : Nat) (left : Lit → Bool) : Nat → Nat := fun k => if g k ≤ now ∧ left (.int .i64 (k : Int)) = false then 0 else g k
/-- What has been taken. -/
structure Tk (g : Nat → Nat) (now : Nat) (left : Lit → Bool) (L : List Du) : Prop where
  nodup : L.Nodup
  mem : ∀ p : Du, p ∈ L ↔ p.1 < 64 ∧ 0 < g p.1 ∧ g p.1 ≤ now ∧ left (.int .i64 (p.1 : Int)) = false ∧ p.2 = g p.1
/-- One that has come is to come no more. -/
def stk (left : Lit → Bool) (k : Nat) : Lit → Bool := fun z => left z && !z.sameKey (.int .i64 (k : Int))
theorem stk_at (left : Lit → Bool) (k : Nat) : stk left k (.int .i64 (k : Int)) = false := by
  unfold stk
  rw [WideAt.sameKey_self (show WideAt.IsKeyLit (.int .i64 (k : Int)) from trivial)]
  simp
theorem stk_ne (left : Lit → Bool) (k j : Nat) (h : j ≠ k) : stk left k (.int .i64 (j : Int)) = left (.int .i64 (j : Int)) := by
  unfold stk
  rw [sameKey_ne (key_ne h)]
  simp
variable {g : Nat → Nat} {now : Nat} {left : Lit → Bool} {L : List Du}
theorem gl_start (g : Nat → Nat) (now : Nat) (k : Nat) (hk : k < 64) : g k = gl g now (Maps.has (dt g)) k := by
  unfold gl
  rw [has_at g k hk]
  by_cases h : 0 < g k
  · rw [if_neg]; rintro ⟨_, h2⟩; simp [h] at h2
  · split <;> omega
theorem Tk.start (g : Nat → Nat) (now : Nat) : Tk g now (Maps.has (dt g)) [] := by
  refine ⟨List.nodup_nil, fun p => ⟨fun h => by simp at h, ?_⟩⟩
  rintro ⟨h1, h2, h3, h4, _⟩
  rw [has_at g _ h1, decide_eq_true h2] at h4
  cases h4
theorem gl_due {k : Nat} (h : g k ≤ now) (j : Nat) : upd (gl g now left) k 0 j = gl g now (stk left k) j := by
  by_cases e : j = k
  · subst e
    rw [upd_at]
    unfold gl
    rw [stk_at, if_pos ⟨h, rfl⟩]
  · rw [upd_ne _ _ _ _ e]
    unfold gl
    rw [stk_ne _ _ _ e]
theorem gl_late {k : Nat} (h : ¬ g k ≤ now) (j : Nat) : gl g now left j = gl g now (stk left k) j := by
  by_cases e : j = k
  · subst e
    unfold gl
    rw [if_neg (fun c => h c.1), if_neg (fun c => h c.1)]
  · unfold gl
    rw [stk_ne _ _ _ e]
theorem Tk.due {k : Nat} (hT : Tk g now left L) (hk : k < 64) (h0 : 0 < g k) (h : g k ≤ now) (hl : left (.int .i64 (k : Int)) = true) : Tk g now (stk left k) (L ++ [(k, g k)]) := by
  refine ⟨?_, fun p => ?_⟩
  · rw [List.nodup_append]
    refine ⟨hT.nodup, by simp, fun a ha b hb e => ?_⟩
    subst e
    obtain rfl : a = (k, g k) := by simpa using hb
    obtain ⟨_, _, _, h4, _⟩ := (hT.mem _).1 ha
    rw [hl] at h4
    cases h4
  · rw [List.mem_append, hT.mem]
    by_cases e : p.1 = k
    · constructor
      · rintro (⟨h1, h2, h3, h4, h5⟩ | h1)
        · rw [e, hl] at h4; cases h4
        · obtain rfl : p = (k, g k) := by simpa using h1
          exact ⟨hk, h0, h, stk_at _ _, rfl⟩
      · rintro ⟨h1, h2, h3, h4, h5⟩
        refine Or.inr ?_
        have : p = (k, g k) := Prod.ext e (by rw [h5, e])
        simp [this]
    · rw [stk_ne _ _ _ e]
      constructor
      · rintro (h1 | h1)
        · exact h1
        · exact absurd (by have : p = (k, g k) := by simpa using h1
                           rw [this]) e
      · exact Or.inl
theorem Tk.late {k : Nat} (hT : Tk g now left L) (h : ¬ g k ≤ now) : Tk g now (stk left k) L := by
  refine ⟨hT.nodup, fun p => ?_⟩
  rw [hT.mem]
  by_cases e : p.1 = k
  · rw [e]
    constructor
    · rintro ⟨_, _, h3, _⟩; exact absurd h3 h
    · rintro ⟨_, _, h3, _⟩; exact absurd h3 h
  · rw [stk_ne _ _ _ e]
/-- Behind a tick. -/
def rest (g : Nat → Nat) (now : Nat) : Nat → Nat := fun k => if g k ≤ now then 0 else g k
theorem gl_end (hl : ∀ kl, left kl = false) (k : Nat) : gl g now left k = rest g now k := by
  unfold gl rest
  rw [hl]
  simp
theorem nodup_len {l : List Nat} : ∀ {m : List Nat}, l.Nodup → (∀ n ∈ l, n ∈ m) → l.length ≤ m.length := by
  induction l with
  | nil => intro m _ _; simp
  | cons x r ih =>
    intro m hn hs
    have hx : x ∈ m := hs x (by simp)
    obtain ⟨h1, h2⟩ := List.nodup_cons.1 hn
    have h3 := ih (m := m.erase x) h2 (fun n hn' => (List.mem_erase_of_ne (fun e => h1 (by rw [← e]; exact hn'))).2 (hs n (by simp [hn'])))
    rw [List.length_erase_of_mem hx] at h3
    have := List.length_pos_of_mem hx
    simp only [List.length_cons]
    omega
theorem bd_len {l : List Nat} {n : Nat} (h : l.Nodup) (hb : ∀ a ∈ l, a < n) : l.length ≤ n := by
  have := nodup_len (m := List.range n) h fun a ha => List.mem_range.2 (hb a ha)
  simpa using this
theorem Tk.len (hT : Tk g now left L) : L.length ≤ 64 := by
  have hn : (L.map (·.1)).Nodup := by
    unfold List.Nodup
    rw [List.pairwise_map]
    refine List.Pairwise.imp_of_mem ?_ hT.nodup
    intro a b ha hb hne e
    obtain ⟨_, _, _, _, a5⟩ := (hT.mem a).1 ha
    obtain ⟨_, _, _, _, b5⟩ := (hT.mem b).1 hb
    exact hne (Prod.ext e (by rw [a5, b5, e]))
  have hs := bd_len (n := 64) hn fun x hx => by
    obtain ⟨p, hp, rfl⟩ := List.mem_map.1 hx
    exact ((hT.mem p).1 hp).1
  simpa using hs
end WheelP

set_option maxHeartbeats 4000000 in
set_option maxRecDepth 100000 in
theorem take_any (w : World) (b : Nat) (g : Nat → Nat) (now : Nat) (h : MapAt w b g) (hg : ∀ k, k < 64 → g k ≤ 1099511627776) :
    Calls Tryd.prog 19 #[.map (some b), .int .i64 now] w fun e w' => ∃ v L, e = .returned v ∧ OwnD w' w.heap.size v L ∧ Tk g now (fun _ => false) L ∧ MapAt w' b (rest g now) ∧ Keep (fun x => x = b) w w' := by
  have hown := h
  unfold MapAt at hown
  have hblt := h.lt
  have HG := Lib.hid hg
  clear h hg
  go_enter Tryd.func19, Tryd.ntmps19
  go_wp2_with (at_range; refine wpList_range_own _ rfl _ 41 rfl 3 3 int_law Tryd.underlying41 _ b 64 _ rfl hown ?_; intro w0 hrg0 hg0 hs0)
  go_frame
  clear hown
  go_loopw [5] (fun v5 wr => ∃ (left : Lit → Bool) (cnt : Nat) (L : List Du), wr.ranges (H := Unit) Tryd.prog 3 (plainElem Tryd.prog 3) b w.heap.size 64 (dt (gl g now left)) left cnt ∧ Hid (Keep (fun x => x = b) w wr ∧ OwnD wr (w.heap.size + 1) v5 L ∧ Tk g now left L))
    (fun _ wr => wr.rangeLeft b w.heap.size)
  case atStart =>
    refine ⟨_, _, [], by rw [← dt_congr (gl_start g now)]; exact hrg0, Lib.hid ⟨(keep_grown hg0).mono fun x hx => (nomatch hx), OwnD.nil _ _, Tk.start g now⟩⟩
  case round =>
    obtain ⟨left, cnt, L, hrg, HR⟩ := hrel
    go_wp2_with (at_next; refine wpList_next_ranges_ii _ rfl _ rfl 3 3 .i64 .i64 int_law Tryd.underlying3 Tryd.underlying3 b w.heap.size 64 _ _ _ rfl hrg ?_ ?_)
    · intro _ hl0
      go_wp2_with fail
      go_ret
      obtain ⟨hk, ho, hT⟩ := HR.out
      refine ⟨_, L, rfl, ho.down (by omega), ?_, ?_, hk⟩
      · have e : left = fun _ => false := funext hl0
        rwa [e] at hT
      · have := hrg.owns
        rw [dt_congr fun k _ => gl_end hl0 k] at this
        exact this
    · intro x c w1 cnt1 hwx hwc hlx hat hrg1 hlt hg1 hs1 hen
      obtain ⟨k, hk, hgk, hxk, hck⟩ : ∃ k : Nat, k < 64 ∧ 0 < g k ∧ x = k ∧ c = g k := by
        obtain ⟨k, h1, h2, e⟩ := (has_dt _ _).1 (has_true_of_atKey hat)
        have ex : x = k := by simpa using e
        subst ex
        have e2 := hat .nil
        rw [dt_at _ _ h1 h2] at e2
        have e3 : gl g now left k = g k := by unfold gl; rw [if_neg]; rintro ⟨_, h4⟩; rw [hlx] at h4; cases h4
        rw [e3] at e2 h2
        exact ⟨k, h1, h2, rfl, by simpa using e2.symm⟩
      subst hxk hck
      have HL := Lib.hid (And.intro hk (And.intro hgk hlx))
      have HN := Lib.hid (show Keep (fun x => x = b) w w1 ∧ OwnD w1 (w.heap.size + 1) _ L from ⟨HR.out.1.then (keep_grown hg1) fun q hq => Or.inr (by cases hq; exact Nat.le_refl _), HR.out.2.1.stay (keep_grown hg1) fun q hq e => by
        have := HR.out.2.1.past q hq
        cases e
        omega⟩)
      have hrl := hrg.left_eq
      have HT := Lib.hid HR.out.2.2
      have hkey := key_nat k (by omega)
      clear hat hlx hgk HR hrg hg1 hs1
      obtain ⟨gk, hgke⟩ : ∃ gk, gk = g k := ⟨_, rfl⟩
      rw [← hgke] at hen hwc ⊢
      have HE := Lib.hid hgke
      clear hgke
      have hlen := HT.out.len
      by_cases hd : gk ≤ now
      · have t : (gk : Int) ≤ (now : Int) := by omega
        go_wp2_with (first
          | (at_delete; refine wpList_delete_ranges _ rfl _ _ 41 3 rfl 3 int_law Tryd.underlying41 _ b w.heap.size 64 _ _ _ rfl hrg2 _ _ rfl hkey ?_; intro w3 cnt3 hrg3 hle3 hturn3; go_frame)
          | (at_builtin; refine wpList_plain rfl fun K' hK' => ?_; refine wp_append_oneD _ _ rfl (w.heap.size + 1) _ L (k, gk) w1.heap.size 1 rfl rfl (HN.out.2.keep ((Below.refl _ _).alloc (Nat.le_refl _) _)) (Box.new _ _ _ _) (by omega) (by have := hrg1.lt; simp; omega) ?_; intro v' w2 hown2 hgrow2 hpl2; refine hK' _ _ ?_; have hrg2 := (hrg1.alloc _).kept hgrow2 (fun e => by have := HN.out.2.past b e.symm; omega) (fun e => by have := HN.out.2.past _ e.symm; omega); have H2 := Lib.hid (And.intro hown2 (And.intro hgrow2 hpl2)); clear hown2 hgrow2 hpl2))
        rw [strike_twice] at hrg3
        go_roundw
        case rel =>
          have hd' : g k ≤ now := by rw [← HE.out]; exact hd
          have hT' := HT.out.due HL.out.1 HL.out.2.1 hd' HL.out.2.2
          rw [← HE.out] at hT'
          rw [dt_del, dt_congr fun j _ => gl_due hd' j] at hrg3
          refine ⟨stk left k, cnt3, L ++ [(k, gk)], hrg3, Lib.hid ⟨?_, ?_, hT'⟩⟩
          · refine Keep.trans ?_ (keep_map hturn3)
            refine (HN.out.1.trans (Keep.alloc _ _ _)).then (keep_grown H2.out.2.1) fun q hq => Or.inr ?_
            have := HN.out.2.past q hq
            omega
          · refine H2.out.1.stay (keep_map hturn3) fun q hq e => ?_
            have := H2.out.1.past q hq
            omega
        case measure => rw [hrg3.left_eq, hrl]; omega
      · have t : ¬ (gk : Int) ≤ (now : Int) := by omega
        go_wp2_with fail
        go_roundw
        case rel =>
          refine ⟨stk left k, cnt1, L, ?_, Lib.hid ⟨HN.out.1, HN.out.2, HT.out.late (by rw [← HE.out]; exact hd)⟩⟩
          rw [← dt_congr fun j _ => gl_late (by rw [← HE.out]; exact hd) j]
          exact hrg1
        case measure => rw [hrg1.left_eq, hrl]; omega

set_option maxHeartbeats 1000000 in
set_option maxRecDepth 100000 in
/-- Of a nil map nothing is taken. -/
theorem take_none (w : World) (now : Nat) :
    Calls Tryd.prog 19 #[.map none, .int .i64 now] w fun e w' => e = .returned (.slice none 0 0) ∧ Below w.heap.size w w' := by
  have hrg := run_range_nilMap (P := Tryd.prog) w 41 3 3 Tryd.underlying41
  have hnx : ∀ ty, (Instr.next (.pointer (some ⟨w.heap.size, 0, none⟩)) false ty).run Tryd.prog (w.alloc (.mapIter none 0 #[] 0)) = _ := fun ty => run_next_nilMap w ty 0 0 #[]
  go_enter Tryd.func19, Tryd.ntmps19
  go_wp2_with fail
  refine wp_loop_rounds 1 ?_
  rw [rounds_succ]
  go_wp2_with fail
  go_ret
  exact ⟨rfl, (Below.refl _ _).alloc (Nat.le_refl _) _⟩
end Go.Proofs.YtdgfaolflnljaaaDoor
