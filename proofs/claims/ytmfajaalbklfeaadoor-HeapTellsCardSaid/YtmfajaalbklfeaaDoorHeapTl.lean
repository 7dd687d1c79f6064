/-
  A HEAP AND WHAT IS THOUGHT OF IT: two rows beside a heap that tell which things have a key, and which one; the least of them, found by looking at all; how many they are.
-/
import Derived.Test.YtmfajaalbklfeaaDoorHeapUse
import Derived.Test.YtmfajaalbklfeaaDoorHeapKey
import Derived.Test.YtmfajaalbklfeaaDoorBoolArg
namespace Go.Proofs.YtmfajaalbklfeaaDoor
open Go.RowKit Go.Lib HeapP

def setH (hs : Nat → Bool) (a : Nat) (x : Bool) : Nat → Bool := fun i => if i = a then x else hs i
theorem setH_at (hs : Nat → Bool) (a : Nat) (x : Bool) : setH hs a x a = x := if_pos rfl
theorem setH_ne (hs : Nat → Bool) (a b : Nat) (x : Bool) (h : b ≠ a) : setH hs a x b = hs b := if_neg h
/-- Those that have a key. -/
def memH (n : Nat) (hs : Nat → Bool) : Nat → Prop := fun b => b < n ∧ hs b = true

/-- A heap at q whose things hs tells of, and their keys ky; the rows g and c of which the one holds hs', the other ky'. -/
structure Tl (w0 w : World) (q n g c : Nat) (hs : Nat → Bool) (ky : Nat → Int) (hs' : Nat → Bool) (ky' : Nat → Int) : Prop where
  ex : ∃ S, HB w S q n ky (memH n hs) ∧ ¬ S g ∧ ¬ S c ∧ ∀ b, S b → w0.heap.size ≤ b
  vb : VecB w g n hs'
  vk : Vec w c n ky'
  ne : g ≠ c
  lg : w0.heap.size ≤ g
  lc : w0.heap.size ≤ c
  bel : Below w0.heap.size w0 w
section
variable {w0 w w1 : World} {q n g c : Nat} {hs hs' : Nat → Bool} {ky ky' : Nat → Int}
theorem Tl.below (h : Tl w0 w q n g c hs ky hs' ky') (hb : Below w.heap.size w w1) : Tl w0 w1 q n g c hs ky hs' ky' := by
  obtain ⟨S, h1, h2⟩ := h.ex
  exact ⟨⟨S, h1.below hb, h2⟩, h.vb.keep hb, h.vk.keep hb, h.ne, h.lg, h.lc, h.bel.trans (hb.mono h.bel.size)⟩
theorem Tl.turned {M : Nat → Prop} {S : Nat → Prop} {ky2 : Nat → Int} {hs2 : Nat → Bool} (h : Tl w0 w q n g c hs ky hs' ky') (hg : ¬ S g) (hc : ¬ S c) (hS : ∀ b, S b → w0.heap.size ≤ b) (ht : Turned w w1 S q n ky2 M) (hM : ∀ b, M b ↔ memH n hs2 b) : Tl w0 w1 q n g c hs2 ky2 hs' ky' := by
  obtain ⟨S', t1, t2, t3⟩ := ht
  refine ⟨⟨S', t1.congr (fun _ _ => rfl) hM, fun e => ?_, fun e => ?_, fun b e => ?_⟩, h.vb.stay t2 hg, h.vk.stay t2 hc, h.ne, h.lg, h.lc, h.bel.trans (t2.below hS h.bel.size)⟩
  · rcases t3 g e with d | d
    · exact hg d
    · have := h.vb.lt; omega
  · rcases t3 c e with d | d
    · exact hc d
    · have := h.vk.lt; omega
  · rcases t3 b e with d | d
    · exact hS b d
    · exact Nat.le_trans h.bel.size d
/-- What is thought of one thing put anew. -/
theorem Tl.setB (h : Tl w0 w q n g c hs ky hs' ky') (a : Nat) (x : Bool) : Tl w0 (w.setCell ⟨g, a, none⟩ (.bool x)) q n g c hs ky (setH hs' a x) ky' := by
  obtain ⟨S, h1, h2, h3, h4⟩ := h.ex
  have hk : Keep (fun b => b = g) w (w.setCell ⟨g, a, none⟩ (.bool x)) := Keep.setCell _ w g a _ rfl
  exact ⟨⟨S, h1.keep hk (fun b e d => h2 (d ▸ e)), h2, h3, h4⟩, h.vb.set a x, h.vk.past g a h.ne.symm _, h.ne, h.lg, h.lc, h.bel.trans (hk.below (fun b e => e ▸ h.lg) h.bel.size)⟩
theorem Tl.setK (h : Tl w0 w q n g c hs ky hs' ky') (a : Nat) (x : Int) : Tl w0 (w.setCell ⟨c, a, none⟩ (.int .i64 x)) q n g c hs ky hs' (putK ky' a x) := by
  obtain ⟨S, h1, h2, h3, h4⟩ := h.ex
  have hk : Keep (fun b => b = c) w (w.setCell ⟨c, a, none⟩ (.int .i64 x)) := Keep.setCell _ w c a _ rfl
  exact ⟨⟨S, h1.keep hk (fun b e d => h3 (d ▸ e)), h2, h3, h4⟩, h.vb.past c a h.ne _, h.vk.set a x, h.ne, h.lg, h.lc, h.bel.trans (hk.below (fun b e => e ▸ h.lc) h.bel.size)⟩
end
section
variable {w0 w : World} {q n g c : Nat} {hs hs' : Nat → Bool} {ky ky' : Nat → Int} (h : Tl w0 w q n g c hs ky hs' ky')
include h
theorem Tl.put (a : Nat) (x : Int) (ha : a < n) :
    Calls Tryd.prog 9 #[.pointer (some ⟨q, 0, none⟩), .int .i64 a, .int .i64 x] w fun e w' => e = .returned .nilIface ∧ Tl w0 w' q n g c (setH hs a true) (putK ky a x) hs' ky' := by
  obtain ⟨S, h1, h2, h3, h4⟩ := h.ex
  refine (put_hb w S q n ky _ h1 a a x ha rfl).mono fun _ _ ⟨e, t⟩ => ⟨e, h.turned h2 h3 h4 t fun b => ?_⟩
  unfold memH
  by_cases e : b = a
  · rw [e, setH_at]; simp [ha]
  · rw [setH_ne _ _ _ _ e]; simp [e]
theorem Tl.drop (a : Nat) (ha : a < n) (hm : hs a = true) :
    Calls Tryd.prog 8 #[.pointer (some ⟨q, 0, none⟩), .int .i64 a] w fun e w' => e = .returned .nilIface ∧ Tl w0 w' q n g c (setH hs a false) ky hs' ky' := by
  obtain ⟨S, h1, h2, h3, h4⟩ := h.ex
  refine (drop_hb w S q n ky _ h1 a a ⟨ha, hm⟩ rfl).mono fun _ _ ⟨e, t⟩ => ⟨e, h.turned h2 h3 h4 t fun b => ?_⟩
  unfold memH
  by_cases e : b = a
  · rw [e, setH_at]; simp
  · rw [setH_ne _ _ _ _ e]; simp [e]
theorem Tl.putBad (i x : Int) (hi : i < 0 ∨ (n : Int) ≤ i) :
    Calls Tryd.prog 9 #[.pointer (some ⟨q, 0, none⟩), .int .i64 i, .int .i64 x] w fun e w' => e = .returned (eV 1) ∧ w = w' := by
  obtain ⟨S, h1, _⟩ := h.ex
  exact put_hb_bad w S q n ky _ h1 i x hi
theorem Tl.dropBad (i : Int) (hi : i < 0 ∨ (n : Int) ≤ i) :
    Calls Tryd.prog 8 #[.pointer (some ⟨q, 0, none⟩), .int .i64 i] w fun e w' => e = .returned (eV 1) ∧ w = w' := by
  obtain ⟨S, h1, _⟩ := h.ex
  exact drop_hb_bad w S q n ky _ h1 i hi
theorem Tl.dropNone (a : Nat) (ha : a < n) (hm : hs a = false) :
    Calls Tryd.prog 8 #[.pointer (some ⟨q, 0, none⟩), .int .i64 a] w fun e w' => e = .returned (eV 2) ∧ w = w' := by
  obtain ⟨S, h1, _⟩ := h.ex
  exact drop_hb_none w S q n ky _ h1 a a ha (fun c => by have := c.2; rw [hm] at this; exact absurd this (by simp)) rfl
theorem Tl.keyBad (i : Int) (hi : i < 0 ∨ (n : Int) ≤ i) :
    Calls Tryd.prog 7 #[.pointer (some ⟨q, 0, none⟩), .int .i64 i] w fun e w' => e = .returned (.tuple #[.int .i64 0, eV 1]) ∧ w = w' := by
  obtain ⟨S, ⟨tv, p, k, L, hp, ho, hm, rfl⟩, _⟩ := h.ex
  exact key_bad w q tv p k n ky L hp i hi
theorem Tl.keyNone (a : Nat) (ha : a < n) (hm : hs a = false) :
    Calls Tryd.prog 7 #[.pointer (some ⟨q, 0, none⟩), .int .i64 a] w fun e w' => e = .returned (.tuple #[.int .i64 0, eV 2]) ∧ w = w' := by
  obtain ⟨S, ⟨tv, p, k, L, hp, ho, hm2, rfl⟩, _⟩ := h.ex
  exact key_none w q tv p k n ky L hp a ha (fun c => by
    have := ((hm2 a).1 c).2
    rw [hm] at this
    exact absurd this (by simp))
theorem Tl.key (a : Nat) (ha : a < n) (hm : hs a = true) :
    Calls Tryd.prog 7 #[.pointer (some ⟨q, 0, none⟩), .int .i64 a] w fun e w' => e = .returned (.tuple #[.int .i64 (ky a), .nilIface]) ∧ Tl w0 w' q n g c hs ky hs' ky' := by
  obtain ⟨S, ⟨tv, p, k, L, hp, ho, hm2, rfl⟩, _⟩ := h.ex
  exact (key_ok w q tv p k n ky L hp a ((hm2 a).2 ⟨ha, hm⟩)).mono fun _ _ ⟨e, t⟩ => ⟨e, h.below t⟩
end

/-- How many of the first j have a key. -/
def cntH (hs : Nat → Bool) (j : Nat) : Nat := ((List.range j).filter hs).length
theorem cntH_yes (hs : Nat → Bool) (j : Nat) (h : hs j = true) : cntH hs (j + 1) = cntH hs j + 1 := by
  unfold cntH
  rw [List.range_succ, List.filter_append, List.length_append]
  simp [h]
theorem cntH_no (hs : Nat → Bool) (j : Nat) (h : hs j = false) : cntH hs (j + 1) = cntH hs j := by
  unfold cntH
  rw [List.range_succ, List.filter_append, List.length_append]
  simp [h]
theorem cntH_le (hs : Nat → Bool) (j : Nat) : cntH hs j ≤ j := by
  unfold cntH
  have := List.length_filter_le hs (List.range j)
  simpa using this
/-- The least one of the first j, or none. -/
def BestH (hs : Nat → Bool) (ky : Nat → Int) (j : Nat) (z : Int) : Prop :=
  (z = -1 ∧ ∀ b, b < j → hs b = false) ∨ ∃ a : Nat, z = (a : Int) ∧ a < j ∧ hs a = true ∧ ∀ b, b < j → hs b = true → ¬ lt ky b a
section
variable {hs : Nat → Bool} {ky : Nat → Int} {j : Nat} {z : Int}
theorem BestH.no (h : BestH hs ky j z) (hj : hs j = false) : BestH hs ky (j + 1) z := by
  rcases h with ⟨h1, h2⟩ | ⟨a, h1, h2, h3, h4⟩
  · refine Or.inl ⟨h1, fun b hb => ?_⟩
    by_cases e : b = j
    · rw [e]; exact hj
    · exact h2 b (by omega)
  · refine Or.inr ⟨a, h1, by omega, h3, fun b hb hh => ?_⟩
    by_cases e : b = j
    · rw [e, hj] at hh; exact absurd hh (by simp)
    · exact h4 b (by omega) hh
theorem BestH.one (h : ∀ b, b < j → hs b = false) (hj : hs j = true) : BestH hs ky (j + 1) (j : Int) := by
  refine Or.inr ⟨j, rfl, by omega, hj, fun b hb hh => ?_⟩
  by_cases e : b = j
  · rw [e]; exact lt_irr
  · rw [h b (by omega)] at hh; exact absurd hh (by simp)
theorem BestH.less {a : Nat} (h : ∀ b, b < j → hs b = true → ¬ lt ky b a) (hj : hs j = true) (hl : ky j < ky a) : BestH hs ky (j + 1) (j : Int) := by
  refine Or.inr ⟨j, rfl, by omega, hj, fun b hb hh => ?_⟩
  by_cases e : b = j
  · rw [e]; exact lt_irr
  · exact fun c => h b (by omega) hh (lt_trans c (Or.inl hl))
theorem BestH.more {a : Nat} (ha : a < j) (hh : hs a = true) (h : ∀ b, b < j → hs b = true → ¬ lt ky b a) (hl : ¬ ky j < ky a) : BestH hs ky (j + 1) (a : Int) := by
  refine Or.inr ⟨a, rfl, by omega, hh, fun b hb hb2 => ?_⟩
  by_cases e : b = j
  · rw [e]
    intro c
    rcases c with c | ⟨_, c⟩
    · exact hl c
    · omega
  · exact h b (by omega) hb2
end
section
variable {w0 w : World} {q n g c : Nat} {hs hs' : Nat → Bool} {ky ky' : Nat → Int} (h : Tl w0 w q n g c hs ky hs' ky')
include h
theorem Tl.len :
    Calls Tryd.prog 11 #[.pointer (some ⟨q, 0, none⟩)] w fun e w' => e = .returned (.int .i64 (cntH hs n)) ∧ w = w' := by
  obtain ⟨S, h1, _⟩ := h.ex
  exact len_hb w S q n ky _ h1 ((List.range n).filter hs) (List.nodup_range.filter _) fun a => by rw [List.mem_filter, List.mem_range]; exact Iff.rfl
theorem Tl.minNone (hn : ∀ b, b < n → hs b = false) :
    Calls Tryd.prog 10 #[.pointer (some ⟨q, 0, none⟩)] w fun e w' => e = .returned (.tuple #[.int .i64 0, .int .i64 0, eV 2]) ∧ w = w' := by
  obtain ⟨S, h1, _⟩ := h.ex
  exact min_hb_none w S q n ky _ h1 fun a ha => by have := ha.2; rw [hn a ha.1] at this; exact absurd this (by simp)
theorem Tl.min (a : Nat) (ha : a < n) (hh : hs a = true) (hl : ∀ b, b < n → hs b = true → ¬ lt ky b a) :
    Calls Tryd.prog 10 #[.pointer (some ⟨q, 0, none⟩)] w fun e w' => e = .returned (.tuple #[.int .i64 a, .int .i64 (ky a), .nilIface]) ∧ Tl w0 w' q n g c hs ky hs' ky' := by
  obtain ⟨S, h1, _⟩ := h.ex
  refine (min_hb w S q n ky _ h1 a ⟨ha, hh⟩).mono ?_
  rintro e w' ⟨x, rfl, hx, hm, hb⟩
  have e : x = a := by
    by_cases e : x = a
    · exact e
    · exact absurd (lt_other (Ne.symm e) (hm a ⟨ha, hh⟩)) (hl x hx.1 hx.2)
  subst e
  exact ⟨rfl, h.below hb⟩
end
end Go.Proofs.YtmfajaalbklfeaaDoor
