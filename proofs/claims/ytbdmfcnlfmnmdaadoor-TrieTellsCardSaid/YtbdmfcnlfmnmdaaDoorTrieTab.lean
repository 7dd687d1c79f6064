/-
  TABLES: what a table holds, as a function of networks and as the list of them in their order; what putting and dropping make of it (plain facts).
-/
import Derived.Test.YtbdmfcnlfmnmdaaDoorTrieGrow
import Derived.Test.YtbdmfcnlfmnmdaaDoorPrefErr
namespace Go.Proofs.YtbdmfcnlfmnmdaaDoor
open Go.RowKit

/-- A table in memory, its blocks among S. -/
def Tab (w : World) (S : Nat → Prop) (tb : Nat) (f : Nt → Option Int) (L : List Nt) : Prop :=
  L.length ≤ 64 ∧ ∃ M : Tm, Tri w M tb L.length ∧ (∀ b, M.Bl b → S b) ∧ (∀ b, S b → b < w.heap.size) ∧ L = M.list ∧ ∀ n, f n = M.val n
/-- Its blocks, and those that were laid since. -/
def plus (S : Nat → Prop) (w w' : World) (b : Nat) : Prop := S b ∨ (w.heap.size ≤ b ∧ b < w'.heap.size)
theorem plus_lt {S : Nat → Prop} {w w' : World} (hs : ∀ b, S b → b < w.heap.size) (hw : w.heap.size ≤ w'.heap.size) (b : Nat) (h : plus S w w' b) : b < w'.heap.size := by
  rcases h with h | h
  · exact Nat.lt_of_lt_of_le (hs b h) hw
  · exact h.2

section
variable {w w' : World} {S S' : Nat → Prop} {tb : Nat} {f : Nt → Option Int} {L : List Nt}
theorem Tab.lt (h : Tab w S tb f L) (b : Nat) (hb : S b) : b < w.heap.size := by
  obtain ⟨_, M, _, _, h3, _⟩ := h
  exact h3 b hb
theorem Tab.frame (h : Tab w S tb f L) (hs : w.heap.size ≤ w'.heap.size) (hb : ∀ b, S b → w'.heap[b]? = w.heap[b]?) : Tab w' S tb f L := by
  obtain ⟨h64L, M, h1, h2, h3, h4⟩ := h
  exact ⟨h64L, M, h1.frame hs (fun b hx => hb b (h2 b hx)), h2, fun b hx => Nat.lt_of_lt_of_le (h3 b hx) hs, h4⟩
theorem Tab.below (h : Tab w S tb f L) (hb : Below w.heap.size w w') : Tab w' S tb f L := h.frame hb.size fun b hx => hb.block b (h.lt b hx)
theorem Tab.keep (h : Tab w S tb f L) (hk : Keep S' w w') (hs : ∀ b, S b → ¬ S' b) : Tab w' S tb f L := h.frame hk.size fun b hx => hk.block b (h.lt b hx) (hs b hx)
theorem Tab.few (h : Tab w S tb f L) : L.length ≤ 64 := h.1
theorem Tab.rises (h : Tab w S tb f L) : L.Pairwise fun x y => Nt.lt x y = true := by
  obtain ⟨_, M, h1, _, _, rfl, _⟩ := h
  exact Tm.list_rises h1.ok
theorem Tab.mem (h : Tab w S tb f L) (n : Nt) : n ∈ L ↔ ∃ z, f n = some z := by
  obtain ⟨_, M, h1, _, _, rfl, h5⟩ := h
  rw [Tm.list_mem h1.ok, h5 n]
/-- What is there is right. -/
theorem Tab.ok (h : Tab w S tb f L) (n : Nt) (z : Int) (hn : f n = some z) : n.V := by
  obtain ⟨_, M, h1, _, _, _, h5⟩ := h
  rw [h5 n] at hn
  obtain ⟨d, x, e1, e2, _, _⟩ := (Tm.val_some n z).1 hn
  have := h1.ok.ok _ _ _ e2
  exact ⟨this.2.1, by rw [e1]; exact PrefP.chk_ok _ _ this.1 this.2.2⟩
/-- A list is told by what is there. -/
theorem Tab.only {w1 w2 : World} {S1 S2 : Nat → Prop} {t1 t2 : Nat} {L1 L2 : List Nt} {g : Nt → Option Int} (h1 : Tab w1 S1 t1 f L1) (h2 : Tab w2 S2 t2 g L2) (h : ∀ n, f n = g n) : L1 = L2 :=
  rises_ext h1.rises h2.rises fun n => by rw [h1.mem, h2.mem, h n]
end

/-- A new table. -/
theorem new_tab (w : World) :
    Calls Tryd.prog 7 #[] w fun e w' => e = .returned (.pointer (some ⟨w.heap.size, 0, none⟩)) ∧ Tab w' (fun b => b = w.heap.size) w.heap.size (fun _ => none) [] ∧ Below w.heap.size w w' := by
  refine (new_any w).mono ?_
  rintro e w' ⟨rfl, hT, hb, hs⟩
  have hl : (Tm.new w.heap.size).list = [] := by
    refine List.eq_nil_iff_forall_not_mem.2 fun n hn => ?_
    obtain ⟨z, hz⟩ := (Tm.list_mem hT.ok n).1 hn
    rw [Tm.new_val] at hz
    exact absurd hz (by simp)
  exact ⟨rfl, ⟨by simp, _, hT, fun b hb => Tm.new_bl _ _ hb, fun b hb => by omega, hl.symm, fun n => (Tm.new_val _ n).symm⟩, hb⟩
theorem plus_ge {S : Nat → Prop} {w w' : World} {n : Nat} (hs : ∀ b, S b → n ≤ b) (hw : n ≤ w.heap.size) (b : Nat) (h : plus S w w' b) : n ≤ b := by
  rcases h with h | h
  · exact hs b h
  · omega
theorem plus_not {S : Nat → Prop} {w w' : World} {b : Nat} (hs : ¬ S b) (hb : b < w.heap.size) : ¬ plus S w w' b := by
  rintro (h | h)
  · exact hs h
  · omega

theorem Box.keepS {w w' : World} {S : Nat → Prop} {b : Nat} {x y : Value} (h : Box w b x y) (hk : Keep S w w') (hs : ¬ S b) : Box w' b x y := by
  have e : w'.heap[b]? = w.heap[b]? := hk.block b h.lt hs
  exact ⟨Nat.lt_of_lt_of_le h.lt hk.size, (World.cell?_of_block (w := w) e).trans h.c0, (World.cell?_of_block (w := w) e).trans h.c1, (World.frozen?_of_block (w := w) e).trans h.f0, (World.frozen?_of_block (w := w) e).trans h.f1⟩
theorem Own.keepS {w w' : World} {S : Nat → Prop} {base : Nat} {v : Value} {l : List Nt} (h : Own w base v l) (hk : Keep S w w') (hs : ∀ b, S b → b < base) : Own w' base v l := by
  obtain ⟨h1, h2⟩ := h
  refine ⟨h1, ?_⟩
  rcases h2 with h2 | ⟨g, cap, cur, hv, hg0, hg, rest⟩
  · exact Or.inl h2
  · refine Or.inr ⟨g, cap, cur, hv, hg0, ?_, rest⟩
    rw [hk.block g (Array.getElem?_eq_some_iff.1 hg).1 (fun e => by have := hs g e; omega)]
    exact hg

/-- One written into a function. -/
def setF (f : Nt → Option Int) (x : Nt) (o : Option Int) : Nt → Option Int := fun n => if n = x then o else f n
theorem setF_same (f : Nt → Option Int) (x : Nt) (o : Option Int) : setF f x o x = o := if_pos rfl
theorem setF_other (f : Nt → Option Int) (x : Nt) (o : Option Int) (n : Nt) (h : n ≠ x) : setF f x o n = f n := if_neg h
theorem val_upd (M : Tm) (a d : Nat) (y : Nd) (n : Nt) : (M.upd a d (some y)).val n = setF M.val (a, (d : Int)) (if y.u then some y.v else none) n := by
  unfold setF
  by_cases e : n = (a, (d : Int))
  · rw [if_pos e, e, Tm.val_nat, Tm.upd_same]; rfl
  · rw [if_neg e]
    unfold Tm.val
    split
    · rename_i h0
      rw [Tm.upd_other _ _ _ _ _ _ ?_]
      rintro ⟨e1, e2⟩
      exact e (Prod.ext e1 (by simp only; omega))
    · rfl
theorem more_len {l m : List Nt} {x : Nt} (hl : l.Nodup) (hm : m.Nodup) (hx : x ∉ l) (h : ∀ n, n ∈ m ↔ n = x ∨ n ∈ l) : m.length = l.length + 1 := by
  have hp : m.Perm (x :: l) := (List.perm_ext_iff_of_nodup hm (List.nodup_cons.2 ⟨hx, hl⟩)).2 fun n => by rw [h n, List.mem_cons]
  rw [hp.length_eq, List.length_cons]
theorem same_len {l m : List Nt} (hl : l.Nodup) (hm : m.Nodup) (h : ∀ n, n ∈ m ↔ n ∈ l) : m.length = l.length :=
  ((List.perm_ext_iff_of_nodup hm hl).2 h).length_eq
/-- The error of putting. -/
def putE (f : Nt → Option Int) (L : List Nt) (x : Nt) : Int := if PrefP.chk x.1 x.2 = 0 then (if f x = none ∧ 64 ≤ L.length then 4 else 0) else PrefP.chk x.1 x.2
/-- What putting makes of a table. -/
def putF (f : Nt → Option Int) (L : List Nt) (x : Nt) (v : Int) : Nt → Option Int := if putE f L x = 0 then setF f x (some v) else f
/-- The error of getting, and of dropping. -/
def getE (f : Nt → Option Int) (x : Nt) : Int := if PrefP.chk x.1 x.2 = 0 then (if f x = none then 2 else 0) else PrefP.chk x.1 x.2
theorem look_val (M : Tm) (a n : Nat) : M.val (a, (n : Int)) = (M.look a n).map fun x => x.v := by
  rw [Tm.val_nat, Tm.look]
  cases M a n with
  | none => rfl
  | some x => simp only [Option.bind_some]; split <;> rfl
theorem look_is {M : Tm} {a n : Nat} {x : Nd} (h : M.look a n = some x) : M a n = some x ∧ x.u = true := by
  unfold Tm.look at h
  cases e : M a n with
  | none => simp [e] at h
  | some y =>
    rw [e, Option.bind_some] at h
    by_cases hu : y.u = true
    · rw [if_pos hu] at h
      obtain rfl := Option.some.inj h
      exact ⟨rfl, hu⟩
    · rw [if_neg hu] at h; exact absurd h (by simp)
end Go.Proofs.YtbdmfcnlfmnmdaaDoor
