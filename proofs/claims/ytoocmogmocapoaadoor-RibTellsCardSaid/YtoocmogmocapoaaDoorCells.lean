/-
  LISTS OF THINGS in memory, each of so many cells, whichever they are: one that lies at a place, a list that is read, a slice that the call owns; a list appended to one that the call owns.
-/
import Derived.Test.YtoocmogmocapoaaDoorRowApp
import Derived.Test.YtoocmogmocapoaaDoorKeep
import Derived.Lib.Hide
namespace Go.Proofs.YtoocmogmocapoaaDoor
open Go.RowKit

/-- The cells of a thing. -/
class Cel (E : Type) where
  k : Nat
  pos : 0 < k
  cells : E → List Value
  len : ∀ e, (cells e).length = k
  one : ∀ e, ∀ u ∈ cells e, u.oneCell' = true
variable {E : Type} [Inhabited E] [Cel E]

/-- The cells of a list. -/
def cellsOf (l : List E) : List Value := l.flatMap Cel.cells
omit [Inhabited E] in
theorem cellsOf_nil : cellsOf ([] : List E) = [] := rfl
omit [Inhabited E] in
theorem cellsOf_cons (e : E) (l : List E) : cellsOf (e :: l) = Cel.cells e ++ cellsOf l := rfl
omit [Inhabited E] in
theorem cellsOf_app (l m : List E) : cellsOf (l ++ m) = cellsOf l ++ cellsOf m := by unfold cellsOf; rw [List.flatMap_append]
omit [Inhabited E] in
theorem cellsOf_len : ∀ l : List E, (cellsOf l).length = l.length * Cel.k E
  | [] => by simp [cellsOf_nil]
  | e :: r => by rw [cellsOf_cons, List.length_append, Cel.len, cellsOf_len r, List.length_cons, Nat.add_mul]; omega
omit [Inhabited E] in
theorem cellsOf_one (l : List E) : ∀ u ∈ cellsOf l, u.oneCell' = true := by
  intro u hu
  unfold cellsOf at hu
  rw [List.mem_flatMap] at hu
  obtain ⟨e, _, h⟩ := hu
  exact Cel.one e u h
theorem cellsOf_at : ∀ (l : List E) (i j : Nat), i < l.length → j < Cel.k E → (cellsOf l)[i * Cel.k E + j]? = (Cel.cells l[i]!)[j]?
  | e :: r, 0, j, _, hj => by
    rw [cellsOf_cons, Nat.zero_mul, Nat.zero_add, List.getElem?_append_left (by rw [Cel.len]; exact hj)]
    rfl
  | e :: r, i + 1, j, h, hj => by
    have h1 := cellsOf_at r i j (by simpa using h) hj
    rw [cellsOf_cons, List.getElem?_append_right (by rw [Cel.len, Nat.add_mul]; omega), Cel.len, show (i + 1) * Cel.k E + j - Cel.k E = i * Cel.k E + j by rw [Nat.add_mul]; omega, h1]
    simp

/-- A thing that lies at a place. -/
def LAt (w : World) (b off : Nat) (e : E) : Prop := ∀ j u, (Cel.cells e)[j]? = some u → w.cell? ⟨b, off + j, none⟩ = some u
omit [Inhabited E] in
theorem LAt.ofBlock {w w1 : World} {b off : Nat} {e : E} (h : LAt w b off e) (hb : w1.heap[b]? = w.heap[b]?) : LAt w1 b off e := fun j u hu => (World.cell?_of_block (w := w) (a := ⟨b, off + j, none⟩) hb).trans (h j u hu)
/-- A list that lies at a place, to be read. -/
def LSeen (w : World) (b off : Nat) (l : List E) : Prop := ∀ i, i < l.length → LAt w b (off + i * Cel.k E) l[i]!
theorem LSeen.ofBlock {w w1 : World} {b off : Nat} {l : List E} (h : LSeen w b off l) (hb : w1.heap[b]? = w.heap[b]?) : LSeen w1 b off l := fun i hi => (h i hi).ofBlock hb
theorem LSeen.below {w w1 : World} {b off n : Nat} {l : List E} (h : LSeen w b off l) (hb : Below n w w1) (hn : b < n) : LSeen w1 b off l := h.ofBlock (hb.block b hn)
theorem LSeen.cells {w : World} {b off : Nat} {l : List E} (h : LSeen w b off l) (j : Nat) (u : Value) (hu : (cellsOf l)[j]? = some u) : w.cell? ⟨b, off + j, none⟩ = some u := by
  have hp := Cel.pos (E := E)
  have hj : j < l.length * Cel.k E := by rw [← cellsOf_len]; exact (List.getElem?_eq_some_iff.1 hu).1
  have hd : j / Cel.k E < l.length := (Nat.div_lt_iff_lt_mul hp).2 hj
  have hm := Nat.mod_lt j hp
  have e : j / Cel.k E * Cel.k E + j % Cel.k E = j := Nat.div_add_mod' j _
  have hc := cellsOf_at l _ _ hd hm
  rw [e, hu] at hc
  have := h _ hd _ _ hc.symm
  rwa [Nat.add_assoc, e] at this
theorem LSeen.of {w : World} {b off : Nat} {l : List E} (h : ∀ j u, (cellsOf l)[j]? = some u → w.cell? ⟨b, off + j, none⟩ = some u) : LSeen w b off l := fun i hi j u hu => by
  have hj : j < Cel.k E := by rw [← Cel.len l[i]!]; exact (List.getElem?_eq_some_iff.1 hu).1
  rw [Nat.add_assoc]
  exact h _ _ ((cellsOf_at l i j hi hj).trans hu)
theorem LSeen.one {w : World} {b off : Nat} {e : E} (h : LAt w b off e) : LSeen w b off [e] := fun i hi => by
  have : i = 0 := by simp at hi; omega
  subst this
  rw [Nat.zero_mul]; exact h
/-- The rest of a list. -/
theorem LSeen.drop {w : World} {b off : Nat} {l : List E} (h : LSeen w b off l) (n : Nat) (hn : n ≤ l.length) : LSeen w b (off + n * Cel.k E) (l.drop n) := fun i hi => by
  rw [List.length_drop] at hi
  have := h (n + i) (by omega)
  rw [getElem!_pos _ _ (by omega)] at this
  rw [getElem!_pos _ _ (by rw [List.length_drop]; omega), List.getElem_drop, Nat.add_assoc, ← Nat.add_mul]
  exact this

/-- A value that is such a list. -/
def LArg (w : World) (v : Value) (l : List E) : Prop := ∃ p c, v = .slice p l.length c ∧ l.length ≤ c ∧ (l = [] ∨ ∃ b off, p = some ⟨b, off, none⟩ ∧ b < w.heap.size ∧ LSeen w b off l)
theorem LArg.nil (w : World) : LArg w (.slice none 0 0) ([] : List E) := ⟨none, 0, rfl, Nat.le_refl _, Or.inl rfl⟩
theorem LArg.below {w w1 : World} {v : Value} {l : List E} (h : LArg w v l) (hb : Below w.heap.size w w1) : LArg w1 v l := by
  obtain ⟨p, c, hv, hc, h⟩ := h
  refine ⟨p, c, hv, hc, ?_⟩
  rcases h with h | ⟨b, off, hp, hlt, hs⟩
  · exact Or.inl h
  · exact Or.inr ⟨b, off, hp, Nat.lt_of_lt_of_le hlt hb.size, hs.below hb hlt⟩
theorem LArg.keep {w w1 : World} {S : Nat → Prop} {v : Value} {l : List E} (h : LArg w v l) (hk : Keep S w w1) (hs : ∀ g, v.ownBlock = some g → ¬ S g) : LArg w1 v l := by
  obtain ⟨p, c, hv, hc, h⟩ := h
  refine ⟨p, c, hv, hc, ?_⟩
  rcases h with h | ⟨b, off, hp, hlt, hse⟩
  · exact Or.inl h
  · exact Or.inr ⟨b, off, hp, Nat.lt_of_lt_of_le hlt hk.size, hse.ofBlock (hk.block b hlt (hs b (by rw [hv, hp]; rfl)))⟩
theorem LArg.lt {w : World} {v : Value} {l : List E} (h : LArg w v l) (hne : l ≠ []) : ∃ b, v.ownBlock = some b ∧ b < w.heap.size := by
  obtain ⟨p, c, hv, hc, h⟩ := h
  rcases h with h | ⟨b, off, hp, hlt, hse⟩
  · exact absurd h hne
  · exact ⟨b, by rw [hv, hp]; rfl, hlt⟩

/-- A slice that the call owns, of just these things. -/
def LOwn (T : TypeId) (w : World) (base : Nat) (v : Value) (l : List E) : Prop := w.ownsRow base T (Cel.k E) v l.length (cellsOf l)
section
variable {T : TypeId} {w w1 : World} {base : Nat} {v : Value} {l : List E}
omit [Inhabited E] in
theorem LOwn.nil (T : TypeId) (w : World) (base : Nat) : LOwn T w base (.slice none 0 0) ([] : List E) := World.ownsRow_nil _ _ _ _
theorem LOwn.arg (h : LOwn T w base v l) : LArg w v l := by
  obtain ⟨_, ⟨hv, hn⟩ | ⟨g, cap, cur, hv, hb, hg, hcap, _, _, hc⟩⟩ := h
  · have e : l = [] := List.length_eq_zero_iff.1 hn
    subst e
    exact ⟨none, 0, hv, Nat.le_refl _, Or.inl rfl⟩
  · refine ⟨_, cap, hv, hcap, Or.inr ⟨g, 0, rfl, (Array.getElem?_eq_some_iff.1 hg).1, LSeen.of fun j u hu => ?_⟩⟩
    have hj : j < l.length * Cel.k E := by rw [← cellsOf_len]; exact (List.getElem?_eq_some_iff.1 hu).1
    rw [← hc, List.getElem?_take_of_lt hj] at hu
    simp only [World.cell?, hg, Nat.zero_add]
    simpa using hu
omit [Inhabited E] in
theorem LOwn.lt (h : LOwn T w base v l) : ∀ j, v.ownBlock = some j → base ≤ j ∧ j < w.heap.size := World.ownsRow.lt h
omit [Inhabited E] in
theorem LOwn.ofBlock (h : LOwn T w base v l) (hb : ∀ g, v.ownBlock = some g → w1.heap[g]? = w.heap[g]?) : LOwn T w1 base v l := rowKeepN h hb
omit [Inhabited E] in
theorem LOwn.keep (h : LOwn T w base v l) (hb : Below w.heap.size w w1) : LOwn T w1 base v l := h.ofBlock fun g hg => hb.block g (h.lt g hg).2
omit [Inhabited E] in
theorem LOwn.stay {S : Nat → Prop} (h : LOwn T w base v l) (hk : Keep S w w1) (hs : ∀ g, v.ownBlock = some g → ¬ S g) : LOwn T w1 base v l := h.ofBlock fun g hg => hk.block g (h.lt g hg).2 (hs g hg)
omit [Inhabited E] in
theorem LOwn.drew (h : LOwn T w base v l) : LOwn T w.drew base v l := h.ofBlock fun _ _ => rfl
omit [Inhabited E] in
theorem LOwn.down {b : Nat} (h : LOwn T w base v l) (hb : b ≤ base) : LOwn T w b v l := by
  obtain ⟨h1, h2⟩ := h
  refine ⟨h1, ?_⟩
  rcases h2 with h2 | ⟨g, cap, cur, hv, hg0, rest⟩
  · exact Or.inl h2
  · exact Or.inr ⟨g, cap, cur, hv, Nat.le_trans hb hg0, rest⟩
/-- Either there is none, or it lies from the first cell of a block on, which is whole. -/
theorem LOwn.form (h : LOwn T w base v l) : (v = .slice none 0 0 ∧ l = []) ∨ ∃ g c, v = .slice (some ⟨g, 0, none⟩) l.length c ∧ base ≤ g ∧ g < w.heap.size ∧ l.length ≤ c ∧ LSeen w g 0 l ∧ ∀ o, w.frozen? ⟨g, o, none⟩ = false := by
  obtain ⟨p, c, hv, hc, hp⟩ := h.arg
  obtain ⟨_, ⟨hv2, hn⟩ | ⟨g, cap, cur, hv2, hb, hg, _⟩⟩ := h
  · exact Or.inl ⟨hv2, List.length_eq_zero_iff.1 hn⟩
  · refine Or.inr ⟨g, cap, hv2, hb, (Array.getElem?_eq_some_iff.1 hg).1, ?_, ?_, fun o => by simp [World.frozen?, hg]⟩
    · rw [hv2] at hv
      injection hv with _ _ hv
      rw [hv]; exact hc
    · rcases hp with e | ⟨b, off, hp, _, hs⟩
      · rw [e]; intro i hi; simp at hi
      · rw [hv2, hp] at hv
        injection hv with hv _ _
        injection hv with hv
        injection hv with h1 h2 _
        rw [h1, h2]
        exact hs
end
/-- What a slice's type and its elements' are in the program. -/
structure TyL (E : Type) [Cel E] (t e : TypeId) (bytes : Nat) : Prop where
  under : Tryd.prog.underlying t = some (.slice e)
  ex : ∃ i z, Tryd.prog.info? e = some i ∧ i.zero = some z ∧ i.size = Cel.k E ∧ i.bytes = bytes ∧ z.cells.size = Cel.k E

omit [Inhabited E] in
/-- A list appended to one that the call owns. -/
theorem run_appL {t e : TypeId} {bytes : Nat} (ty : TypeId) (hT : TyL E t e bytes) (w : World) (base : Nat) (v0 v1 : Value) (l m : List E) (h0 : LOwn e w base v0 l)
    (p : Option Addr) (c : Nat) (hv1 : v1 = .slice p m.length c) (hm : m = [] ∧ p = none ∨ ∃ ad, p = some ad ∧ ∀ j u, (cellsOf m)[j]? = some u → w.cell? (ad.add j) = some u)
    (hlen : (l.length + m.length) * bytes ≤ 140737488355328) (h63 : l.length + m.length ≤ maxLen) (hbase : base ≤ w.heap.size) :
    ∃ v' w', (Builtin.append_ #[t, t] ty #[v0, v1]).run Tryd.prog w = .ok v' w' ∧ LOwn e w' base v' (l ++ m) ∧ AppTo w v0 w' v' := by
  subst hv1
  obtain ⟨i, z, hi, hz, hs, hby, hzs⟩ := hT.ex
  have ht := hT.under
  rcases hm with ⟨rfl, rfl⟩ | ⟨ad, rfl, hnews⟩
  · refine ⟨v0, w, ?_, by rw [List.append_nil]; exact h0, AppTo.refl _ _⟩
    have h0' := h0
    unfold LOwn at h0'
    rcases h0'.2 with ⟨rfl, _⟩ | ⟨g, cap, cur, rfl, _, _, hnc, _⟩
    · simp [Builtin.append_, run_underlying ht, sizeOf, typeInfo, hi, Builtin.lenOf, Builtin.firstCells]
    · simp [Builtin.append_, run_underlying ht, sizeOf, typeInfo, hi, Builtin.lenOf, Builtin.firstCells, storeCells]
      intro h
      omega
  · obtain ⟨v', w', hr, h2, h3, h4⟩ := run_append_own (P := Tryd.prog) w base t ty e i z (Cel.k E) bytes ht hi hz hs hby hzs Cel.pos v0 l.length (cellsOf l) h0 ad m.length c (cellsOf m) (cellsOf_len m) hnews (cellsOf_one m) h63 hlen hbase
    refine ⟨v', w', hr, ?_, ⟨h3, ?_⟩⟩
    · unfold LOwn
      rw [List.length_append, cellsOf_app]
      exact h2
    · have h63' : l.length + m.length ≤ 9223372036854775807 := by simp only [maxLen] at h63; omega
      have hlm : (cellsOf m).length = m.length * i.size := by rw [hs]; exact cellsOf_len m
      have hown := h0
      unfold LOwn at hown
      rcases hown.2 with ⟨rfl, hn⟩ | ⟨g, cap, cur, rfl, hbg, hg, hnc, hcm, hcs, htake⟩
      · by_cases hm0 : m.length = 0
        · rw [h4.2 ⟨rfl, hm0⟩]
          intro j hj
          exact Or.inl hj
        · have hq := run_append_nil (P := Tryd.prog) w t ty e i z ht hi hz ad m.length c (cellsOf m) hlm hnews (by omega) (by omega) (by
            have : m.length * i.bytes ≤ (l.length + m.length) * i.bytes := Nat.mul_le_mul_right _ (by omega)
            rw [hby] at this ⊢; omega)
          rw [hr] at hq
          injection hq with hq1 hq2
          rw [hq1]
          intro j hj
          exact Or.inr (Nat.le_of_eq (Option.some.inj hj))
      · by_cases hroom : l.length + m.length ≤ cap
        · have hq := run_append_room (P := Tryd.prog) w t ty e i ht hi g l.length cap cur hg ad m.length c (cellsOf m) hlm hnews (cellsOf_one m) hroom (by rw [hlm, hcs, hs, ← Nat.add_mul]; exact Nat.mul_le_mul_right _ hroom)
          rw [hr] at hq
          injection hq with hq1 hq2
          rw [hq1]
          intro j hj
          exact Or.inl hj
        · have hq := run_append_grow (P := Tryd.prog) w t ty e i z ht hi hz ⟨g, 0, none⟩ l.length cap (cellsOf l) (by rw [hs]; exact cellsOf_len l) (hown.cells (g := g) rfl) ad m.length c (cellsOf m) hlm hnews (by omega) (by omega) (growslice_fits (by omega) (by rw [hby]; exact hlen))
          rw [hr] at hq
          injection hq with hq1 hq2
          rw [hq1]
          intro j hj
          exact Or.inr (Nat.le_of_eq (Option.some.inj hj))
/-- The same, at the operation: the second list is any that lies in memory. -/
theorem wp_append_L {o : Oper} {a : Act} {K : Act → World → Prop} {Q : Exit → Act → World → Prop} {w : World} {t e : TypeId} {bytes : Nat} (hT : TyL E t e bytes) (s x : Operand) (ho : o.op = .call { callee := .builtin .append, args := #[s, x], argTypes := #[t, t] })
    (base : Nat) (v0 v1 : Value) (l m : List E) (hs : a.eval s = v0) (hx : a.eval x = v1) (h0 : LOwn e w base v0 l) (h1 : LArg w v1 m) (hlen : (l.length + m.length) * bytes ≤ 140737488355328) (h63 : l.length + m.length ≤ maxLen) (hbase : base ≤ w.heap.size)
    (h : ∀ v' w', LOwn e w' base v' (l ++ m) → AppTo w v0 w' v' → K (a.put o.dst v') w') : o.wp Tryd.prog a w K Q := by
  have hr : ∃ v' w', (Builtin.append_ #[t, t] o.type #[v0, v1]).run Tryd.prog w = .ok v' w' ∧ LOwn e w' base v' (l ++ m) ∧ AppTo w v0 w' v' := by
    obtain ⟨p, c, rfl, _, h1⟩ := h1
    refine run_appL o.type hT w base v0 _ l m h0 p c rfl ?_ hlen h63 hbase
    rcases h1 with rfl | ⟨b, off, rfl, _, hS⟩
    · cases p with
      | none => exact Or.inl ⟨rfl, rfl⟩
      | some ad => exact Or.inr ⟨ad, rfl, fun j u hu => by simp [cellsOf_nil] at hu⟩
    · exact Or.inr ⟨⟨b, off, none⟩, rfl, fun j u hu => by rw [Addr.add_lit]; exact hS.cells j u hu⟩
  obtain ⟨v', w', hr, h2, h3⟩ := hr
  unfold Oper.wp execOp
  simp only [ho, resolve, invoke, builtin, Sem.run_bind, Sem.run_pure, Result.andThen_ok, List.map_toArray, List.map_cons, List.map_nil, hs, hx, hr]
  exact h v' w' h2 h3
/-- One thing appended, that lies in a block of its own. -/
theorem wp_append_L1 {o : Oper} {a : Act} {K : Act → World → Prop} {Q : Exit → Act → World → Prop} {w : World} {t e : TypeId} {bytes : Nat} (hT : TyL E t e bytes) (s x : Operand) (ho : o.op = .call { callee := .builtin .append, args := #[s, x], argTypes := #[t, t] })
    (base : Nat) (v0 : Value) (l : List E) (n : E) (B c : Nat) (hs : a.eval s = v0) (hx : a.eval x = .slice (some ⟨B, 0, none⟩) 1 c) (h0 : LOwn e w base v0 l) (h1 : LAt w B 0 n) (hlen : (l.length + 1) * bytes ≤ 140737488355328) (h63 : l.length + 1 ≤ maxLen) (hbase : base ≤ w.heap.size)
    (h : ∀ v' w', LOwn e w' base v' (l ++ [n]) → AppTo w v0 w' v' → K (a.put o.dst v') w') : o.wp Tryd.prog a w K Q := by
  obtain ⟨v', w', hr, h2, h3⟩ := run_appL o.type hT w base v0 _ l [n] h0 (some ⟨B, 0, none⟩) c rfl (Or.inr ⟨⟨B, 0, none⟩, rfl, fun j u hu => by rw [Addr.add_lit]; exact (LSeen.one h1).cells j u hu⟩) hlen h63 hbase
  unfold Oper.wp execOp
  simp only [ho, resolve, invoke, builtin, Sem.run_bind, Sem.run_pure, Result.andThen_ok, List.map_toArray, List.map_cons, List.map_nil, hs, hx]
  rw [show (1 : Nat) = [n].length from rfl, hr]
  exact h v' w' h2 h3
end Go.Proofs.YtoocmogmocapoaaDoor
