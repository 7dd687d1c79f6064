/-
  LISTS OF DUE IDS in memory (an id and its due time each): an argument that is read, a slice that the call owns; appended to.
-/
import Derived.Test.YtdgfaolflnljaaaDoorBoxes
import Derived.Laws.AppendOwn
import Derived.Laws.AppendOwnNone
import Derived.Laws.OwnMore
namespace Go.Proofs.YtdgfaolflnljaaaDoor
open Go.RowKit

/-- An id and its due time. -/
abbrev Du := Nat × Nat
def Du.v0 (n : Du) : Value := .int .i64 (n.1 : Int)
def Du.v1 (n : Du) : Value := .int .i64 (n.2 : Int)

/-- The cells of a list of due ids. -/
def cellsD : List Du → List Value
  | [] => []
  | x :: r => Du.v0 x :: Du.v1 x :: cellsD r
theorem cellsD_len : ∀ l : List Du, (cellsD l).length = l.length * 2
  | [] => rfl
  | x :: r => by rw [cellsD, List.length_cons, List.length_cons, cellsD_len r, List.length_cons]; omega
theorem cellsD_app : ∀ l m : List Du, cellsD (l ++ m) = cellsD l ++ cellsD m
  | [], _ => rfl
  | x :: r, m => by rw [List.cons_append, cellsD, cellsD, cellsD_app r m]; rfl
theorem cellsD_at : ∀ (l : List Du) (i : Nat), i < l.length → (cellsD l)[i * 2]? = some (Du.v0 l[i]!) ∧ (cellsD l)[i * 2 + 1]? = some (Du.v1 l[i]!)
  | x :: r, 0, _ => ⟨rfl, rfl⟩
  | x :: r, i + 1, h => by
    have h1 := cellsD_at r i (by simpa using h)
    rw [cellsD, show (i + 1) * 2 = i * 2 + 1 + 1 by omega, List.getElem?_cons_succ, List.getElem?_cons_succ, List.getElem?_cons_succ, List.getElem?_cons_succ]
    simpa using h1
theorem cellsD_one (l : List Du) : ∀ u ∈ cellsD l, u.oneCell' = true := by
  induction l with
  | nil => intro u hu; simp [cellsD] at hu
  | cons x r ih =>
    intro u hu
    rw [cellsD, List.mem_cons, List.mem_cons] at hu
    rcases hu with rfl | rfl | hu
    · rfl
    · rfl
    · exact ih u hu

/-- A list that lies at a place, to be read. -/
structure SeenD (w : World) (b off : Nat) (l : List Du) : Prop where
  c0 : ∀ i, i < l.length → w.cell? ⟨b, off + i * 2, none⟩ = some (Du.v0 l[i]!)
  c1 : ∀ i, i < l.length → w.cell? ⟨b, off + i * 2 + 1, none⟩ = some (Du.v1 l[i]!)
theorem SeenD.below {w w1 : World} {b off n : Nat} {l : List Du} (h : SeenD w b off l) (hb : Below n w w1) (hn : b < n) : SeenD w1 b off l :=
  ⟨fun i hi => (hb.cell (p := ⟨b, off + i * 2, none⟩) hn).trans (h.c0 i hi), fun i hi => (hb.cell (p := ⟨b, off + i * 2 + 1, none⟩) hn).trans (h.c1 i hi)⟩
theorem SeenD.cells {w : World} {b off : Nat} {l : List Du} (h : SeenD w b off l) (j : Nat) (u : Value) (hu : (cellsD l)[j]? = some u) : w.cell? ⟨b, off + j, none⟩ = some u := by
  have hj : j < l.length * 2 := by rw [← cellsD_len]; exact (List.getElem?_eq_some_iff.1 hu).1
  rcases Nat.mod_two_eq_zero_or_one j with h2 | h2
  · have e : j = j / 2 * 2 := by omega
    have := (cellsD_at l (j / 2) (by omega)).1
    rw [e] at hu ⊢
    rw [hu] at this
    rw [h.c0 _ (by omega), Option.some.inj this]
  · have e : j = j / 2 * 2 + 1 := by omega
    have := (cellsD_at l (j / 2) (by omega)).2
    rw [e] at hu ⊢
    rw [hu] at this
    rw [← Nat.add_assoc, h.c1 _ (by omega), Option.some.inj this]
theorem SeenD.of {w : World} {b off : Nat} {l : List Du} (h : ∀ j u, (cellsD l)[j]? = some u → w.cell? ⟨b, off + j, none⟩ = some u) : SeenD w b off l :=
  ⟨fun i hi => h _ _ (cellsD_at l i hi).1, fun i hi => by rw [Nat.add_assoc]; exact h _ _ (cellsD_at l i hi).2⟩

/-- A value that is such a list. -/
def ArgD (w : World) (v : Value) (l : List Du) : Prop := ∃ p c, v = .slice p l.length c ∧ (l = [] ∨ ∃ b off, p = some ⟨b, off, none⟩ ∧ b < w.heap.size ∧ SeenD w b off l)
theorem ArgD.below {w w1 : World} {v : Value} {l : List Du} (h : ArgD w v l) (hb : Below w.heap.size w w1) : ArgD w1 v l := by
  obtain ⟨p, c, hv, h⟩ := h
  refine ⟨p, c, hv, ?_⟩
  rcases h with h | ⟨b, off, hp, hlt, hs⟩
  · exact Or.inl h
  · exact Or.inr ⟨b, off, hp, Nat.lt_of_lt_of_le hlt hb.size, hs.below hb hlt⟩

/-- A slice that the call owns, of just these due ids. -/
def OwnD (w : World) (base : Nat) (v : Value) (l : List Du) : Prop := w.ownsRow base 52 2 v l.length (cellsD l)
theorem OwnD.seen {w : World} {base g cap : Nat} {l : List Du} {cur : Array Value} {T : TypeId} {fr : Nat × Nat} (hg : w.heap[g]? = some (.cells cur T fr)) (hc : cur.toList.take (l.length * 2) = cellsD l) (_ : base ≤ g) (_ : l.length ≤ cap) : SeenD w g 0 l := by
  refine SeenD.of fun j u hu => ?_
  have hj : j < l.length * 2 := by rw [← cellsD_len]; exact (List.getElem?_eq_some_iff.1 hu).1
  rw [← hc, List.getElem?_take_of_lt hj] at hu
  simp only [World.cell?, hg, Nat.zero_add]
  simpa using hu
theorem OwnD.arg {w : World} {base : Nat} {v : Value} {l : List Du} (h : OwnD w base v l) : ArgD w v l := by
  obtain ⟨_, ⟨hv, hn⟩ | ⟨g, cap, cur, hv, hb, hg, hcap, _, _, hc⟩⟩ := h
  · have e : l = [] := List.length_eq_zero_iff.1 hn
    subst e
    exact ⟨none, 0, hv, Or.inl rfl⟩
  · exact ⟨_, cap, hv, Or.inr ⟨g, 0, rfl, (Array.getElem?_eq_some_iff.1 hg).1, OwnD.seen hg hc hb hcap⟩⟩

noncomputable def infoD : TypeInfo := (Tryd.prog.info? 52).get (by kernel_rfl)
theorem infoD_size : infoD.size = 2 := by kernel_rfl
theorem OwnD.keep {w w1 : World} {base : Nat} {v : Value} {l : List Du} (h : OwnD w base v l) (hb : Below w.heap.size w w1) : OwnD w1 base v l := by
  obtain ⟨h1, h2⟩ := h
  refine ⟨h1, ?_⟩
  rcases h2 with h2 | ⟨g, cap, cur, hv, hg0, hg, rest⟩
  · exact Or.inl h2
  · exact Or.inr ⟨g, cap, cur, hv, hg0, by rw [hb.block g (Array.getElem?_eq_some_iff.1 hg).1]; exact hg, rest⟩

theorem OwnD.down {w : World} {b b' : Nat} {v : Value} {l : List Du} (h : OwnD w b' v l) (hb : b ≤ b') : OwnD w b v l := by
  obtain ⟨h1, h2⟩ := h
  refine ⟨h1, ?_⟩
  rcases h2 with h2 | ⟨g, cap, cur, hv, hg0, rest⟩
  · exact Or.inl h2
  · exact Or.inr ⟨g, cap, cur, hv, Nat.le_trans hb hg0, rest⟩
/-- Two lists that the call owns, the second appended to the first. -/
theorem wp_append_twoD {o : Oper} {a : Act} {K : Act → World → Prop} {Q : Exit → Act → World → Prop} {w : World} (s x : Operand) (ho : o.op = .call { callee := .builtin .append, args := #[s, x], argTypes := #[48, 48] })
    (base : Nat) (v0 v1 : Value) (l0 l1 : List Du) (hs : a.eval s = v0) (hx : a.eval x = v1) (h0 : OwnD w base v0 l0) (h1 : OwnD w base v1 l1) (hlen : (l0.length + l1.length) * 16 ≤ 140737488355328) (hbase : base ≤ w.heap.size)
    (h : ∀ v' w', OwnD w' base v' (l0 ++ l1) → Below base w w' → K (a.put o.dst v') w') : o.wp Tryd.prog a w K Q := by
  have hi : Tryd.prog.info? 52 = some infoD := by kernel_rfl
  obtain ⟨z, hz⟩ : ∃ z, infoD.zero = some z ∧ z.cells.size = 2 := ⟨.agg #[.int .i64 0, .int .i64 0], by kernel_rfl, by kernel_rfl⟩
  have hby : infoD.bytes = 16 := by kernel_rfl
  obtain ⟨_, ⟨rfl, hn⟩ | ⟨g, cap, cur, rfl, hb, hg, hcap, _, _, hc⟩⟩ := id h1
  · have e : l1 = [] := List.length_eq_zero_iff.1 hn
    subst e
    have hrun := run_append_owned_none (P := Tryd.prog) (w := w) base 48 o.type 52 infoD 2 (by kernel_rfl) hi v0 l0.length (cellsD l0) h0
    unfold Oper.wp execOp
    simp only [ho, resolve, invoke, builtin, Sem.run_bind, Sem.run_pure, Result.andThen_ok, List.map_toArray, List.map_cons, List.map_nil, hs, hx, hrun]
    exact h _ _ (by rw [List.append_nil]; exact h0) (Below.refl _ _)
  · refine wp_append_own _ s x 48 ho base 52 infoD z 2 16 (by kernel_rfl) hi hz.1 infoD_size hby hz.2 (by omega) v0 l0.length (cellsD l0) hs h0 ⟨g, 0, none⟩ l1.length cap (cellsD l1) hx (cellsD_len l1) ?_ (cellsD_one l1) (by simp only [maxLen]; omega) hlen hbase ?_
    · intro j u hu
      rw [Addr.add_lit]; exact (OwnD.seen hg hc hb hcap).cells j u hu
    · intro v' w' hown hgrow _
      refine h v' w' ?_ ((Below.refl _ w).grown hgrow hbase ?_)
      · unfold OwnD
        rw [List.length_append, cellsD_app]
        exact hown
      · intro q hq
        exact (World.ownsRow.lt h0 q hq).1
/-- One due id appended to a list that the call owns: the list stays where it is, or lies in a new block. -/
theorem wp_append_oneD {o : Oper} {a : Act} {K : Act → World → Prop} {Q : Exit → Act → World → Prop} {w : World} (s x : Operand) (ho : o.op = .call { callee := .builtin .append, args := #[s, x], argTypes := #[48, 48] })
    (base : Nat) (v0 : Value) (l0 : List Du) (n : Du) (B c : Nat) (hs : a.eval s = v0) (hx : a.eval x = .slice (some ⟨B, 0, none⟩) 1 c) (h0 : OwnD w base v0 l0) (hB : Box w B (Du.v0 n) (Du.v1 n)) (hlen : (l0.length + 1) * 16 ≤ 140737488355328) (hbase : base ≤ w.heap.size)
    (h : ∀ v' w', OwnD w' base v' (l0 ++ [n]) → w.grownBy w' v0.ownBlock → (v'.ownBlock = v0.ownBlock ∨ v'.ownBlock = some w.heap.size) → K (a.put o.dst v') w') : o.wp Tryd.prog a w K Q := by
  have hi : Tryd.prog.info? 52 = some infoD := by kernel_rfl
  obtain ⟨z, hz⟩ : ∃ z, infoD.zero = some z ∧ z.cells.size = 2 := ⟨.agg #[.int .i64 0, .int .i64 0], by kernel_rfl, by kernel_rfl⟩
  have hby : infoD.bytes = 16 := by kernel_rfl
  have ht : Tryd.prog.underlying 48 = some (.slice 52) := by kernel_rfl
  have hnews : ∀ j u, [Du.v0 n, Du.v1 n][j]? = some u → w.cell? ((⟨B, 0, none⟩ : Addr).add j) = some u := by
    intro j u hj
    rw [Addr.add_lit]
    match j, hj with
    | 0, hj => simp at hj; subst hj; exact hB.c0
    | 1, hj => simp at hj; subst hj; exact hB.c1
  have h1 : ∀ u ∈ [Du.v0 n, Du.v1 n], u.oneCell' = true := by intro u hu; simp [Du.v0, Du.v1] at hu; rcases hu with rfl | rfl <;> rfl
  have hl : [Du.v0 n, Du.v1 n].length = 1 * infoD.size := by rw [infoD_size]; rfl
  obtain ⟨v', w', hr, h2, h3, _⟩ := run_append_own (P := Tryd.prog) w base 48 o.type 52 infoD z 2 16 ht hi hz.1 infoD_size hby hz.2 (by omega) v0 l0.length (cellsD l0) h0 ⟨B, 0, none⟩ 1 c [Du.v0 n, Du.v1 n] rfl hnews h1 (by simp only [maxLen]; omega) hlen hbase
  have hnew : v'.ownBlock = v0.ownBlock ∨ v'.ownBlock = some w.heap.size := by
    have hown := h0
    unfold OwnD at hown
    rcases hown.2 with ⟨rfl, hn⟩ | ⟨g, cap, cur, rfl, hbg, hg, hnc, hcm, hcs, htake⟩
    · have hq := run_append_nil (P := Tryd.prog) w 48 o.type 52 infoD z ht hi hz.1 ⟨B, 0, none⟩ 1 c [Du.v0 n, Du.v1 n] hl hnews (by omega) (by omega) (by rw [hby]; omega)
      rw [hr] at hq
      injection hq with hq1 hq2
      rw [hq1]; exact Or.inr rfl
    · by_cases hroom : l0.length + 1 ≤ cap
      · have hq := run_append_room (P := Tryd.prog) w 48 o.type 52 infoD ht hi g l0.length cap cur hg ⟨B, 0, none⟩ 1 c [Du.v0 n, Du.v1 n] hl hnews h1 hroom (by rw [hl, hcs, infoD_size, ← Nat.add_mul]; exact Nat.mul_le_mul_right _ hroom)
        rw [hr] at hq
        injection hq with hq1 hq2
        rw [hq1]; exact Or.inl rfl
      · have hq := run_append_grow (P := Tryd.prog) w 48 o.type 52 infoD z ht hi hz.1 ⟨g, 0, none⟩ l0.length cap (cellsD l0) (by rw [infoD_size]; exact cellsD_len l0) (hown.cells (g := g) rfl) ⟨B, 0, none⟩ 1 c [Du.v0 n, Du.v1 n] hl hnews (by omega) (by omega) (growslice_fits (by omega) (by rw [hby]; exact hlen))
        rw [hr] at hq
        injection hq with hq1 hq2
        rw [hq1]; exact Or.inr rfl
  unfold Oper.wp execOp
  simp only [ho, resolve, invoke, builtin, Sem.run_bind, Sem.run_pure, Result.andThen_ok, List.map_toArray, List.map_cons, List.map_nil, hs, hx, hr]
  refine h v' w' ?_ h3 hnew
  unfold OwnD
  rw [List.length_append, cellsD_app]
  exact h2
end Go.Proofs.YtdgfaolflnljaaaDoor
