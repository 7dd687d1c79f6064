/-
  LISTS OF NUMBERS in memory: an argument that is read, a slice that the call owns; one number appended.
-/
import Derived.Test.YtoocmogmocapoaaBoxes
import Derived.Laws.AppendOwn
import Derived.Laws.AppendOwnNone
import Derived.Laws.OwnMore
namespace Go.Proofs.Ytoocmogmocapoaa
open Go.RowKit

def cellsI (l : List Int) : List Value := l.map fun z => .int .i64 z
theorem cellsI_len (l : List Int) : (cellsI l).length = l.length := by simp [cellsI]
theorem cellsI_app (l m : List Int) : cellsI (l ++ m) = cellsI l ++ cellsI m := by simp [cellsI]
theorem cellsI_one (l : List Int) : ∀ u ∈ cellsI l, u.oneCell' = true := by
  intro u hu
  simp only [cellsI, List.mem_map] at hu
  obtain ⟨z, _, rfl⟩ := hu
  rfl
/-- A list of numbers that lies at a place, to be read. -/
def SeenI (w : World) (b off : Nat) (l : List Int) : Prop := ∀ i, i < l.length → w.cell? ⟨b, off + i, none⟩ = some (.int .i64 l[i]!)
theorem SeenI.below {w w1 : World} {b off n : Nat} {l : List Int} (h : SeenI w b off l) (hb : Below n w w1) (hn : b < n) : SeenI w1 b off l :=
  fun i hi => (hb.cell (p := ⟨b, off + i, none⟩) hn).trans (h i hi)
/-- A value that is such a list. -/
def ArgI (w : World) (v : Value) (l : List Int) : Prop := ∃ p c, v = .slice p l.length c ∧ (l = [] ∨ ∃ b off, p = some ⟨b, off, none⟩ ∧ b < w.heap.size ∧ SeenI w b off l)
theorem ArgI.below {w w1 : World} {v : Value} {l : List Int} (h : ArgI w v l) (hb : Below w.heap.size w w1) : ArgI w1 v l := by
  obtain ⟨p, c, hv, h⟩ := h
  refine ⟨p, c, hv, ?_⟩
  rcases h with h | ⟨b, off, hp, hlt, hs⟩
  · exact Or.inl h
  · exact Or.inr ⟨b, off, hp, Nat.lt_of_lt_of_le hlt hb.size, hs.below hb hlt⟩
/-- A slice that the call owns, of just these numbers. -/
def OwnI (w : World) (base : Nat) (v : Value) (l : List Int) : Prop := w.ownsRow base 3 1 v l.length (cellsI l)
theorem OwnI.arg {w : World} {base : Nat} {v : Value} {l : List Int} (h : OwnI w base v l) : ArgI w v l := by
  obtain ⟨_, ⟨hv, hn⟩ | ⟨g, cap, cur, hv, hb, hg, hcap, _, _, hc⟩⟩ := h
  · have e : l = [] := List.length_eq_zero_iff.1 hn
    subst e
    exact ⟨none, 0, hv, Or.inl rfl⟩
  · refine ⟨_, cap, hv, Or.inr ⟨g, 0, rfl, (Array.getElem?_eq_some_iff.1 hg).1, fun i hi => ?_⟩⟩
    have h1 : (cellsI l)[i]? = some (.int .i64 l[i]!) := by
      unfold cellsI
      rw [List.getElem?_map, List.getElem?_eq_getElem hi, getElem!_pos l i hi]; rfl
    rw [← hc, Nat.mul_one, List.getElem?_take_of_lt hi] at h1
    simp only [World.cell?, hg, Nat.zero_add]
    simpa using h1
theorem OwnI.keep {w w1 : World} {base : Nat} {v : Value} {l : List Int} (h : OwnI w base v l) (hb : Below w.heap.size w w1) : OwnI w1 base v l := by
  obtain ⟨h1, h2⟩ := h
  refine ⟨h1, ?_⟩
  rcases h2 with h2 | ⟨g, cap, cur, hv, hg0, hg, rest⟩
  · exact Or.inl h2
  · exact Or.inr ⟨g, cap, cur, hv, hg0, by rw [hb.block g (Array.getElem?_eq_some_iff.1 hg).1]; exact hg, rest⟩
theorem OwnI.down {w : World} {b b' : Nat} {v : Value} {l : List Int} (h : OwnI w b' v l) (hb : b ≤ b') : OwnI w b v l := by
  obtain ⟨h1, h2⟩ := h
  refine ⟨h1, ?_⟩
  rcases h2 with h2 | ⟨g, cap, cur, hv, hg0, rest⟩
  · exact Or.inl h2
  · exact Or.inr ⟨g, cap, cur, hv, Nat.le_trans hb hg0, rest⟩
noncomputable def infoI : TypeInfo := (Try.prog.info? 3).get (by kernel_rfl)
theorem infoI_size : infoI.size = 1 := by kernel_rfl
/-- One number appended to a list that the call owns: the list stays where it is, or lies in a new block. -/
theorem wp_append_oneI {o : Oper} {a : Act} {K : Act → World → Prop} {Q : Exit → Act → World → Prop} {w : World} (s x : Operand) (ho : o.op = .call { callee := .builtin .append, args := #[s, x], argTypes := #[37, 37] })
    (base : Nat) (v0 : Value) (l0 : List Int) (n : Int) (B c : Nat) (hs : a.eval s = v0) (hx : a.eval x = .slice (some ⟨B, 0, none⟩) 1 c) (h0 : OwnI w base v0 l0) (hB : w.cell? ⟨B, 0, none⟩ = some (.int .i64 n)) (hlen : (l0.length + 1) * 8 ≤ 140737488355328) (hbase : base ≤ w.heap.size)
    (h : ∀ v' w', OwnI w' base v' (l0 ++ [n]) → w.grownBy w' v0.ownBlock → (v'.ownBlock = v0.ownBlock ∨ v'.ownBlock = some w.heap.size) → K (a.put o.dst v') w') : o.wp Try.prog a w K Q := by
  have hi : Try.prog.info? 3 = some infoI := by kernel_rfl
  obtain ⟨z, hz⟩ : ∃ z, infoI.zero = some z ∧ z.cells.size = 1 := ⟨.int .i64 0, by kernel_rfl, by kernel_rfl⟩
  have hby : infoI.bytes = 8 := by kernel_rfl
  have ht : Try.prog.underlying 37 = some (.slice 3) := by kernel_rfl
  have hnews : ∀ j u, [Value.int .i64 n][j]? = some u → w.cell? ((⟨B, 0, none⟩ : Addr).add j) = some u := by
    intro j u hj
    rw [Addr.add_lit]
    match j, hj with
    | 0, hj => simp at hj; subst hj; exact hB
  have h1 : ∀ u ∈ [Value.int .i64 n], u.oneCell' = true := by intro u hu; simp at hu; rw [hu]; rfl
  have hl : [Value.int .i64 n].length = 1 * infoI.size := by rw [infoI_size]; rfl
  obtain ⟨v', w', hr, h2, h3, _⟩ := run_append_own (P := Try.prog) w base 37 o.type 3 infoI z 1 8 ht hi hz.1 infoI_size hby hz.2 (by omega) v0 l0.length (cellsI l0) h0 ⟨B, 0, none⟩ 1 c [Value.int .i64 n] rfl hnews h1 (by simp only [maxLen]; omega) hlen hbase
  have hnew : v'.ownBlock = v0.ownBlock ∨ v'.ownBlock = some w.heap.size := by
    have hown := h0
    unfold OwnI at hown
    rcases hown.2 with ⟨rfl, hn⟩ | ⟨g, cap, cur, rfl, hbg, hg, hnc, hcm, hcs, htake⟩
    · have hq := run_append_nil (P := Try.prog) w 37 o.type 3 infoI z ht hi hz.1 ⟨B, 0, none⟩ 1 c [Value.int .i64 n] hl hnews (by omega) (by omega) (by rw [hby]; omega)
      rw [hr] at hq
      injection hq with hq1 hq2
      rw [hq1]; exact Or.inr rfl
    · by_cases hroom : l0.length + 1 ≤ cap
      · have hq := run_append_room (P := Try.prog) w 37 o.type 3 infoI ht hi g l0.length cap cur hg ⟨B, 0, none⟩ 1 c [Value.int .i64 n] hl hnews h1 hroom (by rw [hl, hcs, infoI_size, ← Nat.add_mul]; exact Nat.mul_le_mul_right _ hroom)
        rw [hr] at hq
        injection hq with hq1 hq2
        rw [hq1]; exact Or.inl rfl
      · have hq := run_append_grow (P := Try.prog) w 37 o.type 3 infoI z ht hi hz.1 ⟨g, 0, none⟩ l0.length cap (cellsI l0) (by rw [infoI_size, cellsI_len]; omega) (hown.cells (g := g) rfl) ⟨B, 0, none⟩ 1 c [Value.int .i64 n] hl hnews (by omega) (by omega) (growslice_fits (by omega) (by rw [hby]; exact hlen))
        rw [hr] at hq
        injection hq with hq1 hq2
        rw [hq1]; exact Or.inr rfl
  unfold Oper.wp execOp
  simp only [ho, resolve, invoke, builtin, Sem.run_bind, Sem.run_pure, Result.andThen_ok, List.map_toArray, List.map_cons, List.map_nil, hs, hx, hr]
  refine h v' w' ?_ h3 hnew
  unfold OwnI
  rw [List.length_append, cellsI_app]
  exact h2
/-- The same, at the operation. -/
theorem wpl_append_oneI {ops : Array Oper} {rest : List Oper} {o : Oper} {a : Act} {Q : Exit → Act → World → Prop} {w : World} (hgd : o.guard = none) (s x : Operand) (ho : o.op = .call { callee := .builtin .append, args := #[s, x], argTypes := #[37, 37] })
    (base : Nat) (v0 : Value) (l0 : List Int) (n : Int) (B c : Nat) (hs : a.eval s = v0) (hx : a.eval x = .slice (some ⟨B, 0, none⟩) 1 c) (h0 : OwnI w base v0 l0) (hB : w.cell? ⟨B, 0, none⟩ = some (.int .i64 n)) (hlen : (l0.length + 1) * 8 ≤ 140737488355328) (hbase : base ≤ w.heap.size)
    (h : ∀ v' w', OwnI w' base v' (l0 ++ [n]) → w.grownBy w' v0.ownBlock → (v'.ownBlock = v0.ownBlock ∨ v'.ownBlock = some w.heap.size) → wpList Try.prog ops Q rest (a.put o.dst v') w') : wpList Try.prog ops Q (o :: rest) a w :=
  wpList_plain hgd fun _ hK => wp_append_oneI s x ho base v0 l0 n B c hs hx h0 hB hlen hbase fun v' w' h1 h2 h3 => hK _ _ (h v' w' h1 h2 h3)
theorem OwnI.nil (w : World) (base : Nat) : OwnI w base (.slice none 0 0) [] := ⟨by simp [cellsI], Or.inl ⟨rfl, rfl⟩⟩
/-- Where the list's own block lies. -/
theorem OwnI.past {w : World} {base : Nat} {v : Value} {l : List Int} (h : OwnI w base v l) : ∀ q, v.ownBlock = some q → base ≤ q := fun q hq => (World.ownsRow.lt h q hq).1
end Go.Proofs.Ytoocmogmocapoaa
