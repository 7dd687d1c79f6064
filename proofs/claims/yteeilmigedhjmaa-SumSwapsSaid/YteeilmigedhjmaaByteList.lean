/-
  LISTS OF BYTES in memory: an argument that is read, a part of it, a slice that the call owns; bytes appended.
-/
import Derived.Test.YteeilmigedhjmaaRowApp
import Derived.Test.YteeilmigedhjmaaWirePlain
namespace Go.Proofs.Yteeilmigedhjmaa
open Go.RowKit

def cellsB (l : List Nat) : List Value := l.map fun (z : Nat) => .int .u8 (z : Int)
theorem cellsB_len (l : List Nat) : (cellsB l).length = l.length := by simp [cellsB]
theorem cellsB_app (l m : List Nat) : cellsB (l ++ m) = cellsB l ++ cellsB m := by simp [cellsB]
theorem cellsB_one (l : List Nat) : ∀ u ∈ cellsB l, u.oneCell' = true := by
  intro u hu
  simp only [cellsB, List.mem_map] at hu
  obtain ⟨z, _, rfl⟩ := hu
  rfl
theorem cellsB_at (l : List Nat) (i : Nat) (hi : i < l.length) : (cellsB l)[i]? = some (.int .u8 ((l[i]! : Nat) : Int)) := by
  unfold cellsB
  rw [List.getElem?_map, List.getElem?_eq_getElem hi, getElem!_pos l i hi]; rfl
/-- A list of bytes that lies at a place, to be read. -/
def SeenB (w : World) (b off : Nat) (l : List Nat) : Prop := ∀ i, i < l.length → w.cell? ⟨b, off + i, none⟩ = some (.int .u8 ((l[i]! : Nat) : Int))
theorem SeenB.below {w w1 : World} {b off n : Nat} {l : List Nat} (h : SeenB w b off l) (hb : Below n w w1) (hn : b < n) : SeenB w1 b off l :=
  fun i hi => (hb.cell (p := ⟨b, off + i, none⟩) hn).trans (h i hi)
theorem SeenB.ofBlock {w w1 : World} {b off : Nat} {l : List Nat} (h : SeenB w b off l) (hb : w1.heap[b]? = w.heap[b]?) : SeenB w1 b off l :=
  fun i hi => (World.cell?_of_block (w := w) (a := ⟨b, off + i, none⟩) hb).trans (h i hi)
theorem SeenB.cells {w : World} {b off : Nat} {l : List Nat} (h : SeenB w b off l) (j : Nat) (u : Value) (hu : (cellsB l)[j]? = some u) : w.cell? ⟨b, off + j, none⟩ = some u := by
  have hj : j < l.length := by rw [← cellsB_len]; exact (List.getElem?_eq_some_iff.1 hu).1
  rw [cellsB_at l j hj] at hu
  rw [h j hj, Option.some.inj hu]
/-- A part of a list. -/
theorem SeenB.sub {w : World} {b off : Nat} {l : List Nat} (h : SeenB w b off l) (i n : Nat) : SeenB w b (off + i) ((l.drop i).take n) := by
  intro j hj
  have hj1 : j < n := by rw [List.length_take] at hj; omega
  have hj2 : i + j < l.length := by rw [List.length_take, List.length_drop] at hj; omega
  have := h (i + j) hj2
  rw [getElem!_pos l _ hj2] at this
  rw [getElem!_pos ((l.drop i).take n) j hj, List.getElem_take, List.getElem_drop, Nat.add_assoc]
  exact this
/-- A value that is such a list. -/
def ArgB (w : World) (v : Value) (l : List Nat) : Prop := ∃ p c, v = .slice p l.length c ∧ l.length ≤ c ∧ (l = [] ∨ ∃ b off, p = some ⟨b, off, none⟩ ∧ b < w.heap.size ∧ SeenB w b off l)
theorem ArgB.below {w w1 : World} {v : Value} {l : List Nat} (h : ArgB w v l) (hb : Below w.heap.size w w1) : ArgB w1 v l := by
  obtain ⟨p, c, hv, hc, h⟩ := h
  refine ⟨p, c, hv, hc, ?_⟩
  rcases h with h | ⟨b, off, hp, hlt, hs⟩
  · exact Or.inl h
  · exact Or.inr ⟨b, off, hp, Nat.lt_of_lt_of_le hlt hb.size, hs.below hb hlt⟩
/-- A slice that the call owns, of just these bytes. -/
def OwnB (w : World) (base : Nat) (v : Value) (l : List Nat) : Prop := w.ownsRow base 5 1 v l.length (cellsB l)
theorem OwnB.nil (w : World) (base : Nat) : OwnB w base (.slice none 0 0) [] := World.ownsRow_nil _ _ _ _
theorem OwnB.arg {w : World} {base : Nat} {v : Value} {l : List Nat} (h : OwnB w base v l) : ArgB w v l := by
  obtain ⟨_, ⟨hv, hn⟩ | ⟨g, cap, cur, hv, hb, hg, hcap, _, _, hc⟩⟩ := h
  · have e : l = [] := List.length_eq_zero_iff.1 hn
    subst e
    exact ⟨none, 0, hv, Nat.le_refl _, Or.inl rfl⟩
  · refine ⟨_, cap, hv, hcap, Or.inr ⟨g, 0, rfl, (Array.getElem?_eq_some_iff.1 hg).1, fun i hi => ?_⟩⟩
    have h1 := cellsB_at l i hi
    rw [← hc, Nat.mul_one, List.getElem?_take_of_lt hi] at h1
    simp only [World.cell?, hg, Nat.zero_add]
    simpa using h1
theorem OwnB.at {w : World} {base g n c : Nat} {l : List Nat} (h : OwnB w base (.slice (some ⟨g, 0, none⟩) n c) l) : n = l.length ∧ g < w.heap.size ∧ base ≤ g ∧ SeenB w g 0 l ∧ ∀ o, w.frozen? ⟨g, o, none⟩ = false := by
  obtain ⟨_, ⟨hv, hn⟩ | ⟨g', cap, cur, hv, hb, hg, hcap, _, _, hc⟩⟩ := h
  · simp at hv
  · simp only [Value.slice.injEq, Option.some.injEq, Addr.mk.injEq, and_true] at hv
    obtain ⟨rfl, rfl, rfl⟩ := hv
    refine ⟨rfl, (Array.getElem?_eq_some_iff.1 hg).1, hb, fun i hi => ?_, fun o => by simp [World.frozen?, hg]⟩
    have h1 := cellsB_at l i hi
    rw [← hc, Nat.mul_one, List.getElem?_take_of_lt hi] at h1
    simp only [World.cell?, hg, Nat.zero_add]
    simpa using h1
theorem OwnB.lt {w : World} {base : Nat} {v : Value} {l : List Nat} (h : OwnB w base v l) : ∀ j, v.ownBlock = some j → base ≤ j ∧ j < w.heap.size := World.ownsRow.lt h
theorem OwnB.keep {w w1 : World} {base : Nat} {v : Value} {l : List Nat} (h : OwnB w base v l) (hb : Below w.heap.size w w1) : OwnB w1 base v l :=
  rowKeepN h fun g hg => hb.block g (h.lt g hg).2
theorem OwnB.ofBlock {w w1 : World} {base : Nat} {v : Value} {l : List Nat} (h : OwnB w base v l) (hb : ∀ g, v.ownBlock = some g → w1.heap[g]? = w.heap[g]?) : OwnB w1 base v l := rowKeepN h hb
theorem OwnB.down {w : World} {b b' : Nat} {v : Value} {l : List Nat} (h : OwnB w b' v l) (hb : b ≤ b') : OwnB w b v l := by
  obtain ⟨h1, h2⟩ := h
  refine ⟨h1, ?_⟩
  rcases h2 with h2 | ⟨g, cap, cur, hv, hg0, rest⟩
  · exact Or.inl h2
  · exact Or.inr ⟨g, cap, cur, hv, Nat.le_trans hb hg0, rest⟩
/-- A slice of just these bytes, made anew. -/
theorem OwnB.made (w : World) (base : Nat) (l : List Nat) (cs : Array Value) (hc : cs.toList = cellsB l) (hb : base ≤ w.heap.size) (hl : l.length ≤ maxLen) :
    OwnB (w.alloc (.cells cs 5)) base (.slice (some ⟨w.heap.size, 0, none⟩) l.length l.length) l := by
  have hs : cs.size = l.length := by rw [← Array.length_toList, hc, cellsB_len]
  exact ⟨by rw [cellsB_len]; omega, .inr ⟨w.heap.size, l.length, cs, rfl, hb, heap_alloc_new w _, Nat.le_refl _, hl, by omega, by rw [Nat.mul_one, hc, ← cellsB_len, List.take_length]⟩⟩

noncomputable def infoB : TypeInfo := (Try.prog.info? 5).get (by kernel_rfl)
/-- Bytes appended to a list that the call owns. -/
theorem wp_append_B {o : Oper} {a : Act} {K : Act → World → Prop} {Q : Exit → Act → World → Prop} {w : World} (s x : Operand) (ho : o.op = .call { callee := .builtin .append, args := #[s, x], argTypes := #[22, 22] })
    (base : Nat) (v0 : Value) (l0 l1 : List Nat) (ad : Addr) (m c : Nat) (hs : a.eval s = v0) (hx : a.eval x = .slice (some ad) m c) (h0 : OwnB w base v0 l0) (hm : m = l1.length) (hpos : 0 < m) (h1 : ∀ j u, (cellsB l1)[j]? = some u → w.cell? (ad.add j) = some u) (hlen : l0.length + l1.length ≤ 140737488355328) (hbase : base ≤ w.heap.size)
    (h : ∀ v' w', OwnB w' base v' (l0 ++ l1) → AppTo w v0 w' v' → K (a.put o.dst v') w') : o.wp Try.prog a w K Q := by
  have hi : Try.prog.info? 5 = some infoB := by kernel_rfl
  obtain ⟨z, hz⟩ : ∃ z, infoB.zero = some z ∧ z.cells.size = 1 := ⟨.int .u8 0, by kernel_rfl, by kernel_rfl⟩
  have hby : infoB.bytes = 1 := by kernel_rfl
  have ht : Try.prog.underlying 22 = some (.slice 5) := by kernel_rfl
  obtain ⟨v', w', hr, h2, h3⟩ := run_app (P := Try.prog) w base 22 o.type 5 infoB z 1 1 ht hi hz.1 (by kernel_rfl) hby hz.2 (by omega) v0 l0.length (cellsB l0) h0 ad m c hpos (cellsB l1) (by rw [cellsB_len]; omega) h1 (cellsB_one l1) (by simp only [maxLen]; omega) (by omega) hbase
  unfold Oper.wp execOp
  simp only [ho, resolve, invoke, builtin, Sem.run_bind, Sem.run_pure, Result.andThen_ok, List.map_toArray, List.map_cons, List.map_nil, hs, hx, hr]
  refine h v' w' ?_ h3
  unfold OwnB
  rw [List.length_append, cellsB_app, ← hm]
  exact h2
end Go.Proofs.Yteeilmigedhjmaa
