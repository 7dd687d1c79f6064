/-
  ENTRIES in memory: one in a block of its own, a list that is read, a slice that the call owns; one entry appended; a message.
-/
import Derived.Test.YtlgkjbkbdmneaaaDoorByteList
import Derived.Lib.Hide
namespace Go.Proofs.YtlgkjbkbdmneaaaDoor
open Go.RowKit

/-- An entry's value. -/
def En.v (e : En) : Value := .agg #[.int .u32 (e.a : Int), .int .i64 e.n, .int .i64 e.t, .int .u32 (e.h : Int), .int .i64 e.m]
def En.cells (e : En) : Array Value := #[.int .u32 (e.a : Int), .int .i64 e.n, .int .i64 e.t, .int .u32 (e.h : Int), .int .i64 e.m]
def cellsE : List En → List Value
  | [] => []
  | e :: r => .int .u32 (e.a : Int) :: .int .i64 e.n :: .int .i64 e.t :: .int .u32 (e.h : Int) :: .int .i64 e.m :: cellsE r
theorem cellsE_len : ∀ l : List En, (cellsE l).length = l.length * 5
  | [] => rfl
  | e :: r => by simp only [cellsE, List.length_cons, cellsE_len r]; omega
theorem cellsE_app : ∀ l m : List En, cellsE (l ++ m) = cellsE l ++ cellsE m
  | [], _ => rfl
  | e :: r, m => by rw [List.cons_append, cellsE, cellsE, cellsE_app r m]; rfl
theorem cellsE_at : ∀ (l : List En) (i : Nat), i < l.length → (cellsE l)[i * 5]? = some (.int .u32 (l[i]!.a : Int)) ∧ (cellsE l)[i * 5 + 1]? = some (.int .i64 l[i]!.n) ∧ (cellsE l)[i * 5 + 2]? = some (.int .i64 l[i]!.t) ∧ (cellsE l)[i * 5 + 3]? = some (.int .u32 (l[i]!.h : Int)) ∧ (cellsE l)[i * 5 + 4]? = some (.int .i64 l[i]!.m)
  | e :: r, 0, _ => ⟨rfl, rfl, rfl, rfl, rfl⟩
  | e :: r, i + 1, h => by
    have h1 := cellsE_at r i (by simpa using h)
    rw [cellsE, show (i + 1) * 5 = i * 5 + 1 + 1 + 1 + 1 + 1 by omega]
    simp only [Nat.add_right_comm _ 1 1, Nat.add_right_comm _ 1 2, List.getElem?_cons_succ]
    simpa using h1
theorem cellsE_one (l : List En) : ∀ u ∈ cellsE l, u.oneCell' = true := by
  induction l with
  | nil => intro u hu; simp [cellsE] at hu
  | cons x r ih =>
    intro u hu
    rw [cellsE] at hu
    simp only [List.mem_cons] at hu
    rcases hu with rfl | rfl | rfl | rfl | rfl | hu
    · rfl
    · rfl
    · rfl
    · rfl
    · rfl
    · exact ih u hu

/-- An entry that lies at a place. -/
structure SeenO (w : World) (b off : Nat) (e : En) : Prop where
  c0 : w.cell? ⟨b, off, none⟩ = some (.int .u32 (e.a : Int))
  c1 : w.cell? ⟨b, off + 1, none⟩ = some (.int .i64 e.n)
  c2 : w.cell? ⟨b, off + 2, none⟩ = some (.int .i64 e.t)
  c3 : w.cell? ⟨b, off + 3, none⟩ = some (.int .u32 (e.h : Int))
  c4 : w.cell? ⟨b, off + 4, none⟩ = some (.int .i64 e.m)
theorem SeenO.ofBlock {w w1 : World} {b off : Nat} {e : En} (h : SeenO w b off e) (hb : w1.heap[b]? = w.heap[b]?) : SeenO w1 b off e :=
  ⟨(World.cell?_of_block (w := w) (a := ⟨b, off, none⟩) hb).trans h.c0, (World.cell?_of_block (w := w) (a := ⟨b, off + 1, none⟩) hb).trans h.c1, (World.cell?_of_block (w := w) (a := ⟨b, off + 2, none⟩) hb).trans h.c2,
    (World.cell?_of_block (w := w) (a := ⟨b, off + 3, none⟩) hb).trans h.c3, (World.cell?_of_block (w := w) (a := ⟨b, off + 4, none⟩) hb).trans h.c4⟩
theorem SeenO.below {w w1 : World} {b off n : Nat} {e : En} (h : SeenO w b off e) (hb : Below n w w1) (hn : b < n) : SeenO w1 b off e := h.ofBlock (hb.block b hn)
theorem SeenO.lt {w : World} {b off : Nat} {e : En} (h : SeenO w b off e) : b < w.heap.size := World.block_lt_of_cell? _ _ h.c0
/-- An entry in a block of its own. -/
structure EBox (w : World) (b : Nat) (e : En) : Prop where
  seen : SeenO w b 0 e
  free : ∀ o, w.frozen? ⟨b, o, none⟩ = false
theorem EBox.new (w : World) (e : En) (T : TypeId) : EBox (w.alloc (.cells #[.int .u32 (e.a : Int), .int .i64 e.n, .int .i64 e.t, .int .u32 (e.h : Int), .int .i64 e.m] T)) w.heap.size e :=
  ⟨⟨by simp, by simp, by simp, by simp, by simp⟩, fun o => by simp⟩
theorem EBox.lt {w : World} {b : Nat} {e : En} (h : EBox w b e) : b < w.heap.size := h.seen.lt
theorem EBox.ofBlock {w w1 : World} {b : Nat} {e : En} (h : EBox w b e) (hb : w1.heap[b]? = w.heap[b]?) : EBox w1 b e :=
  ⟨h.seen.ofBlock hb, fun o => (World.frozen?_of_block (w := w) (a := ⟨b, o, none⟩) hb).trans (h.free o)⟩
theorem EBox.kept {w w1 : World} {b : Nat} {e : En} (h : EBox w b e) (hb : Below w.heap.size w w1) : EBox w1 b e := h.ofBlock (hb.block b h.lt)
theorem EBox.app {w w1 : World} {b : Nat} {e : En} {v v' : Value} (h : EBox w b e) (k : AppTo w v w1 v') (hn : v.ownBlock ≠ some b) : EBox w1 b e := h.ofBlock (k.block h.lt hn)

/-- A list that lies at a place, to be read. -/
def SeenE (w : World) (b off : Nat) (l : List En) : Prop := ∀ i, i < l.length → SeenO w b (off + i * 5) l[i]!
theorem SeenE.ofBlock {w w1 : World} {b off : Nat} {l : List En} (h : SeenE w b off l) (hb : w1.heap[b]? = w.heap[b]?) : SeenE w1 b off l := fun i hi => (h i hi).ofBlock hb
theorem SeenE.below {w w1 : World} {b off n : Nat} {l : List En} (h : SeenE w b off l) (hb : Below n w w1) (hn : b < n) : SeenE w1 b off l := h.ofBlock (hb.block b hn)
theorem five (n : Nat) : n = n / 5 * 5 ∨ n = n / 5 * 5 + 1 ∨ n = n / 5 * 5 + 2 ∨ n = n / 5 * 5 + 3 ∨ n = n / 5 * 5 + 4 := by omega
theorem SeenE.cells {w : World} {b off : Nat} {l : List En} (h : SeenE w b off l) (j : Nat) (u : Value) (hu : (cellsE l)[j]? = some u) : w.cell? ⟨b, off + j, none⟩ = some u := by
  have hj : j < l.length * 5 := by rw [← cellsE_len]; exact (List.getElem?_eq_some_iff.1 hu).1
  have hi : j / 5 < l.length := by omega
  have hs := h _ hi
  have hc := cellsE_at l _ hi
  have h5 := five j
  generalize j / 5 = i at *
  rcases h5 with rfl | rfl | rfl | rfl | rfl
  · rw [hu] at hc; rw [hs.c0, Option.some.inj hc.1]
  · rw [hu] at hc; rw [← Nat.add_assoc, hs.c1, Option.some.inj hc.2.1]
  · rw [hu] at hc; rw [← Nat.add_assoc, hs.c2, Option.some.inj hc.2.2.1]
  · rw [hu] at hc; rw [← Nat.add_assoc, hs.c3, Option.some.inj hc.2.2.2.1]
  · rw [hu] at hc; rw [← Nat.add_assoc, hs.c4, Option.some.inj hc.2.2.2.2]
theorem SeenE.of {w : World} {b off : Nat} {l : List En} (h : ∀ j u, (cellsE l)[j]? = some u → w.cell? ⟨b, off + j, none⟩ = some u) : SeenE w b off l := fun i hi => by
  have hc := cellsE_at l i hi
  exact ⟨h _ _ hc.1, by rw [Nat.add_assoc]; exact h _ _ hc.2.1, by rw [Nat.add_assoc]; exact h _ _ hc.2.2.1, by rw [Nat.add_assoc]; exact h _ _ hc.2.2.2.1, by rw [Nat.add_assoc]; exact h _ _ hc.2.2.2.2⟩
/-- A value that is such a list. -/
def ArgE (w : World) (v : Value) (l : List En) : Prop := ∃ p c, v = .slice p l.length c ∧ l.length ≤ c ∧ (l = [] ∨ ∃ b off, p = some ⟨b, off, none⟩ ∧ b < w.heap.size ∧ SeenE w b off l)
theorem ArgE.below {w w1 : World} {v : Value} {l : List En} (h : ArgE w v l) (hb : Below w.heap.size w w1) : ArgE w1 v l := by
  obtain ⟨p, c, hv, hc, h⟩ := h
  refine ⟨p, c, hv, hc, ?_⟩
  rcases h with h | ⟨b, off, hp, hlt, hs⟩
  · exact Or.inl h
  · exact Or.inr ⟨b, off, hp, Nat.lt_of_lt_of_le hlt hb.size, hs.below hb hlt⟩
theorem ArgE.nil (w : World) : ArgE w (.slice none 0 0) [] := ⟨none, 0, rfl, Nat.le_refl _, Or.inl rfl⟩
/-- A slice that the call owns, of just these entries. -/
def OwnE (w : World) (base : Nat) (v : Value) (l : List En) : Prop := w.ownsRow base 49 5 v l.length (cellsE l)
theorem OwnE.nil (w : World) (base : Nat) : OwnE w base (.slice none 0 0) [] := World.ownsRow_nil _ _ _ _
theorem OwnE.arg {w : World} {base : Nat} {v : Value} {l : List En} (h : OwnE w base v l) : ArgE w v l := by
  obtain ⟨_, ⟨hv, hn⟩ | ⟨g, cap, cur, hv, hb, hg, hcap, _, _, hc⟩⟩ := h
  · have e : l = [] := List.length_eq_zero_iff.1 hn
    subst e
    exact ⟨none, 0, hv, Nat.le_refl _, Or.inl rfl⟩
  · refine ⟨_, cap, hv, hcap, Or.inr ⟨g, 0, rfl, (Array.getElem?_eq_some_iff.1 hg).1, SeenE.of fun j u hu => ?_⟩⟩
    have hj : j < l.length * 5 := by rw [← cellsE_len]; exact (List.getElem?_eq_some_iff.1 hu).1
    rw [← hc, List.getElem?_take_of_lt hj] at hu
    simp only [World.cell?, hg, Nat.zero_add]
    simpa using hu
theorem OwnE.lt {w : World} {base : Nat} {v : Value} {l : List En} (h : OwnE w base v l) : ∀ j, v.ownBlock = some j → base ≤ j ∧ j < w.heap.size := World.ownsRow.lt h
theorem OwnE.keep {w w1 : World} {base : Nat} {v : Value} {l : List En} (h : OwnE w base v l) (hb : Below w.heap.size w w1) : OwnE w1 base v l :=
  rowKeepN h fun g hg => hb.block g (h.lt g hg).2
theorem OwnE.ofBlock {w w1 : World} {base : Nat} {v : Value} {l : List En} (h : OwnE w base v l) (hb : ∀ g, v.ownBlock = some g → w1.heap[g]? = w.heap[g]?) : OwnE w1 base v l := rowKeepN h hb
theorem OwnE.down {w : World} {b b' : Nat} {v : Value} {l : List En} (h : OwnE w b' v l) (hb : b ≤ b') : OwnE w b v l := by
  obtain ⟨h1, h2⟩ := h
  refine ⟨h1, ?_⟩
  rcases h2 with h2 | ⟨g, cap, cur, hv, hg0, rest⟩
  · exact Or.inl h2
  · exact Or.inr ⟨g, cap, cur, hv, Nat.le_trans hb hg0, rest⟩

noncomputable def infoE : TypeInfo := (Tryd.prog.info? 49).get (by kernel_rfl)
/-- One entry appended to a list that the call owns. -/
theorem wp_append_E {o : Oper} {a : Act} {K : Act → World → Prop} {Q : Exit → Act → World → Prop} {w : World} (s x : Operand) (ho : o.op = .call { callee := .builtin .append, args := #[s, x], argTypes := #[22, 22] })
    (base : Nat) (v0 : Value) (l0 : List En) (e : En) (B c : Nat) (hs : a.eval s = v0) (hx : a.eval x = .slice (some ⟨B, 0, none⟩) 1 c) (h0 : OwnE w base v0 l0) (h1 : SeenO w B 0 e) (hlen : (l0.length + 1) * 40 ≤ 140737488355328) (hbase : base ≤ w.heap.size)
    (h : ∀ v' w', OwnE w' base v' (l0 ++ [e]) → AppTo w v0 w' v' → K (a.put o.dst v') w') : o.wp Tryd.prog a w K Q := by
  have hi : Tryd.prog.info? 49 = some infoE := by kernel_rfl
  obtain ⟨z, hz⟩ : ∃ z, infoE.zero = some z ∧ z.cells.size = 5 := ⟨.agg #[.int .u32 0, .int .i64 0, .int .i64 0, .int .u32 0, .int .i64 0], by kernel_rfl, by kernel_rfl⟩
  have hby : infoE.bytes = 40 := by kernel_rfl
  have ht : Tryd.prog.underlying 22 = some (.slice 49) := by kernel_rfl
  have hS : SeenE w B 0 [e] := fun i hi => by
    have : i = 0 := by simp at hi; omega
    subst this; exact h1
  obtain ⟨v', w', hr, h2, h3⟩ := run_app (P := Tryd.prog) w base 22 o.type 49 infoE z 5 40 ht hi hz.1 (by kernel_rfl) hby hz.2 (by omega) v0 l0.length (cellsE l0) h0 ⟨B, 0, none⟩ 1 c (by omega) (cellsE [e]) (by rw [cellsE_len]; rfl) (fun j u hj => by rw [Addr.add_lit]; exact hS.cells j u hj) (cellsE_one [e]) (by simp only [maxLen]; omega) hlen hbase
  unfold Oper.wp execOp
  simp only [ho, resolve, invoke, builtin, Sem.run_bind, Sem.run_pure, Result.andThen_ok, List.map_toArray, List.map_cons, List.map_nil, hs, hx, hr]
  refine h v' w' ?_ h3
  unfold OwnE
  rw [List.length_append, cellsE_app]
  exact h2
end Go.Proofs.YtlgkjbkbdmneaaaDoor
