/-
  LISTS OF LINKS in memory, three numbers a link: an argument that is read, a slice that the call owns; one link appended; blocks of three cells.
-/
import Derived.Test.YtomfkmclgabcpaaDoorGraphPlain
import Derived.Test.YtomfkmclgabcpaaDoorBoxes
import Derived.Laws.AppendOwn
import Derived.Laws.AppendOwnNone
import Derived.Laws.OwnMore
namespace Go.Proofs.YtomfkmclgabcpaaDoor
open Go.RowKit

def Lk.v0 (x : Lk) : Value := .int .i64 x.1
def Lk.v1 (x : Lk) : Value := .int .i64 x.2.1
def Lk.v2 (x : Lk) : Value := .int .i64 x.2.2
/-- The cells of a list of links. -/
def cellsK : List Lk → List Value
  | [] => []
  | x :: r => Lk.v0 x :: Lk.v1 x :: Lk.v2 x :: cellsK r
theorem cellsK_len : ∀ l : List Lk, (cellsK l).length = l.length * 3
  | [] => rfl
  | x :: r => by rw [cellsK, List.length_cons, List.length_cons, List.length_cons, cellsK_len r, List.length_cons]; omega
theorem cellsK_app : ∀ l m : List Lk, cellsK (l ++ m) = cellsK l ++ cellsK m
  | [], _ => rfl
  | x :: r, m => by rw [List.cons_append, cellsK, cellsK, cellsK_app r m]; rfl
theorem cellsK_at : ∀ (l : List Lk) (i : Nat), i < l.length → (cellsK l)[i * 3]? = some (Lk.v0 l[i]!) ∧ (cellsK l)[i * 3 + 1]? = some (Lk.v1 l[i]!) ∧ (cellsK l)[i * 3 + 2]? = some (Lk.v2 l[i]!)
  | x :: r, 0, _ => ⟨rfl, rfl, rfl⟩
  | x :: r, i + 1, h => by
    have h1 := cellsK_at r i (by simpa using h)
    rw [cellsK, show (i + 1) * 3 = i * 3 + 1 + 1 + 1 by omega, show i * 3 + 1 + 1 + 1 + 1 = i * 3 + 1 + 1 + 1 + 1 from rfl, show i * 3 + 1 + 1 + 1 + 2 = i * 3 + 2 + 1 + 1 + 1 by omega]
    simp only [List.getElem?_cons_succ]
    simpa using h1
theorem cellsK_one (l : List Lk) : ∀ u ∈ cellsK l, u.oneCell' = true := by
  induction l with
  | nil => intro u hu; simp [cellsK] at hu
  | cons x r ih =>
    intro u hu
    rw [cellsK, List.mem_cons, List.mem_cons, List.mem_cons] at hu
    rcases hu with rfl | rfl | rfl | hu
    · rfl
    · rfl
    · rfl
    · exact ih u hu

/-- A list that lies at a place, to be read. -/
structure SeenK (w : World) (b off : Nat) (l : List Lk) : Prop where
  c0 : ∀ i, i < l.length → w.cell? ⟨b, off + i * 3, none⟩ = some (Lk.v0 l[i]!)
  c1 : ∀ i, i < l.length → w.cell? ⟨b, off + i * 3 + 1, none⟩ = some (Lk.v1 l[i]!)
  c2 : ∀ i, i < l.length → w.cell? ⟨b, off + i * 3 + 2, none⟩ = some (Lk.v2 l[i]!)
theorem SeenK.below {w w1 : World} {b off n : Nat} {l : List Lk} (h : SeenK w b off l) (hb : Below n w w1) (hn : b < n) : SeenK w1 b off l :=
  ⟨fun i hi => (hb.cell (p := ⟨b, off + i * 3, none⟩) hn).trans (h.c0 i hi), fun i hi => (hb.cell (p := ⟨b, off + i * 3 + 1, none⟩) hn).trans (h.c1 i hi), fun i hi => (hb.cell (p := ⟨b, off + i * 3 + 2, none⟩) hn).trans (h.c2 i hi)⟩
theorem SeenK.cells {w : World} {b off : Nat} {l : List Lk} (h : SeenK w b off l) (j : Nat) (u : Value) (hu : (cellsK l)[j]? = some u) : w.cell? ⟨b, off + j, none⟩ = some u := by
  have hj : j < l.length * 3 := by rw [← cellsK_len]; exact (List.getElem?_eq_some_iff.1 hu).1
  have hk : j / 3 < l.length := by omega
  obtain ⟨t0, t1, t2⟩ := cellsK_at l (j / 3) hk
  have h3 : j = j / 3 * 3 ∨ j = j / 3 * 3 + 1 ∨ j = j / 3 * 3 + 2 := by omega
  rcases h3 with e | e | e
  · rw [e] at hu ⊢
    rw [hu] at t0
    rw [h.c0 _ hk, Option.some.inj t0]
  · rw [e] at hu ⊢
    rw [hu] at t1
    rw [← Nat.add_assoc, h.c1 _ hk, Option.some.inj t1]
  · rw [e] at hu ⊢
    rw [hu] at t2
    rw [← Nat.add_assoc, h.c2 _ hk, Option.some.inj t2]
theorem SeenK.of {w : World} {b off : Nat} {l : List Lk} (h : ∀ j u, (cellsK l)[j]? = some u → w.cell? ⟨b, off + j, none⟩ = some u) : SeenK w b off l :=
  ⟨fun i hi => h _ _ (cellsK_at l i hi).1, fun i hi => by rw [Nat.add_assoc]; exact h _ _ (cellsK_at l i hi).2.1, fun i hi => by rw [Nat.add_assoc]; exact h _ _ (cellsK_at l i hi).2.2⟩

/-- A value that is such a list. -/
def ArgK (w : World) (v : Value) (l : List Lk) : Prop := ∃ p c, v = .slice p l.length c ∧ (l = [] ∨ ∃ b off, p = some ⟨b, off, none⟩ ∧ b < w.heap.size ∧ SeenK w b off l)
theorem ArgK.below {w w1 : World} {v : Value} {l : List Lk} (h : ArgK w v l) (hb : Below w.heap.size w w1) : ArgK w1 v l := by
  obtain ⟨p, c, hv, h⟩ := h
  refine ⟨p, c, hv, ?_⟩
  rcases h with h | ⟨b, off, hp, hlt, hs⟩
  · exact Or.inl h
  · exact Or.inr ⟨b, off, hp, Nat.lt_of_lt_of_le hlt hb.size, hs.below hb hlt⟩

/-- A slice that the call owns, of just these links. -/
def OwnK (w : World) (base : Nat) (v : Value) (l : List Lk) : Prop := w.ownsRow base 48 3 v l.length (cellsK l)
theorem OwnK.nil (w : World) (base : Nat) : OwnK w base (.slice none 0 0) [] := by
  refine ⟨by simp [cellsK], Or.inl ⟨rfl, rfl⟩⟩
theorem OwnK.seen {w : World} {base g cap : Nat} {l : List Lk} {cur : Array Value} {T : TypeId} {fr : Nat × Nat} (hg : w.heap[g]? = some (.cells cur T fr)) (hc : cur.toList.take (l.length * 3) = cellsK l) (_ : base ≤ g) (_ : l.length ≤ cap) : SeenK w g 0 l := by
  refine SeenK.of fun j u hu => ?_
  have hj : j < l.length * 3 := by rw [← cellsK_len]; exact (List.getElem?_eq_some_iff.1 hu).1
  rw [← hc, List.getElem?_take_of_lt hj] at hu
  simp only [World.cell?, hg, Nat.zero_add]
  simpa using hu
theorem OwnK.arg {w : World} {base : Nat} {v : Value} {l : List Lk} (h : OwnK w base v l) : ArgK w v l := by
  obtain ⟨_, ⟨hv, hn⟩ | ⟨g, cap, cur, hv, hb, hg, hcap, _, _, hc⟩⟩ := h
  · have e : l = [] := List.length_eq_zero_iff.1 hn
    subst e
    exact ⟨none, 0, hv, Or.inl rfl⟩
  · exact ⟨_, cap, hv, Or.inr ⟨g, 0, rfl, (Array.getElem?_eq_some_iff.1 hg).1, OwnK.seen hg hc hb hcap⟩⟩
theorem OwnK.keep {w w1 : World} {base : Nat} {v : Value} {l : List Lk} (h : OwnK w base v l) (hb : Below w.heap.size w w1) : OwnK w1 base v l := by
  obtain ⟨h1, h2⟩ := h
  refine ⟨h1, ?_⟩
  rcases h2 with h2 | ⟨g, cap, cur, hv, hg0, hg, rest⟩
  · exact Or.inl h2
  · exact Or.inr ⟨g, cap, cur, hv, hg0, by rw [hb.block g (Array.getElem?_eq_some_iff.1 hg).1]; exact hg, rest⟩
theorem OwnK.down {w : World} {b b' : Nat} {v : Value} {l : List Lk} (h : OwnK w b' v l) (hb : b ≤ b') : OwnK w b v l := by
  obtain ⟨h1, h2⟩ := h
  refine ⟨h1, ?_⟩
  rcases h2 with h2 | ⟨g, cap, cur, hv, hg0, rest⟩
  · exact Or.inl h2
  · exact Or.inr ⟨g, cap, cur, hv, Nat.le_trans hb hg0, rest⟩

/-- A block of three cells: whole, not frozen. -/
structure Box3 (w : World) (b : Nat) (x y z : Value) : Prop where
  lt : b < w.heap.size
  c0 : w.cell? ⟨b, 0, none⟩ = some x
  c1 : w.cell? ⟨b, 1, none⟩ = some y
  c2 : w.cell? ⟨b, 2, none⟩ = some z
theorem Box3.below {w w1 : World} {b n : Nat} {x y z : Value} (h : Box3 w b x y z) (hb : Below n w w1) (hn : b < n) : Box3 w1 b x y z :=
  ⟨Nat.lt_of_lt_of_le h.lt hb.size, (hb.cell (p := ⟨b, 0, none⟩) hn).trans h.c0, (hb.cell (p := ⟨b, 1, none⟩) hn).trans h.c1, (hb.cell (p := ⟨b, 2, none⟩) hn).trans h.c2⟩
theorem Box3.new (w : World) (x y z : Value) (T : TypeId) : Box3 (w.alloc (.cells #[x, y, z] T)) w.heap.size x y z :=
  ⟨by simp, by simp, by simp, by simp⟩
/-- Another block written anew. -/
theorem Box3.past {w : World} {b c : Nat} {x y z : Value} (h : Box3 w b x y z) (hc : b ≠ c) (i : Nat) (v : Value) : Box3 (w.setCell ⟨c, i, none⟩ v) b x y z :=
  ⟨by simpa [World.setCell] using h.lt, (World.cell?_setCell_other _ _ _ _ (fun e => hc (congrArg Addr.block e).symm)).trans h.c0, (World.cell?_setCell_other _ _ _ _ (fun e => hc (congrArg Addr.block e).symm)).trans h.c1, (World.cell?_setCell_other _ _ _ _ (fun e => hc (congrArg Addr.block e).symm)).trans h.c2⟩
theorem Box3.drew {w : World} {b : Nat} {x y z : Value} (h : Box3 w b x y z) : Box3 w.drew b x y z := ⟨h.lt, h.c0, h.c1, h.c2⟩
/-- One block laid, then a call. -/
theorem lk1 {w w1 : World} {x y z : Value} {T : TypeId} (hb : Below (w.alloc (.cells #[x, y, z] T)).heap.size (w.alloc (.cells #[x, y, z] T)) w1) : Box3 w1 w.heap.size x y z ∧ Below w.heap.size w w1 :=
  ⟨(Box3.new w x y z T).below hb (Box3.new w x y z T).lt, ((Below.refl _ w).alloc (Nat.le_refl _) _).trans (hb.mono (by simp))⟩

noncomputable def infoK : TypeInfo := (Tryd.prog.info? 48).get (by kernel_rfl)
theorem infoK_size : infoK.size = 3 := by kernel_rfl
theorem infoK_is : Tryd.prog.info? 48 = some infoK := by kernel_rfl
theorem infoK_zero : ∃ z, infoK.zero = some z ∧ z.cells.size = 3 := ⟨.agg #[.int .i64 0, .int .i64 0, .int .i64 0], by kernel_rfl, by kernel_rfl⟩
theorem infoK_bytes : infoK.bytes = 24 := by kernel_rfl
/-- One link appended to a list that the call owns: the list stays where it is, or lies in a new block. -/
theorem wp_append_oneK {o : Oper} {a : Act} {K : Act → World → Prop} {Q : Exit → Act → World → Prop} {w : World} (s x : Operand) (ho : o.op = .call { callee := .builtin .append, args := #[s, x], argTypes := #[22, 22] })
    (base : Nat) (v0 : Value) (l0 : List Lk) (n : Lk) (B c : Nat) (hs : a.eval s = v0) (hx : a.eval x = .slice (some ⟨B, 0, none⟩) 1 c) (h0 : OwnK w base v0 l0) (hB : Box3 w B (Lk.v0 n) (Lk.v1 n) (Lk.v2 n)) (hlen : (l0.length + 1) * 24 ≤ 140737488355328) (hbase : base ≤ w.heap.size)
    (h : ∀ v' w', OwnK w' base v' (l0 ++ [n]) → w.grownBy w' v0.ownBlock → (v'.ownBlock = v0.ownBlock ∨ v'.ownBlock = some w.heap.size) → K (a.put o.dst v') w') : o.wp Tryd.prog a w K Q := by
  have hi := infoK_is
  obtain ⟨z, hz⟩ := infoK_zero
  have hby := infoK_bytes
  have ht : Tryd.prog.underlying 22 = some (.slice 48) := by kernel_rfl
  have hnews : ∀ j u, [Lk.v0 n, Lk.v1 n, Lk.v2 n][j]? = some u → w.cell? ((⟨B, 0, none⟩ : Addr).add j) = some u := by
    intro j u hj
    rw [Addr.add_lit]
    match j, hj with
    | 0, hj => simp at hj; subst hj; exact hB.c0
    | 1, hj => simp at hj; subst hj; exact hB.c1
    | 2, hj => simp at hj; subst hj; exact hB.c2
  have h1 : ∀ u ∈ [Lk.v0 n, Lk.v1 n, Lk.v2 n], u.oneCell' = true := by intro u hu; simp [Lk.v0, Lk.v1, Lk.v2] at hu; rcases hu with rfl | rfl | rfl <;> rfl
  have hl : [Lk.v0 n, Lk.v1 n, Lk.v2 n].length = 1 * infoK.size := by rw [infoK_size]; rfl
  obtain ⟨v', w', hr, h2, h3, _⟩ := run_append_own (P := Tryd.prog) w base 22 o.type 48 infoK z 3 24 ht hi hz.1 infoK_size hby hz.2 (by omega) v0 l0.length (cellsK l0) h0 ⟨B, 0, none⟩ 1 c [Lk.v0 n, Lk.v1 n, Lk.v2 n] rfl hnews h1 (by simp only [maxLen]; omega) hlen hbase
  have hnew : v'.ownBlock = v0.ownBlock ∨ v'.ownBlock = some w.heap.size := by
    have hown := h0
    unfold OwnK at hown
    rcases hown.2 with ⟨rfl, hn⟩ | ⟨g, cap, cur, rfl, hbg, hg, hnc, hcm, hcs, htake⟩
    · have hq := run_append_nil (P := Tryd.prog) w 22 o.type 48 infoK z ht hi hz.1 ⟨B, 0, none⟩ 1 c [Lk.v0 n, Lk.v1 n, Lk.v2 n] hl hnews (by omega) (by omega) (by rw [hby]; omega)
      rw [hr] at hq
      injection hq with hq1 hq2
      rw [hq1]; exact Or.inr rfl
    · by_cases hroom : l0.length + 1 ≤ cap
      · have hq := run_append_room (P := Tryd.prog) w 22 o.type 48 infoK ht hi g l0.length cap cur hg ⟨B, 0, none⟩ 1 c [Lk.v0 n, Lk.v1 n, Lk.v2 n] hl hnews h1 hroom (by rw [hl, hcs, infoK_size, ← Nat.add_mul]; exact Nat.mul_le_mul_right _ hroom)
        rw [hr] at hq
        injection hq with hq1 hq2
        rw [hq1]; exact Or.inl rfl
      · have hq := run_append_grow (P := Tryd.prog) w 22 o.type 48 infoK z ht hi hz.1 ⟨g, 0, none⟩ l0.length cap (cellsK l0) (by rw [infoK_size]; exact cellsK_len l0) (hown.cells (g := g) rfl) ⟨B, 0, none⟩ 1 c [Lk.v0 n, Lk.v1 n, Lk.v2 n] hl hnews (by omega) (by omega) (growslice_fits (by omega) (by rw [hby]; exact hlen))
        rw [hr] at hq
        injection hq with hq1 hq2
        rw [hq1]; exact Or.inr rfl
  unfold Oper.wp execOp
  simp only [ho, resolve, invoke, builtin, Sem.run_bind, Sem.run_pure, Result.andThen_ok, List.map_toArray, List.map_cons, List.map_nil, hs, hx, hr]
  refine h v' w' ?_ h3 hnew
  unfold OwnK
  rw [List.length_append, cellsK_app]
  exact h2
/-- The same, at the operation. -/
theorem wpl_append_oneK {ops : Array Oper} {rest : List Oper} {o : Oper} {a : Act} {Q : Exit → Act → World → Prop} {w : World} (hgd : o.guard = none) (s x : Operand) (ho : o.op = .call { callee := .builtin .append, args := #[s, x], argTypes := #[22, 22] })
    (base : Nat) (v0 : Value) (l0 : List Lk) (n : Lk) (B c : Nat) (hs : a.eval s = v0) (hx : a.eval x = .slice (some ⟨B, 0, none⟩) 1 c) (h0 : OwnK w base v0 l0) (hB : Box3 w B (Lk.v0 n) (Lk.v1 n) (Lk.v2 n)) (hlen : (l0.length + 1) * 24 ≤ 140737488355328) (hbase : base ≤ w.heap.size)
    (h : ∀ v' w', OwnK w' base v' (l0 ++ [n]) → w.grownBy w' v0.ownBlock → (v'.ownBlock = v0.ownBlock ∨ v'.ownBlock = some w.heap.size) → wpList Tryd.prog ops Q rest (a.put o.dst v') w') : wpList Tryd.prog ops Q (o :: rest) a w :=
  wpList_plain hgd fun _ hK => wp_append_oneK s x ho base v0 l0 n B c hs hx h0 hB hlen hbase fun v' w' h1 h2 h3 => hK _ _ (h v' w' h1 h2 h3)
theorem OwnK.past {w : World} {base : Nat} {v : Value} {l : List Lk} (h : OwnK w base v l) : ∀ q, v.ownBlock = some q → base ≤ q := fun q hq => (World.ownsRow.lt h q hq).1
end Go.Proofs.YtomfkmclgabcpaaDoor
