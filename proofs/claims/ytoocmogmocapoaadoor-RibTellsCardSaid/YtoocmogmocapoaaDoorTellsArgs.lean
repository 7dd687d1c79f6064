/-
  LISTS OF NUMBERS in memory: an argument that is read, a slice that the call owns; one number appended.
  PLAIN: what lies at a place of a list of numbers, or of networks, that is an argument.
  An argument that is a network (a struct of two numbers, by value): opened to its numbers, and shut again.
  An argument that is a slice of networks: opened to the list that it is.
  A slice with room for what it holds.
  An argument that is a slice of numbers: opened to the list that it is.
-/
import Derived.Test.YtoocmogmocapoaaDoorBoxes
import Derived.Laws.AppendOwn
import Derived.Laws.AppendOwnNone
import Derived.Laws.OwnMore
import Derived.Test.YtoocmogmocapoaaDoorNetList
import Derived.Test.YtoocmogmocapoaaDoorRibActs
import Derived.Test.YtoocmogmocapoaaDoorProg
import Derived.ProofKit
import Derived.OpenShut
import Derived.Lib.SmallJoins
import Derived.Deep.SlicePairs
import Derived.SizedLaws
import Derived.Carry
import Derived.ChangeSlices
namespace Go.Proofs.YtoocmogmocapoaaDoor
open Go.RowKit

def cellsI (l : List Int) : List Value := l.map fun z => .int .i64 z
theorem cellsI_len (l : List Int) : (cellsI l).length = l.length := by simp [cellsI]
theorem cellsI_app (l m : List Int) : cellsI (l ++ m) = cellsI l ++ cellsI m := by simp [cellsI]
theorem cellsI_one (l : List Int) : ∀ u ∈ cellsI l, u.oneCell' = true := by
  intro u hu
  simp only [cellsI, List.mem_map] at hu
  obtain ⟨z, _, rfl⟩ := hu
  rfl
/-- A list of numbers that lies at a place, to be read. -/
def SeenI (w : World) (b off : Nat) (l : List Int) : Prop := ∀ i, i < l.length → w.cell? ⟨b, off + i, none⟩ = some (.int .i64 l[i]!)
theorem SeenI.below {w w1 : World} {b off n : Nat} {l : List Int} (h : SeenI w b off l) (hb : Below n w w1) (hn : b < n) : SeenI w1 b off l :=
  fun i hi => (hb.cell (p := ⟨b, off + i, none⟩) hn).trans (h i hi)
/-- A value that is such a list. -/
def ArgI (w : World) (v : Value) (l : List Int) : Prop := ∃ p c, v = .slice p l.length c ∧ (l = [] ∨ ∃ b off, p = some ⟨b, off, none⟩ ∧ b < w.heap.size ∧ SeenI w b off l)
theorem ArgI.below {w w1 : World} {v : Value} {l : List Int} (h : ArgI w v l) (hb : Below w.heap.size w w1) : ArgI w1 v l := by
  obtain ⟨p, c, hv, h⟩ := h
  refine ⟨p, c, hv, ?_⟩
  rcases h with h | ⟨b, off, hp, hlt, hs⟩
  · exact Or.inl h
  · exact Or.inr ⟨b, off, hp, Nat.lt_of_lt_of_le hlt hb.size, hs.below hb hlt⟩
/-- A slice that the call owns, of just these numbers. -/
def OwnI (w : World) (base : Nat) (v : Value) (l : List Int) : Prop := w.ownsRow base 3 1 v l.length (cellsI l)
theorem OwnI.arg {w : World} {base : Nat} {v : Value} {l : List Int} (h : OwnI w base v l) : ArgI w v l := by
  obtain ⟨_, ⟨hv, hn⟩ | ⟨g, cap, cur, hv, hb, hg, hcap, _, _, hc⟩⟩ := h
  · have e : l = [] := List.length_eq_zero_iff.1 hn
    subst e
    exact ⟨none, 0, hv, Or.inl rfl⟩
  · refine ⟨_, cap, hv, Or.inr ⟨g, 0, rfl, (Array.getElem?_eq_some_iff.1 hg).1, fun i hi => ?_⟩⟩
    have h1 : (cellsI l)[i]? = some (.int .i64 l[i]!) := by
      unfold cellsI
      rw [List.getElem?_map, List.getElem?_eq_getElem hi, getElem!_pos l i hi]; rfl
    rw [← hc, Nat.mul_one, List.getElem?_take_of_lt hi] at h1
    simp only [World.cell?, hg, Nat.zero_add]
    simpa using h1
theorem OwnI.keep {w w1 : World} {base : Nat} {v : Value} {l : List Int} (h : OwnI w base v l) (hb : Below w.heap.size w w1) : OwnI w1 base v l := by
  obtain ⟨h1, h2⟩ := h
  refine ⟨h1, ?_⟩
  rcases h2 with h2 | ⟨g, cap, cur, hv, hg0, hg, rest⟩
  · exact Or.inl h2
  · exact Or.inr ⟨g, cap, cur, hv, hg0, by rw [hb.block g (Array.getElem?_eq_some_iff.1 hg).1]; exact hg, rest⟩
theorem OwnI.down {w : World} {b b' : Nat} {v : Value} {l : List Int} (h : OwnI w b' v l) (hb : b ≤ b') : OwnI w b v l := by
  obtain ⟨h1, h2⟩ := h
  refine ⟨h1, ?_⟩
  rcases h2 with h2 | ⟨g, cap, cur, hv, hg0, rest⟩
  · exact Or.inl h2
  · exact Or.inr ⟨g, cap, cur, hv, Nat.le_trans hb hg0, rest⟩
noncomputable def infoI : TypeInfo := (Tryd.prog.info? 3).get (by kernel_rfl)
theorem infoI_size : infoI.size = 1 := by kernel_rfl
/-- One number appended to a list that the call owns: the list stays where it is, or lies in a new block. -/
theorem wp_append_oneI {o : Oper} {a : Act} {K : Act → World → Prop} {Q : Exit → Act → World → Prop} {w : World} (s x : Operand) (ho : o.op = .call { callee := .builtin .append, args := #[s, x], argTypes := #[22, 22] })
    (base : Nat) (v0 : Value) (l0 : List Int) (n : Int) (B c : Nat) (hs : a.eval s = v0) (hx : a.eval x = .slice (some ⟨B, 0, none⟩) 1 c) (h0 : OwnI w base v0 l0) (hB : w.cell? ⟨B, 0, none⟩ = some (.int .i64 n)) (hlen : (l0.length + 1) * 8 ≤ 140737488355328) (hbase : base ≤ w.heap.size)
    (h : ∀ v' w', OwnI w' base v' (l0 ++ [n]) → w.grownBy w' v0.ownBlock → (v'.ownBlock = v0.ownBlock ∨ v'.ownBlock = some w.heap.size) → K (a.put o.dst v') w') : o.wp Tryd.prog a w K Q := by
  have hi : Tryd.prog.info? 3 = some infoI := by kernel_rfl
  obtain ⟨z, hz⟩ : ∃ z, infoI.zero = some z ∧ z.cells.size = 1 := ⟨.int .i64 0, by kernel_rfl, by kernel_rfl⟩
  have hby : infoI.bytes = 8 := by kernel_rfl
  have ht : Tryd.prog.underlying 22 = some (.slice 3) := by kernel_rfl
  have hnews : ∀ j u, [Value.int .i64 n][j]? = some u → w.cell? ((⟨B, 0, none⟩ : Addr).add j) = some u := by
    intro j u hj
    rw [Addr.add_lit]
    match j, hj with
    | 0, hj => simp at hj; subst hj; exact hB
  have h1 : ∀ u ∈ [Value.int .i64 n], u.oneCell' = true := by intro u hu; simp at hu; rw [hu]; rfl
  have hl : [Value.int .i64 n].length = 1 * infoI.size := by rw [infoI_size]; rfl
  obtain ⟨v', w', hr, h2, h3, _⟩ := run_append_own (P := Tryd.prog) w base 22 o.type 3 infoI z 1 8 ht hi hz.1 infoI_size hby hz.2 (by omega) v0 l0.length (cellsI l0) h0 ⟨B, 0, none⟩ 1 c [Value.int .i64 n] rfl hnews h1 (by simp only [maxLen]; omega) hlen hbase
  have hnew : v'.ownBlock = v0.ownBlock ∨ v'.ownBlock = some w.heap.size := by
    have hown := h0
    unfold OwnI at hown
    rcases hown.2 with ⟨rfl, hn⟩ | ⟨g, cap, cur, rfl, hbg, hg, hnc, hcm, hcs, htake⟩
    · have hq := run_append_nil (P := Tryd.prog) w 22 o.type 3 infoI z ht hi hz.1 ⟨B, 0, none⟩ 1 c [Value.int .i64 n] hl hnews (by omega) (by omega) (by rw [hby]; omega)
      rw [hr] at hq
      injection hq with hq1 hq2
      rw [hq1]; exact Or.inr rfl
    · by_cases hroom : l0.length + 1 ≤ cap
      · have hq := run_append_room (P := Tryd.prog) w 22 o.type 3 infoI ht hi g l0.length cap cur hg ⟨B, 0, none⟩ 1 c [Value.int .i64 n] hl hnews h1 hroom (by rw [hl, hcs, infoI_size, ← Nat.add_mul]; exact Nat.mul_le_mul_right _ hroom)
        rw [hr] at hq
        injection hq with hq1 hq2
        rw [hq1]; exact Or.inl rfl
      · have hq := run_append_grow (P := Tryd.prog) w 22 o.type 3 infoI z ht hi hz.1 ⟨g, 0, none⟩ l0.length cap (cellsI l0) (by rw [infoI_size, cellsI_len]; omega) (hown.cells (g := g) rfl) ⟨B, 0, none⟩ 1 c [Value.int .i64 n] hl hnews (by omega) (by omega) (growslice_fits (by omega) (by rw [hby]; exact hlen))
        rw [hr] at hq
        injection hq with hq1 hq2
        rw [hq1]; exact Or.inr rfl
  unfold Oper.wp execOp
  simp only [ho, resolve, invoke, builtin, Sem.run_bind, Sem.run_pure, Result.andThen_ok, List.map_toArray, List.map_cons, List.map_nil, hs, hx, hr]
  refine h v' w' ?_ h3 hnew
  unfold OwnI
  rw [List.length_append, cellsI_app]
  exact h2
/-- The same, at the operation. -/
theorem wpl_append_oneI {ops : Array Oper} {rest : List Oper} {o : Oper} {a : Act} {Q : Exit → Act → World → Prop} {w : World} (hgd : o.guard = none) (s x : Operand) (ho : o.op = .call { callee := .builtin .append, args := #[s, x], argTypes := #[22, 22] })
    (base : Nat) (v0 : Value) (l0 : List Int) (n : Int) (B c : Nat) (hs : a.eval s = v0) (hx : a.eval x = .slice (some ⟨B, 0, none⟩) 1 c) (h0 : OwnI w base v0 l0) (hB : w.cell? ⟨B, 0, none⟩ = some (.int .i64 n)) (hlen : (l0.length + 1) * 8 ≤ 140737488355328) (hbase : base ≤ w.heap.size)
    (h : ∀ v' w', OwnI w' base v' (l0 ++ [n]) → w.grownBy w' v0.ownBlock → (v'.ownBlock = v0.ownBlock ∨ v'.ownBlock = some w.heap.size) → wpList Tryd.prog ops Q rest (a.put o.dst v') w') : wpList Tryd.prog ops Q (o :: rest) a w :=
  wpList_plain hgd fun _ hK => wp_append_oneI s x ho base v0 l0 n B c hs hx h0 hB hlen hbase fun v' w' h1 h2 h3 => hK _ _ (h v' w' h1 h2 h3)
theorem OwnI.nil (w : World) (base : Nat) : OwnI w base (.slice none 0 0) [] := ⟨by simp [cellsI], Or.inl ⟨rfl, rfl⟩⟩
/-- Where the list's own block lies. -/
theorem OwnI.past {w : World} {base : Nat} {v : Value} {l : List Int} (h : OwnI w base v l) : ∀ q, v.ownBlock = some q → base ≤ q := fun q hq => (World.ownsRow.lt h q hq).1
end Go.Proofs.YtoocmogmocapoaaDoor

namespace Go.Proofs.YtoocmogmocapoaaDoor
open Go.RowKit RibP

theorem ArgI.at {w : World} {p : Option Addr} {n c : Nat} {l : List Int} (h : ArgI w (.slice p n c) l) (k : Nat) (hk : k < l.length) : ∃ b off, p = some ⟨b, off, none⟩ ∧ b < w.heap.size ∧ w.cell? ⟨b, off + k, none⟩ = some (.int .i64 l[k]!) := by
  obtain ⟨p', c', hv, h⟩ := h
  injection hv with hp _ _
  rcases h with h | ⟨b, off, hp', hlt, hs⟩
  · rw [h] at hk; simp at hk
  · exact ⟨b, off, hp.trans hp', hlt, hs k hk⟩
theorem Arg.at {w : World} {p : Option Addr} {n c : Nat} {l : List Nt} (h : Arg w (.slice p n c) l) (k : Nat) (hk : k < l.length) : ∃ b off, p = some ⟨b, off, none⟩ ∧ b < w.heap.size ∧ w.cell? ⟨b, off + k * 2, none⟩ = some (Nt.v0 l[k]!) ∧ w.cell? ⟨b, off + k * 2 + 1, none⟩ = some (Nt.v1 l[k]!) := by
  obtain ⟨p', c', hv, h⟩ := h
  injection hv with hp _ _
  rcases h with h | ⟨b, off, hp', hlt, hs⟩
  · rw [h] at hk; simp at hk
  · exact ⟨b, off, hp.trans hp', hlt, hs.c0 k hk, hs.c1 k hk⟩
theorem RibP.learnS_zero (s : St) (f : Int) (n : Nt) (m : Int) (h : s.1 = 0) : (learnS s f n m 0).1 = 0 := by
  unfold learnS
  split
  · rfl
  · exact h
end Go.Proofs.YtoocmogmocapoaaDoor

namespace Go.Proofs.YtoocmogmocapoaaDoor
open Go.ChangeShapes Go.WideShapes Go.ChangeAt Go.RowKit Go.Joins

theorem cellsNet : Tryd.prog.cellsOf 35 = 2 := by kernel_rfl
variable {H : Type} {enc : TypeId × Value → H} {w : World} {base : Nat} {spare : Nat → Bool} {held : Bool}
set_option maxRecDepth 100000 in
theorem open_net {r : Reach} {b0 : Nat} {v : Value} {d : DataW H} {p : List MemPlace} (hv : Value.okWide Tryd.prog w r b0 35 v) (h : DataW.Trod enc Tryd.prog w base spare held 35 v d p) :
    ∃ (a : Nat) (l : Int), v = .agg #[.int .u32 (a : Int), .int .i64 l] ∧ d = .agg [.lit (.int .u32 (a : Int)), .lit (.int .i64 l)] ∧ p = [] ∧ (Lit.int .u32 (a : Int)).wf = true ∧ (Lit.int .i64 l).wf = true ∧ a < 4294967296 := by
  obtain ⟨c0, c1, y0, y1, m, rfl, rfl, rfl, hy0, hy1⟩ := open_agg2 Tryd.underlying35 (by kernel_rfl) cellsNet hv h
  obtain ⟨a, e0, rfl, wa⟩ := DataW.trod_int Tryd.underlying33 hy0
  obtain ⟨b, e1, rfl, wb⟩ := DataW.trod_int Tryd.underlying3 hy1
  simp at e0 e1
  subst e0 e1
  have hb := bounds_u32 wa
  obtain ⟨n, rfl⟩ := Int.eq_ofNat_of_zero_le hb.1
  exact ⟨n, b, rfl, rfl, rfl, wa, wb, by omega⟩
set_option maxRecDepth 100000 in
theorem shut_net {a : Nat} {l : Int} (wa : (Lit.int .u32 (a : Int)).wf = true) (wl : (Lit.int .i64 l).wf = true) :
    DataW.Trod enc Tryd.prog w base spare held 35 (.agg #[.int .u32 (a : Int), .int .i64 l]) (.agg [.lit (.int .u32 (a : Int)), .lit (.int .i64 l)]) [] :=
  shut_agg2 (y0 := (.lit (.int .u32 a), [])) (y1 := (.lit (.int .i64 l), [])) Tryd.underlying35 (by kernel_rfl) cellsNet ⟨1, by simp [DataW.trod, Tryd.underlying33, wa]⟩ ⟨1, by simp [DataW.trod, Tryd.underlying3, wl]⟩
end Go.Proofs.YtoocmogmocapoaaDoor

namespace Go.Proofs.YtoocmogmocapoaaDoor
open Go.ChangeShapes Go.WideShapes Go.ChangeAt Go.RowKit Go.Joins Go.Deep

theorem laidOut : laidOutB Tryd.prog = true := by kernel_rfl
theorem bytesNet : Tryd.prog.bytesOf 35 = 16 := by kernel_rfl
variable {H : Type} {enc : TypeId × Value → H} {w : World}
set_option maxRecDepth 100000 in
set_option maxHeartbeats 1000000 in
theorem open_nets {r : Reach} {b0 : Nat} {v : Value} {d : DataW H} {p : List MemPlace} (hv : Value.okWide Tryd.prog w r b0 23 v) (h : DataW.Trod enc Tryd.prog w 0 (fun _ => true) true 23 v d p) :
    ∃ l : List Nt, Arg w v l ∧ (∀ x ∈ l, x.1 < 4294967296) ∧ (l = [] ∨ ∃ es sp, d = .slice es sp ∧ es.length = l.length) := by
  obtain ⟨q, n0, c, rfl⟩ := okWide_slice Tryd.underlying23 hv
  obtain ⟨fuel, hf⟩ := h
  rcases open_slice_pairs Tryd.underlying23 Tryd.underlying35 cellsNet (by kernel_rfl) (by kernel_rfl) (by kernel_rfl) (by kernel_rfl) hf with ⟨hcs, _⟩ | ⟨a, len, cap, m, n, V0, V1, D0, D1, P0, P1, hcs, _, hl, hm, hmm, hx, hcell⟩
  · simp [Value.cells] at hcs
    obtain ⟨rfl, rfl, rfl⟩ := hcs
    exact ⟨[], ⟨none, 0, rfl, Or.inl rfl⟩, by simp, Or.inl rfl⟩
  · simp [Value.cells] at hcs
    obtain ⟨rfl, rfl, rfl⟩ := hcs
    simp only [if_true] at hmm
    subst hmm
    have each : ∀ i, i < m → ∃ x : Nt, V0 i = Nt.v0 x ∧ V1 i = Nt.v1 x ∧ x.1 < 4294967296 := by
      intro i hi
      obtain ⟨_, _, h0, h1⟩ := hcell i hi
      obtain ⟨z0, e0, _, w0⟩ := DataW.trod_int Tryd.underlying33 h0
      obtain ⟨z1, e1, _, _⟩ := DataW.trod_int Tryd.underlying3 h1
      simp at e0 e1
      have hb := bounds_u32 w0
      obtain ⟨k, rfl⟩ := Int.eq_ofNat_of_zero_le hb.1
      exact ⟨(k, z1), e0, e1, by simp only; omega⟩
    obtain ⟨f, hf2⟩ := choose_lt each
    have hlen : ((List.range n0).map f).length = n0 := by simp
    have hget : ∀ i, i < n0 → ((List.range n0).map f)[i]! = f i := fun i hi => by rw [getElem!_pos _ i (by simpa using hi)]; simp
    refine ⟨(List.range n0).map f, ⟨some a, m, by rw [hlen], ?_⟩, ?_, Or.inr ⟨_, _, (Prod.mk.inj hx).1, by simp⟩⟩
    · rcases Nat.eq_zero_or_pos n0 with h0 | h0
      · subst h0; exact Or.inl rfl
      · obtain ⟨b, off, spot⟩ := a
        have hc0 := (hcell 0 (by omega)).1
        have hs : spot = none := by
          cases spot with
          | none => rfl
          | some s =>
            exfalso
            simp only [Addr.add, World.cell?] at hc0
            split at hc0 <;> simp at hc0
        subst hs
        refine Or.inr ⟨b, off, rfl, ?_, ⟨fun i hi => ?_, fun i hi => ?_⟩⟩
        · exact World.block_lt_of_cell? _ _ hc0
        · rw [hlen] at hi
          have := (hcell i (by omega)).1
          rw [Addr.add_lit, (hf2 i (by omega)).1] at this
          rw [hget i hi]; exact this
        · rw [hlen] at hi
          have := (hcell i (by omega)).2.1
          rw [Addr.add_lit, (hf2 i (by omega)).2.1, ← Nat.add_assoc] at this
          rw [hget i hi]; exact this
    · intro x hx
      rw [List.mem_map] at hx
      obtain ⟨i, hi, rfl⟩ := hx
      exact (hf2 i (by have := List.mem_range.1 hi; omega)).2.2
end Go.Proofs.YtoocmogmocapoaaDoor

namespace Go.Proofs.YtoocmogmocapoaaDoor
open Go.RowKit

/-- What the slice holds fits into its room. -/
def Room (v : Value) : Prop := ∃ p n c, v = .slice p n c ∧ n ≤ c
theorem OwnI.room {w : World} {base : Nat} {v : Value} {l : List Int} (h : OwnI w base v l) : Room v := by
  obtain ⟨_, ⟨hv, hn⟩ | ⟨g, cap, cur, hv, hb, hg, hcap, _⟩⟩ := h
  · exact ⟨none, 0, 0, hv, Nat.le_refl _⟩
  · exact ⟨_, _, cap, hv, hcap⟩
theorem Room.le {p : Option Addr} {n c : Nat} (h : Room (.slice p n c)) : n ≤ c := by
  obtain ⟨_, _, _, e, h⟩ := h
  injection e with _ e1 e2
  omega
/-- A list without its first number. -/
theorem SeenI.tail {w : World} {b off i : Nat} {l : List Int} (h : SeenI w b off l) (hb : b < w.heap.size) (hl : l.length = i + 1) (c : Nat) : ArgI w (.slice (some ⟨b, off + 1, none⟩) i c) (l.drop 1) := by
  have e : (l.drop 1).length = i := by rw [List.length_drop]; omega
  refine ⟨_, c, by rw [e], Or.inr ⟨b, off + 1, rfl, hb, fun j hj => ?_⟩⟩
  rw [e] at hj
  have := h (j + 1) (by omega)
  rw [show off + (j + 1) = off + 1 + j by omega] at this
  rw [this, getElem!_pos l (j + 1) (by omega), getElem!_pos (l.drop 1) j (by omega), List.getElem_drop]
  congr 3
  simp [Nat.add_comm]
/-- One number in a block of the call's own. -/
theorem OwnI.one (w : World) (base : Nat) (x : Int) (hb : base ≤ w.heap.size) : OwnI (w.alloc (.cells #[.int .i64 x] 3)) base (.slice (some ⟨w.heap.size, 0, none⟩) 1 1) [x] :=
  ⟨by simp [cellsI], Or.inr ⟨w.heap.size, 1, #[.int .i64 x], rfl, hb, heap_alloc_new w _, Nat.le_refl _, by simp [maxLen], by simp, by simp [cellsI]⟩⟩
end Go.Proofs.YtoocmogmocapoaaDoor

namespace Go.Proofs.YtoocmogmocapoaaDoor
open Go.ChangeShapes Go.WideShapes Go.ChangeAt Go.RowKit Go.Joins Go.Deep

theorem bytesI : Tryd.prog.bytesOf 3 = 8 := by kernel_rfl
variable {H : Type} {enc : TypeId × Value → H} {w : World}
set_option maxRecDepth 100000 in
set_option maxHeartbeats 1000000 in
theorem openIs {r : Reach} {b0 : Nat} {v : Value} {d : DataW H} {p : List MemPlace} (hv : Value.okWide Tryd.prog w r b0 22 v) (h : DataW.Trod enc Tryd.prog w 0 (fun _ => true) true 22 v d p) :
    ∃ l : List Int, ArgI w v l ∧ (l = [] ∨ ∃ es sp, d = .slice es sp ∧ es.length = l.length) := by
  obtain ⟨q, n0, c, rfl⟩ := okWide_slice Tryd.underlying22 hv
  obtain ⟨fuel, hf⟩ := h
  rcases open_ints Tryd.underlying22 Tryd.underlying3 (by kernel_rfl) hf with ⟨hcs, _⟩ | ⟨a, len, cap, zs, hcs, _, hl, _, hz, hx, hcell, _⟩
  · simp [Value.cells] at hcs
    obtain ⟨rfl, rfl, rfl⟩ := hcs
    exact ⟨[], ⟨none, 0, rfl, Or.inl rfl⟩, Or.inl rfl⟩
  · simp [Value.cells] at hcs
    obtain ⟨rfl, rfl, rfl⟩ := hcs
    simp only [if_true] at hz
    have ht : (zs.take n0).length = n0 := by rw [List.length_take]; omega
    refine ⟨zs.take n0, ⟨some a, c, by rw [ht], ?_⟩, Or.inr ⟨_, _, (Prod.mk.inj hx).1, by simp [lits]⟩⟩
    rcases Nat.eq_zero_or_pos n0 with h0 | h0
    · subst h0; exact Or.inl (by simp)
    · obtain ⟨b, off, spot⟩ := a
      have hc0 := hcell 0 (by omega)
      have hs : spot = none := by
        cases spot with
        | none => rfl
        | some s =>
          exfalso
          simp only [Addr.add, World.cell?] at hc0
          split at hc0 <;> simp at hc0
      subst hs
      refine Or.inr ⟨b, off, rfl, World.block_lt_of_cell? _ _ hc0, fun i hi => ?_⟩
      rw [ht] at hi
      have hi2 : i < zs.length := by omega
      have := hcell i hi2
      rw [Addr.add_lit] at this
      rw [getElem!_pos (zs.take n0) i (by omega), List.getElem_take, this, List.getD_eq_getElem?_getD, List.getElem?_eq_getElem hi2]
      rfl
set_option maxRecDepth 100000 in
set_option maxHeartbeats 1000000 in
theorem openI {r : Reach} {b0 : Nat} {v : Value} {d : DataW H} {p : List MemPlace} (hv : Value.okWide Tryd.prog w r b0 22 v) (h : DataW.Trod enc Tryd.prog w 0 (fun _ => true) true 22 v d p) :
    ∃ l : List Int, ArgI w v l := by
  obtain ⟨l, hl, _⟩ := openIs hv h
  exact ⟨l, hl⟩
set_option maxRecDepth 100000 in
set_option maxHeartbeats 1000000 in
/-- It has room for what it holds. -/
theorem openR {r : Reach} {b0 : Nat} {v : Value} {d : DataW H} {p : List MemPlace} (hv : Value.okWide Tryd.prog w r b0 22 v) (h : DataW.Trod enc Tryd.prog w 0 (fun _ => true) true 22 v d p) : Room v := by
  obtain ⟨q, n0, c, rfl⟩ := okWide_slice Tryd.underlying22 hv
  obtain ⟨fuel, hf⟩ := h
  rcases open_ints Tryd.underlying22 Tryd.underlying3 (by kernel_rfl) hf with ⟨hcs, _⟩ | ⟨a, len, cap, zs, hcs, _, hl, _⟩
  · simp [Value.cells] at hcs
    obtain ⟨rfl, rfl, rfl⟩ := hcs
    exact ⟨_, _, _, rfl, Nat.le_refl _⟩
  · simp [Value.cells] at hcs
    obtain ⟨rfl, rfl, rfl⟩ := hcs
    exact ⟨_, _, _, rfl, hl⟩
end Go.Proofs.YtoocmogmocapoaaDoor
