/-
  A list of links copied, as one operation; a block of three cells that stays; an argument that is one link.
-/
import Derived.Test.YtjgmehmhhplkaaaLinkCopy
import Derived.ProofKit
import Derived.OpenShut
import Derived.Lib.SmallJoins
namespace Go.Proofs.Ytjgmehmhhplkaaa
open Go.RowKit

theorem Box3.kept {w w1 : World} {b : Nat} {x y z : Value} (h : Box3 w b x y z) (hb : Below w.heap.size w w1) : Box3 w1 b x y z := h.below hb h.lt
theorem Box3.grown {w w1 : World} {b : Nat} {x y z : Value} {o : Option Nat} (h : Box3 w b x y z) (hg : w.grownBy w1 o) (hne : o ≠ some b) : Box3 w1 b x y z := by
  have hb := hg.block b h.lt (fun e => hne e.symm)
  exact ⟨Nat.lt_of_lt_of_le h.lt hg.size, (World.cell?_of_block (a := ⟨b, 0, none⟩) hb).trans h.c0, (World.cell?_of_block (a := ⟨b, 1, none⟩) hb).trans h.c1, (World.cell?_of_block (a := ⟨b, 2, none⟩) hb).trans h.c2⟩
/-- What the second cell of a block holds. -/
structure Cell1 (w : World) (b : Nat) (v : Value) : Prop where
  c : w.cell? ⟨b, 1, none⟩ = some v
theorem Cell1.kept {w w1 : World} {b : Nat} {v : Value} (h : Cell1 w b v) (hb : Below w.heap.size w w1) : Cell1 w1 b v :=
  ⟨(hb.cell (p := ⟨b, 1, none⟩) (World.block_lt_of_cell? w _ h.c)).trans h.c⟩
/-- A list copied behind an empty one that the call owns. -/
theorem wp_copyK {o : Oper} {a : Act} {K : Act → World → Prop} {Q : Exit → Act → World → Prop} {w : World} (s x : Operand) (ho : o.op = .call { callee := .builtin .append, args := #[s, x], argTypes := #[22, 22] })
    (base : Nat) (v0 v1 : Value) (l : List Lk) (hs : a.eval s = v0) (hx : a.eval x = v1) (h0 : OwnK w base v0 []) (h1 : ArgK w v1 l) (hlen : l.length * 24 ≤ 140737488355328) (hbase : base ≤ w.heap.size)
    (h : ∀ v' w', OwnK w' base v' l → w.grownBy w' v0.ownBlock → K (a.put o.dst v') w') : o.wp Try.prog a w K Q := by
  obtain ⟨z, hz⟩ := infoK_zero
  have some_ : ∀ (ad : Addr) (c : Nat), v1 = .slice (some ad) l.length c → (∀ j u, (cellsK l)[j]? = some u → w.cell? (ad.add j) = some u) → o.wp Try.prog a w K Q := by
    intro ad c hv hc
    refine wp_append_own w s x 22 ho base 42 infoK z 3 24 (by kernel_rfl) infoK_is hz.1 infoK_size infoK_bytes hz.2 (by omega) v0 0 [] hs h0 ad l.length c (cellsK l) (hx.trans hv) (cellsK_len l) hc (cellsK_one l) (by simp only [maxLen]; omega) (by omega) hbase ?_
    intro v' w' hown hgrow _
    exact h v' w' (by simpa [OwnK] using hown) hgrow
  obtain ⟨p, c, rfl, h1⟩ := h1
  rcases h1 with rfl | ⟨b, off, rfl, _, hS⟩
  · cases p with
    | none =>
      have hrun := run_append_noneK w o.type base v0 c h0
      unfold Oper.wp execOp
      simp only [ho, resolve, invoke, builtin, Sem.run_bind, Sem.run_pure, Result.andThen_ok, List.map_toArray, List.map_cons, List.map_nil, hs, hx, List.length_nil, hrun]
      exact h v0 w h0 ⟨rfl, rfl, rfl, Nat.le_refl _, fun _ _ _ => rfl⟩
    | some ad => exact some_ ad c rfl (fun j u hu => by simp [cellsK] at hu)
  · exact some_ ⟨b, off, none⟩ c rfl (fun j u hu => by rw [Addr.add_lit]; exact hS.cells j u hu)
end Go.Proofs.Ytjgmehmhhplkaaa
