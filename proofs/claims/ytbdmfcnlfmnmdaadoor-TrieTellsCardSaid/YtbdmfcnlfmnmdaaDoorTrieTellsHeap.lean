/-
  What TrieTells' walk holds: our table, the box of the document's table with its two lists, and what was there.
-/
import Derived.Test.YtbdmfcnlfmnmdaaDoorTrieTellsPlain
namespace Go.Proofs.YtbdmfcnlfmnmdaaDoor
open Go.RowKit

/-- A list whose row lies in a block of a kind. -/
def ArgA (w : World) (P : Nat → Prop) (v : Value) (l : List Nt) : Prop := ∃ p c, v = .slice p l.length c ∧ (l = [] ∨ ∃ b off, p = some ⟨b, off, none⟩ ∧ b < w.heap.size ∧ P b ∧ Seen w b off l)
def ArgIA (w : World) (P : Nat → Prop) (v : Value) (l : List Int) : Prop := ∃ p c, v = .slice p l.length c ∧ (l = [] ∨ ∃ b off, p = some ⟨b, off, none⟩ ∧ b < w.heap.size ∧ P b ∧ SeenI w b off l)
theorem ArgA.arg {w : World} {P : Nat → Prop} {v : Value} {l : List Nt} (h : ArgA w P v l) : Arg w v l := by
  obtain ⟨p, c, hv, h⟩ := h
  refine ⟨p, c, hv, ?_⟩
  rcases h with h | ⟨b, off, hp, hlt, _, hs⟩
  · exact Or.inl h
  · exact Or.inr ⟨b, off, hp, hlt, hs⟩
theorem ArgIA.arg {w : World} {P : Nat → Prop} {v : Value} {l : List Int} (h : ArgIA w P v l) : ArgI w v l := by
  obtain ⟨p, c, hv, h⟩ := h
  refine ⟨p, c, hv, ?_⟩
  rcases h with h | ⟨b, off, hp, hlt, _, hs⟩
  · exact Or.inl h
  · exact Or.inr ⟨b, off, hp, hlt, hs⟩
theorem ArgA.frame {w w' : World} {P P' : Nat → Prop} {v : Value} {l : List Nt} (h : ArgA w P v l) (hs : w.heap.size ≤ w'.heap.size) (hb : ∀ b, b < w.heap.size → P b → w'.heap[b]? = w.heap[b]? ∧ P' b) : ArgA w' P' v l := by
  obtain ⟨p, c, hv, h⟩ := h
  refine ⟨p, c, hv, ?_⟩
  rcases h with h | ⟨b, off, hp, hlt, hP, hse⟩
  · exact Or.inl h
  · obtain ⟨e, h2⟩ := hb b hlt hP
    exact Or.inr ⟨b, off, hp, Nat.lt_of_lt_of_le hlt hs, h2, ⟨fun i hi => (World.cell?_of_block (w := w) e).trans (hse.c0 i hi), fun i hi => (World.cell?_of_block (w := w) e).trans (hse.c1 i hi)⟩⟩
theorem ArgIA.frame {w w' : World} {P P' : Nat → Prop} {v : Value} {l : List Int} (h : ArgIA w P v l) (hs : w.heap.size ≤ w'.heap.size) (hb : ∀ b, b < w.heap.size → P b → w'.heap[b]? = w.heap[b]? ∧ P' b) : ArgIA w' P' v l := by
  obtain ⟨p, c, hv, h⟩ := h
  refine ⟨p, c, hv, ?_⟩
  rcases h with h | ⟨b, off, hp, hlt, hP, hse⟩
  · exact Or.inl h
  · obtain ⟨e, h2⟩ := hb b hlt hP
    exact Or.inr ⟨b, off, hp, Nat.lt_of_lt_of_le hlt hs, h2, fun i hi => (World.cell?_of_block (w := w) e).trans (hse i hi)⟩
theorem Own.argA {w : World} {base : Nat} {P : Nat → Prop} {v : Value} {l : List Nt} (h : Own w base v l) (hP : ∀ b, base ≤ b → b < w.heap.size → P b) : ArgA w P v l := by
  have ha := h.arg
  obtain ⟨_, ⟨hv, hn⟩ | ⟨g, cap, cur, hv, hb, hg, hcap, _, _, hc⟩⟩ := h
  · have e : l = [] := List.length_eq_zero_iff.1 hn
    subst e
    exact ⟨none, 0, hv, Or.inl rfl⟩
  · have hg' := (Array.getElem?_eq_some_iff.1 hg).1
    exact ⟨_, cap, hv, Or.inr ⟨g, 0, rfl, hg', hP g hb hg', Own.seen hg hc hb hcap⟩⟩
theorem OwnI.argA {w : World} {base : Nat} {P : Nat → Prop} {v : Value} {l : List Int} (h : OwnI w base v l) (hP : ∀ b, base ≤ b → b < w.heap.size → P b) : ArgIA w P v l := by
  obtain ⟨p, c, hv', ha⟩ := h.arg
  obtain ⟨_, ⟨hv, hn⟩ | ⟨g, cap, cur, hv, hb, hg, hcap, _, _, hc⟩⟩ := h
  · have e : l = [] := List.length_eq_zero_iff.1 hn
    subst e
    exact ⟨none, 0, hv, Or.inl rfl⟩
  · have hg' := (Array.getElem?_eq_some_iff.1 hg).1
    rcases ha with ha | ⟨b, off, hp, hlt, hs⟩
    · exact ⟨p, c, hv', Or.inl ha⟩
    · rw [hv, hp] at hv'
      injection hv' with e1 _ _
      have e2 := Option.some.inj e1
      injection e2 with e3 _ _
      exact ⟨p, c, by rw [hv, hp]; congr 1, Or.inr ⟨b, off, hp, hlt, hP b (by omega) hlt, hs⟩⟩

/-- The document's table in memory, apart of ours. -/
structure MT (w : World) (S : Nat → Prop) (mb : Nat) (vN vV : Value) (M : Mt) : Prop where
  n : ArgA w (fun b => ¬ S b ∧ b ≠ mb) vN (nets M)
  v : ArgIA w (fun b => ¬ S b ∧ b ≠ mb) vV (vals M)
section
variable {w w' : World} {S : Nat → Prop} {mb tb : Nat} {vN vV uN uV : Value} {M M' : Mt} {f f' : Nt → Option Int} {L L' : List Nt} {w0 : World}
theorem MT.below (h : MT w S mb vN vV M) (hb : Below w.heap.size w w') : MT w' S mb vN vV M :=
  ⟨h.n.frame hb.size fun b h1 h2 => ⟨hb.block b h1, h2⟩, h.v.frame hb.size fun b h1 h2 => ⟨hb.block b h1, h2⟩⟩
theorem MT.keep (h : MT w S mb vN vV M) (hk : Keep S w w') : MT w' (plus S w w') mb vN vV M :=
  ⟨h.n.frame hk.size fun b h1 h2 => ⟨hk.block b h1 h2.1, plus_not h2.1 h1, h2.2⟩, h.v.frame hk.size fun b h1 h2 => ⟨hk.block b h1 h2.1, plus_not h2.1 h1, h2.2⟩⟩
theorem MT.keep0 (h : MT w S mb vN vV M) (hk : Keep S w w') : MT w' S mb vN vV M :=
  ⟨h.n.frame hk.size fun b h1 h2 => ⟨hk.block b h1 h2.1, h2⟩, h.v.frame hk.size fun b h1 h2 => ⟨hk.block b h1 h2.1, h2⟩⟩
theorem MT.set (h : MT w S mb vN vV M) (i : Nat) (x : Value) : MT (w.setCell ⟨mb, i, none⟩ x) S mb vN vV M :=
  ⟨h.n.frame (by simp [World.setCell]) fun b _ h2 => ⟨Below.heap_setCell _ _ _ _ (fun e => h2.2 (by first | exact e | exact e.symm)), h2⟩, h.v.frame (by simp [World.setCell]) fun b _ h2 => ⟨Below.heap_setCell _ _ _ _ (fun e => h2.2 (by first | exact e | exact e.symm)), h2⟩⟩
theorem MT.of {base : Nat} (h1 : Own w base vN (nets M)) (h2 : OwnI w base vV (vals M)) (hS : ∀ b, S b → b < base) (hm : mb < base) : MT w S mb vN vV M :=
  ⟨h1.argA fun b hb _ => ⟨fun e => by have := hS b e; omega, by omega⟩, h2.argA fun b hb _ => ⟨fun e => by have := hS b e; omega, by omega⟩⟩
/-- All of it. -/
structure St (w0 : World) (S : Nat → Prop) (tb mb : Nat) (f : Nt → Option Int) (L : List Nt) (vN vV : Value) (M : Mt) (w : World) : Prop where
  t : Tab w S tb f L
  ge : ∀ b, S b → w0.heap.size ≤ b
  nm : ¬ S mb
  gm : w0.heap.size ≤ mb
  bx : Box w mb vN vV
  m : MT w S mb vN vV M
  be : Below w0.heap.size w0 w
theorem St.below (h : St w0 S tb mb f L vN vV M w) (hb : Below w.heap.size w w') : St w0 S tb mb f L vN vV M w' :=
  ⟨h.t.below hb, h.ge, h.nm, h.gm, h.bx.kept hb, h.m.below hb, Below.two h.be hb⟩
theorem St.put (h : St w0 S tb mb f L vN vV M w) (hk : Keep S w w') (ht : Tab w' (plus S w w') tb f' L') : St w0 (plus S w w') tb mb f' L' vN vV M w' :=
  ⟨ht, plus_ge h.ge h.be.size, plus_not h.nm h.bx.lt, h.gm, h.bx.keepS hk h.nm, h.m.keep hk, h.be.trans (hk.below h.ge h.be.size)⟩
theorem St.drop (h : St w0 S tb mb f L vN vV M w) (hk : Keep S w w') (ht : Tab w' S tb f' L') : St w0 S tb mb f' L' vN vV M w' :=
  ⟨ht, h.ge, h.nm, h.gm, h.bx.keepS hk h.nm, h.m.keep0 hk, h.be.trans (hk.below h.ge h.be.size)⟩
theorem Tab.cellM (h : Tab w S tb f L) (hm : ¬ S mb) (i : Nat) (x : Value) : Tab (w.setCell ⟨mb, i, none⟩ x) S tb f L :=
  h.keep (Keep.setCell (fun b => b = mb) w mb i x rfl) (fun _ hb e => hm (e ▸ hb))
theorem St.set (h : St w0 S tb mb f L vN vV M w) (h2 : MT w S mb uN uV M') : St w0 S tb mb f L uN uV M' ((w.setCell ⟨mb, 0, none⟩ uN).setCell ⟨mb, 1, none⟩ uV) :=
  ⟨(h.t.cellM h.nm 0 uN).cellM h.nm 1 uV, h.ge, h.nm, h.gm, h.bx.set uN uV, (h2.set 0 uN).set 1 uV, (h.be.setCell (p := ⟨mb, 0, none⟩) h.gm uN).setCell (p := ⟨mb, 1, none⟩) h.gm uV⟩
theorem St.drewN (h : St w0 S tb mb f L vN vV M w) (n : Nat) : St w0 S tb mb f L vN vV M (w.drewN n) := h.below (Below.drewN (Below.refl _ _) n)
theorem St.drew (h : St w0 S tb mb f L vN vV M w) : St w0 S tb mb f L vN vV M w.drew := h.below (Below.refl _ _).drew
end
/-- What is read of the two lists. -/
structure Rd (w : World) (b i bi j : Nat) (n : Nt) (z : Int) : Prop where
  lb : b < w.heap.size
  li : bi < w.heap.size
  c0 : w.cell? ⟨b, i, none⟩ = some (.int .u32 (n.1 : Int))
  c1 : w.cell? ⟨b, i + 1, none⟩ = some (.int .i64 n.2)
  ci : w.cell? ⟨bi, j, none⟩ = some (.int .i64 z)
theorem Rd.below {w w' : World} {b i bi j : Nat} {n : Nt} {z : Int} (h : Rd w b i bi j n z) (hb : Below w.heap.size w w') : Rd w' b i bi j n z :=
  ⟨Nat.lt_of_lt_of_le h.lb hb.size, Nat.lt_of_lt_of_le h.li hb.size, (hb.cell (p := ⟨b, i, none⟩) h.lb).trans h.c0, (hb.cell (p := ⟨b, i + 1, none⟩) h.lb).trans h.c1, (hb.cell (p := ⟨bi, j, none⟩) h.li).trans h.ci⟩
/-- The document's PutIn, with room or without. -/
theorem putIn_any (w : World) (vN vV : Value) (M : Mt) (n : Nt) (z : Int) (hM : M.length ≤ 1000000) (hN : Arg w vN (nets M)) (hV : ArgI w vV (vals M)) (r : Bool) (hr : r = decide (n ∈ nets M ∨ M.length < 64)) :
    Calls Tryd.prog 12 #[.agg #[vN, vV], .agg #[.int .u32 n.1, .int .i64 n.2], .int .i64 z] w fun e w' => ∃ p1 m1 c1 p2 m2 c2, e = .returned (.tuple #[.agg #[.slice p1 m1 c1, .slice p2 m2 c2], .bool r]) ∧ Hid (r = true → Own w' w.heap.size (.slice p1 m1 c1) (nets (dropM M n ++ [(n, z)])) ∧ OwnI w' w.heap.size (.slice p2 m2 c2) (vals (dropM M n ++ [(n, z)]))) ∧ Below w.heap.size w w' := by
  by_cases h : n ∈ nets M ∨ M.length < 64
  · rw [decide_eq_true h] at hr
    subst hr
    refine (putIn_ok w vN vV M n z hM hN hV h).mono ?_
    rintro e w' ⟨uN, uV, rfl, h1, h2, h3⟩
    obtain ⟨p1, c1, rfl, _⟩ := id h1.arg
    obtain ⟨p2, c2, rfl, _⟩ := id h2.arg
    exact ⟨_, _, _, _, _, _, rfl, Lib.hid fun _ => ⟨h1, h2⟩, h3⟩
  · rw [decide_eq_false h] at hr
    subst hr
    refine (putIn_full w vN vV M n z hM hN hV (fun e => h (Or.inl e)) (by omega)).mono ?_
    rintro e w' ⟨rfl, h3⟩
    obtain ⟨p1, c1, rfl, _⟩ := hN
    obtain ⟨p2, c2, rfl, _⟩ := hV
    exact ⟨_, _, _, _, _, _, rfl, Lib.hid fun e => absurd e (by simp), h3⟩
theorem putE_r {w : World} {S : Nat → Prop} {tb : Nat} {M : Mt} {f : Nt → Option Int} {L : List Nt} (h : TM M f) (hT : Tab w S tb f L) (n : Nt) (r : Bool) (hr : r = decide (n ∈ nets M ∨ M.length < 64)) : putE f L n = if PrefP.chk n.1 n.2 = 0 then (if r = true then 0 else 4) else PrefP.chk n.1 n.2 := by
  have hl := h.len hT
  unfold putE
  by_cases hk : PrefP.chk n.1 n.2 = 0
  · rw [if_pos hk, if_pos hk]
    by_cases hm : n ∈ nets M ∨ M.length < 64
    · rw [decide_eq_true hm] at hr
      subst hr
      rw [if_pos rfl, if_neg]
      rintro ⟨h1, h2⟩
      rcases hm with hm | hm
      · exact (h.gone n).1 h1 hm
      · omega
    · rw [decide_eq_false hm] at hr
      subst hr
      have e : f n = none ∧ 64 ≤ L.length := ⟨(h.gone n).2 (fun e => hm (Or.inl e)), by omega⟩
      rw [if_pos e]; rfl
  · rw [if_neg hk, if_neg hk]
theorem stHeld {w0 w w' : World} {S : Nat → Prop} {tb mb b i bi j : Nat} {f : Nt → Option Int} {L : List Nt} {vN vV : Value} {M : Mt} {n : Nt} {z : Int} (hR : Rd w0 b i bi j n z) (h : St w0 S tb mb f L vN vV M w) (hb : Below w.heap.size w w') :
    w'.cell? ⟨mb, 0, none⟩ = some vN ∧ w'.cell? ⟨mb, 1, none⟩ = some vV ∧ w'.cell? ⟨b, i, none⟩ = some (.int .u32 (n.1 : Int)) ∧ w'.cell? ⟨b, i + 1, none⟩ = some (.int .i64 n.2) ∧ w'.cell? ⟨bi, j, none⟩ = some (.int .i64 z) ∧ Below w.heap.size w w' := by
  have h1 := h.below hb
  have h2 := hR.below h1.be
  exact ⟨h1.bx.c0, h1.bx.c1, h2.c0, h2.c1, h2.ci, hb⟩
theorem rdHeld {w0 w' : World} {b i bi j : Nat} {n : Nt} {z : Int} (hR : Rd w0 b i bi j n z) (hb : Below w0.heap.size w0 w') :
    w'.cell? ⟨b, i, none⟩ = some (.int .u32 (n.1 : Int)) ∧ w'.cell? ⟨b, i + 1, none⟩ = some (.int .i64 n.2) ∧ w'.cell? ⟨bi, j, none⟩ = some (.int .i64 z) := by
  have h2 := hR.below hb
  exact ⟨h2.c0, h2.c1, h2.ci⟩
theorem stVal {w0 w : World} {S : Nat → Prop} {tb mb bv ov m cV : Nat} {f : Nt → Option Int} {L : List Nt} {vN : Value} {M : Mt} (h : St w0 S tb mb f L vN (.slice (some ⟨bv, ov, none⟩) m cV) M w) (j : Nat) (hj : j < M.length) : w.cell? ⟨bv, ov + j, none⟩ = some (.int .i64 (vals M)[j]!) := by
  obtain ⟨p, c, e, h⟩ := h.m.v
  injection e with e1 _ _
  rcases h with h | ⟨b, off, hp, _, _, hs⟩
  · have := congrArg List.length h
    rw [vals_len] at this; simp only [List.length_nil] at this; omega
  · rw [hp] at e1
    have e2 := Option.some.inj e1
    injection e2 with e3 e4 _
    subst e3
    subst e4
    exact hs j (by rw [vals_len]; exact hj)
theorem stPtr {w0 w : World} {S : Nat → Prop} {tb mb m cV : Nat} {p : Option Addr} {f : Nt → Option Int} {L : List Nt} {vN : Value} {M : Mt} (h : St w0 S tb mb f L vN (.slice p m cV) M w) (hj : 0 < M.length) : ∃ bv ov, p = some ⟨bv, ov, none⟩ := by
  obtain ⟨p, c, e, h⟩ := h.m.v
  injection e with e1 _ _
  rcases h with h | ⟨b, off, hp, _⟩
  · have := congrArg List.length h
    rw [vals_len] at this; simp only [List.length_nil] at this; omega
  · exact ⟨b, off, by rw [e1, hp]⟩
theorem stHeldV {w0 w w' : World} {S : Nat → Prop} {tb mb b i bi j0 bv ov m cV : Nat} {f : Nt → Option Int} {L : List Nt} {vN : Value} {M : Mt} {n : Nt} {z : Int} (hR : Rd w0 b i bi j0 n z) (h : St w0 S tb mb f L vN (.slice (some ⟨bv, ov, none⟩) m cV) M w) (hb : Below w.heap.size w w') {j : Nat} {y : Int} (hj : j < M.length) (hy : (vals M)[j]! = y) :
    w'.cell? ⟨mb, 0, none⟩ = some vN ∧ w'.cell? ⟨mb, 1, none⟩ = some (.slice (some ⟨bv, ov, none⟩) m cV) ∧ w'.cell? ⟨b, i, none⟩ = some (.int .u32 (n.1 : Int)) ∧ w'.cell? ⟨b, i + 1, none⟩ = some (.int .i64 n.2) ∧ w'.cell? ⟨bi, j0, none⟩ = some (.int .i64 z) ∧ w'.cell? ⟨bv, ov + j, none⟩ = some (.int .i64 y) ∧ Below w.heap.size w w' := by
  obtain ⟨h1, h2, h3, h4, h5, h6⟩ := stHeld hR h hb
  exact ⟨h1, h2, h3, h4, h5, hy ▸ stVal (h.below hb) j hj, h6⟩
theorem stNet {w0 w : World} {S : Nat → Prop} {tb mb m c : Nat} {p : Option Addr} {f : Nt → Option Int} {L : List Nt} {vV : Value} {M : Mt} (h : St w0 S tb mb f L (.slice p m c) vV M w) (hj : 0 < M.length) : ∃ bn on, p = some ⟨bn, on, none⟩ := by
  obtain ⟨p, c, e, h⟩ := h.m.n
  injection e with e1 _ _
  rcases h with h | ⟨b, off, hp, _⟩
  · have := congrArg List.length h
    rw [nets_len] at this; simp only [List.length_nil] at this; omega
  · exact ⟨b, off, by rw [e1, hp]⟩
theorem stNetAt {w0 w : World} {S : Nat → Prop} {tb mb bn on m c : Nat} {f : Nt → Option Int} {L : List Nt} {vV : Value} {M : Mt} (h : St w0 S tb mb f L (.slice (some ⟨bn, on, none⟩) m c) vV M w) (j : Nat) (hj : j < M.length) : w.cell? ⟨bn, on + j * 2, none⟩ = some (.int .u32 (M[j]!.1.1 : Int)) ∧ w.cell? ⟨bn, on + j * 2 + 1, none⟩ = some (.int .i64 M[j]!.1.2) := by
  obtain ⟨p, c, e, h⟩ := h.m.n
  injection e with e1 _ _
  rcases h with h | ⟨b, off, hp, _, _, hs⟩
  · have := congrArg List.length h
    rw [nets_len] at this; simp only [List.length_nil] at this; omega
  · rw [hp] at e1
    have e2 := Option.some.inj e1
    injection e2 with e3 e4 _
    subst e3
    subst e4
    have h0 := hs.c0 j (by rw [nets_len]; exact hj)
    have h1 := hs.c1 j (by rw [nets_len]; exact hj)
    rw [nets_at M j hj] at h0 h1
    exact ⟨h0, h1⟩
/-- What getting answers. -/
theorem TM.get {M : Mt} {f : Nt → Option Int} (h : TM M f) (n : Nt) : (PrefP.chk n.1 n.2 ≠ 0 ∧ getE f n = PrefP.chk n.1 n.2) ∨ (PrefP.chk n.1 n.2 = 0 ∧ n ∉ nets M ∧ getE f n = 2) ∨ (PrefP.chk n.1 n.2 = 0 ∧ n ∈ nets M ∧ getE f n = 0) := by
  unfold getE
  by_cases hk : PrefP.chk n.1 n.2 = 0
  · rw [if_pos hk]
    by_cases hm : n ∈ nets M
    · exact Or.inr (Or.inr ⟨hk, hm, if_neg fun e => (h.gone n).1 e hm⟩)
    · exact Or.inr (Or.inl ⟨hk, hm, if_pos ((h.gone n).2 hm)⟩)
  · rw [if_neg hk]; exact Or.inl ⟨hk, rfl⟩
end Go.Proofs.YtbdmfcnlfmnmdaaDoor
