/-
  A TREE OF NETWORKS IN MEMORY: each node a block of its own (both branches, whether its network is there, its number), the root at the beginning of the table's block, which holds the count besides; what a store, a new node and a node cut off make of it.
-/
import Derived.Test.YtbdmfcnlfmnmdaaDoorTriePlain
import Derived.Deep.Draws
namespace Go.Proofs.YtbdmfcnlfmnmdaaDoor
open Go.RowKit

/-- The pointer to a node. -/
def pt : Option Nd → Value
  | none => .pointer none
  | some x => .pointer (some ⟨x.b, 0, none⟩)
theorem pt_none : pt none = .pointer none := rfl
theorem pt_some (x : Nd) : pt (some x) = .pointer (some ⟨x.b, 0, none⟩) := rfl
/-- A pointer it is. -/
theorem pt_pointer (o : Option Nd) : ∃ q, pt o = .pointer q := by
  cases o with
  | none => exact ⟨none, rfl⟩
  | some x => exact ⟨_, rfl⟩
/-- What a node's cells hold. -/
def nc (M : Tm) (a d : Nat) (x : Nd) : Nat → Value
  | 0 => pt (M a (d + 1))
  | 1 => pt (M (TrieP.kid a d 1) (d + 1))
  | 2 => .bool x.u
  | _ => .int .i64 x.v
theorem nc_kid (M : Tm) (a d : Nat) (x : Nd) (c : Nat) (hc : c < 2) : nc M a d x c = pt (M (TrieP.kid a d c) (d + 1)) := by
  rcases (show c = 0 ∨ c = 1 by omega) with rfl | rfl <;> rfl

structure Tri (w : World) (M : Tm) (tb : Nat) (c : Int) : Prop where
  ok : M.Ok
  root : ∃ x, M 0 0 = some x ∧ x.b = tb
  inj : ∀ a d x a' d' y, M a d = some x → M a' d' = some y → x.b = y.b → a = a' ∧ d = d'
  lt : ∀ a d x, M a d = some x → x.b < w.heap.size
  cell : ∀ a d x, M a d = some x → ∀ o, o < 4 → w.cell? ⟨x.b, o, none⟩ = some (nc M a d x o)
  free : ∀ a d x, M a d = some x → ∀ o, w.frozen? ⟨x.b, o, none⟩ = false
  cnt : w.cell? ⟨tb, 4, none⟩ = some (.int .i64 c)

/-- The blocks of a tree. -/
def Tm.Bl (M : Tm) (b : Nat) : Prop := ∃ a d x, M a d = some x ∧ x.b = b
theorem Tri.rootB {w : World} {M : Tm} {tb : Nat} {c : Int} (h : Tri w M tb c) : M.Bl tb := by
  obtain ⟨x, h1, h2⟩ := h.root
  exact ⟨0, 0, x, h1, h2⟩

/-- All blocks but some stay as they were. -/
structure Keep (S : Nat → Prop) (w W : World) : Prop where
  os : W.os = w.os
  tape : W.tape = w.tape
  output : W.output = w.output
  size : w.heap.size ≤ W.heap.size
  block : ∀ k, k < w.heap.size → ¬ S k → W.heap[k]? = w.heap[k]?
theorem Keep.refl (S : Nat → Prop) (w : World) : Keep S w w := ⟨rfl, rfl, rfl, Nat.le_refl _, fun _ _ _ => rfl⟩
theorem Keep.trans {S : Nat → Prop} {w w1 w2 : World} (h : Keep S w w1) (k : Keep S w1 w2) : Keep S w w2 :=
  ⟨k.os.trans h.os, k.tape.trans h.tape, k.output.trans h.output, Nat.le_trans h.size k.size, fun i hi hn => (k.block i (Nat.lt_of_lt_of_le hi h.size) hn).trans (h.block i hi hn)⟩
/-- Two steps, the second of which may turn what the first one has laid. -/
theorem Keep.then {S S' : Nat → Prop} {w w1 w2 : World} (h : Keep S w w1) (k : Keep S' w1 w2) (hs : ∀ b, S' b → S b ∨ w.heap.size ≤ b) : Keep S w w2 :=
  ⟨k.os.trans h.os, k.tape.trans h.tape, k.output.trans h.output, Nat.le_trans h.size k.size, fun i hi hn => (k.block i (Nat.lt_of_lt_of_le hi h.size) (fun e => by
    rcases hs i e with h1 | h1
    · exact hn h1
    · omega)).trans (h.block i hi hn)⟩
theorem Keep.of {S : Nat → Prop} {w W : World} (h : Below w.heap.size w W) : Keep S w W := ⟨h.os, h.tape, h.output, h.size, fun k hk _ => h.block k hk⟩
theorem Keep.below {S : Nat → Prop} {w W : World} {n : Nat} (h : Keep S w W) (hn : ∀ b, S b → n ≤ b) (hw : n ≤ w.heap.size) : Below n w W :=
  ⟨h.os, h.tape, h.output, h.size, fun k hk => h.block k (by omega) (fun e => by have := hn k e; omega)⟩
theorem Keep.mono {S S' : Nat → Prop} {w W : World} (h : Keep S w W) (hs : ∀ b, S b → S' b) : Keep S' w W := ⟨h.os, h.tape, h.output, h.size, fun k hk hn => h.block k hk fun e => hn (hs k e)⟩
theorem Keep.setCell (S : Nat → Prop) (w : World) (b o : Nat) (v : Value) (hb : S b) : Keep S w (w.setCell ⟨b, o, none⟩ v) :=
  ⟨rfl, rfl, rfl, by simp [World.setCell], fun k _ hn => Below.heap_setCell _ _ _ _ (fun e => hn (e ▸ hb))⟩
theorem Keep.alloc (S : Nat → Prop) (w : World) (x : Obj) : Keep S w (w.alloc x) := Keep.of ((Below.refl _ _).alloc (Nat.le_refl _) _)
theorem Keep.drew {S : Nat → Prop} {w W : World} (h : Keep S w W) : Keep S w W.drew := ⟨h.os, h.tape, h.output, h.size, h.block⟩

theorem Keep.drewN {S : Nat → Prop} {w W : World} (h : Keep S w W) (n : Nat) : Keep S w (W.drewN n) := ⟨h.os, h.tape, h.output, h.size, h.block⟩
theorem Below.drewN {B : Nat} {w W : World} (h : Below B w W) (n : Nat) : Below B w (W.drewN n) := ⟨h.os, h.tape, h.output, h.size, h.block⟩
theorem Box.drewN {w : World} {b : Nat} {x y : Value} (h : Box w b x y) (n : Nat) : Box (w.drewN n) b x y := ⟨h.lt, h.c0, h.c1, h.f0, h.f1⟩
/-- A tree whose blocks stay. -/
theorem Tri.frame {w w' : World} {M : Tm} {tb : Nat} {c : Int} (h : Tri w M tb c) (hs : w.heap.size ≤ w'.heap.size) (hb : ∀ b, M.Bl b → w'.heap[b]? = w.heap[b]?) : Tri w' M tb c := by
  refine ⟨h.ok, h.root, h.inj, fun a d x hx => Nat.lt_of_lt_of_le (h.lt a d x hx) hs, fun a d x hx o ho => ?_, fun a d x hx o => ?_, ?_⟩
  · exact (World.cell?_of_block (w := w) (hb x.b ⟨a, d, x, hx, rfl⟩)).trans (h.cell a d x hx o ho)
  · exact (World.frozen?_of_block (w := w) (hb x.b ⟨a, d, x, hx, rfl⟩)).trans (h.free a d x hx o)
  · exact (World.cell?_of_block (w := w) (hb tb h.rootB)).trans h.cnt
theorem Tri.blt {w : World} {M : Tm} {tb : Nat} {c : Int} (h : Tri w M tb c) (b : Nat) (hb : M.Bl b) : b < w.heap.size := by
  obtain ⟨a, d, x, hx, rfl⟩ := hb
  exact h.lt a d x hx
theorem Tri.below {w w' : World} {M : Tm} {tb : Nat} {c : Int} (h : Tri w M tb c) (hb : Below w.heap.size w w') : Tri w' M tb c :=
  h.frame hb.size fun b hx => hb.block b (h.blt b hx)
theorem Tri.keep {w w' : World} {S : Nat → Prop} {M : Tm} {tb : Nat} {c : Int} (h : Tri w M tb c) (hk : Keep S w w') (hs : ∀ b, M.Bl b → ¬ S b) : Tri w' M tb c :=
  h.frame hk.size fun b hx => hk.block b (h.blt b hx) (hs b hx)

theorem Tri.drewN {w : World} {M : Tm} {tb : Nat} {c : Int} (h : Tri w M tb c) (n : Nat) : Tri (w.drewN n) M tb c := h.frame (Nat.le_refl _) fun _ _ => rfl
theorem Tri.drew {w : World} {M : Tm} {tb : Nat} {c : Int} (h : Tri w M tb c) : Tri w.drew M tb c := h.frame (Nat.le_refl _) fun _ _ => rfl
/-- A store into a node's cell. -/
theorem Tri.store {w : World} {M M' : Tm} {tb : Nat} {c : Int} (h : Tri w M tb c) {a d : Nat} {x : Nd} (hx : M a d = some x) (o : Nat) (ho : o < 4) (v : Value) (hok : M'.Ok)
    (hroot : ∃ y, M' 0 0 = some y) (hno : ∀ a' d' y', M' a' d' = some y' → ∃ y, M a' d' = some y ∧ y.b = y'.b)
    (hc : ∀ a' d' y y', M a' d' = some y → M' a' d' = some y' → ∀ o', o' < 4 → nc M' a' d' y' o' = if (a' = a ∧ d' = d) ∧ o' = o then v else nc M a' d' y o') :
    Tri (w.setCell ⟨x.b, o, none⟩ v) M' tb c := by
  refine ⟨hok, ?_, ?_, ?_, ?_, ?_, ?_⟩
  · obtain ⟨y', hy'⟩ := hroot
    obtain ⟨y, hy, hb⟩ := hno 0 0 y' hy'
    obtain ⟨z, hz, hzb⟩ := h.root
    rw [hz] at hy
    obtain rfl := Option.some.inj hy
    exact ⟨y', hy', by rw [← hb, hzb]⟩
  · intro a1 d1 x1 a2 d2 x2 h1 h2 e
    obtain ⟨y1, k1, b1⟩ := hno _ _ _ h1
    obtain ⟨y2, k2, b2⟩ := hno _ _ _ h2
    exact h.inj _ _ _ _ _ _ k1 k2 (by rw [b1, b2, e])
  · intro a1 d1 x1 h1
    obtain ⟨y1, k1, b1⟩ := hno _ _ _ h1
    rw [← b1]
    simpa [World.setCell] using h.lt _ _ _ k1
  · intro a1 d1 x1 h1 o1 ho1
    obtain ⟨y1, k1, b1⟩ := hno _ _ _ h1
    rw [hc a1 d1 y1 x1 k1 h1 o1 ho1, ← b1]
    have hcell := h.cell a1 d1 y1 k1 o1 ho1
    by_cases e : (a1 = a ∧ d1 = d) ∧ o1 = o
    · obtain ⟨⟨rfl, rfl⟩, rfl⟩ := e
      rw [if_pos ⟨⟨rfl, rfl⟩, rfl⟩]
      rw [hx] at k1
      obtain rfl := Option.some.inj k1
      exact World.cell?_setCell_same _ _ _ hcell
    · rw [if_neg e, World.cell?_setCell_other _ _ _ _ ?_]
      · exact hcell
      · intro e2
        simp only [Addr.mk.injEq] at e2
        refine e ⟨?_, e2.2.1.symm⟩
        exact h.inj _ _ _ _ _ _ k1 hx e2.1.symm
  · intro a1 d1 x1 h1 o1
    obtain ⟨y1, k1, b1⟩ := hno _ _ _ h1
    rw [← b1, World.frozen?_setCell]
    exact h.free _ _ _ k1 o1
  · rw [World.cell?_setCell_other _ _ _ _ ?_]
    · exact h.cnt
    · intro e2
      simp only [Addr.mk.injEq] at e2
      omega
theorem Tri.count {w : World} {M : Tm} {tb : Nat} {c : Int} (h : Tri w M tb c) (c' : Int) : Tri (w.setCell ⟨tb, 4, none⟩ (.int .i64 c')) M tb c' := by
  refine ⟨h.ok, h.root, h.inj, fun a d x hx => by simpa [World.setCell] using h.lt a d x hx, fun a d x hx o ho => ?_, fun a d x hx o => ?_, ?_⟩
  · rw [World.cell?_setCell_other _ _ _ _ ?_]
    · exact h.cell a d x hx o ho
    · intro e2
      simp only [Addr.mk.injEq] at e2
      omega
  · rw [World.frozen?_setCell]; exact h.free a d x hx o
  · exact World.cell?_setCell_same _ _ _ h.cnt
theorem pt_upd {M : Tm} {a d : Nat} {x y : Nd} (hx : M a d = some x) (hb : y.b = x.b) (a' d' : Nat) : pt (M.upd a d (some y) a' d') = pt (M a' d') := by
  unfold Tm.upd
  split
  · rename_i e
    obtain ⟨rfl, rfl⟩ := e
    rw [hx, pt_some, pt_some, hb]
  · rfl
theorem Tm.Ok.upd {M : Tm} (h : M.Ok) {a d : Nat} {x y : Nd} (hx : M a d = some x) : (M.upd a d (some y)).Ok := by
  have key : ∀ a' d' z, M.upd a d (some y) a' d' = some z → ∃ z', M a' d' = some z' := by
    intro a' d' z hz
    unfold Tm.upd at hz
    split at hz
    · rename_i e
      obtain ⟨rfl, rfl⟩ := e
      exact ⟨x, hx⟩
    · exact ⟨z, hz⟩
  refine ⟨fun a' d' z hz => ?_, fun a' d' z hz => ?_⟩
  · obtain ⟨z', hz'⟩ := key _ _ _ hz
    exact h.ok _ _ _ hz'
  · obtain ⟨z', hz'⟩ := key _ _ _ hz
    obtain ⟨q, hq⟩ := h.par _ _ _ hz'
    unfold Tm.upd
    split
    · exact ⟨y, rfl⟩
    · exact ⟨q, hq⟩
theorem Tri.same {w : World} {M : Tm} {tb : Nat} {c : Int} (h : Tri w M tb c) {a d : Nat} {x y : Nd} (hx : M a d = some x) (hb : y.b = x.b) (o : Nat) (ho : o < 4) (v : Value) (hv : v = nc M a d y o) (hy : ∀ o', o' < 4 → o' ≠ o → nc M a d y o' = nc M a d x o') :
    Tri (w.setCell ⟨x.b, o, none⟩ v) (M.upd a d (some y)) tb c := by
  have ncu : ∀ a' d' z o', nc (M.upd a d (some y)) a' d' z o' = nc M a' d' z o' := by
    intro a' d' z o'
    match o' with
    | 0 => exact pt_upd hx hb _ _
    | 1 => exact pt_upd hx hb _ _
    | 2 => rfl
    | n + 3 => rfl
  refine h.store hx o ho v (h.ok.upd hx) ?_ ?_ ?_
  · obtain ⟨z, hz, _⟩ := h.root
    unfold Tm.upd
    split
    · exact ⟨y, rfl⟩
    · exact ⟨z, hz⟩
  · intro a' d' y' hy'
    unfold Tm.upd at hy'
    split at hy'
    · rename_i e
      obtain ⟨rfl, rfl⟩ := e
      obtain rfl := Option.some.inj hy'
      exact ⟨x, hx, hb.symm⟩
    · exact ⟨y', hy', rfl⟩
  · intro a' d' z z' hz hz' o' ho'
    rw [ncu]
    by_cases e : a' = a ∧ d' = d
    · obtain ⟨rfl, rfl⟩ := e
      rw [hx] at hz
      obtain rfl := Option.some.inj hz
      rw [Tm.upd_same] at hz'
      obtain rfl := Option.some.inj hz'
      by_cases e2 : o' = o
      · subst e2
        rw [if_pos ⟨⟨rfl, rfl⟩, rfl⟩, hv]
      · rw [if_neg (fun e3 => e2 e3.2)]
        exact hy o' ho' e2
    · rw [if_neg (fun e3 => e e3.1)]
      rw [Tm.upd_other _ _ _ _ _ _ e, hz] at hz'
      obtain rfl := Option.some.inj hz'
      rfl
/-- Whether a network is there, and its number, written anew. -/
theorem Tri.setU {w : World} {M : Tm} {tb : Nat} {c : Int} (h : Tri w M tb c) {a d : Nat} {x : Nd} (hx : M a d = some x) (u : Bool) :
    Tri (w.setCell ⟨x.b, 2, none⟩ (.bool u)) (M.upd a d (some ⟨x.b, u, x.v⟩)) tb c := by
  refine h.same (y := ⟨x.b, u, x.v⟩) hx rfl 2 (by decide) _ rfl ?_
  intro o' h1 h2
  match o' with
  | 0 => rfl
  | 1 => rfl
  | 2 => exact absurd rfl h2
  | n + 3 => rfl
theorem Tri.setV {w : World} {M : Tm} {tb : Nat} {c : Int} (h : Tri w M tb c) {a d : Nat} {x : Nd} (hx : M a d = some x) (v : Int) :
    Tri (w.setCell ⟨x.b, 3, none⟩ (.int .i64 v)) (M.upd a d (some ⟨x.b, x.u, v⟩)) tb c := by
  refine h.same (y := ⟨x.b, x.u, v⟩) hx rfl 3 (by decide) _ rfl ?_
  intro o' h1 h2
  match o' with
  | 0 => rfl
  | 1 => rfl
  | 2 => rfl
  | 3 => exact absurd rfl h2
  | n + 4 => omega
theorem Tm.upd_upd (M : Tm) (a d : Nat) (o o' : Option Nd) : (M.upd a d o).upd a d o' = M.upd a d o' := by
  funext a' d'
  unfold Tm.upd
  split <;> simp_all
theorem Tri.setUV {w : World} {M : Tm} {tb : Nat} {c : Int} (h : Tri w M tb c) {a d : Nat} {x : Nd} (hx : M a d = some x) (u : Bool) (v : Int) :
    Tri ((w.setCell ⟨x.b, 2, none⟩ (.bool u)).setCell ⟨x.b, 3, none⟩ (.int .i64 v)) (M.upd a d (some ⟨x.b, u, v⟩)) tb c := by
  have h1 := (h.setU hx u).setV (Tm.upd_same M a d _) v
  rw [Tm.upd_upd] at h1
  exact h1

/-- A node without halves below, cut off. -/
theorem Tri.cut {w : World} {M : Tm} {tb : Nat} {c : Int} (h : Tri w M tb c) {a d e : Nat} {x y : Nd} (hx : M a d = some x) (hd : d < 32) (he : e < 2) (hy : M (TrieP.kid a d e) (d + 1) = some y)
    (h0 : M (TrieP.kid a d e) (d + 2) = none) (h1 : M (TrieP.kid (TrieP.kid a d e) (d + 1) 1) (d + 2) = none) :
    Tri (w.setCell ⟨x.b, e, none⟩ (.pointer none)) (M.upd (TrieP.kid a d e) (d + 1) none) tb c := by
  have hca := (h.ok.ok _ _ _ hx).2.2
  have hck := (h.ok.ok _ _ _ hy).2.2
  have key : ∀ a' d' z, M.upd (TrieP.kid a d e) (d + 1) none a' d' = some z → M a' d' = some z ∧ ¬ (a' = TrieP.kid a d e ∧ d' = d + 1) := by
    intro a' d' z hz
    unfold Tm.upd at hz
    split at hz
    · exact absurd hz (by simp)
    · rename_i ne; exact ⟨hz, ne⟩
  refine h.store hx e (by omega) _ ⟨fun a' d' z hz => h.ok.ok _ _ _ (key _ _ _ hz).1, fun a' d' z hz => ?_⟩ ?_ (fun a' d' z hz => ⟨z, (key _ _ _ hz).1, rfl⟩) ?_
  · obtain ⟨k1, k2⟩ := key _ _ _ hz
    obtain ⟨q, hq⟩ := h.ok.par _ _ _ k1
    refine ⟨q, ?_⟩
    rw [Tm.upd_other _ _ _ _ _ _ ?_]
    · exact hq
    · rintro ⟨e1, rfl⟩
      -- a node below the one that is cut off
      have hd2 := (h.ok.ok _ _ _ k1).1
      have hc2 := (h.ok.ok _ _ _ k1).2.2
      have := TrieP.side a' (TrieP.kid a d e) (d + 1) (by omega) e1
      rw [hc2] at this
      rcases this with e3 | e3
      · rw [TrieP.kid0] at e3
        rw [e3, h0] at k1
        exact absurd k1 (by simp)
      · rw [e3, h1] at k1
        exact absurd k1 (by simp)
  · obtain ⟨z, hz, _⟩ := h.root
    exact ⟨z, by rw [Tm.upd_deep _ _ _ _ _ _ (by omega)]; exact hz⟩
  · intro a' d' z z' hz hz' o' ho'
    obtain ⟨k1, k2⟩ := key _ _ _ hz'
    rw [hz] at k1
    obtain rfl := Option.some.inj k1
    -- a branch that leads there is the node's own one
    have br : ∀ c', c' < 2 → TrieP.kid a' d' c' = TrieP.kid a d e → d' = d → a' = a ∧ c' = e := by
      intro c' hc' e1 e2
      subst e2
      exact TrieP.kid_inj a' d' c' a e hd (h.ok.ok _ _ _ hz).2.2 hca hc' he e1
    have leaf : ∀ c', c' < 2 → nc (M.upd (TrieP.kid a d e) (d + 1) none) a' d' z c' = if (a' = a ∧ d' = d) ∧ c' = e then .pointer none else nc M a' d' z c' := by
      intro c' hc'
      rw [nc_kid _ _ _ _ _ hc', nc_kid _ _ _ _ _ hc']
      by_cases e1 : (a' = a ∧ d' = d) ∧ c' = e
      · obtain ⟨⟨rfl, rfl⟩, rfl⟩ := e1
        rw [if_pos ⟨⟨rfl, rfl⟩, rfl⟩, Tm.upd_same]; rfl
      · rw [if_neg e1, Tm.upd_other _ _ _ _ _ _ ?_]
        rintro ⟨e2, e3⟩
        have e4 : d' = d := by omega
        obtain ⟨e5, e6⟩ := br c' hc' e2 e4
        exact e1 ⟨⟨e5, e4⟩, e6⟩
    match o' with
    | 0 => exact leaf 0 (by decide)
    | 1 => exact leaf 1 (by decide)
    | 2 => rw [if_neg (by omega)]; rfl
    | n + 3 => rw [if_neg (by omega)]; rfl

/-- A new node. -/
theorem Tri.add {w : World} {M : Tm} {tb : Nat} {c : Int} (h : Tri w M tb c) {a d e : Nat} {x : Nd} (hx : M a d = some x) (hd : d < 32) (he : e < 2) (hy : M (TrieP.kid a d e) (d + 1) = none) (T : TypeId) :
    Tri ((w.alloc (.cells #[.pointer none, .pointer none, .bool false, .int .i64 0] T)).setCell ⟨x.b, e, none⟩ (.pointer (some ⟨w.heap.size, 0, none⟩))) (M.upd (TrieP.kid a d e) (d + 1) (some ⟨w.heap.size, false, 0⟩)) tb c := by
  have hxo := h.ok.ok _ _ _ hx
  have hlt := h.lt _ _ _ hx
  have nk : ∀ a' z, M a' (d + 2) = some z → PrefP.cut a' (d + 1) ≠ TrieP.kid a d e := by
    intro a' z hz e1
    obtain ⟨q, hq⟩ := h.ok.par _ _ _ hz
    rw [e1, hy] at hq
    exact absurd hq (by simp)
  have key : ∀ a' d' z, M.upd (TrieP.kid a d e) (d + 1) (some ⟨w.heap.size, false, 0⟩) a' d' = some z → (a' = TrieP.kid a d e ∧ d' = d + 1 ∧ z = ⟨w.heap.size, false, 0⟩) ∨ (M a' d' = some z ∧ ¬ (a' = TrieP.kid a d e ∧ d' = d + 1)) := by
    intro a' d' z hz
    unfold Tm.upd at hz
    split at hz
    · rename_i e1
      exact Or.inl ⟨e1.1, e1.2, (Option.some.inj hz).symm⟩
    · rename_i ne; exact Or.inr ⟨hz, ne⟩
  have kc : PrefP.cut (TrieP.kid a d e) (d + 1) = TrieP.kid a d e := TrieP.kid_ok a d e hd hxo.2.2
  refine ⟨⟨?_, ?_⟩, ?_, ?_, ?_, ?_, ?_, ?_⟩
  · intro a' d' z hz
    rcases key _ _ _ hz with ⟨rfl, rfl, rfl⟩ | ⟨k1, _⟩
    · exact ⟨by omega, TrieP.kid_lt a d e hxo.2.1, kc⟩
    · exact h.ok.ok _ _ _ k1
  · intro a' d' z hz
    rcases key _ _ _ hz with ⟨rfl, e2, rfl⟩ | ⟨k1, _⟩
    · obtain rfl : d' = d := by omega
      refine ⟨x, ?_⟩
      rw [TrieP.kid_up a d' e hd hxo.2.2, Tm.upd_deep _ _ _ _ _ _ (by omega)]
      exact hx
    · obtain ⟨q, hq⟩ := h.ok.par _ _ _ k1
      unfold Tm.upd
      split
      · exact ⟨_, rfl⟩
      · exact ⟨q, hq⟩
  · obtain ⟨z, hz, hzb⟩ := h.root
    exact ⟨z, by rw [Tm.upd_deep _ _ _ _ _ _ (by omega)]; exact hz, hzb⟩
  · intro a1 d1 x1 a2 d2 x2 h1 h2 eb
    rcases key _ _ _ h1 with ⟨rfl, rfl, rfl⟩ | ⟨k1, _⟩ <;> rcases key _ _ _ h2 with ⟨rfl, rfl, rfl⟩ | ⟨k2, _⟩
    · exact ⟨rfl, rfl⟩
    · have := h.lt _ _ _ k2; simp only at eb; omega
    · have := h.lt _ _ _ k1; simp only at eb; omega
    · exact h.inj _ _ _ _ _ _ k1 k2 eb
  · intro a' d' z hz
    rcases key _ _ _ hz with ⟨rfl, rfl, rfl⟩ | ⟨k1, _⟩
    · simp [World.setCell]
    · have := h.lt _ _ _ k1
      simp [World.setCell]; omega
  · intro a' d' z hz o' ho'
    rcases key _ _ _ hz with ⟨rfl, rfl, rfl⟩ | ⟨k1, k2⟩
    · -- the new node itself
      rw [World.cell?_setCell_other _ _ _ _ (by intro e2; simp only [Addr.mk.injEq] at e2; omega), World.cell?_alloc_new]
      have z0 : ∀ c', c' < 2 → M.upd (TrieP.kid a d e) (d + 1) (some ⟨w.heap.size, false, 0⟩) (TrieP.kid (TrieP.kid a d e) (d + 1) c') (d + 1 + 1) = none := by
        intro c' hc'
        rw [Tm.upd_deep _ _ _ _ _ _ (by omega)]
        cases hq : M (TrieP.kid (TrieP.kid a d e) (d + 1) c') (d + 1 + 1) with
        | none => rfl
        | some q =>
          have hq2 := (h.ok.ok _ _ _ hq).1
          exact absurd (TrieP.kid_up (TrieP.kid a d e) (d + 1) c' (by omega) kc) (nk _ q hq)
      match o' with
      | 0 => have := z0 0 (by decide); rw [TrieP.kid0] at this; simp [nc, this, pt]
      | 1 => have := z0 1 (by decide); simp [nc, this, pt]
      | 2 => simp [nc]
      | 3 => simp [nc]
      | n + 4 => omega
    · have hl := h.lt _ _ _ k1
      have hcell := h.cell _ _ _ k1 o' ho'
      have br : ∀ c', c' < 2 → ((w.alloc (.cells #[.pointer none, .pointer none, .bool false, .int .i64 0] T)).setCell ⟨x.b, e, none⟩ (.pointer (some ⟨w.heap.size, 0, none⟩))).cell? ⟨z.b, c', none⟩ = some (nc (M.upd (TrieP.kid a d e) (d + 1) (some ⟨w.heap.size, false, 0⟩)) a' d' z c') := by
        intro c' hc'
        have hcell := h.cell _ _ _ k1 c' (by omega)
        rw [nc_kid _ _ _ _ _ hc'] at hcell ⊢
        by_cases e1 : (a' = a ∧ d' = d) ∧ c' = e
        · obtain ⟨⟨rfl, rfl⟩, rfl⟩ := e1
          rw [hx] at k1
          obtain rfl := Option.some.inj k1
          rw [Tm.upd_same]
          exact World.cell?_setCell_same _ _ _ ((World.cell?_alloc_lt _ _ _ (by simpa using hlt)).trans hcell)
        · rw [Tm.upd_other _ _ _ _ _ _ ?_, World.cell?_setCell_other _ _ _ _ ?_, World.cell?_alloc_lt _ _ _ (by simpa using hl)]
          · exact hcell
          · intro e2
            simp only [Addr.mk.injEq] at e2
            exact e1 ⟨h.inj _ _ _ _ _ _ k1 hx e2.1.symm, e2.2.1.symm⟩
          · rintro ⟨e2, e3⟩
            have e4 : d' = d := by omega
            subst e4
            obtain ⟨e5, e6⟩ := TrieP.kid_inj a' d' c' a e hd (h.ok.ok _ _ _ k1).2.2 hxo.2.2 hc' he e2
            exact e1 ⟨⟨e5, rfl⟩, e6⟩
      match o' with
      | 0 => exact br 0 (by decide)
      | 1 => exact br 1 (by decide)
      | n + 2 =>
        rw [World.cell?_setCell_other _ _ _ _ (by intro e2; simp only [Addr.mk.injEq] at e2; omega), World.cell?_alloc_lt _ _ _ (by simpa using hl), hcell]
        match n with
        | 0 => rfl
        | n + 1 => rfl
  · intro a' d' z hz o'
    rw [World.frozen?_setCell]
    rcases key _ _ _ hz with ⟨rfl, rfl, rfl⟩ | ⟨k1, k2⟩
    · simp
    · have hl := h.lt _ _ _ k1
      rw [← h.free _ _ _ k1 o']
      exact World.frozen?_of_block (w := w) (Below.heap_alloc _ _ _ hl)
  · have hl := h.blt tb h.rootB
    rw [World.cell?_setCell_other _ _ _ _ (by intro e2; simp only [Addr.mk.injEq] at e2; omega), World.cell?_alloc_lt _ _ _ (by simpa using hl)]
    exact h.cnt
end Go.Proofs.YtbdmfcnlfmnmdaaDoor
