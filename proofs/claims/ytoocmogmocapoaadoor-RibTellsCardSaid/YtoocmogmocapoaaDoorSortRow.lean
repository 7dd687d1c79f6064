/-
  A ROW OF THINGS in one block of memory that is being sorted, and all else that stays as it was: what 'sort' turns, and what is asked of the comparison (it may lay blocks of its own) and of the exchange.
-/
import Derived.Test.YtoocmogmocapoaaDoorBoxes
import Derived.Laws.AppendOwn
import Derived.Sort.AssemblyPlain
import Derived.Sort.Walk13a
import Derived.Sort.LotD4
namespace Go.Proofs.YtoocmogmocapoaaDoor
open Go.RowKit

/-- All blocks but one stay as they were. -/
structure Keeps (w : World) (blk : Nat) (W : World) : Prop where
  os : W.os = w.os
  tape : W.tape = w.tape
  output : W.output = w.output
  size : w.heap.size ≤ W.heap.size
  block : ∀ k, k < w.heap.size → k ≠ blk → W.heap[k]? = w.heap[k]?
theorem Keeps.refl (w : World) (blk : Nat) : Keeps w blk w := ⟨rfl, rfl, rfl, Nat.le_refl _, fun _ _ _ => rfl⟩
theorem Keeps.trans {w w1 w2 : World} {blk : Nat} (h : Keeps w blk w1) (k : Keeps w1 blk w2) : Keeps w blk w2 :=
  ⟨k.os.trans h.os, k.tape.trans h.tape, k.output.trans h.output, Nat.le_trans h.size k.size, fun i hi hn => (k.block i (Nat.lt_of_lt_of_le hi h.size) hn).trans (h.block i hi hn)⟩
theorem Keeps.of {w W : World} {blk : Nat} (h : Below w.heap.size w W) : Keeps w blk W := ⟨h.os, h.tape, h.output, h.size, fun k hk _ => h.block k hk⟩
theorem Keeps.below {w W : World} {blk n : Nat} (h : Keeps w blk W) (hn : n ≤ blk) (hw : n ≤ w.heap.size) : Below n w W := ⟨h.os, h.tape, h.output, h.size, fun k hk => h.block k (by omega) (by omega)⟩
theorem Keeps.cell {w W : World} {blk : Nat} (h : Keeps w blk W) (b o : Nat) (hb : b < w.heap.size) (hn : b ≠ blk) : W.cell? ⟨b, o, none⟩ = w.cell? ⟨b, o, none⟩ := by
  simp only [World.cell?, h.block b hb hn]
theorem Keeps.frozen {w W : World} {blk : Nat} (h : Keeps w blk W) (b o : Nat) (hb : b < w.heap.size) (hn : b ≠ blk) : W.frozen? ⟨b, o, none⟩ = w.frozen? ⟨b, o, none⟩ := by
  simp only [World.frozen?, h.block b hb hn]

/-- WHAT IS SORTED: which of two stands ahead; how a row of them lies in a block. -/
class Elt (E : Type) [Inhabited E] where
  lt : E → E → Bool
  swo : Go.Sort.SWO lt
  row : World → Nat → Array E → Prop
  frame : ∀ {W W' : World} {blk : Nat} {d : Array E}, row W blk d → (∀ o, W'.cell? ⟨blk, o, none⟩ = W.cell? ⟨blk, o, none⟩) → (∀ o, W'.frozen? ⟨blk, o, none⟩ = W.frozen? ⟨blk, o, none⟩) → row W' blk d
variable {E : Type} [Inhabited E]
/-- The row. -/
def Row [Elt E] (W : World) (blk : Nat) (d : Array E) : Prop := Elt.row W blk d
theorem Row.frame [Elt E] {W W' : World} {blk : Nat} {d : Array E} (h : Row W blk d) (c : ∀ o, W'.cell? ⟨blk, o, none⟩ = W.cell? ⟨blk, o, none⟩) (f : ∀ o, W'.frozen? ⟨blk, o, none⟩ = W.frozen? ⟨blk, o, none⟩) : Row W' blk d := Elt.frame h c f
theorem Row.below [Elt E] {W W' : World} {blk n : Nat} {d : Array E} (h : Row W blk d) (hb : Below n W W') (hn : blk < n) : Row W' blk d :=
  h.frame (fun o => hb.cell (p := ⟨blk, o, none⟩) hn) (fun o => hb.frozen (p := ⟨blk, o, none⟩) hn)

/-- What is asked of the comparison (function g, bound to lb) and of the exchange (function sf, bound to sb), from the world w0 on. -/
structure Srt (E : Type) [Inhabited E] [Elt E] (g sf : Nat) (lb sb : Array Value) (blk size : Nat) (w0 : World) : Prop where
  enter : ∀ args w, (callFunc g args).run Tryd.prog w = .ok (.enter g args) w
  few : size ≤ 64
  lt : blk < w0.heap.size
  less : ∀ (W : World) (d : Array E), Keeps w0 blk W → Row W blk d → d.size = size → ∀ i j : Nat, i < size → j < size →
    Calls Tryd.prog g (#[.int .i64 i, .int .i64 j] ++ lb) W fun e w' => e = .returned (.bool (Elt.lt d[i]! d[j]!)) ∧ Below W.heap.size W w'
  swap : ∀ (W : World) (d : Array E), Row W blk d → d.size = size → ∀ i j : Nat, i < size → j < size →
    ∃ W', (callFunc sf (#[.int .i64 i, .int .i64 j] ++ sb)).run Tryd.prog W = .ok (.value (.tuple #[])) W' ∧ Row W' blk (Sort.swp d i j) ∧ Keeps W blk W'

/-- The data that sort hands on: both functions. -/
def Srt.data (g sf : Nat) (lb sb : Array Value) : Value := .agg #[.func (.func g) #[] lb, .func (.func sf) #[] sb]

/-- WITHIN A FUNCTION OF sort, called in the world W0: its own box (both functions) lies whole, the row holds d. -/
structure On [Elt E] (g sf : Nat) (lb sb : Array Value) (blk size : Nat) (w0 W0 : World) (d : Array E) (X : World) : Prop where
  base : Keeps w0 blk X
  own : Keeps W0 blk X
  row : Row X blk d
  dsz : d.size = size
  ne : W0.heap.size ≠ blk
  lt : W0.heap.size < X.heap.size
  c0 : X.cell? ⟨W0.heap.size, 0, none⟩ = some (.func (.func g) #[] lb)
  c1 : X.cell? ⟨W0.heap.size, 1, none⟩ = some (.func (.func sf) #[] sb)

section
variable [Elt E] {g sf : Nat} {lb sb : Array Value} {blk size : Nat} {w0 W0 X Y : World} {d d' : Array E}
theorem On.inside (h : On g sf lb sb blk size w0 W0 d X) (S : Srt E g sf lb sb blk size w0) : blk < X.heap.size := Nat.lt_of_lt_of_le S.lt h.base.size
theorem On.start (S : Srt E g sf lb sb blk size w0) (hk : Keeps w0 blk W0) (hr : Row W0 blk d) (hd : d.size = size) (T : TypeId) :
    On g sf lb sb blk size w0 W0 d (W0.alloc (.cells #[.func (.func g) #[] lb, .func (.func sf) #[] sb] T)) := by
  have hb : blk < W0.heap.size := Nat.lt_of_lt_of_le S.lt hk.size
  have hB : Below W0.heap.size W0 (W0.alloc (.cells #[.func (.func g) #[] lb, .func (.func sf) #[] sb] T)) := (Below.refl _ _).alloc (Nat.le_refl _) _
  have bx := Box.new W0 (.func (.func g) #[] lb) (.func (.func sf) #[] sb) T
  exact ⟨hk.trans (Keeps.of hB), Keeps.of hB, hr.below hB hb, hd, by omega, bx.lt, bx.c0, bx.c1⟩
theorem On.below (h : On g sf lb sb blk size w0 W0 d X) (S : Srt E g sf lb sb blk size w0) (hb : Below X.heap.size X Y) : On g sf lb sb blk size w0 W0 d Y :=
  ⟨h.base.trans (Keeps.of hb), h.own.trans (Keeps.of hb), h.row.below hb (h.inside S), h.dsz, h.ne, Nat.lt_of_lt_of_le h.lt hb.size, (hb.cell (p := ⟨W0.heap.size, 0, none⟩) h.lt).trans h.c0, (hb.cell (p := ⟨W0.heap.size, 1, none⟩) h.lt).trans h.c1⟩
theorem On.call (h : On g sf lb sb blk size w0 W0 d X) (hr : Row Y blk d') (hk : Keeps X blk Y) (hd : d'.size = size) : On g sf lb sb blk size w0 W0 d' Y :=
  ⟨h.base.trans hk, h.own.trans hk, hr, hd, h.ne, Nat.lt_of_lt_of_le h.lt hk.size, (hk.cell _ 0 h.lt h.ne).trans h.c0, (hk.cell _ 1 h.lt h.ne).trans h.c1⟩
theorem On.less (h : On g sf lb sb blk size w0 W0 d X) (S : Srt E g sf lb sb blk size w0) (i j : Nat) (hi : i < size) (hj : j < size) :
    Calls Tryd.prog g (#[.int .i64 i, .int .i64 j] ++ lb) X fun e w' => e = .returned (.bool (Elt.lt d[i]! d[j]!)) ∧ On g sf lb sb blk size w0 W0 d w' :=
  (S.less X d h.base h.row h.dsz i j hi hj).mono fun _ _ ⟨he, hb⟩ => ⟨he, h.below S hb⟩
theorem On.swap (h : On g sf lb sb blk size w0 W0 d X) (S : Srt E g sf lb sb blk size w0) (i j : Nat) (hi : i < size) (hj : j < size) :
    ∃ Y, (callFunc sf (#[.int .i64 i, .int .i64 j] ++ sb)).run Tryd.prog X = .ok (.value (.tuple #[])) Y ∧ On g sf lb sb blk size w0 W0 (Sort.swp d i j) Y := by
  obtain ⟨Y, hs, hr, hk⟩ := S.swap X d h.row h.dsz i j hi hj
  exact ⟨Y, hs, h.call hr hk (by rw [Sort.swp_size]; exact h.dsz)⟩
/-- A comparison, its places told as the walk has them. -/
theorem On.cmp (h : On g sf lb sb blk size w0 W0 d X) (S : Srt E g sf lb sb blk size w0) {x y : Int} (i j : Nat) (v : Bool) (hv : Elt.lt d[i]! d[j]! = v) (hx : x = i) (hy : y = j) (hi : i < size) (hj : j < size) :
    Calls Tryd.prog g (#[.int .i64 x, .int .i64 y] ++ lb) X fun e w' => e = .returned (.bool v) ∧ On g sf lb sb blk size w0 W0 d w' := by
  subst hx hy hv
  exact h.less S i j hi hj
/-- An exchange, likewise. -/
theorem On.exch (h : On g sf lb sb blk size w0 W0 d X) (S : Srt E g sf lb sb blk size w0) (x y : Int) (i j : Nat) (hx : x = i) (hy : y = j) (hi : i < size) (hj : j < size) :
    ∃ Y, (callFunc sf (#[.int .i64 x, .int .i64 y] ++ sb)).run Tryd.prog X = .ok (.value (.tuple #[])) Y ∧ On g sf lb sb blk size w0 W0 (Sort.swp d i j) Y := by
  subst hx hy
  exact h.swap S i j hi hj
end

/-! ### What the plain sorts do, step by step -/
section
variable (lt : E → E → Bool)
theorem ins_go (a j : Nat) (d : Array E) (h : a < j) (hl : lt d[j]! d[j - 1]! = true) : Sort.insInner lt a j d = Sort.insInner lt a (j - 1) (Sort.swp d j (j - 1)) := by
  obtain ⟨i, rfl⟩ : ∃ i, j = i + 1 := ⟨j - 1, by omega⟩
  rw [Sort.insInner, if_pos (by simpa using ⟨h, hl⟩)]; rfl
theorem ins_stop (a j : Nat) (d : Array E) (h : j ≤ a ∨ lt d[j]! d[j - 1]! = false) : Sort.insInner lt a j d = d := by
  cases j with
  | zero => rfl
  | succ i =>
    rw [Sort.insInner, if_neg]
    rcases h with h | h
    · simp; intro h1; omega
    · simp at h; simp [h]
theorem insO_go (a b i : Nat) (d : Array E) (h : i < b) : Sort.insOuter lt a b i d = Sort.insOuter lt a b (i + 1) (Sort.insInner lt a i d) := by
  rw [Sort.insOuter, if_pos h]
theorem insO_stop (a b i : Nat) (d : Array E) (h : ¬ i < b) : Sort.insOuter lt a b i d = d := by
  rw [Sort.insOuter, if_neg h]
theorem sd_end (hi f r : Nat) (d : Array E) (h : hi ≤ 2 * r + 1) : Sort.siftDown lt hi f r d = d := by
  rw [Sort.siftDown, dif_pos h]
theorem sd_right (hi f r : Nat) (d : Array E) (h : 2 * r + 2 < hi) (hl : lt d[f + (2 * r + 1)]! d[f + (2 * r + 2)]! = true) :
    Sort.siftDown lt hi f r d = if lt d[f + r]! d[f + (2 * r + 2)]! = true then Sort.siftDown lt hi f (2 * r + 2) (Sort.swp d (f + r) (f + (2 * r + 2))) else d := by
  have hl' : lt d[f + (2 * r + 1)]! d[f + (2 * r + 1) + 1]! = true := hl
  rw [Sort.siftDown, dif_neg (by omega), if_pos (by simpa using ⟨by omega, hl'⟩), dif_pos h]
  cases lt d[f + r]! d[f + (2 * r + 2)]! <;> simp
theorem sd_left (hi f r : Nat) (d : Array E) (h : 2 * r + 1 < hi) (hl : 2 * r + 2 < hi → lt d[f + (2 * r + 1)]! d[f + (2 * r + 2)]! = false) :
    Sort.siftDown lt hi f r d = if lt d[f + r]! d[f + (2 * r + 1)]! = true then Sort.siftDown lt hi f (2 * r + 1) (Sort.swp d (f + r) (f + (2 * r + 1))) else d := by
  have hl' : 2 * r + 1 + 1 < hi → lt d[f + (2 * r + 1)]! d[f + (2 * r + 1) + 1]! = false := hl
  rw [Sort.siftDown, dif_neg (by omega), if_neg]
  · cases lt d[f + r]! d[f + (2 * r + 1)]! <;> simp
  · rw [Bool.and_eq_true, decide_eq_true_eq]
    rintro ⟨h1, h2⟩
    rw [hl' h1] at h2
    exact Bool.noConfusion h2
theorem sd_size : ∀ (n hi f r : Nat) (d : Array E), hi - r ≤ n → (Sort.siftDown lt hi f r d).size = d.size
  | 0, hi, f, r, d, h => by rw [sd_end lt hi f r d (by omega)]
  | n + 1, hi, f, r, d, h => by
    by_cases h1 : 2 * r + 1 < hi
    · by_cases h2 : 2 * r + 2 < hi ∧ lt d[f + (2 * r + 1)]! d[f + (2 * r + 2)]! = true
      · rw [sd_right lt hi f r d h2.1 h2.2]
        split
        · rw [sd_size n hi f _ _ (by omega), Sort.swp_size]
        · rfl
      · rw [sd_left lt hi f r d h1 (fun h3 => by
          cases h4 : lt d[f + (2 * r + 1)]! d[f + (2 * r + 2)]! with
          | false => rfl
          | true => exact absurd ⟨h3, h4⟩ h2)]
        split
        · rw [sd_size n hi f _ _ (by omega), Sort.swp_size]
        · rfl
    · rw [sd_end lt hi f r d (by omega)]
end
end Go.Proofs.YtoocmogmocapoaaDoor
