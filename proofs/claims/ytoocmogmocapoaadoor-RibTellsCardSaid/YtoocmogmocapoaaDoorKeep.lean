/-
  ALL BLOCKS BUT SOME stay as they were.
-/
import Derived.Test.YtoocmogmocapoaaDoorBoxes
import Derived.Deep.Draws
namespace Go.Proofs.YtoocmogmocapoaaDoor
open Go.RowKit

/-- All blocks but some stay as they were. -/
structure Keep (S : Nat → Prop) (w W : World) : Prop where
  os : W.os = w.os
  tape : W.tape = w.tape
  output : W.output = w.output
  size : w.heap.size ≤ W.heap.size
  block : ∀ k, k < w.heap.size → ¬ S k → W.heap[k]? = w.heap[k]?
theorem Keep.refl (S : Nat → Prop) (w : World) : Keep S w w := ⟨rfl, rfl, rfl, Nat.le_refl _, fun _ _ _ => rfl⟩
theorem Keep.trans {S : Nat → Prop} {w w1 w2 : World} (h : Keep S w w1) (k : Keep S w1 w2) : Keep S w w2 :=
  ⟨k.os.trans h.os, k.tape.trans h.tape, k.output.trans h.output, Nat.le_trans h.size k.size, fun i hi hn => (k.block i (Nat.lt_of_lt_of_le hi h.size) hn).trans (h.block i hi hn)⟩
/-- Two steps, the second of which may turn what the first one has laid. -/
theorem Keep.then {S S' : Nat → Prop} {w w1 w2 : World} (h : Keep S w w1) (k : Keep S' w1 w2) (hs : ∀ b, S' b → S b ∨ w.heap.size ≤ b) : Keep S w w2 :=
  ⟨k.os.trans h.os, k.tape.trans h.tape, k.output.trans h.output, Nat.le_trans h.size k.size, fun i hi hn => (k.block i (Nat.lt_of_lt_of_le hi h.size) (fun e => by
    rcases hs i e with h1 | h1
    · exact hn h1
    · omega)).trans (h.block i hi hn)⟩
theorem Keep.of {S : Nat → Prop} {w W : World} (h : Below w.heap.size w W) : Keep S w W := ⟨h.os, h.tape, h.output, h.size, fun k hk _ => h.block k hk⟩
theorem Keep.below {S : Nat → Prop} {w W : World} {n : Nat} (h : Keep S w W) (hn : ∀ b, S b → n ≤ b) (hw : n ≤ w.heap.size) : Below n w W :=
  ⟨h.os, h.tape, h.output, h.size, fun k hk => h.block k (by omega) (fun e => by have := hn k e; omega)⟩
theorem Keep.mono {S S' : Nat → Prop} {w W : World} (h : Keep S w W) (hs : ∀ b, S b → S' b) : Keep S' w W := ⟨h.os, h.tape, h.output, h.size, fun k hk hn => h.block k hk fun e => hn (hs k e)⟩
theorem Keep.setCell (S : Nat → Prop) (w : World) (b o : Nat) (v : Value) (hb : S b) : Keep S w (w.setCell ⟨b, o, none⟩ v) :=
  ⟨rfl, rfl, rfl, by simp [World.setCell], fun k _ hn => Below.heap_setCell _ _ _ _ (fun e => hn (e ▸ hb))⟩
theorem Keep.alloc (S : Nat → Prop) (w : World) (x : Obj) : Keep S w (w.alloc x) := Keep.of ((Below.refl _ _).alloc (Nat.le_refl _) _)
theorem Keep.drew {S : Nat → Prop} {w W : World} (h : Keep S w W) : Keep S w W.drew := ⟨h.os, h.tape, h.output, h.size, h.block⟩

theorem Keep.drewN {S : Nat → Prop} {w W : World} (h : Keep S w W) (n : Nat) : Keep S w (W.drewN n) := ⟨h.os, h.tape, h.output, h.size, h.block⟩
theorem Below.drewN {B : Nat} {w W : World} (h : Below B w W) (n : Nat) : Below B w (W.drewN n) := ⟨h.os, h.tape, h.output, h.size, h.block⟩
theorem Box.drewN {w : World} {b : Nat} {x y : Value} (h : Box w b x y) (n : Nat) : Box (w.drewN n) b x y := ⟨h.lt, h.c0, h.c1, h.f0, h.f1⟩
end Go.Proofs.YtoocmogmocapoaaDoor
