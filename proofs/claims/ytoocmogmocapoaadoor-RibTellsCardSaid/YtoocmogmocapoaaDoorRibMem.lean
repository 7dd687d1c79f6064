/-
  ROUTES and WHAT IS TOLD in memory: their cells; one in a block of its own.
-/
import Derived.Test.YtoocmogmocapoaaDoorCells
import Derived.Test.YtoocmogmocapoaaDoorRibPlain
namespace Go.Proofs.YtoocmogmocapoaaDoor
open Go.RowKit

def Hd.cells (h : Hd) : List Value := [.int .i64 h.f, .int .u32 (h.n.1 : Int), .int .i64 h.n.2, .int .i64 h.m]
def Hd.v (h : Hd) : Value := .agg #[.int .i64 h.f, .int .u32 (h.n.1 : Int), .int .i64 h.n.2, .int .i64 h.m]
def Rt.cells (e : Rt) : List Value := [.int .i64 e.h.f, .int .u32 (e.h.n.1 : Int), .int .i64 e.h.n.2, .int .i64 e.h.m, .int .i64 e.t]
def Rt.v (e : Rt) : Value := .agg #[.int .i64 e.h.f, .int .u32 (e.h.n.1 : Int), .int .i64 e.h.n.2, .int .i64 e.h.m, .int .i64 e.t]
instance : Cel Hd where
  k := 4
  pos := by decide
  cells := Hd.cells
  len _ := rfl
  one e u hu := by
    simp only [Hd.cells, List.mem_cons, List.not_mem_nil, or_false] at hu
    rcases hu with rfl | rfl | rfl | rfl <;> rfl
instance : Cel Rt where
  k := 5
  pos := by decide
  cells := Rt.cells
  len _ := rfl
  one e u hu := by
    simp only [Rt.cells, List.mem_cons, List.not_mem_nil, or_false] at hu
    rcases hu with rfl | rfl | rfl | rfl | rfl <;> rfl

/-- The cells of one that lies at a place. -/
theorem LAt.rt {w : World} {b off : Nat} {e : Rt} (h : LAt w b off e) : w.cell? ⟨b, off, none⟩ = some (.int .i64 e.h.f) ∧ w.cell? ⟨b, off + 1, none⟩ = some (.int .u32 (e.h.n.1 : Int)) ∧ w.cell? ⟨b, off + 2, none⟩ = some (.int .i64 e.h.n.2) ∧ w.cell? ⟨b, off + 3, none⟩ = some (.int .i64 e.h.m) ∧ w.cell? ⟨b, off + 4, none⟩ = some (.int .i64 e.t) :=
  ⟨h 0 _ rfl, h 1 _ rfl, h 2 _ rfl, h 3 _ rfl, h 4 _ rfl⟩
theorem LAt.ofRt {w : World} {b off : Nat} {e : Rt} (h0 : w.cell? ⟨b, off, none⟩ = some (.int .i64 e.h.f)) (h1 : w.cell? ⟨b, off + 1, none⟩ = some (.int .u32 (e.h.n.1 : Int))) (h2 : w.cell? ⟨b, off + 2, none⟩ = some (.int .i64 e.h.n.2)) (h3 : w.cell? ⟨b, off + 3, none⟩ = some (.int .i64 e.h.m)) (h4 : w.cell? ⟨b, off + 4, none⟩ = some (.int .i64 e.t)) : LAt w b off e := by
  intro j u hu
  match j, hu with
  | 0, hu => obtain rfl := Option.some.inj hu; exact h0
  | 1, hu => obtain rfl := Option.some.inj hu; exact h1
  | 2, hu => obtain rfl := Option.some.inj hu; exact h2
  | 3, hu => obtain rfl := Option.some.inj hu; exact h3
  | 4, hu => obtain rfl := Option.some.inj hu; exact h4
theorem LAt.hd {w : World} {b off : Nat} {e : Hd} (h : LAt w b off e) : w.cell? ⟨b, off, none⟩ = some (.int .i64 e.f) ∧ w.cell? ⟨b, off + 1, none⟩ = some (.int .u32 (e.n.1 : Int)) ∧ w.cell? ⟨b, off + 2, none⟩ = some (.int .i64 e.n.2) ∧ w.cell? ⟨b, off + 3, none⟩ = some (.int .i64 e.m) :=
  ⟨h 0 _ rfl, h 1 _ rfl, h 2 _ rfl, h 3 _ rfl⟩
theorem LAt.ofHd {w : World} {b off : Nat} {e : Hd} (h0 : w.cell? ⟨b, off, none⟩ = some (.int .i64 e.f)) (h1 : w.cell? ⟨b, off + 1, none⟩ = some (.int .u32 (e.n.1 : Int))) (h2 : w.cell? ⟨b, off + 2, none⟩ = some (.int .i64 e.n.2)) (h3 : w.cell? ⟨b, off + 3, none⟩ = some (.int .i64 e.m)) : LAt w b off e := by
  intro j u hu
  match j, hu with
  | 0, hu => obtain rfl := Option.some.inj hu; exact h0
  | 1, hu => obtain rfl := Option.some.inj hu; exact h1
  | 2, hu => obtain rfl := Option.some.inj hu; exact h2
  | 3, hu => obtain rfl := Option.some.inj hu; exact h3

/-- A route in a block of its own. -/
structure RBox (w : World) (b : Nat) (e : Rt) : Prop where
  at_ : LAt w b 0 e
  free : ∀ o, w.frozen? ⟨b, o, none⟩ = false
theorem RBox.ofBlock {w w1 : World} {b : Nat} {e : Rt} (h : RBox w b e) (hb : w1.heap[b]? = w.heap[b]?) : RBox w1 b e :=
  ⟨h.at_.ofBlock hb, fun o => (World.frozen?_of_block (w := w) (a := ⟨b, o, none⟩) hb).trans (h.free o)⟩
theorem RBox.lt {w : World} {b : Nat} {e : Rt} (h : RBox w b e) : b < w.heap.size := World.block_lt_of_cell? _ _ h.at_.rt.1
theorem RBox.kept {w w1 : World} {b : Nat} {e : Rt} (h : RBox w b e) (hb : Below w.heap.size w w1) : RBox w1 b e := h.ofBlock (hb.block b h.lt)
theorem RBox.keep {w w1 : World} {S : Nat → Prop} {b : Nat} {e : Rt} (h : RBox w b e) (hk : Keep S w w1) (hs : ¬ S b) : RBox w1 b e := h.ofBlock (hk.block b h.lt hs)
theorem RBox.app {w w1 : World} {b : Nat} {e : Rt} {v v' : Value} (h : RBox w b e) (k : AppTo w v w1 v') (hn : v.ownBlock ≠ some b) : RBox w1 b e := h.ofBlock (k.block h.lt hn)
theorem RBox.new (w : World) (e : Rt) (T : TypeId) : RBox (w.alloc (.cells #[.int .i64 e.h.f, .int .u32 (e.h.n.1 : Int), .int .i64 e.h.n.2, .int .i64 e.h.m, .int .i64 e.t] T)) w.heap.size e :=
  ⟨LAt.ofRt (by simp) (by simp) (by simp) (by simp) (by simp), fun o => by simp⟩

theorem tyR : TyL Rt 54 64 40 := ⟨by kernel_rfl, (Tryd.prog.info? 64).get (by kernel_rfl), .agg #[.int .i64 0, .int .u32 0, .int .i64 0, .int .i64 0, .int .i64 0], by kernel_rfl, by kernel_rfl, by kernel_rfl, by kernel_rfl, by kernel_rfl⟩
theorem tyH : TyL Hd 46 53 32 := ⟨by kernel_rfl, (Tryd.prog.info? 53).get (by kernel_rfl), .agg #[.int .i64 0, .int .u32 0, .int .i64 0, .int .i64 0], by kernel_rfl, by kernel_rfl, by kernel_rfl, by kernel_rfl, by kernel_rfl⟩
end Go.Proofs.YtoocmogmocapoaaDoor
