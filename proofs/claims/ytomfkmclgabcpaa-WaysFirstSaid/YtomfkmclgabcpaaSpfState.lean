/-
  WHAT LIES IN MEMORY while the nearest first is sought: the sums, the queue, all else as it was; how much is left to do.
-/
import Derived.Test.YtomfkmclgabcpaaQuePush
import Derived.Test.YtomfkmclgabcpaaSpfPlain
import Derived.Test.YtomfkmclgabcpaaVec
namespace Go.Proofs.Ytomfkmclgabcpaa
open Go.RowKit Go.Lib
open SpfP (upd tot)

/-- A block of two cells stays where it is none of those that are turned. -/
theorem Box.still {w w1 : World} {S : Nat → Prop} {b : Nat} {x y : Value} (h : Box w b x y) (hk : Keep S w w1) (hs : ¬ S b) : Box w1 b x y := by
  have hb := hk.block b h.lt hs
  exact ⟨Nat.lt_of_lt_of_le h.lt hk.size, (World.cell?_of_block (a := ⟨b, 0, none⟩) hb).trans h.c0, (World.cell?_of_block (a := ⟨b, 1, none⟩) hb).trans h.c1, (World.frozen?_of_block (a := ⟨b, 0, none⟩) hb).trans h.f0, (World.frozen?_of_block (a := ⟨b, 1, none⟩) hb).trans h.f1⟩
/-- heap.Push, the pair told as the walk has it. -/
theorem heapPush_at (w : World) (q g cap v s : Nat) (L : List Rc) (h : Que w q g cap L) (hl : L.length ≤ 900) :
    Calls Try.prog 23 #[.iface 52 (.pointer (some ⟨q, 0, none⟩)), .iface 57 (.agg #[.int .i64 v, .int .i64 s])] w fun e w' => e = .returned (.tuple #[]) ∧ ∃ g' cap' L', Que w' q g' cap' L' ∧ L'.length = L.length + 1 ∧ (∀ e, e ∈ L' ↔ e = (v, s) ∨ e ∈ L) ∧ Keep (InQ q g) w w' ∧ (g' = g ∨ w.heap.size ≤ g') :=
  heapPush_any w q g cap L (v, s) h hl
theorem heapPop_at (w : World) (q g cap n : Nat) (L : List Rc) (h : Que w q g cap L) (hn : L.length = n + 1) (hl : L.length ≤ 900) :
    Calls Try.prog 25 #[.iface 52 (.pointer (some ⟨q, 0, none⟩))] w fun e w' => ∃ v s : Nat, ∃ L', e = .returned (.iface 57 (.agg #[.int .i64 v, .int .i64 s])) ∧ Que w' q g cap L' ∧ L'.length = n ∧ (∀ e, e ∈ L ↔ e = (v, s) ∨ e ∈ L') ∧ Keep (InQ q g) w w' :=
  (heapPop_any w q g cap n L h hn hl).mono fun _ _ ⟨x, L', h1, h2⟩ => ⟨x.1, x.2, L', h1, h2⟩

/-- The sums lie at f, the queue at q; what was there before the world w0 is as it was. -/
structure St (w0 w : World) (f q n g cap : Nat) (d : Nat → Nat) (L : List Rc) : Prop where
  vec : Vec w f n (fun i => (d i : Int))
  que : Que w q g cap L
  fq : f < q
  hf : w0.heap.size ≤ f
  hg : w0.heap.size ≤ g
  nf : g ≠ f
  bel : Below w0.heap.size w0 w
  few : 2 * tot d n + L.length ≤ 257
section
variable {w0 w w1 : World} {f q n g cap : Nat} {d : Nat → Nat} {L : List Rc}
theorem St.len (h : St w0 w f q n g cap d L) : L.length ≤ 257 := by have := h.few; omega
theorem St.inside (h : St w0 w f q n g cap d L) (b : Nat) (hb : InQ q g b) : w0.heap.size ≤ b := by
  rcases hb with e | e
  · rw [e]; have := h.fq; have := h.hf; omega
  · rw [e]; exact h.hg
theorem St.below (h : St w0 w f q n g cap d L) (hb : Below w.heap.size w w1) : St w0 w1 f q n g cap d L :=
  ⟨h.vec.keep hb, h.que.below hb, h.fq, h.hf, h.hg, h.nf, h.bel.trans (hb.mono h.bel.size), h.few⟩
theorem St.drew (h : St w0 w f q n g cap d L) : St w0 w.drew f q n g cap d L :=
  ⟨h.vec.drew, h.que.drew, h.fq, h.hf, h.hg, h.nf, h.bel.drew, h.few⟩
/-- A call has turned the queue. -/
theorem St.turn {g' cap' : Nat} {L' : List Rc} (h : St w0 w f q n g cap d L) (hq : Que w1 q g' cap' L') (hk : Keep (InQ q g) w w1) (hg : g' = g ∨ w.heap.size ≤ g') (hl : 2 * tot d n + L'.length ≤ 257) : St w0 w1 f q n g' cap' d L' := by
  have hs := h.bel.size
  have hv := h.vec.lt
  have hb := hk.block f h.vec.lt (fun e => by
    rcases e with e | e
    · have := h.fq; omega
    · exact h.nf e.symm)
  refine ⟨⟨Nat.lt_of_lt_of_le h.vec.lt hk.size, fun i hi => (World.cell?_of_block (w := w) (a := ⟨f, i, none⟩) hb).trans (h.vec.c i hi), fun i => (World.frozen?_of_block (w := w) (a := ⟨f, i, none⟩) hb).trans (h.vec.f i)⟩, hq, h.fq, h.hf, ?_, ?_, h.bel.trans (hk.below h.inside hs), hl⟩
  · rcases hg with e | e
    · rw [e]; exact h.hg
    · omega
  · rcases hg with e | e
    · rw [e]; exact h.nf
    · omega
/-- One sum put anew. -/
theorem St.put (h : St w0 w f q n g cap d L) (m x : Nat) (hl : 2 * tot (upd d m x) n + L.length ≤ 257) : St w0 (w.setCell ⟨f, m, none⟩ (.int .i64 x)) f q n g cap (upd d m x) L :=
  ⟨(h.vec.set m x).congr fun i _ => by
      unfold upd
      by_cases e : i = m
      · rw [if_pos e, if_pos e]
      · rw [if_neg e, if_neg e], h.que.past f m (by have := h.fq; omega) h.nf _, h.fq, h.hf, h.hg, h.nf, h.bel.setCell (p := ⟨f, m, none⟩) h.hf _, hl⟩
end

/-- The beginning: the sums laid, an empty queue. -/
theorem St.start {w0 w : World} {f n fr : Nat} (hv : Vec w f n (fun _ => 16)) (hb : Below w0.heap.size w0 w) (hf : w0.heap.size ≤ f) (h8 : n ≤ 8) :
    St w0 (((w.setCell ⟨f, fr, none⟩ (.int .i64 0)).alloc (.cells #[] 57)).alloc (.cells #[.slice (some ⟨w.heap.size, 0, none⟩) 0 0] 54)) f (w.heap.size + 1) n w.heap.size 0 (BellP.st fr) [] := by
  have hlt := hv.lt
  have hs : (w.setCell ⟨f, fr, none⟩ (.int .i64 0)).heap.size = w.heap.size := by simp [World.setCell]
  have v1 := (hv.set fr 0).keep (((Below.refl _ _).alloc (Nat.le_refl _) (.cells #[] 57)).alloc (by simp) (.cells #[.slice (some ⟨w.heap.size, 0, none⟩) 0 0] 54))
  generalize hW : w.setCell ⟨f, fr, none⟩ (.int .i64 0) = W at hs v1 ⊢
  have hz : W.heap.size = w.heap.size := hs
  refine ⟨v1.congr fun i _ => ?_, ⟨?_, ?_, ?_, by omega, ⟨⟨#[], ?_, rfl, rfl⟩, Nat.le_refl _, Nat.zero_le _⟩⟩, by omega, hf, by have := hb.size; omega, by omega, ?_, ?_⟩
  · show (if i = fr then (0 : Int) else 16) = ((BellP.st fr i : Nat) : Int)
    unfold BellP.st
    split <;> rfl
  · rw [← hz]; simp
  · rw [← hz]; simp
  · rw [← hz]; simp
  · rw [← hz]
    have := (MapKept.heap_alloc W (.cells #[] 57)).1
    rw [(Below.refl (W.alloc (.cells #[] 57)).heap.size (W.alloc (.cells #[] 57))).alloc (Nat.le_refl _) (.cells #[.slice (some ⟨W.heap.size, 0, none⟩) 0 0] 54) |>.block W.heap.size (by simp)]
    exact this
  · rw [← hW]
    exact ((hb.setCell (p := ⟨f, fr, none⟩) hf _).alloc (by have := hb.size; simp [World.setCell]; omega) _).alloc (by have := hb.size; simp [World.setCell]; omega) _
  · have := SpfP.tot_le (d := BellP.st fr) n (fun i _ => BellP.st_bd fr i)
    simp only [List.length_nil]
    omega

/-! ### How much is left to do, read off memory -/
def vecAt (w : World) (f i : Nat) : Nat := match w.cell? ⟨f, i, none⟩ with
  | some (.int _ z) => z.toNat
  | _ => 0
def lenAt (w : World) (q : Nat) : Nat := match w.cell? ⟨q, 0, none⟩ with
  | some (.slice _ n _) => n
  | _ => 0
def left (w : World) (f q n : Nat) : Nat := 2 * tot (vecAt w f) n + lenAt w q
theorem St.left {w0 w : World} {f q n g cap : Nat} {d : Nat → Nat} {L : List Rc} (h : St w0 w f q n g cap d L) : left w f q n = 2 * tot d n + L.length := by
  unfold Proofs.Ytomfkmclgabcpaa.left
  have h1 : lenAt w q = L.length := by unfold lenAt; rw [h.que.cq]
  have h2 : tot (vecAt w f) n = tot d n := SpfP.tot_congr n fun i hi => by
    unfold vecAt; rw [h.vec.c i hi]; simp
  rw [h1, h2]
end Go.Proofs.Ytomfkmclgabcpaa
