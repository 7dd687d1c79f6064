/-
  sort.Slice over a slice of at most 64 things of so many cells each, whichever they are, by a closure that reads that slice from a variable and may lay blocks: the row holds them in their order; all else stays.
-/
import Derived.Test.YtoocmogmocapoaaDoorSortPdq
import Derived.Test.YtoocmogmocapoaaDoorCells
import Derived.Lib.ReflectliteSwap
import Derived.Laws.IdiomCopy
import Derived.Deep.MidRow
import Derived.Shelf.SlSortFuncK.RowK2
import Derived.Shelf.GgSortFunc.Tiny
namespace Go.Proofs.YtoocmogmocapoaaDoor
open Go.RowKit Go.Lib

/-- Which of two stands ahead. -/
class Lex (E : Type) [Inhabited E] where
  lt : E → E → Bool
  swo : Go.Sort.SWO lt
variable {E : Type} [Inhabited E] [Cel E]
/-- A row of them in one block. -/
structure RowL (W : World) (blk : Nat) (d : Array E) : Prop where
  at_ : ∀ i, i < d.size → LAt W blk (i * Cel.k E) d[i]!
  free : ∀ o, W.frozen? ⟨blk, o, none⟩ = false
instance [Lex E] : Elt E where
  lt := Lex.lt
  swo := Lex.swo
  row := RowL
  frame h c f := ⟨fun i hi j u hu => (c _).trans (h.at_ i hi j u hu), fun o => (f o).trans (h.free o)⟩

omit [Inhabited E] in
theorem cells_get (e : E) (j : Nat) (hj : j < (Cel.cells e).length) : (Cel.cells e)[j]? = some (Cel.cells e)[j] := List.getElem?_eq_getElem hj
theorem mul_apart {i k K o : Nat} (h : i ≠ k) (ho : o < K) : k * K + o < i * K ∨ i * K + K ≤ k * K + o := by
  rcases Nat.lt_or_gt_of_ne h with h1 | h1
  · have := Nat.mul_le_mul_right K (show i + 1 ≤ k by omega)
    rw [Nat.add_mul] at this
    omega
  · have := Nat.mul_le_mul_right K (show k + 1 ≤ i by omega)
    rw [Nat.add_mul] at this
    omega
theorem keeps_setCells (blk : Nat) : ∀ (vs : List Value) (o : Nat) (w : World), Keeps w blk (w.setCells blk o vs)
  | [], _, w => Keeps.refl w blk
  | v :: r, o, w => by
    have h : Below blk w (w.setCell ⟨blk, o, none⟩ v) := (Below.refl blk w).setCell (p := ⟨blk, o, none⟩) (Nat.le_refl blk) v
    have k : Keeps w blk (w.setCell ⟨blk, o, none⟩ v) := ⟨h.os, h.tape, h.output, h.size, fun k _ hn => by
      simp only [World.setCell]
      split <;> simp [Array.getElem?_modify, Ne.symm hn]⟩
    exact k.trans (keeps_setCells blk r (o + 1) _)
/-- Two of them exchanged in memory. -/
theorem swapCells (W : World) (d : Array E) (blk i j : Nat) (hr : RowL W blk d) (hi : i < d.size) (hj : j < d.size) :
    RowL ((W.setCells blk (i * Cel.k E) (Cel.cells d[j]!)).setCells blk (j * Cel.k E) (Cel.cells d[i]!)) blk (Go.Sort.swp d i j) ∧ Keeps W blk ((W.setCells blk (i * Cel.k E) (Cel.cells d[j]!)).setCells blk (j * Cel.k E) (Cel.cells d[i]!)) := by
  have some_ : ∀ (k : Nat), k < d.size → ∀ o, o < Cel.k E → (W.cell? ⟨blk, k * Cel.k E + o, none⟩).isSome = true := fun k hk o ho => by
    rw [hr.at_ k hk o _ (cells_get d[k]! o (by rw [Cel.len]; exact ho))]; rfl
  refine ⟨⟨fun k hk o u hu => ?_, fun o => by rw [World.frozen?_setCells, World.frozen?_setCells]; exact hr.free o⟩, ?_⟩
  · rw [Go.Sort.swp_size] at hk
    rw [Go.Sort.swp_get d hi hj] at hu
    have ho : o < Cel.k E := by
      have := (List.getElem?_eq_some_iff.1 hu).1
      rwa [Cel.len] at this
    by_cases e1 : k = j
    · subst e1
      rw [if_pos rfl] at hu
      rw [World.cell?_setCells_in blk _ _ _ (fun a ha => World.isSome_setCells _ _ _ _ _ (some_ k hk a (by rw [Cel.len] at ha; exact ha))) o (by rw [Cel.len]; exact ho)]
      rw [← cells_get]; exact hu
    · rw [if_neg e1] at hu
      rw [World.cell?_setCells_out blk _ _ _ _ (fun _ _ => by rw [Cel.len]; exact mul_apart (Ne.symm e1) ho)]
      by_cases e2 : k = i
      · subst e2
        rw [if_pos rfl] at hu
        rw [World.cell?_setCells_in blk _ _ _ (fun a ha => some_ k hk a (by rw [Cel.len] at ha; exact ha)) o (by rw [Cel.len]; exact ho)]
        rw [← cells_get]; exact hu
      · rw [if_neg e2] at hu
        rw [World.cell?_setCells_out blk _ _ _ _ (fun _ _ => by rw [Cel.len]; exact mul_apart (Ne.symm e2) ho)]
        exact hr.at_ k hk o u hu
  · have st : ∀ (w : World) (o : Nat) (vs : List Value), Keeps w blk (w.setCells blk o vs) := fun w o vs => by
      exact keeps_setCells blk vs o w
    exact (st _ _ _).trans (st _ _ _)

/-- The exchange that reflectlite gives. -/
theorem swapL (tE : TypeId) (ie : TypeInfo) (hie : Tryd.prog.info? tE = some ie) (hsz : ie.size = Cel.k E) (hagg : ∀ w, (isAgg tE).run Tryd.prog w = .ok true w) (W : World) (d : Array E) (blk n c i j : Nat) (hr : RowL W blk d) (hd : d.size = n) (hi : i < n) (hj : j < n) :
    ∃ W', (callFunc 55 (#[.int .i64 i, .int .i64 j] ++ #[.slice (some ⟨blk, 0, none⟩) n c, typeHandle Tryd.prog tE])).run Tryd.prog W = .ok (.value (.tuple #[])) W' ∧ RowL W' blk (Go.Sort.swp d i j) ∧ Keeps W blk W' := by
  have hx : ∀ args W, (callFunc 55 args).run Tryd.prog W = ((Extern.ReflectliteSwapper.swap false args).run Tryd.prog W).andThen fun v w' => .ok (.value v) w' :=
    fun args W => run_callFunc_extern Tryd.func55 (by kernel_rfl) (by kernel_rfl) (by kernel_rfl) (e := Extern.ReflectliteSwapper.swap false) (by kernel_rfl) args W
  have hs := run_swap_cells (P := Tryd.prog) false tE ie hie hagg blk 0 n c i j hi hj (Cel.cells d[i]!) (Cel.cells d[j]!) (by rw [hsz, Cel.len]) (by rw [hsz, Cel.len]) (Cel.one _) (Cel.one _) W
    (fun k v hk => by rw [hsz, Nat.zero_add]; exact hr.at_ i (by omega) k v hk) (fun k v hk => by rw [hsz, Nat.zero_add]; exact hr.at_ j (by omega) k v hk) (fun k _ => hr.free _) (fun k _ => hr.free _)
  rw [hsz, Nat.zero_add, Nat.zero_add] at hs
  obtain ⟨h1, h2⟩ := swapCells W d blk i j hr (by omega) (by omega)
  refine ⟨_, ?_, h1, h2⟩
  rw [hx, show (#[Value.int .i64 (i : Int), Value.int .i64 (j : Int)] ++ #[Value.slice (some ⟨blk, 0, none⟩) n c, typeHandle Tryd.prog tE]) = #[.int .i64 i, .int .i64 j, .slice (some ⟨blk, 0, none⟩) n c, typeHandle Tryd.prog tE] from rfl, hs]
  rfl

set_option maxHeartbeats 1000000 in
set_option maxRecDepth 100000 in
/-- sort.Slice. -/
theorem sortSliceL [Lex E] (tS tE : TypeId) (iS ie : TypeInfo) (hiS : Tryd.prog.info? tS = some iS) (hdS : iS.desc = .slice tE) (hpk : Tryd.prog.packed tS = false) (hie : Tryd.prog.info? tE = some ie) (hke : ∀ w, (Extern.Rtype.kind tE).run Tryd.prog w = .ok 25 w) (hsz : ie.size = Cel.k E)
    (h9 : ∀ n, 2 ≤ n → swapperK n ie 25 = 9) (hagg : ∀ w, (isAgg tE).run Tryd.prog w = .ok true w) (g : Nat) (hg : ∀ args w, (callFunc g args).run Tryd.prog w = .ok (.enter g args) w)
    (W : World) (B blk n c : Nat) (d : Array E) (hd : d.size = n) (hn : n ≤ 64) (hr : RowL W blk d) (hblk : blk < W.heap.size)
    (hless : ∀ (X : World) (dk : Array E), Keeps W blk X → RowL X blk dk → dk.size = n → ∀ i j : Nat, i < n → j < n → Calls Tryd.prog g #[.int .i64 i, .int .i64 j, .pointer (some ⟨B, 0, none⟩)] X fun e w' => e = .returned (.bool (Lex.lt dk[i]! dk[j]!)) ∧ Below X.heap.size X w') :
    Calls Tryd.prog 29 #[.iface tS (.slice (some ⟨blk, 0, none⟩) n c), .func (.func g) #[] #[.pointer (some ⟨B, 0, none⟩)]] W fun e w' =>
      e = .returned (.tuple #[]) ∧ ∃ d', Go.Sort.PermIn 0 n d d' ∧ Go.Sort.SortedIn (Lex.lt (E := E)) 0 n d' ∧ Keeps W blk w' ∧ RowL w' blk d' := by
  by_cases h2 : 2 ≤ n
  · refine Any.sort_Slice_of_pdq Tryd.laysGg6 tS tE iS ie hiS hdS hpk hie 25 hke (some ⟨blk, 0, none⟩) n c (by omega) 55 (by rw [h9 n h2]; kernel_rfl)
      (.func g) #[] #[.pointer (some ⟨B, 0, none⟩)] W (fun w' => ∃ d', Go.Sort.PermIn 0 n d d' ∧ Go.Sort.SortedIn (Lex.lt (E := E)) 0 n d' ∧ Keeps W blk w' ∧ RowL w' blk d') ?_
    unfold sliceBound sliceWorld
    rw [if_neg (by rw [h9 n h2]; omega)]
    have hA : Below W.heap.size W ((W.alloc (.cells #[.slice (some ⟨blk, 0, none⟩) n c] tS)).alloc (.cells #[.pointer (some ⟨Tryd.prog.globals.size, tS, none⟩), .pointer (some ⟨W.heap.size, 0, none⟩), .int .u64 151] (Tryd.laysGg6_ren.t 35))) :=
      ((Below.refl _ _).alloc (Nat.le_refl _) _).alloc (by simp) _
    generalize ((W.alloc (.cells #[.slice (some ⟨blk, 0, none⟩) n c] tS)).alloc (.cells #[.pointer (some ⟨Tryd.prog.globals.size, tS, none⟩), .pointer (some ⟨W.heap.size, 0, none⟩), .int .u64 151] (Tryd.laysGg6_ren.t 35))) = W1 at hA ⊢
    have S : Srt E g 55 #[.pointer (some ⟨B, 0, none⟩)] #[.slice (some ⟨blk, 0, none⟩) n c, typeHandle Tryd.prog tE] blk n W :=
      ⟨hg, hn, hblk, fun X dk hk hX hs i j hi hj => hless X dk hk hX hs i j hi hj, fun X dk hX hs i j hi hj => swapL tE ie hie hsz hagg X dk blk n c i j hX hs hi hj⟩
    have hbl : Lib.bitLen n ≤ 64 := Lib.bitLen_le n 64 (by omega) (by omega)
    have hr1 : Row W blk d := hr
    refine (pdq_any S (n + 1) W1 d 0 n (Lib.bitLen n) (by omega) (Keeps.of hA) (hr1.below hA hblk) hd (Nat.zero_le _) (Nat.le_refl _) hbl (Or.inl rfl)).mono ?_
    rintro e w' ⟨rfl, hk, hrow⟩
    have hp := Go.Sort.pdq_sorts (Lex.lt (E := E)) Lex.swo d 0 n (Lib.bitLen n) true true (Nat.zero_le _) (by omega) (Or.inl rfl)
    exact ⟨rfl, _, hp.1, hp.2, (Keeps.of hA).trans hk, hrow⟩
  · have fin : n ≤ 1 → ∀ os, ∃ d', Go.Sort.PermIn 0 n d d' ∧ Go.Sort.SortedIn (Lex.lt (E := E)) 0 n d' ∧ Keeps W blk (Go.Sort.grow W os) ∧ RowL (Go.Sort.grow W os) blk d' := fun h1 os => by
      have hb : Below W.heap.size W (Go.Sort.grow W os) := ⟨rfl, rfl, rfl, by rw [Go.Sort.size_grow]; omega, fun k hk => Go.Sort.heap_grow_old W os hk⟩
      have hr1 : Row W blk d := hr
      exact ⟨d, Go.Sort.permIn_refl d 0 n, fun i j _ h3 h4 => by omega, Keeps.of hb, hr1.below hb hblk⟩
    rcases (show n = 0 ∨ n = 1 by omega) with e0 | e0
    · subst e0
      refine (Any.sort_Slice_tiny Tryd.laysGg6 tS tE iS ie hiS hdS hpk hie 25 hke (some ⟨blk, 0, none⟩) 0 c (by omega) 47 (by rw [show swapperK 0 ie 25 = 1 from rfl]; kernel_rfl) (.func g) #[] #[.pointer (some ⟨B, 0, none⟩)] W).mono ?_
      rintro e w' ⟨rfl, os, rfl⟩
      exact ⟨rfl, fin (by omega) os⟩
    · subst e0
      refine (Any.sort_Slice_tiny Tryd.laysGg6 tS tE iS ie hiS hdS hpk hie 25 hke (some ⟨blk, 0, none⟩) 1 c (by omega) 48 (by rw [show swapperK 1 ie 25 = 2 from rfl]; kernel_rfl) (.func g) #[] #[.pointer (some ⟨B, 0, none⟩)] W).mono ?_
      rintro e w' ⟨rfl, os, rfl⟩
      exact ⟨rfl, fin (by omega) os⟩
end Go.Proofs.YtoocmogmocapoaaDoor
