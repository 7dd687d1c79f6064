/-
  sort.Slice over a slice of at most 64 networks, by the closure of cover.sorted: the row holds them in their order; all else stays.
-/
import Derived.Test.YtbdmfcnlfmnmdaaDoorSortPdq
import Derived.Test.YtbdmfcnlfmnmdaaDoorNetApp
import Derived.Test.YtbdmfcnlfmnmdaaDoorCoverLess
import Derived.Shelf.GgSortFunc.Tiny
namespace Go.Proofs.YtbdmfcnlfmnmdaaDoor
open Go.RowKit Go.Lib

noncomputable def infoS : TypeInfo := (Tryd.prog.info? 22).get (by kernel_rfl)
theorem swapK (n : Nat) (h2 : 2 ≤ n) : Lib.swapperK n infoN 25 = 9 := by
  have a : infoN.hasPointers = false := by kernel_rfl
  have b : infoN.bytes = 16 := by kernel_rfl
  have c : (n == 0) = false := by simp; omega
  have d : (n == 1) = false := by simp; omega
  simp [Lib.swapperK, a, b, c, d]

theorem swap_row (W : World) (d : Array Nt) (blk n c i j : Nat) (hr : Row W blk d) (hd : d.size = n) (hi : i < n) (hj : j < n) :
    ∃ W', (callFunc 72 (#[.int .i64 i, .int .i64 j] ++ #[.slice (some ⟨blk, 0, none⟩) n c, typeHandle Tryd.prog 32])).run Tryd.prog W = .ok (.value (.tuple #[])) W' ∧ Row W' blk (Go.Sort.swp d i j) ∧ Keeps W blk W' := by
  have hx : ∀ args W, (callFunc 72 args).run Tryd.prog W = ((Extern.ReflectliteSwapper.swap false args).run Tryd.prog W).andThen fun v w' => .ok (.value v) w' :=
    fun args W => run_callFunc_extern Tryd.func72 (by kernel_rfl) (by kernel_rfl) (by kernel_rfl) (e := Extern.ReflectliteSwapper.swap false) (by kernel_rfl) args W
  have hs := run_swap_cells (P := Tryd.prog) false 32 infoN (by kernel_rfl) (fun _ => by kernel_rfl) blk 0 n c i j hi hj [Nt.v0 d[i]!, Nt.v1 d[i]!] [Nt.v0 d[j]!, Nt.v1 d[j]!] (by rw [infoN_size]; rfl) (by rw [infoN_size]; rfl)
    (fun v hv => by simp [Nt.v0, Nt.v1] at hv; rcases hv with rfl | rfl <;> rfl) (fun v hv => by simp [Nt.v0, Nt.v1] at hv; rcases hv with rfl | rfl <;> rfl) W
    (fun k v hk => by
      rw [infoN_size, Nat.zero_add]
      match k, hk with
      | 0, hk => simp at hk; subst hk; exact hr.c0 i (by omega)
      | 1, hk => simp at hk; subst hk; exact hr.c1 i (by omega))
    (fun k v hk => by
      rw [infoN_size, Nat.zero_add]
      match k, hk with
      | 0, hk => simp at hk; subst hk; exact hr.c0 j (by omega)
      | 1, hk => simp at hk; subst hk; exact hr.c1 j (by omega))
    (fun k hk => by
      rw [infoN_size] at hk ⊢; rw [Nat.zero_add]
      match k, hk with
      | 0, _ => exact hr.f0 i (by omega)
      | 1, _ => exact hr.f1 i (by omega))
    (fun k hk => by
      rw [infoN_size] at hk ⊢; rw [Nat.zero_add]
      match k, hk with
      | 0, _ => exact hr.f0 j (by omega)
      | 1, _ => exact hr.f1 j (by omega))
  rw [infoN_size, Nat.zero_add, Nat.zero_add] at hs
  refine ⟨_, by
    rw [hx, show (#[Value.int .i64 (i : Int), Value.int .i64 (j : Int)] ++ #[Value.slice (some ⟨blk, 0, none⟩) n c, typeHandle Tryd.prog 32]) = #[.int .i64 i, .int .i64 j, .slice (some ⟨blk, 0, none⟩) n c, typeHandle Tryd.prog 32] from rfl, hs]
    rfl, ?_, ?_⟩
  · have key : ∀ (o : Nat) (u : Value), W.cell? ⟨blk, o, none⟩ = some u → ((W.setCells blk (i * 2) [Nt.v0 d[j]!, Nt.v1 d[j]!]).setCells blk (j * 2) [Nt.v0 d[i]!, Nt.v1 d[i]!]).cell? ⟨blk, o, none⟩ = some (if o = j * 2 + 1 then Nt.v1 d[i]! else if o = j * 2 then Nt.v0 d[i]! else if o = i * 2 + 1 then Nt.v1 d[j]! else if o = i * 2 then Nt.v0 d[j]! else u) := fun o u hu =>
      set_if _ blk o (j * 2 + 1) _ _ (set_if _ blk o (j * 2) _ _ (set_if _ blk o (i * 2 + 1) _ _ (set_if _ blk o (i * 2) _ _ hu)))
    have sz := Go.Sort.swp_size d i j
    refine ⟨fun k hk => ?_, fun k hk => ?_, fun k hk => ?_, fun k hk => ?_⟩
    · rw [key _ _ (hr.c0 k (by omega)), Go.Sort.swp_get d (by omega) (by omega), if_neg (by omega)]
      by_cases e1 : k = j
      · rw [if_pos (by omega), if_pos e1]
      · rw [if_neg (by omega), if_neg e1, if_neg (by omega)]
        by_cases e2 : k = i
        · rw [if_pos (by omega), if_pos e2]
        · rw [if_neg (by omega), if_neg e2]
    · rw [key _ _ (hr.c1 k (by omega)), Go.Sort.swp_get d (by omega) (by omega)]
      by_cases e1 : k = j
      · rw [if_pos (by omega), if_pos e1]
      · rw [if_neg (by omega), if_neg (by omega), if_neg e1]
        by_cases e2 : k = i
        · rw [if_pos (by omega), if_pos e2]
        · rw [if_neg (by omega), if_neg (by omega), if_neg e2]
    · rw [World.frozen?_setCells, World.frozen?_setCells]; exact hr.f0 k (by omega)
    · rw [World.frozen?_setCells, World.frozen?_setCells]; exact hr.f1 k (by omega)
  · have st : ∀ (w : World) (o : Nat) (v : Value), Keeps w blk (w.setCell ⟨blk, o, none⟩ v) := fun w o v =>
      have h : Below blk w (w.setCell ⟨blk, o, none⟩ v) := (Below.refl blk w).setCell (p := ⟨blk, o, none⟩) (Nat.le_refl blk) v
      ⟨h.os, h.tape, h.output, h.size, fun k _ hn => by
        simp only [World.setCell]
        split <;> simp [Array.getElem?_modify, Ne.symm hn]⟩
    exact (((st _ _ _).trans (st _ _ _)).trans (st _ _ _)).trans (st _ _ _)

set_option maxHeartbeats 1000000 in
set_option maxRecDepth 100000 in
theorem sortSlice_any (W : World) (B blk n c : Nat) (d : Array Nt) (hd : d.size = n) (hn : n ≤ 64) (hB : W.cell? ⟨B, 0, none⟩ = some (.slice (some ⟨blk, 0, none⟩) n c)) (hr : Row W blk d) (hne : B ≠ blk) (hblk : blk < W.heap.size) :
    Calls Tryd.prog 47 #[.iface 22 (.slice (some ⟨blk, 0, none⟩) n c), .func (.func 48) #[] #[.pointer (some ⟨B, 0, none⟩)]] W fun e w' =>
      e = .returned (.tuple #[]) ∧ ∃ d', Go.Sort.PermIn 0 n d d' ∧ Go.Sort.SortedIn Nt.lt 0 n d' ∧ Keeps W blk w' ∧ Row w' blk d' := by
  have hBl : B < W.heap.size := World.block_lt_of_cell? _ _ hB
  by_cases h2 : 2 ≤ n
  · refine Any.sort_Slice_of_pdq Tryd.laysGg6 22 32 infoS infoN (by kernel_rfl) (by kernel_rfl) (by kernel_rfl) (by kernel_rfl) 25 (fun _ => by kernel_rfl) (some ⟨blk, 0, none⟩) n c (by omega) 72 (by rw [swapK n h2]; kernel_rfl)
      (.func 48) #[] #[.pointer (some ⟨B, 0, none⟩)] W (fun w' => ∃ d', Go.Sort.PermIn 0 n d d' ∧ Go.Sort.SortedIn Nt.lt 0 n d' ∧ Keeps W blk w' ∧ Row w' blk d') ?_
    unfold sliceBound sliceWorld
    rw [if_neg (by rw [swapK n h2]; omega)]
    have hA : Below W.heap.size W ((W.alloc (.cells #[.slice (some ⟨blk, 0, none⟩) n c] 22)).alloc (.cells #[.pointer (some ⟨Tryd.prog.globals.size, 22, none⟩), .pointer (some ⟨W.heap.size, 0, none⟩), .int .u64 151] (Tryd.laysGg6_ren.t 35))) :=
      ((Below.refl _ _).alloc (Nat.le_refl _) _).alloc (by simp) _
    generalize ((W.alloc (.cells #[.slice (some ⟨blk, 0, none⟩) n c] 22)).alloc (.cells #[.pointer (some ⟨Tryd.prog.globals.size, 22, none⟩), .pointer (some ⟨W.heap.size, 0, none⟩), .int .u64 151] (Tryd.laysGg6_ren.t 35))) = W1 at hA ⊢
    have S : Srt 48 72 #[.pointer (some ⟨B, 0, none⟩)] #[.slice (some ⟨blk, 0, none⟩) n c, typeHandle Tryd.prog 32] blk n W := by
      refine ⟨enters_of Tryd.func48 (by kernel_rfl) rfl, hn, hblk, fun X dk hk hX hs i j hi hj => ?_, fun X dk hX hs i j hi hj => swap_row X dk blk n c i j hX hs hi hj⟩
      exact coverLess_any X B blk n c i j dk[i]! dk[j]! hi hj ⟨(hk.cell B 0 hBl hne).trans hB, hX.c0 i (by omega), hX.c1 i (by omega), hX.c0 j (by omega), hX.c1 j (by omega)⟩
    have hbl : Lib.bitLen n ≤ 64 := Lib.bitLen_le n 64 (by omega) (by omega)
    refine (pdq_any S (n + 1) W1 d 0 n (Lib.bitLen n) (by omega) (Keeps.of hA) (hr.below hA hblk) hd (Nat.zero_le _) (Nat.le_refl _) hbl (Or.inl rfl)).mono ?_
    rintro e w' ⟨rfl, hk, hrow⟩
    have hp := Go.Sort.pdq_sorts Nt.lt Nt.swo d 0 n (Lib.bitLen n) true true (Nat.zero_le _) (by omega) (Or.inl rfl)
    exact ⟨rfl, _, hp.1, hp.2, (Keeps.of hA).trans hk, hrow⟩
  · have fin : ∀ (n : Nat), n ≤ 1 → d.size = n → ∀ os, ∃ d', Go.Sort.PermIn 0 n d d' ∧ Go.Sort.SortedIn Nt.lt 0 n d' ∧ Keeps W blk (Go.Sort.grow W os) ∧ Row (Go.Sort.grow W os) blk d' := fun n h1 _ os => by
      have hb : Below W.heap.size W (Go.Sort.grow W os) := ⟨rfl, rfl, rfl, by rw [Go.Sort.size_grow]; omega, fun k hk => Go.Sort.heap_grow_old W os hk⟩
      exact ⟨d, Go.Sort.permIn_refl d 0 n, fun i j _ h3 h4 => by omega, Keeps.of hb, hr.below hb hblk⟩
    rcases (show n = 0 ∨ n = 1 by omega) with e0 | e0
    · subst e0
      refine (Any.sort_Slice_tiny Tryd.laysGg6 22 32 infoS infoN (by kernel_rfl) (by kernel_rfl) (by kernel_rfl) (by kernel_rfl) 25 (fun _ => by kernel_rfl) (some ⟨blk, 0, none⟩) 0 c (by omega) 64 (by kernel_rfl) (.func 48) #[] #[.pointer (some ⟨B, 0, none⟩)] W).mono ?_
      rintro e w' ⟨rfl, os, rfl⟩
      exact ⟨rfl, fin 0 (by omega) hd os⟩
    · subst e0
      refine (Any.sort_Slice_tiny Tryd.laysGg6 22 32 infoS infoN (by kernel_rfl) (by kernel_rfl) (by kernel_rfl) (by kernel_rfl) 25 (fun _ => by kernel_rfl) (some ⟨blk, 0, none⟩) 1 c (by omega) 65 (by kernel_rfl) (.func 48) #[] #[.pointer (some ⟨B, 0, none⟩)] W).mono ?_
      rintro e w' ⟨rfl, os, rfl⟩
      exact ⟨rfl, fin 1 (by omega) hd os⟩
end Go.Proofs.YtbdmfcnlfmnmdaaDoor
