/-
  slices.Clone at a list of networks, and cover.sorted at one of at most 64: a list of its own, in their order; what lay in memory stays.
-/
import Derived.Test.YtbdmfcnlfmnmdaaDoorCoverList
import Derived.Test.YtbdmfcnlfmnmdaaDoorCoverSort
import Derived.Lib.SliceRun
import Derived.Deep.LoopGhost
import Derived.Lib.Walk
namespace Go.Proofs.YtbdmfcnlfmnmdaaDoor
open Go.RowKit Go.Lib

theorem eqNil (w : World) (a : Option Addr) (n c n' c' : Nat) : (binOp .eql 22 (.slice a n c) (.slice none n' c')).run Tryd.prog w = .ok (.bool a.isNone) w :=
  Lib.run_eql_slice_nil w 22 32 a n c n' c' (by kernel_rfl)

set_option maxHeartbeats 1000000 in
set_option maxRecDepth 100000 in
theorem clone_some (w : World) (a : Addr) (c : Nat) (l : List Nt) (hl : l.length ≤ 64) (hc : ∀ j u, (cellsL l)[j]? = some u → w.cell? (a.add j) = some u) :
    Calls Tryd.prog 46 #[.slice (some a) l.length c] w fun e w' => ∃ v', e = .returned v' ∧ Own w' w.heap.size v' l ∧ v' ≠ .slice none 0 0 ∧ Below w.heap.size w w' := by
  have A := Lib.hid hc; clear hc
  have q := eqNil
  have hi : Tryd.prog.info? 32 = some infoN := by kernel_rfl
  obtain ⟨z, hz⟩ : ∃ z, infoN.zero = some z ∧ z.cells.size = 2 := ⟨.agg #[.int .u32 0, .int .i64 0], by kernel_rfl, by kernel_rfl⟩
  have hb : infoN.bytes = 16 := by kernel_rfl
  go_enter Tryd.func46, Tryd.ntmps46
  go_wp2_with (at_builtin; refine wpList_append_own _ rfl _ _ 22 rfl w.heap.size 32 infoN z 2 16 (by kernel_rfl) hi hz.1 infoN_size hb hz.2 (by omega) _ _ _ rfl (World.ownsRow_made w #[] 0 (Nat.le_refl _) (Nat.zero_le _) (by simp)) a l.length c (cellsL l) rfl ?qc1 ?qc2 ?qc3 ?qc4 ?qc5 ?qc6 ?_)
  case qc1 => exact cellsL_len l
  case qc2 =>
    intro j u hj
    exact Lib.cell?_alloc_some _ (A.out j u hj)
  case qc3 => exact cellsL_one l
  case qc4 => simp only [maxLen]; omega
  case qc5 => omega
  case qc6 => simp
  intro v' w1 hown hgrow hnil
  go_wp2
  go_ret
  refine ⟨v', rfl, by simpa [Own] using hown, ?_, ?_⟩
  · exact hnil
  · exact ((Below.refl _ w).alloc (Nat.le_refl _) _).grown hgrow (by simp) (by intro k hk; simp [Value.ownBlock] at hk; omega)

set_option maxHeartbeats 400000 in
set_option maxRecDepth 100000 in
theorem clone_nil (w : World) (n c : Nat) :
    Calls Tryd.prog 46 #[.slice none n c] w fun e w' => e = .returned (.slice none 0 0) ∧ w' = w := by
  have q := eqNil
  go_enter Tryd.func46, Tryd.ntmps46
  go_wp2
  go_ret
  exact ⟨rfl, rfl⟩

theorem srt_nil : srt [] = [] := by simp [srt]
theorem toList_get (d : Array Nt) (i : Nat) (h : i < d.size) : d.toList[i]! = d[i]! := by
  rw [getElem!_pos d i h, getElem!_pos d.toList i (by simpa using h), Array.getElem_toList]

set_option maxHeartbeats 400000 in
set_option maxRecDepth 100000 in
theorem sorted_nil (w : World) (c : Nat) :
    Calls Tryd.prog 38 #[.slice none 0 c] w fun e w' => ∃ v', e = .returned v' ∧ Arg w' v' (srt []) ∧ Below w.heap.size w w' := by
  have H := Lib.hid (clone_nil w 0 c)
  have hS := fun W (B : Nat) => Any.sort_Slice_tiny Tryd.laysGg6 22 32 infoS infoN (by kernel_rfl) (by kernel_rfl) (by kernel_rfl) (by kernel_rfl) 25 (fun _ => by kernel_rfl) none 0 0 (by omega) 64 (by kernel_rfl) (.func 48) #[] #[.pointer (some ⟨B, 0, none⟩)] W
  change ∀ W B, Calls Tryd.prog 47 _ W _ at hS
  have HS := Lib.hid hS; clear hS
  go_enter Tryd.func38, Tryd.ntmps38
  go_wp2_with fail
  refine H.out.mono ?_
  rintro e w1 ⟨rfl, rfl⟩
  go_wp2_with fail
  refine (HS.out _ _).mono ?_
  rintro e w2 ⟨rfl, os, hw2⟩
  have hb : Below (w1.alloc (.cells #[.slice none 0 0] 22)).heap.size (w1.alloc (.cells #[.slice none 0 0] 22)) w2 := by
    rw [hw2]; exact ⟨rfl, rfl, rfl, by rw [Go.Sort.size_grow]; omega, fun k hk => Go.Sort.heap_grow_old _ os hk⟩
  have c0 : w2.cell? ⟨w1.heap.size, 0, none⟩ = some (.slice none 0 0) := (hb.cell (p := ⟨w1.heap.size, 0, none⟩) (by simp)).trans (by simp)
  clear hw2
  go_wp2_with fail
  go_ret
  exact ⟨_, rfl, ⟨none, 0, by rw [srt_nil]; rfl, Or.inl srt_nil⟩, ((Below.refl _ w1).alloc (Nat.le_refl _) _).trans (hb.mono (by simp))⟩

set_option maxHeartbeats 400000 in
set_option maxRecDepth 100000 in
theorem sorted_some (w : World) (a : Addr) (c : Nat) (l : List Nt) (hl : l.length ≤ 64) (hc : ∀ j u, (cellsL l)[j]? = some u → w.cell? (a.add j) = some u) :
    Calls Tryd.prog 38 #[.slice (some a) l.length c] w fun e w' => ∃ v', e = .returned v' ∧ Arg w' v' (srt l) ∧ Below w.heap.size w w' := by
  have H := Lib.hid (clone_some w a c l hl hc); clear hc
  go_enter Tryd.func38, Tryd.ntmps38
  go_wp2_with fail
  refine H.out.mono ?_
  rintro e w1 ⟨v', rfl, hown, hnil, hb1⟩
  obtain ⟨_, ⟨hv, hn⟩ | ⟨g, cap, cur, rfl, hg0, hg, hcap, _, _, hcur⟩⟩ := hown
  · exact absurd hv hnil
  clear hnil
  have hgl : g < w1.heap.size := (Array.getElem?_eq_some_iff.1 hg).1
  have hseen : Seen w1 g 0 l := Own.seen hg hcur hg0 hcap
  have hb2 : Below w1.heap.size w1 (w1.alloc (.cells #[.slice (some ⟨g, 0, none⟩) l.length cap] 22)) := (Below.refl _ _).alloc (Nat.le_refl _) _
  have hrow : Row (w1.alloc (.cells #[.slice (some ⟨g, 0, none⟩) l.length cap] 22)) g l.toArray := by
    have fz : ∀ o, (w1.alloc (.cells #[.slice (some ⟨g, 0, none⟩) l.length cap] 22)).frozen? ⟨g, o, none⟩ = false := fun o => by
      rw [hb2.frozen (p := ⟨g, o, none⟩) hgl]
      simp [World.frozen?, hg]
    have s2 := hseen.below hb2 hgl
    exact ⟨fun i hi => by simpa using s2.c0 i (by simpa using hi), fun i hi => by simpa using s2.c1 i (by simpa using hi), fun i _ => fz _, fun i _ => fz _⟩
  have hS := Lib.hid (sortSlice_any (w1.alloc (.cells #[.slice (some ⟨g, 0, none⟩) l.length cap] 22)) w1.heap.size g l.length cap l.toArray (by simp) hl (by simp) hrow (by omega) (by simp; omega))
  clear hrow hcur hg
  go_wp2_with fail
  refine hS.out.mono ?_
  rintro e w2 ⟨rfl, d', hp, hs, hk, hrow⟩
  have c0 : w2.cell? ⟨w1.heap.size, 0, none⟩ = some (.slice (some ⟨g, 0, none⟩) l.length cap) := (hk.cell w1.heap.size 0 (by simp) (by omega)).trans (by simp)
  have HR := Lib.hid hrow; clear hrow
  have hd := srt_of l d' hp hs
  have hsz : d'.size = l.length := by rw [← Array.length_toList, hd, srt_len]
  have HD := Lib.hid hd; clear hd hp hs
  go_wp2_with fail
  go_ret
  have hb3 := hk.below (n := w.heap.size) hg0 (by simp; have := hb1.size; omega)
  refine ⟨_, rfl, ⟨some ⟨g, 0, none⟩, cap, by rw [srt_len]; rfl, Or.inr ⟨g, 0, rfl, Nat.lt_of_lt_of_le (by simp; omega) hk.size, ?_⟩⟩, (hb1.trans (hb2.mono hb1.size)).trans hb3⟩
  rw [← HD.out]
  refine ⟨fun i hi => ?_, fun i hi => ?_⟩
  · rw [toList_get d' i (by simpa using hi), Nat.zero_add]
    exact HR.out.c0 i (by simpa using hi)
  · rw [toList_get d' i (by simpa using hi), Nat.zero_add]
    exact HR.out.c1 i (by simpa using hi)

/-- cover.sorted at every list of at most 64 networks. -/
theorem sorted_any (w : World) (v : Value) (l : List Nt) (hl : l.length ≤ 64) (h : Arg w v l) :
    Calls Tryd.prog 38 #[v] w fun e w' => ∃ v', e = .returned v' ∧ Arg w' v' (srt l) ∧ Below w.heap.size w w' := by
  obtain ⟨p, c, rfl, h⟩ := h
  rcases h with rfl | ⟨b, off, rfl, _, hs⟩
  · cases p with
    | none => exact sorted_nil w c
    | some a => exact sorted_some w a c [] hl (fun j u hu => by simp [cellsL] at hu)
  · exact sorted_some w ⟨b, off, none⟩ c l hl (fun j u hu => by rw [Addr.add_lit]; exact hs.cells j u hu)
end Go.Proofs.YtbdmfcnlfmnmdaaDoor
