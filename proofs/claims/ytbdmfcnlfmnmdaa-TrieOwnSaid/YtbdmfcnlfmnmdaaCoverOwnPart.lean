/-
  What the statement CoverOwn calls besides: a list copied, and a list that the call owns spoilt.
-/
import Derived.Test.YtbdmfcnlfmnmdaaNetApp
import Derived.Lib.Walk
import Derived.Lib.SliceRun
namespace Go.Proofs.Ytbdmfcnlfmnmdaa
open Go.RowKit Go.Lib

set_option maxHeartbeats 1000000 in
set_option maxRecDepth 100000 in
theorem netsCopy_some (w : World) (a : Addr) (c : Nat) (l : List Nt) (hl : l.length * 16 ≤ 140737488355328) (hc : ∀ j u, (cellsL l)[j]? = some u → w.cell? (a.add j) = some u) :
    Calls Try.prog 11 #[.slice (some a) l.length c] w fun e w' => ∃ v', e = .returned v' ∧ Own w' w.heap.size v' l ∧ Below w.heap.size w w' := by
  have A := Lib.hid hc; clear hc
  have hi : Try.prog.info? 30 = some infoN := by kernel_rfl
  obtain ⟨z, hz⟩ : ∃ z, infoN.zero = some z ∧ z.cells.size = 2 := ⟨.agg #[.int .u32 0, .int .i64 0], by kernel_rfl, by kernel_rfl⟩
  have hb : infoN.bytes = 16 := by kernel_rfl
  go_enter Try.func11, Try.ntmps11
  go_wp2_with (at_builtin; refine wpList_append_own _ rfl _ _ 22 rfl w.heap.size 30 infoN z 2 16 (by kernel_rfl) hi hz.1 infoN_size hb hz.2 (by omega) _ _ _ rfl (World.ownsRow_made w #[] 0 (Nat.le_refl _) (Nat.zero_le _) (by simp)) a l.length c (cellsL l) rfl ?qc1 ?qc2 ?qc3 ?qc4 ?qc5 ?qc6 ?_)
  case qc1 => exact cellsL_len l
  case qc2 =>
    intro j u hj
    exact Lib.cell?_alloc_some _ (A.out j u hj)
  case qc3 => exact cellsL_one l
  case qc4 => simp only [maxLen]; omega
  case qc5 => omega
  case qc6 => simp
  intro v' w1 hown hgrow _
  go_wp2
  go_ret
  exact ⟨v', rfl, by simpa [Own] using hown, ((Below.refl _ w).alloc (Nat.le_refl _) _).grown hgrow (by simp) (by intro k hk; simp [Value.ownBlock] at hk; omega)⟩

set_option maxHeartbeats 1000000 in
set_option maxRecDepth 100000 in
theorem netsCopy_nil (w : World) (c : Nat) :
    Calls Try.prog 11 #[.slice none 0 c] w fun e w' => ∃ v', e = .returned v' ∧ Own w' w.heap.size v' [] ∧ Below w.heap.size w w' := by
  go_enter Try.func11, Try.ntmps11
  go_wp2_with fail
  go_ret
  exact ⟨_, rfl, World.ownsRow_made w #[] 0 (Nat.le_refl _) (Nat.zero_le _) (by simp), (Below.refl _ w).alloc (Nat.le_refl _) _⟩

/-- A list copied. -/
theorem netsCopy_any (w : World) (v : Value) (l : List Nt) (hl : l.length * 16 ≤ 140737488355328) (h : Arg w v l) :
    Calls Try.prog 11 #[v] w fun e w' => ∃ v', e = .returned v' ∧ Own w' w.heap.size v' l ∧ Below w.heap.size w w' := by
  obtain ⟨p, c, rfl, h⟩ := h
  rcases h with rfl | ⟨b, off, rfl, _, hs⟩
  · cases p with
    | none => exact netsCopy_nil w c
    | some a => exact netsCopy_some w a c [] hl (fun j u hu => by simp [cellsL] at hu)
  · exact netsCopy_some w ⟨b, off, none⟩ c l hl (fun j u hu => by rw [Addr.add_lit]; exact hs.cells j u hu)

set_option maxHeartbeats 1000000 in
set_option maxRecDepth 100000 in
theorem spoil_some (w : World) (base g cap : Nat) (n : Nat) (x : Int) (hn : n < 4611686018427387904) (hg : base ≤ g) (hc : ∀ i, i < n → ∃ u, w.cell? ⟨g, i * 2 + 1, none⟩ = some u) (hf : ∀ o, w.frozen? ⟨g, o, none⟩ = false) :
    Calls Try.prog 12 #[.slice (some ⟨g, 0, none⟩) n cap, .int .i64 x] w fun e w' => e = .returned (.tuple #[]) ∧ Below base w w' := by
  have HC := Lib.hid hc; have HF := Lib.hid hf
  clear hc hf
  go_enter Try.func12, Try.ntmps12
  go_wp2_with fail
  go_loopw [4] (fun v wr => ∃ (k : Nat), v = .int .i64 k ∧ k ≤ n ∧ Hid (Below base w wr) ∧ Hid (∀ i, i < n → ∃ u, wr.cell? ⟨g, i * 2 + 1, none⟩ = some u) ∧ Hid (∀ o, wr.frozen? ⟨g, o, none⟩ = false)) (fun v _ => n - (RowKit.intOf v).toNat)
  case atStart => exact ⟨0, rfl, Nat.zero_le _, Lib.hid (Below.refl _ _), HC, HF⟩
  case round =>
    clear HC HF
    obtain ⟨k, rfl, hk, hB, HC, HF⟩ := hrel
    by_cases hkn : k < n
    · obtain ⟨u, hu⟩ := HC.out k hkn
      have hf := HF.out (k * 2 + 1)
      go_wp2_with fail
      go_roundw
      case rel =>
        refine ⟨k + 1, by go_num, by omega, Lib.hid (hB.out.setCell (p := ⟨g, k * 2 + 1, none⟩) hg _), Lib.hid fun i hi => ?_, Lib.hid fun o => by rw [World.frozen?_setCell]; exact HF.out o⟩
        obtain ⟨u', hu'⟩ := HC.out i hi
        exact ⟨_, set_if wr g (i * 2 + 1) (k * 2 + 1) _ u' hu'⟩
      case measure => simp [RowKit.intOf]; omega
    · go_wp2_with fail
      go_end0
      exact ⟨rfl, hB.out⟩
set_option maxHeartbeats 400000 in
set_option maxRecDepth 100000 in
theorem spoil_nil (w : World) (x : Int) :
    Calls Try.prog 12 #[.slice none 0 0, .int .i64 x] w fun e w' => e = .returned (.tuple #[]) ∧ w' = w := by
  go_enter Try.func12, Try.ntmps12
  go_wp2_with fail
  refine wp_loop_rounds 1 ?_
  rw [rounds_succ]
  go_wp2_with fail
  go_end0
  exact ⟨rfl, rfl⟩
/-- A list that the call owns, spoilt. -/
theorem spoil_any (w : World) (base : Nat) (v : Value) (l : List Nt) (x : Int) (hn : l.length < 4611686018427387904) (h : Own w base v l) :
    Calls Try.prog 12 #[v, .int .i64 x] w fun e w' => e = .returned (.tuple #[]) ∧ Below base w w' := by
  obtain ⟨_, ⟨rfl, _⟩ | ⟨g, cap, cur, rfl, hg0, hg, hcap, _, hsz, hcur⟩⟩ := h
  · refine (spoil_nil w x).mono ?_
    rintro e w' ⟨rfl, rfl⟩
    exact ⟨rfl, Below.refl _ _⟩
  · refine spoil_some w base g cap l.length x hn hg0 (fun i hi => ?_) (fun o => by simp [World.frozen?, hg])
    have := (Own.seen hg hcur hg0 hcap).c1 i hi
    rw [Nat.zero_add] at this
    exact ⟨_, this⟩
end Go.Proofs.Ytbdmfcnlfmnmdaa
