/-
  bytes.Clone and bytes.Equal at every list of bytes; what lay in memory stays.
-/
import Derived.Test.YtlgkjbkbdmneaaaDoorWireApp
import Derived.Lib.SliceRun
import Derived.Lib.ConvBytes
import Derived.Laws.BytesArg
import Derived.Lib.Bytes
namespace Go.Proofs.YtlgkjbkbdmneaaaDoor
open Go.RowKit Go.Lib

set_option maxHeartbeats 1000000 in
set_option maxRecDepth 100000 in
theorem cloneB_some (w : World) (a : Addr) (c : Nat) (l : List Nat) (hl : l.length ≤ 140737488355328) (hc : ∀ j u, (cellsB l)[j]? = some u → w.cell? (a.add j) = some u) :
    Calls Tryd.prog 36 #[.slice (some a) l.length c] w fun x w' => ∃ v', x = .returned v' ∧ OwnB w' w.heap.size v' l ∧ Below w.heap.size w w' := by
  have A := Lib.hid hc; clear hc
  have hi : Tryd.prog.info? 5 = some infoB := by kernel_rfl
  obtain ⟨z, hz⟩ : ∃ z, infoB.zero = some z ∧ z.cells.size = 1 := ⟨.int .u8 0, by kernel_rfl, by kernel_rfl⟩
  have hb : infoB.bytes = 1 := by kernel_rfl
  have q : ∀ (w : World) (a : Option Addr) (n c n' c' : Nat), (binOp .eql 25 (.slice a n c) (.slice none n' c')).run Tryd.prog w = .ok (.bool a.isNone) w := fun w a n c n' c' => Lib.run_eql_slice_nil w _ _ a n c n' c' Tryd.underlying25
  go_enter Tryd.func36, Tryd.ntmps36
  go_wp2_with (at_builtin; refine wpList_append_own _ rfl _ _ 25 rfl w.heap.size 5 infoB z 1 1 (by kernel_rfl) hi hz.1 (by kernel_rfl) hb hz.2 (by omega) _ _ _ rfl (World.ownsRow_made w #[] 0 (Nat.le_refl _) (Nat.zero_le _) (by simp)) a l.length c (cellsB l) rfl ?qc1 ?qc2 ?qc3 ?qc4 ?qc5 ?qc6 ?_)
  case qc1 => rw [cellsB_len]; omega
  case qc2 =>
    intro j u hj
    exact Lib.cell?_alloc_some _ (A.out j u hj)
  case qc3 => exact cellsB_one l
  case qc4 => simp only [maxLen]; omega
  case qc5 => omega
  case qc6 => simp
  intro v' w1 hown hgrow _
  go_wp2
  go_ret
  exact ⟨v', rfl, by simpa [OwnB] using hown, ((Below.refl _ w).alloc (Nat.le_refl _) _).grown hgrow (by simp) (by intro k hk; simp [Value.ownBlock] at hk; omega)⟩

set_option maxHeartbeats 1000000 in
set_option maxRecDepth 100000 in
theorem cloneB_nil (w : World) (n c : Nat) :
    Calls Tryd.prog 36 #[.slice none n c] w fun x w' => x = .returned (.slice none 0 0) ∧ w' = w := by
  have q : ∀ (w : World) (a : Option Addr) (n c n' c' : Nat), (binOp .eql 25 (.slice a n c) (.slice none n' c')).run Tryd.prog w = .ok (.bool a.isNone) w := fun w a n c n' c' => Lib.run_eql_slice_nil w _ _ a n c n' c' Tryd.underlying25
  go_enter Tryd.func36, Tryd.ntmps36
  go_wp2_with fail
  go_ret
  exact ⟨rfl, rfl⟩

theorem cloneB_any (w : World) (v : Value) (l : List Nat) (hl : l.length ≤ 140737488355328) (h : ArgB w v l) :
    Calls Tryd.prog 36 #[v] w fun x w' => ∃ v', x = .returned v' ∧ OwnB w' w.heap.size v' l ∧ Below w.heap.size w w' := by
  obtain ⟨p, c, rfl, hc, h⟩ := h
  rcases h with rfl | ⟨b, off, rfl, _, hs⟩
  · cases p with
    | none =>
      refine (cloneB_nil w _ c).mono ?_
      rintro x w1 ⟨rfl, rfl⟩
      exact ⟨_, rfl, OwnB.nil _ _, Below.refl _ _⟩
    | some a => exact cloneB_some w a c [] hl (fun j u hu => by simp [cellsB] at hu)
  · exact cloneB_some w ⟨b, off, none⟩ c l hl (fun j u hu => by rw [Addr.add_lit]; exact hs.cells j u hu)

def numsB (l : List Nat) : List Int := l.map fun (z : Nat) => (z : Int)
theorem numsB_inj : ∀ l m : List Nat, Byt l → Byt m → (numsB l).map (fun n => UInt8.ofNat n.toNat) = (numsB m).map (fun n => UInt8.ofNat n.toNat) → l = m
  | [], [], _, _, _ => rfl
  | [], y :: m, _, _, h => by simp [numsB] at h
  | x :: l, [], _, _, h => by simp [numsB] at h
  | x :: l, y :: m, hl, hm, h => by
    simp only [numsB, List.map_cons, List.cons.injEq] at h
    have hx : x < 256 := hl x (by simp)
    have hy : y < 256 := hm y (by simp)
    have e : x = y := by
      have := congrArg UInt8.toNat h.1
      simp at this
      omega
    rw [e, numsB_inj l m (fun z hz => hl z (by simp [hz])) (fun z hz => hm z (by simp [hz])) h.2]
theorem strB (l m : List Nat) (hl : Byt l) (hm : Byt m) : ((strOfNums (numsB l)).toList == (strOfNums (numsB m)).toList) = decide (l = m) := by
  rw [Lib.strOfNums_toList, Lib.strOfNums_toList]
  by_cases e : l = m
  · subst e; simp
  · rw [decide_eq_false e]
    simp only [beq_eq_false_iff_ne, ne_eq]
    intro h
    exact e (numsB_inj l m hl hm h)

set_option maxHeartbeats 1000000 in
set_option maxRecDepth 100000 in
theorem equalB (w : World) (b off c b' off' c' : Nat) (l m : List Nat) (h : SeenB w b off l) (h' : SeenB w b' off' m) (hl : Byt l) (hm : Byt m) :
    Calls Tryd.prog 39 #[.slice (some ⟨b, off, none⟩) l.length c, .slice (some ⟨b', off', none⟩) m.length c'] w fun x w' => x = .returned (.bool (decide (l = m))) ∧ w' = w := by
  have get : ∀ (l : List Nat) i, i < l.length → (numsB l).getD i 0 = ((l[i]! : Nat) : Int) := fun l i hi => by
    rw [getElem!_pos l i hi, List.getD_eq_getElem?_getD, numsB, List.getElem?_map, List.getElem?_eq_getElem hi]; rfl
  have s1 := run_convert_bytes_arg (P := Tryd.prog) w 25 5 Tryd.underlying25 Tryd.underlying5 b off l.length c (numsB l) (by simp [numsB]) (fun i hi => by rw [get l i hi]; exact h i hi) 9 Tryd.underlying9
  have s2 := run_convert_bytes_arg (P := Tryd.prog) w 25 5 Tryd.underlying25 Tryd.underlying5 b' off' m.length c' (numsB m) (by simp [numsB]) (fun i hi => by rw [get m i hi]; exact h' i hi) 9 Tryd.underlying9
  have HE := Lib.hid (strB l m hl hm)
  clear h h' hl hm get
  go_enter Tryd.func39, Tryd.ntmps39
  go_wp2_with fail
  go_ret
  exact ⟨by rw [← HE.out]; rfl, rfl⟩
end Go.Proofs.YtlgkjbkbdmneaaaDoor
