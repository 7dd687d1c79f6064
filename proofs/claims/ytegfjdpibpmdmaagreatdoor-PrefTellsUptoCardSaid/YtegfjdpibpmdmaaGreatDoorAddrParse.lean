/-
  addr.Parse tells the address whose text it is handed, or ErrForm and 0 if there is none; what lay in memory stays. Condition: the text is no longer than the form's own reach (strings.Index is taken as the shelf's contract pays it).
-/
import Derived.Test.YtegfjdpibpmdmaaGreatDoorAddrByte
import Derived.Test.YtegfjdpibpmdmaaGreatDoorSplit
import Derived.Below
import Derived.Laws.BitsAllLaws
namespace Go.Proofs.YtegfjdpibpmdmaaGreatDoor
open Go.RowKit

/-- What Parse tells of a text. -/
def AddrP.told : Option Nat → Value
  | some n => .tuple #[.int .u32 (n : Nat), .nilIface]
  | none => .tuple #[.int .u32 0, .iface 26 (.int .i64 3)]

def AddrP.Parsed (s : ByteArray) (w : World) (e : Ending) (w' : World) : Prop :=
  e = .returned (AddrP.told (AddrP.parse s.data.toList)) ∧ Below w.heap.size w w'

theorem AddrP.parsed_no {s : ByteArray} {w : World} (o : Obj) (h : AddrP.parse s.data.toList = none) : AddrP.Parsed s w (.returned (.tuple #[.int .u32 0, .iface 26 (.int .i64 3)])) (w.alloc o) := by
  unfold AddrP.Parsed
  rw [h]
  exact ⟨rfl, (Below.refl _ _).alloc (Nat.le_refl _) _⟩
theorem AddrP.parsed_yes {s : ByteArray} {w : World} (o : Obj) {n : Nat} {z : Int} (h : AddrP.parse s.data.toList = some n) (hz : z = n) : AddrP.Parsed s w (.returned (.tuple #[.int .u32 z, .nilIface])) (w.alloc o) := by
  unfold AddrP.Parsed
  rw [h, hz]
  exact ⟨rfl, (Below.refl _ _).alloc (Nat.le_refl _) _⟩

/-- The pieces, as strings.SplitN lays them. -/
def AddrP.pcs (s : ByteArray) (N : Nat) : List ByteArray := Lib.splitB ⟨#[46]⟩ 0 (N - 1) s
theorem AddrP.pcs_data (s : ByteArray) (N : Nat) (hN : (N : Int) = min 5 ((s.size : Int) + 1)) : (AddrP.pcs s N).map (·.data.toList) = AddrP.pieces s.data.toList := by
  unfold AddrP.pcs AddrP.pieces
  rw [Lib.splitB_data]
  show Lib.splitK [46] 0 (N - 1) s.data.toList = _
  by_cases h : s.size < 4
  · rw [CutP.cut_more 46 (N - 1) 4 _ (by rw [AddrP.size_len]; omega) (by omega)]
  · rw [show N - 1 = 4 by omega]
theorem AddrP.pcs_len (s : ByteArray) (N : Nat) (hN : (N : Int) = min 5 ((s.size : Int) + 1)) : (AddrP.pcs s N).length = (AddrP.pieces s.data.toList).length := by
  rw [← AddrP.pcs_data s N hN, List.length_map]
theorem AddrP.pcs_le (s : ByteArray) (N : Nat) (hN : 1 ≤ N) : (AddrP.pcs s N).length ≤ N := by
  have := Lib.splitB_length_le ⟨#[46]⟩ 0 (N - 1) s
  unfold AddrP.pcs
  omega
theorem AddrP.cell_at (ps : List ByteArray) (N k : Nat) (hk : k < ps.length) : (Lib.cellsOf ps N)[k]? = some (.string (ps[k])) := by
  unfold Lib.cellsOf
  rw [List.getElem?_toArray, List.getElem?_append_left (by simpa using hk)]
  simp [hk]

theorem AddrP.cells_pieces (ps : List ByteArray) (N : Nat) (l : List (List UInt8)) (h4 : ps.length = 4) (hd : ps.map (·.data.toList) = l) :
    ∀ k, k < 4 → ∃ p : ByteArray, (Lib.cellsOf ps N)[k]? = some (.string p) ∧ l.drop k = p.data.toList :: l.drop (k + 1) := by
  intro k hk
  refine ⟨ps[k]'(by omega), AddrP.cell_at ps N k (by omega), ?_⟩
  subst hd
  rw [List.drop_eq_getElem_cons (by simp; omega)]
  simp

/-- The loop: the number of the pieces so far; the others will give the rest. -/
def AddrP.PRel (ps : List (List UInt8)) (a i : Value) : Prop :=
  ∃ (k A : Nat), k ≤ 4 ∧ i = .int .i64 k ∧ a = .int .u32 (A : Nat) ∧ A < 256 ^ k ∧ AddrP.fold A (ps.drop k) = AddrP.fold 0 ps

theorem AddrP.pbN_lt (l : List UInt8) : AddrP.pbN l < 256 := by
  unfold AddrP.pbN
  split
  · exact AddrP.okB_num ‹_›
  · decide
theorem AddrP.pbN_ok {l : List UInt8} (h : AddrP.okB l = true) : AddrP.pbN l = AddrP.num l := by
  unfold AddrP.pbN
  rw [if_pos h]
theorem AddrP.shl_or (A n : Nat) (hA : A < 16777216) (hn : n < 256) : bits .or .u32 ((A : Int) * 256 % 4294967296) (n : Int) = ((A * 256 + n : Nat) : Int) := by
  rw [show (A : Int) * 256 % 4294967296 = ((A * 256 : Nat) : Int) by omega, u32_or_nat _ _ (by omega) (by omega), nat_join 8 _ _ (by omega) (by omega)]
theorem AddrP.prel_step {ps : List (List UInt8)} {k A n : Nat} (hk : k < 4) (hA : A < 256 ^ k) (hn : n < 256) (hf : AddrP.fold (A * 256 + n) (ps.drop (k + 1)) = AddrP.fold 0 ps) :
    AddrP.PRel ps (.int .u32 (bits .or .u32 ((A : Int) * 256 % 4294967296) (n : Int))) (.int .i64 ((k : Int) + 1)) := by
  have h3 : 256 ^ k ≤ 16777216 := Nat.le_trans (Nat.pow_le_pow_right (by decide) (show k ≤ 3 by omega)) (by decide)
  refine ⟨k + 1, A * 256 + n, by omega, by simp, by rw [AddrP.shl_or A n (by omega) hn], ?_, hf⟩
  rw [Nat.pow_succ]
  omega

set_option maxHeartbeats 1000000 in
theorem parse_any (hI : IndexOne) (s : ByteArray) (w : World) (hs : s.size ≤ 140737488355328) :
    Calls Tryz.prog 31 #[.string s] w (AddrP.Parsed s w) := by
  obtain ⟨N, hN⟩ : ∃ N : Nat, (N : Int) = min 5 ((s.size : Int) + 1) := ⟨(min 5 ((s.size : Int) + 1)).toNat, by omega⟩
  have hl := AddrP.pcs_len s N hN
  have hle := AddrP.pcs_le s N (by omega)
  have hdat := AddrP.pcs_data s N hN
  have hsp := splitN_one hI s 46 5 N w hs (by omega) (by omega) hN
  have hN5 : N ≤ 5 := by omega
  have hN1 : 1 ≤ N := by omega
  clear hN
  change Calls _ _ _ _ (fun e w' => e = .returned (.slice (some ⟨w.heap.size, 0, none⟩) (AddrP.pcs s N).length N) ∧ w' = w.alloc (.cells (Lib.cellsOf (AddrP.pcs s N) N) 9)) at hsp
  generalize AddrP.pcs s N = ps at hl hle hdat hsp
  by_cases h4 : ps.length = 4
  · have hp : AddrP.parse s.data.toList = AddrP.fold 0 (AddrP.pieces s.data.toList) := by unfold AddrP.parse; rw [if_pos (by omega)]
    rw [h4] at hsp
    have hc := AddrP.cells_pieces ps N _ h4 hdat
    have hN4 : 4 ≤ N := by omega
    have hlen : (AddrP.pieces s.data.toList).length = 4 := by omega
    have HSP := Lib.hid hsp; have HP := Lib.hid hp; have HC := Lib.hid hc; have HL := Lib.hid hlen
    clear hsp hp hdat h4 hl hle hc hlen
    go_enter Tryz.func31, Tryz.ntmps31
    go_wp2_with (go_at_call 41; refine HSP.out.mono ?_; rintro e w' ⟨rfl, hw⟩; rw [hw]; clear hw)
    go_loop [5, 18] (fun a i => AddrP.PRel (AddrP.pieces s.data.toList) a i) (fun _ i => 4 - (intOf i).toNat)
    case atStart => exact ⟨0, 0, by omega, rfl, rfl, by decide, rfl⟩
    case round =>
      obtain ⟨k, A, hk, rfl, rfl, hA, hf⟩ := hrel
      by_cases hlt : k < 4
      · obtain ⟨p, hcell, hdrop⟩ := HC.out k hlt
        rw [hdrop, AddrP.fold_cons] at hf
        clear hdrop
        have hn := AddrP.pbN_lt p.data.toList
        cases hok : AddrP.okB p.data.toList
        · rw [hok] at hf
          have HF := Lib.hid hf; clear hf
          go_wp2_with (go_at_call 42; refine (parseByte_any p _).mono ?_; rintro e w' ⟨rfl, rfl⟩)
          go_ret2
          exact AddrP.parsed_no _ (by rw [HP.out, ← HF.out]; rfl)
        · rw [hok, if_pos rfl, ← AddrP.pbN_ok hok] at hf
          have HF := Lib.hid hf; clear hf
          go_wp2_with (go_at_call 42; refine (parseByte_any p _).mono ?_; rintro e w' ⟨rfl, rfl⟩)
          exact ⟨AddrP.prel_step hlt hA hn HF.out, by simp [intOf]; omega⟩
      · have hk4 : 4 ≤ k := by omega
        have HF := Lib.hid hf; clear hf
        go_wp2_with fail
        go_ret2
        refine AddrP.parsed_yes _ (n := A) ?_ rfl
        rw [HP.out, ← HF.out, List.drop_of_length_le (by rw [HL.out]; exact hk4), AddrP.fold_nil]
  · have hp : AddrP.parse s.data.toList = none := by unfold AddrP.parse; rw [if_neg (by omega)]
    have hne : ((ps.length : Int) != 4) = true := bne_iff_ne.2 (by omega)
    have HSP := Lib.hid hsp; have HP := Lib.hid hp; clear hsp hp hdat hl h4
    go_enter Tryz.func31, Tryz.ntmps31
    go_wp2_with (go_at_call 41; refine HSP.out.mono ?_; rintro e w' ⟨rfl, hw⟩; rw [hw]; clear hw)
    go_ret2
    exact AddrP.parsed_no _ HP.out
end Go.Proofs.YtegfjdpibpmdmaaGreatDoor
