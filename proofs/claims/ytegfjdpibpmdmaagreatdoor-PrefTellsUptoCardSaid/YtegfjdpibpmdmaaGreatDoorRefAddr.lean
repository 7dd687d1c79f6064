/-
  The document's answers AddrOf and AddrText tell the address of a text, and whether it is one's, and the text of an address, just as the plain definitions do; what lay in memory stays. Condition of AddrOf: the text has at most 2^40 bytes.
-/
import Derived.Test.YtegfjdpibpmdmaaGreatDoorRefWhole
import Derived.Test.YtegfjdpibpmdmaaGreatDoorRefCut
import Derived.Lib.SmallJoins
import Derived.Laws.BitsAllLaws
namespace Go.Proofs.YtegfjdpibpmdmaaGreatDoor
open Go.RowKit

theorem WholeP.of_ok {l : List UInt8} (h : AddrP.okB l = true) : WholeP.whole l = (AddrP.num l : Nat) := by
  have hn := AddrP.okB_num h
  have hd := AddrP.dig_num h
  have hk : WholeP.ok l = true := by
    have h' := h
    unfold AddrP.okB at h'
    simp only [Bool.and_eq_true, Bool.not_eq_true', Bool.or_eq_false_iff, decide_eq_false_iff_not] at h'
    obtain ⟨⟨⟨⟨h0, h3⟩, _⟩, hall⟩, _⟩ := h'
    unfold WholeP.ok
    rw [AddrP.dig_eq _ (by omega), hd, hall, h0, decide_eq_false (show ¬ 10 < l.length by omega), decide_eq_false (show ¬ 1073741824 < AddrP.num l by omega)]
    simp
  unfold WholeP.whole
  rw [if_pos hk]
theorem WholeP.of_not {l : List UInt8} (h : AddrP.okB l = false) : WholeP.whole l < 0 ∨ 255 < WholeP.whole l := by
  unfold WholeP.whole
  by_cases hk : WholeP.ok l = true
  · rw [if_pos hk]
    right
    by_cases hn : AddrP.num l < 256
    · unfold WholeP.ok at hk
      simp only [Bool.and_eq_true, beq_iff_eq] at hk
      have hd := hk.2
      rw [AddrP.dig_eq _ (by omega)] at hd
      have := AddrP.okB_dig _ hn
      rw [hd, h] at this
      cases this
    · omega
  · rw [if_neg hk]
    left; decide

/-- What AddrOf tells. -/
def RefP.toldOf : Option Nat → Value
  | some n => .tuple #[.int .u32 (n : Nat), .bool true]
  | none => .tuple #[.int .u32 0, .bool false]
def RefP.Of (s : ByteArray) (w : World) (e : Ending) (w' : World) : Prop := e = .returned (RefP.toldOf (AddrP.parse s.data.toList)) ∧ Below w.heap.size w w'
theorem RefP.of_no {s : ByteArray} {w w' : World} (h : AddrP.parse s.data.toList = none) (hb : Below w.heap.size w w') : RefP.Of s w (.returned (.tuple #[.int .u32 0, .bool false])) w' := by
  unfold RefP.Of
  rw [h]; exact ⟨rfl, hb⟩
theorem RefP.of_yes {s : ByteArray} {w w' : World} {n : Nat} {z : Int} (h : AddrP.parse s.data.toList = some n) (hz : z = n) (hb : Below w.heap.size w w') : RefP.Of s w (.returned (.tuple #[.int .u32 z, .bool true])) w' := by
  unfold RefP.Of
  rw [h, hz]; exact ⟨rfl, hb⟩

def RefP.Rel (ps : List (List UInt8)) (w1 : World) (a i : Value) (wr : World) : Prop :=
  ∃ (k A : Nat), k ≤ 4 ∧ i = .int .i64 k ∧ a = .int .u32 (A : Nat) ∧ A < 256 ^ k ∧ AddrP.fold A (ps.drop k) = AddrP.fold 0 ps ∧ Below w1.heap.size w1 wr
theorem RefP.step {ps : List (List UInt8)} {w1 wr : World} {k A n : Nat} {z : Int} (hk : k < 4) (hA : A < 256 ^ k) (hn : n < 256) (hf : AddrP.fold (A * 256 + n) (ps.drop (k + 1)) = AddrP.fold 0 ps) (hb : Below w1.heap.size w1 wr)
    (hz : z = (A * 256 + n : Nat)) : RefP.Rel ps w1 (.int .u32 z) (.int .i64 ((k : Int) + 1)) wr := by
  refine ⟨k + 1, A * 256 + n, by omega, by simp, by rw [hz], ?_, hf, hb⟩
  rw [Nat.pow_succ]
  omega

theorem CutP.cut_pos (c : UInt8) (k : Nat) (s : List UInt8) : 1 ≤ (Lib.splitK [c] 0 k s).length := by
  cases k with
  | zero => simp [Lib.splitK]
  | succ k =>
    rw [Lib.splitK]
    split <;> simp

theorem RefP.cells {ps : List ByteArray} {l : List (List UInt8)} {w1 : World} {g cap base : Nat} (hm : ps.map (·.data.toList) = l) (h : w1.ownsRow base 9 1 (.slice (some ⟨g, 0, none⟩) ps.length cap) ps.length (ps.map Value.string)) :
    ∀ k, k < ps.length → ∃ p : ByteArray, w1.cell? ⟨g, k, none⟩ = some (.string p) ∧ l.drop k = p.data.toList :: l.drop (k + 1) := by
  intro k hk
  refine ⟨ps[k], ?_, ?_⟩
  · rw [h.cellAt k (by omega)]
    simp [hk]
  · subst hm
    rw [List.drop_eq_getElem_cons (by simp; omega)]
    simp

set_option maxHeartbeats 1000000 in
theorem addrOf_any (s : ByteArray) (w : World) (hs : s.size ≤ 1099511627776) :
    Calls Tryz.prog 28 #[.string s] w (RefP.Of s w) := by
  have hlen := CutP.four_all 46 s.data.toList 4
  have hsame := CutP.four_same 46 s.data.toList 4
  have HLEN := Lib.hid hlen; have HSAME := Lib.hid hsame; clear hlen hsame
  go_enter Tryz.func28, Tryz.ntmps28
  go_wp2_with fail
  refine (cut_any s 46 46 rfl w hs).mono ?_
  rintro e w1 ⟨v, ps, rfl, hm, hown, hb1⟩
  have hpos : 0 < ps.length := by
    have := CutP.cut_pos 46 s.data.toList.length s.data.toList
    have e : ps.length = (CutP.cutAll 46 s.data.toList).length := by rw [← hm, List.length_map]
    unfold CutP.cutAll at e
    omega
  obtain ⟨g, cap, rfl⟩ := Go.Joins.ownsRow_form hown hpos
  have hg := (hown.lt g rfl).2
  have hcells := RefP.cells hm hown
  have hl : ps.length = (CutP.cutAll 46 s.data.toList).length := by rw [← hm, List.length_map]
  by_cases h4 : ps.length = 4
  · have hp4 : (AddrP.pieces s.data.toList).length = 4 := HLEN.out.1 (by omega)
    have hpe : CutP.cutAll 46 s.data.toList = AddrP.pieces s.data.toList := HSAME.out hp4
    have hp : AddrP.parse s.data.toList = AddrP.fold 0 (AddrP.pieces s.data.toList) := by unfold AddrP.parse; rw [if_pos hp4]
    rw [hpe, h4] at hcells
    rw [h4]
    have HP := Lib.hid hp; have HC := Lib.hid hcells; have H4 := Lib.hid hp4
    clear hp hcells hp4 hpe h4 hl hown hm hpos
    go_wp2_with fail
    go_loopw [5, 6] (fun a i wr => RefP.Rel (AddrP.pieces s.data.toList) w1 a i wr) (fun _ i _ => 4 - (RowKit.intOf i).toNat)
    case atStart => exact ⟨0, 0, by omega, rfl, rfl, by decide, rfl, Below.refl _ _⟩
    case round =>
      obtain ⟨k, A, hk, rfl, rfl, hA, hf, hbr⟩ := hrel
      by_cases hlt : k < 4
      · obtain ⟨p, hcell, hdrop⟩ := HC.out k hlt
        have hcr : wr.cell? ⟨g, k, none⟩ = some (.string p) := by rw [hbr.cell (p := ⟨g, k, none⟩) hg]; exact hcell
        rw [hdrop, AddrP.fold_cons] at hf
        clear hdrop hcell
        have h3 : 256 ^ k ≤ 16777216 := Nat.le_trans (Nat.pow_le_pow_right (by decide) (show k ≤ 3 by omega)) (by decide)
        have hA3 : A < 16777216 := by omega
        clear h3
        cases hok : AddrP.okB p.data.toList
        · rw [hok] at hf
          have HF := Lib.hid hf; clear hf
          have hno := WholeP.of_not hok
          have HA := Lib.hid hA; clear hA
          have HW := Lib.hid (whole_any p)
          go_wp2_with fail
          refine (HW.out _).mono ?_
          rintro e w2 ⟨rfl, hb2⟩
          generalize WholeP.whole p.data.toList = z at hno
          rcases hno with hno | hno
          · go_wp2_with fail
            go_ret2
            exact RefP.of_no (by rw [HP.out, ← HF.out]; rfl) ((hb1.trans (hbr.mono hb1.size)).trans (hb2.mono (Nat.le_trans hb1.size hbr.size)))
          · go_wp2_with fail
            go_ret2
            exact RefP.of_no (by rw [HP.out, ← HF.out]; rfl) ((hb1.trans (hbr.mono hb1.size)).trans (hb2.mono (Nat.le_trans hb1.size hbr.size)))
        · rw [hok, if_pos rfl] at hf
          have HF := Lib.hid hf; clear hf
          have hn := AddrP.okB_num hok
          have HA := Lib.hid hA; clear hA
          have HW := Lib.hid (whole_any p); have HO := Lib.hid (WholeP.of_ok hok)
          go_wp2_with fail
          refine (HW.out _).mono ?_
          rintro e w2 ⟨rfl, hb2⟩
          rw [HO.out]
          go_wp2_with fail
          go_roundw
          case rel => exact RefP.step hlt HA.out hn HF.out (hbr.trans (hb2.mono hbr.size)) (by omega)
          case measure => simp [RowKit.intOf]; omega
      · have hk4 : 4 ≤ k := by omega
        have HF := Lib.hid hf; clear hf
        go_wp2_with fail
        go_ret2
        refine RefP.of_yes (n := A) ?_ rfl (hb1.trans (hbr.mono hb1.size))
        rw [HP.out, ← HF.out, List.drop_of_length_le (by rw [H4.out]; exact hk4), AddrP.fold_nil]
  · have hp : AddrP.parse s.data.toList = none := by
      unfold AddrP.parse
      rw [if_neg]
      intro e
      exact h4 (by rw [hl]; exact HLEN.out.2 e)
    have hne : ((ps.length : Int) != 4) = true := bne_iff_ne.2 (by omega)
    have HP := Lib.hid hp
    clear hp hcells h4 hl hown hm hpos
    go_wp2_with fail
    go_ret2
    exact RefP.of_no HP.out hb1
end Go.Proofs.YtegfjdpibpmdmaaGreatDoor
