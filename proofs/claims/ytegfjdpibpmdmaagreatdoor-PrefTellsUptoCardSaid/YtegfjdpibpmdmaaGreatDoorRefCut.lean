/-
  The document's answer Cut tells all pieces of a text between the bytes at which it is cut, in new memory; what lay in memory stays. Condition: the text has at most 2^40 bytes.
-/
import Derived.Test.YtegfjdpibpmdmaaGreatDoorProg
import Derived.Test.YtegfjdpibpmdmaaGreatDoorCutPlain
import Derived.WalkKit
import Derived.Lib.Hide
import Derived.Lib.Walk
import Derived.Lib.Split
namespace Go.Proofs.YtegfjdpibpmdmaaGreatDoor
open Go.RowKit Go.Lib

theorem CutP.size_len (s : ByteArray) : s.data.toList.length = s.size := by simp
theorem CutP.byte_at (s : ByteArray) (k : Nat) (h : k < s.size) : s.data.toList[k]'(by rw [CutP.size_len]; exact h) = s[k] := rfl

/-- What the loop keeps. -/
def CutP.Rel (s : ByteArray) (c : UInt8) (w : World) (v fr i : Value) (wr : World) : Prop :=
  ∃ (k f : Nat) (done : List ByteArray), f ≤ k ∧ k ≤ s.size ∧ i = .int .i64 k ∧ fr = .int .i64 f ∧ done.length ≤ f ∧
    wr.ownsRow w.heap.size 9 1 v done.length (done.map Value.string) ∧ Below w.heap.size w wr ∧
    (∀ x ∈ (s.data.toList.drop f).take (k - f), x ≠ c) ∧ done.map (·.data.toList) ++ splitK [c] 0 s.size (s.data.toList.drop f) = CutP.cutAll c s.data.toList

theorem CutP.piece (s : ByteArray) (f k : Nat) : (s.extract f k).data.toList = (s.data.toList.drop f).take (k - f) := by
  rw [extract_data]
theorem CutP.part {l : List UInt8} {f k : Nat} {c : UInt8} (hf : f ≤ k) (hk : k < l.length) (hc : l[k] = c) : l.drop f = (l.drop f).take (k - f) ++ c :: l.drop (k + 1) := by
  conv => lhs; rw [← List.take_append_drop (k - f) (l.drop f)]
  rw [List.drop_drop, show f + (k - f) = k by omega, List.drop_eq_getElem_cons hk, hc]
/-- A piece more. -/
theorem CutP.hit {s : ByteArray} {c : UInt8} {k f : Nat} {done : List ByteArray} (hf : f ≤ k) (hk : k < s.size) (hc : s[k] = c) (hno : ∀ x ∈ (s.data.toList.drop f).take (k - f), x ≠ c)
    (h : done.map (·.data.toList) ++ splitK [c] 0 s.size (s.data.toList.drop f) = CutP.cutAll c s.data.toList) :
    (done ++ [s.extract f k]).map (·.data.toList) ++ splitK [c] 0 s.size (s.data.toList.drop (k + 1)) = CutP.cutAll c s.data.toList := by
  rw [← h, CutP.part (c := c) hf (by rw [CutP.size_len]; exact hk) (show s.data.toList[k]'(by rw [CutP.size_len]; exact hk) = c from hc)]
  obtain ⟨n, hn⟩ : ∃ n, s.size = n + 1 := ⟨s.size - 1, by omega⟩
  rw [hn, CutP.cut_hit c n _ _ hno, CutP.cut_more c n (n + 1) _ (by rw [List.length_drop, CutP.size_len]; omega) (by omega)]
  simp
/-- No piece more. -/
theorem CutP.miss {l : List UInt8} {c : UInt8} {k f : Nat} (hf : f ≤ k) (hk : k < l.length) (hc : l[k] ≠ c) (hno : ∀ x ∈ (l.drop f).take (k - f), x ≠ c) : ∀ x ∈ (l.drop f).take (k + 1 - f), x ≠ c := by
  intro x hx
  rw [show k + 1 - f = (k - f) + 1 by omega, List.take_succ_eq_append_getElem (by rw [List.length_drop]; omega), List.mem_append] at hx
  rcases hx with hx | hx
  · exact hno x hx
  · simp only [List.getElem_drop, List.mem_singleton] at hx
    rw [hx]
    simpa [show f + (k - f) = k by omega] using hc
/-- The last piece. -/
theorem CutP.last {s : ByteArray} {c : UInt8} {k f : Nat} {done : List ByteArray} (hge : s.size ≤ k) (hno : ∀ x ∈ (s.data.toList.drop f).take (k - f), x ≠ c)
    (h : done.map (·.data.toList) ++ splitK [c] 0 s.size (s.data.toList.drop f) = CutP.cutAll c s.data.toList) :
    (done ++ [s.extract f s.size]).map (·.data.toList) = CutP.cutAll c s.data.toList := by
  have e : (s.data.toList.drop f).take (k - f) = s.data.toList.drop f := List.take_of_length_le (by rw [List.length_drop, CutP.size_len]; omega)
  rw [e] at hno
  rw [← h, CutP.cut_miss c _ _ hno]
  simp [List.take_of_length_le]

theorem info_string' : (Tryz.prog.info? 9).map (fun i => (i.zero, i.size, i.bytes)) = some (some (.string ByteArray.empty), 1, 16) := by kernel_rfl

/-- What Cut tells. -/
def CutP.Told (s : ByteArray) (c : UInt8) (w : World) (e : Ending) (w' : World) : Prop :=
  ∃ (v : Value) (ps : List ByteArray), e = .returned v ∧ ps.map (·.data.toList) = CutP.cutAll c s.data.toList ∧ w'.ownsRow w.heap.size 9 1 v ps.length (ps.map Value.string) ∧ Below w.heap.size w w'

set_option maxHeartbeats 1600000 in
set_option maxRecDepth 1000000 in
theorem cut_any (s : ByteArray) (c : UInt8) (z : Int) (hz : z = (c.toNat : Int)) (w : World) (hs : s.size ≤ 1099511627776) :
    Calls Tryz.prog 27 #[.string s, .int .u8 z] w (CutP.Told s c w) := by
  obtain ⟨i0, hi, hz0, hz1, hz2⟩ := info_parts info_string'
  have HZ := Lib.hid hz; clear hz
  go_enter Tryz.func27, Tryz.ntmps27
  go_wp2_with fail
  go_loopw [5, 6, 7] (fun v fr i wr => CutP.Rel s c w v fr i wr) (fun _ _ i _ => s.size - (RowKit.intOf i).toNat)
  case atStart => exact ⟨0, 0, [], Nat.le_refl _, Nat.zero_le _, rfl, rfl, Nat.le_refl _, World.ownsRow_nil _ _ _ _, Below.refl _ _, by simp, by unfold CutP.cutAll; rw [CutP.size_len]; rfl⟩
  case round =>
    obtain ⟨k, f, done, hf, hk, rfl, rfl, hd, hown, hb, hno, hsp⟩ := hrel
    have HNO := Lib.hid hno; have HSP := Lib.hid hsp; clear hno hsp
    have hbs := hb.size
    by_cases hlt : k < s.size
    · by_cases hc : s[k] = c
      · have ht : ((s[k].toNat : Int) == z) = true := beq_iff_eq.2 (by rw [hc, HZ.out])
        have HC := Lib.hid hc; clear hc
        go_wp2_with (at_builtin; refine wpList_append_own _ rfl _ _ 49 rfl w.heap.size 9 i0 (.string ByteArray.empty) 1 16 Tryz.underlying49 hi hz0 hz1 hz2 rfl (by decide) _ _ _ rfl (hown.alloc _) ⟨wr.heap.size, 0, none⟩ 1 1 [.string (s.extract f k)] rfl rfl ?c1 ?c2 ?c3 ?c4 ?c5 ?_)
        case c1 =>
          intro j u hj
          match j, hj with
          | 0, hj => simp at hj; subst hj; simp [Addr.add]
        case c2 => intro u hu; simp at hu; subst hu; rfl
        case c3 => unfold maxLen; omega
        case c4 => omega
        case c5 => simp; omega
        · intro v' w1 hown' hgrow _
          have R1 : w1.ownsRow w.heap.size 9 1 v' (done ++ [s.extract f k]).length ((done ++ [s.extract f k]).map Value.string) := by simpa using hown'
          have R2 : Below w.heap.size w w1 := (hb.alloc (by omega) _).grown hgrow (by simp; omega) (fun j hj => (hown.lt j hj).1)
          clear hown' hgrow hown hb
          go_wp2_with fail
          go_roundw
          case rel => exact ⟨k + 1, k + 1, done ++ [s.extract f k], Nat.le_refl _, hlt, by go_num, by go_num, by simp; omega, R1, R2, by simp, CutP.hit hf hlt HC.out HNO.out HSP.out⟩
          case measure => simp [RowKit.intOf]; omega
      · have ht : ((s[k].toNat : Int) == z) = false := beq_eq_false_iff_ne.2 (by rw [HZ.out]; intro e; apply hc; apply UInt8.toNat_inj.1; omega)
        have HC := Lib.hid hc; clear hc
        go_wp2_with fail
        go_roundw
        case rel => exact ⟨k + 1, f, done, by omega, hlt, by go_num, rfl, hd, hown, hb, CutP.miss hf (by rw [CutP.size_len]; exact hlt) (by rw [CutP.byte_at s k hlt]; exact HC.out) HNO.out, HSP.out⟩
        case measure => simp [RowKit.intOf]; omega
    · have hge : s.size ≤ k := by omega
      go_wp2_with (at_builtin; refine wpList_append_own _ rfl _ _ 49 rfl w.heap.size 9 i0 (.string ByteArray.empty) 1 16 Tryz.underlying49 hi hz0 hz1 hz2 rfl (by decide) _ _ _ rfl (hown.alloc _) ⟨wr.heap.size, 0, none⟩ 1 1 [.string (s.extract f s.size)] rfl rfl ?c1 ?c2 ?c3 ?c4 ?c5 ?_)
      case c1 =>
        intro j u hj
        match j, hj with
        | 0, hj => simp at hj; subst hj; simp [Addr.add]
      case c2 => intro u hu; simp at hu; subst hu; rfl
      case c3 => unfold maxLen; omega
      case c4 => omega
      case c5 => simp; omega
      · intro v' w1 hown' hgrow _
        have R1 : w1.ownsRow w.heap.size 9 1 v' (done ++ [s.extract f s.size]).length ((done ++ [s.extract f s.size]).map Value.string) := by simpa using hown'
        have R2 : Below w.heap.size w w1 := (hb.alloc (by omega) _).grown hgrow (by simp; omega) (fun j hj => (hown.lt j hj).1)
        clear hown' hgrow hown hb
        go_wp2_with fail
        go_ret
        exact ⟨_, _, rfl, CutP.last hge HNO.out HSP.out, R1, R2⟩
end Go.Proofs.YtegfjdpibpmdmaaGreatDoor
