/-
  pref.Parse at every text within the form's reach: the network whose text it is, or ErrForm; what lay in memory stays. Conditions: the library's listed variables are as its text lays them.
-/
import Derived.Test.YtegfjdpibpmdmaaGreatDoorPrefText
import Derived.Test.YtegfjdpibpmdmaaGreatDoorPrefCheck
import Derived.Test.YtegfjdpibpmdmaaGreatDoorStrCut
namespace Go.Proofs.YtegfjdpibpmdmaaGreatDoor
open Go.RowKit

/-- What the library's own variables hold, as far as strconv reads them. -/
structure Spell (w : World) : Prop where
  pow : Pow10 w
  syn : ∃ te pe, w.cell? ⟨2, 0, none⟩ = some (.iface te pe)
  rng : ∃ te pe, w.cell? ⟨3, 0, none⟩ = some (.iface te pe)
theorem Spell.below {w w' : World} (h : Spell w) (hb : Below w.heap.size w w') : Spell w' := by
  obtain ⟨h1, ⟨t2, p2, h2⟩, t3, p3, h3⟩ := h
  exact ⟨h1.below hb, ⟨t2, p2, (hb.cell (p := ⟨2, 0, none⟩) (Lib.lt_of_cell h2)).trans h2⟩, t3, p3, (hb.cell (p := ⟨3, 0, none⟩) (Lib.lt_of_cell h3)).trans h3⟩

theorem atoi_ok (s : ByteArray) (v : Int) (hs : s.size ≤ 140737488355328) (h : Lib.atoiAll s.data.toList = .ok v) (w : World) :
    Calls Tryz.prog 32 #[.string s] w fun e w' => e = .returned (.tuple #[.int .i64 v, .nilIface]) ∧ Below w.heap.size w w' := by
  refine (Tryz.strconv_Atoi_ok s (by omega) v h w).mono ?_
  rintro e w' ⟨rfl, hw⟩
  refine ⟨rfl, ?_⟩
  rcases hw with rfl | ⟨t, rfl⟩
  · exact Below.refl _ _
  · exact Lib.bytesWorld_below _ _ _
theorem atoi_bad (s : ByteArray) (hs : s.size ≤ 140737488355328) (h : ∀ v, Lib.atoiAll s.data.toList ≠ .ok v) (w : World) (hw : Spell w) :
    Calls Tryz.prog 32 #[.string s] w fun e w' => (∃ z N, e = .returned (.tuple #[.int .i64 z, .iface 87 (.pointer (some ⟨N, 0, none⟩))])) ∧ Below w.heap.size w w' := by
  obtain ⟨_, ⟨t2, p2, h2⟩, t3, p3, h3⟩ := hw
  rcases hk : Lib.atoiAll s.data.toList with v | _ | _
  · exact absurd hk (h v)
  · have C : Calls Tryz.prog 32 #[.string s] w fun e w' => ∃ N, e = .returned (.tuple #[.int .i64 0, .iface 87 (.pointer (some ⟨N, 0, none⟩))]) ∧ w.heap.size ≤ N ∧ w'.heap[N]? = some (.cells #[.string ⟨#[65, 116, 111, 105]⟩, .string s, .iface t2 p2] 113 (0, 0)) ∧ Below w.heap.size w w' :=
      Any.strconv_Atoi_syntax Tryz.laysC172 s (by omega) hk _ w h2 (Or.inr ⟨t2, p2, rfl⟩)
    refine C.mono ?_
    rintro e w' ⟨N, rfl, _, _, hb⟩
    exact ⟨⟨_, N, rfl⟩, hb⟩
  · refine (Tryz.strconv_Atoi_range s (by omega) hk _ w h3 (Or.inr ⟨t3, p3, rfl⟩)).mono ?_
    rintro e w' ⟨N, rfl, _, _, hb⟩
    exact ⟨⟨_, N, rfl⟩, hb⟩

/-- What strings.Cut tells of a text. -/
def CutTells (s b t : ByteArray) (f : Bool) : Prop := ∀ w, Calls Tryz.prog 30 #[.string s, .string ⟨#[47]⟩] w fun e w' => e = .returned (.tuple #[.string b, .string t, .bool f]) ∧ Below w.heap.size w w'

set_option maxHeartbeats 400000 in
theorem netParse_a (s b t : ByteArray) (f : Bool) (w : World) (hb : b.size ≤ 140737488355328) (hc : CutTells s b t f) (h : AddrP.parse b.data.toList = none) :
    Calls Tryz.prog 9 #[.string s] w fun e w' => e = .returned (.tuple #[.agg #[.int .u32 0, .int .i64 0], .iface 26 (.int .i64 3)]) ∧ Below w.heap.size w w' := by
  have HC := Lib.hid hc; clear hc
  have HP := Lib.hid (fun w => parse_no b w hb h); clear h
  go_enter Tryz.func9, Tryz.ntmps9
  go_wp2_with fail
  refine (HC.out _).mono ?_
  rintro e w1 ⟨rfl, hb1⟩
  obtain ⟨B1, H1⟩ := box1 hb1
  have D1 := Lib.hid B1; clear B1 hb1
  go_wp2_with fail
  refine (HP.out _).mono ?_
  rintro e w2 ⟨rfl, hb2⟩
  obtain ⟨l1, c0, c1, f0, f1⟩ := D1.out.kept hb2
  go_wp2_with fail
  exact bodyPost_ret (v := .tuple #[.agg #[.int .u32 0, .int .i64 0], .iface 26 (.int .i64 3)]) (by simp [results, Tryz.results9, go_sem, c0, c1]) rfl ⟨rfl, ((Below.two H1 hb2).setCell (by simp) _).setCell (by simp) _⟩

set_option maxHeartbeats 400000 in
theorem netParse_b (s b t : ByteArray) (f : Bool) (a : Nat) (w : World) (hb : b.size ≤ 140737488355328) (ht : t.size ≤ 140737488355328) (hc : CutTells s b t f) (h : AddrP.parse b.data.toList = some a) (h2 : ∀ v, Lib.atoiAll t.data.toList ≠ .ok v) (hw : Spell w) :
    Calls Tryz.prog 9 #[.string s] w fun e w' => e = .returned (.tuple #[.agg #[.int .u32 0, .int .i64 0], .iface 26 (.int .i64 3)]) ∧ Below w.heap.size w w' := by
  have HW := Lib.hid hw; clear hw
  have HC := Lib.hid hc; clear hc
  have HP := Lib.hid (fun w => parse_yes b a w hb h); clear h
  have HI := Lib.hid (atoi_bad t ht h2); clear h2
  go_enter Tryz.func9, Tryz.ntmps9
  go_wp2_with fail
  refine (HC.out _).mono ?_
  rintro e w1 ⟨rfl, hb1⟩
  obtain ⟨B1, H1⟩ := box1 hb1
  have D1 := Lib.hid B1; clear B1 hb1
  go_wp2_with fail
  refine (HP.out _).mono ?_
  rintro e w2 ⟨rfl, hb2⟩
  have D2 := Lib.hid (D1.out.kept hb2)
  have H2 := Below.two H1 hb2
  clear D1 H1 hb2
  go_wp2_with fail
  refine (HI.out _ (HW.out.below H2)).mono ?_
  rintro e w3 ⟨⟨z, N, rfl⟩, hb3⟩
  obtain ⟨l1, c0, c1, f0, f1⟩ := D2.out.kept hb3
  go_wp2_with fail
  exact bodyPost_ret (v := .tuple #[.agg #[.int .u32 0, .int .i64 0], .iface 26 (.int .i64 3)]) (by simp [results, Tryz.results9, go_sem, c0, c1]) rfl ⟨rfl, ((Below.two H2 hb3).setCell (by simp) _).setCell (by simp) _⟩

set_option maxHeartbeats 400000 in
theorem netParse_c (s b t : ByteArray) (f : Bool) (a : Nat) (v k : Int) (w : World) (hb : b.size ≤ 140737488355328) (ht : t.size ≤ 140737488355328) (hc : CutTells s b t f) (h : AddrP.parse b.data.toList = some a) (h2 : Lib.atoiAll t.data.toList = .ok v)
    (h3 : ∀ w, Calls Tryz.prog 7 #[.agg #[.int .u32 a, .int .i64 v]] w fun e w' => e = .returned (.iface 26 (.int .i64 k)) ∧ Below w.heap.size w w') :
    Calls Tryz.prog 9 #[.string s] w fun e w' => e = .returned (.tuple #[.agg #[.int .u32 0, .int .i64 0], .iface 26 (.int .i64 3)]) ∧ Below w.heap.size w w' := by
  have HC := Lib.hid hc; clear hc
  have HK := Lib.hid h3; clear h3
  have HP := Lib.hid (fun w => parse_yes b a w hb h); clear h
  have HI := Lib.hid (atoi_ok t v ht h2); clear h2
  go_enter Tryz.func9, Tryz.ntmps9
  go_wp2_with fail
  refine (HC.out _).mono ?_
  rintro e w1 ⟨rfl, hb1⟩
  obtain ⟨B1, H1⟩ := box1 hb1
  have D1 := Lib.hid B1; clear B1 hb1
  go_wp2_with fail
  refine (HP.out _).mono ?_
  rintro e w2 ⟨rfl, hb2⟩
  have D2 := Lib.hid (D1.out.kept hb2)
  have H2 := Below.two H1 hb2
  clear D1 H1 hb2
  go_wp2_with fail
  refine (HI.out _).mono ?_
  rintro e w3 ⟨rfl, hb3⟩
  have D3 := Lib.hid (D2.out.kept hb3)
  have H3 := Below.two H2 hb3
  clear D2 H2 hb3
  go_wp2_with fail
  refine (HK.out _).mono ?_
  rintro e w4 ⟨rfl, hb4⟩
  obtain ⟨l1, c0, c1, f0, f1⟩ := (D3.out.alloc _).kept hb4
  have H4 := Below.two (H3.alloc H3.size _) hb4
  go_wp2_with fail
  exact bodyPost_ret (v := .tuple #[.agg #[.int .u32 0, .int .i64 0], .iface 26 (.int .i64 3)]) (by simp [results, Tryz.results9, go_sem, c0, c1]) rfl ⟨rfl, (H4.setCell (by simp) _).setCell (by simp) _⟩

set_option maxHeartbeats 1000000 in
theorem netParse_d (s b t : ByteArray) (f : Bool) (a n : Nat) (w : World) (hb : b.size ≤ 140737488355328) (ht : t.size ≤ 140737488355328) (hc : CutTells s b t f) (h : AddrP.parse b.data.toList = some a) (h2 : Lib.atoiAll t.data.toList = .ok (n : Int))
    (ha : a < 4294967296) (hn : n ≤ 32) (h3 : PrefP.cut a n = a) (h4 : PrefP.text a n ≠ s.data.toList) (hw : Spell w) :
    Calls Tryz.prog 9 #[.string s] w fun e w' => e = .returned (.tuple #[.agg #[.int .u32 0, .int .i64 0], .iface 26 (.int .i64 3)]) ∧ Below w.heap.size w w' := by
  have hq : (PrefP.text a n == s.toList) = false := beq_eq_false_iff_ne.2 (by rw [Lib.toList_data]; exact h4)
  clear h4
  have HW := Lib.hid hw; clear hw
  have HC := Lib.hid hc; clear hc
  have HK := Lib.hid (check_ok a n ha hn h3); clear h3
  have HP := Lib.hid (fun w => parse_yes b a w hb h); clear h
  have HI := Lib.hid (atoi_ok t n ht h2); clear h2
  go_enter Tryz.func9, Tryz.ntmps9
  go_wp2_with fail
  refine (HC.out _).mono ?_
  rintro e w1 ⟨rfl, hb1⟩
  obtain ⟨B1, H1⟩ := box1 hb1
  have D1 := Lib.hid B1; clear B1 hb1
  go_wp2_with fail
  refine (HP.out _).mono ?_
  rintro e w2 ⟨rfl, hb2⟩
  have D2 := Lib.hid (D1.out.kept hb2)
  have H2 := Below.two H1 hb2
  clear D1 H1 hb2
  go_wp2_with fail
  refine (HI.out _).mono ?_
  rintro e w3 ⟨rfl, hb3⟩
  have D3 := Lib.hid (D2.out.kept hb3)
  have H3 := Below.two H2 hb3
  clear D2 H2 hb3
  go_wp2_with fail
  refine (HK.out _).mono ?_
  rintro e w4 ⟨rfl, hb4⟩
  have D4 := Lib.hid ((D3.out.alloc _).kept hb4)
  have N4 := Lib.hid (box1 hb4).1
  have H4 := Below.two (H3.alloc H3.size _) hb4
  clear D3 H3 hb4
  obtain ⟨ln, n0, n1, _, _⟩ := N4.out
  go_wp2_with fail
  refine (netText_any a n _ ha hn (HW.out.below H4).pow).mono ?_
  rintro e w5 ⟨rfl, hb5⟩
  obtain ⟨l1, c0, c1, f0, f1⟩ := D4.out.kept hb5
  have H5 := Below.two H4 hb5
  go_wp2_with fail
  exact bodyPost_ret (v := .tuple #[.agg #[.int .u32 0, .int .i64 0], .iface 26 (.int .i64 3)]) (by simp [results, Tryz.results9, go_sem, c0, c1]) rfl ⟨rfl, (H5.setCell (by simp) _).setCell (by simp) _⟩

set_option maxHeartbeats 1000000 in
theorem netParse_e (b t : ByteArray) (f : Bool) (a n : Nat) (w : World) (hb : b.size ≤ 140737488355328) (ht : t.size ≤ 140737488355328) (hc : CutTells ⟨(PrefP.text a n).toArray⟩ b t f) (h : AddrP.parse b.data.toList = some a) (h2 : Lib.atoiAll t.data.toList = .ok (n : Int))
    (ha : a < 4294967296) (hn : n ≤ 32) (h3 : PrefP.cut a n = a) (hw : Spell w) :
    Calls Tryz.prog 9 #[.string ⟨(PrefP.text a n).toArray⟩] w fun e w' => e = .returned (.tuple #[.agg #[.int .u32 a, .int .i64 n], .nilIface]) ∧ Below w.heap.size w w' := by
  have HW := Lib.hid hw; clear hw
  have HC := Lib.hid hc; clear hc
  have HK := Lib.hid (check_ok a n ha hn h3); clear h3
  have HP := Lib.hid (fun w => parse_yes b a w hb h); clear h
  have HI := Lib.hid (atoi_ok t n ht h2); clear h2
  go_enter Tryz.func9, Tryz.ntmps9
  go_wp2_with fail
  refine (HC.out _).mono ?_
  rintro e w1 ⟨rfl, hb1⟩
  obtain ⟨B1, H1⟩ := box1 hb1
  have D1 := Lib.hid B1; clear B1 hb1
  go_wp2_with fail
  refine (HP.out _).mono ?_
  rintro e w2 ⟨rfl, hb2⟩
  have D2 := Lib.hid (D1.out.kept hb2)
  have H2 := Below.two H1 hb2
  clear D1 H1 hb2
  go_wp2_with fail
  refine (HI.out _).mono ?_
  rintro e w3 ⟨rfl, hb3⟩
  have D3 := Lib.hid (D2.out.kept hb3)
  have H3 := Below.two H2 hb3
  clear D2 H2 hb3
  go_wp2_with fail
  refine (HK.out _).mono ?_
  rintro e w4 ⟨rfl, hb4⟩
  have D4 := Lib.hid ((D3.out.alloc _).kept hb4)
  have N4 := Lib.hid (box1 hb4).1
  have H4 := Below.two (H3.alloc H3.size _) hb4
  clear D3 H3 hb4
  obtain ⟨ln, n0, n1, _, _⟩ := N4.out
  go_wp2_with fail
  refine (netText_any a n _ ha hn (HW.out.below H4).pow).mono ?_
  rintro e w5 ⟨rfl, hb5⟩
  obtain ⟨l1, c0, c1, f0, f1⟩ := D4.out.kept hb5
  obtain ⟨ln5, n05, n15, _, _⟩ := N4.out.kept hb5
  have H5 := Below.two H4 hb5
  go_wp2_with fail
  exact bodyPost_ret (v := .tuple #[.agg #[.int .u32 a, .int .i64 n], .nilIface]) (by simp [results, Tryz.results9, go_sem, c0, c1]) rfl ⟨rfl, (H5.setCell (by simp) _).setCell (by simp) _⟩
theorem PrefP.bytes_eq {s : ByteArray} {l : List UInt8} (h : s.data.toList = l) : s = ⟨l.toArray⟩ := by
  apply ByteArray.ext
  apply Array.toList_inj.1
  simpa using h
theorem PrefP.size_len (s : ByteArray) : s.size = s.data.toList.length := (Array.length_toList (xs := s.data)).symm
theorem PrefP.extract_upto (s : ByteArray) (i : Nat) : (s.extract 0 i).data.toList = s.data.toList.take i := by
  rw [ByteArray.data_extract, Array.toList_extract, List.extract_eq_take_drop]
  simp

/-- A text that is a right network's: that network. -/
theorem netParse_is (s : ByteArray) (a n : Nat) (w : World) (h : PrefP.Is s.data.toList a n) (hw : Spell w) :
    Calls Tryz.prog 9 #[.string s] w fun e w' => e = .returned (.tuple #[.agg #[.int .u32 a, .int .i64 n], .nilIface]) ∧ Below w.heap.size w w' := by
  obtain ⟨ha, hn, hc, ht⟩ := h
  obtain rfl := PrefP.bytes_eq ht.symm
  have hl := PrefP.text_len a n hn (AddrP.text_len a)
  have hsz : (⟨(PrefP.text a n).toArray⟩ : ByteArray).size = (PrefP.text a n).length := by rw [PrefP.size_len]
  have hla := AddrP.text_len a
  have hi : Lib.indexByte (⟨(PrefP.text a n).toArray⟩ : ByteArray).data.toList 47 = ((AddrP.text a).length : Int) := PrefP.index_text a n
  have hlt := PrefP.index_room _ _ (PrefP.index_text a n)
  obtain ⟨e1, e2⟩ := PrefP.text_cut a n
  have C : CutTells ⟨(PrefP.text a n).toArray⟩ ⟨(AddrP.text a).toArray⟩ ⟨(AddrP.dig n).toArray⟩ true := by
    intro w
    have := strCut_hit ⟨(PrefP.text a n).toArray⟩ 47 (AddrP.text a).length (by omega) (by omega) hi w
    rw [show (⟨(PrefP.text a n).toArray⟩ : ByteArray).extract 0 (AddrP.text a).length = ⟨(AddrP.text a).toArray⟩ from PrefP.bytes_eq ((PrefP.extract_upto _ _).trans e1),
      show (⟨(PrefP.text a n).toArray⟩ : ByteArray).extract ((AddrP.text a).length + 1) (⟨(PrefP.text a n).toArray⟩ : ByteArray).size = ⟨(AddrP.dig n).toArray⟩ from PrefP.bytes_eq ((Lib.extract_to_end _ _).trans e2)] at this
    exact this
  have hd := AddrP.dig_len n (by omega)
  exact netParse_e _ _ _ a n w (by rw [PrefP.size_len]; show (AddrP.text a).length ≤ _; omega) (by rw [PrefP.size_len]; show (AddrP.dig n).length ≤ _; omega) C (AddrP.parse_text a ha) (PrefP.atoi_dig n hn) ha hn hc hw

/-- A text that is no right network's: ErrForm. -/
theorem netParse_not (s : ByteArray) (w : World) (hs : s.size ≤ 140737488355328) (h : ∀ a n, ¬ PrefP.Is s.data.toList a n) (hw : Spell w) :
    Calls Tryz.prog 9 #[.string s] w fun e w' => e = .returned (.tuple #[.agg #[.int .u32 0, .int .i64 0], .iface 26 (.int .i64 3)]) ∧ Below w.heap.size w w' := by
  obtain ⟨b, t, f, hb, ht, C⟩ : ∃ b t f, b.size ≤ 140737488355328 ∧ t.size ≤ 140737488355328 ∧ CutTells s b t f := by
    rcases PrefP.index_cases s.data.toList with hi | ⟨i, hi, hlt⟩
    · exact ⟨s, ByteArray.empty, false, hs, by decide, fun w => strCut_miss s 47 hi w⟩
    · rw [← PrefP.size_len] at hlt
      exact ⟨_, _, true, by rw [ByteArray.size_extract]; omega, by rw [ByteArray.size_extract]; omega, fun w => strCut_hit s 47 i hlt hs hi w⟩
  cases hp : AddrP.parse b.data.toList with
  | none => exact netParse_a s b t f w hb C hp
  | some a =>
    have ha := (AddrP.text_parse hp).1
    by_cases hv : ∃ v, Lib.atoiAll t.data.toList = .ok v
    · obtain ⟨v, hv⟩ := hv
      rcases PrefP.chk_cases a v with ⟨h1, _⟩ | ⟨n, rfl, hn, hc, _⟩ | ⟨n, rfl, hn, hc, _⟩
      · exact netParse_c s b t f a v 1 w hb ht C hp hv (check_range a v h1)
      · exact netParse_c s b t f a n 3 w hb ht C hp hv (check_form a n ha hn hc)
      · exact netParse_d s b t f a n w hb ht C hp hv ha hn hc (fun e => h a n ⟨ha, hn, hc, e⟩) hw
    · exact netParse_b s b t f a w hb ht C hp (fun v e => hv ⟨v, e⟩) hw
end Go.Proofs.YtegfjdpibpmdmaaGreatDoor
