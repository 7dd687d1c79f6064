/-
  The statement PrefTells' function answers true at every two networks, every address and every text of at most 2^40 bytes; what lay in memory stays. Conditions: the library's listed variables are as its text lays them.
-/
import Derived.Test.YtegfjdpibpmdmaaGreatDoorPrefTellsBad
import Derived.Test.YtegfjdpibpmdmaaGreatDoorPrefTellsZero
import Derived.Test.YtegfjdpibpmdmaaGreatDoorPrefTellsFull
import Derived.Test.YtegfjdpibpmdmaaGreatDoorPrefTellsMid
import Derived.Test.YtegfjdpibpmdmaaGreatDoorRefNetOf
import Derived.Test.YtegfjdpibpmdmaaGreatDoorRefNetText
import Derived.Test.YtegfjdpibpmdmaaGreatDoorRefCommon
import Derived.Test.YtegfjdpibpmdmaaGreatDoorPrefHalves
import Derived.Test.YtegfjdpibpmdmaaGreatDoorPrefCommon
namespace Go.Proofs.YtegfjdpibpmdmaaGreatDoor
open Go.RowKit

/-- An error is told as its number. -/
def ErrTells (ev : Value) (e : Int) : Prop := ∀ w, ErrType w → Calls Tryz.prog 6 #[ev, .int .i64 e] w fun r w' => r = .returned (.bool true) ∧ Below w.heap.size w w'
theorem errTells_nil : ErrTells .nilIface 0 := fun w _ => by
  refine (same_nil 0 true rfl w).mono ?_
  rintro r w' ⟨rfl, rfl⟩
  exact ⟨rfl, Below.refl _ _⟩
theorem errTells_err (k : Int) : ErrTells (.iface 26 (.int .i64 k)) k := fun w hw => same_err k k true (by simp) w hw

/-- What is told of a text, here and there. -/
structure TextTells (s : ByteArray) (errS : Value) (p : Nat) (q : Int) (is : Bool) (f : Int) : Prop where
  hs : (is = true ∧ f = 0) ∨ (is = false ∧ f = 3)
  hN : ∀ w, Calls Tryz.prog 8 #[.string s] w fun r w' => r = .returned (.tuple #[.agg #[.int .u32 p, .int .i64 q], .bool is]) ∧ Below w.heap.size w w'
  hP : ∀ w, Spell w → Calls Tryz.prog 9 #[.string s] w fun r w' => r = .returned (.tuple #[.agg #[.int .u32 p, .int .i64 q], errS]) ∧ Below w.heap.size w w'
  hS : ErrTells errS f
theorem textTells_of (s : ByteArray) (hs : s.size ≤ 1099511627776) : ∃ errS p q is f, TextTells s errS p q is f := by
  by_cases h : ∃ b m, PrefP.Is s.data.toList b m
  · obtain ⟨b, m, h⟩ := h
    exact ⟨.nilIface, b, m, true, 0, Or.inl ⟨rfl, rfl⟩, fun w => netOf_is s b m w h, fun w hw => netParse_is s b m w h hw, errTells_nil⟩
  · have h' : ∀ a n, ¬ PrefP.Is s.data.toList a n := fun a n hi => h ⟨a, n, hi⟩
    exact ⟨.iface 26 (.int .i64 3), 0, 0, false, 3, Or.inr ⟨rfl, rfl⟩, fun w => netOf_not s w hs h', fun w hw => netParse_not s w (by omega) h' hw, errTells_err 3⟩

theorem prefTells_bad (a : Nat) (l : Int) (b : Nat) (k : Int) (x : Nat) (s : ByteArray) (w : World) (ha : a < 4294967296) (hb : b < 4294967296) (hx : x < 4294967296) (hs : s.size ≤ 1099511627776) (hw : Spell w) (he : ErrType w) (z : Int) (hz : (z == 0) = false)
    (hf : ∀ w, Calls Tryz.prog 5 #[.agg #[.int .u32 a, .int .i64 l]] w fun r w' => r = .returned (.int .i64 z) ∧ Below w.heap.size w w')
    (hc : ∀ w, Calls Tryz.prog 7 #[.agg #[.int .u32 a, .int .i64 l]] w fun r w' => r = .returned (.iface 26 (.int .i64 z)) ∧ Below w.heap.size w w') :
    Calls Tryz.prog 3 #[.agg #[.int .u32 a, .int .i64 l], .agg #[.int .u32 b, .int .i64 k], .int .u32 x, .string s] w fun e w' => e = .returned (.bool true) ∧ Below w.heap.size w w' := by
  obtain ⟨errS, p, q, is, f, T⟩ := textTells_of s hs
  exact tells_bad a l b k x s w hw he z hz _ errS _ _ _ p q is f T.hs _ _ _ hf hc (errTells_err z) T.hN T.hP T.hS
    (has_any a l x hx) (refHas_any a l x ha hx) (fun w => in_any a l b k ha w) (fun w => refIn_any a l b k ha hb w) (less_any a l b k) (refLess_any a l b k)
    (fun w => up_bad a l z w hc) (errTells_err z) (fun w => halves_bad a l z w hc) (errTells_err z) (fun w => common_bad1 a l b k z w hc) (errTells_err z)

/-- What is told of the second network, the first being right. -/
theorem prefTells_ok (a n : Nat) (b : Nat) (k : Int) (x : Nat) (s : ByteArray) (w : World) (ha : a < 4294967296) (hn : n ≤ 32) (hc : PrefP.cut a n = a) (hb : b < 4294967296) (hx : x < 4294967296) (hs : s.size ≤ 1099511627776) (hw : Spell w) (he : ErrType w) :
    Calls Tryz.prog 3 #[.agg #[.int .u32 a, .int .i64 n], .agg #[.int .u32 b, .int .i64 k], .int .u32 x, .string s] w fun e w' => e = .returned (.bool true) ∧ Below w.heap.size w w' := by
  obtain ⟨errS, p, q, is, f, T⟩ := textTells_of s hs
  by_cases h0 : n = 0
  · subst h0
    obtain rfl : a = 0 := by rw [← hc, PrefP.cut_zero]
    have hU : ∀ w, Calls Tryz.prog 21 #[.agg #[.int .u32 ((0 : Nat) : Int), .int .i64 0]] w fun r w' => r = .returned (.tuple #[.agg #[.int .u32 0, .int .i64 0], .iface 26 (.int .i64 2)]) ∧ Below w.heap.size w w' := up_none
    rcases PrefP.chk_cases b k with ⟨h, e⟩ | ⟨m, rfl, hm, hd, e⟩ | ⟨m, rfl, hm, hd, e⟩
    · exact tells_zero_no 0 b k x s w hw he .nilIface errS _ .nilIface _ p q is f T.hs _ _ _ _ _ _ _ (fault_ok 0 0 ha hn hc) (check_ok 0 0 ha hn hc) errTells_nil T.hN T.hP T.hS
        (has_any 0 0 x hx) (refHas_any 0 0 x ha hx) (fun w => in_any 0 0 b k ha w) (fun w => refIn_any 0 0 b k ha hb w) (less_any 0 0 b k) (refLess_any 0 0 b k)
        (PrefP.text 0 0) (fun w hw => netText_any 0 0 w ha hn hw.pow) (fun w => refNetText_any 0 0 w ha hn) 1 rfl (fault_range b k h)
        (half0_any 0 0 (by decide)) (half1_any 0 0 ha (by decide)) hU (errTells_err 2) (halves_yes 0 0 ha (by decide) hc) errTells_nil (fun w => common_bad2 0 0 b k 1 w ha hn hc (check_range b k h)) (errTells_err 1)
    · exact tells_zero_no 0 b m x s w hw he .nilIface errS _ .nilIface _ p q is f T.hs _ _ _ _ _ _ _ (fault_ok 0 0 ha hn hc) (check_ok 0 0 ha hn hc) errTells_nil T.hN T.hP T.hS
        (has_any 0 0 x hx) (refHas_any 0 0 x ha hx) (fun w => in_any 0 0 b m ha w) (fun w => refIn_any 0 0 b m ha hb w) (less_any 0 0 b m) (refLess_any 0 0 b m)
        (PrefP.text 0 0) (fun w hw => netText_any 0 0 w ha hn hw.pow) (fun w => refNetText_any 0 0 w ha hn) 3 rfl (fault_form b m hb hm hd)
        (half0_any 0 0 (by decide)) (half1_any 0 0 ha (by decide)) hU (errTells_err 2) (halves_yes 0 0 ha (by decide) hc) errTells_nil (fun w => common_bad2 0 0 b m 3 w ha hn hc (check_form b m hb hm hd)) (errTells_err 3)
    · exact tells_zero_ok 0 b m x s w hw he .nilIface errS _ .nilIface .nilIface p q is f T.hs _ _ _ _ _ _ _ _ _ (fault_ok 0 0 ha hn hc) (check_ok 0 0 ha hn hc) errTells_nil T.hN T.hP T.hS
        (has_any 0 0 x hx) (refHas_any 0 0 x ha hx) (fun w => in_any 0 0 b m ha w) (fun w => refIn_any 0 0 b m ha hb w) (less_any 0 0 b m) (refLess_any 0 0 b m)
        (PrefP.text 0 0) (fun w hw => netText_any 0 0 w ha hn hw.pow) (fun w => refNetText_any 0 0 w ha hn) (fault_ok b m hb hm hd)
        (half0_any 0 0 (by decide)) (half1_any 0 0 ha (by decide)) (fun w => commonOf_any 0 0 b m w ha hn hb) hU (errTells_err 2) (halves_yes 0 0 ha (by decide) hc) errTells_nil (fun w => common_yes 0 0 b m w ha hn hc hb hm hd) errTells_nil
  · by_cases h32 : n = 32
    · subst h32
      have hU : ∀ w, Calls Tryz.prog 21 #[.agg #[.int .u32 (a : Int), .int .i64 32]] w fun r w' => r = .returned (.tuple #[.agg #[.int .u32 (PrefP.cut a 31 : Int), .int .i64 31], .nilIface]) ∧ Below w.heap.size w w' := up_yes a 31 ha (by decide) hc
      have hM : ∀ w, Calls Tryz.prog 18 #[.agg #[.int .u32 (a : Int), .int .i64 32], .int .i64 31] w fun r w' => r = .returned (.agg #[.int .u32 (PrefP.cut a 31 : Int), .int .i64 31]) ∧ Below w.heap.size w w' := trim_any a 32 31 ha (by decide)
      rcases PrefP.chk_cases b k with ⟨h, e⟩ | ⟨m, rfl, hm, hd, e⟩ | ⟨m, rfl, hm, hd, e⟩
      · exact tells_full_no a b k x s w hw he .nilIface errS .nilIface _ _ p q is f T.hs _ _ _ _ _ (fault_ok a 32 ha hn hc) (check_ok a 32 ha hn hc) errTells_nil T.hN T.hP T.hS
          (has_any a 32 x hx) (refHas_any a 32 x ha hx) (fun w => in_any a 32 b k ha w) (fun w => refIn_any a 32 b k ha hb w) (less_any a 32 b k) (refLess_any a 32 b k)
          (PrefP.text a 32) (fun w hw => netText_any a 32 w ha hn hw.pow) (fun w => refNetText_any a 32 w ha hn) 1 rfl (fault_range b k h)
          hM hU errTells_nil (halves_none a ha) (errTells_err 2) (fun w => common_bad2 a 32 b k 1 w ha hn hc (check_range b k h)) (errTells_err 1)
      · exact tells_full_no a b m x s w hw he .nilIface errS .nilIface _ _ p q is f T.hs _ _ _ _ _ (fault_ok a 32 ha hn hc) (check_ok a 32 ha hn hc) errTells_nil T.hN T.hP T.hS
          (has_any a 32 x hx) (refHas_any a 32 x ha hx) (fun w => in_any a 32 b m ha w) (fun w => refIn_any a 32 b m ha hb w) (less_any a 32 b m) (refLess_any a 32 b m)
          (PrefP.text a 32) (fun w hw => netText_any a 32 w ha hn hw.pow) (fun w => refNetText_any a 32 w ha hn) 3 rfl (fault_form b m hb hm hd)
          hM hU errTells_nil (halves_none a ha) (errTells_err 2) (fun w => common_bad2 a 32 b m 3 w ha hn hc (check_form b m hb hm hd)) (errTells_err 3)
      · exact tells_full_ok a b m x s w hw he .nilIface errS .nilIface _ .nilIface p q is f T.hs _ _ _ _ _ _ _ (fault_ok a 32 ha hn hc) (check_ok a 32 ha hn hc) errTells_nil T.hN T.hP T.hS
          (has_any a 32 x hx) (refHas_any a 32 x ha hx) (fun w => in_any a 32 b m ha w) (fun w => refIn_any a 32 b m ha hb w) (less_any a 32 b m) (refLess_any a 32 b m)
          (PrefP.text a 32) (fun w hw => netText_any a 32 w ha hn hw.pow) (fun w => refNetText_any a 32 w ha hn) (fault_ok b m hb hm hd)
          hM (fun w => commonOf_any a 32 b m w ha hn hb) hU errTells_nil (halves_none a ha) (errTells_err 2) (fun w => common_yes a 32 b m w ha hn hc hb hm hd) errTells_nil
    · obtain ⟨m0, rfl⟩ : ∃ m0, n = m0 + 1 := ⟨n - 1, by omega⟩
      have hlt : m0 + 1 < 32 := by omega
      have e1 : ((m0 + 1 : Nat) : Int) = (m0 : Int) + 1 := by omega
      have g0 : ((m0 : Int) + 1 == 0) = false := by
        have : ¬ ((m0 : Int) + 1 = 0) := by omega
        simpa using this
      have g1 : ((m0 : Int) + 1 == 32) = false := by
        have : ¬ ((m0 : Int) + 1 = 32) := by omega
        simpa using this
      have F1 := fault_ok a (m0 + 1) ha hn hc
      have C1 := check_ok a (m0 + 1) ha hn hc
      have X1 := fun w hw => netText_any a (m0 + 1) w ha hn (Spell.pow hw)
      have X2 := fun w => refNetText_any a (m0 + 1) w ha hn
      have M1 := trim_any a ((m0 : Int) + 1) m0 ha (by omega)
      have P0 := half0_any a (m0 + 1) hlt
      have P1 := half1_any a (m0 + 1) ha hlt
      have V1 := halves_yes a (m0 + 1) ha hlt hc
      have U1 := up_yes a m0 ha (by omega) hc
      rw [e1] at F1 C1 X1 X2 P0 P1 V1 ⊢
      rcases PrefP.chk_cases b k with ⟨h, e⟩ | ⟨m, rfl, hm, hd, e⟩ | ⟨m, rfl, hm, hd, e⟩
      · have O1 := fun w => common_bad2 a (m0 + 1) b k 1 w ha hn hc (check_range b k h)
        rw [e1] at O1
        exact tells_mid_no a m0 b k x s w hw he .nilIface errS .nilIface .nilIface _ p q is f T.hs _ _ _ _ _ _ _ _ _ F1 C1 errTells_nil T.hN T.hP T.hS
          (has_any a _ x hx) (refHas_any a _ x ha hx) (fun w => in_any a _ b k ha w) (fun w => refIn_any a _ b k ha hb w) (less_any a _ b k) (refLess_any a _ b k)
          (PrefP.text a (m0 + 1)) X1 X2 1 rfl (fault_range b k h)
          M1 g0 g1 (by omega) P0 P1 U1 errTells_nil V1 errTells_nil O1 (errTells_err 1)
      · have O1 := fun w => common_bad2 a (m0 + 1) b m 3 w ha hn hc (check_form b m hb hm hd)
        rw [e1] at O1
        exact tells_mid_no a m0 b m x s w hw he .nilIface errS .nilIface .nilIface _ p q is f T.hs _ _ _ _ _ _ _ _ _ F1 C1 errTells_nil T.hN T.hP T.hS
          (has_any a _ x hx) (refHas_any a _ x ha hx) (fun w => in_any a _ b m ha w) (fun w => refIn_any a _ b m ha hb w) (less_any a _ b m) (refLess_any a _ b m)
          (PrefP.text a (m0 + 1)) X1 X2 3 rfl (fault_form b m hb hm hd)
          M1 g0 g1 (by omega) P0 P1 U1 errTells_nil V1 errTells_nil O1 (errTells_err 3)
      · have O1 := fun w => common_yes a (m0 + 1) b m w ha hn hc hb hm hd
        have O2 := fun w => commonOf_any a (m0 + 1) b m w ha hn hb
        rw [e1] at O1 O2
        exact tells_mid_ok a m0 b m x s w hw he .nilIface errS .nilIface .nilIface .nilIface p q is f T.hs _ _ _ _ _ _ _ _ _ _ _ F1 C1 errTells_nil T.hN T.hP T.hS
          (has_any a _ x hx) (refHas_any a _ x ha hx) (fun w => in_any a _ b m ha w) (fun w => refIn_any a _ b m ha hb w) (less_any a _ b m) (refLess_any a _ b m)
          (PrefP.text a (m0 + 1)) X1 X2 (fault_ok b m hb hm hd)
          M1 g0 g1 (by omega) P0 P1 O2 U1 errTells_nil V1 errTells_nil O1 errTells_nil

theorem prefTells_walk (a : Nat) (l : Int) (b : Nat) (k : Int) (x : Nat) (s : ByteArray) (w : World) (ha : a < 4294967296) (hb : b < 4294967296) (hx : x < 4294967296) (hs : s.size ≤ 1099511627776) (hw : Spell w) (he : ErrType w) :
    Calls Tryz.prog 3 #[.agg #[.int .u32 a, .int .i64 l], .agg #[.int .u32 b, .int .i64 k], .int .u32 x, .string s] w fun e w' => e = .returned (.bool true) ∧ Below w.heap.size w w' := by
  rcases PrefP.chk_cases a l with ⟨h, _⟩ | ⟨n, rfl, hn, hc, _⟩ | ⟨n, rfl, hn, hc, _⟩
  · exact prefTells_bad a l b k x s w ha hb hx hs hw he 1 rfl (fault_range a l h) (check_range a l h)
  · exact prefTells_bad a n b k x s w ha hb hx hs hw he 3 rfl (fault_form a n ha hn hc) (check_form a n ha hn hc)
  · exact prefTells_ok a n b k x s w ha hn hc hb hx hs hw he
end Go.Proofs.YtegfjdpibpmdmaaGreatDoor
