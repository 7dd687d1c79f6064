/-
  The law GraphTells at every argument: it tells true; what lay in memory stays. Condition: the library's variable errors.errorType is as its text lays it.
-/
import Derived.Test.YtioackidihalfaaDoorGraphLinked
import Derived.Test.YtioackidihalfaaDoorGraphNear
import Derived.Test.YtioackidihalfaaDoorGraphCut
import Derived.Test.YtioackidihalfaaDoorRefGraph
import Derived.Test.YtioackidihalfaaDoorRefCosts
import Derived.Test.YtioackidihalfaaDoorRefLessLink
import Derived.Test.YtioackidihalfaaDoorSameLinks
import Derived.Test.YtioackidihalfaaDoorErrOne
namespace Go.Proofs.YtioackidihalfaaDoor
open Go.RowKit Go.Lib

/-- Is an error the one told: it is. -/
theorem errIs (k : Int) (w : World) (hg : ErrType w) : Calls Tryd.prog 7 #[errV k, .int .i64 k] w fun r w' => r = .returned (.bool true) ∧ Below w.heap.size w w' := by
  have := sameErr_any k k w hg
  rwa [beq_self_eq_true] at this
theorem errIs1 (w : World) (hg : ErrType w) : Calls Tryd.prog 7 #[.iface 24 (.int .i64 1), .int .i64 1] w fun r w' => r = .returned (.bool true) ∧ Below w.heap.size w w' := errIs 1 w hg
theorem errIs2 (w : World) (hg : ErrType w) : Calls Tryd.prog 7 #[.iface 24 (.int .i64 2), .int .i64 2] w fun r w' => r = .returned (.bool true) ∧ Below w.heap.size w w' := errIs 2 w hg
theorem errIs0 (w : World) (hg : ErrType w) : Calls Tryd.prog 7 #[.nilIface, .int .i64 0] w fun r w' => r = .returned (.bool true) ∧ Below w.heap.size w w' := errIs 0 w hg

set_option maxHeartbeats 2000000 in
set_option maxRecDepth 100000 in
theorem tells_bad (w : World) (n a b : Int) (v : Value) (l : List Lk) (hn : l.length * 24 ≤ 140737488355328) (h : ArgK w v l) (hE : ErrType w) (hg : gBad n l ≠ 0) :
    Calls Tryd.prog 3 #[.int .i64 n, v, .int .i64 a, .int .i64 b] w fun e w' => e = .returned (.bool true) ∧ Below w.heap.size w w' := by
  have HK := Lib.hid h
  have HT := Lib.hid hE
  have hEV : errV (gBad n l) = .iface 24 (.int .i64 (gBad n l)) := if_neg hg
  have HF := Lib.hid (fun w1 (hb : Below w.heap.size w w1) => graphFault_any w1 n v l (by omega) (HK.out.below hb))
  have HC := Lib.hid (fun w1 (hb : Below w.heap.size w w1) => gCheck_any w1 n v l (by omega) (HK.out.below hb))
  have H1 := Lib.hid (fun w1 (hb : Below w.heap.size w w1) => costs_bad w1 n v l (by omega) (HK.out.below hb) hg)
  have H2 := Lib.hid (fun w1 (hb : Below w.heap.size w w1) => near_bad w1 n a v l (by omega) (HK.out.below hb) hg)
  have H3 := Lib.hid (fun w1 (hb : Below w.heap.size w w1) => cut_bad w1 n a b v l (by omega) (HK.out.below hb) hg)
  have HEr := Lib.hid (fun w1 (hb : Below w.heap.size w w1) => errIs (gBad n l) w1 (HT.out.below hb))
  rw [hEV] at HC H1 H2 H3 HEr
  have t0 : (gBad n l == 0) = false := by simpa using hg
  clear h hE hEV hg
  generalize gBad n l = q at HF HC H1 H2 H3 HEr t0
  go_enter Tryd.func3, Tryd.ntmps3
  go_wp2_with fail
  refine (linked_any _).mono ?_
  rintro e w1 ⟨rfl, hb1⟩
  have HB1 := Lib.hid hb1; clear hb1
  go_wp2_with fail
  refine (HF.out w1 HB1.out).mono ?_
  rintro e w2 ⟨rfl, hb2⟩
  have HB2 := Lib.hid (Below.two HB1.out hb2)
  clear hb2 HB1
  go_wp2_with fail
  refine (HC.out w2 HB2.out).mono ?_
  rintro e w3 ⟨rfl, hb3⟩
  have HB3 := Lib.hid (Below.two HB2.out hb3)
  clear hb3 HB2
  go_wp2_with fail
  refine (HEr.out w3 HB3.out).mono ?_
  rintro e w4 ⟨rfl, hb4⟩
  have HB4 := Lib.hid (Below.two HB3.out hb4)
  clear hb4 HB3
  go_wp2_with fail
  refine wp_loop_rounds 1 ?_
  rw [rounds_succ]
  go_wp2_with fail
  refine (H1.out w4 HB4.out).mono ?_
  rintro e w5 ⟨rfl, hb5⟩
  have HB5 := Lib.hid (Below.two HB4.out hb5)
  clear hb5 HB4
  go_wp2_with fail
  refine (HEr.out w5 HB5.out).mono ?_
  rintro e w6 ⟨rfl, hb6⟩
  have HB6 := Lib.hid (Below.two HB5.out hb6)
  clear hb6 HB5
  go_wp2_with fail
  refine (sameRows_none w6 none none 0 0).mono ?_
  rintro e w7 ⟨rfl, hb7⟩
  have HB7 := Lib.hid (Below.two HB6.out hb7)
  clear hb7 HB6
  go_wp2_with fail
  refine (H2.out w7 HB7.out).mono ?_
  rintro e w8 ⟨rfl, hb8⟩
  have HB8 := Lib.hid (Below.two HB7.out hb8)
  clear hb8 HB7
  go_wp2_with fail
  refine (HEr.out w8 HB8.out).mono ?_
  rintro e w9 ⟨rfl, hb9⟩
  have HB9 := Lib.hid (Below.two HB8.out hb9)
  clear hb9 HB8
  go_wp2_with fail
  refine (sameInts_none w9 none none 0 0).mono ?_
  rintro e w10 ⟨rfl, hb10⟩
  have HB10 := Lib.hid (Below.two HB9.out hb10)
  clear hb10 HB9
  go_wp2_with fail
  refine (H3.out w10 HB10.out).mono ?_
  rintro e w11 ⟨rfl, hb11⟩
  have HB11 := Lib.hid (Below.two HB10.out hb11)
  clear hb11 HB10
  go_wp2_with fail
  refine (HEr.out w11 HB11.out).mono ?_
  rintro e w12 ⟨rfl, hb12⟩
  have HB12 := Lib.hid (Below.two HB11.out hb12)
  clear hb12 HB11
  go_wp2_with fail
  refine (sameLinks_none w12 none none 0 0).mono ?_
  rintro e w13 ⟨rfl, hb13⟩
  have HB13 := Lib.hid (Below.two HB12.out hb13)
  clear hb13 HB12
  go_wp2_with fail
  go_ret
  exact ⟨rfl, HB13.out⟩
set_option maxHeartbeats 2000000 in
set_option maxRecDepth 100000 in
theorem tells_low (w : World) (m : Nat) (a b : Int) (v : Value) (l : List Lk) (hn : l.length * 24 ≤ 140737488355328) (h : ArgK w v l) (hE : ErrType w) (hg : gBad m l = 0) (ha : a < 0) :
    Calls Tryd.prog 3 #[.int .i64 m, v, .int .i64 a, .int .i64 b] w fun e w' => e = .returned (.bool true) ∧ Below w.heap.size w w' := by
  have HK := Lib.hid h
  have HT := Lib.hid hE
  have HGB := Lib.hid hg
  have hm := ((gBad_zero _ _).1 hg).1
  have HF := Lib.hid (fun w1 (hb : Below w.heap.size w w1) => graphFault_any w1 m v l (by omega) (HK.out.below hb))
  have HC := Lib.hid (fun w1 (hb : Below w.heap.size w w1) => gCheck_any w1 m v l (by omega) (HK.out.below hb))
  rw [hg] at HF
  rw [hg, show errV 0 = Value.nilIface from rfl] at HC
  obtain ⟨p, c, rfl⟩ := h.form
  clear h hE hg
  go_enter Tryd.func3, Tryd.ntmps3
  go_wp2_with fail
  refine (linked_any _).mono ?_
  rintro e w1 ⟨rfl, hb1⟩
  have HB1 := Lib.hid hb1; clear hb1
  go_wp2_with fail
  refine (HF.out w1 HB1.out).mono ?_
  rintro e w2 ⟨rfl, hb2⟩
  have HB2 := Lib.hid (Below.two HB1.out hb2)
  clear hb2 HB1 HF
  go_wp2_with fail
  refine (HC.out w2 HB2.out).mono ?_
  rintro e w3 ⟨rfl, hb3⟩
  have HB3 := Lib.hid (Below.two HB2.out hb3)
  clear hb3 HB2 HC
  go_wp2_with fail
  refine (errIs0 w3 (HT.out.below HB3.out)).mono ?_
  rintro e w4 ⟨rfl, hb4⟩
  have HB4 := Lib.hid (Below.two HB3.out hb4)
  clear hb4 HB3
  go_wp2_with fail
  refine (costsOf_any w4 m _ l (by omega) (by omega) (HK.out.below HB4.out)).mono ?_
  rintro e w5 ⟨u5, rfl, hO5, hb5⟩
  have HB5 := Lib.hid (Below.two HB4.out hb5)
  have HU := Lib.hid hO5.arg
  clear hb5 HB4 hO5
  go_wp2_with fail
  refine wp_loop_rounds 1 ?_
  rw [rounds_succ]
  by_cases hl : (less l a b).length = l.length
  · go_wp2_with fail
    refine (lessLink_any w5 _ l a b hn (HK.out.below HB5.out)).mono ?_
    rintro e w6 ⟨u4, rfl, hO4, hb6⟩
    have HU' := Lib.hid (HU.out.below hb6)
    have HB6 := Lib.hid (Below.two HB5.out hb6)
    have HL := Lib.hid hO4.arg
    obtain ⟨p4, c4, rfl⟩ := HL.out.form
    clear hb6 HB5 HU hO4
    have HU := HU'
    clear HU'
    rw [hl] at HL ⊢
    clear HL
    go_wp2_with fail
    refine (costs_ok w6 m _ l (by omega) (HK.out.below HB6.out) HGB.out).mono ?_
    rintro e w7 ⟨g1, _, rfl, hG1, hb7⟩
    have HU' := Lib.hid (HU.out.below hb7)
    have HB7 := Lib.hid (Below.two HB6.out hb7)
    have HG := Lib.hid hG1.arg
    clear hb7 HB6 HU hG1
    have HU := HU'
    clear HU'
    go_wp2_with fail
    refine (errIs0 w7 (HT.out.below HB7.out)).mono ?_
    rintro e w8 ⟨rfl, hb8⟩
    have HU' := Lib.hid (HU.out.below hb8)
    have HG' := Lib.hid (HG.out.below hb8)
    have HB8 := Lib.hid (Below.two HB7.out hb8)
    clear hb8 HB7 HU HG
    have HU := HU'
    clear HU'
    have HG := HG'
    clear HG'
    have HS := sameRows_any w8 _ _ _ _ (by rw [rowsF_len]; omega) (fun r hr => by rw [rowsF_row _ _ r hr]; omega) HG.out HU.out
    rw [decide_eq_true rfl] at HS
    have HS := Lib.hid HS
    go_wp2_with fail
    refine (HS.out).mono ?_
    rintro e w9 ⟨rfl, hb9⟩
    have HB9 := Lib.hid (Below.two HB8.out hb9)
    clear hb9 HB8 HS HG HU
    go_wp2_with fail
    refine (near_far w9 m a _ l (by omega) (HK.out.below HB9.out) HGB.out (by omega)).mono ?_
    rintro e w10 ⟨rfl, hb10⟩
    have HB10 := Lib.hid (Below.two HB9.out hb10)
    clear hb10 HB9
    go_wp2_with fail
    refine (errIs1 w10 (HT.out.below HB10.out)).mono ?_
    rintro e w11 ⟨rfl, hb11⟩
    have HB11 := Lib.hid (Below.two HB10.out hb11)
    clear hb11 HB10
    go_wp2_with fail
    refine (sameInts_none w11 none none 0 0).mono ?_
    rintro e w12 ⟨rfl, hb12⟩
    have HB12 := Lib.hid (Below.two HB11.out hb12)
    clear hb12 HB11
    go_wp2_with fail
    refine (cut_no w12 m a b _ l hn (HK.out.below HB12.out) HGB.out hl).mono ?_
    rintro e w13 ⟨rfl, hb13⟩
    have HB13 := Lib.hid (Below.two HB12.out hb13)
    clear hb13 HB12
    go_wp2_with fail
    refine (errIs2 w13 (HT.out.below HB13.out)).mono ?_
    rintro e w14 ⟨rfl, hb14⟩
    have HB14 := Lib.hid (Below.two HB13.out hb14)
    clear hb14 HB13
    go_wp2_with fail
    refine (sameLinks_none w14 none none 0 0).mono ?_
    rintro e w15 ⟨rfl, hb15⟩
    have HB15 := Lib.hid (Below.two HB14.out hb15)
    clear hb15 HB14
    go_wp2_with fail
    go_ret
    exact ⟨rfl, HB15.out⟩
  · go_wp2_with fail
    refine (lessLink_any w5 _ l a b hn (HK.out.below HB5.out)).mono ?_
    rintro e w6 ⟨u4, rfl, hO4, hb6⟩
    have HU' := Lib.hid (HU.out.below hb6)
    have HB6 := Lib.hid (Below.two HB5.out hb6)
    have HL := Lib.hid hO4.arg
    obtain ⟨p4, c4, rfl⟩ := HL.out.form
    clear hb6 HB5 HU hO4
    have HU := HU'
    clear HU'
    have t5 : (((less l a b).length : Int) == (l.length : Int)) = false := by
      have : ¬ ((less l a b).length : Int) = (l.length : Int) := by omega
      simpa using this
    go_wp2_with fail
    refine (costs_ok w6 m _ l (by omega) (HK.out.below HB6.out) HGB.out).mono ?_
    rintro e w7 ⟨g1, _, rfl, hG1, hb7⟩
    have HU' := Lib.hid (HU.out.below hb7)
    have HL' := Lib.hid (HL.out.below hb7)
    have HB7 := Lib.hid (Below.two HB6.out hb7)
    have HG := Lib.hid hG1.arg
    clear hb7 HB6 HU HL hG1 t5
    have HU := HU'
    clear HU'
    have HL := HL'
    clear HL'
    go_wp2_with fail
    refine (errIs0 w7 (HT.out.below HB7.out)).mono ?_
    rintro e w8 ⟨rfl, hb8⟩
    have HU' := Lib.hid (HU.out.below hb8)
    have HL' := Lib.hid (HL.out.below hb8)
    have HG' := Lib.hid (HG.out.below hb8)
    have HB8 := Lib.hid (Below.two HB7.out hb8)
    clear hb8 HB7 HU HL HG
    have HU := HU'
    clear HU'
    have HL := HL'
    clear HL'
    have HG := HG'
    clear HG'
    have HS := sameRows_any w8 _ _ _ _ (by rw [rowsF_len]; omega) (fun r hr => by rw [rowsF_row _ _ r hr]; omega) HG.out HU.out
    rw [decide_eq_true rfl] at HS
    have HS := Lib.hid HS
    go_wp2_with fail
    refine (HS.out).mono ?_
    rintro e w9 ⟨rfl, hb9⟩
    have HL' := Lib.hid (HL.out.below hb9)
    have HB9 := Lib.hid (Below.two HB8.out hb9)
    clear hb9 HB8 HL HS HG HU
    have HL := HL'
    clear HL'
    go_wp2_with fail
    refine (near_far w9 m a _ l (by omega) (HK.out.below HB9.out) HGB.out (by omega)).mono ?_
    rintro e w10 ⟨rfl, hb10⟩
    have HL' := Lib.hid (HL.out.below hb10)
    have HB10 := Lib.hid (Below.two HB9.out hb10)
    clear hb10 HB9 HL
    have HL := HL'
    clear HL'
    go_wp2_with fail
    refine (errIs1 w10 (HT.out.below HB10.out)).mono ?_
    rintro e w11 ⟨rfl, hb11⟩
    have HL' := Lib.hid (HL.out.below hb11)
    have HB11 := Lib.hid (Below.two HB10.out hb11)
    clear hb11 HB10 HL
    have HL := HL'
    clear HL'
    go_wp2_with fail
    refine (sameInts_none w11 none none 0 0).mono ?_
    rintro e w12 ⟨rfl, hb12⟩
    have HL' := Lib.hid (HL.out.below hb12)
    have HB12 := Lib.hid (Below.two HB11.out hb12)
    clear hb12 HB11 HL
    have HL := HL'
    clear HL'
    go_wp2_with fail
    refine (cut_yes w12 m a b _ l hn (HK.out.below HB12.out) HGB.out hl).mono ?_
    rintro e w13 ⟨g3, cap, _, rfl, hR, hb13⟩
    have HL' := Lib.hid (HL.out.below hb13)
    have HB13 := Lib.hid (Below.two HB12.out hb13)
    have HM := Lib.hid (show ArgK w13 (.slice (some ⟨g3, 0, none⟩) (less l a b).length cap) (less l a b) from ⟨_, cap, rfl, Or.inr ⟨g3, 0, rfl, hR.lt, hR.seen _ (Nat.le_refl _) (fun _ _ => rfl)⟩⟩)
    clear hb13 HB12 HL hR
    have HL := HL'
    clear HL'
    go_wp2_with fail
    refine (errIs0 w13 (HT.out.below HB13.out)).mono ?_
    rintro e w14 ⟨rfl, hb14⟩
    have HL' := Lib.hid (HL.out.below hb14)
    have HM' := Lib.hid (HM.out.below hb14)
    have HB14 := Lib.hid (Below.two HB13.out hb14)
    clear hb14 HB13 HL HM
    have HL := HL'
    clear HL'
    have HM := HM'
    clear HM'
    have HS := sameLinks_any w14 _ _ _ _ (Nat.lt_of_le_of_lt (less_len l a b) (by omega)) HM.out HL.out
    rw [decide_eq_true rfl] at HS
    have HS := Lib.hid HS
    go_wp2_with fail
    refine (HS.out).mono ?_
    rintro e w15 ⟨rfl, hb15⟩
    have HB15 := Lib.hid (Below.two HB14.out hb15)
    clear hb15 HB14 HS HM HL
    go_wp2_with fail
    go_ret
    exact ⟨rfl, HB15.out⟩
set_option maxHeartbeats 2000000 in
set_option maxRecDepth 100000 in
theorem tells_high (w : World) (m : Nat) (a b : Int) (v : Value) (l : List Lk) (hn : l.length * 24 ≤ 140737488355328) (h : ArgK w v l) (hE : ErrType w) (hg : gBad m l = 0) (ha : (m : Int) ≤ a) :
    Calls Tryd.prog 3 #[.int .i64 m, v, .int .i64 a, .int .i64 b] w fun e w' => e = .returned (.bool true) ∧ Below w.heap.size w w' := by
  have HK := Lib.hid h
  have HT := Lib.hid hE
  have HGB := Lib.hid hg
  have hm := ((gBad_zero _ _).1 hg).1
  have HF := Lib.hid (fun w1 (hb : Below w.heap.size w w1) => graphFault_any w1 m v l (by omega) (HK.out.below hb))
  have HC := Lib.hid (fun w1 (hb : Below w.heap.size w w1) => gCheck_any w1 m v l (by omega) (HK.out.below hb))
  rw [hg] at HF
  rw [hg, show errV 0 = Value.nilIface from rfl] at HC
  obtain ⟨p, c, rfl⟩ := h.form
  clear h hE hg
  have q1 : ¬ a < 0 := by omega
  go_enter Tryd.func3, Tryd.ntmps3
  go_wp2_with fail
  refine (linked_any _).mono ?_
  rintro e w1 ⟨rfl, hb1⟩
  have HB1 := Lib.hid hb1; clear hb1
  go_wp2_with fail
  refine (HF.out w1 HB1.out).mono ?_
  rintro e w2 ⟨rfl, hb2⟩
  have HB2 := Lib.hid (Below.two HB1.out hb2)
  clear hb2 HB1 HF
  go_wp2_with fail
  refine (HC.out w2 HB2.out).mono ?_
  rintro e w3 ⟨rfl, hb3⟩
  have HB3 := Lib.hid (Below.two HB2.out hb3)
  clear hb3 HB2 HC
  go_wp2_with fail
  refine (errIs0 w3 (HT.out.below HB3.out)).mono ?_
  rintro e w4 ⟨rfl, hb4⟩
  have HB4 := Lib.hid (Below.two HB3.out hb4)
  clear hb4 HB3
  go_wp2_with fail
  refine (costsOf_any w4 m _ l (by omega) (by omega) (HK.out.below HB4.out)).mono ?_
  rintro e w5 ⟨u5, rfl, hO5, hb5⟩
  have HB5 := Lib.hid (Below.two HB4.out hb5)
  have HU := Lib.hid hO5.arg
  clear hb5 HB4 hO5
  go_wp2_with fail
  refine wp_loop_rounds 1 ?_
  rw [rounds_succ]
  by_cases hl : (less l a b).length = l.length
  · go_wp2_with fail
    refine (lessLink_any w5 _ l a b hn (HK.out.below HB5.out)).mono ?_
    rintro e w6 ⟨u4, rfl, hO4, hb6⟩
    have HU' := Lib.hid (HU.out.below hb6)
    have HB6 := Lib.hid (Below.two HB5.out hb6)
    have HL := Lib.hid hO4.arg
    obtain ⟨p4, c4, rfl⟩ := HL.out.form
    clear hb6 HB5 HU hO4
    have HU := HU'
    clear HU'
    rw [hl] at HL ⊢
    clear HL
    go_wp2_with fail
    refine (costs_ok w6 m _ l (by omega) (HK.out.below HB6.out) HGB.out).mono ?_
    rintro e w7 ⟨g1, _, rfl, hG1, hb7⟩
    have HU' := Lib.hid (HU.out.below hb7)
    have HB7 := Lib.hid (Below.two HB6.out hb7)
    have HG := Lib.hid hG1.arg
    clear hb7 HB6 HU hG1
    have HU := HU'
    clear HU'
    go_wp2_with fail
    refine (errIs0 w7 (HT.out.below HB7.out)).mono ?_
    rintro e w8 ⟨rfl, hb8⟩
    have HU' := Lib.hid (HU.out.below hb8)
    have HG' := Lib.hid (HG.out.below hb8)
    have HB8 := Lib.hid (Below.two HB7.out hb8)
    clear hb8 HB7 HU HG
    have HU := HU'
    clear HU'
    have HG := HG'
    clear HG'
    have HS := sameRows_any w8 _ _ _ _ (by rw [rowsF_len]; omega) (fun r hr => by rw [rowsF_row _ _ r hr]; omega) HG.out HU.out
    rw [decide_eq_true rfl] at HS
    have HS := Lib.hid HS
    go_wp2_with fail
    refine (HS.out).mono ?_
    rintro e w9 ⟨rfl, hb9⟩
    have HB9 := Lib.hid (Below.two HB8.out hb9)
    clear hb9 HB8 HS HG HU
    go_wp2_with fail
    refine (near_far w9 m a _ l (by omega) (HK.out.below HB9.out) HGB.out (by omega)).mono ?_
    rintro e w10 ⟨rfl, hb10⟩
    have HB10 := Lib.hid (Below.two HB9.out hb10)
    clear hb10 HB9
    go_wp2_with fail
    refine (errIs1 w10 (HT.out.below HB10.out)).mono ?_
    rintro e w11 ⟨rfl, hb11⟩
    have HB11 := Lib.hid (Below.two HB10.out hb11)
    clear hb11 HB10
    go_wp2_with fail
    refine (sameInts_none w11 none none 0 0).mono ?_
    rintro e w12 ⟨rfl, hb12⟩
    have HB12 := Lib.hid (Below.two HB11.out hb12)
    clear hb12 HB11
    go_wp2_with fail
    refine (cut_no w12 m a b _ l hn (HK.out.below HB12.out) HGB.out hl).mono ?_
    rintro e w13 ⟨rfl, hb13⟩
    have HB13 := Lib.hid (Below.two HB12.out hb13)
    clear hb13 HB12
    go_wp2_with fail
    refine (errIs2 w13 (HT.out.below HB13.out)).mono ?_
    rintro e w14 ⟨rfl, hb14⟩
    have HB14 := Lib.hid (Below.two HB13.out hb14)
    clear hb14 HB13
    go_wp2_with fail
    refine (sameLinks_none w14 none none 0 0).mono ?_
    rintro e w15 ⟨rfl, hb15⟩
    have HB15 := Lib.hid (Below.two HB14.out hb15)
    clear hb15 HB14
    go_wp2_with fail
    go_ret
    exact ⟨rfl, HB15.out⟩
  · go_wp2_with fail
    refine (lessLink_any w5 _ l a b hn (HK.out.below HB5.out)).mono ?_
    rintro e w6 ⟨u4, rfl, hO4, hb6⟩
    have HU' := Lib.hid (HU.out.below hb6)
    have HB6 := Lib.hid (Below.two HB5.out hb6)
    have HL := Lib.hid hO4.arg
    obtain ⟨p4, c4, rfl⟩ := HL.out.form
    clear hb6 HB5 HU hO4
    have HU := HU'
    clear HU'
    have t5 : (((less l a b).length : Int) == (l.length : Int)) = false := by
      have : ¬ ((less l a b).length : Int) = (l.length : Int) := by omega
      simpa using this
    go_wp2_with fail
    refine (costs_ok w6 m _ l (by omega) (HK.out.below HB6.out) HGB.out).mono ?_
    rintro e w7 ⟨g1, _, rfl, hG1, hb7⟩
    have HU' := Lib.hid (HU.out.below hb7)
    have HL' := Lib.hid (HL.out.below hb7)
    have HB7 := Lib.hid (Below.two HB6.out hb7)
    have HG := Lib.hid hG1.arg
    clear hb7 HB6 HU HL hG1 t5
    have HU := HU'
    clear HU'
    have HL := HL'
    clear HL'
    go_wp2_with fail
    refine (errIs0 w7 (HT.out.below HB7.out)).mono ?_
    rintro e w8 ⟨rfl, hb8⟩
    have HU' := Lib.hid (HU.out.below hb8)
    have HL' := Lib.hid (HL.out.below hb8)
    have HG' := Lib.hid (HG.out.below hb8)
    have HB8 := Lib.hid (Below.two HB7.out hb8)
    clear hb8 HB7 HU HL HG
    have HU := HU'
    clear HU'
    have HL := HL'
    clear HL'
    have HG := HG'
    clear HG'
    have HS := sameRows_any w8 _ _ _ _ (by rw [rowsF_len]; omega) (fun r hr => by rw [rowsF_row _ _ r hr]; omega) HG.out HU.out
    rw [decide_eq_true rfl] at HS
    have HS := Lib.hid HS
    go_wp2_with fail
    refine (HS.out).mono ?_
    rintro e w9 ⟨rfl, hb9⟩
    have HL' := Lib.hid (HL.out.below hb9)
    have HB9 := Lib.hid (Below.two HB8.out hb9)
    clear hb9 HB8 HL HS HG HU
    have HL := HL'
    clear HL'
    go_wp2_with fail
    refine (near_far w9 m a _ l (by omega) (HK.out.below HB9.out) HGB.out (by omega)).mono ?_
    rintro e w10 ⟨rfl, hb10⟩
    have HL' := Lib.hid (HL.out.below hb10)
    have HB10 := Lib.hid (Below.two HB9.out hb10)
    clear hb10 HB9 HL
    have HL := HL'
    clear HL'
    go_wp2_with fail
    refine (errIs1 w10 (HT.out.below HB10.out)).mono ?_
    rintro e w11 ⟨rfl, hb11⟩
    have HL' := Lib.hid (HL.out.below hb11)
    have HB11 := Lib.hid (Below.two HB10.out hb11)
    clear hb11 HB10 HL
    have HL := HL'
    clear HL'
    go_wp2_with fail
    refine (sameInts_none w11 none none 0 0).mono ?_
    rintro e w12 ⟨rfl, hb12⟩
    have HL' := Lib.hid (HL.out.below hb12)
    have HB12 := Lib.hid (Below.two HB11.out hb12)
    clear hb12 HB11 HL
    have HL := HL'
    clear HL'
    go_wp2_with fail
    refine (cut_yes w12 m a b _ l hn (HK.out.below HB12.out) HGB.out hl).mono ?_
    rintro e w13 ⟨g3, cap, _, rfl, hR, hb13⟩
    have HL' := Lib.hid (HL.out.below hb13)
    have HB13 := Lib.hid (Below.two HB12.out hb13)
    have HM := Lib.hid (show ArgK w13 (.slice (some ⟨g3, 0, none⟩) (less l a b).length cap) (less l a b) from ⟨_, cap, rfl, Or.inr ⟨g3, 0, rfl, hR.lt, hR.seen _ (Nat.le_refl _) (fun _ _ => rfl)⟩⟩)
    clear hb13 HB12 HL hR
    have HL := HL'
    clear HL'
    go_wp2_with fail
    refine (errIs0 w13 (HT.out.below HB13.out)).mono ?_
    rintro e w14 ⟨rfl, hb14⟩
    have HL' := Lib.hid (HL.out.below hb14)
    have HM' := Lib.hid (HM.out.below hb14)
    have HB14 := Lib.hid (Below.two HB13.out hb14)
    clear hb14 HB13 HL HM
    have HL := HL'
    clear HL'
    have HM := HM'
    clear HM'
    have HS := sameLinks_any w14 _ _ _ _ (Nat.lt_of_le_of_lt (less_len l a b) (by omega)) HM.out HL.out
    rw [decide_eq_true rfl] at HS
    have HS := Lib.hid HS
    go_wp2_with fail
    refine (HS.out).mono ?_
    rintro e w15 ⟨rfl, hb15⟩
    have HB15 := Lib.hid (Below.two HB14.out hb15)
    clear hb15 HB14 HS HM HL
    go_wp2_with fail
    go_ret
    exact ⟨rfl, HB15.out⟩
set_option maxHeartbeats 2000000 in
set_option maxRecDepth 100000 in
theorem tells_node (w : World) (m : Nat) (a : Nat) (b : Int) (v : Value) (l : List Lk) (hn : l.length * 24 ≤ 140737488355328) (h : ArgK w v l) (hE : ErrType w) (hg : gBad m l = 0) (ha : a < m) :
    Calls Tryd.prog 3 #[.int .i64 m, v, .int .i64 a, .int .i64 b] w fun e w' => e = .returned (.bool true) ∧ Below w.heap.size w w' := by
  have HK := Lib.hid h
  have HT := Lib.hid hE
  have HGB := Lib.hid hg
  have hm := ((gBad_zero _ _).1 hg).1
  have HF := Lib.hid (fun w1 (hb : Below w.heap.size w w1) => graphFault_any w1 m v l (by omega) (HK.out.below hb))
  have HC := Lib.hid (fun w1 (hb : Below w.heap.size w w1) => gCheck_any w1 m v l (by omega) (HK.out.below hb))
  rw [hg] at HF
  rw [hg, show errV 0 = Value.nilIface from rfl] at HC
  obtain ⟨p, c, rfl⟩ := h.form
  clear h hE hg
  have q1 : ¬ ((a : Int) < 0) := by omega
  have q2 : ¬ ((m : Int) ≤ (a : Int)) := by omega
  go_enter Tryd.func3, Tryd.ntmps3
  go_wp2_with fail
  refine (linked_any _).mono ?_
  rintro e w1 ⟨rfl, hb1⟩
  have HB1 := Lib.hid hb1; clear hb1
  go_wp2_with fail
  refine (HF.out w1 HB1.out).mono ?_
  rintro e w2 ⟨rfl, hb2⟩
  have HB2 := Lib.hid (Below.two HB1.out hb2)
  clear hb2 HB1 HF
  go_wp2_with fail
  refine (HC.out w2 HB2.out).mono ?_
  rintro e w3 ⟨rfl, hb3⟩
  have HB3 := Lib.hid (Below.two HB2.out hb3)
  clear hb3 HB2 HC
  go_wp2_with fail
  refine (errIs0 w3 (HT.out.below HB3.out)).mono ?_
  rintro e w4 ⟨rfl, hb4⟩
  have HB4 := Lib.hid (Below.two HB3.out hb4)
  clear hb4 HB3
  go_wp2_with fail
  refine (costsOf_any w4 m _ l (by omega) (by omega) (HK.out.below HB4.out)).mono ?_
  rintro e w5 ⟨u5, rfl, hO5, hb5⟩
  have HB5 := Lib.hid (Below.two HB4.out hb5)
  have HU := Lib.hid hO5.arg
  clear hb5 HB4 hO5
  go_wp2_with fail
  rw [decide_eq_false (p := (a : Int) < 0) (by omega), decide_eq_false (p := m ≤ a) (by omega)]
  simp only [Bool.or_self]
  go_loopw [13, 17] (fun u x wr => ∃ (k : Nat), x = .int .i64 k ∧ k ≤ m ∧ Hid (Below w5.heap.size w5 wr) ∧ Hid (OwnI wr w5.heap.size u (nearG l a k))) (fun _ x _ => m - (RowKit.intOf x).toNat)
  case atStart => exact ⟨0, rfl, Nat.zero_le _, Lib.hid (Below.refl _ _), Lib.hid (OwnI.nil _ _)⟩
  case round =>
    obtain ⟨k, rfl, hk, hB, HO⟩ := hrel
    by_cases hkn : k < m
    · by_cases hki : k = a
      · subst hki
        go_wp2_with fail
        go_roundw
        case rel => exact ⟨k + 1, by go_num, by omega, hB, Lib.hid (by rw [nearG, if_neg (fun h => h.1 rfl)]; exact HO.out)⟩
        case measure => simp [RowKit.intOf]; omega
      · have t1 : ((k : Int) != (a : Int)) = true := by
          have : ¬ (k : Int) = a := by omega
          simpa using this
        have hne : (k : Int) ≠ (a : Int) := by omega
        have HCo := Lib.hid (costOf_any wr (.slice p l.length c) l a k (by omega) (HK.out.below (Below.two HB5.out hB.out)))
        by_cases hc : costG l a k < 16
        · have HN : Hid (nearG l a (k + 1) = nearG l a k ++ [(k : Int)]) := Lib.hid (by rw [nearG, if_pos ⟨hne, hc⟩])
          have hlen := nearG_len l a k
          generalize costG l (a : Int) (k : Int) = z at HCo hc
          clear hne
          have HKk := Lib.hid (HO.out.keep ((Below.refl wr.heap.size wr).alloc (Nat.le_refl _) (.cells #[.int .i64 k] 3)))
          go_wp2_with fail
          refine HCo.out.mono ?_
          rintro e w6 ⟨rfl, rfl⟩
          go_wp2_with (at_builtin; refine wpl_append_oneI rfl _ _ rfl w5.heap.size _ (nearG l a k) (k : Int) wr.heap.size 1 rfl rfl HKk.out (by simp) (by omega) (Nat.le_trans hB.out.size (by simp)) ?_; intro v' w6 hO6 hg6 _)
          go_roundw
          case rel => exact ⟨k + 1, by go_num, by omega, Lib.hid ((hB.out.alloc hB.out.size _).grown hg6 (Nat.le_trans hB.out.size (by simp)) HO.out.past), Lib.hid (HN.out ▸ hO6)⟩
          case measure => simp [RowKit.intOf]; omega
        · have HN : Hid (nearG l a (k + 1) = nearG l a k) := Lib.hid (by rw [nearG, if_neg (fun h => hc h.2)])
          generalize costG l (a : Int) (k : Int) = z at HCo hc
          clear hne
          go_wp2_with fail
          refine HCo.out.mono ?_
          rintro e w6 ⟨rfl, rfl⟩
          go_wp2_with fail
          go_roundw
          case rel => exact ⟨k + 1, by go_num, by omega, hB, Lib.hid (HN.out ▸ HO.out)⟩
          case measure => simp [RowKit.intOf]; omega
    · have e : m = k := by omega
      have HV0 := Lib.hid (show ArgI wr _ (nearG l a m) by rw [e]; exact HO.out.arg)
      have HU6 := Lib.hid (HU.out.below hB.out)
      have HB6 := Lib.hid (Below.two HB5.out hB.out)
      clear HO hB HB5 HU
      have HU := HU6
      have HV := HV0
      clear HU6 HV0
      subst e
      by_cases hl : (less l a b).length = l.length
      · go_wp2_with fail
        refine (lessLink_any wr _ l a b hn (HK.out.below HB6.out)).mono ?_
        rintro e w7 ⟨u4, rfl, hO4, hb7⟩
        have HU' := Lib.hid (HU.out.below hb7)
        have HV' := Lib.hid (HV.out.below hb7)
        have HB7 := Lib.hid (Below.two HB6.out hb7)
        have HL := Lib.hid hO4.arg
        obtain ⟨p4, c4, rfl⟩ := HL.out.form
        clear hb7 HB6 HU HV hO4
        have HU := HU'
        clear HU'
        have HV := HV'
        clear HV'
        rw [hl] at HL ⊢
        clear HL
        go_wp2_with fail
        refine (costs_ok w7 m _ l (by omega) (HK.out.below HB7.out) HGB.out).mono ?_
        rintro e w8 ⟨g1, _, rfl, hG1, hb8⟩
        have HU' := Lib.hid (HU.out.below hb8)
        have HV' := Lib.hid (HV.out.below hb8)
        have HB8 := Lib.hid (Below.two HB7.out hb8)
        have HG := Lib.hid hG1.arg
        clear hb8 HB7 HU HV hG1
        have HU := HU'
        clear HU'
        have HV := HV'
        clear HV'
        go_wp2_with fail
        refine (errIs0 w8 (HT.out.below HB8.out)).mono ?_
        rintro e w9 ⟨rfl, hb9⟩
        have HU' := Lib.hid (HU.out.below hb9)
        have HV' := Lib.hid (HV.out.below hb9)
        have HG' := Lib.hid (HG.out.below hb9)
        have HB9 := Lib.hid (Below.two HB8.out hb9)
        clear hb9 HB8 HU HV HG
        have HU := HU'
        clear HU'
        have HV := HV'
        clear HV'
        have HG := HG'
        clear HG'
        have HS := sameRows_any w9 _ _ _ _ (by rw [rowsF_len]; omega) (fun r hr => by rw [rowsF_row _ _ r hr]; omega) HG.out HU.out
        rw [decide_eq_true rfl] at HS
        have HS := Lib.hid HS
        go_wp2_with fail
        refine (HS.out).mono ?_
        rintro e w10 ⟨rfl, hb10⟩
        have HV' := Lib.hid (HV.out.below hb10)
        have HB10 := Lib.hid (Below.two HB9.out hb10)
        clear hb10 HB9 HV HS HG HU
        have HV := HV'
        clear HV'
        go_wp2_with fail
        refine (near_ok w10 m a _ l (by omega) (HK.out.below HB10.out) HGB.out ha).mono ?_
        rintro e w11 ⟨u6, rfl, hO6, hb11⟩
        have HV' := Lib.hid (HV.out.below hb11)
        have HB11 := Lib.hid (Below.two HB10.out hb11)
        have HN := Lib.hid hO6.arg
        clear hb11 HB10 HV hO6
        have HV := HV'
        clear HV'
        go_wp2_with fail
        refine (errIs0 w11 (HT.out.below HB11.out)).mono ?_
        rintro e w12 ⟨rfl, hb12⟩
        have HV' := Lib.hid (HV.out.below hb12)
        have HN' := Lib.hid (HN.out.below hb12)
        have HB12 := Lib.hid (Below.two HB11.out hb12)
        clear hb12 HB11 HV HN
        have HV := HV'
        clear HV'
        have HN := HN'
        clear HN'
        have HS := sameInts_any w12 _ _ _ _ (Nat.lt_of_le_of_lt (nearG_len l a m) (by omega)) HN.out HV.out
        rw [decide_eq_true rfl] at HS
        have HS := Lib.hid HS
        go_wp2_with fail
        refine (HS.out).mono ?_
        rintro e w13 ⟨rfl, hb13⟩
        have HB13 := Lib.hid (Below.two HB12.out hb13)
        clear hb13 HB12 HS HN HV
        go_wp2_with fail
        refine (cut_no w13 m a b _ l hn (HK.out.below HB13.out) HGB.out hl).mono ?_
        rintro e w14 ⟨rfl, hb14⟩
        have HB14 := Lib.hid (Below.two HB13.out hb14)
        clear hb14 HB13
        go_wp2_with fail
        refine (errIs2 w14 (HT.out.below HB14.out)).mono ?_
        rintro e w15 ⟨rfl, hb15⟩
        have HB15 := Lib.hid (Below.two HB14.out hb15)
        clear hb15 HB14
        go_wp2_with fail
        refine (sameLinks_none w15 none none 0 0).mono ?_
        rintro e w16 ⟨rfl, hb16⟩
        have HB16 := Lib.hid (Below.two HB15.out hb16)
        clear hb16 HB15
        go_wp2_with fail
        go_ret
        exact ⟨rfl, HB16.out⟩
      · go_wp2_with fail
        refine (lessLink_any wr _ l a b hn (HK.out.below HB6.out)).mono ?_
        rintro e w7 ⟨u4, rfl, hO4, hb7⟩
        have HU' := Lib.hid (HU.out.below hb7)
        have HV' := Lib.hid (HV.out.below hb7)
        have HB7 := Lib.hid (Below.two HB6.out hb7)
        have HL := Lib.hid hO4.arg
        obtain ⟨p4, c4, rfl⟩ := HL.out.form
        clear hb7 HB6 HU HV hO4
        have HU := HU'
        clear HU'
        have HV := HV'
        clear HV'
        have t5 : (((less l a b).length : Int) == (l.length : Int)) = false := by
          have : ¬ ((less l a b).length : Int) = (l.length : Int) := by omega
          simpa using this
        go_wp2_with fail
        refine (costs_ok w7 m _ l (by omega) (HK.out.below HB7.out) HGB.out).mono ?_
        rintro e w8 ⟨g1, _, rfl, hG1, hb8⟩
        have HU' := Lib.hid (HU.out.below hb8)
        have HV' := Lib.hid (HV.out.below hb8)
        have HL' := Lib.hid (HL.out.below hb8)
        have HB8 := Lib.hid (Below.two HB7.out hb8)
        have HG := Lib.hid hG1.arg
        clear hb8 HB7 HU HV HL hG1 t5
        have HU := HU'
        clear HU'
        have HV := HV'
        clear HV'
        have HL := HL'
        clear HL'
        go_wp2_with fail
        refine (errIs0 w8 (HT.out.below HB8.out)).mono ?_
        rintro e w9 ⟨rfl, hb9⟩
        have HU' := Lib.hid (HU.out.below hb9)
        have HV' := Lib.hid (HV.out.below hb9)
        have HL' := Lib.hid (HL.out.below hb9)
        have HG' := Lib.hid (HG.out.below hb9)
        have HB9 := Lib.hid (Below.two HB8.out hb9)
        clear hb9 HB8 HU HV HL HG
        have HU := HU'
        clear HU'
        have HV := HV'
        clear HV'
        have HL := HL'
        clear HL'
        have HG := HG'
        clear HG'
        have HS := sameRows_any w9 _ _ _ _ (by rw [rowsF_len]; omega) (fun r hr => by rw [rowsF_row _ _ r hr]; omega) HG.out HU.out
        rw [decide_eq_true rfl] at HS
        have HS := Lib.hid HS
        go_wp2_with fail
        refine (HS.out).mono ?_
        rintro e w10 ⟨rfl, hb10⟩
        have HV' := Lib.hid (HV.out.below hb10)
        have HL' := Lib.hid (HL.out.below hb10)
        have HB10 := Lib.hid (Below.two HB9.out hb10)
        clear hb10 HB9 HV HL HS HG HU
        have HV := HV'
        clear HV'
        have HL := HL'
        clear HL'
        go_wp2_with fail
        refine (near_ok w10 m a _ l (by omega) (HK.out.below HB10.out) HGB.out ha).mono ?_
        rintro e w11 ⟨u6, rfl, hO6, hb11⟩
        have HV' := Lib.hid (HV.out.below hb11)
        have HL' := Lib.hid (HL.out.below hb11)
        have HB11 := Lib.hid (Below.two HB10.out hb11)
        have HN := Lib.hid hO6.arg
        clear hb11 HB10 HV HL hO6
        have HV := HV'
        clear HV'
        have HL := HL'
        clear HL'
        go_wp2_with fail
        refine (errIs0 w11 (HT.out.below HB11.out)).mono ?_
        rintro e w12 ⟨rfl, hb12⟩
        have HV' := Lib.hid (HV.out.below hb12)
        have HL' := Lib.hid (HL.out.below hb12)
        have HN' := Lib.hid (HN.out.below hb12)
        have HB12 := Lib.hid (Below.two HB11.out hb12)
        clear hb12 HB11 HV HL HN
        have HV := HV'
        clear HV'
        have HL := HL'
        clear HL'
        have HN := HN'
        clear HN'
        have HS := sameInts_any w12 _ _ _ _ (Nat.lt_of_le_of_lt (nearG_len l a m) (by omega)) HN.out HV.out
        rw [decide_eq_true rfl] at HS
        have HS := Lib.hid HS
        go_wp2_with fail
        refine (HS.out).mono ?_
        rintro e w13 ⟨rfl, hb13⟩
        have HL' := Lib.hid (HL.out.below hb13)
        have HB13 := Lib.hid (Below.two HB12.out hb13)
        clear hb13 HB12 HL HS HN HV
        have HL := HL'
        clear HL'
        go_wp2_with fail
        refine (cut_yes w13 m a b _ l hn (HK.out.below HB13.out) HGB.out hl).mono ?_
        rintro e w14 ⟨g3, cap, _, rfl, hR, hb14⟩
        have HL' := Lib.hid (HL.out.below hb14)
        have HB14 := Lib.hid (Below.two HB13.out hb14)
        have HM := Lib.hid (show ArgK w14 (.slice (some ⟨g3, 0, none⟩) (less l a b).length cap) (less l a b) from ⟨_, cap, rfl, Or.inr ⟨g3, 0, rfl, hR.lt, hR.seen _ (Nat.le_refl _) (fun _ _ => rfl)⟩⟩)
        clear hb14 HB13 HL hR
        have HL := HL'
        clear HL'
        go_wp2_with fail
        refine (errIs0 w14 (HT.out.below HB14.out)).mono ?_
        rintro e w15 ⟨rfl, hb15⟩
        have HL' := Lib.hid (HL.out.below hb15)
        have HM' := Lib.hid (HM.out.below hb15)
        have HB15 := Lib.hid (Below.two HB14.out hb15)
        clear hb15 HB14 HL HM
        have HL := HL'
        clear HL'
        have HM := HM'
        clear HM'
        have HS := sameLinks_any w15 _ _ _ _ (Nat.lt_of_le_of_lt (less_len l a b) (by omega)) HM.out HL.out
        rw [decide_eq_true rfl] at HS
        have HS := Lib.hid HS
        go_wp2_with fail
        refine (HS.out).mono ?_
        rintro e w16 ⟨rfl, hb16⟩
        have HB16 := Lib.hid (Below.two HB15.out hb16)
        clear hb16 HB15 HS HM HL
        go_wp2_with fail
        go_ret
        exact ⟨rfl, HB16.out⟩
/-- GraphTells at every argument. -/
theorem graphTells_walk (w : World) (n : Int) (v : Value) (a b : Int) (l : List Lk) (hn : l.length * 24 ≤ 140737488355328) (h : ArgK w v l) (hE : ErrType w) :
    Calls Tryd.prog 3 #[.int .i64 n, v, .int .i64 a, .int .i64 b] w fun e w' => e = .returned (.bool true) ∧ Below w.heap.size w w' := by
  by_cases hg : gBad n l = 0
  · have h8 := ((gBad_zero _ _).1 hg).1
    have hm : n = ((n.toNat : Nat) : Int) := by omega
    rw [hm] at hg ⊢
    by_cases h1 : a < 0
    · exact tells_low w n.toNat a b v l hn h hE hg h1
    · by_cases h2 : ((n.toNat : Nat) : Int) ≤ a
      · exact tells_high w n.toNat a b v l hn h hE hg h2
      · have ha : a = ((a.toNat : Nat) : Int) := by omega
        rw [ha]
        exact tells_node w n.toNat a.toNat b v l hn h hE hg (by omega)
  · exact tells_bad w n a b v l hn h hE hg
end Go.Proofs.YtioackidihalfaaDoor
