/-
  THE LAW WireTells, walked: at every message and every list of bytes it returns true; what lay in memory stays.
-/
import Derived.Test.YtlgkjbkbdmneaaaDoorWired
import Derived.Test.YtlgkjbkbdmneaaaDoorWireDec
import Derived.Test.YtlgkjbkbdmneaaaDoorWireEncU
import Derived.Test.YtlgkjbkbdmneaaaDoorSameMsg
import Derived.Test.YtlgkjbkbdmneaaaDoorErrOne
import Derived.Test.YtlgkjbkbdmneaaaDoorRefMsg
import Derived.Test.YtlgkjbkbdmneaaaDoorRefBytes
import Derived.Test.YtlgkjbkbdmneaaaDoorRefMsgOf
namespace Go.Proofs.YtlgkjbkbdmneaaaDoor
open Go.RowKit Go.Lib

set_option maxHeartbeats 1000000 in
set_option maxRecDepth 100000 in
theorem wireTells_walk (w : World) (ask : Bool) (v vb : Value) (l : List En) (bl : List Nat) (hln : l.length < 4611686018427387904) (hbn : bl.length < 4611686018427387904) (hE : ArgE w v l) (hB : ArgB w vb bl) (hok : ∀ e ∈ l, e.Fits) (hy : Byt bl) (hEnt : EntAll) (hT : ErrType w) :
    Calls Tryd.prog 3 #[.agg #[.bool ask, v], vb] w fun x w' => x = .returned (.bool true) ∧ Below w.heap.size w w' := by
  have HEA := Lib.hid hE; have HBA := Lib.hid hB; have HK := Lib.hid hok; have HY := Lib.hid hy; have HET := Lib.hid hT; have HEN := Lib.hid hEnt
  obtain ⟨p, c, hv, hc, -⟩ := hE
  clear hok hy hT hB hEnt
  subst hv
  have HM0 := Lib.hid (Box.new w (.bool ask) (.slice p l.length c) 24)
  have HT0 := Lib.hid ((Below.refl w.heap.size w).alloc (Nat.le_refl _) (.cells #[.bool ask, .slice p l.length c] 24))
  have HW := Lib.hid (wired_any (w.alloc (.cells #[.bool ask, .slice p l.length c] 24)))
  go_enter Tryd.func3, Tryd.ntmps3
  go_wp2_with fail
  refine HW.out.mono ?_
  rintro x w1 ⟨rfl, b1⟩
  have HM1 := Lib.hid (HM0.out.kept b1)
  have HT1 := Lib.hid (Below.two HT0.out b1)
  obtain ⟨_, m0, m1, _, _⟩ := HM1.out
  have HF := Lib.hid (msgFault_any w1 ask (.slice p l.length c) l hln (HEA.out.below HT1.out) HK.out)
  clear b1 HW HM0 HT0
  obtain ⟨k0, hk0⟩ : ∃ k, WireP.chkM l = k := ⟨_, rfl⟩
  rw [hk0] at HF
  have HK0 := Lib.hid hk0
  clear hk0
  go_wp2_with fail
  refine HF.out.mono ?_
  rintro x w2 ⟨rfl, b2⟩
  have HM2 := Lib.hid (HM1.out.kept b2)
  have HT2 := Lib.hid (Below.two HT1.out b2)
  clear m0 m1 b2 HF HM1 HT1
  obtain ⟨_, m0, m1, _, _⟩ := HM2.out
  have HC := Lib.hid (wireCheck_any w2 ask (.slice p l.length c) l hln (HEA.out.below HT2.out) HK.out)
  rw [HK0.out] at HC
  go_wp2_with fail
  refine HC.out.mono ?_
  rintro x w3 ⟨rfl, b3⟩
  have HM3 := Lib.hid (HM2.out.kept b3)
  have HT3 := Lib.hid (Below.two HT2.out b3)
  clear m0 m1 b3 HC HM2 HT2
  have HS := Lib.hid (sameErr_any k0 k0 w3 (HET.out.below HT3.out))
  rw [show (k0 == k0) = true by simp] at HS
  go_wp2_with fail
  refine HS.out.mono ?_
  rintro x w4 ⟨rfl, b4⟩
  have HM4 := Lib.hid (HM3.out.kept b4)
  have HT4 := Lib.hid (Below.two HT3.out b4)
  clear b4 HS HM3 HT3
  obtain ⟨_, m0, m1, _, _⟩ := HM4.out
  by_cases hg : k0 = 0
  · subst hg
    have HG := Lib.hid ((GoodM.iff l HK.out).1 HK0.out)
    have HBO := Lib.hid (bytesOf_any w4 ask (.slice p l.length c) l (HEA.out.below HT4.out) HG.out)
    go_wp2_with fail
    refine HBO.out.mono ?_
    rintro x w5 ⟨v5, rfl, o5, b5⟩
    have HO5 : Hid (OwnB w5 w4.heap.size v5 (encR ask l)) := Lib.hid (by rw [encR, if_pos HK0.out]; exact o5)
    have HM5 := Lib.hid (HM4.out.kept b5)
    have HT5 := Lib.hid (Below.two HT4.out b5)
    clear m0 m1 b5 o5 HBO HM4 HT4 HG
    obtain ⟨_, m0, m1, _, _⟩ := HM5.out
    have HE := Lib.hid (encode_u _ ask (.slice p l.length c) l hln (HEA.out.below HT5.out) HK.out)
    rw [HK0.out] at HE
    go_wp2_with fail
    refine HE.out.mono ?_
    rintro x w6 ⟨v6, rfl, o6, b6⟩
    have HO6 := Lib.hid (HO5.out.keep b6); have HP6 := Lib.hid o6
    have HT6 := Lib.hid (Below.two HT5.out b6)
    clear m0 m1 b6 o6 HE HM5 HT5 HO5
    have HS := Lib.hid (sameErr_any 0 0 w6 (HET.out.below HT6.out))
    rw [show ((0 : Int) == 0) = true by rfl] at HS
    go_wp2_with fail
    refine HS.out.mono ?_
    rintro x w7 ⟨rfl, b7⟩
    have HO7 := Lib.hid (HO6.out.keep b7); have HP7 := Lib.hid (HP6.out.keep b7)
    have HT7 := Lib.hid (Below.two HT6.out b7)
    clear b7 HS HO6 HP6 HT6
    have HS := Lib.hid (sameBytes_any w7 v6 v5 (encR ask l) (encR ask l) (by have := encR_len ask l HK.out; omega) HP7.out.arg HO7.out.arg)
    rw [decide_eq_true (show encR ask l = encR ask l from rfl)] at HS
    go_wp2_with fail
    refine HS.out.mono ?_
    rintro x w8 ⟨rfl, b8⟩
    have HT8 := Lib.hid (Below.two HT7.out b8)
    clear b8 HS HO7 HP7 HT7
    have HD := Lib.hid (msgOf_any w8 vb bl hbn HY.out (HBA.out.below HT8.out) HEN.out)
    go_wp2_with fail
    refine HD.out.mono ?_
    rintro x w9 ⟨ask9, v9, l9, k9, rfl, dec9, o9, b9⟩
    have HD9 := Lib.hid dec9
    obtain ⟨p9, c9, hv9, -, -⟩ := o9.arg
    subst hv9
    have B10 := (Below.refl _ w9).alloc (Nat.le_refl _) (.cells #[.bool ask9, .slice p9 l9.length c9] 24)
    have HN10 := Lib.hid (Box.new w9 (.bool ask9) (.slice p9 l9.length c9) 24)
    have HT9 := Lib.hid (Below.two HT8.out b9)
    have HT10 := Lib.hid (Below.two HT9.out B10)
    have HO10 := Lib.hid (o9.keep B10)
    clear b9 o9 B10 HD HT8
    by_cases hk9 : k9 = 0
    · subst hk9
      obtain ⟨_, n0, n1, _, _⟩ := HN10.out
      have HDD := Lib.hid (decode_any _ vb bl hbn HY.out (HBA.out.below HT10.out))
      go_wp2_with fail
      refine HDD.out.mono ?_
      rintro x w11 ⟨ask11, v11, l11, k11, rfl, dec11, o11, b11⟩
      obtain ⟨hk11, rfl, rfl⟩ := dec11.only HD9.out
      subst hk11
      obtain ⟨p11, c11, hv11, -, -⟩ := o11.arg
      subst hv11
      have B12 := (Below.refl _ w11).alloc (Nat.le_refl _) (.cells #[.bool ask11, .slice p11 l11.length c11] 24)
      have HX12 := Lib.hid (Box.new w11 (.bool ask11) (.slice p11 l11.length c11) 24)
      have HN12 := Lib.hid ((HN10.out.kept b11).kept B12)
      have HT12 := Lib.hid (Below.two (Below.two HT10.out b11) B12)
      have HO12 := Lib.hid ((HO10.out.keep b11).keep B12)
      have HP12 := Lib.hid (o11.keep B12)
      clear b11 o11 B12 dec11 HDD HN10 HT10 HO10 n0 n1
      have HS := Lib.hid (sameErr_any 0 0 _ (HET.out.below HT12.out))
      rw [show ((0 : Int) == 0) = true by rfl] at HS
      go_wp2_with fail
      refine HS.out.mono ?_
      rintro x w13 ⟨rfl, b13⟩
      have HX13 := Lib.hid (HX12.out.kept b13); have HN13 := Lib.hid (HN12.out.kept b13); have HT13 := Lib.hid (Below.two HT12.out b13); have HO13 := Lib.hid (HO12.out.keep b13); have HP13 := Lib.hid (HP12.out.keep b13)
      clear b13 HS HX12 HN12 HT12 HO12 HP12
      obtain ⟨_, n0, n1, _, _⟩ := HN13.out
      obtain ⟨_, x0, x1, _, _⟩ := HX13.out
      have HMM := Lib.hid (sameMsg_any w13 ask11 ask11 (.slice p11 l11.length c11) (.slice p9 l11.length c9) l11 l11 (by have := HD9.out.fits.1; omega) HP13.out.arg HO13.out.arg)
      rw [decide_eq_true (show l11 = l11 from rfl), show (true && (ask11 == ask11)) = true by cases ask11 <;> rfl] at HMM
      go_wp2_with fail
      refine HMM.out.mono ?_
      rintro x w14 ⟨rfl, b14⟩
      have HT14 := Lib.hid (Below.two HT13.out b14)
      clear b14 HMM n0 n1 x0 x1
      go_wp2_with fail
      go_ret
      exact ⟨rfl, HT14.out⟩
    · have hk9' : (k9 == 0) = false := by simpa using hk9
      have hz9 : l9 = [] ∧ ask9 = false := by
        rcases HD9.out with ⟨h, _⟩ | ⟨_, h1, h2, _⟩ | ⟨_, h1, h2, _⟩
        · exact absurd h hk9
        · exact ⟨h2, h1⟩
        · exact ⟨h2, h1⟩
      obtain ⟨_, n0, n1, e0, e1⟩ := HN10.out
      have HN10' := Lib.hid (Box.new w9 (.bool false) (.slice none 0 0) 24)
      have HT10' := Lib.hid (Below.two HT9.out ((Below.refl _ w9).alloc (Nat.le_refl _) (.cells #[.bool false, .slice none 0 0] 24)))
      have HDD := Lib.hid (decode_any _ vb bl hbn HY.out (HBA.out.below HT10'.out))
      obtain ⟨hl9, ha9⟩ := hz9
      have HL9 := Lib.hid hl9; have HA9 := Lib.hid ha9
      clear hl9 ha9 hk9
      go_wp2_with fail
      refine HDD.out.mono ?_
      rintro x w11 ⟨ask11, v11, l11, k11, rfl, dec11, o11, b11⟩
      obtain ⟨rfl, rfl, rfl⟩ := dec11.only HD9.out
      obtain ⟨p11, c11, hv11, -, -⟩ := o11.arg
      subst hv11
      have B12 := (Below.refl _ w11).alloc (Nat.le_refl _) (.cells #[.bool ask11, .slice p11 l11.length c11] 24)
      have HX12 := Lib.hid (Box.new w11 (.bool ask11) (.slice p11 l11.length c11) 24)
      have HN12 := Lib.hid ((HN10'.out.kept b11).kept B12)
      have HT12 := Lib.hid (Below.two (Below.two HT10'.out b11) B12)
      have HP12 := Lib.hid (o11.keep B12)
      clear b11 o11 B12 dec11 HDD HN10 HN10' HT10 HT10' HO10 n0 n1 e0 e1
      have HS := Lib.hid (sameErr_any k11 k11 _ (HET.out.below HT12.out))
      rw [show (k11 == k11) = true by simp] at HS
      go_wp2_with fail
      refine HS.out.mono ?_
      rintro x w13 ⟨rfl, b13⟩
      have HX13 := Lib.hid (HX12.out.kept b13); have HN13 := Lib.hid (HN12.out.kept b13); have HT13 := Lib.hid (Below.two HT12.out b13); have HP13 := Lib.hid (HP12.out.keep b13)
      clear b13 HS HX12 HN12 HT12 HP12
      obtain ⟨_, n0, n1, _, _⟩ := HN13.out
      obtain ⟨_, x0, x1, _, _⟩ := HX13.out
      have HMM := Lib.hid (sameMsg_any w13 ask11 false (.slice p11 l11.length c11) (.slice none 0 0) l11 [] (by have := HL9.out; rw [this]; decide) HP13.out.arg (ArgE.nil w13))
      rw [show (decide (l11 = []) && (ask11 == false)) = true by rw [HL9.out, HA9.out]; rfl] at HMM
      go_wp2_with fail
      refine HMM.out.mono ?_
      rintro x w14 ⟨rfl, b14⟩
      have HT14 := Lib.hid (Below.two HT13.out b14)
      clear b14 HMM n0 n1 x0 x1
      go_wp2_with fail
      go_ret
      exact ⟨rfl, HT14.out⟩
  · have hg' : (k0 == 0) = false := by simpa using hg
    have HO5 : Hid (OwnB w4 w4.heap.size (.slice none 0 0) (encR ask l)) := Lib.hid (by rw [encR, if_neg (by rw [HK0.out]; exact hg)]; exact OwnB.nil _ _)
    have HM5 := HM4; have HT5 := HT4
    clear hg HM4 HT4 m0 m1
    obtain ⟨_, m0, m1, _, _⟩ := HM5.out
    have HE := Lib.hid (encode_u _ ask (.slice p l.length c) l hln (HEA.out.below HT5.out) HK.out)
    rw [HK0.out] at HE
    go_wp2_with fail
    refine HE.out.mono ?_
    rintro x w6 ⟨v6, rfl, o6, b6⟩
    have HO6 := Lib.hid (HO5.out.keep b6); have HP6 := Lib.hid o6
    have HT6 := Lib.hid (Below.two HT5.out b6)
    clear m0 m1 b6 o6 HE HM5 HT5 HO5
    have HS := Lib.hid (sameErr_any k0 k0 w6 (HET.out.below HT6.out))
    rw [show (k0 == k0) = true by simp] at HS
    go_wp2_with fail
    refine HS.out.mono ?_
    rintro x w7 ⟨rfl, b7⟩
    have HO7 := Lib.hid (HO6.out.keep b7); have HP7 := Lib.hid (HP6.out.keep b7)
    have HT7 := Lib.hid (Below.two HT6.out b7)
    clear b7 HS HO6 HP6 HT6
    have HS := Lib.hid (sameBytes_any w7 v6 (.slice none 0 0) (encR ask l) (encR ask l) (by have := encR_len ask l HK.out; omega) HP7.out.arg HO7.out.arg)
    rw [decide_eq_true (show encR ask l = encR ask l from rfl)] at HS
    go_wp2_with fail
    refine HS.out.mono ?_
    rintro x w8 ⟨rfl, b8⟩
    have HT8 := Lib.hid (Below.two HT7.out b8)
    clear b8 HS HO7 HP7 HT7
    have HD := Lib.hid (msgOf_any w8 vb bl hbn HY.out (HBA.out.below HT8.out) HEN.out)
    go_wp2_with fail
    refine HD.out.mono ?_
    rintro x w9 ⟨ask9, v9, l9, k9, rfl, dec9, o9, b9⟩
    have HD9 := Lib.hid dec9
    obtain ⟨p9, c9, hv9, -, -⟩ := o9.arg
    subst hv9
    have B10 := (Below.refl _ w9).alloc (Nat.le_refl _) (.cells #[.bool ask9, .slice p9 l9.length c9] 24)
    have HN10 := Lib.hid (Box.new w9 (.bool ask9) (.slice p9 l9.length c9) 24)
    have HT9 := Lib.hid (Below.two HT8.out b9)
    have HT10 := Lib.hid (Below.two HT9.out B10)
    have HO10 := Lib.hid (o9.keep B10)
    clear b9 o9 B10 HD HT8
    by_cases hk9 : k9 = 0
    · subst hk9
      obtain ⟨_, n0, n1, _, _⟩ := HN10.out
      have HDD := Lib.hid (decode_any _ vb bl hbn HY.out (HBA.out.below HT10.out))
      go_wp2_with fail
      refine HDD.out.mono ?_
      rintro x w11 ⟨ask11, v11, l11, k11, rfl, dec11, o11, b11⟩
      obtain ⟨hk11, rfl, rfl⟩ := dec11.only HD9.out
      subst hk11
      obtain ⟨p11, c11, hv11, -, -⟩ := o11.arg
      subst hv11
      have B12 := (Below.refl _ w11).alloc (Nat.le_refl _) (.cells #[.bool ask11, .slice p11 l11.length c11] 24)
      have HX12 := Lib.hid (Box.new w11 (.bool ask11) (.slice p11 l11.length c11) 24)
      have HN12 := Lib.hid ((HN10.out.kept b11).kept B12)
      have HT12 := Lib.hid (Below.two (Below.two HT10.out b11) B12)
      have HO12 := Lib.hid ((HO10.out.keep b11).keep B12)
      have HP12 := Lib.hid (o11.keep B12)
      clear b11 o11 B12 dec11 HDD HN10 HT10 HO10 n0 n1
      have HS := Lib.hid (sameErr_any 0 0 _ (HET.out.below HT12.out))
      rw [show ((0 : Int) == 0) = true by rfl] at HS
      go_wp2_with fail
      refine HS.out.mono ?_
      rintro x w13 ⟨rfl, b13⟩
      have HX13 := Lib.hid (HX12.out.kept b13); have HN13 := Lib.hid (HN12.out.kept b13); have HT13 := Lib.hid (Below.two HT12.out b13); have HO13 := Lib.hid (HO12.out.keep b13); have HP13 := Lib.hid (HP12.out.keep b13)
      clear b13 HS HX12 HN12 HT12 HO12 HP12
      obtain ⟨_, n0, n1, _, _⟩ := HN13.out
      obtain ⟨_, x0, x1, _, _⟩ := HX13.out
      have HMM := Lib.hid (sameMsg_any w13 ask11 ask11 (.slice p11 l11.length c11) (.slice p9 l11.length c9) l11 l11 (by have := HD9.out.fits.1; omega) HP13.out.arg HO13.out.arg)
      rw [decide_eq_true (show l11 = l11 from rfl), show (true && (ask11 == ask11)) = true by cases ask11 <;> rfl] at HMM
      go_wp2_with fail
      refine HMM.out.mono ?_
      rintro x w14 ⟨rfl, b14⟩
      have HT14 := Lib.hid (Below.two HT13.out b14)
      clear b14 HMM n0 n1 x0 x1
      go_wp2_with fail
      go_ret
      exact ⟨rfl, HT14.out⟩
    · have hk9' : (k9 == 0) = false := by simpa using hk9
      have hz9 : l9 = [] ∧ ask9 = false := by
        rcases HD9.out with ⟨h, _⟩ | ⟨_, h1, h2, _⟩ | ⟨_, h1, h2, _⟩
        · exact absurd h hk9
        · exact ⟨h2, h1⟩
        · exact ⟨h2, h1⟩
      obtain ⟨_, n0, n1, e0, e1⟩ := HN10.out
      have HN10' := Lib.hid (Box.new w9 (.bool false) (.slice none 0 0) 24)
      have HT10' := Lib.hid (Below.two HT9.out ((Below.refl _ w9).alloc (Nat.le_refl _) (.cells #[.bool false, .slice none 0 0] 24)))
      have HDD := Lib.hid (decode_any _ vb bl hbn HY.out (HBA.out.below HT10'.out))
      obtain ⟨hl9, ha9⟩ := hz9
      have HL9 := Lib.hid hl9; have HA9 := Lib.hid ha9
      clear hl9 ha9 hk9
      go_wp2_with fail
      refine HDD.out.mono ?_
      rintro x w11 ⟨ask11, v11, l11, k11, rfl, dec11, o11, b11⟩
      obtain ⟨rfl, rfl, rfl⟩ := dec11.only HD9.out
      obtain ⟨p11, c11, hv11, -, -⟩ := o11.arg
      subst hv11
      have B12 := (Below.refl _ w11).alloc (Nat.le_refl _) (.cells #[.bool ask11, .slice p11 l11.length c11] 24)
      have HX12 := Lib.hid (Box.new w11 (.bool ask11) (.slice p11 l11.length c11) 24)
      have HN12 := Lib.hid ((HN10'.out.kept b11).kept B12)
      have HT12 := Lib.hid (Below.two (Below.two HT10'.out b11) B12)
      have HP12 := Lib.hid (o11.keep B12)
      clear b11 o11 B12 dec11 HDD HN10 HN10' HT10 HT10' HO10 n0 n1 e0 e1
      have HS := Lib.hid (sameErr_any k11 k11 _ (HET.out.below HT12.out))
      rw [show (k11 == k11) = true by simp] at HS
      go_wp2_with fail
      refine HS.out.mono ?_
      rintro x w13 ⟨rfl, b13⟩
      have HX13 := Lib.hid (HX12.out.kept b13); have HN13 := Lib.hid (HN12.out.kept b13); have HT13 := Lib.hid (Below.two HT12.out b13); have HP13 := Lib.hid (HP12.out.keep b13)
      clear b13 HS HX12 HN12 HT12 HP12
      obtain ⟨_, n0, n1, _, _⟩ := HN13.out
      obtain ⟨_, x0, x1, _, _⟩ := HX13.out
      have HMM := Lib.hid (sameMsg_any w13 ask11 false (.slice p11 l11.length c11) (.slice none 0 0) l11 [] (by have := HL9.out; rw [this]; decide) HP13.out.arg (ArgE.nil w13))
      rw [show (decide (l11 = []) && (ask11 == false)) = true by rw [HL9.out, HA9.out]; rfl] at HMM
      go_wp2_with fail
      refine HMM.out.mono ?_
      rintro x w14 ⟨rfl, b14⟩
      have HT14 := Lib.hid (Below.two HT13.out b14)
      clear b14 HMM n0 n1 x0 x1
      go_wp2_with fail
      go_ret
      exact ⟨rfl, HT14.out⟩
end Go.Proofs.YtlgkjbkbdmneaaaDoor
