/-
  THE LAW WireBack, walked: at every message and every list of bytes it returns true; what lay in memory stays.
-/
import Derived.Test.YtlgkjbkbdmneaaaWired
import Derived.Test.YtlgkjbkbdmneaaaWireDec
import Derived.Test.YtlgkjbkbdmneaaaSameMsg
namespace Go.Proofs.Ytlgkjbkbdmneaaa
open Go.RowKit Go.Lib

set_option maxHeartbeats 400000 in
set_option maxRecDepth 100000 in
theorem wireBack_walk (w : World) (ask : Bool) (v vb : Value) (l : List En) (bl : List Nat) (hln : l.length < 4611686018427387904) (hbn : bl.length < 4611686018427387904) (hE : ArgE w v l) (hB : ArgB w vb bl) (hok : ∀ e ∈ l, e.Fits) (hy : Byt bl) :
    Calls Try.prog 3 #[.agg #[.bool ask, v], vb] w fun x w' => x = .returned (.bool true) ∧ Below w.heap.size w w' := by
  have M0 := Box.new w (.bool ask) v 24
  have T0 := (Below.refl w.heap.size w).alloc (Nat.le_refl _) (.cells #[.bool ask, v] 24)
  have HEA := Lib.hid hE; have HBA := Lib.hid hB; have HK := Lib.hid hok; have HY := Lib.hid hy
  have HW := Lib.hid (wired_any (w.alloc (.cells #[.bool ask, v] 24)))
  have HT0 := Lib.hid T0; have HM0 := Lib.hid M0
  obtain ⟨p, c, hv, hc, -⟩ := hE
  obtain ⟨pb, cb, hvb, hcb, -⟩ := hB
  clear T0 M0 hok hy
  subst hv hvb
  go_enter Try.func3, Try.ntmps3
  go_wp2_with fail
  refine HW.out.mono ?_
  rintro x w1 ⟨rfl, b1⟩
  have HM1 := Lib.hid (HM0.out.kept b1)
  have HT1 := Lib.hid (Below.two HT0.out b1)
  obtain ⟨_, m0, m1, _, _⟩ := HM1.out
  clear b1 HW
  by_cases hg : WireP.chkM l = 0
  · have HG := Lib.hid ((GoodM.iff l HK.out).1 hg)
    have HE := Lib.hid (encode_ok w1 ask (.slice p l.length c) l (HEA.out.below HT1.out) HG.out)
    clear hg
    go_wp2_with fail
    refine HE.out.mono ?_
    rintro x w2 ⟨vx, rfl, ox, b2⟩
    have HM2 := Lib.hid (HM1.out.kept b2)
    have HT2 := Lib.hid (Below.two HT1.out b2)
    have hfew := HG.out.few
    have HXL := Lib.hid (enc_len ask l)
    have HD := Lib.hid (decode_any w2 vx (enc ask l) (by rw [HXL.out]; omega) (Byt.enc HG.out ask) ox.arg)
    obtain ⟨px, cx, hvx, -, -⟩ := ox.arg
    subst hvx
    clear m0 m1 b2 HE ox
    generalize (enc ask l).length = nx at HD HXL ⊢
    go_wp2_with fail
    refine HD.out.mono ?_
    rintro x w3 ⟨ask3, v3, l3, k3, rfl, dec, o3, b3⟩
    obtain ⟨rfl, rfl, rfl⟩ := dec.of_enc HG.out rfl
    rw [show errV 0 = Value.nilIface from rfl]
    have B4 := (Below.refl _ w3).alloc (Nat.le_refl _) (.cells #[.bool ask3, v3] 24)
    have HN4 := Lib.hid (Box.new w3 (.bool ask3) v3 24)
    have HM4 := Lib.hid ((HM2.out.kept b3).kept B4)
    have HT4 := Lib.hid (Below.two (Below.two HT2.out b3) B4)
    have HS := Lib.hid (sameMsg_any _ ask3 ask3 v3 (.slice p l3.length c) l3 l3 hln ((o3.keep B4).arg) (HEA.out.below HT4.out))
    rw [decide_eq_true (show l3 = l3 from rfl), show (true && (ask3 == ask3)) = true by cases ask3 <;> rfl] at HS
    obtain ⟨_, m0, m1, _, _⟩ := HM4.out
    obtain ⟨_, n0, n1, _, _⟩ := HN4.out
    obtain ⟨p3, c3, rfl, -, -⟩ := o3.arg
    clear o3 b3 B4 HD dec
    go_wp2_with fail
    refine HS.out.mono ?_
    rintro x w5 ⟨rfl, b5⟩
    have HT5 := Lib.hid (Below.two HT4.out b5)
    have HM5 := Lib.hid (HM4.out.kept b5)
    clear m0 m1 n0 n1
    obtain ⟨_, m0, m1, _, _⟩ := HM5.out
    have hlen : ((nx : Int) == 4 + 20 * (l3.length : Int)) = true := by
      have : (nx : Int) = 4 + 20 * (l3.length : Int) := by have := HXL.out; omega
      simpa using this
    clear b5 HS
    have HD := Lib.hid (decode_any w5 (.slice pb bl.length cb) bl hbn HY.out (HBA.out.below HT5.out))
    go_wp2_with fail
    refine HD.out.mono ?_
    rintro x wd ⟨ask2, v2, l2, k2, rfl, dec, o2, bd⟩
    have TD := Lib.hid (Below.two HT5.out bd)
    clear bd HD
    rcases dec with ⟨rfl, g2, e2⟩ | ⟨rfl, rfl, rfl, _, _⟩ | ⟨rfl, rfl, rfl, _⟩
    · rw [show errV 0 = Value.nilIface from rfl]
      have B3 := (Below.refl _ wd).alloc (Nat.le_refl _) (.cells #[.bool ask2, v2] 24)
      have N3 := Box.new wd (.bool ask2) v2 24
      have HE := Lib.hid (encode_ok _ ask2 v2 l2 ((o2.keep B3).arg) g2)
      have T3 := Lib.hid (Below.two TD.out B3)
      have E2 := Lib.hid e2
      obtain ⟨_, n0, n1, _, _⟩ := N3
      obtain ⟨p2, c2, rfl, -, -⟩ := o2.arg
      clear o2 B3 g2 e2
      go_wp2_with fail
      refine HE.out.mono ?_
      rintro x we ⟨v4, rfl, o4, be⟩
      have T4 := Lib.hid (Below.two T3.out be)
      have HS := Lib.hid (sameBytes_any we v4 (.slice pb bl.length cb) (enc ask2 l2) bl (by rw [← E2.out]; omega) o4.arg (HBA.out.below T4.out))
      rw [decide_eq_true E2.out.symm] at HS
      clear be HE
      go_wp2_with fail
      refine HS.out.mono ?_
      rintro x wf ⟨rfl, bf⟩
      have T5 := Lib.hid (Below.two T4.out bf)
      clear bf HS
      go_wp2_with fail
      go_ret
      exact ⟨rfl, T5.out⟩
    · rw [show errV 6 = Value.iface 48 (.int .i64 6) from rfl]
      obtain ⟨p2, c2, rfl, -, -⟩ := o2.arg
      have T3 := Lib.hid (Below.two TD.out ((Below.refl _ wd).alloc (Nat.le_refl _) (.cells #[.bool false, .slice p2 0 c2] 24)))
      clear o2
      go_wp2_with fail
      go_ret
      exact ⟨rfl, T3.out⟩
    · rw [show errV 3 = Value.iface 48 (.int .i64 3) from rfl]
      obtain ⟨p2, c2, rfl, -, -⟩ := o2.arg
      have T3 := Lib.hid (Below.two TD.out ((Below.refl _ wd).alloc (Nat.le_refl _) (.cells #[.bool false, .slice p2 0 c2] 24)))
      clear o2
      go_wp2_with fail
      go_ret
      exact ⟨rfl, T3.out⟩
  · have HE := Lib.hid (encode_bad w1 ask (.slice p l.length c) l hln (HEA.out.below HT1.out) HK.out hg)
    rw [show errV (WireP.chkM l) = .iface 48 (.int .i64 (WireP.chkM l)) from if_neg hg] at HE
    clear hg
    generalize WireP.chkM l = q at HE
    go_wp2_with fail
    refine HE.out.mono ?_
    rintro x w2 ⟨rfl, b2⟩
    have HT2 := Lib.hid (Below.two HT1.out b2)
    clear m0 m1 b2 HE
    have HD := Lib.hid (decode_any w2 (.slice pb bl.length cb) bl hbn HY.out (HBA.out.below HT2.out))
    go_wp2_with fail
    refine HD.out.mono ?_
    rintro x wd ⟨ask2, v2, l2, k2, rfl, dec, o2, bd⟩
    have TD := Lib.hid (Below.two HT2.out bd)
    clear bd HD
    rcases dec with ⟨rfl, g2, e2⟩ | ⟨rfl, rfl, rfl, _, _⟩ | ⟨rfl, rfl, rfl, _⟩
    · rw [show errV 0 = Value.nilIface from rfl]
      have B3 := (Below.refl _ wd).alloc (Nat.le_refl _) (.cells #[.bool ask2, v2] 24)
      have N3 := Box.new wd (.bool ask2) v2 24
      have HE := Lib.hid (encode_ok _ ask2 v2 l2 ((o2.keep B3).arg) g2)
      have T3 := Lib.hid (Below.two TD.out B3)
      have E2 := Lib.hid e2
      obtain ⟨_, n0, n1, _, _⟩ := N3
      obtain ⟨p2, c2, rfl, -, -⟩ := o2.arg
      clear o2 B3 g2 e2
      go_wp2_with fail
      refine HE.out.mono ?_
      rintro x we ⟨v4, rfl, o4, be⟩
      have T4 := Lib.hid (Below.two T3.out be)
      have HS := Lib.hid (sameBytes_any we v4 (.slice pb bl.length cb) (enc ask2 l2) bl (by rw [← E2.out]; omega) o4.arg (HBA.out.below T4.out))
      rw [decide_eq_true E2.out.symm] at HS
      clear be HE
      go_wp2_with fail
      refine HS.out.mono ?_
      rintro x wf ⟨rfl, bf⟩
      have T5 := Lib.hid (Below.two T4.out bf)
      clear bf HS
      go_wp2_with fail
      go_ret
      exact ⟨rfl, T5.out⟩
    · rw [show errV 6 = Value.iface 48 (.int .i64 6) from rfl]
      obtain ⟨p2, c2, rfl, -, -⟩ := o2.arg
      have T3 := Lib.hid (Below.two TD.out ((Below.refl _ wd).alloc (Nat.le_refl _) (.cells #[.bool false, .slice p2 0 c2] 24)))
      clear o2
      go_wp2_with fail
      go_ret
      exact ⟨rfl, T3.out⟩
    · rw [show errV 3 = Value.iface 48 (.int .i64 3) from rfl]
      obtain ⟨p2, c2, rfl, -, -⟩ := o2.arg
      have T3 := Lib.hid (Below.two TD.out ((Below.refl _ wd).alloc (Nat.le_refl _) (.cells #[.bool false, .slice p2 0 c2] 24)))
      clear o2
      go_wp2_with fail
      go_ret
      exact ⟨rfl, T3.out⟩
end Go.Proofs.Ytlgkjbkbdmneaaa
