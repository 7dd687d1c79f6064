/-
  THE LAW WireOwn, walked: at every message, every list of bytes and every byte it returns true; what lay in memory stays.
-/
import Derived.Test.YtlgkjbkbdmneaaaDoorWireDec
import Derived.Test.YtlgkjbkbdmneaaaDoorWireEncU
import Derived.Test.YtlgkjbkbdmneaaaDoorRefBytes
import Derived.Test.YtlgkjbkbdmneaaaDoorSameBytes
import Derived.Test.YtlgkjbkbdmneaaaDoorErrTwo
import Derived.Test.YtlgkjbkbdmneaaaDoorByteArg
import Derived.Test.YtlgkjbkbdmneaaaDoorSpoil
namespace Go.Proofs.YtlgkjbkbdmneaaaDoor
open Go.RowKit Go.Lib

set_option maxHeartbeats 1000000 in
set_option maxRecDepth 100000 in
theorem wireOwn_walk (w : World) (ask : Bool) (v vb : Value) (l : List En) (bl : List Nat) (x : Nat) (hln : l.length < 4611686018427387904) (hlen : bl.length ≤ 140737488355328) (hx : x < 256) (hE : ArgE w v l) (hB : ArgB w vb bl) (sb : Sl vb) (hok : ∀ e ∈ l, e.Fits) (hy : Byt bl) (hT : ErrType w) :
    Calls Tryd.prog 6 #[.agg #[.bool ask, v], vb, .int .u8 (x : Int)] w fun r w' => r = .returned (.bool true) ∧ Below w.heap.size w w' := by
  have HEA := Lib.hid hE; have HBA := Lib.hid hB; have HK := Lib.hid hok; have HY := Lib.hid hy; have HET := Lib.hid hT; have SB := Lib.hid sb
  obtain ⟨p, c, hv, hc, -⟩ := hE
  clear hok hy hT sb hB
  subst hv
  have z0 : (w.alloc (.cells #[.bool ask, .slice p l.length c] 24)).heap.size = w.heap.size + 1 := by simp
  have HM0 := Lib.hid (Box.new w (.bool ask) (.slice p l.length c) 24)
  have HT0 := Lib.hid ((Below.refl w.heap.size w).alloc (Nat.le_refl _) (.cells #[.bool ask, .slice p l.length c] 24))
  have B1 := (Below.refl _ (w.alloc (.cells #[.bool ask, .slice p l.length c] 24))).alloc (Nat.le_refl _) (.cells #[] 5)
  have o1 := OwnB.made (w.alloc (.cells #[.bool ask, .slice p l.length c] 24)) (w.heap.size + 1) [] #[] rfl (by omega) (by decide)
  rw [z0] at o1
  have HOe := Lib.hid o1
  have HMe := Lib.hid (HM0.out.kept B1)
  have HTe := Lib.hid (Below.two HT0.out B1)
  have ze := B1.size
  rw [z0] at ze
  clear o1 B1
  go_enter Tryd.func6, Tryd.ntmps6
  go_wp2_with (at_builtin; refine wpList_plain rfl fun _ hK => wp_append_BV _ _ rfl (w.heap.size + 1) (.slice (some ⟨w.heap.size + 1, 0, none⟩) 0 0) vb [] bl rfl rfl HOe.out ?q1 SB.out ?q2 ?q3 ?_)
  case q1 => exact HBA.out.below HTe.out
  case q2 => first | omega | simpa using hlen
  case q3 => first | exact ze | (have := ze; simp at this ⊢)
  intro v1 w1 o1 b1
  refine hK _ _ ?_
  clear hK
  have HM1 := Lib.hid (HMe.out.below b1 (by omega))
  have HT1 := Lib.hid (HTe.out.trans (b1.mono (by omega)))
  obtain ⟨p1, c1, hv1, -, -⟩ := o1.arg
  subst hv1
  have HO1 := Lib.hid o1
  have hz1 : w.heap.size + 1 ≤ w1.heap.size := HM1.out.lt
  have HD := Lib.hid (decode_any w1 _ bl (by omega) HY.out HO1.out.arg)
  clear o1 b1 HMe HTe HOe
  go_wp2_with fail
  refine HD.out.mono ?_
  rintro r w2 ⟨ask2, v2, l2, k2, rfl, dec2, o2, b2⟩
  have B3 := (Below.refl _ w2).alloc (Nat.le_refl _) (.cells #[.bool ask2, v2] 24)
  have z3 : (w2.alloc (.cells #[.bool ask2, v2] 24)).heap.size = w2.heap.size + 1 := by simp
  have hz2 := b2.size
  have HN3 := Lib.hid (Box.new w2 (.bool ask2) v2 24)
  have HM3 := Lib.hid ((HM1.out.kept b2).kept B3)
  have HT3 := Lib.hid (Below.two (Below.two HT1.out b2) B3)
  have HO13 := Lib.hid ((HO1.out.keep b2).keep B3)
  have HO23 := Lib.hid (o2.keep B3)
  have HL2 := Lib.hid (fun j hj => (o2.lt j hj))
  have HD2 := Lib.hid dec2
  have hl2 := dec2.fits.1
  have HV1 := Lib.hid (fun j hj => (HO1.out.lt j hj))
  obtain ⟨p2, c2, hv2, -, -⟩ := o2.arg
  subst hv2
  clear HD dec2 b2 o2 HO1 HM1 HT1
  have HE := Lib.hid (encode_u _ ask (.slice p l.length c) l hln (HEA.out.below HT3.out) HK.out)
  obtain ⟨_, m0, m1, _, _⟩ := HM3.out
  clear B3
  go_wp2_with fail
  refine HE.out.mono ?_
  rintro r w4 ⟨va, rfl, oa, b4⟩
  have hal := encR_len ask l HK.out
  obtain ⟨pa, ca, hva, -, -⟩ := oa.arg
  obtain ⟨na, hna⟩ : ∃ n, (encR ask l).length = n := ⟨_, rfl⟩
  rw [hna] at hva hal
  subst hva
  have HNA := Lib.hid hna
  clear m0 m1 HE hna
  have hz4 := b4.size
  rw [z3] at hz4
  have HN4 := Lib.hid (HN3.out.kept b4); have HM4 := Lib.hid (HM3.out.kept b4); have HT4 := Lib.hid (Below.two HT3.out b4); have HO14 := Lib.hid (HO13.out.keep b4); have HO24 := Lib.hid (HO23.out.keep b4); have HOA4 := Lib.hid oa
  have HLA := Lib.hid (fun j (hj : (Value.slice pa na ca).ownBlock = some j) => (show w2.heap.size + 1 ≤ j by have := (oa.lt j hj).1; rw [z3] at this; exact this))
  clear oa b4 HN3 HM3 HT3 HO13 HO23
  have HF := Lib.hid (encode_ok w4 false (.slice none 0 0) [] (ArgE.nil w4) GoodM.nil)
  go_wp2_with fail
  refine HF.out.mono ?_
  rintro r w5 ⟨vf, rfl, of, b5⟩
  have hz5 := b5.size
  have HN5 := Lib.hid (HN4.out.kept b5); have HM5 := Lib.hid (HM4.out.kept b5); have HT5 := Lib.hid (Below.two HT4.out b5); have HO15 := Lib.hid (HO14.out.keep b5); have HO25 := Lib.hid (HO24.out.keep b5); have HOA5 := Lib.hid (HOA4.out.keep b5)
  obtain ⟨pf, cf, hvf, -, -⟩ := of.arg
  rw [show (enc false []).length = 4 from rfl] at hvf
  subst hvf
  clear of b5 HF HN4 HM4 HT4 HO14 HO24 HOA4
  obtain ⟨eq0, hq0⟩ : ∃ e, errV (WireP.chkM l) = e := ⟨_, rfl⟩
  have HQ0 := Lib.hid hq0
  rw [hq0]
  clear hq0
  go_wp2_with fail
  go_loopw [14] (fun vk wr => ∃ (k : Nat), vk = .int .i64 k ∧ k ≤ l2.length ∧ Hid (Wrote w5 wr (.slice p2 l2.length c2)) ∧ Hid (Live wr (.slice p2 l2.length c2) (l2.length * 5))) (fun vk _ => l2.length - (RowKit.intOf vk).toNat)
  case atStart => exact ⟨0, rfl, Nat.zero_le _, Lib.hid (Wrote.refl _ _), Lib.hid (Live.of HO25.out)⟩
  case round =>
    obtain ⟨k, rfl, hk, HWR, HLV⟩ := hrel
    have hn2 : (Value.slice p2 l2.length c2).ownBlock ≠ some w2.heap.size := fun e => by have := (HL2.out _ e).2; omega
    have HNr := HN5.out.wrote HWR.out hn2
    obtain ⟨_, n0, n1, _, _⟩ := id HNr
    by_cases hkn : k < l2.length
    · rcases rowForm HO25.out with ⟨h0, _⟩ | ⟨g, cap, hvg, _, _⟩
      · omega
      · injection hvg with e1 e2 e3
        subst e1 e3
        obtain ⟨q1, q2⟩ := HLV.out g rfl
        obtain ⟨u, hu⟩ := q1 (k * 5 + 2) (by omega)
        have hf := q2 (k * 5 + 2)
        clear q1 q2
        go_wp2_with fail
        go_roundw
        case rel => exact ⟨k + 1, by go_num, by omega, Lib.hid (by simpa using HWR.out.set rfl (k * 5 + 2) _), Lib.hid (by simpa using HLV.out.set _ _)⟩
        case measure => simp [RowKit.intOf]; omega
    · have b6 := HWR.out.below (n := w1.heap.size) (fun j hj => (HL2.out j hj).1)
      have HT6 := Lib.hid (HT5.out.trans (b6.mono (by omega)))
      have HM6 := Lib.hid (HM5.out.below b6 (by omega))
      have HN6 := Lib.hid HNr
      have HO16 := Lib.hid (HO15.out.ofBlock (fun g hg => b6.block g (HV1.out g hg).2))
      have HOA6 := Lib.hid (HOA5.out.ofBlock (fun g hg => HWR.out.block g (fun e => by have h1 := HLA.out g hg; have h2 := (HL2.out g e).2; omega)))
      have HS := Lib.hid (sameBytes_any wr (.slice p1 bl.length c1) vb bl bl (by omega) HO16.out.arg (HBA.out.below HT6.out))
      rw [decide_eq_true (show bl = bl from rfl)] at HS
      clear b6 HNr HWR HLV HM5 HN5 HT5 HO15 HO25 HOA5
      go_wp2_with fail
      clear n0 n1
      refine HS.out.mono ?_
      rintro r w7 ⟨rfl, b7⟩
      have HM7 := Lib.hid (HM6.out.kept b7); have HN7 := Lib.hid (HN6.out.kept b7); have HT7 := Lib.hid (Below.two HT6.out b7); have HO17 := Lib.hid (HO16.out.keep b7); have HOA7 := Lib.hid (HOA6.out.keep b7)
      clear b7 HS HM6 HN6 HT6 HO16 HOA6
      go_wp2_with fail
      go_loopw [16] (fun vk wr => ∃ (k : Nat), vk = .int .i64 k ∧ k ≤ bl.length ∧ Hid (Wrote w7 wr (.slice p1 bl.length c1)) ∧ Hid (Live wr (.slice p1 bl.length c1) (bl.length * 1))) (fun vk _ => bl.length - (RowKit.intOf vk).toNat)
      case atStart => exact ⟨0, rfl, Nat.zero_le _, Lib.hid (Wrote.refl _ _), Lib.hid (Live.of HO17.out)⟩
      case round =>
        clear hk hkn
        obtain ⟨k, rfl, hk, HWR, HLV⟩ := hrel
        by_cases hkn : k < bl.length
        · rcases rowForm HO17.out with ⟨h0, _⟩ | ⟨g, cap, hvg, _, _⟩
          · omega
          · injection hvg with e1 e2 e3
            subst e1 e3
            obtain ⟨q1, q2⟩ := HLV.out g rfl
            obtain ⟨u, hu⟩ := q1 k (by omega)
            have hf := q2 k
            clear q1 q2
            go_wp2_with fail
            go_roundw
            case rel => exact ⟨k + 1, by go_num, by omega, Lib.hid (by simpa using HWR.out.set rfl k _), Lib.hid (by simpa using HLV.out.set _ _)⟩
            case measure => simp [RowKit.intOf]; omega
        · have b8 := HWR.out.below (n := w.heap.size + 1) (fun j hj => (HV1.out j hj).1)
          have HT8 := Lib.hid (HT7.out.trans (b8.mono (by omega)))
          have HM8 := Lib.hid (HM7.out.below b8 (by omega))
          have HN8 := Lib.hid (HN7.out.wrote HWR.out (fun e => by have := (HV1.out _ e).2; omega))
          have HOA8 := Lib.hid (HOA7.out.ofBlock (fun g hg => HWR.out.block g (fun e => by have h1 := HLA.out g hg; have h2 := (HV1.out g e).2; omega)))
          clear b8 HWR HLV HM7 HN7 HT7 HO17 HOA7
          generalize wr = w8 at *
          go_wp2_with fail
          go_loopw [17] (fun vk wr => ∃ (k : Nat), vk = .int .i64 k ∧ k ≤ na ∧ Hid (Wrote w8 wr (.slice pa na ca)) ∧ Hid (Live wr (.slice pa na ca) (na * 1))) (fun vk _ => na - (RowKit.intOf vk).toNat)
          case atStart => exact ⟨0, rfl, Nat.zero_le _, Lib.hid (Wrote.refl _ _), Lib.hid (by have := Live.of HOA8.out; rw [HNA.out] at this; exact this)⟩
          case round =>
            clear hk hkn
            obtain ⟨k, rfl, hk, HWR, HLV⟩ := hrel
            by_cases hkn : k < na
            · have hform := rowForm HOA8.out
              rw [HNA.out] at hform
              rcases hform with ⟨h0, _⟩ | ⟨g, cap, hvg, _, _⟩
              · omega
              · injection hvg with e1 e2 e3
                subst e1 e3
                obtain ⟨q1, q2⟩ := HLV.out g rfl
                obtain ⟨u, hu⟩ := q1 k (by omega)
                have hf := q2 k
                clear q1 q2
                go_wp2_with fail
                go_roundw
                case rel => exact ⟨k + 1, by go_num, by omega, Lib.hid (by simpa using HWR.out.set rfl k _), Lib.hid (by simpa using HLV.out.set _ _)⟩
                case measure => simp [RowKit.intOf]; omega
            · have b9 := HWR.out.below (n := w2.heap.size + 1) (fun j hj => HLA.out j hj)
              have HT9 := Lib.hid (HT8.out.trans (b9.mono (by omega)))
              have HM9 := Lib.hid (HM8.out.below b9 (by omega))
              have HN9 := Lib.hid (HN8.out.below b9 (by omega))
              clear b9 HWR HLV HM8 HN8 HT8 HOA8
              generalize wr = w9 at *
              have HE := Lib.hid (encode_u w9 ask (.slice p l.length c) l hln (HEA.out.below HT9.out) HK.out)
              rw [HQ0.out] at HE
              obtain ⟨_, m0, m1, _, _⟩ := HM9.out
              go_wp2_with fail
              refine HE.out.mono ?_
              rintro r w10 ⟨vc, rfl, oc, b10⟩
              obtain ⟨pc, cc, hvc, -, -⟩ := oc.arg
              rw [HNA.out] at hvc
              subst hvc
              have HM10 := Lib.hid (HM9.out.kept b10); have HN10 := Lib.hid (HN9.out.kept b10); have HT10 := Lib.hid (Below.two HT9.out b10); have HOC10 := Lib.hid oc
              clear b10 oc m0 m1 HE HM9 HN9 HT9
              have HD := Lib.hid (decode_any w10 vb bl (by omega) HY.out (HBA.out.below HT10.out))
              go_wp2_with fail
              refine HD.out.mono ?_
              rintro r w11 ⟨ask4, v4, l4, k4, rfl, dec4, o4, b11⟩
              obtain ⟨rfl, rfl, rfl⟩ := dec4.only HD2.out
              obtain ⟨p4, c4, hv4, -, -⟩ := o4.arg
              subst hv4
              have B12 := (Below.refl _ w11).alloc (Nat.le_refl _) (.cells #[.bool ask4, .slice p4 l4.length c4] 24)
              have HD12 := Lib.hid (Box.new w11 (.bool ask4) (.slice p4 l4.length c4) 24)
              have HM12 := Lib.hid ((HM10.out.kept b11).kept B12); have HN12 := Lib.hid ((HN10.out.kept b11).kept B12); have HT12 := Lib.hid (Below.two (Below.two HT10.out b11) B12); have HOC12 := Lib.hid ((HOC10.out.keep b11).keep B12)
              clear b11 B12 o4 dec4 HD HM10 HN10 HT10 HOC10
              have HS := Lib.hid (sameTold_any (WireP.chkM l) (WireP.chkM l) _ (HET.out.below HT12.out))
              rw [HQ0.out, show (WireP.chkM l == WireP.chkM l) = true by simp] at HS
              go_wp2_with fail
              refine HS.out.mono ?_
              rintro r w13 ⟨rfl, b13⟩
              have HD13 := Lib.hid (HD12.out.kept b13); have HM13 := Lib.hid (HM12.out.kept b13); have HN13 := Lib.hid (HN12.out.kept b13); have HT13 := Lib.hid (Below.two HT12.out b13); have HOC13 := Lib.hid (HOC12.out.keep b13)
              clear b13 HS HD12 HM12 HN12 HT12 HOC12
              have HS := Lib.hid (sameTold_any k4 k4 _ (HET.out.below HT13.out))
              rw [show (k4 == k4) = true by simp] at HS
              go_wp2_with fail
              refine HS.out.mono ?_
              rintro r w14 ⟨rfl, b14⟩
              have HD14 := Lib.hid (HD13.out.kept b14); have HM14 := Lib.hid (HM13.out.kept b14); have HN14 := Lib.hid (HN13.out.kept b14); have HT14 := Lib.hid (Below.two HT13.out b14); have HOC14 := Lib.hid (HOC13.out.keep b14)
              clear b14 HS HD13 HM13 HN13 HT13 HOC13
              obtain ⟨_, m0, m1, _, _⟩ := HM14.out
              obtain ⟨_, n0, n1, _, _⟩ := HN14.out
              obtain ⟨_, d0, d1, _, _⟩ := HD14.out
              by_cases hg : WireP.chkM l = 0
              · have HG := Lib.hid ((GoodM.iff l HK.out).1 hg)
                have HR := Lib.hid (show encR ask l = enc ask l by rw [encR, if_pos hg])
                have e0 : eq0 = Value.nilIface := by rw [← HQ0.out, hg]; rfl
                subst e0
                have HBO := Lib.hid (bytesOf_any w14 ask (.slice p l.length c) l (HEA.out.below HT14.out) HG.out)
                clear hg
                go_wp2_with fail
                refine HBO.out.mono ?_
                rintro r w15 ⟨v15, rfl, o15, b15⟩
                have HT15 := Lib.hid (Below.two HT14.out b15)
                have hr := HR.out
                have oc := HOC14.out.keep b15
                rw [hr] at oc
                have HS := Lib.hid (sameBytes_any w15 (.slice pc na cc) v15 (enc ask l) (enc ask l) (by rw [← hr, HNA.out]; omega) oc.arg o15.arg)
                rw [decide_eq_true (show enc ask l = enc ask l from rfl)] at HS
                clear b15 o15 oc hr HBO m0 m1 n0 n1 d0 d1
                go_wp2_with fail
                refine HS.out.mono ?_
                rintro r w16 ⟨rfl, b16⟩
                have HT16 := Lib.hid (Below.two HT15.out b16)
                clear b16 HS
                go_wp2_with fail
                go_ret
                exact ⟨rfl, HT16.out⟩
              · have e0 : eq0 = .iface 27 (.int .i64 (WireP.chkM l)) := by rw [← HQ0.out]; exact if_neg hg
                subst e0
                go_wp2_with fail
                go_ret
                exact ⟨rfl, HT14.out⟩
end Go.Proofs.YtlgkjbkbdmneaaaDoor
