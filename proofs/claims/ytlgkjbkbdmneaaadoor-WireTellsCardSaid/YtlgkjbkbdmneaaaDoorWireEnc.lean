/-
  wire.Encode at every message; what lay in memory stays.
-/
import Derived.Test.YtlgkjbkbdmneaaaDoorWireCheck
import Derived.Test.YtlgkjbkbdmneaaaDoorWireApp
import Derived.Test.YtlgkjbkbdmneaaaDoorMaskMake
namespace Go.Proofs.YtlgkjbkbdmneaaaDoor
open Go.RowKit Go.Lib

theorem append16_two (w : World) (base : Nat) (v : Value) (l : List Nat) (hl : l.length + 2 ≤ 140737488355328) (hb : base ≤ w.heap.size) (h : OwnB w base v l) :
    Calls Tryd.prog 26 #[v, .int .u16 2] w fun x w' => ∃ v', x = .returned v' ∧ OwnB w' base v' (l ++ [0, 2]) ∧ AppTo w v w' v' :=
  append16_any w base v l 2 (by omega) hl hb h

theorem enc_more (ask : Bool) (l : List En) (k : Nat) (hk : k < l.length) : enc ask (l.take k) ++ [0, 2] ++ [l[k]!.t.toNat / 256, l[k]!.t.toNat % 256] ++ four l[k]!.a ++ four (MaskP.mk l[k]!.n.toNat) ++ four l[k]!.h ++ four l[k]!.m.toNat = enc ask (l.take (k + 1)) := by
  rw [List.take_succ_eq_append_getElem hk, enc_app, ← getElem!_pos l k hk]
  simp only [encL, encE, List.append_nil, List.append_assoc, List.cons_append, List.nil_append]
theorem wrap16s (n : Nat) (h : n < 65536) : IntKind.u16.wrap (n : Int) = (n : Int) := by
  show (n : Int) % 65536 = _
  omega
theorem wrap32s (n : Nat) (h : n < 4294967296) : IntKind.u32.wrap (n : Int) = (n : Int) := by
  show (n : Int) % 4294967296 = _
  omega
theorem nat_of {z : Int} (h : 0 ≤ z) : ∃ n : Nat, z = n ∧ z.toNat = n := ⟨z.toNat, by omega, rfl⟩

set_option maxHeartbeats 1000000 in
set_option maxRecDepth 100000 in
theorem encode_bad (w : World) (ask : Bool) (v : Value) (l : List En) (hn : l.length < 4611686018427387904) (h : ArgE w v l) (hok : ∀ e ∈ l, e.Fits) (hbad : WireP.chkM l ≠ 0) :
    Calls Tryd.prog 12 #[.agg #[.bool ask, v]] w fun x w' => x = .returned (.tuple #[.slice none 0 0, errV (WireP.chkM l)]) ∧ Below w.heap.size w w' := by
  have B0 := (Below.refl w.heap.size w).alloc (Nat.le_refl _) (.cells #[.bool ask, v] 24)
  have hC := wireCheck_any (w.alloc (.cells #[.bool ask, v] 24)) ask v l hn (h.below B0) hok
  have hE : errV (WireP.chkM l) = .iface 27 (.int .i64 (WireP.chkM l)) := if_neg hbad
  rw [hE] at hC ⊢
  obtain ⟨p, c, rfl, hc, h⟩ := h
  have HC := Lib.hid hC; have HB := Lib.hid B0
  clear hC B0 h hok
  generalize WireP.chkM l = q at *
  go_enter Tryd.func12, Tryd.ntmps12
  go_wp2_with fail
  refine HC.out.mono ?_
  rintro x w1 ⟨rfl, hb1⟩
  go_wp2_with fail
  go_ret2
  exact ⟨rfl, (box1 hb1).2⟩

set_option maxHeartbeats 2000000 in
set_option maxRecDepth 100000 in
theorem encode_ok (w : World) (ask : Bool) (v : Value) (l : List En) (h : ArgE w v l) (hg : GoodM l) :
    Calls Tryd.prog 12 #[.agg #[.bool ask, v]] w fun x w' => ∃ v', x = .returned (.tuple #[v', .nilIface]) ∧ OwnB w' w.heap.size v' (enc ask l) ∧ Below w.heap.size w w' := by
  have hlen := hg.few
  have B0 := (Below.refl w.heap.size w).alloc (Nat.le_refl _) (.cells #[.bool ask, v] 24)
  have hC := wireCheck_any (w.alloc (.cells #[.bool ask, v] 24)) ask v l (by omega) (h.below B0) hg.fits
  rw [(GoodM.iff l hg.fits).2 hg, show errV 0 = Value.nilIface from rfl] at hC
  obtain ⟨p, c, rfl, hc, h⟩ := h
  have HC := Lib.hid hC; have HA := Lib.hid h; have HG := Lib.hid hg
  clear hC B0 h hg
  go_enter Tryd.func12, Tryd.ntmps12
  go_wp2_with fail
  refine HC.out.mono ?_
  rintro x w1 ⟨rfl, hb1⟩
  obtain ⟨⟨l1, c0, c1, f0, f1⟩, B1⟩ := box1 hb1
  have HB1 := Lib.hid B1
  clear hb1 HC B1
  go_wp2_with fail
  refine (head_any w1 ask).mono ?_
  rintro x w2 ⟨v2, rfl, o2, b2⟩
  have cc1 := (b2.cell (p := ⟨w.heap.size, 1, none⟩) l1).trans c1
  have sz2 := b2.size
  have HB2 := Lib.hid (Below.two HB1.out b2)
  have HO2 := Lib.hid o2
  clear o2 b2 c0 c1 f0 f1
  have sz1 := HB1.out.size
  go_wp2_with fail
  go_loopw [21, 5] (fun vk vb wr => ∃ (k : Nat), vk = .int .i64 k ∧ k ≤ l.length ∧ Hid (OwnB wr w1.heap.size vb (enc ask (l.take k))) ∧ w1.heap.size ≤ wr.heap.size ∧ Hid (Below w.heap.size w wr)) (fun vk _ _ => l.length - (RowKit.intOf vk).toNat)
  case atStart => exact ⟨0, rfl, Nat.zero_le _, by simpa [enc, encL] using HO2, sz2, HB2⟩
  case round =>
    clear HB2 HO2 cc1 sz2
    obtain ⟨k, rfl, hk, HO, hsz, HB⟩ := hrel
    by_cases hkn : k < l.length
    · obtain ⟨b, off, hp, hlt, hs⟩ : ∃ b off, p = some ⟨b, off, none⟩ ∧ b < w.heap.size ∧ SeenE w b off l := by
        rcases HA.out with h | h
        · rw [h] at hkn; simp at hkn
        · exact h
      subst hp
      obtain ⟨c0, c1, c2, c3, c4⟩ := (hs.below HB.out hlt) k hkn
      have g : (l[k]!).Good := HG.out.all _ (by rw [getElem!_pos l k hkn]; exact List.getElem_mem hkn)
      have HM := Lib.hid (enc_more ask l k hkn)
      have HL := Lib.hid (show (enc ask (l.take k)).length ≤ 504 by rw [enc_len, List.length_take]; omega)
      generalize l[k]! = e at c0 c1 c2 c3 c4 g HM
      obtain ⟨nn, en, en'⟩ := nat_of g.n0
      obtain ⟨tt, et, et'⟩ := nat_of g.t0
      obtain ⟨mm, em, em'⟩ := nat_of (show 0 ≤ e.m by have := g.m0; omega)
      have hn1 : nn ≤ 32 := by have := g.n1; omega
      have ht1 : tt < 65536 := by have := g.t1; omega
      have hm1 : mm < 4294967296 := by have := g.m1; omega
      have ha1 := g.a; have hh1 := g.h
      rw [en', et', em'] at HM
      obtain ⟨a0, n0, t0, h0, m0⟩ := e
      simp only at c0 c1 c2 c3 c4 en et em HM ha1 hh1
      subst en et em
      have EB := EBox.new wr ⟨a0, nn, tt, h0, mm⟩ 49
      have B3 := (Below.refl wr.heap.size wr).alloc (Nat.le_refl _) (.cells #[.int .u32 (a0 : Int), .int .i64 (nn : Int), .int .i64 (tt : Int), .int .u32 (h0 : Int), .int .i64 (mm : Int)] 49)
      have HO3 := Lib.hid (HO.out.keep B3)
      have HN := Lib.hid (show u5.ownBlock ≠ some wr.heap.size from fun e => by have := (HO.out.lt _ e).2; omega)
      have HV := Lib.hid fun j hj => (HO.out.lt j hj).1
      have HB3 := Lib.hid (Below.two HB.out B3)
      have hsz3 := Nat.le_trans hsz B3.size
      have sB3 := B3.size
      have W16 := Lib.hid (wrap16s tt ht1); have W32 := Lib.hid (wrap32s mm hm1)
      generalize enc ask (l.take k) = L at *
      clear g en' et' em' hs HO B3
      go_wp2_with fail
      generalize wr.alloc (.cells #[.int .u32 (a0 : Int), .int .i64 (nn : Int), .int .i64 (tt : Int), .int .u32 (h0 : Int), .int .i64 (mm : Int)] 49) = W3 at *
      have HE3 := Lib.hid EB
      clear EB c0 c1 c2 c3 c4
      refine (mask_yes nn hn1 _).mono ?_
      rintro x w4 ⟨rfl, rfl⟩
      have HA3 := Lib.hid (AppTo.refl W3 u5)
      obtain ⟨⟨c0, c1, c2, c3, c4⟩, _⟩ := HE3.out
      simp only [Nat.zero_add] at c0 c1 c2 c3 c4
      go_wp2_with fail
      clear c0 c1 c2 c3 c4
      have HL4 := Lib.hid (show (L).length ≤ 504 by have := HL.out; omega)
      refine (append16_two W3 w1.heap.size u5 _ (by have := HL4.out; omega) (Nat.le_trans hsz3 HA3.out.size) HO3.out).mono ?_
      rintro x w14 ⟨v14, rfl, o4, a4⟩
      have HO4 := Lib.hid o4; have HA4 := Lib.hid (HA3.out.trans a4)
      have HE4 := Lib.hid (HE3.out.app a4 (HA3.out.ne (Nat.lt_of_lt_of_le HE3.out.lt (Nat.le_refl _)) HN.out))
      clear o4 a4
      obtain ⟨⟨c0, c1, c2, c3, c4⟩, _⟩ := HE4.out
      simp only [Nat.zero_add] at c0 c1 c2 c3 c4
      go_wp2_with fail
      clear c0 c1 c2 c3 c4
      try rw [W16.out]
      have HL5 := Lib.hid (show (L ++ [0, 2]).length ≤ 506 by have := HL.out; simp only [List.length_append, List.length_cons, List.length_nil]; omega)
      refine (append16_any w14 w1.heap.size v14 _ tt ht1 (by have := HL5.out; omega) (Nat.le_trans hsz3 HA4.out.size) HO4.out).mono ?_
      rintro x w15 ⟨v15, rfl, o5, a5⟩
      have HO5 := Lib.hid o5; have HA5 := Lib.hid (HA4.out.trans a5)
      have HE5 := Lib.hid (HE4.out.app a5 (HA4.out.ne (Nat.lt_of_lt_of_le HE3.out.lt (Nat.le_refl _)) HN.out))
      clear o5 a5
      obtain ⟨⟨c0, c1, c2, c3, c4⟩, _⟩ := HE5.out
      simp only [Nat.zero_add] at c0 c1 c2 c3 c4
      go_wp2_with fail
      clear c0 c1 c2 c3 c4
      have HL6 := Lib.hid (show (L ++ [0, 2] ++ [tt / 256, tt % 256]).length ≤ 508 by have := HL.out; simp only [List.length_append, List.length_cons, List.length_nil]; omega)
      refine (append32_any w15 w1.heap.size v15 _ a0 ha1 (by have := HL6.out; omega) (Nat.le_trans hsz3 HA5.out.size) HO5.out).mono ?_
      rintro x w16 ⟨v16, rfl, o6, a6⟩
      have HO6 := Lib.hid o6; have HA6 := Lib.hid (HA5.out.trans a6)
      have HE6 := Lib.hid (HE5.out.app a6 (HA5.out.ne (Nat.lt_of_lt_of_le HE3.out.lt (Nat.le_refl _)) HN.out))
      clear o6 a6
      obtain ⟨⟨c0, c1, c2, c3, c4⟩, _⟩ := HE6.out
      simp only [Nat.zero_add] at c0 c1 c2 c3 c4
      go_wp2_with fail
      clear c0 c1 c2 c3 c4
      have HL7 := Lib.hid (show (L ++ [0, 2] ++ [tt / 256, tt % 256] ++ four a0).length ≤ 512 by have := HL.out; simp only [List.length_append, List.length_cons, List.length_nil, four]; omega)
      refine (append32_any w16 w1.heap.size v16 _ (MaskP.mk nn) (MaskP.lt nn) (by have := HL7.out; omega) (Nat.le_trans hsz3 HA6.out.size) HO6.out).mono ?_
      rintro x w17 ⟨v17, rfl, o7, a7⟩
      have HO7 := Lib.hid o7; have HA7 := Lib.hid (HA6.out.trans a7)
      have HE7 := Lib.hid (HE6.out.app a7 (HA6.out.ne (Nat.lt_of_lt_of_le HE3.out.lt (Nat.le_refl _)) HN.out))
      clear o7 a7
      obtain ⟨⟨c0, c1, c2, c3, c4⟩, _⟩ := HE7.out
      simp only [Nat.zero_add] at c0 c1 c2 c3 c4
      go_wp2_with fail
      clear c0 c1 c2 c3 c4
      have HL8 := Lib.hid (show (L ++ [0, 2] ++ [tt / 256, tt % 256] ++ four a0 ++ four (MaskP.mk nn)).length ≤ 516 by have := HL.out; simp only [List.length_append, List.length_cons, List.length_nil, four]; omega)
      refine (append32_any w17 w1.heap.size v17 _ h0 hh1 (by have := HL8.out; omega) (Nat.le_trans hsz3 HA7.out.size) HO7.out).mono ?_
      rintro x w18 ⟨v18, rfl, o8, a8⟩
      have HO8 := Lib.hid o8; have HA8 := Lib.hid (HA7.out.trans a8)
      have HE8 := Lib.hid (HE7.out.app a8 (HA7.out.ne (Nat.lt_of_lt_of_le HE3.out.lt (Nat.le_refl _)) HN.out))
      clear o8 a8
      obtain ⟨⟨c0, c1, c2, c3, c4⟩, _⟩ := HE8.out
      simp only [Nat.zero_add] at c0 c1 c2 c3 c4
      go_wp2_with fail
      clear c0 c1 c2 c3 c4
      try rw [W32.out]
      have HL9 := Lib.hid (show (L ++ [0, 2] ++ [tt / 256, tt % 256] ++ four a0 ++ four (MaskP.mk nn) ++ four h0).length ≤ 520 by have := HL.out; simp only [List.length_append, List.length_cons, List.length_nil, four]; omega)
      refine (append32_any w18 w1.heap.size v18 _ mm hm1 (by have := HL9.out; omega) (Nat.le_trans hsz3 HA8.out.size) HO8.out).mono ?_
      rintro x w19 ⟨v19, rfl, o9, a9⟩
      have HO9 := Lib.hid o9; have HA9 := Lib.hid (HA8.out.trans a9)
      have HE9 := Lib.hid (HE8.out.app a9 (HA8.out.ne (Nat.lt_of_lt_of_le HE3.out.lt (Nat.le_refl _)) HN.out))
      clear o9 a9
      go_wp2_with fail
      go_roundw
      case rel =>
        refine ⟨k + 1, by go_num, by omega, Lib.hid (by rw [← HM.out]; exact HO9.out), Nat.le_trans hsz3 HA9.out.size, Lib.hid (HB3.out.trans (HA9.out.below (fun j hj => Nat.le_trans sz1 (HV.out j hj)) (Nat.le_trans sz1 hsz3)))⟩
      case measure => simp [RowKit.intOf]; omega
    · have e0 : l.take k = l := List.take_of_length_le (by omega)
      rw [e0] at HO
      go_wp2_with fail
      go_ret2
      exact ⟨_, rfl, HO.out.down sz1, HB.out⟩
end Go.Proofs.YtlgkjbkbdmneaaaDoor
