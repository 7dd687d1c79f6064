/-
  The document's own answers Four (of every number) and BytesOf (of every right message); what lay in memory stays.
-/
import Derived.Test.YtlgkjbkbdmneaaaDoorWireEnc
import Derived.Test.YtlgkjbkbdmneaaaDoorRefMask
import Derived.Test.YtlgkjbkbdmneaaaDoorBoxSet
namespace Go.Proofs.YtlgkjbkbdmneaaaDoor
open Go.RowKit Go.Lib

set_option maxHeartbeats 400000 in
set_option maxRecDepth 100000 in
theorem four_any (w : World) (n : Nat) (hn : n < 4294967296) : Calls Tryd.prog 22 #[.int .u32 (n : Int)] w fun x w' => ∃ v, x = .returned v ∧ OwnB w' w.heap.size v (four n) ∧ Below w.heap.size w w' := by
  go_enter Tryd.func22, Tryd.ntmps22
  go_wp2_with fail
  go_ret
  refine ⟨_, rfl, OwnB.made w w.heap.size (four n) _ ?_ (Nat.le_refl _) (show 4 ≤ maxLen by decide), (Below.refl _ _).alloc (Nat.le_refl _) _⟩
  simp only [cellsB, four, List.map_cons, List.map_nil]
  rw [show n / 16777216 % 256 = n / 16777216 by omega]
  rfl
theorem enc_more2 (ask : Bool) (l : List En) (k : Nat) (hk : k < l.length) : enc ask (l.take k) ++ [0, 2, l[k]!.t.toNat / 256, l[k]!.t.toNat % 256] ++ four l[k]!.a ++ four (MaskP.mk l[k]!.n.toNat) ++ four l[k]!.h ++ four l[k]!.m.toNat = enc ask (l.take (k + 1)) := by
  rw [← enc_more ask l k hk]
  simp only [List.append_assoc, List.cons_append, List.nil_append]
theorem quo256 (n : Nat) : ((n : Int).tdiv 256) = ((n / 256 : Nat) : Int) := rfl
theorem rem256 (n : Nat) : ((n : Int).tmod 256) = ((n % 256 : Nat) : Int) := rfl

set_option maxHeartbeats 2000000 in
set_option maxRecDepth 100000 in
theorem bytesOf_any (w : World) (ask : Bool) (v : Value) (l : List En) (h : ArgE w v l) (hg : GoodM l) :
    Calls Tryd.prog 11 #[.agg #[.bool ask, v]] w fun x w' => ∃ v', x = .returned v' ∧ OwnB w' w.heap.size v' (enc ask l) ∧ Below w.heap.size w w' := by
  have hlen := hg.few
  have HG := Lib.hid hg
  obtain ⟨p, c, rfl, hc, h⟩ := h
  have HA := Lib.hid h
  have z0 : (w.alloc (.cells #[.bool ask, .slice p l.length c] 24)).heap.size = w.heap.size + 1 := by simp
  have M0 := Box.new w (.bool ask) (.slice p l.length c) 24
  have T0 := (Below.refl w.heap.size w).alloc (Nat.le_refl _) (.cells #[.bool ask, .slice p l.length c] 24)
  have HM0 := Lib.hid M0; have HT0 := Lib.hid T0
  obtain ⟨_, m0, m1, _, _⟩ := M0
  clear h hg T0
  cases ask
  · have o1 := OwnB.made (w.alloc (.cells #[.bool false, .slice p l.length c] 24)) (w.heap.size + 1) (hd false) #[.int .u8 2, .int .u8 2, .int .u8 0, .int .u8 0] rfl (by rw [z0]; exact Nat.le_refl _) (by decide)
    rw [z0] at o1
    have HO1 : Hid (OwnB ((w.alloc (.cells #[.bool false, .slice p l.length c] 24)).alloc (.cells #[.int .u8 2, .int .u8 2, .int .u8 0, .int .u8 0] 5)) (w.heap.size + 1) (.slice (some ⟨w.heap.size + 1, 0, none⟩) 4 4) (hd false)) := Lib.hid o1
    have HM1 : Hid (Box ((w.alloc (.cells #[.bool false, .slice p l.length c] 24)).alloc (.cells #[.int .u8 2, .int .u8 2, .int .u8 0, .int .u8 0] 5)) w.heap.size (.bool false) (.slice p l.length c)) := Lib.hid (HM0.out.alloc _)
    have HT1 : Hid (Below w.heap.size w ((w.alloc (.cells #[.bool false, .slice p l.length c] 24)).alloc (.cells #[.int .u8 2, .int .u8 2, .int .u8 0, .int .u8 0] 5))) := Lib.hid (HT0.out.alloc (by omega) _)
    clear o1
    go_enter Tryd.func11, Tryd.ntmps11
    go_wp2_with fail
    go_loopw [4, 3] (fun vk vb wr => ∃ (k : Nat), vk = .int .i64 k ∧ k ≤ l.length ∧ Hid (OwnB wr (w.heap.size + 1) vb (enc false (l.take k))) ∧ Hid (Box wr w.heap.size (.bool false) (.slice p l.length c)) ∧ Hid (Below w.heap.size w wr)) (fun vk _ _ => l.length - (RowKit.intOf vk).toNat)
    case atStart => exact ⟨0, rfl, Nat.zero_le _, by simpa [enc, encL] using HO1, HM1, HT1⟩
    case round =>
      clear HO1 HM1 HT1 m0 m1
      obtain ⟨k, rfl, hk, HO, HM, HB⟩ := hrel
      obtain ⟨_, m0, m1, _, _⟩ := HM.out
      by_cases hkn : k < l.length
      · obtain ⟨b, off, hp, hlt, hs⟩ : ∃ b off, p = some ⟨b, off, none⟩ ∧ b < w.heap.size ∧ SeenE w b off l := by
          rcases HA.out with h | h
          · rw [h] at hkn; simp at hkn
          · exact h
        subst hp
        obtain ⟨c0, c1, c2, c3, c4⟩ := (hs.below HB.out hlt) k hkn
        have g : (l[k]!).Good := HG.out.all _ (by rw [getElem!_pos l k hkn]; exact List.getElem_mem hkn)
        have HMO := Lib.hid (enc_more2 false l k hkn)
        have HL := Lib.hid (show (enc false (l.take k)).length ≤ 504 by rw [enc_len, List.length_take]; omega)
        generalize l[k]! = e at c0 c1 c2 c3 c4 g HMO
        obtain ⟨nn, en, en'⟩ := nat_of g.n0
        obtain ⟨tt, et, et'⟩ := nat_of g.t0
        obtain ⟨mm, em, em'⟩ := nat_of (show 0 ≤ e.m by have := g.m0; omega)
        have hn1 : nn ≤ 32 := by have := g.n1; omega
        have ht1 : tt < 65536 := by have := g.t1; omega
        have hm1 : mm < 4294967296 := by have := g.m1; omega
        have ha1 := g.a; have hh1 := g.h
        rw [en', et', em'] at HMO
        obtain ⟨a0, n0, t0, h0, mt0⟩ := e
        simp only at c0 c1 c2 c3 c4 en et em HMO ha1 hh1
        subst en et em
        have EB := EBox.new wr ⟨a0, nn, tt, h0, mm⟩ 49
        have B3 := (Below.refl wr.heap.size wr).alloc (Nat.le_refl _) (.cells #[.int .u32 (a0 : Int), .int .i64 (nn : Int), .int .i64 (tt : Int), .int .u32 (h0 : Int), .int .i64 (mm : Int)] 49)
        have HO3 := Lib.hid (HO.out.keep B3)
        have HN := Lib.hid (show u3.ownBlock ≠ some wr.heap.size from fun e => by have := (HO.out.lt _ e).2; omega)
        have HNM := Lib.hid (show u3.ownBlock ≠ some w.heap.size from fun e => by have := (HO.out.lt _ e).1; omega)
        have HV := Lib.hid fun j hj => (HO.out.lt j hj).1
        have HB3 := Lib.hid (Below.two HB.out B3)
        have HM3 := Lib.hid (HM.out.kept B3)
        have hsz3 : w.heap.size + 1 ≤ (wr.alloc (.cells #[.int .u32 (a0 : Int), .int .i64 (nn : Int), .int .i64 (tt : Int), .int .u32 (h0 : Int), .int .i64 (mm : Int)] 49)).heap.size := HM3.out.lt
        have Q1 := Lib.hid (quo256 tt); have Q2 := Lib.hid (rem256 tt); have W32 := Lib.hid (wrap32s mm hm1)
        generalize enc false (l.take k) = L at *
        clear g en' et' em' hs HO B3
        have z3 : (wr.alloc (.cells #[.int .u32 (a0 : Int), .int .i64 (nn : Int), .int .i64 (tt : Int), .int .u32 (h0 : Int), .int .i64 (mm : Int)] 49)).heap.size = wr.heap.size + 1 := by simp
        obtain ⟨⟨d0, d1, d2, d3, d4⟩, _⟩ := id EB
        simp only [Nat.zero_add] at d0 d1 d2 d3 d4
        go_wp2_with (at_builtin; refine wpList_plain rfl fun _ hK => wp_append_B _ _ rfl (w.heap.size + 1) u3 L [0, 2, tt / 256, tt % 256] ⟨wr.heap.size + 1, 0, none⟩ 4 4 rfl rfl ?x1 rfl (by omega) ?x2 ?x3 ?x5 ?_)
        case x1 => exact HO3.out.keep ((Below.refl _ _).alloc (Nat.le_refl _) _)
        case x2 => intro j u hu; exact hu
        case x3 => have := HL.out; first | omega | (simp only [List.length_cons, List.length_nil]; omega)
        case x5 => have := hsz3; rw [z3] at this; first | omega | (simp; omega)
        intro v4 W4 o4 a4
        refine hK _ _ ?_
        clear hK d0 d1 d2 d3 d4 c0 c1 c2 c3 c4 m0 m1
        have B4 := (Below.refl _ (wr.alloc (.cells #[.int .u32 (a0 : Int), .int .i64 (nn : Int), .int .i64 (tt : Int), .int .u32 (h0 : Int), .int .i64 (mm : Int)] 49))).alloc (Nat.le_refl _) (.cells #[.int .u8 0, .int .u8 2, .int .u8 ((tt : Int) / 256), .int .u8 ((tt : Int) % 256)] 5)
        have HA4 := Lib.hid (AppTo.after B4 a4)
        have HO4 := Lib.hid o4
        have HE3 := Lib.hid EB
        have HE4 := Lib.hid (EB.app HA4.out HN.out)
        clear o4 a4 B4 EB HO3
        obtain ⟨⟨c0, c1, c2, c3, c4⟩, _⟩ := HE4.out
        simp only [Nat.zero_add] at c0 c1 c2 c3 c4
        go_wp2_with fail
        clear c0 c1 c2 c3 c4
        refine (four_any W4 a0 ha1).mono ?_
        rintro x F5 ⟨f5, rfl, of5, bf5⟩
        obtain ⟨pf5, cf5, hvf5, -, hf5⟩ := of5.arg
        subst hvf5
        obtain ⟨gf5, zf5, rfl, -, sf5⟩ : ∃ b off, pf5 = some ⟨b, off, none⟩ ∧ b < F5.heap.size ∧ SeenB F5 b off (four a0) := by
          rcases hf5 with h | h
          · cases h
          · exact h
        have HOF5 := Lib.hid (HO4.out.keep bf5); have HEF5 := Lib.hid (HE4.out.kept bf5); have HSF5 := Lib.hid sf5; have HAF5 := Lib.hid (HA4.out.then bf5)
        clear of5 bf5 hf5 sf5
        rw [show (four a0).length = 4 from rfl]
        go_wp2_with (at_builtin; refine wpList_plain rfl fun _ hK => wp_append_B _ _ rfl (w.heap.size + 1) v4 _ (four a0) ⟨gf5, zf5, none⟩ 4 cf5 rfl rfl HOF5.out rfl (by omega) ?a5 ?b5 ?c5 ?_)
        case a5 => intro q u hu; rw [Addr.add_lit]; exact HSF5.out.cells q u hu
        case b5 => have := HL.out; simp only [List.length_append, List.length_cons, List.length_nil, four]; omega
        case c5 => exact Nat.le_trans hsz3 HAF5.out.size
        intro v5 W5 o5 a5
        refine hK _ _ ?_
        clear hK
        have HO5 := Lib.hid o5; have HA5 := Lib.hid (HAF5.out.trans a5)
        have HE5 := Lib.hid (HEF5.out.app a5 (HAF5.out.ne (Nat.lt_of_lt_of_le HE3.out.lt (Nat.le_refl _)) HN.out))
        clear o5 a5 HOF5 HEF5 HSF5 HAF5
        obtain ⟨⟨c0, c1, c2, c3, c4⟩, _⟩ := HE5.out
        simp only [Nat.zero_add] at c0 c1 c2 c3 c4
        go_wp2_with fail
        clear c0 c1 c2 c3 c4
        refine (maskOf_any nn hn1 _).mono ?_
        rintro x wm ⟨rfl, rfl⟩
        go_wp2_with fail
        refine (four_any W5 (MaskP.mk nn) (MaskP.lt nn)).mono ?_
        rintro x F6 ⟨f6, rfl, of6, bf6⟩
        obtain ⟨pf6, cf6, hvf6, -, hf6⟩ := of6.arg
        subst hvf6
        obtain ⟨gf6, zf6, rfl, -, sf6⟩ : ∃ b off, pf6 = some ⟨b, off, none⟩ ∧ b < F6.heap.size ∧ SeenB F6 b off (four (MaskP.mk nn)) := by
          rcases hf6 with h | h
          · cases h
          · exact h
        have HOF6 := Lib.hid (HO5.out.keep bf6); have HEF6 := Lib.hid (HE5.out.kept bf6); have HSF6 := Lib.hid sf6; have HAF6 := Lib.hid (HA5.out.then bf6)
        clear of6 bf6 hf6 sf6
        rw [show (four (MaskP.mk nn)).length = 4 from rfl]
        go_wp2_with (at_builtin; refine wpList_plain rfl fun _ hK => wp_append_B _ _ rfl (w.heap.size + 1) v5 _ (four (MaskP.mk nn)) ⟨gf6, zf6, none⟩ 4 cf6 rfl rfl HOF6.out rfl (by omega) ?a6 ?b6 ?c6 ?_)
        case a6 => intro q u hu; rw [Addr.add_lit]; exact HSF6.out.cells q u hu
        case b6 => have := HL.out; simp only [List.length_append, List.length_cons, List.length_nil, four]; omega
        case c6 => exact Nat.le_trans hsz3 HAF6.out.size
        intro v6 W6 o6 a6
        refine hK _ _ ?_
        clear hK
        have HO6 := Lib.hid o6; have HA6 := Lib.hid (HAF6.out.trans a6)
        have HE6 := Lib.hid (HEF6.out.app a6 (HAF6.out.ne (Nat.lt_of_lt_of_le HE3.out.lt (Nat.le_refl _)) HN.out))
        clear o6 a6 HOF6 HEF6 HSF6 HAF6
        obtain ⟨⟨c0, c1, c2, c3, c4⟩, _⟩ := HE6.out
        simp only [Nat.zero_add] at c0 c1 c2 c3 c4
        go_wp2_with fail
        clear c0 c1 c2 c3 c4
        refine (four_any W6 h0 hh1).mono ?_
        rintro x F7 ⟨f7, rfl, of7, bf7⟩
        obtain ⟨pf7, cf7, hvf7, -, hf7⟩ := of7.arg
        subst hvf7
        obtain ⟨gf7, zf7, rfl, -, sf7⟩ : ∃ b off, pf7 = some ⟨b, off, none⟩ ∧ b < F7.heap.size ∧ SeenB F7 b off (four h0) := by
          rcases hf7 with h | h
          · cases h
          · exact h
        have HOF7 := Lib.hid (HO6.out.keep bf7); have HEF7 := Lib.hid (HE6.out.kept bf7); have HSF7 := Lib.hid sf7; have HAF7 := Lib.hid (HA6.out.then bf7)
        clear of7 bf7 hf7 sf7
        rw [show (four h0).length = 4 from rfl]
        go_wp2_with (at_builtin; refine wpList_plain rfl fun _ hK => wp_append_B _ _ rfl (w.heap.size + 1) v6 _ (four h0) ⟨gf7, zf7, none⟩ 4 cf7 rfl rfl HOF7.out rfl (by omega) ?a7 ?b7 ?c7 ?_)
        case a7 => intro q u hu; rw [Addr.add_lit]; exact HSF7.out.cells q u hu
        case b7 => have := HL.out; simp only [List.length_append, List.length_cons, List.length_nil, four]; omega
        case c7 => exact Nat.le_trans hsz3 HAF7.out.size
        intro v7 W7 o7 a7
        refine hK _ _ ?_
        clear hK
        have HO7 := Lib.hid o7; have HA7 := Lib.hid (HAF7.out.trans a7)
        have HE7 := Lib.hid (HEF7.out.app a7 (HAF7.out.ne (Nat.lt_of_lt_of_le HE3.out.lt (Nat.le_refl _)) HN.out))
        clear o7 a7 HOF7 HEF7 HSF7 HAF7
        obtain ⟨⟨c0, c1, c2, c3, c4⟩, _⟩ := HE7.out
        simp only [Nat.zero_add] at c0 c1 c2 c3 c4
        go_wp2_with fail
        clear c0 c1 c2 c3 c4
        try rw [W32.out]
        refine (four_any W7 mm hm1).mono ?_
        rintro x F8 ⟨f8, rfl, of8, bf8⟩
        obtain ⟨pf8, cf8, hvf8, -, hf8⟩ := of8.arg
        subst hvf8
        obtain ⟨gf8, zf8, rfl, -, sf8⟩ : ∃ b off, pf8 = some ⟨b, off, none⟩ ∧ b < F8.heap.size ∧ SeenB F8 b off (four mm) := by
          rcases hf8 with h | h
          · cases h
          · exact h
        have HOF8 := Lib.hid (HO7.out.keep bf8); have HEF8 := Lib.hid (HE7.out.kept bf8); have HSF8 := Lib.hid sf8; have HAF8 := Lib.hid (HA7.out.then bf8)
        clear of8 bf8 hf8 sf8
        rw [show (four mm).length = 4 from rfl]
        go_wp2_with (at_builtin; refine wpList_plain rfl fun _ hK => wp_append_B _ _ rfl (w.heap.size + 1) v7 _ (four mm) ⟨gf8, zf8, none⟩ 4 cf8 rfl rfl HOF8.out rfl (by omega) ?a8 ?b8 ?c8 ?_)
        case a8 => intro q u hu; rw [Addr.add_lit]; exact HSF8.out.cells q u hu
        case b8 => have := HL.out; simp only [List.length_append, List.length_cons, List.length_nil, four]; omega
        case c8 => exact Nat.le_trans hsz3 HAF8.out.size
        intro v8 W8 o8 a8
        refine hK _ _ ?_
        clear hK
        have HO8 := Lib.hid o8; have HA8 := Lib.hid (HAF8.out.trans a8)
        have HE8 := Lib.hid (HEF8.out.app a8 (HAF8.out.ne (Nat.lt_of_lt_of_le HE3.out.lt (Nat.le_refl _)) HN.out))
        clear o8 a8 HOF8 HEF8 HSF8 HAF8
        go_wp2_with fail
        go_roundw
        case rel =>
          refine ⟨k + 1, by go_num, by omega, Lib.hid (by rw [← HMO.out]; simpa only [List.append_assoc, List.cons_append, List.nil_append] using HO8.out), Lib.hid (HM3.out.app HA8.out HNM.out), Lib.hid (HB3.out.trans (HA8.out.below (fun j hj => Nat.le_trans (Nat.le_succ _) (HV.out j hj)) (Nat.le_trans (Nat.le_succ _) hsz3)))⟩
        case measure => simp [RowKit.intOf]; omega
      · have e0 : l.take k = l := List.take_of_length_le (by omega)
        rw [e0] at HO
        go_wp2_with fail
        go_ret
        exact ⟨_, rfl, HO.out.down (Nat.le_succ _), HB.out⟩
  · have o1 := OwnB.made (w.alloc (.cells #[.bool true, .slice p l.length c] 24)) (w.heap.size + 1) (hd true) #[.int .u8 1, .int .u8 2, .int .u8 0, .int .u8 0] rfl (by rw [z0]; exact Nat.le_refl _) (by decide)
    rw [z0] at o1
    have HO1 : Hid (OwnB ((w.alloc (.cells #[.bool true, .slice p l.length c] 24)).alloc (.cells #[.int .u8 1, .int .u8 2, .int .u8 0, .int .u8 0] 5)) (w.heap.size + 1) (.slice (some ⟨w.heap.size + 1, 0, none⟩) 4 4) (hd true)) := Lib.hid o1
    have HM1 : Hid (Box ((w.alloc (.cells #[.bool true, .slice p l.length c] 24)).alloc (.cells #[.int .u8 1, .int .u8 2, .int .u8 0, .int .u8 0] 5)) w.heap.size (.bool true) (.slice p l.length c)) := Lib.hid (HM0.out.alloc _)
    have HT1 : Hid (Below w.heap.size w ((w.alloc (.cells #[.bool true, .slice p l.length c] 24)).alloc (.cells #[.int .u8 1, .int .u8 2, .int .u8 0, .int .u8 0] 5))) := Lib.hid (HT0.out.alloc (by omega) _)
    clear o1
    go_enter Tryd.func11, Tryd.ntmps11
    go_wp2_with fail
    go_loopw [4, 3] (fun vk vb wr => ∃ (k : Nat), vk = .int .i64 k ∧ k ≤ l.length ∧ Hid (OwnB wr (w.heap.size + 1) vb (enc true (l.take k))) ∧ Hid (Box wr w.heap.size (.bool true) (.slice p l.length c)) ∧ Hid (Below w.heap.size w wr)) (fun vk _ _ => l.length - (RowKit.intOf vk).toNat)
    case atStart => exact ⟨0, rfl, Nat.zero_le _, by simpa [enc, encL] using HO1, HM1, HT1⟩
    case round =>
      clear HO1 HM1 HT1 m0 m1
      obtain ⟨k, rfl, hk, HO, HM, HB⟩ := hrel
      obtain ⟨_, m0, m1, _, _⟩ := HM.out
      by_cases hkn : k < l.length
      · obtain ⟨b, off, hp, hlt, hs⟩ : ∃ b off, p = some ⟨b, off, none⟩ ∧ b < w.heap.size ∧ SeenE w b off l := by
          rcases HA.out with h | h
          · rw [h] at hkn; simp at hkn
          · exact h
        subst hp
        obtain ⟨c0, c1, c2, c3, c4⟩ := (hs.below HB.out hlt) k hkn
        have g : (l[k]!).Good := HG.out.all _ (by rw [getElem!_pos l k hkn]; exact List.getElem_mem hkn)
        have HMO := Lib.hid (enc_more2 true l k hkn)
        have HL := Lib.hid (show (enc true (l.take k)).length ≤ 504 by rw [enc_len, List.length_take]; omega)
        generalize l[k]! = e at c0 c1 c2 c3 c4 g HMO
        obtain ⟨nn, en, en'⟩ := nat_of g.n0
        obtain ⟨tt, et, et'⟩ := nat_of g.t0
        obtain ⟨mm, em, em'⟩ := nat_of (show 0 ≤ e.m by have := g.m0; omega)
        have hn1 : nn ≤ 32 := by have := g.n1; omega
        have ht1 : tt < 65536 := by have := g.t1; omega
        have hm1 : mm < 4294967296 := by have := g.m1; omega
        have ha1 := g.a; have hh1 := g.h
        rw [en', et', em'] at HMO
        obtain ⟨a0, n0, t0, h0, mt0⟩ := e
        simp only at c0 c1 c2 c3 c4 en et em HMO ha1 hh1
        subst en et em
        have EB := EBox.new wr ⟨a0, nn, tt, h0, mm⟩ 49
        have B3 := (Below.refl wr.heap.size wr).alloc (Nat.le_refl _) (.cells #[.int .u32 (a0 : Int), .int .i64 (nn : Int), .int .i64 (tt : Int), .int .u32 (h0 : Int), .int .i64 (mm : Int)] 49)
        have HO3 := Lib.hid (HO.out.keep B3)
        have HN := Lib.hid (show u3.ownBlock ≠ some wr.heap.size from fun e => by have := (HO.out.lt _ e).2; omega)
        have HNM := Lib.hid (show u3.ownBlock ≠ some w.heap.size from fun e => by have := (HO.out.lt _ e).1; omega)
        have HV := Lib.hid fun j hj => (HO.out.lt j hj).1
        have HB3 := Lib.hid (Below.two HB.out B3)
        have HM3 := Lib.hid (HM.out.kept B3)
        have hsz3 : w.heap.size + 1 ≤ (wr.alloc (.cells #[.int .u32 (a0 : Int), .int .i64 (nn : Int), .int .i64 (tt : Int), .int .u32 (h0 : Int), .int .i64 (mm : Int)] 49)).heap.size := HM3.out.lt
        have Q1 := Lib.hid (quo256 tt); have Q2 := Lib.hid (rem256 tt); have W32 := Lib.hid (wrap32s mm hm1)
        generalize enc true (l.take k) = L at *
        clear g en' et' em' hs HO B3
        have z3 : (wr.alloc (.cells #[.int .u32 (a0 : Int), .int .i64 (nn : Int), .int .i64 (tt : Int), .int .u32 (h0 : Int), .int .i64 (mm : Int)] 49)).heap.size = wr.heap.size + 1 := by simp
        obtain ⟨⟨d0, d1, d2, d3, d4⟩, _⟩ := id EB
        simp only [Nat.zero_add] at d0 d1 d2 d3 d4
        go_wp2_with (at_builtin; refine wpList_plain rfl fun _ hK => wp_append_B _ _ rfl (w.heap.size + 1) u3 L [0, 2, tt / 256, tt % 256] ⟨wr.heap.size + 1, 0, none⟩ 4 4 rfl rfl ?y1 rfl (by omega) ?y2 ?y3 ?y5 ?_)
        case y1 => exact HO3.out.keep ((Below.refl _ _).alloc (Nat.le_refl _) _)
        case y2 => intro j u hu; exact hu
        case y3 => have := HL.out; first | omega | (simp only [List.length_cons, List.length_nil]; omega)
        case y5 => have := hsz3; rw [z3] at this; first | omega | (simp; omega)
        intro v4 W4 o4 a4
        refine hK _ _ ?_
        clear hK d0 d1 d2 d3 d4 c0 c1 c2 c3 c4 m0 m1
        have B4 := (Below.refl _ (wr.alloc (.cells #[.int .u32 (a0 : Int), .int .i64 (nn : Int), .int .i64 (tt : Int), .int .u32 (h0 : Int), .int .i64 (mm : Int)] 49))).alloc (Nat.le_refl _) (.cells #[.int .u8 0, .int .u8 2, .int .u8 ((tt : Int) / 256), .int .u8 ((tt : Int) % 256)] 5)
        have HA4 := Lib.hid (AppTo.after B4 a4)
        have HO4 := Lib.hid o4
        have HE3 := Lib.hid EB
        have HE4 := Lib.hid (EB.app HA4.out HN.out)
        clear o4 a4 B4 EB HO3
        obtain ⟨⟨c0, c1, c2, c3, c4⟩, _⟩ := HE4.out
        simp only [Nat.zero_add] at c0 c1 c2 c3 c4
        go_wp2_with fail
        clear c0 c1 c2 c3 c4
        refine (four_any W4 a0 ha1).mono ?_
        rintro x F5 ⟨f5, rfl, of5, bf5⟩
        obtain ⟨pf5, cf5, hvf5, -, hf5⟩ := of5.arg
        subst hvf5
        obtain ⟨gf5, zf5, rfl, -, sf5⟩ : ∃ b off, pf5 = some ⟨b, off, none⟩ ∧ b < F5.heap.size ∧ SeenB F5 b off (four a0) := by
          rcases hf5 with h | h
          · cases h
          · exact h
        have HOF5 := Lib.hid (HO4.out.keep bf5); have HEF5 := Lib.hid (HE4.out.kept bf5); have HSF5 := Lib.hid sf5; have HAF5 := Lib.hid (HA4.out.then bf5)
        clear of5 bf5 hf5 sf5
        rw [show (four a0).length = 4 from rfl]
        go_wp2_with (at_builtin; refine wpList_plain rfl fun _ hK => wp_append_B _ _ rfl (w.heap.size + 1) v4 _ (four a0) ⟨gf5, zf5, none⟩ 4 cf5 rfl rfl HOF5.out rfl (by omega) ?d5 ?e5 ?f5 ?_)
        case d5 => intro q u hu; rw [Addr.add_lit]; exact HSF5.out.cells q u hu
        case e5 => have := HL.out; simp only [List.length_append, List.length_cons, List.length_nil, four]; omega
        case f5 => exact Nat.le_trans hsz3 HAF5.out.size
        intro v5 W5 o5 a5
        refine hK _ _ ?_
        clear hK
        have HO5 := Lib.hid o5; have HA5 := Lib.hid (HAF5.out.trans a5)
        have HE5 := Lib.hid (HEF5.out.app a5 (HAF5.out.ne (Nat.lt_of_lt_of_le HE3.out.lt (Nat.le_refl _)) HN.out))
        clear o5 a5 HOF5 HEF5 HSF5 HAF5
        obtain ⟨⟨c0, c1, c2, c3, c4⟩, _⟩ := HE5.out
        simp only [Nat.zero_add] at c0 c1 c2 c3 c4
        go_wp2_with fail
        clear c0 c1 c2 c3 c4
        refine (maskOf_any nn hn1 _).mono ?_
        rintro x wm ⟨rfl, rfl⟩
        go_wp2_with fail
        refine (four_any W5 (MaskP.mk nn) (MaskP.lt nn)).mono ?_
        rintro x F6 ⟨f6, rfl, of6, bf6⟩
        obtain ⟨pf6, cf6, hvf6, -, hf6⟩ := of6.arg
        subst hvf6
        obtain ⟨gf6, zf6, rfl, -, sf6⟩ : ∃ b off, pf6 = some ⟨b, off, none⟩ ∧ b < F6.heap.size ∧ SeenB F6 b off (four (MaskP.mk nn)) := by
          rcases hf6 with h | h
          · cases h
          · exact h
        have HOF6 := Lib.hid (HO5.out.keep bf6); have HEF6 := Lib.hid (HE5.out.kept bf6); have HSF6 := Lib.hid sf6; have HAF6 := Lib.hid (HA5.out.then bf6)
        clear of6 bf6 hf6 sf6
        rw [show (four (MaskP.mk nn)).length = 4 from rfl]
        go_wp2_with (at_builtin; refine wpList_plain rfl fun _ hK => wp_append_B _ _ rfl (w.heap.size + 1) v5 _ (four (MaskP.mk nn)) ⟨gf6, zf6, none⟩ 4 cf6 rfl rfl HOF6.out rfl (by omega) ?d6 ?e6 ?f6 ?_)
        case d6 => intro q u hu; rw [Addr.add_lit]; exact HSF6.out.cells q u hu
        case e6 => have := HL.out; simp only [List.length_append, List.length_cons, List.length_nil, four]; omega
        case f6 => exact Nat.le_trans hsz3 HAF6.out.size
        intro v6 W6 o6 a6
        refine hK _ _ ?_
        clear hK
        have HO6 := Lib.hid o6; have HA6 := Lib.hid (HAF6.out.trans a6)
        have HE6 := Lib.hid (HEF6.out.app a6 (HAF6.out.ne (Nat.lt_of_lt_of_le HE3.out.lt (Nat.le_refl _)) HN.out))
        clear o6 a6 HOF6 HEF6 HSF6 HAF6
        obtain ⟨⟨c0, c1, c2, c3, c4⟩, _⟩ := HE6.out
        simp only [Nat.zero_add] at c0 c1 c2 c3 c4
        go_wp2_with fail
        clear c0 c1 c2 c3 c4
        refine (four_any W6 h0 hh1).mono ?_
        rintro x F7 ⟨f7, rfl, of7, bf7⟩
        obtain ⟨pf7, cf7, hvf7, -, hf7⟩ := of7.arg
        subst hvf7
        obtain ⟨gf7, zf7, rfl, -, sf7⟩ : ∃ b off, pf7 = some ⟨b, off, none⟩ ∧ b < F7.heap.size ∧ SeenB F7 b off (four h0) := by
          rcases hf7 with h | h
          · cases h
          · exact h
        have HOF7 := Lib.hid (HO6.out.keep bf7); have HEF7 := Lib.hid (HE6.out.kept bf7); have HSF7 := Lib.hid sf7; have HAF7 := Lib.hid (HA6.out.then bf7)
        clear of7 bf7 hf7 sf7
        rw [show (four h0).length = 4 from rfl]
        go_wp2_with (at_builtin; refine wpList_plain rfl fun _ hK => wp_append_B _ _ rfl (w.heap.size + 1) v6 _ (four h0) ⟨gf7, zf7, none⟩ 4 cf7 rfl rfl HOF7.out rfl (by omega) ?d7 ?e7 ?f7 ?_)
        case d7 => intro q u hu; rw [Addr.add_lit]; exact HSF7.out.cells q u hu
        case e7 => have := HL.out; simp only [List.length_append, List.length_cons, List.length_nil, four]; omega
        case f7 => exact Nat.le_trans hsz3 HAF7.out.size
        intro v7 W7 o7 a7
        refine hK _ _ ?_
        clear hK
        have HO7 := Lib.hid o7; have HA7 := Lib.hid (HAF7.out.trans a7)
        have HE7 := Lib.hid (HEF7.out.app a7 (HAF7.out.ne (Nat.lt_of_lt_of_le HE3.out.lt (Nat.le_refl _)) HN.out))
        clear o7 a7 HOF7 HEF7 HSF7 HAF7
        obtain ⟨⟨c0, c1, c2, c3, c4⟩, _⟩ := HE7.out
        simp only [Nat.zero_add] at c0 c1 c2 c3 c4
        go_wp2_with fail
        clear c0 c1 c2 c3 c4
        try rw [W32.out]
        refine (four_any W7 mm hm1).mono ?_
        rintro x F8 ⟨f8, rfl, of8, bf8⟩
        obtain ⟨pf8, cf8, hvf8, -, hf8⟩ := of8.arg
        subst hvf8
        obtain ⟨gf8, zf8, rfl, -, sf8⟩ : ∃ b off, pf8 = some ⟨b, off, none⟩ ∧ b < F8.heap.size ∧ SeenB F8 b off (four mm) := by
          rcases hf8 with h | h
          · cases h
          · exact h
        have HOF8 := Lib.hid (HO7.out.keep bf8); have HEF8 := Lib.hid (HE7.out.kept bf8); have HSF8 := Lib.hid sf8; have HAF8 := Lib.hid (HA7.out.then bf8)
        clear of8 bf8 hf8 sf8
        rw [show (four mm).length = 4 from rfl]
        go_wp2_with (at_builtin; refine wpList_plain rfl fun _ hK => wp_append_B _ _ rfl (w.heap.size + 1) v7 _ (four mm) ⟨gf8, zf8, none⟩ 4 cf8 rfl rfl HOF8.out rfl (by omega) ?d8 ?e8 ?f8 ?_)
        case d8 => intro q u hu; rw [Addr.add_lit]; exact HSF8.out.cells q u hu
        case e8 => have := HL.out; simp only [List.length_append, List.length_cons, List.length_nil, four]; omega
        case f8 => exact Nat.le_trans hsz3 HAF8.out.size
        intro v8 W8 o8 a8
        refine hK _ _ ?_
        clear hK
        have HO8 := Lib.hid o8; have HA8 := Lib.hid (HAF8.out.trans a8)
        have HE8 := Lib.hid (HEF8.out.app a8 (HAF8.out.ne (Nat.lt_of_lt_of_le HE3.out.lt (Nat.le_refl _)) HN.out))
        clear o8 a8 HOF8 HEF8 HSF8 HAF8
        go_wp2_with fail
        go_roundw
        case rel =>
          refine ⟨k + 1, by go_num, by omega, Lib.hid (by rw [← HMO.out]; simpa only [List.append_assoc, List.cons_append, List.nil_append] using HO8.out), Lib.hid (HM3.out.app HA8.out HNM.out), Lib.hid (HB3.out.trans (HA8.out.below (fun j hj => Nat.le_trans (Nat.le_succ _) (HV.out j hj)) (Nat.le_trans (Nat.le_succ _) hsz3)))⟩
        case measure => simp [RowKit.intOf]; omega
      · have e0 : l.take k = l := List.take_of_length_le (by omega)
        rw [e0] at HO
        go_wp2_with fail
        go_ret
        exact ⟨_, rfl, HO.out.down (Nat.le_succ _), HB.out⟩
end Go.Proofs.YtlgkjbkbdmneaaaDoor
