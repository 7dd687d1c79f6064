/-
  THE LAW WireTorn, walked: at every message and every number it returns true; what lay in memory stays.
-/
import Derived.Test.YtlgkjbkbdmneaaaDoorWired
import Derived.Test.YtlgkjbkbdmneaaaDoorWireDec
import Derived.Test.YtlgkjbkbdmneaaaDoorSameMsg
import Derived.Test.YtlgkjbkbdmneaaaDoorErrOne
import Derived.Deep.RegionHeld3
namespace Go.Proofs.YtlgkjbkbdmneaaaDoor
open Go.RowKit Go.Lib

theorem ArgE.take {w : World} {p : Option Addr} {l : List En} {c : Nat} (h : ArgE w (.slice p l.length c) l) (q : Nat) (hq : q ≤ l.length) : ArgE w (.slice p q c) (l.take q) := by
  obtain ⟨p', c', e, hc, h⟩ := h
  injection e with e1 e2 e3
  subst e1 e3
  refine ⟨p, c, by rw [List.length_take, Nat.min_eq_left hq], by rw [List.length_take]; omega, ?_⟩
  rcases h with h | ⟨b, off, hp, hb, hs⟩
  · exact Or.inl (by rw [h]; simp)
  · refine Or.inr ⟨b, off, hp, hb, fun i hi => ?_⟩
    have hi2 : i < l.length := by rw [List.length_take] at hi; omega
    have := hs i hi2
    rw [getElem!_pos l i hi2] at this
    rw [getElem!_pos _ i hi, List.getElem_take]
    exact this
theorem ArgB.take {w : World} {p : Option Addr} {l : List Nat} {n c : Nat} (h : ArgB w (.slice p n c) l) (q : Nat) (hq : q ≤ l.length) : ArgB w (.slice p q c) (l.take q) := by
  obtain ⟨p', c', e, hc, h⟩ := h
  injection e with e1 e2 e3
  subst e1 e3
  refine ⟨p, c, by rw [List.length_take, Nat.min_eq_left hq], by rw [List.length_take]; omega, ?_⟩
  rcases h with h | ⟨b, off, hp, hb, hs⟩
  · exact Or.inl (by rw [h]; simp)
  · refine Or.inr ⟨b, off, hp, hb, fun i hi => ?_⟩
    have hi2 : i < l.length := by rw [List.length_take] at hi; omega
    have := hs i hi2
    rw [getElem!_pos l i hi2] at this
    rw [getElem!_pos _ i hi, List.getElem_take]
    exact this
/-- The beginning of a message's bytes that ends within an entry is short. -/
theorem dec_torn {ask ask' : Bool} {l l' : List En} {q : Nat} {k : Int} (g : GoodM l) (hq : q ≤ (enc ask l).length) (hd : ¬ (4 ≤ q ∧ q % 20 = 4)) (h : DecIs ((enc ask l).take q) ask' l' k) : k = 6 ∧ ask' = false ∧ l' = [] := by
  have hl : ((enc ask l).take q).length = q := by rw [List.length_take]; omega
  rcases h with ⟨_, g1, e1⟩ | ⟨hk, h1, h2, _⟩ | ⟨_, _, _, hn⟩
  · exfalso
    have := congrArg List.length e1
    rw [hl, enc_len] at this
    omega
  · exact ⟨hk, h1, h2⟩
  · exact absurd ⟨ask, l, g, List.take_prefix _ _⟩ hn
theorem dec_cut {ask ask' : Bool} {l l' : List En} {q : Nat} {k : Int} (g : GoodM l) (hd : 4 ≤ q ∧ q % 20 = 4) (h : DecIs ((enc ask l).take q) ask' l' k) : k = 0 ∧ ask' = ask ∧ l' = l.take ((q - 4) / 20) := by
  have e : q = 4 + 20 * ((q - 4) / 20) := by omega
  rw [e, enc_take0] at h
  exact h.of_enc (g.take _) rfl
theorem rem20' (n : Nat) : (n : Int).tmod 20 = ((n % 20 : Nat) : Int) := rfl
theorem quo20 (q : Nat) (h : 4 ≤ q) : ((q : Int) - 4).tdiv 20 = (((q - 4) / 20 : Nat) : Int) := by
  rw [show (q : Int) - 4 = ((q - 4 : Nat) : Int) by omega]
  rfl

set_option maxHeartbeats 400000 in
set_option maxRecDepth 100000 in
theorem wireTorn_walk (w : World) (ask : Bool) (v : Value) (l : List En) (z : Int) (hln : l.length < 4611686018427387904) (hE : ArgE w v l) (hok : ∀ e ∈ l, e.Fits) (hT : ErrType w) :
    Calls Tryd.prog 4 #[.agg #[.bool ask, v], .int .i64 z] w fun x w' => x = .returned (.bool true) ∧ Below w.heap.size w w' := by
  have M0 := Box.new w (.bool ask) v 24
  have T0 := (Below.refl w.heap.size w).alloc (Nat.le_refl _) (.cells #[.bool ask, v] 24)
  have HEA := Lib.hid hE; have HK := Lib.hid hok; have HET := Lib.hid hT
  have HW := Lib.hid (wired_any (w.alloc (.cells #[.bool ask, v] 24)))
  have HT0 := Lib.hid T0; have HM0 := Lib.hid M0
  obtain ⟨p, c, hv, hc, -⟩ := hE
  clear T0 M0 hok hT
  subst hv
  go_enter Tryd.func4, Tryd.ntmps4
  go_wp2_with fail
  refine HW.out.mono ?_
  rintro x w1 ⟨rfl, b1⟩
  have HM1 := Lib.hid (HM0.out.kept b1)
  have HT1 := Lib.hid (Below.two HT0.out b1)
  obtain ⟨_, m0, m1, _, _⟩ := HM1.out
  clear b1 HW
  by_cases hg : WireP.chkM l = 0
  · have HG := Lib.hid ((GoodM.iff l HK.out).1 hg)
    have HE := Lib.hid (encode_ok w1 ask (.slice p l.length c) l (HEA.out.below HT1.out) HG.out)
    clear hg
    go_wp2_with fail
    refine HE.out.mono ?_
    rintro x w2 ⟨vx, rfl, ox, b2⟩
    have HM2 := Lib.hid (HM1.out.kept b2)
    have HT2 := Lib.hid (Below.two HT1.out b2)
    have hfew := HG.out.few
    have HXL := Lib.hid (enc_len ask l)
    have HX := Lib.hid ox.arg
    obtain ⟨px, cx, hvx, hcx, -⟩ := ox.arg
    subst hvx
    clear m0 m1 b2 HE ox
    generalize hnx : (enc ask l).length = nx at HXL HX hcx ⊢
    have HNX := Lib.hid hnx
    clear hnx
    by_cases hz : z < 0
    · go_wp2_with fail
      go_ret
      exact ⟨rfl, HT2.out⟩
    · obtain ⟨q, rfl⟩ := Int.eq_ofNat_of_zero_le (show 0 ≤ z by omega)
      by_cases hq : nx ≤ q
      · have hq' : (nx : Int) ≤ q := by omega
        go_wp2_with fail
        go_ret
        exact ⟨rfl, HT2.out⟩
      · have hq' : ¬ (nx : Int) ≤ q := by omega
        have hnq : nx ≤ 504 := by have := HXL.out; omega
        have HD := Lib.hid (decode_any w2 (.slice px q cx) ((enc ask l).take q) (by rw [List.length_take]; omega) ((Byt.enc HG.out ask).take q) (HX.out.take q (by rw [HNX.out]; omega)))
        go_wp2_with fail
        refine HD.out.mono ?_
        rintro x w3 ⟨ask3, v3, l3, k3, rfl, dec, o3, b3⟩
        have B4 := (Below.refl _ w3).alloc (Nat.le_refl _) (.cells #[.bool ask3, v3] 24)
        have HN4 := Lib.hid (Box.new w3 (.bool ask3) v3 24)
        have HM4 := Lib.hid ((HM2.out.kept b3).kept B4)
        have HT4 := Lib.hid (Below.two (Below.two HT2.out b3) B4)
        have HO3 := Lib.hid (o3.keep B4)
        have HE4 := Lib.hid (HET.out.below HT4.out)
        have hz3 := HT2.out.size
        obtain ⟨p3, c3, hv3, -, -⟩ := o3.arg
        subst hv3
        obtain ⟨_, n0, n1, _, _⟩ := HN4.out
        obtain ⟨_, m0, m1, _, _⟩ := HM4.out
        by_cases hd : 4 ≤ q ∧ q % 20 = 4
        · obtain ⟨rfl, rfl, el⟩ := dec_cut HG.out hd dec
          rw [show errV 0 = Value.nilIface from rfl]
          have r1 : (4 : Int) ≤ q := by omega
          have r2 := rem20' q
          rw [hd.2] at r2
          have hq2 : (q - 4) / 20 ≤ l.length := by have := HXL.out; omega
          have QD := Lib.hid (show IntKind.i64.wrap ((IntKind.i64.wrap ((q : Int) - 4)).tdiv 20) = (((q - 4) / 20 : Nat) : Int) by rw [IntKind.wrap_i64 ((q : Int) - 4), show ((q : Int) - 4 + 9223372036854775808) % 18446744073709551616 - 9223372036854775808 = (q : Int) - 4 by omega, quo20 q hd.1, IntKind.wrap_i64]; omega)
          generalize (q - 4) / 20 = qd at el hq2 QD
          have QC := Lib.hid (show qd ≤ c by omega)
          have HS := Lib.hid (sameEnts_any _ (.slice p3 l3.length c3) (.slice p qd c) l3 (l.take qd) (by rw [el, List.length_take]; omega) (HO3.out.keep ((Below.refl _ _).drew)).arg ((HEA.out.below HT4.out.drew).take _ hq2))
          rw [decide_eq_true el] at HS
          clear dec o3 b3 B4 HD el
          go_wp2_with fail
          refine wp_region_held_drew (S := (fun w' => w'.cell? ⟨w3.heap.size, 1, none⟩ = some (.slice p3 l3.length c3) ∧ w'.cell? ⟨w.heap.size, 1, none⟩ = some (.slice p l.length c))) (by kernel_rfl) ⟨HN4.out.drew.c1, HM4.out.drew.c1⟩ (fun hHeld => ?_)
          refine wpAnyH_take (i := 0) (oi := { dst := some 52, op := Op.fieldAddr 24 (Operand.tmp 8) 1, type := 0, pos := "nets.go:473", after := #[], guard := none }) (v := ?_) rfl (by kernel_rfl) (by kernel_rfl) (by kernel_rfl) (fun _ _ _ h => h) (Or.inl ⟨by rfl, ?_⟩) hHeld ?_
          rotate_left
          · (intro w hSw; (try dsimp only at hSw); go_simp; first | done | with_reducible rfl)
          simp only [Act.put, List.setIfInBounds_toArray, List.set_cons_zero, List.set_cons_succ]
          refine wpAnyH_take (i := 1) (oi := { dst := some 53, op := Op.load 22 (Operand.tmp 52), type := 22, pos := "nets.go:473", after := #[{ on := 0, ground := Ground.data }], guard := none }) (v := ?_) rfl (by kernel_rfl) (by kernel_rfl) (by kernel_rfl) (fun _ _ _ h => h) (Or.inl ⟨by rfl, ?_⟩) hHeld ?_
          rotate_left
          · (intro w hSw; (try dsimp only at hSw); go_simp; first | done | with_reducible rfl)
          simp only [Act.put, List.setIfInBounds_toArray, List.set_cons_zero, List.set_cons_succ]
          refine wpAnyH_take (i := 2) (oi := { dst := some 54, op := Op.fieldAddr 24 (Operand.tmp 2) 1, type := 0, pos := "nets.go:473", after := #[], guard := none }) (v := ?_) rfl (by kernel_rfl) (by kernel_rfl) (by kernel_rfl) (fun _ _ _ h => h) (Or.inl ⟨by rfl, ?_⟩) hHeld ?_
          rotate_left
          · (intro w hSw; (try dsimp only at hSw); go_simp; first | done | with_reducible rfl)
          simp only [Act.put, List.setIfInBounds_toArray, List.set_cons_zero, List.set_cons_succ]
          refine wpAnyH_take (i := 3) (oi := { dst := some 55, op := Op.load 22 (Operand.tmp 54), type := 22, pos := "nets.go:473", after := #[{ on := 2, ground := Ground.data }], guard := none }) (v := ?_) rfl (by kernel_rfl) (by kernel_rfl) (by kernel_rfl) (fun _ _ _ h => h) (Or.inl ⟨by rfl, ?_⟩) hHeld ?_
          rotate_left
          · (intro w hSw; (try dsimp only at hSw); go_simp; first | done | with_reducible rfl)
          simp only [Act.put, List.setIfInBounds_toArray, List.set_cons_zero, List.set_cons_succ]
          refine wpAnyH_take (i := 4) (oi := { dst := some 56, op := Op.move (Operand.tmp 1), type := 3, pos := "nets.go:473", after := #[], guard := none }) (v := ?_) rfl (by kernel_rfl) (by kernel_rfl) (by kernel_rfl) (fun _ _ _ h => h) (Or.inl ⟨by rfl, ?_⟩) hHeld ?_
          rotate_left
          · (intro w hSw; (try dsimp only at hSw); go_simp; first | done | with_reducible rfl)
          simp only [Act.put, List.setIfInBounds_toArray, List.set_cons_zero, List.set_cons_succ]
          refine wpAnyH_take (i := 5) (oi := { dst := some 57, op := Op.binOp BinOp.sub 3 (Operand.tmp 56) (Operand.const (Value.int IntKind.i64 4)) 3, type := 3, pos := "nets.go:473", after := #[{ on := 4, ground := Ground.data }], guard := none }) (v := ?_) rfl (by kernel_rfl) (by kernel_rfl) (by kernel_rfl) (fun _ _ _ h => h) (Or.inl ⟨by rfl, ?_⟩) hHeld ?_
          rotate_left
          · (intro w hSw; (try dsimp only at hSw); go_simp; first | done | with_reducible rfl)
          simp only [Act.put, List.setIfInBounds_toArray, List.set_cons_zero, List.set_cons_succ]
          refine wpAnyH_take (i := 6) (oi := { dst := some 58, op := Op.binOp BinOp.quo 3 (Operand.tmp 57) (Operand.const (Value.int IntKind.i64 20)) 3, type := 3, pos := "nets.go:473", after := #[{ on := 5, ground := Ground.data }], guard := none }) (v := ?_) rfl (by kernel_rfl) (by kernel_rfl) (by kernel_rfl) (fun _ _ _ h => h) (Or.inl ⟨by rfl, ?_⟩) hHeld ?_
          rotate_left
          · (intro w hSw; (try dsimp only at hSw); go_simp; rw [QD.out]; first | done | with_reducible rfl)
          simp only [Act.put, List.setIfInBounds_toArray, List.set_cons_zero, List.set_cons_succ]
          refine wpAnyH_take (i := 7) (oi := { dst := some 59, op := Op.slice 22 (Operand.tmp 55) none (some (Operand.tmp 58)) none, type := 22, pos := "nets.go:473", after := #[{ on := 3, ground := Ground.data }, { on := 6, ground := Ground.data }], guard := none }) (v := ?_) rfl (by kernel_rfl) (by kernel_rfl) (by kernel_rfl) (fun _ _ _ h => h) (Or.inl ⟨by rfl, ?_⟩) hHeld ?_
          rotate_left
          · (intro w hSw; (try dsimp only at hSw); go_simp; rw [if_pos QC.out]; first | done | with_reducible rfl)
          simp only [Act.put, List.setIfInBounds_toArray, List.set_cons_zero, List.set_cons_succ]
          refine wpAnyH_ready (rs := [8]) (by kernel_rfl) (by simp) ?_
          refine AllReadyH.cons (o := { dst := some 60, op := Op.call { callee := Callee.value (Operand.func 17), args := #[Operand.tmp 53, Operand.tmp 59], argTypes := #[22, 22] }, type := 4, pos := "nets.go:473", after := #[{ on := 1, ground := Ground.data }, { on := 7, ground := Ground.data }], guard := none }) rfl (fun K hK => ?_) AllReadyH.nil
          go_simp
          go_at_call 17
          refine HS.out.mono ?_
          rintro y w5 ⟨rfl, b5⟩
          have HT5 := Lib.hid (Below.two HT4.out.drew b5)
          have HM5 := Lib.hid (HM4.out.drew.kept b5)
          have HN5 := Lib.hid (HN4.out.drew.kept b5)
          have KK0 := (⟨HN5.out.c1, HM5.out.c1⟩ : w5.cell? ⟨w3.heap.size, 1, none⟩ = some (.slice p3 l3.length c3) ∧ w5.cell? ⟨w.heap.size, 1, none⟩ = some (.slice p l.length c))
          go_wp2_with fail
          refine hK.out _ _ KK0 (fun hHeld => ?_)
          clear hK K
          refine wpAnyH_take (i := 9) (oi := { dst := some 10, op := Op.assign (Operand.tmp 60), type := 4, pos := "nets.go:473", after := #[{ on := 8, ground := Ground.data }, { on := 8, ground := Ground.chain }, { on := 0, ground := Ground.phase }, { on := 1, ground := Ground.phase }, { on := 2, ground := Ground.phase }, { on := 3, ground := Ground.phase }, { on := 4, ground := Ground.phase }, { on := 5, ground := Ground.phase }, { on := 6, ground := Ground.phase }, { on := 7, ground := Ground.phase }, { on := 8, ground := Ground.phase }], guard := none }) (v := ?_) rfl (by kernel_rfl) (by kernel_rfl) (by kernel_rfl) (fun _ _ _ h => h) (Or.inl ⟨by rfl, ?_⟩) hHeld ?_
          rotate_left
          · (intro w hSw; (try dsimp only at hSw); go_simp; first | done | with_reducible rfl)
          simp only [Act.put, List.setIfInBounds_toArray, List.set_cons_zero, List.set_cons_succ]
          refine wpAnyH_done (by kernel_rfl) ?_ _
          obtain ⟨_, n0, n1, _, _⟩ := HN5.out
          obtain ⟨_, m0, m1, _, _⟩ := HM5.out
          cases ask3
          · go_wp2_with fail
            go_ret
            exact ⟨rfl, HT5.out⟩
          · go_wp2_with fail
            go_ret
            exact ⟨rfl, HT5.out⟩
        · obtain ⟨rfl, rfl, rfl⟩ := dec_torn HG.out (by rw [HNX.out]; omega) hd dec
          have HS := Lib.hid (sameErr_any 6 6 _ HE4.out)
          clear dec o3 b3 B4 HD
          by_cases r1 : (4 : Int) ≤ q
          · have r2 := rem20' q
            have r3 : (((q % 20 : Nat) : Int) == 4) = false := by
              have : ¬ ((q % 20 : Nat) : Int) = 4 := by omega
              simpa using this
            generalize q % 20 = qq at r2 r3
            go_wp2_with fail
            refine HS.out.mono ?_
            rintro x w5 ⟨rfl, b5⟩
            have HT5 := Lib.hid (Below.two HT4.out b5)
            have HN5 := Lib.hid (HN4.out.kept b5)
            clear n0 n1 m0 m1 b5
            obtain ⟨_, n0, n1, _, _⟩ := HN5.out
            rw [show ((6 : Int) == 6) = true from rfl]
            go_wp2_with fail
            go_ret
            exact ⟨rfl, HT5.out⟩
          · go_wp2_with fail
            refine HS.out.mono ?_
            rintro x w5 ⟨rfl, b5⟩
            have HT5 := Lib.hid (Below.two HT4.out b5)
            have HN5 := Lib.hid (HN4.out.kept b5)
            clear n0 n1 m0 m1 b5
            obtain ⟨_, n0, n1, _, _⟩ := HN5.out
            rw [show ((6 : Int) == 6) = true from rfl]
            go_wp2_with fail
            go_ret
            exact ⟨rfl, HT5.out⟩
  · have HE := Lib.hid (encode_bad w1 ask (.slice p l.length c) l hln (HEA.out.below HT1.out) HK.out hg)
    rw [show errV (WireP.chkM l) = .iface 27 (.int .i64 (WireP.chkM l)) from if_neg hg] at HE
    clear hg
    generalize WireP.chkM l = qq at HE
    go_wp2_with fail
    refine HE.out.mono ?_
    rintro x w2 ⟨rfl, b2⟩
    have HT2 := Lib.hid (Below.two HT1.out b2)
    clear m0 m1 b2 HE
    go_wp2_with fail
    go_ret
    exact ⟨rfl, HT2.out⟩
end Go.Proofs.YtlgkjbkbdmneaaaDoor
