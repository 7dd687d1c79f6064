/-
  The law WaysFirst at every number of nodes, every links, two nodes and nodes in a row: it tells true; what lay in memory stays.
-/
import Derived.Test.YtomfkmclgabcpaaWaysGone
import Derived.Test.YtomfkmclgabcpaaWaysWk
import Derived.Test.YtomfkmclgabcpaaSpfCode
import Derived.Test.YtomfkmclgabcpaaRefCompared
import Derived.Deep.QuietTactic
import Derived.BigQuiet
namespace Go.Proofs.Ytomfkmclgabcpaa
open Go.RowKit Go.Lib

set_option maxHeartbeats 2000000 in
set_option maxRecDepth 100000 in
theorem wf_1 (w : World) (n a b : Int) (v u : Value) (l : List Lk) (hn : l.length < 4611686018427387904) (h : ArgK w v l) (hg : wayBad n l a b ≠ 0) :
    Calls Try.prog 3 #[.int .i64 n, v, .int .i64 a, .int .i64 b, u] w fun e w' => e = .returned (.bool true) ∧ Below w.heap.size w w' := by
  have HL := Lib.hid (h)
  have HR := Lib.hid (fun w1 (h1 : ArgK w1 v l) => first_bad w1 n a b v l hn h1 hg)
  rw [show errV (wayBad n l a b) = .iface 44 (.int .i64 (wayBad n l a b)) from if_neg hg] at HR
  clear h
  generalize wayBad n l a b = q at HR hg
  have HZZ : Hid (Below w.heap.size w w) := Lib.hid (Below.refl _ _)
  go_enter Try.func3, Try.ntmps3
  go_wp2_with fail
  refine (gone_any w).mono ?_
  rintro e w1 ⟨rfl, hb1⟩
  have HL' := Lib.hid (HL.out.below hb1)
  have HZZ' := Lib.hid (Below.two HZZ.out hb1)
  clear hb1 HZZ HL
  have HZZ := HZZ'
  clear HZZ'
  have HL := HL'
  clear HL'
  go_wp2_with fail
  refine (HR.out _ HL.out).mono ?_
  rintro e w2 ⟨rfl, hb2⟩
  have HL' := Lib.hid (HL.out.below hb2)
  have HZZ' := Lib.hid (Below.two HZZ.out hb2)
  clear hb2 HZZ HL
  have HZZ := HZZ'
  clear HZZ'
  have HL := HL'
  clear HL'
  go_wp2_with fail
  go_ret
  exact ⟨rfl, HZZ.out⟩
set_option maxHeartbeats 2000000 in
set_option maxRecDepth 100000 in
theorem wf_2 (w : World) (m s t : Nat) (v u : Value) (l : List Lk) (hn : l.length < 4611686018427387904) (h : ArgK w v l) (hg : gBad m l = 0) (hs : s < m) (ht : t < m) (hne : s ≠ t) (h16 : ¬ BellP.far m (BellP.ct l) t s < 16) :
    Calls Try.prog 3 #[.int .i64 m, v, .int .i64 s, .int .i64 t, u] w fun e w' => e = .returned (.bool true) ∧ Below w.heap.size w w' := by
  have HL := Lib.hid (h)
  clear h
  have HZZ : Hid (Below w.heap.size w w) := Lib.hid (Below.refl _ _)
  go_enter Try.func3, Try.ntmps3
  go_wp2_with fail
  refine (gone_any w).mono ?_
  rintro e w1 ⟨rfl, hb1⟩
  have HL' := Lib.hid (HL.out.below hb1)
  have HZZ' := Lib.hid (Below.two HZZ.out hb1)
  clear hb1 HZZ HL
  have HZZ := HZZ'
  clear HZZ'
  have HL := HL'
  clear HL'
  go_wp2_with fail
  refine (first_none w1 m s t v l hn HL.out hg hs ht hne h16).mono ?_
  rintro e w2 ⟨rfl, hb2⟩
  have HL' := Lib.hid (HL.out.below hb2)
  have HZZ' := Lib.hid (Below.two HZZ.out hb2)
  clear hb2 HZZ HL
  have HZZ := HZZ'
  clear HZZ'
  have HL := HL'
  clear HL'
  go_wp2_with fail
  go_ret
  exact ⟨rfl, HZZ.out⟩
set_option maxHeartbeats 2000000 in
set_option maxRecDepth 100000 in
theorem wf_3 (w : World) (m s t : Nat) (v u : Value) (l : List Lk) (hn : l.length < 4611686018427387904) (h : ArgK w v l) (hg : gBad m l = 0) (hs : s < m) (ht : t < m) (ws : List Int) (hw : ws.length * 8 ≤ 140737488351232) (hu : ArgI w u ws) (hrm : Room u) (h16 : BellP.far m (BellP.ct l) t s < 16) (hz : lengthG m l ws = none) :
    Calls Try.prog 3 #[.int .i64 m, v, .int .i64 s, .int .i64 t, u] w fun e w' => e = .returned (.bool true) ∧ Below w.heap.size w w' := by
  have HL := Lib.hid (h)
  have HU := Lib.hid (hu)
  have HN := Lib.hid (fun w1 (h1 : ArgK w1 v l) (h2 : ArgI w1 u ws) => length_ok w1 m v u l ws hn (by omega) h1 h2 hrm hg)
  rw [hz] at HN
  have hR := ((gBad_zero m l).1 hg).2
  have hK := BellP.ct_cost hR
  have hW := WaysP.fst_wk hK hs ht h16
  have hsh := hW.short hK
  have hfb := BellP.far_bd m (BellP.ct l) t s
  have HLp := Lib.hid (fun w1 p (h1 : ArgK w1 v l) (h2 : ArgI w1 p (WaysP.zs (WaysP.fst m (BellP.ct l) t s))) (h3 : Room p) => length_ok w1 m v p l _ hn (by rw [WaysP.zs_len]; omega) h1 h2 h3 hg)
  rw [wk_length hR hW (by omega)] at HLp
  have HFo := Lib.hid (fun w1 (h1 : ArgK w1 v l) => first_ok w1 m s t v l hn h1 hg hs ht h16)
  have HSY := Lib.hid (SpfP.far_sym hK (SpfP.ct_sym l) ht hs)
  obtain ⟨j, hj⟩ : ∃ j, (WaysP.zs (WaysP.fst m (BellP.ct l) t s)).length = j + 1 := by
    obtain ⟨P0, hP⟩ := hW.head
    exact ⟨P0.length, by rw [WaysP.zs_len, hP]; rfl⟩
  have hj16 : j ≤ 16 := by rw [WaysP.zs_len] at hj; omega
  have HP0 : Hid ((WaysP.zs (WaysP.fst m (BellP.ct l) t s))[0]! = s) := Lib.hid (by
    obtain ⟨P0, hP⟩ := hW.head
    rw [hP]; rfl)
  have HPj : Hid ((WaysP.zs (WaysP.fst m (BellP.ct l) t s))[j]! = t) := Lib.hid (by
    have h1 := hW.last
    rw [WaysP.zs_len] at hj
    rw [hj] at h1
    rw [WaysP.zs_at _ _ (by omega), show j = j + 1 - 1 by omega, h1])
  generalize WaysP.zs (WaysP.fst m (BellP.ct l) t s) = P at *
  have HJ := Lib.hid hj
  obtain ⟨pu, cu, rfl, _⟩ := id hu
  clear h hu hz hR hrm hW hsh hfb hK hj h16
  have HZZ : Hid (Below w.heap.size w w) := Lib.hid (Below.refl _ _)
  go_enter Try.func3, Try.ntmps3
  go_wp2_with fail
  refine (gone_any w).mono ?_
  rintro e w1 ⟨rfl, hb1⟩
  have HL' := Lib.hid (HL.out.below hb1)
  have HU' := Lib.hid (HU.out.below hb1)
  have HZZ' := Lib.hid (Below.two HZZ.out hb1)
  clear hb1 HZZ HL HU
  have HZZ := HZZ'
  clear HZZ'
  have HL := HL'
  clear HL'
  have HU := HU'
  clear HU'
  go_wp2_with fail
  refine (HFo.out _ HL.out).mono ?_
  rintro e w2 ⟨p, rfl, hP1, hb2⟩
  have HL' := Lib.hid (HL.out.below hb2)
  have HU' := Lib.hid (HU.out.below hb2)
  have HZZ' := Lib.hid (Below.two HZZ.out hb2)
  have HP := Lib.hid (hP1)
  clear hb2 HZZ HL HU
  have HZZ := HZZ'
  clear HZZ'
  have HL := HL'
  clear HL'
  have HU := HU'
  clear HU'
  have HRp := Lib.hid hP1.room
  clear hP1
  obtain ⟨pp, cp, rfl, _⟩ := HP.out.arg
  go_wp2_with fail
  refine (far_ok w2 m s v l hn HL.out hg hs).mono ?_
  rintro e w3 ⟨f1, _, rfl, hV, hb3⟩
  have HL' := Lib.hid (HL.out.below hb3)
  have HU' := Lib.hid (HU.out.below hb3)
  have HP' := Lib.hid (HP.out.keep hb3)
  have HZZ' := Lib.hid (Below.two HZZ.out hb3)
  have HX := Lib.hid (hV)
  clear hb3 HZZ HL HU HP
  have HZZ := HZZ'
  clear HZZ'
  have HL := HL'
  clear HL'
  have HU := HU'
  clear HU'
  have HP := HP'
  clear HP'
  clear hV
  go_wp2_with fail
  refine (HLp.out _ _ HL.out HP.out.arg HRp.out).mono ?_
  rintro e w4 ⟨rfl, hb4⟩
  have HL' := Lib.hid (HL.out.below hb4)
  have HU' := Lib.hid (HU.out.below hb4)
  have HP' := Lib.hid (HP.out.keep hb4)
  have HX' := Lib.hid (HX.out.keep hb4)
  have HZZ' := Lib.hid (Below.two HZZ.out hb4)
  clear hb4 HZZ HL HU HP HX
  have HZZ := HZZ'
  clear HZZ'
  have HL := HL'
  clear HL'
  have HU := HU'
  clear HU'
  have HP := HP'
  clear HP'
  have HX := HX'
  clear HX'
  simp only [lenE]
  clear HLp HFo
  obtain ⟨_, _, e1, hp⟩ := HP.out.arg
  injection e1 with e2 e3 e4
  clear e3
  subst e2 e4
  rcases hp with e | ⟨bp, op, rfl, hbp, hsp⟩
  · have := HJ.out
    rw [e] at this
    cases this
  have a0 : w4.cell? ⟨bp, op, none⟩ = some (.int .i64 s) := by
    have := hsp 0 (by rw [HJ.out]; omega)
    rwa [HP0.out] at this
  have aj : w4.cell? ⟨bp, op + j, none⟩ = some (.int .i64 t) := by
    have := hsp j (by rw [HJ.out]; omega)
    rwa [HPj.out] at this
  have xt := HX.out.c t ht
  rw [← HSY.out] at xt
  have HPA := Lib.hid (show ArgI w4 (.slice (some ⟨bp, op, none⟩) P.length cp) P from ⟨_, _, rfl, Or.inr ⟨bp, op, rfl, hbp, hsp⟩⟩)
  clear hsp HX HP hbp
  rw [HJ.out]
  generalize BellP.far m (BellP.ct l) t s = F at *
  have hwj : IntKind.i64.wrap (j : Int) = j := by rw [IntKind.wrap_i64]; omega
  go_wp2_with fail
  refine (HN.out _ HL.out HU.out).mono ?_
  rintro e w5 ⟨rfl, hb5⟩
  have HL' := Lib.hid (HL.out.below hb5)
  have HU' := Lib.hid (HU.out.below hb5)
  have HPA' := Lib.hid (HPA.out.below hb5)
  have HZZ' := Lib.hid (Below.two HZZ.out hb5)
  clear hb5 HZZ HL HU HPA
  have HZZ := HZZ'
  clear HZZ'
  have HL := HL'
  clear HL'
  have HU := HU'
  clear HU'
  have HPA := HPA'
  clear HPA'
  simp only [lenE]
  go_wp2_with fail
  go_ret
  exact ⟨rfl, HZZ.out⟩
set_option maxHeartbeats 2000000 in
set_option maxRecDepth 100000 in
theorem wf_4 (w : World) (m s t : Nat) (v u : Value) (l : List Lk) (hn : l.length < 4611686018427387904) (h : ArgK w v l) (hg : gBad m l = 0) (hs : s < m) (ht : t < m) (ws : List Int) (hw : ws.length * 8 ≤ 140737488351232) (hu : ArgI w u ws) (hrm : Room u) (h16 : BellP.far m (BellP.ct l) t s < 16) (z : Int) (hz : lengthG m l ws = some z) (i : Nat) (hi : ws.length = i + 1) (h0 : ws[0]! ≠ s) :
    Calls Try.prog 3 #[.int .i64 m, v, .int .i64 s, .int .i64 t, u] w fun e w' => e = .returned (.bool true) ∧ Below w.heap.size w w' := by
  have HL := Lib.hid (h)
  have HU := Lib.hid (hu)
  have HN := Lib.hid (fun w1 (h1 : ArgK w1 v l) (h2 : ArgI w1 u ws) => length_ok w1 m v u l ws hn (by omega) h1 h2 hrm hg)
  rw [hz] at HN
  have hR := ((gBad_zero m l).1 hg).2
  have hK := BellP.ct_cost hR
  have hW := WaysP.fst_wk hK hs ht h16
  have hsh := hW.short hK
  have hfb := BellP.far_bd m (BellP.ct l) t s
  have HLp := Lib.hid (fun w1 p (h1 : ArgK w1 v l) (h2 : ArgI w1 p (WaysP.zs (WaysP.fst m (BellP.ct l) t s))) (h3 : Room p) => length_ok w1 m v p l _ hn (by rw [WaysP.zs_len]; omega) h1 h2 h3 hg)
  rw [wk_length hR hW (by omega)] at HLp
  have HFo := Lib.hid (fun w1 (h1 : ArgK w1 v l) => first_ok w1 m s t v l hn h1 hg hs ht h16)
  have HSY := Lib.hid (SpfP.far_sym hK (SpfP.ct_sym l) ht hs)
  obtain ⟨j, hj⟩ : ∃ j, (WaysP.zs (WaysP.fst m (BellP.ct l) t s)).length = j + 1 := by
    obtain ⟨P0, hP⟩ := hW.head
    exact ⟨P0.length, by rw [WaysP.zs_len, hP]; rfl⟩
  have hj16 : j ≤ 16 := by rw [WaysP.zs_len] at hj; omega
  have HP0 : Hid ((WaysP.zs (WaysP.fst m (BellP.ct l) t s))[0]! = s) := Lib.hid (by
    obtain ⟨P0, hP⟩ := hW.head
    rw [hP]; rfl)
  have HPj : Hid ((WaysP.zs (WaysP.fst m (BellP.ct l) t s))[j]! = t) := Lib.hid (by
    have h1 := hW.last
    rw [WaysP.zs_len] at hj
    rw [hj] at h1
    rw [WaysP.zs_at _ _ (by omega), show j = j + 1 - 1 by omega, h1])
  have HI := Lib.hid hi
  have hib : i < 17592186043904 := by omega
  clear hi
  generalize WaysP.zs (WaysP.fst m (BellP.ct l) t s) = P at *
  have HJ := Lib.hid hj
  obtain ⟨pu, cu, rfl, _⟩ := id hu
  clear h hu hz hR hrm hW hsh hfb hK hj h16
  have HZZ : Hid (Below w.heap.size w w) := Lib.hid (Below.refl _ _)
  go_enter Try.func3, Try.ntmps3
  go_wp2_with fail
  refine (gone_any w).mono ?_
  rintro e w1 ⟨rfl, hb1⟩
  have HL' := Lib.hid (HL.out.below hb1)
  have HU' := Lib.hid (HU.out.below hb1)
  have HZZ' := Lib.hid (Below.two HZZ.out hb1)
  clear hb1 HZZ HL HU
  have HZZ := HZZ'
  clear HZZ'
  have HL := HL'
  clear HL'
  have HU := HU'
  clear HU'
  go_wp2_with fail
  refine (HFo.out _ HL.out).mono ?_
  rintro e w2 ⟨p, rfl, hP1, hb2⟩
  have HL' := Lib.hid (HL.out.below hb2)
  have HU' := Lib.hid (HU.out.below hb2)
  have HZZ' := Lib.hid (Below.two HZZ.out hb2)
  have HP := Lib.hid (hP1)
  clear hb2 HZZ HL HU
  have HZZ := HZZ'
  clear HZZ'
  have HL := HL'
  clear HL'
  have HU := HU'
  clear HU'
  have HRp := Lib.hid hP1.room
  clear hP1
  obtain ⟨pp, cp, rfl, _⟩ := HP.out.arg
  go_wp2_with fail
  refine (far_ok w2 m s v l hn HL.out hg hs).mono ?_
  rintro e w3 ⟨f1, _, rfl, hV, hb3⟩
  have HL' := Lib.hid (HL.out.below hb3)
  have HU' := Lib.hid (HU.out.below hb3)
  have HP' := Lib.hid (HP.out.keep hb3)
  have HZZ' := Lib.hid (Below.two HZZ.out hb3)
  have HX := Lib.hid (hV)
  clear hb3 HZZ HL HU HP
  have HZZ := HZZ'
  clear HZZ'
  have HL := HL'
  clear HL'
  have HU := HU'
  clear HU'
  have HP := HP'
  clear HP'
  clear hV
  go_wp2_with fail
  refine (HLp.out _ _ HL.out HP.out.arg HRp.out).mono ?_
  rintro e w4 ⟨rfl, hb4⟩
  have HL' := Lib.hid (HL.out.below hb4)
  have HU' := Lib.hid (HU.out.below hb4)
  have HP' := Lib.hid (HP.out.keep hb4)
  have HX' := Lib.hid (HX.out.keep hb4)
  have HZZ' := Lib.hid (Below.two HZZ.out hb4)
  clear hb4 HZZ HL HU HP HX
  have HZZ := HZZ'
  clear HZZ'
  have HL := HL'
  clear HL'
  have HU := HU'
  clear HU'
  have HP := HP'
  clear HP'
  have HX := HX'
  clear HX'
  simp only [lenE]
  clear HLp HFo
  obtain ⟨_, _, e1, hp⟩ := HP.out.arg
  injection e1 with e2 e3 e4
  clear e3
  subst e2 e4
  rcases hp with e | ⟨bp, op, rfl, hbp, hsp⟩
  · have := HJ.out
    rw [e] at this
    cases this
  have a0 : w4.cell? ⟨bp, op, none⟩ = some (.int .i64 s) := by
    have := hsp 0 (by rw [HJ.out]; omega)
    rwa [HP0.out] at this
  have aj : w4.cell? ⟨bp, op + j, none⟩ = some (.int .i64 t) := by
    have := hsp j (by rw [HJ.out]; omega)
    rwa [HPj.out] at this
  have xt := HX.out.c t ht
  rw [← HSY.out] at xt
  have HPA := Lib.hid (show ArgI w4 (.slice (some ⟨bp, op, none⟩) P.length cp) P from ⟨_, _, rfl, Or.inr ⟨bp, op, rfl, hbp, hsp⟩⟩)
  clear hsp HX HP hbp
  rw [HJ.out]
  generalize BellP.far m (BellP.ct l) t s = F at *
  have hwj : IntKind.i64.wrap (j : Int) = j := by rw [IntKind.wrap_i64]; omega
  go_wp2_with fail
  refine (HN.out _ HL.out HU.out).mono ?_
  rintro e w5 ⟨rfl, hb5⟩
  have HL' := Lib.hid (HL.out.below hb5)
  have HU' := Lib.hid (HU.out.below hb5)
  have HPA' := Lib.hid (HPA.out.below hb5)
  have HZZ' := Lib.hid (Below.two HZZ.out hb5)
  clear hb5 HZZ HL HU HPA
  have HZZ := HZZ'
  clear HZZ'
  have HL := HL'
  clear HL'
  have HU := HU'
  clear HU'
  have HPA := HPA'
  clear HPA'
  simp only [lenE]
  obtain ⟨_, _, e1, hq⟩ := HU.out
  injection e1 with e2 e3 e4
  clear e3
  subst e2 e4
  rcases hq with e | ⟨bq, oq, rfl, hbq, hsq⟩
  · have := HI.out
    rw [e] at this
    cases this
  have q0 : w5.cell? ⟨bq, oq, none⟩ = some (.int .i64 ws[0]!) := hsq 0 (by rw [HI.out]; omega)
  have qj : w5.cell? ⟨bq, oq + i, none⟩ = some (.int .i64 ws[i]!) := hsq i (by rw [HI.out]; omega)
  have HSQ := Lib.hid (And.intro hbq hsq)
  clear hsq hbq HU
  have hwi : IntKind.i64.wrap (i : Int) = i := by rw [IntKind.wrap_i64]; omega
  generalize ws[0]! = y0 at q0 h0
  generalize ws[i]! = yi at qj
  have t0 : (y0 != (s : Int)) = true := by simpa using h0
  clear h0
  rw [HI.out]
  go_wp2_with fail
  go_ret
  exact ⟨rfl, HZZ.out⟩
set_option maxHeartbeats 2000000 in
set_option maxRecDepth 100000 in
theorem wf_5 (w : World) (m s t : Nat) (v u : Value) (l : List Lk) (hn : l.length < 4611686018427387904) (h : ArgK w v l) (hg : gBad m l = 0) (hs : s < m) (ht : t < m) (ws : List Int) (hw : ws.length * 8 ≤ 140737488351232) (hu : ArgI w u ws) (hrm : Room u) (h16 : BellP.far m (BellP.ct l) t s < 16) (z : Int) (hz : lengthG m l ws = some z) (i : Nat) (hi : ws.length = i + 1) (h0 : ws[0]! = s) (hj0 : ws[i]! ≠ t) :
    Calls Try.prog 3 #[.int .i64 m, v, .int .i64 s, .int .i64 t, u] w fun e w' => e = .returned (.bool true) ∧ Below w.heap.size w w' := by
  have HL := Lib.hid (h)
  have HU := Lib.hid (hu)
  have HN := Lib.hid (fun w1 (h1 : ArgK w1 v l) (h2 : ArgI w1 u ws) => length_ok w1 m v u l ws hn (by omega) h1 h2 hrm hg)
  rw [hz] at HN
  have hR := ((gBad_zero m l).1 hg).2
  have hK := BellP.ct_cost hR
  have hW := WaysP.fst_wk hK hs ht h16
  have hsh := hW.short hK
  have hfb := BellP.far_bd m (BellP.ct l) t s
  have HLp := Lib.hid (fun w1 p (h1 : ArgK w1 v l) (h2 : ArgI w1 p (WaysP.zs (WaysP.fst m (BellP.ct l) t s))) (h3 : Room p) => length_ok w1 m v p l _ hn (by rw [WaysP.zs_len]; omega) h1 h2 h3 hg)
  rw [wk_length hR hW (by omega)] at HLp
  have HFo := Lib.hid (fun w1 (h1 : ArgK w1 v l) => first_ok w1 m s t v l hn h1 hg hs ht h16)
  have HSY := Lib.hid (SpfP.far_sym hK (SpfP.ct_sym l) ht hs)
  obtain ⟨j, hj⟩ : ∃ j, (WaysP.zs (WaysP.fst m (BellP.ct l) t s)).length = j + 1 := by
    obtain ⟨P0, hP⟩ := hW.head
    exact ⟨P0.length, by rw [WaysP.zs_len, hP]; rfl⟩
  have hj16 : j ≤ 16 := by rw [WaysP.zs_len] at hj; omega
  have HP0 : Hid ((WaysP.zs (WaysP.fst m (BellP.ct l) t s))[0]! = s) := Lib.hid (by
    obtain ⟨P0, hP⟩ := hW.head
    rw [hP]; rfl)
  have HPj : Hid ((WaysP.zs (WaysP.fst m (BellP.ct l) t s))[j]! = t) := Lib.hid (by
    have h1 := hW.last
    rw [WaysP.zs_len] at hj
    rw [hj] at h1
    rw [WaysP.zs_at _ _ (by omega), show j = j + 1 - 1 by omega, h1])
  have HI := Lib.hid hi
  have hib : i < 17592186043904 := by omega
  clear hi
  generalize WaysP.zs (WaysP.fst m (BellP.ct l) t s) = P at *
  have HJ := Lib.hid hj
  obtain ⟨pu, cu, rfl, _⟩ := id hu
  clear h hu hz hR hrm hW hsh hfb hK hj h16
  have HZZ : Hid (Below w.heap.size w w) := Lib.hid (Below.refl _ _)
  go_enter Try.func3, Try.ntmps3
  go_wp2_with fail
  refine (gone_any w).mono ?_
  rintro e w1 ⟨rfl, hb1⟩
  have HL' := Lib.hid (HL.out.below hb1)
  have HU' := Lib.hid (HU.out.below hb1)
  have HZZ' := Lib.hid (Below.two HZZ.out hb1)
  clear hb1 HZZ HL HU
  have HZZ := HZZ'
  clear HZZ'
  have HL := HL'
  clear HL'
  have HU := HU'
  clear HU'
  go_wp2_with fail
  refine (HFo.out _ HL.out).mono ?_
  rintro e w2 ⟨p, rfl, hP1, hb2⟩
  have HL' := Lib.hid (HL.out.below hb2)
  have HU' := Lib.hid (HU.out.below hb2)
  have HZZ' := Lib.hid (Below.two HZZ.out hb2)
  have HP := Lib.hid (hP1)
  clear hb2 HZZ HL HU
  have HZZ := HZZ'
  clear HZZ'
  have HL := HL'
  clear HL'
  have HU := HU'
  clear HU'
  have HRp := Lib.hid hP1.room
  clear hP1
  obtain ⟨pp, cp, rfl, _⟩ := HP.out.arg
  go_wp2_with fail
  refine (far_ok w2 m s v l hn HL.out hg hs).mono ?_
  rintro e w3 ⟨f1, _, rfl, hV, hb3⟩
  have HL' := Lib.hid (HL.out.below hb3)
  have HU' := Lib.hid (HU.out.below hb3)
  have HP' := Lib.hid (HP.out.keep hb3)
  have HZZ' := Lib.hid (Below.two HZZ.out hb3)
  have HX := Lib.hid (hV)
  clear hb3 HZZ HL HU HP
  have HZZ := HZZ'
  clear HZZ'
  have HL := HL'
  clear HL'
  have HU := HU'
  clear HU'
  have HP := HP'
  clear HP'
  clear hV
  go_wp2_with fail
  refine (HLp.out _ _ HL.out HP.out.arg HRp.out).mono ?_
  rintro e w4 ⟨rfl, hb4⟩
  have HL' := Lib.hid (HL.out.below hb4)
  have HU' := Lib.hid (HU.out.below hb4)
  have HP' := Lib.hid (HP.out.keep hb4)
  have HX' := Lib.hid (HX.out.keep hb4)
  have HZZ' := Lib.hid (Below.two HZZ.out hb4)
  clear hb4 HZZ HL HU HP HX
  have HZZ := HZZ'
  clear HZZ'
  have HL := HL'
  clear HL'
  have HU := HU'
  clear HU'
  have HP := HP'
  clear HP'
  have HX := HX'
  clear HX'
  simp only [lenE]
  clear HLp HFo
  obtain ⟨_, _, e1, hp⟩ := HP.out.arg
  injection e1 with e2 e3 e4
  clear e3
  subst e2 e4
  rcases hp with e | ⟨bp, op, rfl, hbp, hsp⟩
  · have := HJ.out
    rw [e] at this
    cases this
  have a0 : w4.cell? ⟨bp, op, none⟩ = some (.int .i64 s) := by
    have := hsp 0 (by rw [HJ.out]; omega)
    rwa [HP0.out] at this
  have aj : w4.cell? ⟨bp, op + j, none⟩ = some (.int .i64 t) := by
    have := hsp j (by rw [HJ.out]; omega)
    rwa [HPj.out] at this
  have xt := HX.out.c t ht
  rw [← HSY.out] at xt
  have HPA := Lib.hid (show ArgI w4 (.slice (some ⟨bp, op, none⟩) P.length cp) P from ⟨_, _, rfl, Or.inr ⟨bp, op, rfl, hbp, hsp⟩⟩)
  clear hsp HX HP hbp
  rw [HJ.out]
  generalize BellP.far m (BellP.ct l) t s = F at *
  have hwj : IntKind.i64.wrap (j : Int) = j := by rw [IntKind.wrap_i64]; omega
  go_wp2_with fail
  refine (HN.out _ HL.out HU.out).mono ?_
  rintro e w5 ⟨rfl, hb5⟩
  have HL' := Lib.hid (HL.out.below hb5)
  have HU' := Lib.hid (HU.out.below hb5)
  have HPA' := Lib.hid (HPA.out.below hb5)
  have HZZ' := Lib.hid (Below.two HZZ.out hb5)
  clear hb5 HZZ HL HU HPA
  have HZZ := HZZ'
  clear HZZ'
  have HL := HL'
  clear HL'
  have HU := HU'
  clear HU'
  have HPA := HPA'
  clear HPA'
  simp only [lenE]
  obtain ⟨_, _, e1, hq⟩ := HU.out
  injection e1 with e2 e3 e4
  clear e3
  subst e2 e4
  rcases hq with e | ⟨bq, oq, rfl, hbq, hsq⟩
  · have := HI.out
    rw [e] at this
    cases this
  have q0 : w5.cell? ⟨bq, oq, none⟩ = some (.int .i64 ws[0]!) := hsq 0 (by rw [HI.out]; omega)
  have qj : w5.cell? ⟨bq, oq + i, none⟩ = some (.int .i64 ws[i]!) := hsq i (by rw [HI.out]; omega)
  have HSQ := Lib.hid (And.intro hbq hsq)
  clear hsq hbq HU
  have hwi : IntKind.i64.wrap (i : Int) = i := by rw [IntKind.wrap_i64]; omega
  rw [h0] at q0
  clear h0
  generalize ws[i]! = yi at qj hj0
  have t0 : (yi != (t : Int)) = true := by simpa using hj0
  clear hj0
  rw [HI.out]
  go_wp2_with fail
  go_ret
  exact ⟨rfl, HZZ.out⟩
set_option maxHeartbeats 2000000 in
set_option maxRecDepth 100000 in
theorem wf_6 (w : World) (m s t : Nat) (v u : Value) (l : List Lk) (hn : l.length < 4611686018427387904) (h : ArgK w v l) (hg : gBad m l = 0) (hs : s < m) (ht : t < m) (ws : List Int) (hw : ws.length * 8 ≤ 140737488351232) (hu : ArgI w u ws) (hrm : Room u) (h16 : BellP.far m (BellP.ct l) t s < 16) (z : Int) (hz : lengthG m l ws = some z) (i : Nat) (hi : ws.length = i + 1) (h0 : ws[0]! = s) (hj0 : ws[i]! = t) (hgt : (BellP.far m (BellP.ct l) t s : Int) < z) :
    Calls Try.prog 3 #[.int .i64 m, v, .int .i64 s, .int .i64 t, u] w fun e w' => e = .returned (.bool true) ∧ Below w.heap.size w w' := by
  have HL := Lib.hid (h)
  have HU := Lib.hid (hu)
  have HN := Lib.hid (fun w1 (h1 : ArgK w1 v l) (h2 : ArgI w1 u ws) => length_ok w1 m v u l ws hn (by omega) h1 h2 hrm hg)
  rw [hz] at HN
  have hR := ((gBad_zero m l).1 hg).2
  have hK := BellP.ct_cost hR
  have hW := WaysP.fst_wk hK hs ht h16
  have hsh := hW.short hK
  have hfb := BellP.far_bd m (BellP.ct l) t s
  have HLp := Lib.hid (fun w1 p (h1 : ArgK w1 v l) (h2 : ArgI w1 p (WaysP.zs (WaysP.fst m (BellP.ct l) t s))) (h3 : Room p) => length_ok w1 m v p l _ hn (by rw [WaysP.zs_len]; omega) h1 h2 h3 hg)
  rw [wk_length hR hW (by omega)] at HLp
  have HFo := Lib.hid (fun w1 (h1 : ArgK w1 v l) => first_ok w1 m s t v l hn h1 hg hs ht h16)
  have HSY := Lib.hid (SpfP.far_sym hK (SpfP.ct_sym l) ht hs)
  obtain ⟨j, hj⟩ : ∃ j, (WaysP.zs (WaysP.fst m (BellP.ct l) t s)).length = j + 1 := by
    obtain ⟨P0, hP⟩ := hW.head
    exact ⟨P0.length, by rw [WaysP.zs_len, hP]; rfl⟩
  have hj16 : j ≤ 16 := by rw [WaysP.zs_len] at hj; omega
  have HP0 : Hid ((WaysP.zs (WaysP.fst m (BellP.ct l) t s))[0]! = s) := Lib.hid (by
    obtain ⟨P0, hP⟩ := hW.head
    rw [hP]; rfl)
  have HPj : Hid ((WaysP.zs (WaysP.fst m (BellP.ct l) t s))[j]! = t) := Lib.hid (by
    have h1 := hW.last
    rw [WaysP.zs_len] at hj
    rw [hj] at h1
    rw [WaysP.zs_at _ _ (by omega), show j = j + 1 - 1 by omega, h1])
  have HI := Lib.hid hi
  have hib : i < 17592186043904 := by omega
  clear hi
  generalize WaysP.zs (WaysP.fst m (BellP.ct l) t s) = P at *
  have HJ := Lib.hid hj
  obtain ⟨pu, cu, rfl, _⟩ := id hu
  clear h hu hz hR hrm hW hsh hfb hK hj h16
  have HZZ : Hid (Below w.heap.size w w) := Lib.hid (Below.refl _ _)
  go_enter Try.func3, Try.ntmps3
  go_wp2_with fail
  refine (gone_any w).mono ?_
  rintro e w1 ⟨rfl, hb1⟩
  have HL' := Lib.hid (HL.out.below hb1)
  have HU' := Lib.hid (HU.out.below hb1)
  have HZZ' := Lib.hid (Below.two HZZ.out hb1)
  clear hb1 HZZ HL HU
  have HZZ := HZZ'
  clear HZZ'
  have HL := HL'
  clear HL'
  have HU := HU'
  clear HU'
  go_wp2_with fail
  refine (HFo.out _ HL.out).mono ?_
  rintro e w2 ⟨p, rfl, hP1, hb2⟩
  have HL' := Lib.hid (HL.out.below hb2)
  have HU' := Lib.hid (HU.out.below hb2)
  have HZZ' := Lib.hid (Below.two HZZ.out hb2)
  have HP := Lib.hid (hP1)
  clear hb2 HZZ HL HU
  have HZZ := HZZ'
  clear HZZ'
  have HL := HL'
  clear HL'
  have HU := HU'
  clear HU'
  have HRp := Lib.hid hP1.room
  clear hP1
  obtain ⟨pp, cp, rfl, _⟩ := HP.out.arg
  go_wp2_with fail
  refine (far_ok w2 m s v l hn HL.out hg hs).mono ?_
  rintro e w3 ⟨f1, _, rfl, hV, hb3⟩
  have HL' := Lib.hid (HL.out.below hb3)
  have HU' := Lib.hid (HU.out.below hb3)
  have HP' := Lib.hid (HP.out.keep hb3)
  have HZZ' := Lib.hid (Below.two HZZ.out hb3)
  have HX := Lib.hid (hV)
  clear hb3 HZZ HL HU HP
  have HZZ := HZZ'
  clear HZZ'
  have HL := HL'
  clear HL'
  have HU := HU'
  clear HU'
  have HP := HP'
  clear HP'
  clear hV
  go_wp2_with fail
  refine (HLp.out _ _ HL.out HP.out.arg HRp.out).mono ?_
  rintro e w4 ⟨rfl, hb4⟩
  have HL' := Lib.hid (HL.out.below hb4)
  have HU' := Lib.hid (HU.out.below hb4)
  have HP' := Lib.hid (HP.out.keep hb4)
  have HX' := Lib.hid (HX.out.keep hb4)
  have HZZ' := Lib.hid (Below.two HZZ.out hb4)
  clear hb4 HZZ HL HU HP HX
  have HZZ := HZZ'
  clear HZZ'
  have HL := HL'
  clear HL'
  have HU := HU'
  clear HU'
  have HP := HP'
  clear HP'
  have HX := HX'
  clear HX'
  simp only [lenE]
  clear HLp HFo
  obtain ⟨_, _, e1, hp⟩ := HP.out.arg
  injection e1 with e2 e3 e4
  clear e3
  subst e2 e4
  rcases hp with e | ⟨bp, op, rfl, hbp, hsp⟩
  · have := HJ.out
    rw [e] at this
    cases this
  have a0 : w4.cell? ⟨bp, op, none⟩ = some (.int .i64 s) := by
    have := hsp 0 (by rw [HJ.out]; omega)
    rwa [HP0.out] at this
  have aj : w4.cell? ⟨bp, op + j, none⟩ = some (.int .i64 t) := by
    have := hsp j (by rw [HJ.out]; omega)
    rwa [HPj.out] at this
  have xt := HX.out.c t ht
  rw [← HSY.out] at xt
  have HPA := Lib.hid (show ArgI w4 (.slice (some ⟨bp, op, none⟩) P.length cp) P from ⟨_, _, rfl, Or.inr ⟨bp, op, rfl, hbp, hsp⟩⟩)
  clear hsp HX HP hbp
  rw [HJ.out]
  generalize BellP.far m (BellP.ct l) t s = F at *
  have hwj : IntKind.i64.wrap (j : Int) = j := by rw [IntKind.wrap_i64]; omega
  go_wp2_with fail
  refine (HN.out _ HL.out HU.out).mono ?_
  rintro e w5 ⟨rfl, hb5⟩
  have HL' := Lib.hid (HL.out.below hb5)
  have HU' := Lib.hid (HU.out.below hb5)
  have HPA' := Lib.hid (HPA.out.below hb5)
  have HZZ' := Lib.hid (Below.two HZZ.out hb5)
  clear hb5 HZZ HL HU HPA
  have HZZ := HZZ'
  clear HZZ'
  have HL := HL'
  clear HL'
  have HU := HU'
  clear HU'
  have HPA := HPA'
  clear HPA'
  simp only [lenE]
  obtain ⟨_, _, e1, hq⟩ := HU.out
  injection e1 with e2 e3 e4
  clear e3
  subst e2 e4
  rcases hq with e | ⟨bq, oq, rfl, hbq, hsq⟩
  · have := HI.out
    rw [e] at this
    cases this
  have q0 : w5.cell? ⟨bq, oq, none⟩ = some (.int .i64 ws[0]!) := hsq 0 (by rw [HI.out]; omega)
  have qj : w5.cell? ⟨bq, oq + i, none⟩ = some (.int .i64 ws[i]!) := hsq i (by rw [HI.out]; omega)
  have HSQ := Lib.hid (And.intro hbq hsq)
  clear hsq hbq HU
  have hwi : IntKind.i64.wrap (i : Int) = i := by rw [IntKind.wrap_i64]; omega
  rw [h0] at q0
  rw [hj0] at qj
  clear h0 hj0
  have t0 : z > (F : Int) := hgt
  rw [HI.out]
  go_wp2_with fail
  go_ret
  exact ⟨rfl, HZZ.out⟩
set_option maxHeartbeats 2000000 in
set_option maxRecDepth 100000 in
theorem wf_7 (w : World) (m s t : Nat) (v u : Value) (l : List Lk) (hn : l.length < 4611686018427387904) (h : ArgK w v l) (hg : gBad m l = 0) (hs : s < m) (ht : t < m) (ws : List Int) (hw : ws.length * 8 ≤ 140737488351232) (hu : ArgI w u ws) (hrm : Room u) (h16 : BellP.far m (BellP.ct l) t s < 16) (z : Int) (hz : lengthG m l ws = some z) (i : Nat) (hi : ws.length = i + 1) (h0 : ws[0]! = s) (hj0 : ws[i]! = t) (hgt : z = (BellP.far m (BellP.ct l) t s : Int)) (hc : WaysP.cmp (WaysP.zs (WaysP.fst m (BellP.ct l) t s)) ws ≤ 0) :
    Calls Try.prog 3 #[.int .i64 m, v, .int .i64 s, .int .i64 t, u] w fun e w' => e = .returned (.bool true) ∧ Below w.heap.size w w' := by
  have HL := Lib.hid (h)
  have HU := Lib.hid (hu)
  have HN := Lib.hid (fun w1 (h1 : ArgK w1 v l) (h2 : ArgI w1 u ws) => length_ok w1 m v u l ws hn (by omega) h1 h2 hrm hg)
  rw [hz] at HN
  have hR := ((gBad_zero m l).1 hg).2
  have hK := BellP.ct_cost hR
  have hW := WaysP.fst_wk hK hs ht h16
  have hsh := hW.short hK
  have hfb := BellP.far_bd m (BellP.ct l) t s
  have HLp := Lib.hid (fun w1 p (h1 : ArgK w1 v l) (h2 : ArgI w1 p (WaysP.zs (WaysP.fst m (BellP.ct l) t s))) (h3 : Room p) => length_ok w1 m v p l _ hn (by rw [WaysP.zs_len]; omega) h1 h2 h3 hg)
  rw [wk_length hR hW (by omega)] at HLp
  have HFo := Lib.hid (fun w1 (h1 : ArgK w1 v l) => first_ok w1 m s t v l hn h1 hg hs ht h16)
  have HSY := Lib.hid (SpfP.far_sym hK (SpfP.ct_sym l) ht hs)
  obtain ⟨j, hj⟩ : ∃ j, (WaysP.zs (WaysP.fst m (BellP.ct l) t s)).length = j + 1 := by
    obtain ⟨P0, hP⟩ := hW.head
    exact ⟨P0.length, by rw [WaysP.zs_len, hP]; rfl⟩
  have hj16 : j ≤ 16 := by rw [WaysP.zs_len] at hj; omega
  have HP0 : Hid ((WaysP.zs (WaysP.fst m (BellP.ct l) t s))[0]! = s) := Lib.hid (by
    obtain ⟨P0, hP⟩ := hW.head
    rw [hP]; rfl)
  have HPj : Hid ((WaysP.zs (WaysP.fst m (BellP.ct l) t s))[j]! = t) := Lib.hid (by
    have h1 := hW.last
    rw [WaysP.zs_len] at hj
    rw [hj] at h1
    rw [WaysP.zs_at _ _ (by omega), show j = j + 1 - 1 by omega, h1])
  have HI := Lib.hid hi
  have hib : i < 17592186043904 := by omega
  clear hi
  subst hgt
  have HCC := Lib.hid hc
  clear hc
  generalize WaysP.zs (WaysP.fst m (BellP.ct l) t s) = P at *
  have HJ := Lib.hid hj
  obtain ⟨pu, cu, rfl, _⟩ := id hu
  clear h hu hz hR hrm hW hsh hfb hK hj h16
  have HZZ : Hid (Below w.heap.size w w) := Lib.hid (Below.refl _ _)
  go_enter Try.func3, Try.ntmps3
  go_wp2_with fail
  refine (gone_any w).mono ?_
  rintro e w1 ⟨rfl, hb1⟩
  have HL' := Lib.hid (HL.out.below hb1)
  have HU' := Lib.hid (HU.out.below hb1)
  have HZZ' := Lib.hid (Below.two HZZ.out hb1)
  clear hb1 HZZ HL HU
  have HZZ := HZZ'
  clear HZZ'
  have HL := HL'
  clear HL'
  have HU := HU'
  clear HU'
  go_wp2_with fail
  refine (HFo.out _ HL.out).mono ?_
  rintro e w2 ⟨p, rfl, hP1, hb2⟩
  have HL' := Lib.hid (HL.out.below hb2)
  have HU' := Lib.hid (HU.out.below hb2)
  have HZZ' := Lib.hid (Below.two HZZ.out hb2)
  have HP := Lib.hid (hP1)
  clear hb2 HZZ HL HU
  have HZZ := HZZ'
  clear HZZ'
  have HL := HL'
  clear HL'
  have HU := HU'
  clear HU'
  have HRp := Lib.hid hP1.room
  clear hP1
  obtain ⟨pp, cp, rfl, _⟩ := HP.out.arg
  go_wp2_with fail
  refine (far_ok w2 m s v l hn HL.out hg hs).mono ?_
  rintro e w3 ⟨f1, _, rfl, hV, hb3⟩
  have HL' := Lib.hid (HL.out.below hb3)
  have HU' := Lib.hid (HU.out.below hb3)
  have HP' := Lib.hid (HP.out.keep hb3)
  have HZZ' := Lib.hid (Below.two HZZ.out hb3)
  have HX := Lib.hid (hV)
  clear hb3 HZZ HL HU HP
  have HZZ := HZZ'
  clear HZZ'
  have HL := HL'
  clear HL'
  have HU := HU'
  clear HU'
  have HP := HP'
  clear HP'
  clear hV
  go_wp2_with fail
  refine (HLp.out _ _ HL.out HP.out.arg HRp.out).mono ?_
  rintro e w4 ⟨rfl, hb4⟩
  have HL' := Lib.hid (HL.out.below hb4)
  have HU' := Lib.hid (HU.out.below hb4)
  have HP' := Lib.hid (HP.out.keep hb4)
  have HX' := Lib.hid (HX.out.keep hb4)
  have HZZ' := Lib.hid (Below.two HZZ.out hb4)
  clear hb4 HZZ HL HU HP HX
  have HZZ := HZZ'
  clear HZZ'
  have HL := HL'
  clear HL'
  have HU := HU'
  clear HU'
  have HP := HP'
  clear HP'
  have HX := HX'
  clear HX'
  simp only [lenE]
  clear HLp HFo
  obtain ⟨_, _, e1, hp⟩ := HP.out.arg
  injection e1 with e2 e3 e4
  clear e3
  subst e2 e4
  rcases hp with e | ⟨bp, op, rfl, hbp, hsp⟩
  · have := HJ.out
    rw [e] at this
    cases this
  have a0 : w4.cell? ⟨bp, op, none⟩ = some (.int .i64 s) := by
    have := hsp 0 (by rw [HJ.out]; omega)
    rwa [HP0.out] at this
  have aj : w4.cell? ⟨bp, op + j, none⟩ = some (.int .i64 t) := by
    have := hsp j (by rw [HJ.out]; omega)
    rwa [HPj.out] at this
  have xt := HX.out.c t ht
  rw [← HSY.out] at xt
  have HPA := Lib.hid (show ArgI w4 (.slice (some ⟨bp, op, none⟩) P.length cp) P from ⟨_, _, rfl, Or.inr ⟨bp, op, rfl, hbp, hsp⟩⟩)
  clear hsp HX HP hbp
  rw [HJ.out]
  generalize BellP.far m (BellP.ct l) t s = F at *
  have hwj : IntKind.i64.wrap (j : Int) = j := by rw [IntKind.wrap_i64]; omega
  go_wp2_with fail
  refine (HN.out _ HL.out HU.out).mono ?_
  rintro e w5 ⟨rfl, hb5⟩
  have HL' := Lib.hid (HL.out.below hb5)
  have HU' := Lib.hid (HU.out.below hb5)
  have HPA' := Lib.hid (HPA.out.below hb5)
  have HZZ' := Lib.hid (Below.two HZZ.out hb5)
  clear hb5 HZZ HL HU HPA
  have HZZ := HZZ'
  clear HZZ'
  have HL := HL'
  clear HL'
  have HU := HU'
  clear HU'
  have HPA := HPA'
  clear HPA'
  simp only [lenE]
  obtain ⟨_, _, e1, hq⟩ := HU.out
  injection e1 with e2 e3 e4
  clear e3
  subst e2 e4
  rcases hq with e | ⟨bq, oq, rfl, hbq, hsq⟩
  · have := HI.out
    rw [e] at this
    cases this
  have q0 : w5.cell? ⟨bq, oq, none⟩ = some (.int .i64 ws[0]!) := hsq 0 (by rw [HI.out]; omega)
  have qj : w5.cell? ⟨bq, oq + i, none⟩ = some (.int .i64 ws[i]!) := hsq i (by rw [HI.out]; omega)
  have HSQ := Lib.hid (And.intro hbq hsq)
  clear hsq hbq HU
  have hwi : IntKind.i64.wrap (i : Int) = i := by rw [IntKind.wrap_i64]; omega
  rw [h0] at q0
  rw [hj0] at qj
  clear h0 hj0
  obtain ⟨_, _, e1, hp⟩ := HPA.out
  injection e1 with e2 e3 e4
  clear e3
  subst e2 e4
  rcases hp with e | ⟨bp', op', e5, hbp, hsp⟩
  · have := HJ.out
    rw [e] at this
    cases this
  injection e5 with e5
  injection e5 with e6 e7
  subst e6 e7
  have HCP := compared_some w5 bp op cp bq oq cu P ws (by rw [HJ.out]; omega) (by rw [HI.out]; omega) hsp HSQ.out.2
  rw [HJ.out, HI.out] at HCP
  have HCP := Lib.hid HCP
  have hcc := HCC.out
  generalize WaysP.cmp P ws = cc at HCP hcc
  clear hsp HPA hbp HCC
  rw [HI.out]
  go_wp2_with fail
  refine HCP.out.mono ?_
  rintro e wz ⟨rfl, qz, rfl⟩
  go_wp2_with fail
  go_ret
  exact ⟨rfl, Below.drewN HZZ.out _⟩
theorem waysFirst_walk (w : World) (n a b : Int) (v u : Value) (l : List Lk) (ws : List Int) (hn : l.length < 4611686018427387904) (hw : ws.length * 8 ≤ 140737488351232) (h : ArgK w v l) (hu : ArgI w u ws) (hrm : Room u) :
    Calls Try.prog 3 #[.int .i64 n, v, .int .i64 a, .int .i64 b, u] w fun e w' => e = .returned (.bool true) ∧ Below w.heap.size w w' := by
  by_cases h1 : wayBad n l a b = 0
  · obtain ⟨m, s, t, rfl, rfl, rfl, _, _, hs, ht, hg, hr⟩ := way_nat h1
    have hK := BellP.ct_cost hr
    by_cases h16 : BellP.far m (BellP.ct l) t s < 16
    · cases hz : lengthG m l ws with
      | none => exact wf_3 w m s t v u l hn h hg hs ht ws hw hu hrm h16 hz
      | some z =>
        obtain ⟨a, p, b, d, rfl, hk, rfl⟩ := length_wk hr ws z (by omega) hz
        obtain ⟨r, hpr⟩ := hk.head
        have hlast := hk.last
        have hi : (WaysP.zs p).length = r.length + 1 := by rw [WaysP.zs_len, hpr]; rfl
        have hi2 : p.length = r.length + 1 := by rw [hpr]; rfl
        have h0 : (WaysP.zs p)[0]! = a := by rw [hpr]; rfl
        have hj : (WaysP.zs p)[r.length]! = b := by
          rw [WaysP.zs_at _ _ (by omega)]
          rw [hi2, Nat.add_sub_cancel] at hlast
          rw [hlast]
        by_cases e1 : a = s
        · subst e1
          by_cases e2 : b = t
          · subst e2
            have hle := hk.far hK
            by_cases e3 : BellP.far m (BellP.ct l) b a < d
            · exact wf_6 w m a b v u l hn h hg hs ht _ hw hu hrm h16 _ hz _ hi h0 hj (by omega)
            · have e4 : BellP.far m (BellP.ct l) b a = d := by omega
              exact wf_7 w m a b v u l hn h hg hs ht _ hw hu hrm h16 _ hz _ hi h0 hj (by rw [e4]) (WaysP.fst_le hK ht _ a p (Nat.lt_succ_self _) h16 (by rw [e4]; exact hk))
          · exact wf_5 w m a t v u l hn h hg hs ht _ hw hu hrm h16 _ hz _ hi h0 (by rw [hj]; omega)
        · exact wf_4 w m s t v u l hn h hg hs ht _ hw hu hrm h16 _ hz _ hi (by rw [h0]; omega)
    · by_cases e : s = t
      · subst e
        exact absurd (by rw [BellP.far_to hK ht]; omega) h16
      · exact wf_2 w m s t v u l hn h hg hs ht e h16
  · obtain ⟨pu, cu, rfl, _⟩ := id hu
    exact wf_1 w n a b v _ l hn h h1
end Go.Proofs.Ytomfkmclgabcpaa
