/-
  The law WaysJoin at every number of nodes, every links and two lists of nodes in a row: it tells true; what lay in memory stays.
-/
import Derived.Test.YtomfkmclgabcpaaWaysLen
import Derived.Test.YtomfkmclgabcpaaWaysWk
import Derived.Test.YtomfkmclgabcpaaOneLink
import Derived.Test.YtomfkmclgabcpaaIntApp
import Derived.Test.YtomfkmclgabcpaaRoom
import Derived.Test.YtomfkmclgabcpaaKeep
import Derived.Deep.QuietTactic
import Derived.BigQuiet
namespace Go.Proofs.Ytomfkmclgabcpaa
open Go.RowKit Go.Lib

/-- Three numbers in a block of its own. -/
theorem three_arg (w : World) (x y z : Int) : ArgI (w.alloc (.cells #[.int .i64 x, .int .i64 y, .int .i64 z] 3)) (.slice (some ⟨w.heap.size, 0, none⟩) 3 3) [x, y, z] := by
  have B := Box3.new w (.int .i64 x) (.int .i64 y) (.int .i64 z) 3
  refine ⟨_, 3, rfl, Or.inr ⟨_, 0, rfl, B.lt, fun j hj => ?_⟩⟩
  match j, hj with
  | 0, _ => exact B.c0
  | 1, _ => exact B.c1
  | 2, _ => exact B.c2
/-- There and back over one link. -/
theorem three_way (w : World) : Calls Try.prog 9 #[.int .i64 2, .slice (some ⟨w.heap.size, 0, none⟩) 1 1, .slice (some ⟨w.heap.size + 1, 0, none⟩) 3 3] ((w.alloc (.cells #[.int .i64 0, .int .i64 1, .int .i64 3] 38)).alloc (.cells #[.int .i64 0, .int .i64 1, .int .i64 0] 3)) fun e w' => e = .returned (.tuple #[.int .i64 6, .nilIface]) ∧ Below (((w.alloc (.cells #[.int .i64 0, .int .i64 1, .int .i64 3] 38)).alloc (.cells #[.int .i64 0, .int .i64 1, .int .i64 0] 3))).heap.size ((w.alloc (.cells #[.int .i64 0, .int .i64 1, .int .i64 3] 38)).alloc (.cells #[.int .i64 0, .int .i64 1, .int .i64 0] 3)) w' := by
  have h1 := (one_arg w).below ((Below.refl _ (w.alloc (.cells #[.int .i64 0, .int .i64 1, .int .i64 3] 38))).alloc (Nat.le_refl _) (.cells #[.int .i64 0, .int .i64 1, .int .i64 0] 3))
  have h2 := three_arg (w.alloc (.cells #[.int .i64 0, .int .i64 1, .int .i64 3] 38)) 0 1 0
  have e : (w.alloc (.cells #[.int .i64 0, .int .i64 1, .int .i64 3] 38)).heap.size = w.heap.size + 1 := by simp
  rw [e] at h2
  have := length_ok _ 2 _ _ [(0, 1, 3)] [0, 1, 0] (by decide) (by decide) h1 h2 ⟨_, _, _, rfl, Nat.le_refl _⟩ one_right
  rwa [show lengthG ((2 : Nat) : Int) [(0, 1, 3)] [0, 1, 0] = some 6 by decide +kernel] at this
set_option maxHeartbeats 2000000 in
set_option maxRecDepth 100000 in
theorem wj_1 (w : World) (n : Int) (v p u : Value) (l : List Lk) (ps ws : List Int) (hn : l.length < 4611686018427387904) (h : ArgK w v l) (hp : ArgI w p ps) (hu : ArgI w u ws) (hrp : Room p) (hru : Room u) (hg : gBad n l ≠ 0) :
    Calls Try.prog 5 #[.int .i64 n, v, p, u] w fun e w' => e = .returned (.bool true) ∧ Below w.heap.size w w' := by
  have HL := Lib.hid (h)
  have HP := Lib.hid (hp)
  have HU := Lib.hid (hu)
  have HR := Lib.hid (fun w1 x xs (h1 : ArgK w1 v l) (h2 : ArgI w1 x xs) => length_bad w1 n v x l xs hn h1 h2 hg)
  rw [show errV (gBad n l) = .iface 44 (.int .i64 (gBad n l)) from if_neg hg] at HR
  generalize gBad n l = q at HR hg
  obtain ⟨pp, cp, rfl, _⟩ := id hp
  obtain ⟨pu, cu, rfl, _⟩ := id hu
  clear h hp hu
  have HZZ : Hid (Below w.heap.size w w) := Lib.hid (Below.refl _ _)
  have HTH := Lib.hid (three_way w)
  have BA : Below w.heap.size w ((w.alloc (.cells #[.int .i64 0, .int .i64 1, .int .i64 3] 38)).alloc (.cells #[.int .i64 0, .int .i64 1, .int .i64 0] 3)) := ((Below.refl w.heap.size w).alloc (Nat.le_refl _) _).alloc (by simp) _
  have HBA := Lib.hid BA
  clear BA
  go_enter Try.func5, Try.ntmps5
  go_wp2_with fail
  refine HTH.out.mono ?_
  rintro e w0 ⟨rfl, hb0⟩
  have hb0 := Below.two HBA.out hb0
  clear HTH HBA
  have HL' := Lib.hid (HL.out.below hb0)
  have HP' := Lib.hid (HP.out.below hb0)
  have HU' := Lib.hid (HU.out.below hb0)
  have HZZ' := Lib.hid (Below.two HZZ.out hb0)
  clear HZZ HL HP HU
  have HZZ := HZZ'
  clear HZZ'
  have HL := HL'
  clear HL'
  have HP := HP'
  clear HP'
  have HU := HU'
  clear HU'
  clear hb0
  go_wp2_with fail
  refine (HR.out _ _ _ HL.out HP.out).mono ?_
  rintro e w1 ⟨rfl, hb1⟩
  have HL' := Lib.hid (HL.out.below hb1)
  have HP' := Lib.hid (HP.out.below hb1)
  have HU' := Lib.hid (HU.out.below hb1)
  have HZZ' := Lib.hid (Below.two HZZ.out hb1)
  clear hb1 HZZ HL HP HU
  have HZZ := HZZ'
  clear HZZ'
  have HL := HL'
  clear HL'
  have HP := HP'
  clear HP'
  have HU := HU'
  clear HU'
  go_wp2_with fail
  refine (HR.out _ _ _ HL.out HU.out).mono ?_
  rintro e w2 ⟨rfl, hb2⟩
  have HL' := Lib.hid (HL.out.below hb2)
  have HP' := Lib.hid (HP.out.below hb2)
  have HU' := Lib.hid (HU.out.below hb2)
  have HZZ' := Lib.hid (Below.two HZZ.out hb2)
  clear hb2 HZZ HL HP HU
  have HZZ := HZZ'
  clear HZZ'
  have HL := HL'
  clear HL'
  have HP := HP'
  clear HP'
  have HU := HU'
  clear HU'
  go_wp2_with fail
  go_ret
  exact ⟨rfl, HZZ.out⟩
set_option maxHeartbeats 2000000 in
set_option maxRecDepth 100000 in
theorem wj_2 (w : World) (m : Nat) (v p u : Value) (l : List Lk) (ps ws : List Int) (hn : l.length < 4611686018427387904) (hlp : ps.length ≤ 1048576) (hlw : ws.length ≤ 1048576) (h : ArgK w v l) (hp : ArgI w p ps) (hu : ArgI w u ws) (hrp : Room p) (hru : Room u) (hg : gBad m l = 0) (hy : lengthG m l ps = none) (hz : lengthG m l ws = none) :
    Calls Try.prog 5 #[.int .i64 m, v, p, u] w fun e w' => e = .returned (.bool true) ∧ Below w.heap.size w w' := by
  have HL := Lib.hid (h)
  have HP := Lib.hid (hp)
  have HU := Lib.hid (hu)
  have HA := Lib.hid (fun w1 (h1 : ArgK w1 v l) (h2 : ArgI w1 p ps) => length_ok w1 m v p l ps hn (by omega) h1 h2 hrp hg)
  have HB := Lib.hid (fun w1 (h1 : ArgK w1 v l) (h2 : ArgI w1 u ws) => length_ok w1 m v u l ws hn (by omega) h1 h2 hru hg)
  rw [hy] at HA
  rw [hz] at HB
  clear hy hz
  obtain ⟨pp, cp, rfl, _⟩ := id hp
  obtain ⟨pu, cu, rfl, _⟩ := id hu
  clear h hp hu
  have HZZ : Hid (Below w.heap.size w w) := Lib.hid (Below.refl _ _)
  have HTH := Lib.hid (three_way w)
  have BA : Below w.heap.size w ((w.alloc (.cells #[.int .i64 0, .int .i64 1, .int .i64 3] 38)).alloc (.cells #[.int .i64 0, .int .i64 1, .int .i64 0] 3)) := ((Below.refl w.heap.size w).alloc (Nat.le_refl _) _).alloc (by simp) _
  have HBA := Lib.hid BA
  clear BA
  go_enter Try.func5, Try.ntmps5
  go_wp2_with fail
  refine HTH.out.mono ?_
  rintro e w0 ⟨rfl, hb0⟩
  have hb0 := Below.two HBA.out hb0
  clear HTH HBA
  have HL' := Lib.hid (HL.out.below hb0)
  have HP' := Lib.hid (HP.out.below hb0)
  have HU' := Lib.hid (HU.out.below hb0)
  have HZZ' := Lib.hid (Below.two HZZ.out hb0)
  clear HZZ HL HP HU
  have HZZ := HZZ'
  clear HZZ'
  have HL := HL'
  clear HL'
  have HP := HP'
  clear HP'
  have HU := HU'
  clear HU'
  clear hb0
  go_wp2_with fail
  refine (HA.out _ HL.out HP.out).mono ?_
  rintro e w1 ⟨rfl, hb1⟩
  have HL' := Lib.hid (HL.out.below hb1)
  have HP' := Lib.hid (HP.out.below hb1)
  have HU' := Lib.hid (HU.out.below hb1)
  have HZZ' := Lib.hid (Below.two HZZ.out hb1)
  clear hb1 HZZ HL HP HU
  have HZZ := HZZ'
  clear HZZ'
  have HL := HL'
  clear HL'
  have HP := HP'
  clear HP'
  have HU := HU'
  clear HU'
  simp only [lenE]
  go_wp2_with fail
  refine (HB.out _ HL.out HU.out).mono ?_
  rintro e w2 ⟨rfl, hb2⟩
  have HL' := Lib.hid (HL.out.below hb2)
  have HP' := Lib.hid (HP.out.below hb2)
  have HU' := Lib.hid (HU.out.below hb2)
  have HZZ' := Lib.hid (Below.two HZZ.out hb2)
  clear hb2 HZZ HL HP HU
  have HZZ := HZZ'
  clear HZZ'
  have HL := HL'
  clear HL'
  have HP := HP'
  clear HP'
  have HU := HU'
  clear HU'
  simp only [lenE]
  go_wp2_with fail
  go_ret
  exact ⟨rfl, HZZ.out⟩
set_option maxHeartbeats 2000000 in
set_option maxRecDepth 100000 in
theorem wj_3 (w : World) (m : Nat) (v p u : Value) (l : List Lk) (ps ws : List Int) (hn : l.length < 4611686018427387904) (hlp : ps.length ≤ 1048576) (hlw : ws.length ≤ 1048576) (h : ArgK w v l) (hp : ArgI w p ps) (hu : ArgI w u ws) (hrp : Room p) (hru : Room u) (hg : gBad m l = 0) (z : Int) (hy : lengthG m l ps = none) (hz : lengthG m l ws = some z) :
    Calls Try.prog 5 #[.int .i64 m, v, p, u] w fun e w' => e = .returned (.bool true) ∧ Below w.heap.size w w' := by
  have HL := Lib.hid (h)
  have HP := Lib.hid (hp)
  have HU := Lib.hid (hu)
  have HA := Lib.hid (fun w1 (h1 : ArgK w1 v l) (h2 : ArgI w1 p ps) => length_ok w1 m v p l ps hn (by omega) h1 h2 hrp hg)
  have HB := Lib.hid (fun w1 (h1 : ArgK w1 v l) (h2 : ArgI w1 u ws) => length_ok w1 m v u l ws hn (by omega) h1 h2 hru hg)
  rw [hy] at HA
  rw [hz] at HB
  clear hy hz
  obtain ⟨pp, cp, rfl, _⟩ := id hp
  obtain ⟨pu, cu, rfl, _⟩ := id hu
  clear h hp hu
  have HZZ : Hid (Below w.heap.size w w) := Lib.hid (Below.refl _ _)
  have HTH := Lib.hid (three_way w)
  have BA : Below w.heap.size w ((w.alloc (.cells #[.int .i64 0, .int .i64 1, .int .i64 3] 38)).alloc (.cells #[.int .i64 0, .int .i64 1, .int .i64 0] 3)) := ((Below.refl w.heap.size w).alloc (Nat.le_refl _) _).alloc (by simp) _
  have HBA := Lib.hid BA
  clear BA
  go_enter Try.func5, Try.ntmps5
  go_wp2_with fail
  refine HTH.out.mono ?_
  rintro e w0 ⟨rfl, hb0⟩
  have hb0 := Below.two HBA.out hb0
  clear HTH HBA
  have HL' := Lib.hid (HL.out.below hb0)
  have HP' := Lib.hid (HP.out.below hb0)
  have HU' := Lib.hid (HU.out.below hb0)
  have HZZ' := Lib.hid (Below.two HZZ.out hb0)
  clear HZZ HL HP HU
  have HZZ := HZZ'
  clear HZZ'
  have HL := HL'
  clear HL'
  have HP := HP'
  clear HP'
  have HU := HU'
  clear HU'
  clear hb0
  go_wp2_with fail
  refine (HA.out _ HL.out HP.out).mono ?_
  rintro e w1 ⟨rfl, hb1⟩
  have HL' := Lib.hid (HL.out.below hb1)
  have HP' := Lib.hid (HP.out.below hb1)
  have HU' := Lib.hid (HU.out.below hb1)
  have HZZ' := Lib.hid (Below.two HZZ.out hb1)
  clear hb1 HZZ HL HP HU
  have HZZ := HZZ'
  clear HZZ'
  have HL := HL'
  clear HL'
  have HP := HP'
  clear HP'
  have HU := HU'
  clear HU'
  simp only [lenE]
  go_wp2_with fail
  refine (HB.out _ HL.out HU.out).mono ?_
  rintro e w2 ⟨rfl, hb2⟩
  have HL' := Lib.hid (HL.out.below hb2)
  have HP' := Lib.hid (HP.out.below hb2)
  have HU' := Lib.hid (HU.out.below hb2)
  have HZZ' := Lib.hid (Below.two HZZ.out hb2)
  clear hb2 HZZ HL HP HU
  have HZZ := HZZ'
  clear HZZ'
  have HL := HL'
  clear HL'
  have HP := HP'
  clear HP'
  have HU := HU'
  clear HU'
  simp only [lenE]
  go_wp2_with fail
  go_ret
  exact ⟨rfl, HZZ.out⟩
set_option maxHeartbeats 2000000 in
set_option maxRecDepth 100000 in
theorem wj_4 (w : World) (m : Nat) (v p u : Value) (l : List Lk) (ps ws : List Int) (hn : l.length < 4611686018427387904) (hlp : ps.length ≤ 1048576) (hlw : ws.length ≤ 1048576) (h : ArgK w v l) (hp : ArgI w p ps) (hu : ArgI w u ws) (hrp : Room p) (hru : Room u) (hg : gBad m l = 0) (y : Int) (hy : lengthG m l ps = some y) (hz : lengthG m l ws = none) :
    Calls Try.prog 5 #[.int .i64 m, v, p, u] w fun e w' => e = .returned (.bool true) ∧ Below w.heap.size w w' := by
  have HL := Lib.hid (h)
  have HP := Lib.hid (hp)
  have HU := Lib.hid (hu)
  have HA := Lib.hid (fun w1 (h1 : ArgK w1 v l) (h2 : ArgI w1 p ps) => length_ok w1 m v p l ps hn (by omega) h1 h2 hrp hg)
  have HB := Lib.hid (fun w1 (h1 : ArgK w1 v l) (h2 : ArgI w1 u ws) => length_ok w1 m v u l ws hn (by omega) h1 h2 hru hg)
  rw [hy] at HA
  rw [hz] at HB
  clear hy hz
  obtain ⟨pp, cp, rfl, _⟩ := id hp
  obtain ⟨pu, cu, rfl, _⟩ := id hu
  clear h hp hu
  have HZZ : Hid (Below w.heap.size w w) := Lib.hid (Below.refl _ _)
  have HTH := Lib.hid (three_way w)
  have BA : Below w.heap.size w ((w.alloc (.cells #[.int .i64 0, .int .i64 1, .int .i64 3] 38)).alloc (.cells #[.int .i64 0, .int .i64 1, .int .i64 0] 3)) := ((Below.refl w.heap.size w).alloc (Nat.le_refl _) _).alloc (by simp) _
  have HBA := Lib.hid BA
  clear BA
  go_enter Try.func5, Try.ntmps5
  go_wp2_with fail
  refine HTH.out.mono ?_
  rintro e w0 ⟨rfl, hb0⟩
  have hb0 := Below.two HBA.out hb0
  clear HTH HBA
  have HL' := Lib.hid (HL.out.below hb0)
  have HP' := Lib.hid (HP.out.below hb0)
  have HU' := Lib.hid (HU.out.below hb0)
  have HZZ' := Lib.hid (Below.two HZZ.out hb0)
  clear HZZ HL HP HU
  have HZZ := HZZ'
  clear HZZ'
  have HL := HL'
  clear HL'
  have HP := HP'
  clear HP'
  have HU := HU'
  clear HU'
  clear hb0
  go_wp2_with fail
  refine (HA.out _ HL.out HP.out).mono ?_
  rintro e w1 ⟨rfl, hb1⟩
  have HL' := Lib.hid (HL.out.below hb1)
  have HP' := Lib.hid (HP.out.below hb1)
  have HU' := Lib.hid (HU.out.below hb1)
  have HZZ' := Lib.hid (Below.two HZZ.out hb1)
  clear hb1 HZZ HL HP HU
  have HZZ := HZZ'
  clear HZZ'
  have HL := HL'
  clear HL'
  have HP := HP'
  clear HP'
  have HU := HU'
  clear HU'
  simp only [lenE]
  go_wp2_with fail
  refine (HB.out _ HL.out HU.out).mono ?_
  rintro e w2 ⟨rfl, hb2⟩
  have HL' := Lib.hid (HL.out.below hb2)
  have HP' := Lib.hid (HP.out.below hb2)
  have HU' := Lib.hid (HU.out.below hb2)
  have HZZ' := Lib.hid (Below.two HZZ.out hb2)
  clear hb2 HZZ HL HP HU
  have HZZ := HZZ'
  clear HZZ'
  have HL := HL'
  clear HL'
  have HP := HP'
  clear HP'
  have HU := HU'
  clear HU'
  simp only [lenE]
  go_wp2_with fail
  go_ret
  exact ⟨rfl, HZZ.out⟩
set_option maxHeartbeats 2000000 in
set_option maxRecDepth 100000 in
theorem wj_5 (w : World) (m : Nat) (v p u : Value) (l : List Lk) (ps ws : List Int) (hn : l.length < 4611686018427387904) (hlp : ps.length ≤ 1048576) (hlw : ws.length ≤ 1048576) (h : ArgK w v l) (hp : ArgI w p ps) (hu : ArgI w u ws) (hrp : Room p) (hru : Room u) (hg : gBad m l = 0) (y z : Int) (hy : lengthG m l ps = some y) (hz : lengthG m l ws = some z) (j i : Nat) (hj : ps.length = j + 1) (hi : ws.length = i + 1) (h0 : 0 ≤ ps[0]! ∧ ps[0]! < m) (hbk : lengthG m l ps.reverse = some y) (hyb : 0 ≤ y ∧ y ≤ 1099511627776) (hzb : 0 ≤ z ∧ z ≤ 1099511627776) (hcat : ps[j]! = ws[0]! → lengthG m l (ps ++ ws.drop 1) = some (y + z)) :
    Calls Try.prog 5 #[.int .i64 m, v, p, u] w fun e w' => e = .returned (.bool true) ∧ Below w.heap.size w w' := by
  have HL := Lib.hid (h)
  have HP := Lib.hid (hp)
  have HU := Lib.hid (hu)
  have HRv := Lib.hid (fun w1 x (h1 : ArgK w1 v l) (h2 : ArgI w1 x ps.reverse) (h3 : Room x) => length_ok w1 m v x l _ hn (by rw [List.length_reverse]; omega) h1 h2 h3 hg)
  rw [hbk] at HRv
  have HCt := Lib.hid (fun w1 x (h1 : ArgK w1 v l) (h2 : ArgI w1 x (ps ++ ws.drop 1)) (h3 : Room x) => length_ok w1 m v x l _ hn (by rw [List.length_append, List.length_drop]; omega) h1 h2 h3 hg)
  have HOne := Lib.hid (fun w1 bp op cp (h1 : ArgK w1 v l) (h2 : bp < w1.heap.size) (h3 : w1.cell? ⟨bp, op, none⟩ = some (.int .i64 ps[0]!)) => length_one w1 m v l bp op cp ps[0]! hn h1 hg h2 h3 h0)
  have HJ := Lib.hid hj
  have HI := Lib.hid hi
  have HCat := Lib.hid hcat
  clear h0 hbk hj hi hcat
  have HA := Lib.hid (fun w1 (h1 : ArgK w1 v l) (h2 : ArgI w1 p ps) => length_ok w1 m v p l ps hn (by omega) h1 h2 hrp hg)
  have HB := Lib.hid (fun w1 (h1 : ArgK w1 v l) (h2 : ArgI w1 u ws) => length_ok w1 m v u l ws hn (by omega) h1 h2 hru hg)
  rw [hy] at HA
  rw [hz] at HB
  clear hy hz
  obtain ⟨pp, cp, rfl, _⟩ := id hp
  obtain ⟨pu, cu, rfl, _⟩ := id hu
  clear h hp hu
  have HZZ : Hid (Below w.heap.size w w) := Lib.hid (Below.refl _ _)
  have HTH := Lib.hid (three_way w)
  have BA : Below w.heap.size w ((w.alloc (.cells #[.int .i64 0, .int .i64 1, .int .i64 3] 38)).alloc (.cells #[.int .i64 0, .int .i64 1, .int .i64 0] 3)) := ((Below.refl w.heap.size w).alloc (Nat.le_refl _) _).alloc (by simp) _
  have HBA := Lib.hid BA
  clear BA
  go_enter Try.func5, Try.ntmps5
  go_wp2_with fail
  refine HTH.out.mono ?_
  rintro e w0 ⟨rfl, hb0⟩
  have hb0 := Below.two HBA.out hb0
  clear HTH HBA
  have HL' := Lib.hid (HL.out.below hb0)
  have HP' := Lib.hid (HP.out.below hb0)
  have HU' := Lib.hid (HU.out.below hb0)
  have HZZ' := Lib.hid (Below.two HZZ.out hb0)
  clear HZZ HL HP HU
  have HZZ := HZZ'
  clear HZZ'
  have HL := HL'
  clear HL'
  have HP := HP'
  clear HP'
  have HU := HU'
  clear HU'
  clear hb0
  go_wp2_with fail
  refine (HA.out _ HL.out HP.out).mono ?_
  rintro e w1 ⟨rfl, hb1⟩
  have HL' := Lib.hid (HL.out.below hb1)
  have HP' := Lib.hid (HP.out.below hb1)
  have HU' := Lib.hid (HU.out.below hb1)
  have HZZ' := Lib.hid (Below.two HZZ.out hb1)
  clear hb1 HZZ HL HP HU
  have HZZ := HZZ'
  clear HZZ'
  have HL := HL'
  clear HL'
  have HP := HP'
  clear HP'
  have HU := HU'
  clear HU'
  simp only [lenE]
  go_wp2_with fail
  refine (HB.out _ HL.out HU.out).mono ?_
  rintro e w2 ⟨rfl, hb2⟩
  have HL' := Lib.hid (HL.out.below hb2)
  have HP' := Lib.hid (HP.out.below hb2)
  have HU' := Lib.hid (HU.out.below hb2)
  have HZZ' := Lib.hid (Below.two HZZ.out hb2)
  clear hb2 HZZ HL HP HU
  have HZZ := HZZ'
  clear HZZ'
  have HL := HL'
  clear HL'
  have HP := HP'
  clear HP'
  have HU := HU'
  clear HU'
  simp only [lenE]
  obtain ⟨_, _, e1, hp⟩ := HP.out
  injection e1 with e2 e3 e4
  clear e3
  subst e2 e4
  rcases hp with e | ⟨bp, op, rfl, hbp, hsp⟩
  · have := HJ.out
    rw [e] at this
    cases this
  have HSP := Lib.hid (And.intro hbp hsp)
  clear hsp hbp
  have HW0 := Lib.hid (Below.refl w2.heap.size w2)
  clear HA HB
  go_wp2_with fail
  go_loopw [15, 16] (fun o x wr => ∃ (c : Nat) (k : Int), x = .int .i64 k ∧ k = (c : Int) - 1 ∧ c ≤ ps.length ∧ Hid (OwnI wr w2.heap.size o (ps.drop c).reverse) ∧ Hid (Below w2.heap.size w2 wr)) (fun _ x _ => (RowKit.intOf x + 1).toNat)
  case atStart => exact ⟨ps.length, _, rfl, rfl, Nat.le_refl _, by rw [List.drop_length]; exact Lib.hid (OwnI.nil _ _), HW0⟩
  case round =>
    obtain ⟨c, k, rfl, hk, hc, HO, HBr⟩ := hrel
    cases c with
    | succ c =>
      obtain rfl : k = (c : Int) := by omega
      have a0 := (HSP.out.2.below HBr.out HSP.out.1) c (by omega)
      have hd : (ps.drop c).reverse = (ps.drop (c + 1)).reverse ++ [ps[c]!] := by
        rw [getElem!_pos ps c (by omega), List.drop_eq_getElem_cons (by omega : c < ps.length), List.reverse_cons]
      have HD := Lib.hid hd
      have hl : ((ps.drop (c + 1)).reverse).length ≤ 1048576 := by rw [List.length_reverse, List.length_drop]; omega
      clear hd hk
      generalize (ps.drop (c + 1)).reverse = R at HD HO hl
      generalize ps[c]! = y0 at a0 HD
      have HK1 := Lib.hid (HO.out.keep ((Below.refl wr.heap.size wr).alloc (Nat.le_refl _) (.cells #[.int .i64 y0] 3)))
      have HPa := Lib.hid HO.out.past
      have hcl : (c : Int) < ps.length := by omega
      have hc0 : (c : Int) ≥ 0 := by omega
      go_wp2_with (at_builtin; refine wpl_append_oneI rfl _ _ rfl w2.heap.size _ R y0 wr.heap.size 1 rfl rfl HK1.out (by simp) (by omega) (Nat.le_trans HBr.out.size (by simp)) ?_; intro v' w3 hO3 hg3 _)
      go_roundw
      case rel => exact ⟨c, _, rfl, by omega, by omega, Lib.hid (by rw [HD.out]; exact hO3), Lib.hid ((HBr.out.alloc HBr.out.size _).grown hg3 (Nat.le_trans HBr.out.size (by simp)) HPa.out)⟩
      case measure => simp [RowKit.intOf]
    | zero =>
      obtain rfl : k = -1 := by omega
      rw [List.drop_zero] at HO
      have HL' := Lib.hid (HL.out.below HBr.out)
      have HZ' := Lib.hid (Below.two HZZ.out HBr.out)
      have HU' := Lib.hid (HU.out.below HBr.out)
      have HS' := Lib.hid (And.intro (Nat.lt_of_lt_of_le HSP.out.1 HBr.out.size) (HSP.out.2.below HBr.out HSP.out.1))
      have HK := Lib.hid (HRv.out wr _ HL'.out HO.out.arg HO.out.room)
      obtain ⟨po, co, rfl, _⟩ := HO.out.arg
      rw [List.length_reverse] at HK ⊢
      clear HO HBr HSP HU HZZ HL HRv hk HW0
      go_wp2_with fail
      refine HK.out.mono ?_
      rintro e w4 ⟨rfl, hb4⟩
      simp only [lenE]
      have HL := Lib.hid (HL'.out.below hb4)
      have HZ := Lib.hid (Below.two HZ'.out hb4)
      have HU := Lib.hid (HU'.out.below hb4)
      have HS := Lib.hid (And.intro (Nat.lt_of_lt_of_le HS'.out.1 hb4.size) (HS'.out.2.below hb4 HS'.out.1))
      have HO1 := Lib.hid (HOne.out w4 bp op cp HL.out HS.out.1 (HS.out.2 0 (by rw [HJ.out]; omega)))
      clear HL' HZ' HU' HS' hb4 HK HOne
      have hcp1 : 1 ≤ (cp : Int) := by have := hrp.le; have := HJ.out; omega
      have hcpn : 1 ≤ cp := by omega
      go_wp2_with fail
      refine HO1.out.mono ?_
      rintro e w5 ⟨rfl, hb5⟩
      have HL' := Lib.hid (HL.out.below hb5)
      have HZ' := Lib.hid (Below.two HZ.out hb5)
      have HU' := Lib.hid (HU.out.below hb5)
      have HS' := Lib.hid (And.intro (Nat.lt_of_lt_of_le HS.out.1 hb5.size) (HS.out.2.below hb5 HS.out.1))
      clear HL HZ HU HS hb5 HO1 hcp1 hcpn
      have hru' := hru.le
      obtain ⟨_, _, e1, hq⟩ := HU'.out
      injection e1 with e2 e3 e4
      clear e3
      subst e2 e4
      rcases hq with e | ⟨bq, oq, rfl, hbq, hsq⟩
      · have := HI.out
        rw [e] at this
        cases this
      have HSQ := Lib.hid (And.intro hbq hsq)
      clear hbq hsq HU'
      have HAp := Lib.hid (show ArgI w5 (.slice (some ⟨bp, op, none⟩) ps.length cp) ps from ⟨_, _, rfl, Or.inr ⟨bp, op, rfl, HS'.out.1, HS'.out.2⟩⟩)
      rw [HI.out]
      rw [HI.out] at hru'
      have HSl := Lib.hid (fun c => HSQ.out.2.tail HSQ.out.1 HI.out c)
      have hdl : (ws.drop 1).length ≤ 1048576 := by rw [List.length_drop]; omega

      by_cases heq : ps[j]! = ws[0]!
      · by_cases hcu : cu = 1
        · obtain rfl : i = 0 := by omega
          subst hcu
          have HSV : Hid (ArgI w5 (.slice (some ⟨bq, oq, none⟩) 0 0) (ws.drop 1)) := Lib.hid (by
            have e : ws.drop 1 = [] := List.drop_eq_nil_of_le (by rw [HI.out]; omega)
            rw [e]
            exact ⟨_, _, rfl, Or.inl rfl⟩)
          clear HSl hru'
          go_wp2_with fail
          have HZd := Lib.hid HZ'.out.drew
          have HLd := Lib.hid (HL'.out.below (Below.refl w5.heap.size w5).drew)
          have HApd := Lib.hid (HAp.out.below (Below.refl w5.heap.size w5).drew)
          have HSld := Lib.hid (HSV.out.below (Below.refl w5.heap.size w5).drew)
          have HSPd := Lib.hid (HS'.out.2.below (Below.refl w5.heap.size w5).drew HS'.out.1)
          have HSQd := Lib.hid (HSQ.out.2.below (Below.refl w5.heap.size w5).drew HSQ.out.1)
          have HLT := Lib.hid (show w5.heap.size ≤ w5.drew.heap.size from Nat.le_refl _)
          refine wp_region_held_drew (S := (fun _ => True)) (by kernel_rfl) trivial (fun hHeld => ?_)
          generalize w5.drew = wd at hHeld HZd HLd HApd HSld HSPd HSQd HLT ⊢
          refine wpAnyH_take (i := 0) (oi := { dst := some 101, op := Op.move (Operand.tmp 0), type := 3, pos := "still.go:159", after := #[], guard := none }) (v := ?_) rfl (by kernel_rfl) (by kernel_rfl) (by kernel_rfl) (fun _ _ _ h => h) (Or.inl ⟨by rfl, ?_⟩) hHeld ?_
          rotate_left
          · (intro w hSw; (try dsimp only at hSw); go_simp; first | done | with_reducible rfl)
          simp only [Act.put, List.setIfInBounds_toArray, List.set_cons_zero, List.set_cons_succ]
          refine wpAnyH_take (i := 1) (oi := { dst := some 102, op := Op.move (Operand.tmp 1), type := 22, pos := "still.go:159", after := #[], guard := none }) (v := ?_) rfl (by kernel_rfl) (by kernel_rfl) (by kernel_rfl) (fun _ _ _ h => h) (Or.inl ⟨by rfl, ?_⟩) hHeld ?_
          rotate_left
          · (intro w hSw; (try dsimp only at hSw); go_simp; first | done | with_reducible rfl)
          simp only [Act.put, List.setIfInBounds_toArray, List.set_cons_zero, List.set_cons_succ]
          refine wpAnyH_take (i := 3) (oi := { dst := some 104, op := Op.move (Operand.tmp 2), type := 23, pos := "still.go:159", after := #[], guard := none }) (v := ?_) rfl (by kernel_rfl) (by kernel_rfl) (by kernel_rfl) (fun _ _ _ h => h) (Or.inl ⟨by rfl, ?_⟩) hHeld ?_
          rotate_left
          · (intro w hSw; (try dsimp only at hSw); go_simp; first | done | with_reducible rfl)
          simp only [Act.put, List.setIfInBounds_toArray, List.set_cons_zero, List.set_cons_succ]
          refine wpAnyH_take (i := 5) (oi := { dst := some 106, op := Op.move (Operand.tmp 3), type := 23, pos := "still.go:159", after := #[], guard := none }) (v := ?_) rfl (by kernel_rfl) (by kernel_rfl) (by kernel_rfl) (fun _ _ _ h => h) (Or.inl ⟨by rfl, ?_⟩) hHeld ?_
          rotate_left
          · (intro w hSw; (try dsimp only at hSw); go_simp; first | done | with_reducible rfl)
          simp only [Act.put, List.setIfInBounds_toArray, List.set_cons_zero, List.set_cons_succ]
          refine wpAnyH_take (i := 6) (oi := { dst := some 107, op := Op.slice 23 (Operand.tmp 106) (some (Operand.const (Value.int IntKind.i64 1))) none none, type := 23, pos := "still.go:159", after := #[{ on := 5, ground := Ground.data }], guard := none }) (v := ?_) rfl (by kernel_rfl) (by kernel_rfl) (by kernel_rfl) (fun _ _ _ h => h) (Or.inl ⟨by rfl, ?_⟩) hHeld ?_
          rotate_left
          · (intro w hSw; (try dsimp only at hSw); go_simp; (try rw [if_pos (by omega)]); first | done | with_reducible rfl)
          simp only [Act.put, List.setIfInBounds_toArray, List.set_cons_zero, List.set_cons_succ]
          refine wpAnyH_ready (rs := [2]) (by kernel_rfl) (by simp) ?_
          refine (AllReadyH.cons (o := { dst := some 103, op := Op.buildSlice 23 0 #[], type := 23, pos := "still.go:159", after := #[], guard := none }) rfl (fun K hK => ?_) AllReadyH.nil)
          go_simp
          have BN : Below wd.heap.size wd (wd.alloc (.cells #[] 3)) := (Below.refl _ wd).alloc (Nat.le_refl _) _
          have OO : OwnI (wd.alloc (.cells #[] 3)) wd.heap.size (.slice (some ⟨wd.heap.size, 0, none⟩) 0 0) [] := World.ownsRow_made wd #[] 0 (Nat.le_refl _) (Nat.zero_le _) (by simp)
          have KK2 := True.intro
          refine hK.out _ _ KK2 (fun hHeld => ?_)
          clear hK K
          refine wpAnyH_ready (rs := [4]) (by kernel_rfl) (by simp) ?_
          refine (AllReadyH.cons (o := { dst := some 105, op := Op.call { callee := Callee.builtin Builtin.append, args := #[Operand.tmp 103, Operand.tmp 104], argTypes := #[23, 23] }, type := 23, pos := "still.go:159", after := #[{ on := 2, ground := Ground.data }, { on := 3, ground := Ground.data }], guard := none }) rfl (fun K hK => ?_) AllReadyH.nil)
          rw [if_pos (by rfl)]
          refine wp_append_listI _ _ rfl wd.heap.size _ _ [] ps rfl rfl OO (HApd.out.below BN) (by simp; omega) BN.size ?_
          intro v4 w6 hO4 hg4
          have B6 := BN.grown hg4 BN.size OO.past
          rw [List.nil_append] at hO4
          have KK4 := True.intro
          simp only [Act.put, List.setIfInBounds_toArray, List.set_cons_zero, List.set_cons_succ]
          refine hK.out _ _ KK4 (fun hHeld => ?_)
          clear hK K
          refine wpAnyH_ready (rs := [7]) (by kernel_rfl) (by simp) ?_
          refine (AllReadyH.cons (o := { dst := some 108, op := Op.call { callee := Callee.builtin Builtin.append, args := #[Operand.tmp 105, Operand.tmp 107], argTypes := #[23, 23] }, type := 23, pos := "still.go:159", after := #[{ on := 4, ground := Ground.data }, { on := 6, ground := Ground.data }, { on := 4, ground := Ground.chain }], guard := none }) rfl (fun K hK => ?_) AllReadyH.nil)
          rw [if_pos (by rfl)]
          refine wp_append_listI _ _ rfl wd.heap.size _ _ ps (ws.drop 1) rfl rfl hO4 (HSld.out.below B6) (by omega) B6.size ?_
          intro v7 w7 hO7 hg7
          have B7 := B6.grown hg7 B6.size hO4.past
          have KK7 := True.intro
          simp only [Act.put, List.setIfInBounds_toArray, List.set_cons_zero, List.set_cons_succ]
          refine hK.out _ _ KK7 (fun hHeld => ?_)
          clear hK K
          refine wpAnyH_ready (rs := [8]) (by kernel_rfl) (by simp) ?_
          refine (AllReadyH.cons (o := { dst := some 109, op := Op.call { callee := Callee.value (Operand.func 9), args := #[Operand.tmp 101, Operand.tmp 102, Operand.tmp 108], argTypes := #[3, 22, 23] }, type := 30, pos := "still.go:159", after := #[{ on := 0, ground := Ground.data }, { on := 1, ground := Ground.data }, { on := 7, ground := Ground.data }, { on := 7, ground := Ground.chain }], guard := none }) rfl (fun K hK => ?_) AllReadyH.nil)
          go_simp
          go_at_call 9
          refine (HCt.out _ _ (HLd.out.below B7) hO7.arg hO7.room).mono ?_
          rintro e w8 ⟨rfl, hb8⟩
          have B8 := Below.two B7 hb8
          rw [HCat.out heq]
          simp only [lenE]
          have KK8 := True.intro
          refine hK.out _ _ KK8 (fun hHeld => ?_)
          clear hK K
          refine wpAnyH_take (i := 9) (oi := { dst := some 100, op := Op.move (Operand.tmp 109), type := 30, pos := "still.go:159", after := #[{ on := 8, ground := Ground.data }], guard := none }) (v := ?_) rfl (by kernel_rfl) (by kernel_rfl) (by kernel_rfl) (fun _ _ _ h => h) (Or.inl ⟨by rfl, ?_⟩) hHeld ?_
          rotate_left
          · (intro w hSw; (try dsimp only at hSw); go_simp; first | done | with_reducible rfl)
          simp only [Act.put, List.setIfInBounds_toArray, List.set_cons_zero, List.set_cons_succ]
          refine wpAnyH_take (i := 10) (oi := { dst := some 110, op := Op.extract (Operand.tmp 100) 0, type := 3, pos := "still.go:159", after := #[{ on := 9, ground := Ground.data }], guard := none }) (v := ?_) rfl (by kernel_rfl) (by kernel_rfl) (by kernel_rfl) (fun _ _ _ h => h) (Or.inl ⟨by rfl, ?_⟩) hHeld ?_
          rotate_left
          · (intro w hSw; (try dsimp only at hSw); go_simp; first | done | with_reducible rfl)
          simp only [Act.put, List.setIfInBounds_toArray, List.set_cons_zero, List.set_cons_succ]
          refine wpAnyH_take (i := 11) (oi := { dst := some 111, op := Op.extract (Operand.tmp 100) 1, type := 26, pos := "still.go:159", after := #[{ on := 9, ground := Ground.data }, { on := 12, ground := Ground.gcOnly Departure.lateStores }], guard := none }) (v := ?_) rfl (by kernel_rfl) (by kernel_rfl) (by kernel_rfl) (fun _ _ _ h => h) (Or.inl ⟨by rfl, ?_⟩) hHeld ?_
          rotate_left
          · (intro w hSw; (try dsimp only at hSw); go_simp; first | done | with_reducible rfl)
          simp only [Act.put, List.setIfInBounds_toArray, List.set_cons_zero, List.set_cons_succ]
          refine wpAnyH_take (i := 12) (oi := { dst := some 21, op := Op.assign (Operand.tmp 110), type := 3, pos := "still.go:159", after := #[{ on := 10, ground := Ground.data }, { on := 8, ground := Ground.chain }, { on := 0, ground := Ground.phase }, { on := 1, ground := Ground.phase }, { on := 2, ground := Ground.phase }, { on := 3, ground := Ground.phase }, { on := 4, ground := Ground.phase }, { on := 5, ground := Ground.phase }, { on := 6, ground := Ground.phase }, { on := 7, ground := Ground.phase }, { on := 8, ground := Ground.phase }, { on := 9, ground := Ground.phase }, { on := 10, ground := Ground.phase }, { on := 11, ground := Ground.textOnly Departure.lateStores }], guard := none }) (v := ?_) rfl (by kernel_rfl) (by kernel_rfl) (by kernel_rfl) (fun _ _ _ h => h) (Or.inl ⟨by rfl, ?_⟩) hHeld ?_
          rotate_left
          · (intro w hSw; (try dsimp only at hSw); go_simp; first | done | with_reducible rfl)
          simp only [Act.put, List.setIfInBounds_toArray, List.set_cons_zero, List.set_cons_succ]
          refine wpAnyH_take (i := 13) (oi := { dst := some 22, op := Op.assign (Operand.tmp 111), type := 26, pos := "still.go:159", after := #[{ on := 11, ground := Ground.data }, { on := 12, ground := Ground.chain }, { on := 0, ground := Ground.phase }, { on := 1, ground := Ground.phase }, { on := 2, ground := Ground.phase }, { on := 3, ground := Ground.phase }, { on := 4, ground := Ground.phase }, { on := 5, ground := Ground.phase }, { on := 6, ground := Ground.phase }, { on := 7, ground := Ground.phase }, { on := 8, ground := Ground.phase }, { on := 9, ground := Ground.phase }, { on := 10, ground := Ground.phase }, { on := 11, ground := Ground.phase }, { on := 12, ground := Ground.phase }], guard := none }) (v := ?_) rfl (by kernel_rfl) (by kernel_rfl) (by kernel_rfl) (fun _ _ _ h => h) (Or.inl ⟨by rfl, ?_⟩) hHeld ?_
          rotate_left
          · (intro w hSw; (try dsimp only at hSw); go_simp; first | done | with_reducible rfl)
          simp only [Act.put, List.setIfInBounds_toArray, List.set_cons_zero, List.set_cons_succ]
          refine wpAnyH_done (by kernel_rfl) ?_ _
          clear hHeld
          have ap : w8.cell? ⟨bp, op + j, none⟩ = some (.int .i64 ps[j]!) := (HSPd.out.below B8 (Nat.lt_of_lt_of_le HS'.out.1 HLT.out)) j (by rw [HJ.out]; omega)
          have aq : w8.cell? ⟨bq, oq, none⟩ = some (.int .i64 ws[0]!) := (HSQd.out.below B8 (Nat.lt_of_lt_of_le HSQ.out.1 HLT.out)) 0 (by rw [HI.out]; omega)
          have hwj : IntKind.i64.wrap (j : Int) = j := by rw [IntKind.wrap_i64]; have := HJ.out; omega
          have hj2 : j ≤ 1048576 := by have := HJ.out; omega
          rw [HJ.out]
          clear hO4 hO7 hg4 hg7 BN B6 B7 OO HCat
          generalize ps[j]! = g0 at ap heq
          generalize ws[0]! = g1 at aq heq
          subst heq
          go_wp2_with fail
          go_quiet (fail)
          go_wp2_with fail
          go_ret
          exact ⟨rfl, Below.drewN (HZd.out.trans (B8.mono HZd.out.size)) _⟩
        · have HSV := Lib.hid (HSl.out (cu - 1))
          clear HSl
          go_wp2_with fail
          have HZd := Lib.hid HZ'.out.drew
          have HLd := Lib.hid (HL'.out.below (Below.refl w5.heap.size w5).drew)
          have HApd := Lib.hid (HAp.out.below (Below.refl w5.heap.size w5).drew)
          have HSld := Lib.hid (HSV.out.below (Below.refl w5.heap.size w5).drew)
          have HSPd := Lib.hid (HS'.out.2.below (Below.refl w5.heap.size w5).drew HS'.out.1)
          have HSQd := Lib.hid (HSQ.out.2.below (Below.refl w5.heap.size w5).drew HSQ.out.1)
          have HLT := Lib.hid (show w5.heap.size ≤ w5.drew.heap.size from Nat.le_refl _)
          refine wp_region_held_drew (S := (fun _ => True)) (by kernel_rfl) trivial (fun hHeld => ?_)
          generalize w5.drew = wd at hHeld HZd HLd HApd HSld HSPd HSQd HLT ⊢
          refine wpAnyH_take (i := 0) (oi := { dst := some 101, op := Op.move (Operand.tmp 0), type := 3, pos := "still.go:159", after := #[], guard := none }) (v := ?_) rfl (by kernel_rfl) (by kernel_rfl) (by kernel_rfl) (fun _ _ _ h => h) (Or.inl ⟨by rfl, ?_⟩) hHeld ?_
          rotate_left
          · (intro w hSw; (try dsimp only at hSw); go_simp; first | done | with_reducible rfl)
          simp only [Act.put, List.setIfInBounds_toArray, List.set_cons_zero, List.set_cons_succ]
          refine wpAnyH_take (i := 1) (oi := { dst := some 102, op := Op.move (Operand.tmp 1), type := 22, pos := "still.go:159", after := #[], guard := none }) (v := ?_) rfl (by kernel_rfl) (by kernel_rfl) (by kernel_rfl) (fun _ _ _ h => h) (Or.inl ⟨by rfl, ?_⟩) hHeld ?_
          rotate_left
          · (intro w hSw; (try dsimp only at hSw); go_simp; first | done | with_reducible rfl)
          simp only [Act.put, List.setIfInBounds_toArray, List.set_cons_zero, List.set_cons_succ]
          refine wpAnyH_take (i := 3) (oi := { dst := some 104, op := Op.move (Operand.tmp 2), type := 23, pos := "still.go:159", after := #[], guard := none }) (v := ?_) rfl (by kernel_rfl) (by kernel_rfl) (by kernel_rfl) (fun _ _ _ h => h) (Or.inl ⟨by rfl, ?_⟩) hHeld ?_
          rotate_left
          · (intro w hSw; (try dsimp only at hSw); go_simp; first | done | with_reducible rfl)
          simp only [Act.put, List.setIfInBounds_toArray, List.set_cons_zero, List.set_cons_succ]
          refine wpAnyH_take (i := 5) (oi := { dst := some 106, op := Op.move (Operand.tmp 3), type := 23, pos := "still.go:159", after := #[], guard := none }) (v := ?_) rfl (by kernel_rfl) (by kernel_rfl) (by kernel_rfl) (fun _ _ _ h => h) (Or.inl ⟨by rfl, ?_⟩) hHeld ?_
          rotate_left
          · (intro w hSw; (try dsimp only at hSw); go_simp; first | done | with_reducible rfl)
          simp only [Act.put, List.setIfInBounds_toArray, List.set_cons_zero, List.set_cons_succ]
          refine wpAnyH_take (i := 6) (oi := { dst := some 107, op := Op.slice 23 (Operand.tmp 106) (some (Operand.const (Value.int IntKind.i64 1))) none none, type := 23, pos := "still.go:159", after := #[{ on := 5, ground := Ground.data }], guard := none }) (v := ?_) rfl (by kernel_rfl) (by kernel_rfl) (by kernel_rfl) (fun _ _ _ h => h) (Or.inl ⟨by rfl, ?_⟩) hHeld ?_
          rotate_left
          · (intro w hSw; (try dsimp only at hSw); go_simp; (try rw [if_pos (by omega)]); first | done | with_reducible rfl)
          simp only [Act.put, List.setIfInBounds_toArray, List.set_cons_zero, List.set_cons_succ]
          refine wpAnyH_ready (rs := [2]) (by kernel_rfl) (by simp) ?_
          refine (AllReadyH.cons (o := { dst := some 103, op := Op.buildSlice 23 0 #[], type := 23, pos := "still.go:159", after := #[], guard := none }) rfl (fun K hK => ?_) AllReadyH.nil)
          go_simp
          have BN : Below wd.heap.size wd (wd.alloc (.cells #[] 3)) := (Below.refl _ wd).alloc (Nat.le_refl _) _
          have OO : OwnI (wd.alloc (.cells #[] 3)) wd.heap.size (.slice (some ⟨wd.heap.size, 0, none⟩) 0 0) [] := World.ownsRow_made wd #[] 0 (Nat.le_refl _) (Nat.zero_le _) (by simp)
          have KK2 := True.intro
          refine hK.out _ _ KK2 (fun hHeld => ?_)
          clear hK K
          refine wpAnyH_ready (rs := [4]) (by kernel_rfl) (by simp) ?_
          refine (AllReadyH.cons (o := { dst := some 105, op := Op.call { callee := Callee.builtin Builtin.append, args := #[Operand.tmp 103, Operand.tmp 104], argTypes := #[23, 23] }, type := 23, pos := "still.go:159", after := #[{ on := 2, ground := Ground.data }, { on := 3, ground := Ground.data }], guard := none }) rfl (fun K hK => ?_) AllReadyH.nil)
          rw [if_pos (by rfl)]
          refine wp_append_listI _ _ rfl wd.heap.size _ _ [] ps rfl rfl OO (HApd.out.below BN) (by simp; omega) BN.size ?_
          intro v4 w6 hO4 hg4
          have B6 := BN.grown hg4 BN.size OO.past
          rw [List.nil_append] at hO4
          have KK4 := True.intro
          simp only [Act.put, List.setIfInBounds_toArray, List.set_cons_zero, List.set_cons_succ]
          refine hK.out _ _ KK4 (fun hHeld => ?_)
          clear hK K
          refine wpAnyH_ready (rs := [7]) (by kernel_rfl) (by simp) ?_
          refine (AllReadyH.cons (o := { dst := some 108, op := Op.call { callee := Callee.builtin Builtin.append, args := #[Operand.tmp 105, Operand.tmp 107], argTypes := #[23, 23] }, type := 23, pos := "still.go:159", after := #[{ on := 4, ground := Ground.data }, { on := 6, ground := Ground.data }, { on := 4, ground := Ground.chain }], guard := none }) rfl (fun K hK => ?_) AllReadyH.nil)
          rw [if_pos (by rfl)]
          refine wp_append_listI _ _ rfl wd.heap.size _ _ ps (ws.drop 1) rfl rfl hO4 (HSld.out.below B6) (by omega) B6.size ?_
          intro v7 w7 hO7 hg7
          have B7 := B6.grown hg7 B6.size hO4.past
          have KK7 := True.intro
          simp only [Act.put, List.setIfInBounds_toArray, List.set_cons_zero, List.set_cons_succ]
          refine hK.out _ _ KK7 (fun hHeld => ?_)
          clear hK K
          refine wpAnyH_ready (rs := [8]) (by kernel_rfl) (by simp) ?_
          refine (AllReadyH.cons (o := { dst := some 109, op := Op.call { callee := Callee.value (Operand.func 9), args := #[Operand.tmp 101, Operand.tmp 102, Operand.tmp 108], argTypes := #[3, 22, 23] }, type := 30, pos := "still.go:159", after := #[{ on := 0, ground := Ground.data }, { on := 1, ground := Ground.data }, { on := 7, ground := Ground.data }, { on := 7, ground := Ground.chain }], guard := none }) rfl (fun K hK => ?_) AllReadyH.nil)
          go_simp
          go_at_call 9
          refine (HCt.out _ _ (HLd.out.below B7) hO7.arg hO7.room).mono ?_
          rintro e w8 ⟨rfl, hb8⟩
          have B8 := Below.two B7 hb8
          rw [HCat.out heq]
          simp only [lenE]
          have KK8 := True.intro
          refine hK.out _ _ KK8 (fun hHeld => ?_)
          clear hK K
          refine wpAnyH_take (i := 9) (oi := { dst := some 100, op := Op.move (Operand.tmp 109), type := 30, pos := "still.go:159", after := #[{ on := 8, ground := Ground.data }], guard := none }) (v := ?_) rfl (by kernel_rfl) (by kernel_rfl) (by kernel_rfl) (fun _ _ _ h => h) (Or.inl ⟨by rfl, ?_⟩) hHeld ?_
          rotate_left
          · (intro w hSw; (try dsimp only at hSw); go_simp; first | done | with_reducible rfl)
          simp only [Act.put, List.setIfInBounds_toArray, List.set_cons_zero, List.set_cons_succ]
          refine wpAnyH_take (i := 10) (oi := { dst := some 110, op := Op.extract (Operand.tmp 100) 0, type := 3, pos := "still.go:159", after := #[{ on := 9, ground := Ground.data }], guard := none }) (v := ?_) rfl (by kernel_rfl) (by kernel_rfl) (by kernel_rfl) (fun _ _ _ h => h) (Or.inl ⟨by rfl, ?_⟩) hHeld ?_
          rotate_left
          · (intro w hSw; (try dsimp only at hSw); go_simp; first | done | with_reducible rfl)
          simp only [Act.put, List.setIfInBounds_toArray, List.set_cons_zero, List.set_cons_succ]
          refine wpAnyH_take (i := 11) (oi := { dst := some 111, op := Op.extract (Operand.tmp 100) 1, type := 26, pos := "still.go:159", after := #[{ on := 9, ground := Ground.data }, { on := 12, ground := Ground.gcOnly Departure.lateStores }], guard := none }) (v := ?_) rfl (by kernel_rfl) (by kernel_rfl) (by kernel_rfl) (fun _ _ _ h => h) (Or.inl ⟨by rfl, ?_⟩) hHeld ?_
          rotate_left
          · (intro w hSw; (try dsimp only at hSw); go_simp; first | done | with_reducible rfl)
          simp only [Act.put, List.setIfInBounds_toArray, List.set_cons_zero, List.set_cons_succ]
          refine wpAnyH_take (i := 12) (oi := { dst := some 21, op := Op.assign (Operand.tmp 110), type := 3, pos := "still.go:159", after := #[{ on := 10, ground := Ground.data }, { on := 8, ground := Ground.chain }, { on := 0, ground := Ground.phase }, { on := 1, ground := Ground.phase }, { on := 2, ground := Ground.phase }, { on := 3, ground := Ground.phase }, { on := 4, ground := Ground.phase }, { on := 5, ground := Ground.phase }, { on := 6, ground := Ground.phase }, { on := 7, ground := Ground.phase }, { on := 8, ground := Ground.phase }, { on := 9, ground := Ground.phase }, { on := 10, ground := Ground.phase }, { on := 11, ground := Ground.textOnly Departure.lateStores }], guard := none }) (v := ?_) rfl (by kernel_rfl) (by kernel_rfl) (by kernel_rfl) (fun _ _ _ h => h) (Or.inl ⟨by rfl, ?_⟩) hHeld ?_
          rotate_left
          · (intro w hSw; (try dsimp only at hSw); go_simp; first | done | with_reducible rfl)
          simp only [Act.put, List.setIfInBounds_toArray, List.set_cons_zero, List.set_cons_succ]
          refine wpAnyH_take (i := 13) (oi := { dst := some 22, op := Op.assign (Operand.tmp 111), type := 26, pos := "still.go:159", after := #[{ on := 11, ground := Ground.data }, { on := 12, ground := Ground.chain }, { on := 0, ground := Ground.phase }, { on := 1, ground := Ground.phase }, { on := 2, ground := Ground.phase }, { on := 3, ground := Ground.phase }, { on := 4, ground := Ground.phase }, { on := 5, ground := Ground.phase }, { on := 6, ground := Ground.phase }, { on := 7, ground := Ground.phase }, { on := 8, ground := Ground.phase }, { on := 9, ground := Ground.phase }, { on := 10, ground := Ground.phase }, { on := 11, ground := Ground.phase }, { on := 12, ground := Ground.phase }], guard := none }) (v := ?_) rfl (by kernel_rfl) (by kernel_rfl) (by kernel_rfl) (fun _ _ _ h => h) (Or.inl ⟨by rfl, ?_⟩) hHeld ?_
          rotate_left
          · (intro w hSw; (try dsimp only at hSw); go_simp; first | done | with_reducible rfl)
          simp only [Act.put, List.setIfInBounds_toArray, List.set_cons_zero, List.set_cons_succ]
          refine wpAnyH_done (by kernel_rfl) ?_ _
          clear hHeld
          have ap : w8.cell? ⟨bp, op + j, none⟩ = some (.int .i64 ps[j]!) := (HSPd.out.below B8 (Nat.lt_of_lt_of_le HS'.out.1 HLT.out)) j (by rw [HJ.out]; omega)
          have aq : w8.cell? ⟨bq, oq, none⟩ = some (.int .i64 ws[0]!) := (HSQd.out.below B8 (Nat.lt_of_lt_of_le HSQ.out.1 HLT.out)) 0 (by rw [HI.out]; omega)
          have hwj : IntKind.i64.wrap (j : Int) = j := by rw [IntKind.wrap_i64]; have := HJ.out; omega
          have hj2 : j ≤ 1048576 := by have := HJ.out; omega
          rw [HJ.out]
          clear hO4 hO7 hg4 hg7 BN B6 B7 OO HCat
          generalize ps[j]! = g0 at ap heq
          generalize ws[0]! = g1 at aq heq
          subst heq
          go_wp2_with fail
          go_quiet (fail)
          go_wp2_with fail
          go_ret
          exact ⟨rfl, Below.drewN (HZd.out.trans (B8.mono HZd.out.size)) _⟩
      · cases hLn : lengthG m l (ps ++ ws.drop 1) with
        | none =>
          have HLn := Lib.hid hLn
          clear hLn
          by_cases hcu : cu = 1
          · obtain rfl : i = 0 := by omega
            subst hcu
            have HSV : Hid (ArgI w5 (.slice (some ⟨bq, oq, none⟩) 0 0) (ws.drop 1)) := Lib.hid (by
              have e : ws.drop 1 = [] := List.drop_eq_nil_of_le (by rw [HI.out]; omega)
              rw [e]
              exact ⟨_, _, rfl, Or.inl rfl⟩)
            clear HSl hru'
            go_wp2_with fail
            have HZd := Lib.hid HZ'.out.drew
            have HLd := Lib.hid (HL'.out.below (Below.refl w5.heap.size w5).drew)
            have HApd := Lib.hid (HAp.out.below (Below.refl w5.heap.size w5).drew)
            have HSld := Lib.hid (HSV.out.below (Below.refl w5.heap.size w5).drew)
            have HSPd := Lib.hid (HS'.out.2.below (Below.refl w5.heap.size w5).drew HS'.out.1)
            have HSQd := Lib.hid (HSQ.out.2.below (Below.refl w5.heap.size w5).drew HSQ.out.1)
            have HLT := Lib.hid (show w5.heap.size ≤ w5.drew.heap.size from Nat.le_refl _)
            refine wp_region_held_drew (S := (fun _ => True)) (by kernel_rfl) trivial (fun hHeld => ?_)
            generalize w5.drew = wd at hHeld HZd HLd HApd HSld HSPd HSQd HLT ⊢
            refine wpAnyH_take (i := 0) (oi := { dst := some 101, op := Op.move (Operand.tmp 0), type := 3, pos := "still.go:159", after := #[], guard := none }) (v := ?_) rfl (by kernel_rfl) (by kernel_rfl) (by kernel_rfl) (fun _ _ _ h => h) (Or.inl ⟨by rfl, ?_⟩) hHeld ?_
            rotate_left
            · (intro w hSw; (try dsimp only at hSw); go_simp; first | done | with_reducible rfl)
            simp only [Act.put, List.setIfInBounds_toArray, List.set_cons_zero, List.set_cons_succ]
            refine wpAnyH_take (i := 1) (oi := { dst := some 102, op := Op.move (Operand.tmp 1), type := 22, pos := "still.go:159", after := #[], guard := none }) (v := ?_) rfl (by kernel_rfl) (by kernel_rfl) (by kernel_rfl) (fun _ _ _ h => h) (Or.inl ⟨by rfl, ?_⟩) hHeld ?_
            rotate_left
            · (intro w hSw; (try dsimp only at hSw); go_simp; first | done | with_reducible rfl)
            simp only [Act.put, List.setIfInBounds_toArray, List.set_cons_zero, List.set_cons_succ]
            refine wpAnyH_take (i := 3) (oi := { dst := some 104, op := Op.move (Operand.tmp 2), type := 23, pos := "still.go:159", after := #[], guard := none }) (v := ?_) rfl (by kernel_rfl) (by kernel_rfl) (by kernel_rfl) (fun _ _ _ h => h) (Or.inl ⟨by rfl, ?_⟩) hHeld ?_
            rotate_left
            · (intro w hSw; (try dsimp only at hSw); go_simp; first | done | with_reducible rfl)
            simp only [Act.put, List.setIfInBounds_toArray, List.set_cons_zero, List.set_cons_succ]
            refine wpAnyH_take (i := 5) (oi := { dst := some 106, op := Op.move (Operand.tmp 3), type := 23, pos := "still.go:159", after := #[], guard := none }) (v := ?_) rfl (by kernel_rfl) (by kernel_rfl) (by kernel_rfl) (fun _ _ _ h => h) (Or.inl ⟨by rfl, ?_⟩) hHeld ?_
            rotate_left
            · (intro w hSw; (try dsimp only at hSw); go_simp; first | done | with_reducible rfl)
            simp only [Act.put, List.setIfInBounds_toArray, List.set_cons_zero, List.set_cons_succ]
            refine wpAnyH_take (i := 6) (oi := { dst := some 107, op := Op.slice 23 (Operand.tmp 106) (some (Operand.const (Value.int IntKind.i64 1))) none none, type := 23, pos := "still.go:159", after := #[{ on := 5, ground := Ground.data }], guard := none }) (v := ?_) rfl (by kernel_rfl) (by kernel_rfl) (by kernel_rfl) (fun _ _ _ h => h) (Or.inl ⟨by rfl, ?_⟩) hHeld ?_
            rotate_left
            · (intro w hSw; (try dsimp only at hSw); go_simp; (try rw [if_pos (by omega)]); first | done | with_reducible rfl)
            simp only [Act.put, List.setIfInBounds_toArray, List.set_cons_zero, List.set_cons_succ]
            refine wpAnyH_ready (rs := [2]) (by kernel_rfl) (by simp) ?_
            refine (AllReadyH.cons (o := { dst := some 103, op := Op.buildSlice 23 0 #[], type := 23, pos := "still.go:159", after := #[], guard := none }) rfl (fun K hK => ?_) AllReadyH.nil)
            go_simp
            have BN : Below wd.heap.size wd (wd.alloc (.cells #[] 3)) := (Below.refl _ wd).alloc (Nat.le_refl _) _
            have OO : OwnI (wd.alloc (.cells #[] 3)) wd.heap.size (.slice (some ⟨wd.heap.size, 0, none⟩) 0 0) [] := World.ownsRow_made wd #[] 0 (Nat.le_refl _) (Nat.zero_le _) (by simp)
            have KK2 := True.intro
            refine hK.out _ _ KK2 (fun hHeld => ?_)
            clear hK K
            refine wpAnyH_ready (rs := [4]) (by kernel_rfl) (by simp) ?_
            refine (AllReadyH.cons (o := { dst := some 105, op := Op.call { callee := Callee.builtin Builtin.append, args := #[Operand.tmp 103, Operand.tmp 104], argTypes := #[23, 23] }, type := 23, pos := "still.go:159", after := #[{ on := 2, ground := Ground.data }, { on := 3, ground := Ground.data }], guard := none }) rfl (fun K hK => ?_) AllReadyH.nil)
            rw [if_pos (by rfl)]
            refine wp_append_listI _ _ rfl wd.heap.size _ _ [] ps rfl rfl OO (HApd.out.below BN) (by simp; omega) BN.size ?_
            intro v4 w6 hO4 hg4
            have B6 := BN.grown hg4 BN.size OO.past
            rw [List.nil_append] at hO4
            have KK4 := True.intro
            simp only [Act.put, List.setIfInBounds_toArray, List.set_cons_zero, List.set_cons_succ]
            refine hK.out _ _ KK4 (fun hHeld => ?_)
            clear hK K
            refine wpAnyH_ready (rs := [7]) (by kernel_rfl) (by simp) ?_
            refine (AllReadyH.cons (o := { dst := some 108, op := Op.call { callee := Callee.builtin Builtin.append, args := #[Operand.tmp 105, Operand.tmp 107], argTypes := #[23, 23] }, type := 23, pos := "still.go:159", after := #[{ on := 4, ground := Ground.data }, { on := 6, ground := Ground.data }, { on := 4, ground := Ground.chain }], guard := none }) rfl (fun K hK => ?_) AllReadyH.nil)
            rw [if_pos (by rfl)]
            refine wp_append_listI _ _ rfl wd.heap.size _ _ ps (ws.drop 1) rfl rfl hO4 (HSld.out.below B6) (by omega) B6.size ?_
            intro v7 w7 hO7 hg7
            have B7 := B6.grown hg7 B6.size hO4.past
            have KK7 := True.intro
            simp only [Act.put, List.setIfInBounds_toArray, List.set_cons_zero, List.set_cons_succ]
            refine hK.out _ _ KK7 (fun hHeld => ?_)
            clear hK K
            refine wpAnyH_ready (rs := [8]) (by kernel_rfl) (by simp) ?_
            refine (AllReadyH.cons (o := { dst := some 109, op := Op.call { callee := Callee.value (Operand.func 9), args := #[Operand.tmp 101, Operand.tmp 102, Operand.tmp 108], argTypes := #[3, 22, 23] }, type := 30, pos := "still.go:159", after := #[{ on := 0, ground := Ground.data }, { on := 1, ground := Ground.data }, { on := 7, ground := Ground.data }, { on := 7, ground := Ground.chain }], guard := none }) rfl (fun K hK => ?_) AllReadyH.nil)
            go_simp
            go_at_call 9
            refine (HCt.out _ _ (HLd.out.below B7) hO7.arg hO7.room).mono ?_
            rintro e w8 ⟨rfl, hb8⟩
            have B8 := Below.two B7 hb8
            rw [HLn.out]
            simp only [lenE]
            have KK8 := True.intro
            refine hK.out _ _ KK8 (fun hHeld => ?_)
            clear hK K
            refine wpAnyH_take (i := 9) (oi := { dst := some 100, op := Op.move (Operand.tmp 109), type := 30, pos := "still.go:159", after := #[{ on := 8, ground := Ground.data }], guard := none }) (v := ?_) rfl (by kernel_rfl) (by kernel_rfl) (by kernel_rfl) (fun _ _ _ h => h) (Or.inl ⟨by rfl, ?_⟩) hHeld ?_
            rotate_left
            · (intro w hSw; (try dsimp only at hSw); go_simp; first | done | with_reducible rfl)
            simp only [Act.put, List.setIfInBounds_toArray, List.set_cons_zero, List.set_cons_succ]
            refine wpAnyH_take (i := 10) (oi := { dst := some 110, op := Op.extract (Operand.tmp 100) 0, type := 3, pos := "still.go:159", after := #[{ on := 9, ground := Ground.data }], guard := none }) (v := ?_) rfl (by kernel_rfl) (by kernel_rfl) (by kernel_rfl) (fun _ _ _ h => h) (Or.inl ⟨by rfl, ?_⟩) hHeld ?_
            rotate_left
            · (intro w hSw; (try dsimp only at hSw); go_simp; first | done | with_reducible rfl)
            simp only [Act.put, List.setIfInBounds_toArray, List.set_cons_zero, List.set_cons_succ]
            refine wpAnyH_take (i := 11) (oi := { dst := some 111, op := Op.extract (Operand.tmp 100) 1, type := 26, pos := "still.go:159", after := #[{ on := 9, ground := Ground.data }, { on := 12, ground := Ground.gcOnly Departure.lateStores }], guard := none }) (v := ?_) rfl (by kernel_rfl) (by kernel_rfl) (by kernel_rfl) (fun _ _ _ h => h) (Or.inl ⟨by rfl, ?_⟩) hHeld ?_
            rotate_left
            · (intro w hSw; (try dsimp only at hSw); go_simp; first | done | with_reducible rfl)
            simp only [Act.put, List.setIfInBounds_toArray, List.set_cons_zero, List.set_cons_succ]
            refine wpAnyH_take (i := 12) (oi := { dst := some 21, op := Op.assign (Operand.tmp 110), type := 3, pos := "still.go:159", after := #[{ on := 10, ground := Ground.data }, { on := 8, ground := Ground.chain }, { on := 0, ground := Ground.phase }, { on := 1, ground := Ground.phase }, { on := 2, ground := Ground.phase }, { on := 3, ground := Ground.phase }, { on := 4, ground := Ground.phase }, { on := 5, ground := Ground.phase }, { on := 6, ground := Ground.phase }, { on := 7, ground := Ground.phase }, { on := 8, ground := Ground.phase }, { on := 9, ground := Ground.phase }, { on := 10, ground := Ground.phase }, { on := 11, ground := Ground.textOnly Departure.lateStores }], guard := none }) (v := ?_) rfl (by kernel_rfl) (by kernel_rfl) (by kernel_rfl) (fun _ _ _ h => h) (Or.inl ⟨by rfl, ?_⟩) hHeld ?_
            rotate_left
            · (intro w hSw; (try dsimp only at hSw); go_simp; first | done | with_reducible rfl)
            simp only [Act.put, List.setIfInBounds_toArray, List.set_cons_zero, List.set_cons_succ]
            refine wpAnyH_take (i := 13) (oi := { dst := some 22, op := Op.assign (Operand.tmp 111), type := 26, pos := "still.go:159", after := #[{ on := 11, ground := Ground.data }, { on := 12, ground := Ground.chain }, { on := 0, ground := Ground.phase }, { on := 1, ground := Ground.phase }, { on := 2, ground := Ground.phase }, { on := 3, ground := Ground.phase }, { on := 4, ground := Ground.phase }, { on := 5, ground := Ground.phase }, { on := 6, ground := Ground.phase }, { on := 7, ground := Ground.phase }, { on := 8, ground := Ground.phase }, { on := 9, ground := Ground.phase }, { on := 10, ground := Ground.phase }, { on := 11, ground := Ground.phase }, { on := 12, ground := Ground.phase }], guard := none }) (v := ?_) rfl (by kernel_rfl) (by kernel_rfl) (by kernel_rfl) (fun _ _ _ h => h) (Or.inl ⟨by rfl, ?_⟩) hHeld ?_
            rotate_left
            · (intro w hSw; (try dsimp only at hSw); go_simp; first | done | with_reducible rfl)
            simp only [Act.put, List.setIfInBounds_toArray, List.set_cons_zero, List.set_cons_succ]
            refine wpAnyH_done (by kernel_rfl) ?_ _
            clear hHeld
            have ap : w8.cell? ⟨bp, op + j, none⟩ = some (.int .i64 ps[j]!) := (HSPd.out.below B8 (Nat.lt_of_lt_of_le HS'.out.1 HLT.out)) j (by rw [HJ.out]; omega)
            have aq : w8.cell? ⟨bq, oq, none⟩ = some (.int .i64 ws[0]!) := (HSQd.out.below B8 (Nat.lt_of_lt_of_le HSQ.out.1 HLT.out)) 0 (by rw [HI.out]; omega)
            have hwj : IntKind.i64.wrap (j : Int) = j := by rw [IntKind.wrap_i64]; have := HJ.out; omega
            have hj2 : j ≤ 1048576 := by have := HJ.out; omega
            rw [HJ.out]
            clear hO4 hO7 hg4 hg7 BN B6 B7 OO HCat
            generalize ps[j]! = g0 at ap heq
            generalize ws[0]! = g1 at aq heq
            have tn : (g0 != g1) = true := by simpa using heq
            clear heq HLn
            go_wp2_with fail
            go_quiet (fail)
            go_wp2_with fail
            go_ret
            exact ⟨rfl, Below.drewN (HZd.out.trans (B8.mono HZd.out.size)) _⟩
          · have HSV := Lib.hid (HSl.out (cu - 1))
            clear HSl
            go_wp2_with fail
            have HZd := Lib.hid HZ'.out.drew
            have HLd := Lib.hid (HL'.out.below (Below.refl w5.heap.size w5).drew)
            have HApd := Lib.hid (HAp.out.below (Below.refl w5.heap.size w5).drew)
            have HSld := Lib.hid (HSV.out.below (Below.refl w5.heap.size w5).drew)
            have HSPd := Lib.hid (HS'.out.2.below (Below.refl w5.heap.size w5).drew HS'.out.1)
            have HSQd := Lib.hid (HSQ.out.2.below (Below.refl w5.heap.size w5).drew HSQ.out.1)
            have HLT := Lib.hid (show w5.heap.size ≤ w5.drew.heap.size from Nat.le_refl _)
            refine wp_region_held_drew (S := (fun _ => True)) (by kernel_rfl) trivial (fun hHeld => ?_)
            generalize w5.drew = wd at hHeld HZd HLd HApd HSld HSPd HSQd HLT ⊢
            refine wpAnyH_take (i := 0) (oi := { dst := some 101, op := Op.move (Operand.tmp 0), type := 3, pos := "still.go:159", after := #[], guard := none }) (v := ?_) rfl (by kernel_rfl) (by kernel_rfl) (by kernel_rfl) (fun _ _ _ h => h) (Or.inl ⟨by rfl, ?_⟩) hHeld ?_
            rotate_left
            · (intro w hSw; (try dsimp only at hSw); go_simp; first | done | with_reducible rfl)
            simp only [Act.put, List.setIfInBounds_toArray, List.set_cons_zero, List.set_cons_succ]
            refine wpAnyH_take (i := 1) (oi := { dst := some 102, op := Op.move (Operand.tmp 1), type := 22, pos := "still.go:159", after := #[], guard := none }) (v := ?_) rfl (by kernel_rfl) (by kernel_rfl) (by kernel_rfl) (fun _ _ _ h => h) (Or.inl ⟨by rfl, ?_⟩) hHeld ?_
            rotate_left
            · (intro w hSw; (try dsimp only at hSw); go_simp; first | done | with_reducible rfl)
            simp only [Act.put, List.setIfInBounds_toArray, List.set_cons_zero, List.set_cons_succ]
            refine wpAnyH_take (i := 3) (oi := { dst := some 104, op := Op.move (Operand.tmp 2), type := 23, pos := "still.go:159", after := #[], guard := none }) (v := ?_) rfl (by kernel_rfl) (by kernel_rfl) (by kernel_rfl) (fun _ _ _ h => h) (Or.inl ⟨by rfl, ?_⟩) hHeld ?_
            rotate_left
            · (intro w hSw; (try dsimp only at hSw); go_simp; first | done | with_reducible rfl)
            simp only [Act.put, List.setIfInBounds_toArray, List.set_cons_zero, List.set_cons_succ]
            refine wpAnyH_take (i := 5) (oi := { dst := some 106, op := Op.move (Operand.tmp 3), type := 23, pos := "still.go:159", after := #[], guard := none }) (v := ?_) rfl (by kernel_rfl) (by kernel_rfl) (by kernel_rfl) (fun _ _ _ h => h) (Or.inl ⟨by rfl, ?_⟩) hHeld ?_
            rotate_left
            · (intro w hSw; (try dsimp only at hSw); go_simp; first | done | with_reducible rfl)
            simp only [Act.put, List.setIfInBounds_toArray, List.set_cons_zero, List.set_cons_succ]
            refine wpAnyH_take (i := 6) (oi := { dst := some 107, op := Op.slice 23 (Operand.tmp 106) (some (Operand.const (Value.int IntKind.i64 1))) none none, type := 23, pos := "still.go:159", after := #[{ on := 5, ground := Ground.data }], guard := none }) (v := ?_) rfl (by kernel_rfl) (by kernel_rfl) (by kernel_rfl) (fun _ _ _ h => h) (Or.inl ⟨by rfl, ?_⟩) hHeld ?_
            rotate_left
            · (intro w hSw; (try dsimp only at hSw); go_simp; (try rw [if_pos (by omega)]); first | done | with_reducible rfl)
            simp only [Act.put, List.setIfInBounds_toArray, List.set_cons_zero, List.set_cons_succ]
            refine wpAnyH_ready (rs := [2]) (by kernel_rfl) (by simp) ?_
            refine (AllReadyH.cons (o := { dst := some 103, op := Op.buildSlice 23 0 #[], type := 23, pos := "still.go:159", after := #[], guard := none }) rfl (fun K hK => ?_) AllReadyH.nil)
            go_simp
            have BN : Below wd.heap.size wd (wd.alloc (.cells #[] 3)) := (Below.refl _ wd).alloc (Nat.le_refl _) _
            have OO : OwnI (wd.alloc (.cells #[] 3)) wd.heap.size (.slice (some ⟨wd.heap.size, 0, none⟩) 0 0) [] := World.ownsRow_made wd #[] 0 (Nat.le_refl _) (Nat.zero_le _) (by simp)
            have KK2 := True.intro
            refine hK.out _ _ KK2 (fun hHeld => ?_)
            clear hK K
            refine wpAnyH_ready (rs := [4]) (by kernel_rfl) (by simp) ?_
            refine (AllReadyH.cons (o := { dst := some 105, op := Op.call { callee := Callee.builtin Builtin.append, args := #[Operand.tmp 103, Operand.tmp 104], argTypes := #[23, 23] }, type := 23, pos := "still.go:159", after := #[{ on := 2, ground := Ground.data }, { on := 3, ground := Ground.data }], guard := none }) rfl (fun K hK => ?_) AllReadyH.nil)
            rw [if_pos (by rfl)]
            refine wp_append_listI _ _ rfl wd.heap.size _ _ [] ps rfl rfl OO (HApd.out.below BN) (by simp; omega) BN.size ?_
            intro v4 w6 hO4 hg4
            have B6 := BN.grown hg4 BN.size OO.past
            rw [List.nil_append] at hO4
            have KK4 := True.intro
            simp only [Act.put, List.setIfInBounds_toArray, List.set_cons_zero, List.set_cons_succ]
            refine hK.out _ _ KK4 (fun hHeld => ?_)
            clear hK K
            refine wpAnyH_ready (rs := [7]) (by kernel_rfl) (by simp) ?_
            refine (AllReadyH.cons (o := { dst := some 108, op := Op.call { callee := Callee.builtin Builtin.append, args := #[Operand.tmp 105, Operand.tmp 107], argTypes := #[23, 23] }, type := 23, pos := "still.go:159", after := #[{ on := 4, ground := Ground.data }, { on := 6, ground := Ground.data }, { on := 4, ground := Ground.chain }], guard := none }) rfl (fun K hK => ?_) AllReadyH.nil)
            rw [if_pos (by rfl)]
            refine wp_append_listI _ _ rfl wd.heap.size _ _ ps (ws.drop 1) rfl rfl hO4 (HSld.out.below B6) (by omega) B6.size ?_
            intro v7 w7 hO7 hg7
            have B7 := B6.grown hg7 B6.size hO4.past
            have KK7 := True.intro
            simp only [Act.put, List.setIfInBounds_toArray, List.set_cons_zero, List.set_cons_succ]
            refine hK.out _ _ KK7 (fun hHeld => ?_)
            clear hK K
            refine wpAnyH_ready (rs := [8]) (by kernel_rfl) (by simp) ?_
            refine (AllReadyH.cons (o := { dst := some 109, op := Op.call { callee := Callee.value (Operand.func 9), args := #[Operand.tmp 101, Operand.tmp 102, Operand.tmp 108], argTypes := #[3, 22, 23] }, type := 30, pos := "still.go:159", after := #[{ on := 0, ground := Ground.data }, { on := 1, ground := Ground.data }, { on := 7, ground := Ground.data }, { on := 7, ground := Ground.chain }], guard := none }) rfl (fun K hK => ?_) AllReadyH.nil)
            go_simp
            go_at_call 9
            refine (HCt.out _ _ (HLd.out.below B7) hO7.arg hO7.room).mono ?_
            rintro e w8 ⟨rfl, hb8⟩
            have B8 := Below.two B7 hb8
            rw [HLn.out]
            simp only [lenE]
            have KK8 := True.intro
            refine hK.out _ _ KK8 (fun hHeld => ?_)
            clear hK K
            refine wpAnyH_take (i := 9) (oi := { dst := some 100, op := Op.move (Operand.tmp 109), type := 30, pos := "still.go:159", after := #[{ on := 8, ground := Ground.data }], guard := none }) (v := ?_) rfl (by kernel_rfl) (by kernel_rfl) (by kernel_rfl) (fun _ _ _ h => h) (Or.inl ⟨by rfl, ?_⟩) hHeld ?_
            rotate_left
            · (intro w hSw; (try dsimp only at hSw); go_simp; first | done | with_reducible rfl)
            simp only [Act.put, List.setIfInBounds_toArray, List.set_cons_zero, List.set_cons_succ]
            refine wpAnyH_take (i := 10) (oi := { dst := some 110, op := Op.extract (Operand.tmp 100) 0, type := 3, pos := "still.go:159", after := #[{ on := 9, ground := Ground.data }], guard := none }) (v := ?_) rfl (by kernel_rfl) (by kernel_rfl) (by kernel_rfl) (fun _ _ _ h => h) (Or.inl ⟨by rfl, ?_⟩) hHeld ?_
            rotate_left
            · (intro w hSw; (try dsimp only at hSw); go_simp; first | done | with_reducible rfl)
            simp only [Act.put, List.setIfInBounds_toArray, List.set_cons_zero, List.set_cons_succ]
            refine wpAnyH_take (i := 11) (oi := { dst := some 111, op := Op.extract (Operand.tmp 100) 1, type := 26, pos := "still.go:159", after := #[{ on := 9, ground := Ground.data }, { on := 12, ground := Ground.gcOnly Departure.lateStores }], guard := none }) (v := ?_) rfl (by kernel_rfl) (by kernel_rfl) (by kernel_rfl) (fun _ _ _ h => h) (Or.inl ⟨by rfl, ?_⟩) hHeld ?_
            rotate_left
            · (intro w hSw; (try dsimp only at hSw); go_simp; first | done | with_reducible rfl)
            simp only [Act.put, List.setIfInBounds_toArray, List.set_cons_zero, List.set_cons_succ]
            refine wpAnyH_take (i := 12) (oi := { dst := some 21, op := Op.assign (Operand.tmp 110), type := 3, pos := "still.go:159", after := #[{ on := 10, ground := Ground.data }, { on := 8, ground := Ground.chain }, { on := 0, ground := Ground.phase }, { on := 1, ground := Ground.phase }, { on := 2, ground := Ground.phase }, { on := 3, ground := Ground.phase }, { on := 4, ground := Ground.phase }, { on := 5, ground := Ground.phase }, { on := 6, ground := Ground.phase }, { on := 7, ground := Ground.phase }, { on := 8, ground := Ground.phase }, { on := 9, ground := Ground.phase }, { on := 10, ground := Ground.phase }, { on := 11, ground := Ground.textOnly Departure.lateStores }], guard := none }) (v := ?_) rfl (by kernel_rfl) (by kernel_rfl) (by kernel_rfl) (fun _ _ _ h => h) (Or.inl ⟨by rfl, ?_⟩) hHeld ?_
            rotate_left
            · (intro w hSw; (try dsimp only at hSw); go_simp; first | done | with_reducible rfl)
            simp only [Act.put, List.setIfInBounds_toArray, List.set_cons_zero, List.set_cons_succ]
            refine wpAnyH_take (i := 13) (oi := { dst := some 22, op := Op.assign (Operand.tmp 111), type := 26, pos := "still.go:159", after := #[{ on := 11, ground := Ground.data }, { on := 12, ground := Ground.chain }, { on := 0, ground := Ground.phase }, { on := 1, ground := Ground.phase }, { on := 2, ground := Ground.phase }, { on := 3, ground := Ground.phase }, { on := 4, ground := Ground.phase }, { on := 5, ground := Ground.phase }, { on := 6, ground := Ground.phase }, { on := 7, ground := Ground.phase }, { on := 8, ground := Ground.phase }, { on := 9, ground := Ground.phase }, { on := 10, ground := Ground.phase }, { on := 11, ground := Ground.phase }, { on := 12, ground := Ground.phase }], guard := none }) (v := ?_) rfl (by kernel_rfl) (by kernel_rfl) (by kernel_rfl) (fun _ _ _ h => h) (Or.inl ⟨by rfl, ?_⟩) hHeld ?_
            rotate_left
            · (intro w hSw; (try dsimp only at hSw); go_simp; first | done | with_reducible rfl)
            simp only [Act.put, List.setIfInBounds_toArray, List.set_cons_zero, List.set_cons_succ]
            refine wpAnyH_done (by kernel_rfl) ?_ _
            clear hHeld
            have ap : w8.cell? ⟨bp, op + j, none⟩ = some (.int .i64 ps[j]!) := (HSPd.out.below B8 (Nat.lt_of_lt_of_le HS'.out.1 HLT.out)) j (by rw [HJ.out]; omega)
            have aq : w8.cell? ⟨bq, oq, none⟩ = some (.int .i64 ws[0]!) := (HSQd.out.below B8 (Nat.lt_of_lt_of_le HSQ.out.1 HLT.out)) 0 (by rw [HI.out]; omega)
            have hwj : IntKind.i64.wrap (j : Int) = j := by rw [IntKind.wrap_i64]; have := HJ.out; omega
            have hj2 : j ≤ 1048576 := by have := HJ.out; omega
            rw [HJ.out]
            clear hO4 hO7 hg4 hg7 BN B6 B7 OO HCat
            generalize ps[j]! = g0 at ap heq
            generalize ws[0]! = g1 at aq heq
            have tn : (g0 != g1) = true := by simpa using heq
            clear heq HLn
            go_wp2_with fail
            go_quiet (fail)
            go_wp2_with fail
            go_ret
            exact ⟨rfl, Below.drewN (HZd.out.trans (B8.mono HZd.out.size)) _⟩
        | some zz =>
          have HLn := Lib.hid hLn
          clear hLn
          by_cases hcu : cu = 1
          · obtain rfl : i = 0 := by omega
            subst hcu
            have HSV : Hid (ArgI w5 (.slice (some ⟨bq, oq, none⟩) 0 0) (ws.drop 1)) := Lib.hid (by
              have e : ws.drop 1 = [] := List.drop_eq_nil_of_le (by rw [HI.out]; omega)
              rw [e]
              exact ⟨_, _, rfl, Or.inl rfl⟩)
            clear HSl hru'
            go_wp2_with fail
            have HZd := Lib.hid HZ'.out.drew
            have HLd := Lib.hid (HL'.out.below (Below.refl w5.heap.size w5).drew)
            have HApd := Lib.hid (HAp.out.below (Below.refl w5.heap.size w5).drew)
            have HSld := Lib.hid (HSV.out.below (Below.refl w5.heap.size w5).drew)
            have HSPd := Lib.hid (HS'.out.2.below (Below.refl w5.heap.size w5).drew HS'.out.1)
            have HSQd := Lib.hid (HSQ.out.2.below (Below.refl w5.heap.size w5).drew HSQ.out.1)
            have HLT := Lib.hid (show w5.heap.size ≤ w5.drew.heap.size from Nat.le_refl _)
            refine wp_region_held_drew (S := (fun _ => True)) (by kernel_rfl) trivial (fun hHeld => ?_)
            generalize w5.drew = wd at hHeld HZd HLd HApd HSld HSPd HSQd HLT ⊢
            refine wpAnyH_take (i := 0) (oi := { dst := some 101, op := Op.move (Operand.tmp 0), type := 3, pos := "still.go:159", after := #[], guard := none }) (v := ?_) rfl (by kernel_rfl) (by kernel_rfl) (by kernel_rfl) (fun _ _ _ h => h) (Or.inl ⟨by rfl, ?_⟩) hHeld ?_
            rotate_left
            · (intro w hSw; (try dsimp only at hSw); go_simp; first | done | with_reducible rfl)
            simp only [Act.put, List.setIfInBounds_toArray, List.set_cons_zero, List.set_cons_succ]
            refine wpAnyH_take (i := 1) (oi := { dst := some 102, op := Op.move (Operand.tmp 1), type := 22, pos := "still.go:159", after := #[], guard := none }) (v := ?_) rfl (by kernel_rfl) (by kernel_rfl) (by kernel_rfl) (fun _ _ _ h => h) (Or.inl ⟨by rfl, ?_⟩) hHeld ?_
            rotate_left
            · (intro w hSw; (try dsimp only at hSw); go_simp; first | done | with_reducible rfl)
            simp only [Act.put, List.setIfInBounds_toArray, List.set_cons_zero, List.set_cons_succ]
            refine wpAnyH_take (i := 3) (oi := { dst := some 104, op := Op.move (Operand.tmp 2), type := 23, pos := "still.go:159", after := #[], guard := none }) (v := ?_) rfl (by kernel_rfl) (by kernel_rfl) (by kernel_rfl) (fun _ _ _ h => h) (Or.inl ⟨by rfl, ?_⟩) hHeld ?_
            rotate_left
            · (intro w hSw; (try dsimp only at hSw); go_simp; first | done | with_reducible rfl)
            simp only [Act.put, List.setIfInBounds_toArray, List.set_cons_zero, List.set_cons_succ]
            refine wpAnyH_take (i := 5) (oi := { dst := some 106, op := Op.move (Operand.tmp 3), type := 23, pos := "still.go:159", after := #[], guard := none }) (v := ?_) rfl (by kernel_rfl) (by kernel_rfl) (by kernel_rfl) (fun _ _ _ h => h) (Or.inl ⟨by rfl, ?_⟩) hHeld ?_
            rotate_left
            · (intro w hSw; (try dsimp only at hSw); go_simp; first | done | with_reducible rfl)
            simp only [Act.put, List.setIfInBounds_toArray, List.set_cons_zero, List.set_cons_succ]
            refine wpAnyH_take (i := 6) (oi := { dst := some 107, op := Op.slice 23 (Operand.tmp 106) (some (Operand.const (Value.int IntKind.i64 1))) none none, type := 23, pos := "still.go:159", after := #[{ on := 5, ground := Ground.data }], guard := none }) (v := ?_) rfl (by kernel_rfl) (by kernel_rfl) (by kernel_rfl) (fun _ _ _ h => h) (Or.inl ⟨by rfl, ?_⟩) hHeld ?_
            rotate_left
            · (intro w hSw; (try dsimp only at hSw); go_simp; (try rw [if_pos (by omega)]); first | done | with_reducible rfl)
            simp only [Act.put, List.setIfInBounds_toArray, List.set_cons_zero, List.set_cons_succ]
            refine wpAnyH_ready (rs := [2]) (by kernel_rfl) (by simp) ?_
            refine (AllReadyH.cons (o := { dst := some 103, op := Op.buildSlice 23 0 #[], type := 23, pos := "still.go:159", after := #[], guard := none }) rfl (fun K hK => ?_) AllReadyH.nil)
            go_simp
            have BN : Below wd.heap.size wd (wd.alloc (.cells #[] 3)) := (Below.refl _ wd).alloc (Nat.le_refl _) _
            have OO : OwnI (wd.alloc (.cells #[] 3)) wd.heap.size (.slice (some ⟨wd.heap.size, 0, none⟩) 0 0) [] := World.ownsRow_made wd #[] 0 (Nat.le_refl _) (Nat.zero_le _) (by simp)
            have KK2 := True.intro
            refine hK.out _ _ KK2 (fun hHeld => ?_)
            clear hK K
            refine wpAnyH_ready (rs := [4]) (by kernel_rfl) (by simp) ?_
            refine (AllReadyH.cons (o := { dst := some 105, op := Op.call { callee := Callee.builtin Builtin.append, args := #[Operand.tmp 103, Operand.tmp 104], argTypes := #[23, 23] }, type := 23, pos := "still.go:159", after := #[{ on := 2, ground := Ground.data }, { on := 3, ground := Ground.data }], guard := none }) rfl (fun K hK => ?_) AllReadyH.nil)
            rw [if_pos (by rfl)]
            refine wp_append_listI _ _ rfl wd.heap.size _ _ [] ps rfl rfl OO (HApd.out.below BN) (by simp; omega) BN.size ?_
            intro v4 w6 hO4 hg4
            have B6 := BN.grown hg4 BN.size OO.past
            rw [List.nil_append] at hO4
            have KK4 := True.intro
            simp only [Act.put, List.setIfInBounds_toArray, List.set_cons_zero, List.set_cons_succ]
            refine hK.out _ _ KK4 (fun hHeld => ?_)
            clear hK K
            refine wpAnyH_ready (rs := [7]) (by kernel_rfl) (by simp) ?_
            refine (AllReadyH.cons (o := { dst := some 108, op := Op.call { callee := Callee.builtin Builtin.append, args := #[Operand.tmp 105, Operand.tmp 107], argTypes := #[23, 23] }, type := 23, pos := "still.go:159", after := #[{ on := 4, ground := Ground.data }, { on := 6, ground := Ground.data }, { on := 4, ground := Ground.chain }], guard := none }) rfl (fun K hK => ?_) AllReadyH.nil)
            rw [if_pos (by rfl)]
            refine wp_append_listI _ _ rfl wd.heap.size _ _ ps (ws.drop 1) rfl rfl hO4 (HSld.out.below B6) (by omega) B6.size ?_
            intro v7 w7 hO7 hg7
            have B7 := B6.grown hg7 B6.size hO4.past
            have KK7 := True.intro
            simp only [Act.put, List.setIfInBounds_toArray, List.set_cons_zero, List.set_cons_succ]
            refine hK.out _ _ KK7 (fun hHeld => ?_)
            clear hK K
            refine wpAnyH_ready (rs := [8]) (by kernel_rfl) (by simp) ?_
            refine (AllReadyH.cons (o := { dst := some 109, op := Op.call { callee := Callee.value (Operand.func 9), args := #[Operand.tmp 101, Operand.tmp 102, Operand.tmp 108], argTypes := #[3, 22, 23] }, type := 30, pos := "still.go:159", after := #[{ on := 0, ground := Ground.data }, { on := 1, ground := Ground.data }, { on := 7, ground := Ground.data }, { on := 7, ground := Ground.chain }], guard := none }) rfl (fun K hK => ?_) AllReadyH.nil)
            go_simp
            go_at_call 9
            refine (HCt.out _ _ (HLd.out.below B7) hO7.arg hO7.room).mono ?_
            rintro e w8 ⟨rfl, hb8⟩
            have B8 := Below.two B7 hb8
            rw [HLn.out]
            simp only [lenE]
            have KK8 := True.intro
            refine hK.out _ _ KK8 (fun hHeld => ?_)
            clear hK K
            refine wpAnyH_take (i := 9) (oi := { dst := some 100, op := Op.move (Operand.tmp 109), type := 30, pos := "still.go:159", after := #[{ on := 8, ground := Ground.data }], guard := none }) (v := ?_) rfl (by kernel_rfl) (by kernel_rfl) (by kernel_rfl) (fun _ _ _ h => h) (Or.inl ⟨by rfl, ?_⟩) hHeld ?_
            rotate_left
            · (intro w hSw; (try dsimp only at hSw); go_simp; first | done | with_reducible rfl)
            simp only [Act.put, List.setIfInBounds_toArray, List.set_cons_zero, List.set_cons_succ]
            refine wpAnyH_take (i := 10) (oi := { dst := some 110, op := Op.extract (Operand.tmp 100) 0, type := 3, pos := "still.go:159", after := #[{ on := 9, ground := Ground.data }], guard := none }) (v := ?_) rfl (by kernel_rfl) (by kernel_rfl) (by kernel_rfl) (fun _ _ _ h => h) (Or.inl ⟨by rfl, ?_⟩) hHeld ?_
            rotate_left
            · (intro w hSw; (try dsimp only at hSw); go_simp; first | done | with_reducible rfl)
            simp only [Act.put, List.setIfInBounds_toArray, List.set_cons_zero, List.set_cons_succ]
            refine wpAnyH_take (i := 11) (oi := { dst := some 111, op := Op.extract (Operand.tmp 100) 1, type := 26, pos := "still.go:159", after := #[{ on := 9, ground := Ground.data }, { on := 12, ground := Ground.gcOnly Departure.lateStores }], guard := none }) (v := ?_) rfl (by kernel_rfl) (by kernel_rfl) (by kernel_rfl) (fun _ _ _ h => h) (Or.inl ⟨by rfl, ?_⟩) hHeld ?_
            rotate_left
            · (intro w hSw; (try dsimp only at hSw); go_simp; first | done | with_reducible rfl)
            simp only [Act.put, List.setIfInBounds_toArray, List.set_cons_zero, List.set_cons_succ]
            refine wpAnyH_take (i := 12) (oi := { dst := some 21, op := Op.assign (Operand.tmp 110), type := 3, pos := "still.go:159", after := #[{ on := 10, ground := Ground.data }, { on := 8, ground := Ground.chain }, { on := 0, ground := Ground.phase }, { on := 1, ground := Ground.phase }, { on := 2, ground := Ground.phase }, { on := 3, ground := Ground.phase }, { on := 4, ground := Ground.phase }, { on := 5, ground := Ground.phase }, { on := 6, ground := Ground.phase }, { on := 7, ground := Ground.phase }, { on := 8, ground := Ground.phase }, { on := 9, ground := Ground.phase }, { on := 10, ground := Ground.phase }, { on := 11, ground := Ground.textOnly Departure.lateStores }], guard := none }) (v := ?_) rfl (by kernel_rfl) (by kernel_rfl) (by kernel_rfl) (fun _ _ _ h => h) (Or.inl ⟨by rfl, ?_⟩) hHeld ?_
            rotate_left
            · (intro w hSw; (try dsimp only at hSw); go_simp; first | done | with_reducible rfl)
            simp only [Act.put, List.setIfInBounds_toArray, List.set_cons_zero, List.set_cons_succ]
            refine wpAnyH_take (i := 13) (oi := { dst := some 22, op := Op.assign (Operand.tmp 111), type := 26, pos := "still.go:159", after := #[{ on := 11, ground := Ground.data }, { on := 12, ground := Ground.chain }, { on := 0, ground := Ground.phase }, { on := 1, ground := Ground.phase }, { on := 2, ground := Ground.phase }, { on := 3, ground := Ground.phase }, { on := 4, ground := Ground.phase }, { on := 5, ground := Ground.phase }, { on := 6, ground := Ground.phase }, { on := 7, ground := Ground.phase }, { on := 8, ground := Ground.phase }, { on := 9, ground := Ground.phase }, { on := 10, ground := Ground.phase }, { on := 11, ground := Ground.phase }, { on := 12, ground := Ground.phase }], guard := none }) (v := ?_) rfl (by kernel_rfl) (by kernel_rfl) (by kernel_rfl) (fun _ _ _ h => h) (Or.inl ⟨by rfl, ?_⟩) hHeld ?_
            rotate_left
            · (intro w hSw; (try dsimp only at hSw); go_simp; first | done | with_reducible rfl)
            simp only [Act.put, List.setIfInBounds_toArray, List.set_cons_zero, List.set_cons_succ]
            refine wpAnyH_done (by kernel_rfl) ?_ _
            clear hHeld
            have ap : w8.cell? ⟨bp, op + j, none⟩ = some (.int .i64 ps[j]!) := (HSPd.out.below B8 (Nat.lt_of_lt_of_le HS'.out.1 HLT.out)) j (by rw [HJ.out]; omega)
            have aq : w8.cell? ⟨bq, oq, none⟩ = some (.int .i64 ws[0]!) := (HSQd.out.below B8 (Nat.lt_of_lt_of_le HSQ.out.1 HLT.out)) 0 (by rw [HI.out]; omega)
            have hwj : IntKind.i64.wrap (j : Int) = j := by rw [IntKind.wrap_i64]; have := HJ.out; omega
            have hj2 : j ≤ 1048576 := by have := HJ.out; omega
            rw [HJ.out]
            clear hO4 hO7 hg4 hg7 BN B6 B7 OO HCat
            generalize ps[j]! = g0 at ap heq
            generalize ws[0]! = g1 at aq heq
            have tn : (g0 != g1) = true := by simpa using heq
            clear heq HLn
            go_wp2_with fail
            go_quiet (fail)
            go_wp2_with fail
            go_ret
            exact ⟨rfl, Below.drewN (HZd.out.trans (B8.mono HZd.out.size)) _⟩
          · have HSV := Lib.hid (HSl.out (cu - 1))
            clear HSl
            go_wp2_with fail
            have HZd := Lib.hid HZ'.out.drew
            have HLd := Lib.hid (HL'.out.below (Below.refl w5.heap.size w5).drew)
            have HApd := Lib.hid (HAp.out.below (Below.refl w5.heap.size w5).drew)
            have HSld := Lib.hid (HSV.out.below (Below.refl w5.heap.size w5).drew)
            have HSPd := Lib.hid (HS'.out.2.below (Below.refl w5.heap.size w5).drew HS'.out.1)
            have HSQd := Lib.hid (HSQ.out.2.below (Below.refl w5.heap.size w5).drew HSQ.out.1)
            have HLT := Lib.hid (show w5.heap.size ≤ w5.drew.heap.size from Nat.le_refl _)
            refine wp_region_held_drew (S := (fun _ => True)) (by kernel_rfl) trivial (fun hHeld => ?_)
            generalize w5.drew = wd at hHeld HZd HLd HApd HSld HSPd HSQd HLT ⊢
            refine wpAnyH_take (i := 0) (oi := { dst := some 101, op := Op.move (Operand.tmp 0), type := 3, pos := "still.go:159", after := #[], guard := none }) (v := ?_) rfl (by kernel_rfl) (by kernel_rfl) (by kernel_rfl) (fun _ _ _ h => h) (Or.inl ⟨by rfl, ?_⟩) hHeld ?_
            rotate_left
            · (intro w hSw; (try dsimp only at hSw); go_simp; first | done | with_reducible rfl)
            simp only [Act.put, List.setIfInBounds_toArray, List.set_cons_zero, List.set_cons_succ]
            refine wpAnyH_take (i := 1) (oi := { dst := some 102, op := Op.move (Operand.tmp 1), type := 22, pos := "still.go:159", after := #[], guard := none }) (v := ?_) rfl (by kernel_rfl) (by kernel_rfl) (by kernel_rfl) (fun _ _ _ h => h) (Or.inl ⟨by rfl, ?_⟩) hHeld ?_
            rotate_left
            · (intro w hSw; (try dsimp only at hSw); go_simp; first | done | with_reducible rfl)
            simp only [Act.put, List.setIfInBounds_toArray, List.set_cons_zero, List.set_cons_succ]
            refine wpAnyH_take (i := 3) (oi := { dst := some 104, op := Op.move (Operand.tmp 2), type := 23, pos := "still.go:159", after := #[], guard := none }) (v := ?_) rfl (by kernel_rfl) (by kernel_rfl) (by kernel_rfl) (fun _ _ _ h => h) (Or.inl ⟨by rfl, ?_⟩) hHeld ?_
            rotate_left
            · (intro w hSw; (try dsimp only at hSw); go_simp; first | done | with_reducible rfl)
            simp only [Act.put, List.setIfInBounds_toArray, List.set_cons_zero, List.set_cons_succ]
            refine wpAnyH_take (i := 5) (oi := { dst := some 106, op := Op.move (Operand.tmp 3), type := 23, pos := "still.go:159", after := #[], guard := none }) (v := ?_) rfl (by kernel_rfl) (by kernel_rfl) (by kernel_rfl) (fun _ _ _ h => h) (Or.inl ⟨by rfl, ?_⟩) hHeld ?_
            rotate_left
            · (intro w hSw; (try dsimp only at hSw); go_simp; first | done | with_reducible rfl)
            simp only [Act.put, List.setIfInBounds_toArray, List.set_cons_zero, List.set_cons_succ]
            refine wpAnyH_take (i := 6) (oi := { dst := some 107, op := Op.slice 23 (Operand.tmp 106) (some (Operand.const (Value.int IntKind.i64 1))) none none, type := 23, pos := "still.go:159", after := #[{ on := 5, ground := Ground.data }], guard := none }) (v := ?_) rfl (by kernel_rfl) (by kernel_rfl) (by kernel_rfl) (fun _ _ _ h => h) (Or.inl ⟨by rfl, ?_⟩) hHeld ?_
            rotate_left
            · (intro w hSw; (try dsimp only at hSw); go_simp; (try rw [if_pos (by omega)]); first | done | with_reducible rfl)
            simp only [Act.put, List.setIfInBounds_toArray, List.set_cons_zero, List.set_cons_succ]
            refine wpAnyH_ready (rs := [2]) (by kernel_rfl) (by simp) ?_
            refine (AllReadyH.cons (o := { dst := some 103, op := Op.buildSlice 23 0 #[], type := 23, pos := "still.go:159", after := #[], guard := none }) rfl (fun K hK => ?_) AllReadyH.nil)
            go_simp
            have BN : Below wd.heap.size wd (wd.alloc (.cells #[] 3)) := (Below.refl _ wd).alloc (Nat.le_refl _) _
            have OO : OwnI (wd.alloc (.cells #[] 3)) wd.heap.size (.slice (some ⟨wd.heap.size, 0, none⟩) 0 0) [] := World.ownsRow_made wd #[] 0 (Nat.le_refl _) (Nat.zero_le _) (by simp)
            have KK2 := True.intro
            refine hK.out _ _ KK2 (fun hHeld => ?_)
            clear hK K
            refine wpAnyH_ready (rs := [4]) (by kernel_rfl) (by simp) ?_
            refine (AllReadyH.cons (o := { dst := some 105, op := Op.call { callee := Callee.builtin Builtin.append, args := #[Operand.tmp 103, Operand.tmp 104], argTypes := #[23, 23] }, type := 23, pos := "still.go:159", after := #[{ on := 2, ground := Ground.data }, { on := 3, ground := Ground.data }], guard := none }) rfl (fun K hK => ?_) AllReadyH.nil)
            rw [if_pos (by rfl)]
            refine wp_append_listI _ _ rfl wd.heap.size _ _ [] ps rfl rfl OO (HApd.out.below BN) (by simp; omega) BN.size ?_
            intro v4 w6 hO4 hg4
            have B6 := BN.grown hg4 BN.size OO.past
            rw [List.nil_append] at hO4
            have KK4 := True.intro
            simp only [Act.put, List.setIfInBounds_toArray, List.set_cons_zero, List.set_cons_succ]
            refine hK.out _ _ KK4 (fun hHeld => ?_)
            clear hK K
            refine wpAnyH_ready (rs := [7]) (by kernel_rfl) (by simp) ?_
            refine (AllReadyH.cons (o := { dst := some 108, op := Op.call { callee := Callee.builtin Builtin.append, args := #[Operand.tmp 105, Operand.tmp 107], argTypes := #[23, 23] }, type := 23, pos := "still.go:159", after := #[{ on := 4, ground := Ground.data }, { on := 6, ground := Ground.data }, { on := 4, ground := Ground.chain }], guard := none }) rfl (fun K hK => ?_) AllReadyH.nil)
            rw [if_pos (by rfl)]
            refine wp_append_listI _ _ rfl wd.heap.size _ _ ps (ws.drop 1) rfl rfl hO4 (HSld.out.below B6) (by omega) B6.size ?_
            intro v7 w7 hO7 hg7
            have B7 := B6.grown hg7 B6.size hO4.past
            have KK7 := True.intro
            simp only [Act.put, List.setIfInBounds_toArray, List.set_cons_zero, List.set_cons_succ]
            refine hK.out _ _ KK7 (fun hHeld => ?_)
            clear hK K
            refine wpAnyH_ready (rs := [8]) (by kernel_rfl) (by simp) ?_
            refine (AllReadyH.cons (o := { dst := some 109, op := Op.call { callee := Callee.value (Operand.func 9), args := #[Operand.tmp 101, Operand.tmp 102, Operand.tmp 108], argTypes := #[3, 22, 23] }, type := 30, pos := "still.go:159", after := #[{ on := 0, ground := Ground.data }, { on := 1, ground := Ground.data }, { on := 7, ground := Ground.data }, { on := 7, ground := Ground.chain }], guard := none }) rfl (fun K hK => ?_) AllReadyH.nil)
            go_simp
            go_at_call 9
            refine (HCt.out _ _ (HLd.out.below B7) hO7.arg hO7.room).mono ?_
            rintro e w8 ⟨rfl, hb8⟩
            have B8 := Below.two B7 hb8
            rw [HLn.out]
            simp only [lenE]
            have KK8 := True.intro
            refine hK.out _ _ KK8 (fun hHeld => ?_)
            clear hK K
            refine wpAnyH_take (i := 9) (oi := { dst := some 100, op := Op.move (Operand.tmp 109), type := 30, pos := "still.go:159", after := #[{ on := 8, ground := Ground.data }], guard := none }) (v := ?_) rfl (by kernel_rfl) (by kernel_rfl) (by kernel_rfl) (fun _ _ _ h => h) (Or.inl ⟨by rfl, ?_⟩) hHeld ?_
            rotate_left
            · (intro w hSw; (try dsimp only at hSw); go_simp; first | done | with_reducible rfl)
            simp only [Act.put, List.setIfInBounds_toArray, List.set_cons_zero, List.set_cons_succ]
            refine wpAnyH_take (i := 10) (oi := { dst := some 110, op := Op.extract (Operand.tmp 100) 0, type := 3, pos := "still.go:159", after := #[{ on := 9, ground := Ground.data }], guard := none }) (v := ?_) rfl (by kernel_rfl) (by kernel_rfl) (by kernel_rfl) (fun _ _ _ h => h) (Or.inl ⟨by rfl, ?_⟩) hHeld ?_
            rotate_left
            · (intro w hSw; (try dsimp only at hSw); go_simp; first | done | with_reducible rfl)
            simp only [Act.put, List.setIfInBounds_toArray, List.set_cons_zero, List.set_cons_succ]
            refine wpAnyH_take (i := 11) (oi := { dst := some 111, op := Op.extract (Operand.tmp 100) 1, type := 26, pos := "still.go:159", after := #[{ on := 9, ground := Ground.data }, { on := 12, ground := Ground.gcOnly Departure.lateStores }], guard := none }) (v := ?_) rfl (by kernel_rfl) (by kernel_rfl) (by kernel_rfl) (fun _ _ _ h => h) (Or.inl ⟨by rfl, ?_⟩) hHeld ?_
            rotate_left
            · (intro w hSw; (try dsimp only at hSw); go_simp; first | done | with_reducible rfl)
            simp only [Act.put, List.setIfInBounds_toArray, List.set_cons_zero, List.set_cons_succ]
            refine wpAnyH_take (i := 12) (oi := { dst := some 21, op := Op.assign (Operand.tmp 110), type := 3, pos := "still.go:159", after := #[{ on := 10, ground := Ground.data }, { on := 8, ground := Ground.chain }, { on := 0, ground := Ground.phase }, { on := 1, ground := Ground.phase }, { on := 2, ground := Ground.phase }, { on := 3, ground := Ground.phase }, { on := 4, ground := Ground.phase }, { on := 5, ground := Ground.phase }, { on := 6, ground := Ground.phase }, { on := 7, ground := Ground.phase }, { on := 8, ground := Ground.phase }, { on := 9, ground := Ground.phase }, { on := 10, ground := Ground.phase }, { on := 11, ground := Ground.textOnly Departure.lateStores }], guard := none }) (v := ?_) rfl (by kernel_rfl) (by kernel_rfl) (by kernel_rfl) (fun _ _ _ h => h) (Or.inl ⟨by rfl, ?_⟩) hHeld ?_
            rotate_left
            · (intro w hSw; (try dsimp only at hSw); go_simp; first | done | with_reducible rfl)
            simp only [Act.put, List.setIfInBounds_toArray, List.set_cons_zero, List.set_cons_succ]
            refine wpAnyH_take (i := 13) (oi := { dst := some 22, op := Op.assign (Operand.tmp 111), type := 26, pos := "still.go:159", after := #[{ on := 11, ground := Ground.data }, { on := 12, ground := Ground.chain }, { on := 0, ground := Ground.phase }, { on := 1, ground := Ground.phase }, { on := 2, ground := Ground.phase }, { on := 3, ground := Ground.phase }, { on := 4, ground := Ground.phase }, { on := 5, ground := Ground.phase }, { on := 6, ground := Ground.phase }, { on := 7, ground := Ground.phase }, { on := 8, ground := Ground.phase }, { on := 9, ground := Ground.phase }, { on := 10, ground := Ground.phase }, { on := 11, ground := Ground.phase }, { on := 12, ground := Ground.phase }], guard := none }) (v := ?_) rfl (by kernel_rfl) (by kernel_rfl) (by kernel_rfl) (fun _ _ _ h => h) (Or.inl ⟨by rfl, ?_⟩) hHeld ?_
            rotate_left
            · (intro w hSw; (try dsimp only at hSw); go_simp; first | done | with_reducible rfl)
            simp only [Act.put, List.setIfInBounds_toArray, List.set_cons_zero, List.set_cons_succ]
            refine wpAnyH_done (by kernel_rfl) ?_ _
            clear hHeld
            have ap : w8.cell? ⟨bp, op + j, none⟩ = some (.int .i64 ps[j]!) := (HSPd.out.below B8 (Nat.lt_of_lt_of_le HS'.out.1 HLT.out)) j (by rw [HJ.out]; omega)
            have aq : w8.cell? ⟨bq, oq, none⟩ = some (.int .i64 ws[0]!) := (HSQd.out.below B8 (Nat.lt_of_lt_of_le HSQ.out.1 HLT.out)) 0 (by rw [HI.out]; omega)
            have hwj : IntKind.i64.wrap (j : Int) = j := by rw [IntKind.wrap_i64]; have := HJ.out; omega
            have hj2 : j ≤ 1048576 := by have := HJ.out; omega
            rw [HJ.out]
            clear hO4 hO7 hg4 hg7 BN B6 B7 OO HCat
            generalize ps[j]! = g0 at ap heq
            generalize ws[0]! = g1 at aq heq
            have tn : (g0 != g1) = true := by simpa using heq
            clear heq HLn
            go_wp2_with fail
            go_quiet (fail)
            go_wp2_with fail
            go_ret
            exact ⟨rfl, Below.drewN (HZd.out.trans (B8.mono HZd.out.size)) _⟩
theorem waysJoin_walk (w : World) (n : Int) (v p u : Value) (l : List Lk) (ps ws : List Int) (hn : l.length < 4611686018427387904) (hlp : ps.length ≤ 1048576) (hlw : ws.length ≤ 1048576) (h : ArgK w v l) (hp : ArgI w p ps) (hu : ArgI w u ws) (hrp : Room p) (hru : Room u) :
    Calls Try.prog 5 #[.int .i64 n, v, p, u] w fun e w' => e = .returned (.bool true) ∧ Below w.heap.size w w' := by
  by_cases h1 : gBad n l = 0
  · obtain ⟨h2, hr⟩ := (gBad_zero n l).1 h1
    obtain ⟨m, rfl⟩ : ∃ m : Nat, n = m := ⟨n.toNat, by omega⟩
    cases hy : lengthG m l ps with
    | none =>
      cases hz : lengthG m l ws with
      | none => exact wj_2 w m v p u l ps ws hn hlp hlw h hp hu hrp hru h1 hy hz
      | some z => exact wj_3 w m v p u l ps ws hn hlp hlw h hp hu hrp hru h1 z hy hz
    | some y =>
      cases hz : lengthG m l ws with
      | none => exact wj_4 w m v p u l ps ws hn hlp hlw h hp hu hrp hru h1 y hy hz
      | some z =>
        have hK := BellP.ct_cost hr
        obtain ⟨a, P, b, d, rfl, k1, rfl⟩ := length_wk hr ps y (by omega) hy
        obtain ⟨c, Q, e, d', rfl, k2, rfl⟩ := length_wk hr ws z (by omega) hz
        have g1 := k1.long hK
        have g2 := k2.long hK
        rw [WaysP.zs_len] at hlp hlw
        obtain ⟨r1, hP⟩ := k1.head
        obtain ⟨r2, hQ⟩ := k2.head
        have hj : (WaysP.zs P).length = r1.length + 1 := by rw [WaysP.zs_len, hP]; rfl
        have hi : (WaysP.zs Q).length = r2.length + 1 := by rw [WaysP.zs_len, hQ]; rfl
        have hj2 : P.length = r1.length + 1 := by rw [hP]; rfl
        have h0 : (WaysP.zs P)[0]! = a := by rw [hP]; rfl
        have hq0 : (WaysP.zs Q)[0]! = c := by rw [hQ]; rfl
        have hlast := k1.last
        have hpj : (WaysP.zs P)[r1.length]! = b := by
          rw [WaysP.zs_at _ _ (by omega)]
          rw [hj2, Nat.add_sub_cancel] at hlast
          rw [hlast]
        have ha := k1.lt
        refine wj_5 w m v p u l _ _ hn (by rw [WaysP.zs_len]; exact hlp) (by rw [WaysP.zs_len]; exact hlw) h hp hu hrp hru h1 _ _ hy hz r1.length r2.length hj hi (by rw [h0]; omega) ?_ (by omega) (by omega) fun heq => ?_
        · rw [show (WaysP.zs P).reverse = WaysP.zs P.reverse from (List.map_reverse).symm]
          exact wk_length hr (k1.back (SpfP.ct_sym l)) (by rw [List.length_reverse]; omega)
        · rw [hpj, hq0] at heq
          obtain rfl : b = c := by omega
          rw [show WaysP.zs P ++ (WaysP.zs Q).drop 1 = WaysP.zs (P ++ Q.drop 1) by simp [WaysP.zs]]
          rw [wk_length hr (k1.app k2) (by rw [List.length_append, List.length_drop]; omega)]
          simp
  · obtain ⟨pp, cp, rfl, _⟩ := id hp
    obtain ⟨pu, cu, rfl, _⟩ := id hu
    exact wj_1 w n v _ _ l ps ws hn h hp hu hrp hru h1
end Go.Proofs.Ytomfkmclgabcpaa
