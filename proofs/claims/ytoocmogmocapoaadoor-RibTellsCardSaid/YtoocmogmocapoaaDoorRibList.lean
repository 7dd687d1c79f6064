/-
  rib's List: all that is told, in its order, in a block of its own; what lay in memory stays.
-/
import Derived.Test.YtoocmogmocapoaaDoorRibLess
import Derived.Test.YtoocmogmocapoaaDoorRibAged
import Derived.Test.YtoocmogmocapoaaDoorHeld
import Derived.LoopN
namespace Go.Proofs.YtoocmogmocapoaaDoor
open Go.RowKit Go.Lib RibP

noncomputable def infoHS : TypeInfo := (Tryd.prog.info? 46).get (by kernel_rfl)
noncomputable def infoHd : TypeInfo := (Tryd.prog.info? 53).get (by kernel_rfl)
theorem swapKH (n : Nat) (h2 : 2 ≤ n) : Lib.swapperK n infoHd 25 = 9 := by
  have a : infoHd.hasPointers = false := by kernel_rfl
  have b : infoHd.bytes = 32 := by kernel_rfl
  have c : (n == 0) = false := by simp; omega
  have d : (n == 1) = false := by simp; omega
  simp [Lib.swapperK, a, b, c, d]

theorem Keeps.keep {w W : World} {blk : Nat} (h : Keeps w blk W) : Keep (fun x => x = blk) w W := ⟨h.os, h.tape, h.output, h.size, fun k hk hn => h.block k hk hn⟩
/-- A row of them is a list. -/
theorem RowL.seen {E : Type} [Inhabited E] [Cel E] {w : World} {g : Nat} {d : Array E} (h : RowL w g d) : LSeen w g 0 d.toList := fun i hi => by
  have hi' : i < d.size := by simpa using hi
  rw [Nat.zero_add, toList_at d i hi']
  exact h.at_ i hi'

/-- The list's variable, and the list. -/
def LVar (w0 w : World) (u : Value) (H : List Hd) : Prop := w.cell? ⟨w0.heap.size, 0, none⟩ = some u ∧ w.frozen? ⟨w0.heap.size, 0, none⟩ = false ∧ LOwn 53 w (w0.heap.size + 1) u H ∧ Below w0.heap.size w0 w ∧ w0.heap.size < w.heap.size
theorem LVar.kept {w0 w w1 : World} {u : Value} {H : List Hd} (h : LVar w0 w u H) (hb : Below w.heap.size w w1) : LVar w0 w1 u H := by
  obtain ⟨h1, h2, h3, h4, h5⟩ := h
  exact ⟨(hb.cell (p := ⟨w0.heap.size, 0, none⟩) h5).trans h1, (hb.frozen (p := ⟨w0.heap.size, 0, none⟩) h5).trans h2, h3.keep hb, h4.trans (hb.mono h4.size), Nat.lt_of_lt_of_le h5 hb.size⟩
theorem LVar.put {w0 w w1 : World} {u u' : Value} {H H' : List Hd} (h : LVar w0 w u H) (ha : AppTo w u w1 u') (ho : LOwn 53 w1 (w0.heap.size + 1) u' H') : LVar w0 (w1.setCell ⟨w0.heap.size, 0, none⟩ u') u' H' := by
  obtain ⟨h1, h2, h3, h4, h5⟩ := h
  have hne : u.ownBlock ≠ some w0.heap.size := fun e => by have := (h3.lt _ e).1; omega
  have e := ha.block h5 hne
  have c1 := (World.cell?_of_block (w := w) (w' := w1) (a := ⟨w0.heap.size, 0, none⟩) e).trans h1
  refine ⟨World.cell?_setCell_same _ _ _ c1, ?_, ?_, ?_, ?_⟩
  · rw [World.frozen?_setCell]
    exact (World.frozen?_of_block (w := w) (w' := w1) (a := ⟨w0.heap.size, 0, none⟩) e).trans h2
  · refine ho.stay (Keep.setCell (fun x => x = w0.heap.size) w1 _ 0 u' rfl) fun g hg e => ?_
    have := (ho.lt g hg).1
    omega
  · exact ((h4.trans (ha.below (fun j hj => Nat.le_of_succ_le (h3.lt j hj).1) h4.size))).setCell (p := ⟨w0.heap.size, 0, none⟩) (Nat.le_refl _) u'
  · have := ha.size
    simp [World.setCell]; omega

theorem map_more (L : List Rt) (k : Nat) (h : k < L.length) : (L.take (k + 1)).map Rt.h = (L.take k).map Rt.h ++ [L[k]!.h] := by
  rw [take_more L k h, List.map_append]; rfl

set_option maxHeartbeats 4000000 in
set_option maxRecDepth 100000 in
theorem rList_some (w : World) (p b off c : Nat) (L : List Rt) (hp : w.cell? ⟨p, 1, none⟩ = some (.slice (some ⟨b, off, none⟩) L.length c)) (hlen : L.length ≤ 64) (hb : b < w.heap.size) (hs : LSeen w b off L) (h0 : 0 < L.length) :
    Calls Tryd.prog 15 #[.pointer (some ⟨p, 0, none⟩)] w fun r w' => ∃ v H, r = .returned v ∧ RTold L H ∧ LHeld w' w.heap.size v H ∧ Below w.heap.size w w' := by
  have HS := Lib.hid hs
  have HV := Lib.hid (show LVar w (w.alloc (.cells #[.slice none 0 0] 46)) (.slice none 0 0) [] from ⟨by simp, by simp, LOwn.nil _ _ _, (Below.refl _ _).alloc (Nat.le_refl _) _, by simp⟩)
  have hp1 := (((Below.refl w.heap.size w).alloc (Nat.le_refl _) (.cells #[.slice none 0 0] 46)).cell (p := ⟨p, 1, none⟩) (World.block_lt_of_cell? _ _ hp)).trans hp
  have H0 := Lib.hid h0
  clear hs hp h0
  go_enter Tryd.func15, Tryd.ntmps15
  go_wp2_with fail
  clear hp1
  go_loopw [11] (fun v wr => ∃ (k : Nat) (u : Value), v = .int .i64 k ∧ k ≤ L.length ∧ Hid (LVar w wr u ((L.take k).map Rt.h))) (fun v _ => L.length - (RowKit.intOf v).toNat)
  case atStart => exact ⟨0, _, rfl, Nat.zero_le _, HV⟩
  case round =>
    obtain ⟨k, u, rfl, hk, hV⟩ := hrel
    by_cases hkn : k < L.length
    · obtain ⟨b0, b1, b2, b3, b4⟩ := ((HS.out.below hV.out.2.2.2.1 hb) k hkn).rt
      have a0 : wr.cell? ⟨b, off + k * 5, none⟩ = _ := b0
      have a1 : wr.cell? ⟨b, off + k * 5 + 1, none⟩ = _ := b1
      have a2 : wr.cell? ⟨b, off + k * 5 + 2, none⟩ = _ := b2
      have a3 : wr.cell? ⟨b, off + k * 5 + 3, none⟩ = _ := b3
      have a4 : wr.cell? ⟨b, off + k * 5 + 4, none⟩ = _ := b4
      have HM := Lib.hid (map_more L k hkn)
      have hl : ((L.take k).map Rt.h).length ≤ 64 := by rw [List.length_map, List.length_take]; omega
      clear b0 b1 b2 b3 b4
      generalize L[k]! = x at a0 a1 a2 a3 a4 HM
      generalize (L.take k).map Rt.h = M at hV HM hl
      obtain ⟨c0, f0, _, _, hlt⟩ := hV.out
      have hl2 := Lib.hid hl
      have hlt2 := Lib.hid hlt
      clear hl hlt
      have V1 := Lib.hid (hV.out.kept ((Below.refl wr.heap.size wr).alloc (Nat.le_refl _) (.cells #[.int .i64 x.h.f, .int .u32 (x.h.n.1 : Int), .int .i64 x.h.n.2, .int .i64 x.h.m, .int .i64 x.t] 64)))
      have c1 := V1.out.1
      go_wp2_with (at_builtin; refine wpList_plain rfl fun K' hK' => ?_; refine wp_append_L1 tyH _ _ rfl (w.heap.size + 1) _ M x.h (wr.heap.size + 1) 1 rfl rfl ?q1 ?q2 ?q3 ?q4 ?q5 ?q6)
      case q1 => exact V1.out.2.2.1.keep ((Below.refl _ _).alloc (Nat.le_refl _) _)
      case q2 => exact LAt.ofHd (by simp) (by simp) (by simp) (by simp)
      case q3 => have := hl2.out; omega
      case q4 => have := hl2.out; simp only [maxLen]; omega
      case q5 => have := hlt2.out; simp; omega
      case q6 =>
        intro v' w4 hO4 hA4
        refine hK' _ _ ?_
        have V2 := V1.out.kept ((Below.refl _ (wr.alloc (.cells #[.int .i64 x.h.f, .int .u32 (x.h.n.1 : Int), .int .i64 x.h.n.2, .int .i64 x.h.m, .int .i64 x.t] 64))).alloc (Nat.le_refl _) (.cells #[.int .i64 x.h.f, .int .u32 (x.h.n.1 : Int), .int .i64 x.h.n.2, .int .i64 x.h.m] 53))
        have hne : u.ownBlock ≠ some w.heap.size := fun e => by have := (V2.2.2.1.lt _ e).1; omega
        have e4 := hA4.block V2.2.2.2.2 hne
        have c4 := (World.cell?_of_block (a := ⟨w.heap.size, 0, none⟩) e4).trans V2.1
        have f4 := (World.frozen?_of_block (a := ⟨w.heap.size, 0, none⟩) e4).trans V2.2.1
        have V4 := Lib.hid (V2.put hA4 hO4)
        obtain ⟨q4, k4, hv4, _, _⟩ := hO4.arg
        obtain ⟨n4, hn4⟩ : ∃ n, n = (M ++ [x.h]).length := ⟨_, rfl⟩
        rw [← hn4] at hv4
        clear hn4
        subst hv4
        clear hO4 hA4 V2 e4 c0 f0 c1 a0 a1 a2 a3 a4
        go_wp2_with fail
        go_roundw
        case rel => exact ⟨k + 1, _, by go_num, by omega, Lib.hid (by rw [HM.out]; exact V4.out)⟩
        case measure => simp [RowKit.intOf]; omega
    · have e : L.take k = L := List.take_of_length_le (by omega)
      rw [e] at hV
      obtain ⟨hc0, hf0, hO, hB, hlt⟩ := hV.out
      have hn : (L.map Rt.h).length = L.length := List.length_map _
      rcases hO.form with ⟨_, hnil⟩ | ⟨g, cap, rfl, hg, hgl, hcap, hsn, hfr⟩
      · exact absurd H0.out (by rw [← hn, hnil]; simp)
      · rw [hn] at hcap hc0
        have hrow : RowL wr g (L.map Rt.h).toArray := ⟨fun i hi => by
          have := hsn i (by simpa using hi)
          rw [Nat.zero_add] at this
          simpa using this, hfr⟩
        have hBl : w.heap.size < wr.heap.size := hlt
        have hS := sortSliceL 46 53 infoHS infoHd (by kernel_rfl) (by kernel_rfl) (by kernel_rfl) (by kernel_rfl) (fun _ => by kernel_rfl) (by kernel_rfl) swapKH (fun _ => by kernel_rfl) 30 (enters_of Tryd.func30 (by kernel_rfl) rfl)
          wr w.heap.size g L.length cap (L.map Rt.h).toArray (by simp) hlen hrow hgl
          (fun X dk hk hX hs i j hi hj => less4_any X w.heap.size g L.length cap i j dk[i]! dk[j]! hi hj ((hk.cell w.heap.size 0 hBl (by omega)).trans hc0) (hX.at_ i (by omega)) (hX.at_ j (by omega)))
        change Calls Tryd.prog 29 _ _ _ at hS
        have HSS := Lib.hid hS
        have HBB := Lib.hid hB
        have HC := Lib.hid hc0
        have HG := Lib.hid (And.intro hg hcap)
        clear hS hrow hsn hfr hO hV hf0 hn hB hcap hg
        go_wp2_with fail
        refine HSS.out.mono ?_
        rintro r w2 ⟨rfl, d', hp, hs, hk, hrow⟩
        have c2 := (hk.cell w.heap.size 0 hBl (by have := HG.out.1; omega)).trans HC.out
        have hT := Lib.hid (RTold.of (L := L) d' (by simpa using hp) hs)
        have HR := Lib.hid hrow
        have HK := Lib.hid hk
        have hsz := Lib.hid (show d'.toList.length = L.length from hT.out.len)
        clear hp hs hrow hk hc0
        go_wp2_with fail
        go_ret
        refine ⟨_, d'.toList, rfl, hT.out, Or.inr ⟨g, cap, (show Value.slice (some ⟨g, 0, none⟩) L.length cap = _ by rw [hsz.out]), by have := HG.out.1; omega, Nat.lt_of_lt_of_le hgl HK.out.size, by rw [hsz.out]; exact HG.out.2, HR.out.seen, HR.out.free⟩, HBB.out.trans (HK.out.keep.below (fun b e => by have := HG.out.1; omega) HBB.out.size)⟩

set_option maxHeartbeats 1000000 in
set_option maxRecDepth 100000 in
theorem rList_none (w : World) (p c : Nat) (q : Option Addr) (hp : w.cell? ⟨p, 1, none⟩ = some (.slice q 0 c)) :
    Calls Tryd.prog 15 #[.pointer (some ⟨p, 0, none⟩)] w fun r w' => r = .returned (.slice none 0 0) ∧ Below w.heap.size w w' := by
  have hS := fun W (B : Nat) => Any.sort_Slice_tiny Tryd.laysGg6 46 53 infoHS infoHd (by kernel_rfl) (by kernel_rfl) (by kernel_rfl) (by kernel_rfl) 25 (fun _ => by kernel_rfl) none 0 0 (by omega) 47 (by kernel_rfl) (.func 30) #[] #[.pointer (some ⟨B, 0, none⟩)] W
  change ∀ W B, Calls Tryd.prog 29 _ W _ at hS
  have HS := Lib.hid hS
  have hp1 := (((Below.refl w.heap.size w).alloc (Nat.le_refl _) (.cells #[.slice none 0 0] 46)).cell (p := ⟨p, 1, none⟩) (World.block_lt_of_cell? _ _ hp)).trans hp
  have c0 : (w.alloc (.cells #[.slice none 0 0] 46)).cell? ⟨w.heap.size, 0, none⟩ = some (.slice none 0 0) := by simp
  have B0 := Lib.hid ((Below.refl w.heap.size w).alloc (Nat.le_refl _) (.cells #[.slice none 0 0] 46))
  have C0 := Lib.hid c0
  clear hS hp c0
  go_enter Tryd.func15, Tryd.ntmps15
  go_wp2_with fail
  refine wp_loop_rounds 1 ?_
  rw [rounds_succ]
  go_wp2_with fail
  refine (HS.out _ _).mono ?_
  rintro e w2 ⟨rfl, os, hw2⟩
  have hb : Below (w.alloc (.cells #[.slice none 0 0] 46)).heap.size (w.alloc (.cells #[.slice none 0 0] 46)) w2 := by
    rw [hw2]; exact ⟨rfl, rfl, rfl, by rw [Go.Sort.size_grow]; omega, fun k hk => Go.Sort.heap_grow_old _ os hk⟩
  have c2 := (hb.cell (p := ⟨w.heap.size, 0, none⟩) (by simp)).trans C0.out
  have HB := Lib.hid (B0.out.trans (hb.mono B0.out.size))
  clear hw2 hp1 hb
  go_wp2_with fail
  go_ret
  exact ⟨rfl, HB.out⟩
/-- List. -/
theorem rList_any {w : World} {p : Nat} {v : Value} {now : Int} {L : List Rt} (h : Rbd w p v now L) :
    Calls Tryd.prog 15 #[.pointer (some ⟨p, 0, none⟩)] w fun r w' => ∃ v H, r = .returned v ∧ RTold L H ∧ LHeld w' w.heap.size v H ∧ Below w.heap.size w w' := by
  obtain ⟨hb, ⟨q, c, rfl, _, ha⟩, hg, _, _, _⟩ := h
  have nil : ∀ (c : Nat) (q : Option Addr), w.cell? ⟨p, 1, none⟩ = some (.slice q 0 c) → Calls Tryd.prog 15 #[.pointer (some ⟨p, 0, none⟩)] w fun r w' => ∃ v H, r = .returned v ∧ RTold [] H ∧ LHeld w' w.heap.size v H ∧ Below w.heap.size w w' := fun c q hq => by
    refine (rList_none w p c q hq).mono ?_
    rintro r w' ⟨rfl, hb⟩
    exact ⟨_, [], rfl, ⟨List.Perm.refl _, List.Pairwise.nil⟩, Or.inl ⟨rfl, rfl⟩, hb⟩
  rcases ha with rfl | ⟨b, off, rfl, hlt, hs⟩
  · exact nil c q hb.c1
  · by_cases h0 : 0 < L.length
    · exact rList_some w p b off c L hb.c1 hg.len hlt hs h0
    · have e : L = [] := List.length_eq_zero_iff.1 (by omega)
      subst e
      exact nil c _ hb.c1
end Go.Proofs.YtoocmogmocapoaaDoor
