/-
  The document's own MessageOf at every list of bytes; what lay in memory stays.
-/
import Derived.Test.YtlgkjbkbdmneaaaDoorRefGoes
import Derived.Test.YtlgkjbkbdmneaaaDoorRefMsgPlain
import Derived.Test.YtlgkjbkbdmneaaaDoorBoxSet
import Derived.Test.YtlgkjbkbdmneaaaDoorWireBody
namespace Go.Proofs.YtlgkjbkbdmneaaaDoor
open Go.RowKit Go.Lib

def MsgTo (w : World) (l : List Nat) (x : Ending) (w' : World) : Prop := ∃ ask v es k, x = .returned (.tuple #[.agg #[.bool ask, v], .int .i64 k]) ∧ DecIs l ask es k ∧ OwnE w' w.heap.size v es ∧ Below w.heap.size w w'
theorem MsgTo.no {w w' : World} {l : List Nat} {k : Int} (h : DecIs l false [] k) (hb : Below w.heap.size w w') : MsgTo w l (.returned (.tuple #[.agg #[.bool false, .slice none 0 0], .int .i64 k])) w' := ⟨false, _, [], k, rfl, h, OwnE.nil _ _, hb⟩
/-- What lies in memory while bytes are read. -/
structure ReadsM (w : World) (l : List Nat) (ask : Bool) (wr : World) (es : List En) (p : Option Addr) (m c : Nat) : Prop where
  r : Box wr w.heap.size (.bool false) (.slice none 0 0)
  b : Box wr (w.heap.size + 2) (.bool ask) (.slice p m c)
  o : OwnE wr (w.heap.size + 3) (.slice p m c) es
  d : MsgR l ask es
  t : Below w.heap.size w wr
theorem ReadsM.size {w wr : World} {l : List Nat} {ask : Bool} {es : List En} {p : Option Addr} {m c : Nat} (h : ReadsM w l ask wr es p m c) : w.heap.size + 3 ≤ wr.heap.size := h.b.lt
theorem ReadsM.kept {w wr w1 : World} {l : List Nat} {ask : Bool} {es : List En} {p : Option Addr} {m c : Nat} (h : ReadsM w l ask wr es p m c) (hb : Below wr.heap.size wr w1) : ReadsM w l ask w1 es p m c :=
  ⟨h.r.kept hb, h.b.kept hb, h.o.keep hb, h.d, Below.two h.t hb⟩
theorem ReadsM.len {w wr : World} {l : List Nat} {ask : Bool} {es : List En} {p : Option Addr} {m c : Nat} (h : ReadsM w l ask wr es p m c) : m = es.length := by
  obtain ⟨p', c', e, _⟩ := h.o.arg
  injection e
theorem ReadsM.more {w wr w1 : World} {l : List Nat} {ask : Bool} {es : List En} {e : En} {p p' : Option Addr} {m c m' c' : Nat} (h : ReadsM w l ask wr es p m c) (ha : AppTo wr (.slice p m c) w1 (.slice p' m' c')) (ho : OwnE w1 (w.heap.size + 3) (.slice p' m' c') (es ++ [e])) (hd : MsgR l ask (es ++ [e])) :
    ReadsM w l ask (w1.setCell ⟨w.heap.size + 2, 1, none⟩ (.slice p' m' c')) (es ++ [e]) p' m' c' := by
  have hlt : ∀ j, (Value.slice p m c).ownBlock = some j → w.heap.size + 3 ≤ j := fun j hj => (h.o.lt j hj).1
  have hs := h.size
  have n0 : (Value.slice p m c).ownBlock ≠ some w.heap.size := fun e => by have := hlt _ e; omega
  have n1 : (Value.slice p m c).ownBlock ≠ some (w.heap.size + 2) := fun e => by have := hlt _ e; omega
  have m1 : (Value.slice p' m' c').ownBlock ≠ some (w.heap.size + 2) := ha.ne h.b.lt n1
  have b1 := ha.below hlt hs
  exact ⟨(h.r.app ha n0).past (by omega) _ _, (h.b.app ha n1).put1 _, ownsRow_setCell_other ho (a := ⟨w.heap.size + 2, 1, none⟩) m1 _, hd, (h.t.trans (b1.mono (by omega))).setCell (p := ⟨w.heap.size + 2, 1, none⟩) (by simp only; omega) _⟩

set_option maxHeartbeats 8000000 in
set_option maxRecDepth 100000 in
theorem msgOf_some (w : World) (b off c : Nat) (l : List Nat) (hn : l.length < 4611686018427387904) (hc : l.length ≤ c) (hb : Byt l) (hlt : b < w.heap.size) (hs : SeenB w b off l) (hpos : 0 < l.length) (hEnt : EntAll) :
    Calls Tryd.prog 14 #[.slice (some ⟨b, off, none⟩) l.length c] w (MsgTo w l) := by
  have HS := Lib.hid hs; have HY := Lib.hid hb; have HEN := Lib.hid hEnt
  have r0 := Box.new w (.bool false) (.slice none 0 0) 24
  have b0 := (Below.refl w.heap.size w).alloc (Nat.le_refl _) (.cells #[.bool false, .slice none 0 0] 24)
  have z0 : (w.alloc (.cells #[.bool false, .slice none 0 0] 24)).heap.size = w.heap.size + 1 := by simp
  have b1 := (Below.refl _ (w.alloc (.cells #[.bool false, .slice none 0 0] 24))).alloc (Nat.le_refl _) (.cells #[.int .u8 2, .int .u8 2, .int .u8 0, .int .u8 0] 5)
  have o1 := OwnB.made (w.alloc (.cells #[.bool false, .slice none 0 0] 24)) (w.heap.size + 1) (hd false) #[.int .u8 2, .int .u8 2, .int .u8 0, .int .u8 0] rfl (by omega) (by decide)
  rw [z0] at o1
  have z1 : ((w.alloc (.cells #[.bool false, .slice none 0 0] 24)).alloc (.cells #[.int .u8 2, .int .u8 2, .int .u8 0, .int .u8 0] 5)).heap.size = w.heap.size + 2 := by simp
  have HR1 := Lib.hid (r0.kept b1); have HB1 := Lib.hid (Below.two b0 b1); have HO1 := Lib.hid o1
  clear hs hb hEnt r0 b0 b1 o1 z0
  go_enter Tryd.func14, Tryd.ntmps14
  go_wp2_with fail
  go_loopw [5] (fun vi wr => ∃ (i : Nat), vi = .int .i64 i ∧ i ≤ 4 ∧ Hid (HeadTo l i) ∧ Hid (Box wr w.heap.size (.bool false) (.slice none 0 0)) ∧ Hid (Below w.heap.size w wr) ∧ Hid (OwnB wr (w.heap.size + 1) (.slice (some ⟨w.heap.size + 1, 0, none⟩) 4 4) (hd false)) ∧ Hid (wr.heap.size = w.heap.size + 2)) (fun vi _ => 4 - (RowKit.intOf vi).toNat)
  case atStart => exact ⟨0, rfl, by omega, Lib.hid (HeadTo.zero l), HR1, HB1, HO1, Lib.hid z1⟩
  case round =>
    clear HR1 HB1 HO1 z1
    obtain ⟨i, rfl, hi4, HH, HR, HB, HO, HZ⟩ := hrel
    have hil := HH.out.1
    by_cases hii : i < 4 ∧ i < l.length
    · have hi' : (i : Int) < 4 := by omega
      have hi'' : (i : Int) < l.length := by omega
      have cb : wr.drew.cell? ⟨b, off + i, none⟩ = _ := (HS.out.below HB.out hlt) i hii.2
      have c0 : wr.drew.cell? ⟨b, off, none⟩ = _ := (HS.out.below HB.out hlt) 0 hpos
      obtain ⟨-, -, -, sg, -⟩ := HO.out.at
      have ch0 := sg i (by rw [hd_len]; omega)
      rw [Nat.zero_add] at ch0
      have ch : wr.drew.cell? ⟨w.heap.size + 1, i, none⟩ = _ := ch0
      have HRn := Lib.hid HR.out.drew; have HBn := Lib.hid HB.out.drew
      have HOn : Hid (OwnB wr.drew (w.heap.size + 1) (.slice (some ⟨w.heap.size + 1, 0, none⟩) 4 4) (hd false)) := Lib.hid (HO.out.ofBlock fun _ _ => rfl)
      have HZn : Hid (wr.drew.heap.size = w.heap.size + 2) := HZ
      have HST := Lib.hid (fun he => HH.out.step hii.2 hii.1 he)
      have HBD := Lib.hid (fun he => head_bad (l := l) (i := i) hii.2 hii.1 he)
      generalize l[i]! = x at cb HST HBD
      generalize (hd false)[i]! = h at ch HST HBD
      generalize l[0]! = x0 at c0 HST HBD
      clear sg ch0 HO HZ
      by_cases hxh : x = h
      · have HN := Lib.hid (HST.out (Or.inl hxh))
        have t1 : ((x : Int) == (h : Int)) = true := by rw [hxh]; simp
        have t2 : ((x : Int) != (h : Int)) = false := by rw [hxh]; simp
        clear hxh
        clear HST HBD
        go_wp2_with fail
        refine wp_region_held_drew (S := (fun w' => w'.cell? ⟨b, off + i, none⟩ = some (.int .u8 (x : Int)) ∧ w'.cell? ⟨w.heap.size + 1, i, none⟩ = some (.int .u8 (h : Int)) ∧ w'.cell? ⟨b, off, none⟩ = some (.int .u8 (x0 : Int)))) (by kernel_rfl) ⟨cb, ch, c0⟩ (fun hHeld => ?_)
        refine wpAnyH_take (i := 0) (oi := { dst := some 21, op := Op.move (Operand.tmp 0), type := 25, pos := "nets.go:289", after := #[], guard := none }) (v := ?_) rfl (by kernel_rfl) (by kernel_rfl) (by kernel_rfl) (fun _ _ _ h => h) (Or.inl ⟨by rfl, ?_⟩) hHeld ?_
        rotate_left
        · (intro w hSw; (try dsimp only at hSw); go_simp; first | done | with_reducible rfl)
        simp only [Act.put, List.setIfInBounds_toArray, List.set_cons_zero, List.set_cons_succ]
        refine wpAnyH_take (i := 1) (oi := { dst := some 22, op := Op.move (Operand.tmp 5), type := 3, pos := "nets.go:289", after := #[], guard := none }) (v := ?_) rfl (by kernel_rfl) (by kernel_rfl) (by kernel_rfl) (fun _ _ _ h => h) (Or.inl ⟨by rfl, ?_⟩) hHeld ?_
        rotate_left
        · (intro w hSw; (try dsimp only at hSw); go_simp; first | done | with_reducible rfl)
        simp only [Act.put, List.setIfInBounds_toArray, List.set_cons_zero, List.set_cons_succ]
        refine wpAnyH_take (i := 2) (oi := { dst := some 23, op := Op.indexAddr 25 (Operand.tmp 21) (Operand.tmp 22), type := 0, pos := "nets.go:289", after := #[{ on := 0, ground := Ground.data }, { on := 1, ground := Ground.data }], guard := none }) (v := ?_) rfl (by kernel_rfl) (by kernel_rfl) (by kernel_rfl) (fun _ _ _ h => h) (Or.inl ⟨by rfl, ?_⟩) hHeld ?_
        rotate_left
        · (intro w hSw; (try dsimp only at hSw); go_simp; first | done | with_reducible rfl)
        simp only [Act.put, List.setIfInBounds_toArray, List.set_cons_zero, List.set_cons_succ]
        refine wpAnyH_take (i := 3) (oi := { dst := some 24, op := Op.load 5 (Operand.tmp 23), type := 5, pos := "nets.go:289", after := #[{ on := 2, ground := Ground.data }], guard := none }) (v := ?_) rfl (by kernel_rfl) (by kernel_rfl) (by kernel_rfl) (fun _ _ _ h => h) (Or.inl ⟨by rfl, ?_⟩) hHeld ?_
        rotate_left
        · (intro w hSw; (try dsimp only at hSw); go_simp; first | done | with_reducible rfl)
        simp only [Act.put, List.setIfInBounds_toArray, List.set_cons_zero, List.set_cons_succ]
        refine wpAnyH_take (i := 4) (oi := { dst := some 25, op := Op.move (Operand.tmp 4), type := 25, pos := "nets.go:289", after := #[], guard := none }) (v := ?_) rfl (by kernel_rfl) (by kernel_rfl) (by kernel_rfl) (fun _ _ _ h => h) (Or.inl ⟨by rfl, ?_⟩) hHeld ?_
        rotate_left
        · (intro w hSw; (try dsimp only at hSw); go_simp; first | done | with_reducible rfl)
        simp only [Act.put, List.setIfInBounds_toArray, List.set_cons_zero, List.set_cons_succ]
        refine wpAnyH_take (i := 5) (oi := { dst := some 26, op := Op.move (Operand.tmp 5), type := 3, pos := "nets.go:289", after := #[], guard := none }) (v := ?_) rfl (by kernel_rfl) (by kernel_rfl) (by kernel_rfl) (fun _ _ _ h => h) (Or.inl ⟨by rfl, ?_⟩) hHeld ?_
        rotate_left
        · (intro w hSw; (try dsimp only at hSw); go_simp; first | done | with_reducible rfl)
        simp only [Act.put, List.setIfInBounds_toArray, List.set_cons_zero, List.set_cons_succ]
        refine wpAnyH_take (i := 6) (oi := { dst := some 27, op := Op.indexAddr 25 (Operand.tmp 25) (Operand.tmp 26), type := 0, pos := "nets.go:289", after := #[{ on := 4, ground := Ground.data }, { on := 5, ground := Ground.data }], guard := none }) (v := ?_) rfl (by kernel_rfl) (by kernel_rfl) (by kernel_rfl) (fun _ _ _ h => h) (Or.inl ⟨by rfl, ?_⟩) hHeld ?_
        rotate_left
        · (intro w hSw; (try dsimp only at hSw); go_simp; first | done | with_reducible rfl)
        simp only [Act.put, List.setIfInBounds_toArray, List.set_cons_zero, List.set_cons_succ]
        refine wpAnyH_take (i := 7) (oi := { dst := some 28, op := Op.load 5 (Operand.tmp 27), type := 5, pos := "nets.go:289", after := #[{ on := 6, ground := Ground.data }], guard := none }) (v := ?_) rfl (by kernel_rfl) (by kernel_rfl) (by kernel_rfl) (fun _ _ _ h => h) (Or.inl ⟨by rfl, ?_⟩) hHeld ?_
        rotate_left
        · (intro w hSw; (try dsimp only at hSw); go_simp; first | done | with_reducible rfl)
        simp only [Act.put, List.setIfInBounds_toArray, List.set_cons_zero, List.set_cons_succ]
        refine wpAnyH_take (i := 8) (oi := { dst := some 29, op := Op.binOp BinOp.neq 5 (Operand.tmp 24) (Operand.tmp 28) 5, type := 4, pos := "nets.go:289", after := #[{ on := 3, ground := Ground.data }, { on := 7, ground := Ground.data }], guard := none }) (v := ?_) rfl (by kernel_rfl) (by kernel_rfl) (by kernel_rfl) (fun _ _ _ h => h) (Or.inl ⟨by rfl, ?_⟩) hHeld ?_
        rotate_left
        · (intro w hSw; (try dsimp only at hSw); go_simp; first | done | with_reducible rfl)
        simp only [Act.put, List.setIfInBounds_toArray, List.set_cons_zero, List.set_cons_succ]
        refine wpAnyH_take (i := 9) (oi := { dst := some 30, op := Op.move (Operand.tmp 29), type := 4, pos := "nets.go:289", after := #[{ on := 8, ground := Ground.data }], guard := none }) (v := ?_) rfl (by kernel_rfl) (by kernel_rfl) (by kernel_rfl) (fun _ _ _ h => h) (Or.inl ⟨by rfl, ?_⟩) hHeld ?_
        rotate_left
        · (intro w hSw; (try dsimp only at hSw); go_simp; first | done | with_reducible rfl)
        simp only [Act.put, List.setIfInBounds_toArray, List.set_cons_zero, List.set_cons_succ]
        refine wpAnyH_take (i := 10) (oi := { dst := some 31, op := Op.move (Operand.tmp 5), type := 3, pos := "nets.go:289", after := #[{ on := 9, ground := Ground.guard }], guard := some (9, true) }) (v := undef) rfl (by kernel_rfl) (by kernel_rfl) (by kernel_rfl) (fun _ _ _ h => h) (Or.inr ⟨by rfl, rfl⟩) hHeld ?_
        simp only [Act.put, List.setIfInBounds_toArray, List.set_cons_zero, List.set_cons_succ]
        refine wpAnyH_take (i := 11) (oi := { dst := some 32, op := Op.binOp BinOp.gtr 3 (Operand.tmp 31) (Operand.const (Value.int IntKind.i64 0)) 3, type := 4, pos := "nets.go:289", after := #[{ on := 10, ground := Ground.data }, { on := 9, ground := Ground.guard }], guard := some (9, true) }) (v := undef) rfl (by kernel_rfl) (by kernel_rfl) (by kernel_rfl) (fun _ _ _ h => h) (Or.inr ⟨by rfl, rfl⟩) hHeld ?_
        simp only [Act.put, List.setIfInBounds_toArray, List.set_cons_zero, List.set_cons_succ]
        refine wpAnyH_take (i := 12) (oi := { dst := some 33, op := Op.move (Operand.tmp 32), type := 4, pos := "nets.go:289", after := #[{ on := 11, ground := Ground.data }, { on := 9, ground := Ground.chain }, { on := 9, ground := Ground.guard }], guard := some (9, true) }) (v := undef) rfl (by kernel_rfl) (by kernel_rfl) (by kernel_rfl) (fun _ _ _ h => h) (Or.inr ⟨by rfl, rfl⟩) hHeld ?_
        simp only [Act.put, List.setIfInBounds_toArray, List.set_cons_zero, List.set_cons_succ]
        refine wpAnyH_take (i := 13) (oi := { dst := some 34, op := Op.move (Operand.tmp 0), type := 25, pos := "nets.go:289", after := #[{ on := 12, ground := Ground.guard }], guard := some (12, false) }) (v := undef) rfl (by kernel_rfl) (by kernel_rfl) (by kernel_rfl) (fun _ _ _ h => h) (Or.inr ⟨by rfl, rfl⟩) hHeld ?_
        simp only [Act.put, List.setIfInBounds_toArray, List.set_cons_zero, List.set_cons_succ]
        refine wpAnyH_take (i := 14) (oi := { dst := some 35, op := Op.indexAddr 25 (Operand.tmp 34) (Operand.const (Value.int IntKind.i64 0)), type := 0, pos := "nets.go:289", after := #[{ on := 13, ground := Ground.data }, { on := 12, ground := Ground.guard }], guard := some (12, false) }) (v := undef) rfl (by kernel_rfl) (by kernel_rfl) (by kernel_rfl) (fun _ _ _ h => h) (Or.inr ⟨by rfl, rfl⟩) hHeld ?_
        simp only [Act.put, List.setIfInBounds_toArray, List.set_cons_zero, List.set_cons_succ]
        refine wpAnyH_take (i := 15) (oi := { dst := some 36, op := Op.load 5 (Operand.tmp 35), type := 5, pos := "nets.go:289", after := #[{ on := 14, ground := Ground.data }, { on := 12, ground := Ground.guard }], guard := some (12, false) }) (v := undef) rfl (by kernel_rfl) (by kernel_rfl) (by kernel_rfl) (fun _ _ _ h => h) (Or.inr ⟨by rfl, rfl⟩) hHeld ?_
        simp only [Act.put, List.setIfInBounds_toArray, List.set_cons_zero, List.set_cons_succ]
        refine wpAnyH_take (i := 16) (oi := { dst := some 37, op := Op.binOp BinOp.neq 5 (Operand.tmp 36) (Operand.const (Value.int IntKind.u8 1)) 5, type := 4, pos := "nets.go:289", after := #[{ on := 15, ground := Ground.data }, { on := 12, ground := Ground.guard }], guard := some (12, false) }) (v := undef) rfl (by kernel_rfl) (by kernel_rfl) (by kernel_rfl) (fun _ _ _ h => h) (Or.inr ⟨by rfl, rfl⟩) hHeld ?_
        simp only [Act.put, List.setIfInBounds_toArray, List.set_cons_zero, List.set_cons_succ]
        refine wpAnyH_take (i := 17) (oi := { dst := some 38, op := Op.pick (Operand.tmp 33) (Operand.const (Value.bool true)) (Operand.tmp 37), type := 4, pos := "nets.go:289", after := #[{ on := 12, ground := Ground.data }, { on := 16, ground := Ground.data }, { on := 9, ground := Ground.guard }], guard := some (9, true) }) (v := undef) rfl (by kernel_rfl) (by kernel_rfl) (by kernel_rfl) (fun _ _ _ h => h) (Or.inr ⟨by rfl, rfl⟩) hHeld ?_
        simp only [Act.put, List.setIfInBounds_toArray, List.set_cons_zero, List.set_cons_succ]
        refine wpAnyH_take (i := 18) (oi := { dst := some 39, op := Op.pick (Operand.tmp 30) (Operand.tmp 38) (Operand.const (Value.bool false)), type := 4, pos := "nets.go:289", after := #[{ on := 9, ground := Ground.data }, { on := 17, ground := Ground.data }], guard := none }) (v := ?_) rfl (by kernel_rfl) (by kernel_rfl) (by kernel_rfl) (fun _ _ _ h => h) (Or.inl ⟨by rfl, ?_⟩) hHeld ?_
        rotate_left
        · (intro w hSw; (try dsimp only at hSw); go_simp; first | done | with_reducible rfl)
        simp only [Act.put, List.setIfInBounds_toArray, List.set_cons_zero, List.set_cons_succ]
        refine wpAnyH_done (by kernel_rfl) ?_ _
        go_wp2_with fail
        go_roundw
        case rel => exact ⟨i + 1, by go_num, by omega, HN, HRn, HBn, HOn, HZn⟩
        case measure => simp [RowKit.intOf]; omega
      · have t1 : ((x : Int) == (h : Int)) = false := by
          have : ¬ (x : Int) = h := by omega
          simpa using this
        have t2 : ((x : Int) != (h : Int)) = true := by
          have : ¬ (x : Int) = h := by omega
          simpa using this
        by_cases hi0 : 0 < i
        · have t3 : (0 : Int) < i := by omega
          have HN := Lib.hid (HBD.out (fun hh => by rcases hh with hh | hh; exact hxh hh; omega))
          clear HST HBD
          go_wp2_with fail
          refine wp_region_held_drew (S := (fun w' => w'.cell? ⟨b, off + i, none⟩ = some (.int .u8 (x : Int)) ∧ w'.cell? ⟨w.heap.size + 1, i, none⟩ = some (.int .u8 (h : Int)) ∧ w'.cell? ⟨b, off, none⟩ = some (.int .u8 (x0 : Int)))) (by kernel_rfl) ⟨cb, ch, c0⟩ (fun hHeld => ?_)
          refine wpAnyH_take (i := 0) (oi := { dst := some 21, op := Op.move (Operand.tmp 0), type := 25, pos := "nets.go:289", after := #[], guard := none }) (v := ?_) rfl (by kernel_rfl) (by kernel_rfl) (by kernel_rfl) (fun _ _ _ h => h) (Or.inl ⟨by rfl, ?_⟩) hHeld ?_
          rotate_left
          · (intro w hSw; (try dsimp only at hSw); go_simp; first | done | with_reducible rfl)
          simp only [Act.put, List.setIfInBounds_toArray, List.set_cons_zero, List.set_cons_succ]
          refine wpAnyH_take (i := 1) (oi := { dst := some 22, op := Op.move (Operand.tmp 5), type := 3, pos := "nets.go:289", after := #[], guard := none }) (v := ?_) rfl (by kernel_rfl) (by kernel_rfl) (by kernel_rfl) (fun _ _ _ h => h) (Or.inl ⟨by rfl, ?_⟩) hHeld ?_
          rotate_left
          · (intro w hSw; (try dsimp only at hSw); go_simp; first | done | with_reducible rfl)
          simp only [Act.put, List.setIfInBounds_toArray, List.set_cons_zero, List.set_cons_succ]
          refine wpAnyH_take (i := 2) (oi := { dst := some 23, op := Op.indexAddr 25 (Operand.tmp 21) (Operand.tmp 22), type := 0, pos := "nets.go:289", after := #[{ on := 0, ground := Ground.data }, { on := 1, ground := Ground.data }], guard := none }) (v := ?_) rfl (by kernel_rfl) (by kernel_rfl) (by kernel_rfl) (fun _ _ _ h => h) (Or.inl ⟨by rfl, ?_⟩) hHeld ?_
          rotate_left
          · (intro w hSw; (try dsimp only at hSw); go_simp; first | done | with_reducible rfl)
          simp only [Act.put, List.setIfInBounds_toArray, List.set_cons_zero, List.set_cons_succ]
          refine wpAnyH_take (i := 3) (oi := { dst := some 24, op := Op.load 5 (Operand.tmp 23), type := 5, pos := "nets.go:289", after := #[{ on := 2, ground := Ground.data }], guard := none }) (v := ?_) rfl (by kernel_rfl) (by kernel_rfl) (by kernel_rfl) (fun _ _ _ h => h) (Or.inl ⟨by rfl, ?_⟩) hHeld ?_
          rotate_left
          · (intro w hSw; (try dsimp only at hSw); go_simp; first | done | with_reducible rfl)
          simp only [Act.put, List.setIfInBounds_toArray, List.set_cons_zero, List.set_cons_succ]
          refine wpAnyH_take (i := 4) (oi := { dst := some 25, op := Op.move (Operand.tmp 4), type := 25, pos := "nets.go:289", after := #[], guard := none }) (v := ?_) rfl (by kernel_rfl) (by kernel_rfl) (by kernel_rfl) (fun _ _ _ h => h) (Or.inl ⟨by rfl, ?_⟩) hHeld ?_
          rotate_left
          · (intro w hSw; (try dsimp only at hSw); go_simp; first | done | with_reducible rfl)
          simp only [Act.put, List.setIfInBounds_toArray, List.set_cons_zero, List.set_cons_succ]
          refine wpAnyH_take (i := 5) (oi := { dst := some 26, op := Op.move (Operand.tmp 5), type := 3, pos := "nets.go:289", after := #[], guard := none }) (v := ?_) rfl (by kernel_rfl) (by kernel_rfl) (by kernel_rfl) (fun _ _ _ h => h) (Or.inl ⟨by rfl, ?_⟩) hHeld ?_
          rotate_left
          · (intro w hSw; (try dsimp only at hSw); go_simp; first | done | with_reducible rfl)
          simp only [Act.put, List.setIfInBounds_toArray, List.set_cons_zero, List.set_cons_succ]
          refine wpAnyH_take (i := 6) (oi := { dst := some 27, op := Op.indexAddr 25 (Operand.tmp 25) (Operand.tmp 26), type := 0, pos := "nets.go:289", after := #[{ on := 4, ground := Ground.data }, { on := 5, ground := Ground.data }], guard := none }) (v := ?_) rfl (by kernel_rfl) (by kernel_rfl) (by kernel_rfl) (fun _ _ _ h => h) (Or.inl ⟨by rfl, ?_⟩) hHeld ?_
          rotate_left
          · (intro w hSw; (try dsimp only at hSw); go_simp; first | done | with_reducible rfl)
          simp only [Act.put, List.setIfInBounds_toArray, List.set_cons_zero, List.set_cons_succ]
          refine wpAnyH_take (i := 7) (oi := { dst := some 28, op := Op.load 5 (Operand.tmp 27), type := 5, pos := "nets.go:289", after := #[{ on := 6, ground := Ground.data }], guard := none }) (v := ?_) rfl (by kernel_rfl) (by kernel_rfl) (by kernel_rfl) (fun _ _ _ h => h) (Or.inl ⟨by rfl, ?_⟩) hHeld ?_
          rotate_left
          · (intro w hSw; (try dsimp only at hSw); go_simp; first | done | with_reducible rfl)
          simp only [Act.put, List.setIfInBounds_toArray, List.set_cons_zero, List.set_cons_succ]
          refine wpAnyH_take (i := 8) (oi := { dst := some 29, op := Op.binOp BinOp.neq 5 (Operand.tmp 24) (Operand.tmp 28) 5, type := 4, pos := "nets.go:289", after := #[{ on := 3, ground := Ground.data }, { on := 7, ground := Ground.data }], guard := none }) (v := ?_) rfl (by kernel_rfl) (by kernel_rfl) (by kernel_rfl) (fun _ _ _ h => h) (Or.inl ⟨by rfl, ?_⟩) hHeld ?_
          rotate_left
          · (intro w hSw; (try dsimp only at hSw); go_simp; first | done | with_reducible rfl)
          simp only [Act.put, List.setIfInBounds_toArray, List.set_cons_zero, List.set_cons_succ]
          refine wpAnyH_take (i := 9) (oi := { dst := some 30, op := Op.move (Operand.tmp 29), type := 4, pos := "nets.go:289", after := #[{ on := 8, ground := Ground.data }], guard := none }) (v := ?_) rfl (by kernel_rfl) (by kernel_rfl) (by kernel_rfl) (fun _ _ _ h => h) (Or.inl ⟨by rfl, ?_⟩) hHeld ?_
          rotate_left
          · (intro w hSw; (try dsimp only at hSw); go_simp; first | done | with_reducible rfl)
          simp only [Act.put, List.setIfInBounds_toArray, List.set_cons_zero, List.set_cons_succ]
          refine wpAnyH_take (i := 10) (oi := { dst := some 31, op := Op.move (Operand.tmp 5), type := 3, pos := "nets.go:289", after := #[{ on := 9, ground := Ground.guard }], guard := some (9, true) }) (v := ?_) rfl (by kernel_rfl) (by kernel_rfl) (by kernel_rfl) (fun _ _ _ h => h) (Or.inl ⟨by rfl, ?_⟩) hHeld ?_
          rotate_left
          · (intro w hSw; (try dsimp only at hSw); go_simp; first | done | with_reducible rfl)
          simp only [Act.put, List.setIfInBounds_toArray, List.set_cons_zero, List.set_cons_succ]
          refine wpAnyH_take (i := 11) (oi := { dst := some 32, op := Op.binOp BinOp.gtr 3 (Operand.tmp 31) (Operand.const (Value.int IntKind.i64 0)) 3, type := 4, pos := "nets.go:289", after := #[{ on := 10, ground := Ground.data }, { on := 9, ground := Ground.guard }], guard := some (9, true) }) (v := ?_) rfl (by kernel_rfl) (by kernel_rfl) (by kernel_rfl) (fun _ _ _ h => h) (Or.inl ⟨by rfl, ?_⟩) hHeld ?_
          rotate_left
          · (intro w hSw; (try dsimp only at hSw); go_simp; first | done | with_reducible rfl)
          simp only [Act.put, List.setIfInBounds_toArray, List.set_cons_zero, List.set_cons_succ]
          refine wpAnyH_take (i := 12) (oi := { dst := some 33, op := Op.move (Operand.tmp 32), type := 4, pos := "nets.go:289", after := #[{ on := 11, ground := Ground.data }, { on := 9, ground := Ground.chain }, { on := 9, ground := Ground.guard }], guard := some (9, true) }) (v := ?_) rfl (by kernel_rfl) (by kernel_rfl) (by kernel_rfl) (fun _ _ _ h => h) (Or.inl ⟨by rfl, ?_⟩) hHeld ?_
          rotate_left
          · (intro w hSw; (try dsimp only at hSw); go_simp; first | done | with_reducible rfl)
          simp only [Act.put, List.setIfInBounds_toArray, List.set_cons_zero, List.set_cons_succ]
          refine wpAnyH_take (i := 13) (oi := { dst := some 34, op := Op.move (Operand.tmp 0), type := 25, pos := "nets.go:289", after := #[{ on := 12, ground := Ground.guard }], guard := some (12, false) }) (v := undef) rfl (by kernel_rfl) (by kernel_rfl) (by kernel_rfl) (fun _ _ _ h => h) (Or.inr ⟨by rfl, rfl⟩) hHeld ?_
          simp only [Act.put, List.setIfInBounds_toArray, List.set_cons_zero, List.set_cons_succ]
          refine wpAnyH_take (i := 14) (oi := { dst := some 35, op := Op.indexAddr 25 (Operand.tmp 34) (Operand.const (Value.int IntKind.i64 0)), type := 0, pos := "nets.go:289", after := #[{ on := 13, ground := Ground.data }, { on := 12, ground := Ground.guard }], guard := some (12, false) }) (v := undef) rfl (by kernel_rfl) (by kernel_rfl) (by kernel_rfl) (fun _ _ _ h => h) (Or.inr ⟨by rfl, rfl⟩) hHeld ?_
          simp only [Act.put, List.setIfInBounds_toArray, List.set_cons_zero, List.set_cons_succ]
          refine wpAnyH_take (i := 15) (oi := { dst := some 36, op := Op.load 5 (Operand.tmp 35), type := 5, pos := "nets.go:289", after := #[{ on := 14, ground := Ground.data }, { on := 12, ground := Ground.guard }], guard := some (12, false) }) (v := undef) rfl (by kernel_rfl) (by kernel_rfl) (by kernel_rfl) (fun _ _ _ h => h) (Or.inr ⟨by rfl, rfl⟩) hHeld ?_
          simp only [Act.put, List.setIfInBounds_toArray, List.set_cons_zero, List.set_cons_succ]
          refine wpAnyH_take (i := 16) (oi := { dst := some 37, op := Op.binOp BinOp.neq 5 (Operand.tmp 36) (Operand.const (Value.int IntKind.u8 1)) 5, type := 4, pos := "nets.go:289", after := #[{ on := 15, ground := Ground.data }, { on := 12, ground := Ground.guard }], guard := some (12, false) }) (v := undef) rfl (by kernel_rfl) (by kernel_rfl) (by kernel_rfl) (fun _ _ _ h => h) (Or.inr ⟨by rfl, rfl⟩) hHeld ?_
          simp only [Act.put, List.setIfInBounds_toArray, List.set_cons_zero, List.set_cons_succ]
          refine wpAnyH_take (i := 17) (oi := { dst := some 38, op := Op.pick (Operand.tmp 33) (Operand.const (Value.bool true)) (Operand.tmp 37), type := 4, pos := "nets.go:289", after := #[{ on := 12, ground := Ground.data }, { on := 16, ground := Ground.data }, { on := 9, ground := Ground.guard }], guard := some (9, true) }) (v := ?_) rfl (by kernel_rfl) (by kernel_rfl) (by kernel_rfl) (fun _ _ _ h => h) (Or.inl ⟨by rfl, ?_⟩) hHeld ?_
          rotate_left
          · (intro w hSw; (try dsimp only at hSw); go_simp; first | done | with_reducible rfl)
          simp only [Act.put, List.setIfInBounds_toArray, List.set_cons_zero, List.set_cons_succ]
          refine wpAnyH_take (i := 18) (oi := { dst := some 39, op := Op.pick (Operand.tmp 30) (Operand.tmp 38) (Operand.const (Value.bool false)), type := 4, pos := "nets.go:289", after := #[{ on := 9, ground := Ground.data }, { on := 17, ground := Ground.data }], guard := none }) (v := ?_) rfl (by kernel_rfl) (by kernel_rfl) (by kernel_rfl) (fun _ _ _ h => h) (Or.inl ⟨by rfl, ?_⟩) hHeld ?_
          rotate_left
          · (intro w hSw; (try dsimp only at hSw); go_simp; first | done | with_reducible rfl)
          simp only [Act.put, List.setIfInBounds_toArray, List.set_cons_zero, List.set_cons_succ]
          refine wpAnyH_done (by kernel_rfl) ?_ _
          obtain ⟨_, q0, q1, p0, p1⟩ := HR.out
          go_wp2_with fail
          exact bodyPost_msg Tryd.results14 rfl rfl (HR.out.set _ _).drew rfl (MsgTo.no HN.out ((HB.out.setCell (p := ⟨w.heap.size, 0, none⟩) (Nat.le_refl _) _).setCell (p := ⟨w.heap.size, 1, none⟩) (Nat.le_refl _) _).drew)
        · have t3 : ¬ (0 : Int) < i := by omega
          have hi00 : i = 0 := by omega
          by_cases h1 : x0 = 1
          · have HN := Lib.hid (HST.out (Or.inr ⟨hi00, h1⟩))
            have t4 : ((x0 : Int) == 1) = true := by rw [h1]; rfl
            have t5 : ((x0 : Int) != 1) = false := by rw [h1]; rfl
            clear HST HBD hi00
            go_wp2_with fail
            refine wp_region_held_drew (S := (fun w' => w'.cell? ⟨b, off + i, none⟩ = some (.int .u8 (x : Int)) ∧ w'.cell? ⟨w.heap.size + 1, i, none⟩ = some (.int .u8 (h : Int)) ∧ w'.cell? ⟨b, off, none⟩ = some (.int .u8 (x0 : Int)))) (by kernel_rfl) ⟨cb, ch, c0⟩ (fun hHeld => ?_)
            refine wpAnyH_take (i := 0) (oi := { dst := some 21, op := Op.move (Operand.tmp 0), type := 25, pos := "nets.go:289", after := #[], guard := none }) (v := ?_) rfl (by kernel_rfl) (by kernel_rfl) (by kernel_rfl) (fun _ _ _ h => h) (Or.inl ⟨by rfl, ?_⟩) hHeld ?_
            rotate_left
            · (intro w hSw; (try dsimp only at hSw); go_simp; first | done | with_reducible rfl)
            simp only [Act.put, List.setIfInBounds_toArray, List.set_cons_zero, List.set_cons_succ]
            refine wpAnyH_take (i := 1) (oi := { dst := some 22, op := Op.move (Operand.tmp 5), type := 3, pos := "nets.go:289", after := #[], guard := none }) (v := ?_) rfl (by kernel_rfl) (by kernel_rfl) (by kernel_rfl) (fun _ _ _ h => h) (Or.inl ⟨by rfl, ?_⟩) hHeld ?_
            rotate_left
            · (intro w hSw; (try dsimp only at hSw); go_simp; first | done | with_reducible rfl)
            simp only [Act.put, List.setIfInBounds_toArray, List.set_cons_zero, List.set_cons_succ]
            refine wpAnyH_take (i := 2) (oi := { dst := some 23, op := Op.indexAddr 25 (Operand.tmp 21) (Operand.tmp 22), type := 0, pos := "nets.go:289", after := #[{ on := 0, ground := Ground.data }, { on := 1, ground := Ground.data }], guard := none }) (v := ?_) rfl (by kernel_rfl) (by kernel_rfl) (by kernel_rfl) (fun _ _ _ h => h) (Or.inl ⟨by rfl, ?_⟩) hHeld ?_
            rotate_left
            · (intro w hSw; (try dsimp only at hSw); go_simp; first | done | with_reducible rfl)
            simp only [Act.put, List.setIfInBounds_toArray, List.set_cons_zero, List.set_cons_succ]
            refine wpAnyH_take (i := 3) (oi := { dst := some 24, op := Op.load 5 (Operand.tmp 23), type := 5, pos := "nets.go:289", after := #[{ on := 2, ground := Ground.data }], guard := none }) (v := ?_) rfl (by kernel_rfl) (by kernel_rfl) (by kernel_rfl) (fun _ _ _ h => h) (Or.inl ⟨by rfl, ?_⟩) hHeld ?_
            rotate_left
            · (intro w hSw; (try dsimp only at hSw); go_simp; first | done | with_reducible rfl)
            simp only [Act.put, List.setIfInBounds_toArray, List.set_cons_zero, List.set_cons_succ]
            refine wpAnyH_take (i := 4) (oi := { dst := some 25, op := Op.move (Operand.tmp 4), type := 25, pos := "nets.go:289", after := #[], guard := none }) (v := ?_) rfl (by kernel_rfl) (by kernel_rfl) (by kernel_rfl) (fun _ _ _ h => h) (Or.inl ⟨by rfl, ?_⟩) hHeld ?_
            rotate_left
            · (intro w hSw; (try dsimp only at hSw); go_simp; first | done | with_reducible rfl)
            simp only [Act.put, List.setIfInBounds_toArray, List.set_cons_zero, List.set_cons_succ]
            refine wpAnyH_take (i := 5) (oi := { dst := some 26, op := Op.move (Operand.tmp 5), type := 3, pos := "nets.go:289", after := #[], guard := none }) (v := ?_) rfl (by kernel_rfl) (by kernel_rfl) (by kernel_rfl) (fun _ _ _ h => h) (Or.inl ⟨by rfl, ?_⟩) hHeld ?_
            rotate_left
            · (intro w hSw; (try dsimp only at hSw); go_simp; first | done | with_reducible rfl)
            simp only [Act.put, List.setIfInBounds_toArray, List.set_cons_zero, List.set_cons_succ]
            refine wpAnyH_take (i := 6) (oi := { dst := some 27, op := Op.indexAddr 25 (Operand.tmp 25) (Operand.tmp 26), type := 0, pos := "nets.go:289", after := #[{ on := 4, ground := Ground.data }, { on := 5, ground := Ground.data }], guard := none }) (v := ?_) rfl (by kernel_rfl) (by kernel_rfl) (by kernel_rfl) (fun _ _ _ h => h) (Or.inl ⟨by rfl, ?_⟩) hHeld ?_
            rotate_left
            · (intro w hSw; (try dsimp only at hSw); go_simp; first | done | with_reducible rfl)
            simp only [Act.put, List.setIfInBounds_toArray, List.set_cons_zero, List.set_cons_succ]
            refine wpAnyH_take (i := 7) (oi := { dst := some 28, op := Op.load 5 (Operand.tmp 27), type := 5, pos := "nets.go:289", after := #[{ on := 6, ground := Ground.data }], guard := none }) (v := ?_) rfl (by kernel_rfl) (by kernel_rfl) (by kernel_rfl) (fun _ _ _ h => h) (Or.inl ⟨by rfl, ?_⟩) hHeld ?_
            rotate_left
            · (intro w hSw; (try dsimp only at hSw); go_simp; first | done | with_reducible rfl)
            simp only [Act.put, List.setIfInBounds_toArray, List.set_cons_zero, List.set_cons_succ]
            refine wpAnyH_take (i := 8) (oi := { dst := some 29, op := Op.binOp BinOp.neq 5 (Operand.tmp 24) (Operand.tmp 28) 5, type := 4, pos := "nets.go:289", after := #[{ on := 3, ground := Ground.data }, { on := 7, ground := Ground.data }], guard := none }) (v := ?_) rfl (by kernel_rfl) (by kernel_rfl) (by kernel_rfl) (fun _ _ _ h => h) (Or.inl ⟨by rfl, ?_⟩) hHeld ?_
            rotate_left
            · (intro w hSw; (try dsimp only at hSw); go_simp; first | done | with_reducible rfl)
            simp only [Act.put, List.setIfInBounds_toArray, List.set_cons_zero, List.set_cons_succ]
            refine wpAnyH_take (i := 9) (oi := { dst := some 30, op := Op.move (Operand.tmp 29), type := 4, pos := "nets.go:289", after := #[{ on := 8, ground := Ground.data }], guard := none }) (v := ?_) rfl (by kernel_rfl) (by kernel_rfl) (by kernel_rfl) (fun _ _ _ h => h) (Or.inl ⟨by rfl, ?_⟩) hHeld ?_
            rotate_left
            · (intro w hSw; (try dsimp only at hSw); go_simp; first | done | with_reducible rfl)
            simp only [Act.put, List.setIfInBounds_toArray, List.set_cons_zero, List.set_cons_succ]
            refine wpAnyH_take (i := 10) (oi := { dst := some 31, op := Op.move (Operand.tmp 5), type := 3, pos := "nets.go:289", after := #[{ on := 9, ground := Ground.guard }], guard := some (9, true) }) (v := ?_) rfl (by kernel_rfl) (by kernel_rfl) (by kernel_rfl) (fun _ _ _ h => h) (Or.inl ⟨by rfl, ?_⟩) hHeld ?_
            rotate_left
            · (intro w hSw; (try dsimp only at hSw); go_simp; first | done | with_reducible rfl)
            simp only [Act.put, List.setIfInBounds_toArray, List.set_cons_zero, List.set_cons_succ]
            refine wpAnyH_take (i := 11) (oi := { dst := some 32, op := Op.binOp BinOp.gtr 3 (Operand.tmp 31) (Operand.const (Value.int IntKind.i64 0)) 3, type := 4, pos := "nets.go:289", after := #[{ on := 10, ground := Ground.data }, { on := 9, ground := Ground.guard }], guard := some (9, true) }) (v := ?_) rfl (by kernel_rfl) (by kernel_rfl) (by kernel_rfl) (fun _ _ _ h => h) (Or.inl ⟨by rfl, ?_⟩) hHeld ?_
            rotate_left
            · (intro w hSw; (try dsimp only at hSw); go_simp; first | done | with_reducible rfl)
            simp only [Act.put, List.setIfInBounds_toArray, List.set_cons_zero, List.set_cons_succ]
            refine wpAnyH_take (i := 12) (oi := { dst := some 33, op := Op.move (Operand.tmp 32), type := 4, pos := "nets.go:289", after := #[{ on := 11, ground := Ground.data }, { on := 9, ground := Ground.chain }, { on := 9, ground := Ground.guard }], guard := some (9, true) }) (v := ?_) rfl (by kernel_rfl) (by kernel_rfl) (by kernel_rfl) (fun _ _ _ h => h) (Or.inl ⟨by rfl, ?_⟩) hHeld ?_
            rotate_left
            · (intro w hSw; (try dsimp only at hSw); go_simp; first | done | with_reducible rfl)
            simp only [Act.put, List.setIfInBounds_toArray, List.set_cons_zero, List.set_cons_succ]
            refine wpAnyH_take (i := 13) (oi := { dst := some 34, op := Op.move (Operand.tmp 0), type := 25, pos := "nets.go:289", after := #[{ on := 12, ground := Ground.guard }], guard := some (12, false) }) (v := ?_) rfl (by kernel_rfl) (by kernel_rfl) (by kernel_rfl) (fun _ _ _ h => h) (Or.inl ⟨by rfl, ?_⟩) hHeld ?_
            rotate_left
            · (intro w hSw; (try dsimp only at hSw); go_simp; first | done | with_reducible rfl)
            simp only [Act.put, List.setIfInBounds_toArray, List.set_cons_zero, List.set_cons_succ]
            refine wpAnyH_take (i := 14) (oi := { dst := some 35, op := Op.indexAddr 25 (Operand.tmp 34) (Operand.const (Value.int IntKind.i64 0)), type := 0, pos := "nets.go:289", after := #[{ on := 13, ground := Ground.data }, { on := 12, ground := Ground.guard }], guard := some (12, false) }) (v := ?_) rfl (by kernel_rfl) (by kernel_rfl) (by kernel_rfl) (fun _ _ _ h => h) (Or.inl ⟨by rfl, ?_⟩) hHeld ?_
            rotate_left
            · (intro w hSw; (try dsimp only at hSw); go_simp; first | done | with_reducible rfl)
            simp only [Act.put, List.setIfInBounds_toArray, List.set_cons_zero, List.set_cons_succ]
            refine wpAnyH_take (i := 15) (oi := { dst := some 36, op := Op.load 5 (Operand.tmp 35), type := 5, pos := "nets.go:289", after := #[{ on := 14, ground := Ground.data }, { on := 12, ground := Ground.guard }], guard := some (12, false) }) (v := ?_) rfl (by kernel_rfl) (by kernel_rfl) (by kernel_rfl) (fun _ _ _ h => h) (Or.inl ⟨by rfl, ?_⟩) hHeld ?_
            rotate_left
            · (intro w hSw; (try dsimp only at hSw); go_simp; first | done | with_reducible rfl)
            simp only [Act.put, List.setIfInBounds_toArray, List.set_cons_zero, List.set_cons_succ]
            refine wpAnyH_take (i := 16) (oi := { dst := some 37, op := Op.binOp BinOp.neq 5 (Operand.tmp 36) (Operand.const (Value.int IntKind.u8 1)) 5, type := 4, pos := "nets.go:289", after := #[{ on := 15, ground := Ground.data }, { on := 12, ground := Ground.guard }], guard := some (12, false) }) (v := ?_) rfl (by kernel_rfl) (by kernel_rfl) (by kernel_rfl) (fun _ _ _ h => h) (Or.inl ⟨by rfl, ?_⟩) hHeld ?_
            rotate_left
            · (intro w hSw; (try dsimp only at hSw); go_simp; first | done | with_reducible rfl)
            simp only [Act.put, List.setIfInBounds_toArray, List.set_cons_zero, List.set_cons_succ]
            refine wpAnyH_take (i := 17) (oi := { dst := some 38, op := Op.pick (Operand.tmp 33) (Operand.const (Value.bool true)) (Operand.tmp 37), type := 4, pos := "nets.go:289", after := #[{ on := 12, ground := Ground.data }, { on := 16, ground := Ground.data }, { on := 9, ground := Ground.guard }], guard := some (9, true) }) (v := ?_) rfl (by kernel_rfl) (by kernel_rfl) (by kernel_rfl) (fun _ _ _ h => h) (Or.inl ⟨by rfl, ?_⟩) hHeld ?_
            rotate_left
            · (intro w hSw; (try dsimp only at hSw); go_simp; first | done | with_reducible rfl)
            simp only [Act.put, List.setIfInBounds_toArray, List.set_cons_zero, List.set_cons_succ]
            refine wpAnyH_take (i := 18) (oi := { dst := some 39, op := Op.pick (Operand.tmp 30) (Operand.tmp 38) (Operand.const (Value.bool false)), type := 4, pos := "nets.go:289", after := #[{ on := 9, ground := Ground.data }, { on := 17, ground := Ground.data }], guard := none }) (v := ?_) rfl (by kernel_rfl) (by kernel_rfl) (by kernel_rfl) (fun _ _ _ h => h) (Or.inl ⟨by rfl, ?_⟩) hHeld ?_
            rotate_left
            · (intro w hSw; (try dsimp only at hSw); go_simp; first | done | with_reducible rfl)
            simp only [Act.put, List.setIfInBounds_toArray, List.set_cons_zero, List.set_cons_succ]
            refine wpAnyH_done (by kernel_rfl) ?_ _
            go_wp2_with fail
            go_roundw
            case rel => exact ⟨i + 1, by go_num, by omega, HN, HRn, HBn, HOn, HZn⟩
            case measure => simp [RowKit.intOf]; omega
          · have HN := Lib.hid (HBD.out (fun hh => by rcases hh with hh | hh; exact hxh hh; exact h1 hh.2))
            have t4 : ((x0 : Int) == 1) = false := by
              have : ¬ (x0 : Int) = 1 := by omega
              simpa using this
            have t5 : ((x0 : Int) != 1) = true := by
              have : ¬ (x0 : Int) = 1 := by omega
              simpa using this
            clear HST HBD hi00
            go_wp2_with fail
            refine wp_region_held_drew (S := (fun w' => w'.cell? ⟨b, off + i, none⟩ = some (.int .u8 (x : Int)) ∧ w'.cell? ⟨w.heap.size + 1, i, none⟩ = some (.int .u8 (h : Int)) ∧ w'.cell? ⟨b, off, none⟩ = some (.int .u8 (x0 : Int)))) (by kernel_rfl) ⟨cb, ch, c0⟩ (fun hHeld => ?_)
            refine wpAnyH_take (i := 0) (oi := { dst := some 21, op := Op.move (Operand.tmp 0), type := 25, pos := "nets.go:289", after := #[], guard := none }) (v := ?_) rfl (by kernel_rfl) (by kernel_rfl) (by kernel_rfl) (fun _ _ _ h => h) (Or.inl ⟨by rfl, ?_⟩) hHeld ?_
            rotate_left
            · (intro w hSw; (try dsimp only at hSw); go_simp; first | done | with_reducible rfl)
            simp only [Act.put, List.setIfInBounds_toArray, List.set_cons_zero, List.set_cons_succ]
            refine wpAnyH_take (i := 1) (oi := { dst := some 22, op := Op.move (Operand.tmp 5), type := 3, pos := "nets.go:289", after := #[], guard := none }) (v := ?_) rfl (by kernel_rfl) (by kernel_rfl) (by kernel_rfl) (fun _ _ _ h => h) (Or.inl ⟨by rfl, ?_⟩) hHeld ?_
            rotate_left
            · (intro w hSw; (try dsimp only at hSw); go_simp; first | done | with_reducible rfl)
            simp only [Act.put, List.setIfInBounds_toArray, List.set_cons_zero, List.set_cons_succ]
            refine wpAnyH_take (i := 2) (oi := { dst := some 23, op := Op.indexAddr 25 (Operand.tmp 21) (Operand.tmp 22), type := 0, pos := "nets.go:289", after := #[{ on := 0, ground := Ground.data }, { on := 1, ground := Ground.data }], guard := none }) (v := ?_) rfl (by kernel_rfl) (by kernel_rfl) (by kernel_rfl) (fun _ _ _ h => h) (Or.inl ⟨by rfl, ?_⟩) hHeld ?_
            rotate_left
            · (intro w hSw; (try dsimp only at hSw); go_simp; first | done | with_reducible rfl)
            simp only [Act.put, List.setIfInBounds_toArray, List.set_cons_zero, List.set_cons_succ]
            refine wpAnyH_take (i := 3) (oi := { dst := some 24, op := Op.load 5 (Operand.tmp 23), type := 5, pos := "nets.go:289", after := #[{ on := 2, ground := Ground.data }], guard := none }) (v := ?_) rfl (by kernel_rfl) (by kernel_rfl) (by kernel_rfl) (fun _ _ _ h => h) (Or.inl ⟨by rfl, ?_⟩) hHeld ?_
            rotate_left
            · (intro w hSw; (try dsimp only at hSw); go_simp; first | done | with_reducible rfl)
            simp only [Act.put, List.setIfInBounds_toArray, List.set_cons_zero, List.set_cons_succ]
            refine wpAnyH_take (i := 4) (oi := { dst := some 25, op := Op.move (Operand.tmp 4), type := 25, pos := "nets.go:289", after := #[], guard := none }) (v := ?_) rfl (by kernel_rfl) (by kernel_rfl) (by kernel_rfl) (fun _ _ _ h => h) (Or.inl ⟨by rfl, ?_⟩) hHeld ?_
            rotate_left
            · (intro w hSw; (try dsimp only at hSw); go_simp; first | done | with_reducible rfl)
            simp only [Act.put, List.setIfInBounds_toArray, List.set_cons_zero, List.set_cons_succ]
            refine wpAnyH_take (i := 5) (oi := { dst := some 26, op := Op.move (Operand.tmp 5), type := 3, pos := "nets.go:289", after := #[], guard := none }) (v := ?_) rfl (by kernel_rfl) (by kernel_rfl) (by kernel_rfl) (fun _ _ _ h => h) (Or.inl ⟨by rfl, ?_⟩) hHeld ?_
            rotate_left
            · (intro w hSw; (try dsimp only at hSw); go_simp; first | done | with_reducible rfl)
            simp only [Act.put, List.setIfInBounds_toArray, List.set_cons_zero, List.set_cons_succ]
            refine wpAnyH_take (i := 6) (oi := { dst := some 27, op := Op.indexAddr 25 (Operand.tmp 25) (Operand.tmp 26), type := 0, pos := "nets.go:289", after := #[{ on := 4, ground := Ground.data }, { on := 5, ground := Ground.data }], guard := none }) (v := ?_) rfl (by kernel_rfl) (by kernel_rfl) (by kernel_rfl) (fun _ _ _ h => h) (Or.inl ⟨by rfl, ?_⟩) hHeld ?_
            rotate_left
            · (intro w hSw; (try dsimp only at hSw); go_simp; first | done | with_reducible rfl)
            simp only [Act.put, List.setIfInBounds_toArray, List.set_cons_zero, List.set_cons_succ]
            refine wpAnyH_take (i := 7) (oi := { dst := some 28, op := Op.load 5 (Operand.tmp 27), type := 5, pos := "nets.go:289", after := #[{ on := 6, ground := Ground.data }], guard := none }) (v := ?_) rfl (by kernel_rfl) (by kernel_rfl) (by kernel_rfl) (fun _ _ _ h => h) (Or.inl ⟨by rfl, ?_⟩) hHeld ?_
            rotate_left
            · (intro w hSw; (try dsimp only at hSw); go_simp; first | done | with_reducible rfl)
            simp only [Act.put, List.setIfInBounds_toArray, List.set_cons_zero, List.set_cons_succ]
            refine wpAnyH_take (i := 8) (oi := { dst := some 29, op := Op.binOp BinOp.neq 5 (Operand.tmp 24) (Operand.tmp 28) 5, type := 4, pos := "nets.go:289", after := #[{ on := 3, ground := Ground.data }, { on := 7, ground := Ground.data }], guard := none }) (v := ?_) rfl (by kernel_rfl) (by kernel_rfl) (by kernel_rfl) (fun _ _ _ h => h) (Or.inl ⟨by rfl, ?_⟩) hHeld ?_
            rotate_left
            · (intro w hSw; (try dsimp only at hSw); go_simp; first | done | with_reducible rfl)
            simp only [Act.put, List.setIfInBounds_toArray, List.set_cons_zero, List.set_cons_succ]
            refine wpAnyH_take (i := 9) (oi := { dst := some 30, op := Op.move (Operand.tmp 29), type := 4, pos := "nets.go:289", after := #[{ on := 8, ground := Ground.data }], guard := none }) (v := ?_) rfl (by kernel_rfl) (by kernel_rfl) (by kernel_rfl) (fun _ _ _ h => h) (Or.inl ⟨by rfl, ?_⟩) hHeld ?_
            rotate_left
            · (intro w hSw; (try dsimp only at hSw); go_simp; first | done | with_reducible rfl)
            simp only [Act.put, List.setIfInBounds_toArray, List.set_cons_zero, List.set_cons_succ]
            refine wpAnyH_take (i := 10) (oi := { dst := some 31, op := Op.move (Operand.tmp 5), type := 3, pos := "nets.go:289", after := #[{ on := 9, ground := Ground.guard }], guard := some (9, true) }) (v := ?_) rfl (by kernel_rfl) (by kernel_rfl) (by kernel_rfl) (fun _ _ _ h => h) (Or.inl ⟨by rfl, ?_⟩) hHeld ?_
            rotate_left
            · (intro w hSw; (try dsimp only at hSw); go_simp; first | done | with_reducible rfl)
            simp only [Act.put, List.setIfInBounds_toArray, List.set_cons_zero, List.set_cons_succ]
            refine wpAnyH_take (i := 11) (oi := { dst := some 32, op := Op.binOp BinOp.gtr 3 (Operand.tmp 31) (Operand.const (Value.int IntKind.i64 0)) 3, type := 4, pos := "nets.go:289", after := #[{ on := 10, ground := Ground.data }, { on := 9, ground := Ground.guard }], guard := some (9, true) }) (v := ?_) rfl (by kernel_rfl) (by kernel_rfl) (by kernel_rfl) (fun _ _ _ h => h) (Or.inl ⟨by rfl, ?_⟩) hHeld ?_
            rotate_left
            · (intro w hSw; (try dsimp only at hSw); go_simp; first | done | with_reducible rfl)
            simp only [Act.put, List.setIfInBounds_toArray, List.set_cons_zero, List.set_cons_succ]
            refine wpAnyH_take (i := 12) (oi := { dst := some 33, op := Op.move (Operand.tmp 32), type := 4, pos := "nets.go:289", after := #[{ on := 11, ground := Ground.data }, { on := 9, ground := Ground.chain }, { on := 9, ground := Ground.guard }], guard := some (9, true) }) (v := ?_) rfl (by kernel_rfl) (by kernel_rfl) (by kernel_rfl) (fun _ _ _ h => h) (Or.inl ⟨by rfl, ?_⟩) hHeld ?_
            rotate_left
            · (intro w hSw; (try dsimp only at hSw); go_simp; first | done | with_reducible rfl)
            simp only [Act.put, List.setIfInBounds_toArray, List.set_cons_zero, List.set_cons_succ]
            refine wpAnyH_take (i := 13) (oi := { dst := some 34, op := Op.move (Operand.tmp 0), type := 25, pos := "nets.go:289", after := #[{ on := 12, ground := Ground.guard }], guard := some (12, false) }) (v := ?_) rfl (by kernel_rfl) (by kernel_rfl) (by kernel_rfl) (fun _ _ _ h => h) (Or.inl ⟨by rfl, ?_⟩) hHeld ?_
            rotate_left
            · (intro w hSw; (try dsimp only at hSw); go_simp; first | done | with_reducible rfl)
            simp only [Act.put, List.setIfInBounds_toArray, List.set_cons_zero, List.set_cons_succ]
            refine wpAnyH_take (i := 14) (oi := { dst := some 35, op := Op.indexAddr 25 (Operand.tmp 34) (Operand.const (Value.int IntKind.i64 0)), type := 0, pos := "nets.go:289", after := #[{ on := 13, ground := Ground.data }, { on := 12, ground := Ground.guard }], guard := some (12, false) }) (v := ?_) rfl (by kernel_rfl) (by kernel_rfl) (by kernel_rfl) (fun _ _ _ h => h) (Or.inl ⟨by rfl, ?_⟩) hHeld ?_
            rotate_left
            · (intro w hSw; (try dsimp only at hSw); go_simp; first | done | with_reducible rfl)
            simp only [Act.put, List.setIfInBounds_toArray, List.set_cons_zero, List.set_cons_succ]
            refine wpAnyH_take (i := 15) (oi := { dst := some 36, op := Op.load 5 (Operand.tmp 35), type := 5, pos := "nets.go:289", after := #[{ on := 14, ground := Ground.data }, { on := 12, ground := Ground.guard }], guard := some (12, false) }) (v := ?_) rfl (by kernel_rfl) (by kernel_rfl) (by kernel_rfl) (fun _ _ _ h => h) (Or.inl ⟨by rfl, ?_⟩) hHeld ?_
            rotate_left
            · (intro w hSw; (try dsimp only at hSw); go_simp; first | done | with_reducible rfl)
            simp only [Act.put, List.setIfInBounds_toArray, List.set_cons_zero, List.set_cons_succ]
            refine wpAnyH_take (i := 16) (oi := { dst := some 37, op := Op.binOp BinOp.neq 5 (Operand.tmp 36) (Operand.const (Value.int IntKind.u8 1)) 5, type := 4, pos := "nets.go:289", after := #[{ on := 15, ground := Ground.data }, { on := 12, ground := Ground.guard }], guard := some (12, false) }) (v := ?_) rfl (by kernel_rfl) (by kernel_rfl) (by kernel_rfl) (fun _ _ _ h => h) (Or.inl ⟨by rfl, ?_⟩) hHeld ?_
            rotate_left
            · (intro w hSw; (try dsimp only at hSw); go_simp; first | done | with_reducible rfl)
            simp only [Act.put, List.setIfInBounds_toArray, List.set_cons_zero, List.set_cons_succ]
            refine wpAnyH_take (i := 17) (oi := { dst := some 38, op := Op.pick (Operand.tmp 33) (Operand.const (Value.bool true)) (Operand.tmp 37), type := 4, pos := "nets.go:289", after := #[{ on := 12, ground := Ground.data }, { on := 16, ground := Ground.data }, { on := 9, ground := Ground.guard }], guard := some (9, true) }) (v := ?_) rfl (by kernel_rfl) (by kernel_rfl) (by kernel_rfl) (fun _ _ _ h => h) (Or.inl ⟨by rfl, ?_⟩) hHeld ?_
            rotate_left
            · (intro w hSw; (try dsimp only at hSw); go_simp; first | done | with_reducible rfl)
            simp only [Act.put, List.setIfInBounds_toArray, List.set_cons_zero, List.set_cons_succ]
            refine wpAnyH_take (i := 18) (oi := { dst := some 39, op := Op.pick (Operand.tmp 30) (Operand.tmp 38) (Operand.const (Value.bool false)), type := 4, pos := "nets.go:289", after := #[{ on := 9, ground := Ground.data }, { on := 17, ground := Ground.data }], guard := none }) (v := ?_) rfl (by kernel_rfl) (by kernel_rfl) (by kernel_rfl) (fun _ _ _ h => h) (Or.inl ⟨by rfl, ?_⟩) hHeld ?_
            rotate_left
            · (intro w hSw; (try dsimp only at hSw); go_simp; first | done | with_reducible rfl)
            simp only [Act.put, List.setIfInBounds_toArray, List.set_cons_zero, List.set_cons_succ]
            refine wpAnyH_done (by kernel_rfl) ?_ _
            obtain ⟨_, q0, q1, p0, p1⟩ := HR.out
            go_wp2_with fail
            exact bodyPost_msg Tryd.results14 rfl rfl (HR.out.set _ _).drew rfl (MsgTo.no HN.out ((HB.out.setCell (p := ⟨w.heap.size, 0, none⟩) (Nat.le_refl _) _).setCell (p := ⟨w.heap.size, 1, none⟩) (Nat.le_refl _) _).drew)
    · by_cases hi3 : i < 4
      · have hi' : (i : Int) < 4 := by omega
        have hi'' : ¬ (i : Int) < l.length := by omega
        have hl4 : (l.length : Int) < 4 := by omega
        have HN := Lib.hid (HH.out.short (by omega) (by omega))
        obtain ⟨_, q0, q1, p0, p1⟩ := HR.out
        go_wp2_with fail
        exact bodyPost_msg Tryd.results14 rfl rfl (HR.out.set _ _) rfl (MsgTo.no HN.out ((HB.out.setCell (p := ⟨w.heap.size, 0, none⟩) (Nat.le_refl _) _).setCell (p := ⟨w.heap.size, 1, none⟩) (Nat.le_refl _) _))
      · have hi' : ¬ (i : Int) < 4 := by omega
        have hi44 : i = 4 := by omega
        subst hi44
        have hl4 : ¬ (l.length : Int) < 4 := by omega
        have c00 := (HS.out.below HB.out hlt) 0 hpos
        rw [Nat.add_zero] at c00
        obtain ⟨ask, hask⟩ : ∃ ask, decide (l[0]! = 1) = ask := ⟨_, rfl⟩
        have ha : ((l[0]! : Int) == 1) = ask := by
          rw [← hask]
          by_cases h : l[0]! = 1
          · rw [h]; rfl
          · rw [decide_eq_false h]
            have : ¬ (l[0]! : Int) = 1 := by omega
            simpa using this
        have hst := HH.out.start
        rw [hask] at hst
        generalize l[0]! = x0 at c00 ha
        have hz := HZ.out
        have hb2 := Box.new wr (.bool ask) (.slice none 0 0) 24
        rw [hz] at hb2
        have HR2 := Lib.hid (ReadsM.mk (HR.out.alloc (.cells #[.bool ask, .slice none 0 0] 24)) hb2 (OwnE.nil _ _) hst (HB.out.alloc (by omega) (.cells #[.bool ask, .slice none 0 0] 24)))
        clear hb2 hst hask HR HB HO HZ HH hil
        go_wp2_with fail
        clear hz
        go_loopw [7] (fun vk wr => ∃ (q : Nat), vk = .int .i64 (q : Int) ∧ q ≤ l.length ∧ ∃ (es : List En) (p : Option Addr) (m c : Nat), Hid (q = 4 + 20 * es.length) ∧ Hid (ReadsM w l ask wr es p m c)) (fun vk _ => l.length + 20 - (RowKit.intOf vk).toNat)
        case atStart => exact ⟨4, rfl, by omega, [], none, 0, 0, Lib.hid rfl, HR2⟩
        case round =>
          clear c00 ha HR2
          obtain ⟨q, rfl, hq, es, p, m, cc, HQ, HR⟩ := hrel
          have hm := HR.out.len
          have hlt2 : b < wr.heap.size := Nat.lt_of_lt_of_le hlt HR.out.t.size
          obtain ⟨_, m0, m1, s0, s1⟩ := HR.out.b
          obtain ⟨_, r0, r1, t0, t1⟩ := HR.out.r
          have HSr := Lib.hid (HS.out.below HR.out.t hlt)
          by_cases hk : q < l.length
          · have hk' : (q : Int) < l.length := by omega
            by_cases h25 : m = 25
            · have h25' : ((m : Int) == 25) = true := by rw [h25]; rfl
              have HN := Lib.hid (HR.out.d.full (by omega) (by have := HQ.out; omega))
              clear hm
              go_wp2_with fail
              exact bodyPost_msg Tryd.results14 rfl rfl (HR.out.r.set _ _) rfl (MsgTo.no HN.out ((HR.out.t.setCell (p := ⟨w.heap.size, 0, none⟩) (Nat.le_refl _) _).setCell (p := ⟨w.heap.size, 1, none⟩) (Nat.le_refl _) _))
            · have h25' : ((m : Int) == 25) = false := by
                have : ¬ (m : Int) = 25 := by omega
                simpa using this
              have H25 := Lib.hid (show es.length ≠ 25 by omega)
              clear h25 hm
              by_cases h20 : l.length < q + 20
              · have h20' : (l.length : Int) < q + 20 := by omega
                have sd : SeenB wr b (off + q) (l.drop q) := by
                  have := HSr.out.sub q 20
                  rw [List.take_of_length_le (by rw [List.length_drop]; omega)] at this
                  exact this
                have G := goes_any wr b (off + q) (c - q) (l.drop q) (by rw [List.length_drop]; omega) (fun x hx => HY.out x (List.mem_of_mem_drop hx)) hlt2 sd HEN.out
                rw [List.length_drop] at G
                have HG := Lib.hid G
                have HN1 := Lib.hid (fun (h : PreE (l.drop q)) => HR.out.d.goes H25.out (by have := HQ.out; omega) (by have := HQ.out; omega) (by rw [← HQ.out]; exact h))
                have HN0 := Lib.hid (fun (h : ¬ PreE (l.drop q)) => HR.out.d.stops (by have := HQ.out; omega) (by have := HQ.out; omega) (by rw [← HQ.out]; exact h))
                clear sd G
                go_wp2_with fail
                refine HG.out.mono ?_
                rintro x w1 ⟨r, rfl, hr, b1⟩
                have HR1 := Lib.hid (HR.out.kept b1)
                clear r0 r1 t0 t1 m0 m1 s0 s1 b1 HG
                obtain ⟨_, r0, r1, t0, t1⟩ := HR1.out.r
                cases r
                · have HN := Lib.hid (HN0.out (fun h => by cases hr.2 h))
                  clear HN1 HN0 hr
                  go_wp2_with fail
                  exact bodyPost_msg Tryd.results14 rfl rfl (HR1.out.r.set _ _) rfl (MsgTo.no HN.out ((HR1.out.t.setCell (p := ⟨w.heap.size, 0, none⟩) (Nat.le_refl _) _).setCell (p := ⟨w.heap.size, 1, none⟩) (Nat.le_refl _) _))
                · have HN := Lib.hid (HN1.out (hr.1 rfl))
                  clear HN1 HN0 hr
                  go_wp2_with fail
                  exact bodyPost_msg Tryd.results14 rfl rfl (HR1.out.r.set _ _) rfl (MsgTo.no HN.out ((HR1.out.t.setCell (p := ⟨w.heap.size, 0, none⟩) (Nat.le_refl _) _).setCell (p := ⟨w.heap.size, 1, none⟩) (Nat.le_refl _) _))
              · have h20' : ¬ (l.length : Int) < q + 20 := by omega
                have hcs : SeenB wr b (off + q) (chunk l es.length) := by
                  have := HSr.out.sub (4 + 20 * es.length) 20
                  unfold chunk
                  rw [← HQ.out] at this ⊢
                  exact this
                have HE := Lib.hid (HEN.out wr b (off + q) (c - q) (chunk l es.length) (chunk_len l es.length (by have := HQ.out; omega)) (HY.out.sub _ _) hlt2 hcs)
                clear hcs
                go_wp2_with fail
                try rw [show q + 20 - q = 20 by omega]
                refine HE.out.mono ?_
                rintro x w1 ⟨e, is, rfl, hei, b1⟩
                unfold En.v
                have B2 := (Below.refl _ w1).alloc (Nat.le_refl _) (.cells #[.int .u32 (e.a : Int), .int .i64 e.n, .int .i64 e.t, .int .u32 (e.h : Int), .int .i64 e.m] 49)
                have HR2 := Lib.hid ((HR.out.kept b1).kept B2)
                have E2 := EBox.new w1 e 49
                have z2 : (w1.alloc (.cells #[.int .u32 (e.a : Int), .int .i64 e.n, .int .i64 e.t, .int .u32 (e.h : Int), .int .i64 e.m] 49)).heap.size = w1.heap.size + 1 := by simp
                clear r0 r1 t0 t1 m0 m1 s0 s1 b1 HE B2
                cases is
                · have HN := Lib.hid (HR.out.d.bad (by have := HQ.out; omega) (by rcases hei with ⟨h, _⟩ | ⟨_, h⟩; cases h; exact h))
                  obtain ⟨_, r0, r1, t0, t1⟩ := HR2.out.r
                  clear hei E2
                  go_wp2_with fail
                  exact bodyPost_msg Tryd.results14 rfl rfl (HR2.out.r.set _ _) rfl (MsgTo.no HN.out ((HR2.out.t.setCell (p := ⟨w.heap.size, 0, none⟩) (Nat.le_refl _) _).setCell (p := ⟨w.heap.size, 1, none⟩) (Nat.le_refl _) _))
                · have HD2 : Hid (MsgR l ask (es ++ [e])) := Lib.hid (by
                    rcases hei with ⟨_, g, h⟩ | ⟨h, _⟩
                    · exact HR.out.d.more H25.out (by have := HQ.out; omega) g h
                    · cases h)
                  obtain ⟨_, r0, r1, s0, s1⟩ := HR2.out.b
                  obtain ⟨⟨c0, c1, c2, c3, c4⟩, _⟩ := id E2
                  simp only [Nat.zero_add] at c0 c1 c2 c3 c4
                  have hes : es.length ≤ 25 := HR.out.d.good.few
                  clear hei E2
                  go_wp2_with (at_builtin; refine wpList_plain rfl fun _ hK => wp_append_E _ _ rfl (w.heap.size + 3) (.slice p m cc) es e (w1.heap.size + 1) 1 rfl rfl ?q1 ?q2 (by omega) ?q3 ?_)
                  case q1 => exact HR2.out.o.keep ((Below.refl _ _).alloc (Nat.le_refl _) _)
                  case q2 => have := (EBox.new (w1.alloc (.cells #[.int .u32 (e.a : Int), .int .i64 e.n, .int .i64 e.t, .int .u32 (e.h : Int), .int .i64 e.m] 49)) e 49).seen; rw [z2] at this; exact this
                  case q3 => exact Nat.le_trans HR2.out.size (by simp)
                  intro v' w' ho ha
                  refine hK _ _ ?_
                  clear hK
                  obtain ⟨p', c', hv', -, -⟩ := ho.arg
                  rw [List.length_append, List.length_singleton] at hv'
                  subst hv'
                  have HR3 := Lib.hid (HR2.out.kept ((Below.refl _ _).alloc (Nat.le_refl _) (.cells #[.int .u32 (e.a : Int), .int .i64 e.n, .int .i64 e.t, .int .u32 (e.h : Int), .int .i64 e.m] 49)))
                  have HR4 := Lib.hid (HR3.out.more ha ho HD2.out)
                  have hb4 : Box w' (w.heap.size + 2) (.bool ask) (.slice p m cc) := HR3.out.b.app ha (fun e => by have := (HR3.out.o.lt _ e).1; omega)
                  obtain ⟨_, r0', r1', s0', s1'⟩ := hb4
                  clear c0 c1 c2 c3 c4 r0 r1 s0 s1 ho ha z2
                  go_wp2_with fail
                  go_roundw
                  case rel => exact ⟨q + 20, by go_num, by omega, es ++ [e], p', es.length + 1, c', Lib.hid (by rw [List.length_append, List.length_singleton]; have := HQ.out; omega), HR4⟩
                  case measure => simp [RowKit.intOf]; omega
          · have hk' : ¬ (q : Int) < l.length := by omega
            have HN := Lib.hid (HR.out.d.all (by have := HQ.out; omega))
            clear hm
            go_wp2_with fail
            refine bodyPost_msg Tryd.results14 rfl rfl (HR.out.r.set _ _) rfl ⟨ask, _, es, 0, rfl, HN.out, ?_, (HR.out.t.setCell (p := ⟨w.heap.size, 0, none⟩) (Nat.le_refl _) _).setCell (p := ⟨w.heap.size, 1, none⟩) (Nat.le_refl _) _⟩
            have hn0 : (Value.slice p m cc).ownBlock ≠ some w.heap.size := fun e => by have := (HR.out.o.lt _ e).1; omega
            exact OwnE.down (b := w.heap.size) (ownsRow_setCell_other (ownsRow_setCell_other HR.out.o (a := ⟨w.heap.size, 0, none⟩) hn0 _) (a := ⟨w.heap.size, 1, none⟩) hn0 _) (by omega)

set_option maxHeartbeats 1000000 in
set_option maxRecDepth 100000 in
theorem msgOf_none (w : World) (p : Option Addr) (c : Nat) : Calls Tryd.prog 14 #[.slice p 0 c] w (MsgTo w []) := by
  have r0 := Box.new w (.bool false) (.slice none 0 0) 24
  have b0 := (Below.refl w.heap.size w).alloc (Nat.le_refl _) (.cells #[.bool false, .slice none 0 0] 24)
  have b1 := (Below.refl _ (w.alloc (.cells #[.bool false, .slice none 0 0] 24))).alloc (Nat.le_refl _) (.cells #[.int .u8 2, .int .u8 2, .int .u8 0, .int .u8 0] 5)
  have HR1 := Lib.hid (r0.kept b1); have HB1 := Lib.hid (Below.two b0 b1)
  obtain ⟨_, q0, q1, p0, p1⟩ := HR1.out
  have HN := Lib.hid ((HeadTo.zero []).short (by simp) (by simp))
  clear r0 b0 b1
  go_enter Tryd.func14, Tryd.ntmps14
  go_wp2_with fail
  refine wp_loop_rounds 1 ?_
  rw [rounds_succ]
  go_wp2_with fail
  exact bodyPost_msg Tryd.results14 rfl rfl HR1.out rfl (MsgTo.no HN.out HB1.out)
/-- The document's MessageOf at every list of bytes. -/
theorem msgOf_any (w : World) (v : Value) (l : List Nat) (hn : l.length < 4611686018427387904) (hb : Byt l) (h : ArgB w v l) (hEnt : EntAll) : Calls Tryd.prog 14 #[v] w (MsgTo w l) := by
  obtain ⟨p, c, rfl, hc, h⟩ := h
  rcases h with rfl | ⟨b, off, rfl, hlt, hs⟩
  · exact msgOf_none w p c
  · by_cases hpos : 0 < l.length
    · exact msgOf_some w b off c l hn hc hb hlt hs hpos hEnt
    · have e : l = [] := List.length_eq_zero_iff.1 (by omega)
      subst e
      exact msgOf_none w _ c
end Go.Proofs.YtlgkjbkbdmneaaaDoor
