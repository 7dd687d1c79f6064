/-
  wire.Decode at every list of bytes; what lay in memory stays.
-/
import Derived.Test.YtlgkjbkbdmneaaaDoorWireBody
import Derived.Test.YtlgkjbkbdmneaaaDoorWireNext
namespace Go.Proofs.YtlgkjbkbdmneaaaDoor
open Go.RowKit Go.Lib

def DecTo (w : World) (b : List Nat) (x : Ending) (w' : World) : Prop := ∃ ask v l k, x = .returned (.tuple #[.agg #[.bool ask, v], errV k]) ∧ DecIs b ask l k ∧ OwnE w' w.heap.size v l ∧ Below w.heap.size w w'
theorem DecTo.no {w w' : World} {b : List Nat} {k : Int} (hk : k ≠ 0) (h : DecIs b false [] k) (hb : Below w.heap.size w w') : DecTo w b (.returned (.tuple #[.agg #[.bool false, .slice none 0 0], .iface 27 (.int .i64 k)])) w' :=
  ⟨false, _, [], k, by rw [show errV k = .iface 27 (.int .i64 k) from if_neg hk], h, OwnE.nil _ _, hb⟩

set_option maxHeartbeats 1000000 in
set_option maxRecDepth 100000 in
theorem decode_long (w : World) (p : Option Addr) (c : Nat) (l : List Nat) (hn : l.length < 4611686018427387904) (h : 504 < l.length) :
    Calls Tryd.prog 15 #[.slice p l.length c] w (DecTo w l) := by
  have h' : (504 : Int) < l.length := by omega
  have b0 := Box.new w (.bool false) (.slice none 0 0) 24
  have HT := Lib.hid ((Below.refl w.heap.size w).alloc (Nat.le_refl _) (.cells #[.bool false, .slice none 0 0] 24))
  have HB := Lib.hid b0
  clear b0
  go_enter Tryd.func15, Tryd.ntmps15
  go_wp2_with fail
  exact bodyPost_msg Tryd.results15 rfl rfl HB.out rfl (DecTo.no (by decide) (dec_long h) HT.out)

set_option maxHeartbeats 1000000 in
set_option maxRecDepth 100000 in
theorem decode_few (w : World) (v : Value) (l : List Nat) (hl : l.length ≤ 504) (hb : Byt l) (h : ArgB w v l) :
    Calls Tryd.prog 15 #[v] w (DecTo w l) := by
  have b0 := Box.new w (.bool false) (.slice none 0 0) 24
  have t0 := (Below.refl w.heap.size w).alloc (Nat.le_refl _) (.cells #[.bool false, .slice none 0 0] 24)
  have HC := Lib.hid (complete_any _ v l (h.below t0) hl)
  obtain ⟨p, c, rfl, hc, _⟩ := h
  have h' : ¬ (504 : Int) < l.length := by omega
  have HT := Lib.hid t0; have HB := Lib.hid b0; have HY := Lib.hid hb
  clear b0 t0 hb
  go_enter Tryd.func15, Tryd.ntmps15
  go_wp2_with fail
  refine HC.out.mono ?_
  rintro x w1 ⟨v1, rfl, f, o1, fl, hd, hb1⟩
  obtain ⟨p1, c1, rfl, hc1, h1⟩ := o1.arg
  obtain ⟨g, off, rfl, hg, hs⟩ : ∃ b off, p1 = some ⟨b, off, none⟩ ∧ b < w1.heap.size ∧ SeenB w1 b off f := by
    rcases h1 with h1 | h1
    · have := hd.1; rw [h1] at this; simp at this
    · exact h1
  have HR := Lib.hid (read_any w1 g off c1 f hd fl.few (fl.byt HY.out) hg hs hc1)
  have hB1 := HB.out.kept hb1
  have T1 := Below.two HT.out hb1
  have HF := Lib.hid fl; have HD := Lib.hid hd; have HB1 := Lib.hid hB1; have HT1 := Lib.hid T1
  have hf1 := fl.few; have hf2 := fl.le.length_le
  clear hb1 o1 h1 hs HC hB1 T1 fl hd
  go_wp2_with fail
  refine HR.out.mono ?_
  rintro x w2 ⟨ask, v2, es, k, rfl, hr, o2, hb2⟩
  obtain ⟨p2, c2, rfl, _, _⟩ := o2.arg
  have told := HF.out.told HD.out hr
  have HB2 := Lib.hid (HB1.out.kept hb2)
  have HT2 := Lib.hid (Below.two HT1.out hb2)
  have HO2 := Lib.hid o2
  have hz2 := HB1.out.lt
  clear hb2 o2 HR HB1 HT1
  have B3 := (Below.refl _ w2).alloc (Nat.le_refl _) (.cells #[.bool ask, .slice p2 es.length c2] 24)
  have HB3 := Lib.hid (HB2.out.kept B3)
  have HT3 := Lib.hid (Below.two HT2.out B3)
  have HO3 := Lib.hid (HO2.out.keep B3)
  have HM3 := Lib.hid (Box.new w2 (.bool ask) (.slice p2 es.length c2) 24)
  obtain ⟨_, r0, r1, s0, s1⟩ := HB3.out
  obtain ⟨_, u0, u1, _, _⟩ := HM3.out
  have hz1 := HT2.out.size
  clear B3 HO2 HB2
  rcases hr with ⟨rfl, hg, he⟩ | ⟨rfl, -, -, hn⟩
  · have HK1 := Lib.hid (told.2.1 rfl)
    have HK2 := Lib.hid (told.2.2 rfl)
    clear told he hg
    rw [show errV 0 = Value.nilIface from rfl]
    by_cases hlt : l.length < f.length
    · have h2 : (l.length : Int) < f.length := by omega
      go_wp2_with fail
      exact bodyPost_msg Tryd.results15 rfl rfl (HB3.out.set _ _) rfl (DecTo.no (by decide) (HK1.out hlt) ((HT3.out.setCell (p := ⟨w.heap.size, 0, none⟩) (Nat.le_refl _) _).setCell (p := ⟨w.heap.size, 1, none⟩) (Nat.le_refl _) _))
    · have h2 : ¬ (l.length : Int) < f.length := by omega
      go_wp2_with fail
      refine bodyPost_msg Tryd.results15 rfl rfl (HB3.out.set _ _) rfl ⟨ask, _, es, 0, rfl, HK2.out hlt, ?_, (HT3.out.setCell (p := ⟨w.heap.size, 0, none⟩) (Nat.le_refl _) _).setCell (p := ⟨w.heap.size, 1, none⟩) (Nat.le_refl _) _⟩
      have hn0 : (Value.slice p2 es.length c2).ownBlock ≠ some w.heap.size := fun e => by have := (HO3.out.lt _ e).1; omega
      exact OwnE.down (b := w.heap.size) (ownsRow_setCell_other (ownsRow_setCell_other HO3.out (a := ⟨w.heap.size, 0, none⟩) hn0 _) (a := ⟨w.heap.size, 1, none⟩) hn0 _) (by omega)
  · have HK := Lib.hid (told.1 rfl)
    clear told hn
    rw [show errV 3 = Value.iface 27 (.int .i64 3) from rfl]
    go_wp2_with fail
    refine bodyPost_msg Tryd.results15 rfl rfl (HB3.out.set _ _) rfl ?_
    exact DecTo.no (by decide) HK.out ((HT3.out.setCell (p := ⟨w.heap.size, 0, none⟩) (Nat.le_refl _) _).setCell (p := ⟨w.heap.size, 1, none⟩) (Nat.le_refl _) _)

/-- wire.Decode at every list of bytes. -/
theorem decode_any (w : World) (v : Value) (l : List Nat) (hn : l.length < 4611686018427387904) (hb : Byt l) (h : ArgB w v l) :
    Calls Tryd.prog 15 #[v] w (DecTo w l) := by
  by_cases hl : l.length ≤ 504
  · exact decode_few w v l hl hb h
  · obtain ⟨p, c, rfl, hc, _⟩ := h
    exact decode_long w p c l hn (by omega)
end Go.Proofs.YtlgkjbkbdmneaaaDoor
