/-
  wire.read at every whole number of entries' bytes; what lay in memory stays.
-/
import Derived.Test.YtlgkjbkbdmneaaaDoorWireEnt
import Derived.Test.YtlgkjbkbdmneaaaDoorWireEnc
import Derived.Test.YtlgkjbkbdmneaaaDoorByteClone
import Derived.Test.YtlgkjbkbdmneaaaDoorBoxSet
import Derived.LoopN
namespace Go.Proofs.YtlgkjbkbdmneaaaDoor
open Go.RowKit Go.Lib

/-- What lies in memory while bytes are read: the result's block, the message's block, the entries that were read. -/
structure Reads (w : World) (f : List Nat) (ask : Bool) (wr : World) (es : List En) (p : Option Addr) (m c : Nat) : Prop where
  r : Box wr w.heap.size (.bool false) (.slice none 0 0)
  b : Box wr (w.heap.size + 1) (.bool ask) (.slice p m c)
  o : OwnE wr (w.heap.size + 2) (.slice p m c) es
  d : Rd f es
  t : Below w.heap.size w wr
theorem Reads.size {w wr : World} {f : List Nat} {ask : Bool} {es : List En} {p : Option Addr} {m c : Nat} (h : Reads w f ask wr es p m c) : w.heap.size + 2 ≤ wr.heap.size := h.b.lt
theorem Reads.kept {w wr w1 : World} {f : List Nat} {ask : Bool} {es : List En} {p : Option Addr} {m c : Nat} (h : Reads w f ask wr es p m c) (hb : Below wr.heap.size wr w1) : Reads w f ask w1 es p m c :=
  ⟨h.r.kept hb, h.b.kept hb, h.o.keep hb, h.d, Below.two h.t hb⟩
theorem Reads.len {w wr : World} {f : List Nat} {ask : Bool} {es : List En} {p : Option Addr} {m c : Nat} (h : Reads w f ask wr es p m c) : m = es.length := by
  obtain ⟨p', c', e, _⟩ := h.o.arg
  injection e
theorem Reads.more {w wr w1 : World} {f : List Nat} {ask : Bool} {es : List En} {e : En} {p p' : Option Addr} {m c m' c' : Nat} (h : Reads w f ask wr es p m c) (ha : AppTo wr (.slice p m c) w1 (.slice p' m' c')) (ho : OwnE w1 (w.heap.size + 2) (.slice p' m' c') (es ++ [e])) (hd : Rd f (es ++ [e])) :
    Reads w f ask (w1.setCell ⟨w.heap.size + 1, 1, none⟩ (.slice p' m' c')) (es ++ [e]) p' m' c' := by
  have hlt : ∀ j, (Value.slice p m c).ownBlock = some j → w.heap.size + 2 ≤ j := fun j hj => (h.o.lt j hj).1
  have hs := h.size
  have n0 : (Value.slice p m c).ownBlock ≠ some w.heap.size := fun e => by have := hlt _ e; omega
  have n1 : (Value.slice p m c).ownBlock ≠ some (w.heap.size + 1) := fun e => by have := hlt _ e; omega
  have m1 : (Value.slice p' m' c').ownBlock ≠ some (w.heap.size + 1) := ha.ne h.b.lt n1
  have b1 := ha.below hlt hs
  exact ⟨(h.r.app ha n0).past (by omega) _ _, (h.b.app ha n1).put1 _, ownsRow_setCell_other ho (a := ⟨w.heap.size + 1, 1, none⟩) m1 _, hd, (h.t.trans (b1.mono (by omega))).setCell (p := ⟨w.heap.size + 1, 1, none⟩) (by simp only; omega) _⟩

theorem Reads.start {w : World} {f : List Nat} {ask : Bool} (h : Done f) : Reads w f ask ((w.alloc (.cells #[.bool false, .slice none 0 0] 24)).alloc (.cells #[.bool ask, .slice none 0 0] 24)) [] none 0 0 := by
  obtain ⟨h1, h2, h3⟩ := box2 (w := w) (x := .bool false) (y := .slice none 0 0) (x' := .bool ask) (y' := .slice none 0 0) (T := 24) (T' := 24) (Below.refl _ _)
  exact ⟨h1, h2, OwnE.nil _ _, Rd.nil h, h3⟩

def ReadTo (w : World) (f : List Nat) (x : Ending) (w' : World) : Prop := ∃ ask v l k, x = .returned (.tuple #[.agg #[.bool ask, v], errV k]) ∧ RdIs f ask l k ∧ OwnE w' w.heap.size v l ∧ Below w.heap.size w w'
theorem ReadTo.no {w w' : World} {f : List Nat} (h : ¬ IsEnc f) (hb : Below w.heap.size w w') : ReadTo w f (.returned (.tuple #[.agg #[.bool false, .slice none 0 0], .iface 27 (.int .i64 3)])) w' :=
  ⟨false, _, [], 3, rfl, Or.inr ⟨rfl, rfl, rfl, h⟩, OwnE.nil _ _, hb⟩

set_option maxHeartbeats 1000000 in
set_option maxRecDepth 100000 in
theorem read_any (w : World) (b off c : Nat) (f : List Nat) (hd : Done f) (hf : f.length ≤ 504) (hb : Byt f) (hlt : b < w.heap.size) (hs : SeenB w b off f) (hc : f.length ≤ c) :
    Calls Tryd.prog 31 #[.slice (some ⟨b, off, none⟩) f.length c] w (ReadTo w f) := by
  have c00 := hs 0 (by have := hd.1; omega)
  obtain ⟨ask, hask⟩ : ∃ ask, decide (f[0]! = 1) = ask := ⟨_, rfl⟩
  have ha : ((f[0]! : Int) == 1) = ask := by
    rw [← hask]
    by_cases h : f[0]! = 1
    · rw [h]; rfl
    · rw [decide_eq_false h]
      have : ¬ (f[0]! : Int) = 1 := by omega
      simpa using this
  rw [Nat.add_zero] at c00
  have h4 := hd.1
  have HD := Lib.hid hd; have HY := Lib.hid hb; have HS := Lib.hid hs; have HK := Lib.hid hask
  generalize f[0]! = x0 at c00 ha
  clear hs hb hd hask
  go_enter Tryd.func31, Tryd.ntmps31
  go_wp2_with fail
  go_loopw [5] (fun vk wr => ∃ (q : Nat), vk = .int .i64 (q : Int) ∧ q ≤ f.length ∧ ∃ (es : List En) (p : Option Addr) (m c : Nat), Hid (q = 4 + 20 * es.length) ∧ Hid (Reads w f ask wr es p m c)) (fun vk _ => 1000 - (RowKit.intOf vk).toNat)
  case atStart => exact ⟨4, rfl, h4, [], none, 0, 0, Lib.hid rfl, Lib.hid (Reads.start HD.out)⟩
  case round =>
    clear c00 ha
    obtain ⟨q, rfl, hq, es, p, m, cc, HQ, HR⟩ := hrel
    have hlt2 : b < wr.heap.size := Nat.lt_of_lt_of_le hlt HR.out.t.size
    by_cases hk : q < f.length
    · have h20 : q + 20 ≤ f.length := by have := HD.out.2; have := HQ.out; omega
      have hcl : (chunk f es.length).length = 20 := chunk_len f es.length (by rw [← HQ.out]; exact h20)
      have hcs : SeenB wr b (off + q) (chunk f es.length) := by
        have := (HS.out.below HR.out.t hlt).sub (4 + 20 * es.length) 20
        rw [← HQ.out] at this
        unfold chunk
        rw [← HQ.out]
        exact this
      cases hr : rdE (chunk f es.length) with
      | none =>
        have HN := Lib.hid (readEntry_no wr b (off + q) (c - q) (chunk f es.length) hcl (by omega) (HY.out.sub _ _) hlt2 hcs hr)
        have HI := Lib.hid (rd_none (by rw [← HQ.out]; exact h20) hr)
        clear hcl hcs hr
        go_wp2_with fail
        rw [show q + 20 - q = 20 by omega]
        refine HN.out.mono ?_
        rintro x w1 ⟨rfl, hb1⟩
        unfold En.v
        have HR2 := (HR.out.kept hb1).kept ((Below.refl _ w1).alloc (Nat.le_refl _) (.cells #[.int .u32 0, .int .i64 0, .int .i64 0, .int .u32 0, .int .i64 0] 49))
        obtain ⟨_, r0, r1, s0, s1⟩ := HR2.r
        clear hb1 HN
        go_wp2_with fail
        exact bodyPost_msg Tryd.results31 rfl rfl (HR2.r.set _ _) rfl (ReadTo.no HI.out ((HR2.t.setCell (p := ⟨w.heap.size, 0, none⟩) (Nat.le_refl _) _).setCell (p := ⟨w.heap.size, 1, none⟩) (Nat.le_refl _) _))
      | some e =>
        have HN := Lib.hid (readEntry_yes wr b (off + q) (c - q) (chunk f es.length) e hcl (by omega) (HY.out.sub _ _) hlt2 hcs hr)
        have HD2 := Lib.hid (HR.out.d.snoc (by rw [← HQ.out]; exact h20) hr)
        clear hcl hcs hr
        go_wp2_with fail
        rw [show q + 20 - q = 20 by omega]
        refine HN.out.mono ?_
        rintro x w1 ⟨rfl, hb1⟩
        unfold En.v
        have HR1 := HR.out.kept hb1
        have B2 := (Below.refl _ w1).alloc (Nat.le_refl _) (.cells #[.int .u32 (e.a : Int), .int .i64 e.n, .int .i64 e.t, .int .u32 (e.h : Int), .int .i64 e.m] 49)
        have HR2 := HR1.kept B2
        have E2 := EBox.new w1 e 49
        have z2 : (w1.alloc (.cells #[.int .u32 (e.a : Int), .int .i64 e.n, .int .i64 e.t, .int .u32 (e.h : Int), .int .i64 e.m] 49)).heap.size = w1.heap.size + 1 := by simp
        obtain ⟨_, r0, r1, s0, s1⟩ := HR2.b
        obtain ⟨⟨c0, c1, c2, c3, c4⟩, _⟩ := id E2
        simp only [Nat.zero_add] at c0 c1 c2 c3 c4
        have HR2' := Lib.hid HR2
        clear hb1 HN B2 HR1 HR2 E2
        have hes : es.length ≤ 25 := by have := HQ.out; omega
        go_wp2_with (at_builtin; refine wpList_plain rfl fun _ hK => wp_append_E _ _ rfl (w.heap.size + 2) (.slice p m cc) es e (w1.heap.size + 1) 1 rfl rfl ?q1 ?q2 (by omega) ?q3 ?_)
        case q1 => exact HR2'.out.o.keep ((Below.refl _ _).alloc (Nat.le_refl _) _)
        case q2 => have := (EBox.new (w1.alloc (.cells #[.int .u32 (e.a : Int), .int .i64 e.n, .int .i64 e.t, .int .u32 (e.h : Int), .int .i64 e.m] 49)) e 49).seen; rw [z2] at this; exact this
        case q3 => exact Nat.le_trans HR2'.out.size (by simp)
        intro v' w' ho ha
        refine hK _ _ ?_
        clear hK
        obtain ⟨p', c', rfl, _, _⟩ := ho.arg
        have HR3 := Lib.hid (HR2'.out.kept ((Below.refl _ _).alloc (Nat.le_refl _) (.cells #[.int .u32 (e.a : Int), .int .i64 e.n, .int .i64 e.t, .int .u32 (e.h : Int), .int .i64 e.m] 49)))
        have HR4 := Lib.hid (HR3.out.more ha ho HD2.out)
        have hb4 : Box w' (w.heap.size + 1) (.bool ask) (.slice p m cc) := HR3.out.b.app ha (fun e => by have := (HR3.out.o.lt _ e).1; omega)
        obtain ⟨_, r0', r1', s0', s1'⟩ := hb4
        clear c0 c1 c2 c3 c4 r0 r1 s0 s1 ho ha z2
        go_wp2_with fail
        go_roundw
        case rel => exact ⟨q + 20, by go_num, by omega, es ++ [e], p', es.length + 1, c', Lib.hid (by rw [List.length_append, List.length_singleton]; have := HQ.out; omega), by simpa only [List.length_append, List.length_singleton] using HR4⟩
        case measure => simp [RowKit.intOf]; omega
    · have HW := Lib.hid (show f.length = 4 + 20 * es.length by have := HQ.out; omega)
      have hes : es.length ≤ 25 := by have := HW.out; omega
      obtain ⟨_, r0, r1, s0, s1⟩ := HR.out.b
      by_cases hg : WireP.chkM es = 0
      · have g := (GoodM.iff es (HR.out.d.fits HY.out)).1 hg
        have HC := Lib.hid (encode_ok wr ask (.slice p m cc) es HR.out.o.arg g)
        have HG := Lib.hid g
        clear g hg
        go_wp2_with fail
        refine HC.out.mono ?_
        rintro x w1 ⟨v1, rfl, o1, hb1⟩
        have HR2 := Lib.hid (HR.out.kept hb1)
        obtain ⟨p1, c1, rfl, _, h1⟩ := o1.arg
        obtain ⟨g1, off1, rfl, hg1, hs1⟩ : ∃ b off, p1 = some ⟨b, off, none⟩ ∧ b < w1.heap.size ∧ SeenB w1 b off (enc ask es) := by
          rcases h1 with h1 | h1
          · have := congrArg List.length h1; rw [enc_len] at this; simp at this
          · exact h1
        have HE := Lib.hid (equalB w1 g1 off1 c1 b off c (enc ask es) f hs1 (HS.out.below HR2.out.t hlt) (Byt.enc HG.out ask) HY.out)
        clear hb1 HC o1 h1 hs1 r0 r1 s0 s1
        by_cases he : enc ask es = f
        · rw [decide_eq_true he] at HE
          have HT := Lib.hid he
          clear he
          go_wp2_with fail
          refine HE.out.mono ?_
          rintro x w2 ⟨rfl, rfl⟩
          obtain ⟨_, r0, r1, s0, s1⟩ := HR2.out.b
          obtain ⟨_, u0, u1, t0, t1⟩ := HR2.out.r
          clear HE
          go_wp2_with fail
          refine bodyPost_msg Tryd.results31 rfl rfl (HR2.out.r.set _ _) rfl ⟨ask, _, es, 0, rfl, Or.inl ⟨rfl, HG.out, HT.out.symm⟩, ?_, (HR2.out.t.setCell (p := ⟨w.heap.size, 0, none⟩) (Nat.le_refl _) _).setCell (p := ⟨w.heap.size, 1, none⟩) (Nat.le_refl _) _⟩
          have hn0 : (Value.slice p m cc).ownBlock ≠ some w.heap.size := fun e => by have := (HR2.out.o.lt _ e).1; omega
          exact OwnE.down (b := w.heap.size) (ownsRow_setCell_other (ownsRow_setCell_other HR2.out.o (a := ⟨w.heap.size, 0, none⟩) hn0 _) (a := ⟨w.heap.size, 1, none⟩) hn0 _) (by omega)
        · rw [decide_eq_false he] at HE
          have HI := Lib.hid (HR2.out.d.other HW.out (by rw [HK.out]; exact he))
          clear he
          go_wp2_with fail
          refine HE.out.mono ?_
          rintro x w2 ⟨rfl, rfl⟩
          obtain ⟨_, u0, u1, t0, t1⟩ := HR2.out.r
          clear HE
          go_wp2_with fail
          exact bodyPost_msg Tryd.results31 rfl rfl (HR2.out.r.set _ _) rfl (ReadTo.no HI.out ((HR2.out.t.setCell (p := ⟨w.heap.size, 0, none⟩) (Nat.le_refl _) _).setCell (p := ⟨w.heap.size, 1, none⟩) (Nat.le_refl _) _))
      · have HC := Lib.hid (encode_bad wr ask (.slice p m cc) es (by omega) HR.out.o.arg (HR.out.d.fits HY.out) hg)
        have HI := Lib.hid (HR.out.d.bad HW.out hg)
        have hE : errV (WireP.chkM es) = .iface 27 (.int .i64 (WireP.chkM es)) := if_neg hg
        rw [hE] at HC
        clear hE hg
        generalize WireP.chkM es = qq at HC
        go_wp2_with fail
        refine HC.out.mono ?_
        rintro x w1 ⟨rfl, hb1⟩
        have HR2 := HR.out.kept hb1
        clear r0 r1 s0 s1
        obtain ⟨_, r0, r1, s0, s1⟩ := HR2.r
        clear hb1 HC
        go_wp2_with fail
        exact bodyPost_msg Tryd.results31 rfl rfl (HR2.r.set _ _) rfl (ReadTo.no HI.out ((HR2.t.setCell (p := ⟨w.heap.size, 0, none⟩) (Nat.le_refl _) _).setCell (p := ⟨w.heap.size, 1, none⟩) (Nat.le_refl _) _))
end Go.Proofs.YtlgkjbkbdmneaaaDoor
