/-
  slices.DeleteFunc at links of which one is to go, and graph.Cut at every nodes and links; what lay in memory stays.
-/
import Derived.Test.YtjgmehmhhplkaaaGraphDel
import Derived.Test.YtjgmehmhhplkaaaGraphCheck
namespace Go.Proofs.Ytjgmehmhhplkaaa
open Go.RowKit Go.Lib

theorem idxK_spec (a b : Int) : ∀ (l : List Lk) (k : Nat), (idxK a b l k = -1 ∧ ∀ x ∈ l, bond a b x = false) ∨ ∃ j, j < l.length ∧ idxK a b l k = ((k + j : Nat) : Int) ∧ bond a b l[j]! = true
  | [], _ => Or.inl ⟨rfl, by simp⟩
  | x :: r, k => by
    by_cases h : bond a b x = true
    · exact Or.inr ⟨0, by simp, by rw [idxK, if_pos h]; rfl, by simpa using h⟩
    · rcases idxK_spec a b r (k + 1) with ⟨e, ha⟩ | ⟨j, hj, e, ht⟩
      · refine Or.inl ⟨by rw [idxK, if_neg h, e], fun y hy => ?_⟩
        rcases List.mem_cons.1 hy with rfl | hy
        · simpa using h
        · exact ha y hy
      · refine Or.inr ⟨j + 1, by simpa using hj, ?_, by simpa using ht⟩
        rw [idxK, if_neg h, e]
        congr 1
        omega
theorem less_none (a b : Int) (l : List Lk) (h : ∀ x ∈ l, bond a b x = false) : less l a b = l := by
  unfold less
  rw [List.filter_eq_self]
  intro x hx
  simp [h x hx]
/-- In right links one link at most lies between two nodes. -/
theorem less_one (n a b : Int) : ∀ (l : List Lk) (j : Nat), Right n l → j < l.length → bond a b l[j]! = true → less l a b = l.eraseIdx j ∧ ∀ i, i < l.length → i ≠ j → bond a b l[i]! = false
  | x :: r, 0, hR, _, ht => by
    have hx : bond a b x = true := by simpa using ht
    have hr : ∀ y ∈ r, bond a b y = false := fun y hy => by
      have h1 := (List.pairwise_cons.1 hR.2).1 y hy
      cases h2 : bond a b y with
      | false => rfl
      | true =>
        have := tie_other a b y x h2 hx
        rw [h1] at this
        cases this
    refine ⟨?_, fun i hi hne => ?_⟩
    · have := less_none a b r hr
      unfold less at this ⊢
      rw [List.filter_cons, hx]
      simpa using this
    · obtain ⟨i, rfl⟩ : ∃ i', i = i' + 1 := ⟨i - 1, by omega⟩
      have hi' : i < r.length := by simpa using hi
      rw [show (x :: r)[i + 1]! = r[i]! by simp, getElem!_pos r i hi']
      exact hr _ (List.getElem_mem hi')
  | x :: r, j + 1, hR, hj, ht => by
    have hR' : Right n r := ⟨fun y hy => hR.1 y (by simp [hy]), (List.pairwise_cons.1 hR.2).2⟩
    have hj' : j < r.length := by simpa using hj
    have ht' : bond a b r[j]! = true := by simpa using ht
    obtain ⟨e, hall⟩ := less_one n a b r j hR' hj' ht'
    have hx : bond a b x = false := by
      cases h2 : bond a b x with
      | false => rfl
      | true =>
        have h1 := (List.pairwise_cons.1 hR.2).1 r[j]! (by rw [getElem!_pos r j hj']; exact List.getElem_mem hj')
        have := tie_other a b r[j]! x ht' h2
        rw [h1] at this
        cases this
    refine ⟨?_, fun i hi hne => ?_⟩
    · unfold less at e ⊢
      rw [List.filter_cons, hx, List.eraseIdx_cons_succ, ← e]
      rfl
    · cases i with
      | zero => simpa using hx
      | succ i =>
        have := hall i (by simpa using hi) (by omega)
        simpa using this

set_option maxHeartbeats 1000000 in
set_option maxRecDepth 100000 in
theorem delK_no (w : World) (v : Value) (f : Value) (h : Calls Try.prog 44 #[v, f] w fun e w' => e = .returned (.int .i64 (-1)) ∧ Below w.heap.size w w') :
    Calls Try.prog 29 #[v, f] w fun e w' => e = .returned v ∧ Below w.heap.size w w' := by
  have H := Lib.hid h; clear h
  go_enter Try.func29, Try.ntmps29
  go_wp2_with fail
  refine H.out.mono ?_
  rintro e w1 ⟨rfl, hb1⟩
  go_wp2_with fail
  go_ret
  exact ⟨rfl, hb1⟩
/-- The links without the one at idx. -/
def erF (l : List Lk) (idx t : Nat) : Lk := if idx ≤ t then l[t + 1]! else l[t]!
theorem row_step (l : List Lk) (idx i : Nat) (hi : idx ≤ i) (t : Nat) : (if t = i then l[i + 1]! else if idx ≤ t ∧ t < i then l[t + 1]! else l[t]!) = if idx ≤ t ∧ t < i + 1 then l[t + 1]! else l[t]! := by
  by_cases h : t = i
  · rw [if_pos h, if_pos (by omega), h]
  · rw [if_neg h]
    by_cases h2 : idx ≤ t ∧ t < i
    · rw [if_pos h2, if_pos (by omega)]
    · rw [if_neg h2, if_neg (by omega)]

set_option maxHeartbeats 1000000 in
set_option maxRecDepth 100000 in
theorem delK_yes (w : World) (base g cap pb idx : Nat) (a b : Int) (l : List Lk) (hn : l.length < 4611686018427387904) (hcap : l.length ≤ cap) (hidx : idx < l.length) (hpb : pb < base) (hbg : base ≤ g) (hbw : base ≤ w.heap.size) (hs : RowF w g l.length (fun i => l[i]!)) (hp : PairAt w pb a b)
    (he : idxK a b l 0 = idx) (hall : ∀ i, i < l.length → i ≠ idx → bond a b l[i]! = false) :
    Calls Try.prog 29 #[.slice (some ⟨g, 0, none⟩) l.length cap, .func (.func 31) #[] #[.pointer (some ⟨pb, 0, none⟩)]] w
      fun e w' => e = .returned (.slice (some ⟨g, 0, none⟩) (l.length - 1) cap) ∧ RowF w' g (l.length - 1) (erF l idx) ∧ Below base w w' := by
  have HI := indexK_some w g 0 cap pb a b l hn hs.lt (hs.seen l (Nat.le_refl _) (fun _ _ => rfl)) hp
  rw [he] at HI
  have HI := Lib.hid HI
  have HS := Lib.hid hs; clear hs
  have HP := Lib.hid hp; clear hp
  have HA := Lib.hid hall; clear hall
  clear he
  go_enter Try.func29, Try.ntmps29
  go_wp2_with fail
  refine HI.out.mono ?_
  rintro e w1 ⟨rfl, hb1⟩
  have HB1 := Lib.hid (hb1.mono hbw)
  have HS1 := Lib.hid (HS.out.keep hb1)
  clear hb1
  have t1 : ((idx : Int) == -1) = false := by simp
  go_wp2_with fail
  clear t1
  go_loopw [5, 6] (fun u v wr => ∃ (i j : Nat), u = .int .i64 i ∧ v = .int .i64 j ∧ Hid (j = i + 1 ∧ idx ≤ i) ∧ j ≤ l.length ∧ Hid (Below base w wr) ∧ Hid (RowF wr g l.length (fun t => if idx ≤ t ∧ t < i then l[t + 1]! else l[t]!))) (fun u _ _ => l.length - (RowKit.intOf u).toNat)
  case atStart => exact ⟨idx, idx + 1, rfl, by go_num, Lib.hid ⟨rfl, Nat.le_refl _⟩, by omega, HB1, Lib.hid (HS1.out.congr (Nat.le_refl _) fun t _ => by rw [if_neg (by omega)])⟩
  case round =>
    obtain ⟨i, j, rfl, rfl, HJ, hjl, hB, HR⟩ := hrel
    have hil : i < l.length := by have := HJ.out; omega
    by_cases hin : j < l.length
    · have s0 := HR.out.c0 j hin
      have s1 := HR.out.c1 j hin
      have s2 := HR.out.c2 j hin
      have hneg : ¬ (idx ≤ j ∧ j < i) := by have := HJ.out; omega
      rw [if_neg hneg] at s0 s1 s2
      have ht := HA.out j hin (by have := HJ.out; omega)
      have hst := Lib.hid (row_step l idx i HJ.out.2)
      rw [← HJ.out.1] at hst
      clear hneg
      generalize l[j]! = x at s0 s1 s2 ht hst
      have hA := (Below.refl wr.heap.size wr).alloc (Nat.le_refl _) (.cells #[.int .i64 x.1, .int .i64 x.2.1, .int .i64 x.2.2] 42)
      have P1 := HP.out.below (hB.out.alloc (Nat.le_trans hbw hB.out.size) (.cells #[.int .i64 x.1, .int .i64 x.2.1, .int .i64 x.2.2] 42)) hpb
      have HC := Lib.hid (cut1_any _ pb a b x P1.1 P1.2)
      rw [ht] at HC
      have HRA := Lib.hid (HR.out.keep hA)
      clear hA P1 ht
      go_wp2_with fail
      refine HC.out.mono ?_
      rintro e w3 ⟨rfl, hb3⟩
      obtain ⟨⟨l3, x0, x1, x2⟩, hB3⟩ := lk1 hb3
      have R3 := HR.out.keep hB3
      have HB3 := Lib.hid (hB.out.trans (hB3.mono (Nat.le_trans hbw hB.out.size)))
      have d0 := R3.c0 i hil
      have d1 := R3.c1 i hil
      have d2 := R3.c2 i hil
      have f0 := R3.fz (i * 3)
      have f1 := R3.fz (i * 3 + 1)
      have f2 := R3.fz (i * 3 + 2)
      have HR3 := Lib.hid R3
      clear s0 s1 s2 hb3 hB3 R3 HRA HC
      generalize (if idx ≤ i ∧ i < i then l[i + 1]! else l[i]!) = z at d0 d1 d2
      go_wp2_with fail
      go_roundw
      case rel =>
        refine ⟨i + 1, j + 1, by go_num, by go_num, Lib.hid (by have := HJ.out; omega), by omega, Lib.hid (below_set3 HB3.out hbg (i * 3) _ _ _), Lib.hid ((HR3.out.set i x).congr (Nat.le_refl _) fun t _ => (hst.out t).trans (by rw [HJ.out.1]))⟩
      case measure => simp [RowKit.intOf]; omega
    · have hl : l.length = i + 1 := by have := HJ.out; omega
      have hj : j = i + 1 := by omega
      have HF := Lib.hid (show RowF wr g i (erF l idx) from HR.out.congr (by omega) fun t ht => by
        unfold erF
        by_cases h : idx ≤ t
        · rw [if_pos ⟨h, ht⟩, if_pos h]
        · rw [if_neg (fun h' => h h'.1), if_neg h])
      have hcl : ∀ ty, (Builtin.clear_ #[22] ty #[.slice (some ⟨g, i * 3, none⟩) 1 (cap - i)]).run Try.prog wr = .ok (.tuple #[]) (((wr.setCell ⟨g, i * 3, none⟩ (.int .i64 0)).setCell ⟨g, i * 3 + 1, none⟩ (.int .i64 0)).setCell ⟨g, i * 3 + 2, none⟩ (.int .i64 0)) := fun ty => run_clear_one wr ty g (i * 3) (cap - i) (fun q hq => by
        match q, hq with
        | 0, _ => rw [Nat.add_zero, HR.out.c0 i hil]; rfl
        | 1, _ => rw [HR.out.c1 i hil]; rfl
        | 2, _ => rw [HR.out.c2 i hil]; rfl) HR.out.fz
      have HL := Lib.hid hl
      have HF2 := Lib.hid ((HF.out.set i (0, 0, 0)).congr (Nat.le_refl _) (f' := erF l idx) fun t ht => if_neg (by omega))
      clear HR HA HI HS HP HS1 HF
      rw [hl] at hcap hn hidx hjl hil hin ⊢
      subst hj
      clear hl
      go_wp2_with fail
      go_ret
      have e : l.length - 1 = i := by rw [HL.out]; rfl
      rw [e]
      exact ⟨rfl, HF2.out, below_set3 hB.out hbg (i * 3) _ _ _⟩
theorem erF_is (l : List Lk) (idx : Nat) (h : idx < l.length) (t : Nat) (ht : t < l.length - 1) : erF l idx t = (l.eraseIdx idx)[t]! := by
  have hlen : (l.eraseIdx idx).length = l.length - 1 := List.length_eraseIdx_of_lt h
  rw [getElem!_pos (l.eraseIdx idx) t (by omega), List.getElem_eraseIdx]
  unfold erF
  by_cases h2 : t < idx
  · rw [if_neg (by omega), dif_pos h2, getElem!_pos l t (by omega)]
  · rw [if_pos (by omega), dif_neg h2, getElem!_pos l (t + 1) (by omega)]

set_option maxHeartbeats 400000 in
set_option maxRecDepth 100000 in
theorem cut_bad (w : World) (n a b : Int) (v : Value) (l : List Lk) (hn : l.length < 4611686018427387904) (h : ArgK w v l) (hg : gBad n l ≠ 0) :
    Calls Try.prog 16 #[.int .i64 n, v, .int .i64 a, .int .i64 b] w fun e w' => e = .returned (.tuple #[.slice none 0 0, errV (gBad n l)]) ∧ Below w.heap.size w w' := by
  have hE : errV (gBad n l) = .iface 60 (.int .i64 (gBad n l)) := if_neg hg
  have HC := Lib.hid (gCheck_any w n v l hn h)
  rw [hE] at HC ⊢
  clear hE h
  generalize gBad n l = q at HC hg
  go_enter Try.func16, Try.ntmps16
  go_wp2_with fail
  refine HC.out.mono ?_
  rintro e w1 ⟨rfl, hb1⟩
  go_wp2_with fail
  go_ret2
  exact ⟨rfl, hb1⟩
/-- A list of links has as many as its slice says. -/
theorem ArgK.form {w : World} {v : Value} {l : List Lk} (h : ArgK w v l) : ∃ p c, v = .slice p l.length c := by
  obtain ⟨p, c, hv, _⟩ := h
  exact ⟨p, c, hv⟩
set_option maxHeartbeats 1000000 in
set_option maxRecDepth 100000 in
theorem cut_none (w : World) (n a b : Int) (v : Value) (l : List Lk) (hn : l.length * 24 ≤ 140737488355328) (h : ArgK w v l) (hg : gBad n l = 0) (hall : ∀ x ∈ l, bond a b x = false) :
    Calls Try.prog 16 #[.int .i64 n, v, .int .i64 a, .int .i64 b] w fun e w' => e = .returned (.tuple #[.slice none 0 0, .iface 60 (.int .i64 2)]) ∧ Below w.heap.size w w' := by
  have HC := gCheck_any w n v l (by omega) h
  rw [hg, show errV 0 = Value.nilIface from rfl] at HC
  have HC := Lib.hid HC
  have HK := Lib.hid h
  obtain ⟨p, c, rfl⟩ := h.form
  have HA := Lib.hid hall
  clear h hg hall
  go_enter Try.func16, Try.ntmps16
  go_wp2_with fail
  refine HC.out.mono ?_
  rintro e w1 ⟨rfl, hb1⟩
  have HB1 := Lib.hid hb1; clear hb1
  go_wp2_with fail
  refine (ends_any a b _).mono ?_
  rintro e w2 ⟨rfl, hb2⟩
  have HB2 := Lib.hid (Below.two HB1.out hb2); clear hb2
  have B3 := HB2.out.alloc HB2.out.size (.cells #[.int .i64 (min a b), .int .i64 (max a b)] 55)
  have HL := Lib.hid (cloneK_any _ _ l hn (HK.out.below B3))
  have HP : Hid (PairAt (w2.alloc (.cells #[.int .i64 (min a b), .int .i64 (max a b)] 55)) w2.heap.size a b) := Lib.hid ⟨by simp, by simp⟩
  have HB3 := Lib.hid B3; clear B3
  go_wp2_with fail
  refine HL.out.mono ?_
  rintro e w4 ⟨v4, rfl, hO4, hb4⟩
  obtain ⟨p4, c4, rfl⟩ := hO4.arg.form
  have HP4 := Lib.hid (HP.out.below hb4 HP.out.lt)
  have HB4 := Lib.hid (Below.two HB3.out hb4)
  have HD := Lib.hid (delK_no w4 (.slice p4 l.length c4) (.func (.func 31) #[] #[.pointer (some ⟨w2.heap.size, 0, none⟩)]) (by
    obtain ⟨p5, c5, e5, h5⟩ := hO4.arg
    cases e5
    rcases h5 with rfl | ⟨g, off, rfl, hg, hs⟩
    · exact indexK_none w4 _ _ _
    · have := indexK_some w4 g off c4 w2.heap.size a b l (by omega) hg hs HP4.out
      rcases idxK_spec a b l 0 with ⟨e, _⟩ | ⟨j, hj, _, ht⟩
      · rwa [e] at this
      · have h6 := HA.out l[j]! (by rw [getElem!_pos l j hj]; exact List.getElem_mem hj)
        rw [ht] at h6
        cases h6))
  clear hO4 hb4
  go_wp2_with fail
  refine HD.out.mono ?_
  rintro e w5 ⟨rfl, hb5⟩
  have HB5 := Lib.hid (Below.two HB4.out hb5); clear hb5
  go_wp2_with fail
  go_ret2
  exact ⟨rfl, HB5.out⟩

set_option maxHeartbeats 1000000 in
set_option maxRecDepth 100000 in
theorem cut_some (w : World) (n a b : Int) (v : Value) (l : List Lk) (idx : Nat) (hn : l.length * 24 ≤ 140737488355328) (h : ArgK w v l) (hg : gBad n l = 0) (hidx : idx < l.length) (he : idxK a b l 0 = idx) (hall : ∀ i, i < l.length → i ≠ idx → bond a b l[i]! = false) :
    Calls Try.prog 16 #[.int .i64 n, v, .int .i64 a, .int .i64 b] w fun e w' => ∃ g cap, w.heap.size ≤ g ∧ e = .returned (.tuple #[.slice (some ⟨g, 0, none⟩) (l.length - 1) cap, .nilIface]) ∧ RowF w' g (l.length - 1) (erF l idx) ∧ Below w.heap.size w w' := by
  have HC := gCheck_any w n v l (by omega) h
  rw [hg, show errV 0 = Value.nilIface from rfl] at HC
  have HC := Lib.hid HC
  have HK := Lib.hid h
  obtain ⟨p, c, rfl⟩ := h.form
  have HA := Lib.hid hall
  have HE := Lib.hid he
  clear h hg hall he
  have hne : l ≠ [] := fun e => by rw [e] at hidx; simp at hidx
  go_enter Try.func16, Try.ntmps16
  go_wp2_with fail
  refine HC.out.mono ?_
  rintro e w1 ⟨rfl, hb1⟩
  have HB1 := Lib.hid hb1; clear hb1
  go_wp2_with fail
  refine (ends_any a b _).mono ?_
  rintro e w2 ⟨rfl, hb2⟩
  have HB2 := Lib.hid (Below.two HB1.out hb2); clear hb2
  have B3 := HB2.out.alloc HB2.out.size (.cells #[.int .i64 (min a b), .int .i64 (max a b)] 55)
  have HL := Lib.hid (cloneK_any _ _ l hn (HK.out.below B3))
  have HP : Hid (PairAt (w2.alloc (.cells #[.int .i64 (min a b), .int .i64 (max a b)] 55)) w2.heap.size a b) := Lib.hid ⟨by simp, by simp⟩
  have HB3 := Lib.hid B3; clear B3
  go_wp2_with fail
  refine HL.out.mono ?_
  rintro e w4 ⟨v4, rfl, hO4, hb4⟩
  have HP4 := Lib.hid (HP.out.below hb4 HP.out.lt)
  have HB4 := Lib.hid (Below.two HB3.out hb4)
  obtain ⟨g, cap, rfl, hbg, hlc, hcm, hR⟩ := hO4.row hne
  have hs3 : (w2.alloc (.cells #[.int .i64 (min a b), .int .i64 (max a b)] 55)).heap.size = w2.heap.size + 1 := by simp
  have HD := Lib.hid (delK_yes w4 (w2.heap.size + 1) g cap w2.heap.size idx a b l (by omega) hlc hidx (Nat.lt_succ_self _) (hs3 ▸ hbg) (hs3 ▸ hb4.size) hR HP4.out HE.out HA.out)
  have HG : Hid (w.heap.size ≤ g) := Lib.hid (Nat.le_trans HB3.out.size hbg)
  have HW : Hid (w.heap.size ≤ w2.heap.size + 1) := Lib.hid (hs3 ▸ HB3.out.size)
  clear hO4 hb4 hR hbg hs3
  go_wp2_with fail
  refine HD.out.mono ?_
  rintro e w5 ⟨rfl, hR5, hb5⟩
  have HB5 := Lib.hid (HB4.out.trans (hb5.mono HW.out))
  have HR5 := Lib.hid hR5
  clear hb5 hR5
  have t1 : (((l.length - 1 : Nat) : Int) == (l.length : Int)) = false := by
    have : ¬ ((l.length - 1 : Nat) : Int) = (l.length : Int) := by omega
    simpa using this
  generalize hq : l.length - 1 = q at t1 HR5 ⊢
  have HQ := Lib.hid hq; clear hq
  go_wp2_with fail
  go_ret2
  exact ⟨g, cap, HG.out, by rw [HQ.out]; rfl, by rw [HQ.out]; exact HR5.out, HB5.out⟩
/-- graph.Cut where there is no such link. -/
theorem cut_no (w : World) (n a b : Int) (v : Value) (l : List Lk) (hn : l.length * 24 ≤ 140737488355328) (h : ArgK w v l) (hg : gBad n l = 0) (hl : (less l a b).length = l.length) :
    Calls Try.prog 16 #[.int .i64 n, v, .int .i64 a, .int .i64 b] w fun e w' => e = .returned (.tuple #[.slice none 0 0, .iface 60 (.int .i64 2)]) ∧ Below w.heap.size w w' := by
  refine cut_none w n a b v l hn h hg fun x hx => ?_
  unfold less at hl
  have := List.filter_eq_self.1 (List.filter_sublist.eq_of_length hl) x hx
  simpa using this
/-- graph.Cut where there is one. -/
theorem cut_yes (w : World) (n a b : Int) (v : Value) (l : List Lk) (hn : l.length * 24 ≤ 140737488355328) (h : ArgK w v l) (hg : gBad n l = 0) (hl : (less l a b).length ≠ l.length) :
    Calls Try.prog 16 #[.int .i64 n, v, .int .i64 a, .int .i64 b] w fun e w' => ∃ g cap, w.heap.size ≤ g ∧ e = .returned (.tuple #[.slice (some ⟨g, 0, none⟩) (less l a b).length cap, .nilIface]) ∧ RowF w' g (less l a b).length (fun i => (less l a b)[i]!) ∧ Below w.heap.size w w' := by
  rcases idxK_spec a b l 0 with ⟨_, hall⟩ | ⟨j, hj, e, ht⟩
  · exact absurd (by rw [less_none a b l hall]) hl
  · obtain ⟨e1, h1⟩ := less_one n a b l j ((gBad_zero _ _).1 hg).2 hj ht
    have hlen : (l.eraseIdx j).length = l.length - 1 := List.length_eraseIdx_of_lt hj
    rw [Nat.zero_add] at e
    refine (cut_some w n a b v l j hn h hg hj e h1).mono ?_
    rintro x w' ⟨g, cap, hg, rfl, hR, hb⟩
    rw [e1, hlen]
    exact ⟨g, cap, hg, rfl, hR.congr (Nat.le_refl _) fun t ht => erF_is l j hj t ht, hb⟩
end Go.Proofs.Ytjgmehmhhplkaaa
