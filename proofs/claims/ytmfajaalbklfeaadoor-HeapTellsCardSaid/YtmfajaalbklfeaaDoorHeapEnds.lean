/-
  Two things of a heap exchanged; one put behind, the last one taken; what an interface value that holds the heap's address calls.
-/
import Derived.Test.YtmfajaalbklfeaaDoorHeapMeth
namespace Go.Proofs.YtmfajaalbklfeaaDoor
open Go.RowKit Go.Lib HeapP

/-- Two exchanged. -/
theorem tSwap_any (w : World) (q : Nat) (tv : Value) (p k n : Nat) (ky : Nat → Int) (L : List Nat) (h : Hp w q tv p k n ky L) (i j : Nat) (x y : Int) (hi : i < L.length) (hj : j < L.length) (hij : i ≠ j) (hx : x = i) (hy : y = j) :
    Calls Tryd.prog 55 #[.pointer (some ⟨q, 0, none⟩), .int .i64 x, .int .i64 y] w fun e w' => e = .returned (.tuple #[]) ∧ Hp w' q tv p k n ky (exch L i j) ∧ Keep (InH q tv p k) w w' := by
  subst hx hy
  obtain ⟨g, cap, rfl, hr, gq, gp, gk⟩ := h.th (by omega)
  obtain ⟨f, hv, hp⟩ := h.pl
  have ha := h.bd _ (at_mem hi)
  have hb := h.bd _ (at_mem hj)
  have hab : L[i]! ≠ L[j]! := fun e => hij (hp.inj hi hj e)
  refine (tSwap_raw w q g cap _ p i j n L[i]! L[j]! h.c0 h.c1 hi hj ha hb (hr.c i hi) (hr.c j hj) hr.fz hv.f _ _ (hv.c _ ha) (hv.c _ hb) gq gp h.qp hij hab).mono ?_
  rintro e w' ⟨rfl, rfl⟩
  have K : Keep (InH q (.slice (some ⟨g, 0, none⟩) L.length cap) p k) w ((((((w.setCell ⟨g, i, none⟩ (.int .i64 (L[j]! : Int))).setCell ⟨g, j, none⟩ (.int .i64 (L[i]! : Int))).drew).setCell ⟨p, L[j]!, none⟩ (.int .i64 (i : Int))).drew).setCell ⟨p, L[i]!, none⟩ (.int .i64 (j : Int))).drew :=
    ((((((Keep.refl _ w).trans (Keep.setCell _ _ g i _ (Or.inr (Or.inr (Or.inr rfl))))).trans (Keep.setCell _ _ g j _ (Or.inr (Or.inr (Or.inr rfl))))).drew.trans (Keep.setCell _ _ p _ _ (Or.inr (Or.inl rfl)))).drew).trans (Keep.setCell _ _ p _ _ (Or.inr (Or.inl rfl)))).drew
  have Q : ((((((w.setCell ⟨g, i, none⟩ (.int .i64 (L[j]! : Int))).setCell ⟨g, j, none⟩ (.int .i64 (L[i]! : Int))).drew).setCell ⟨p, L[j]!, none⟩ (.int .i64 (i : Int))).drew).setCell ⟨p, L[i]!, none⟩ (.int .i64 (j : Int))).drew.heap[q]? = w.heap[q]? :=
    (Below.heap_setCell _ _ _ _ h.qp.symm).trans ((Below.heap_setCell _ _ _ _ h.qp.symm).trans ((Below.heap_setCell _ _ _ _ gq.symm).trans (Below.heap_setCell _ _ _ _ gq.symm)))
  refine ⟨rfl, ⟨?_, ?_, ?_, ?_, Nat.lt_of_lt_of_le h.lq K.size, ?_, ⟨_, ?_, hp.exch hi hj⟩, ?_, h.qp, h.qk, h.pk, h.out, fun a hm => h.bd a ?_, h.mx⟩, K⟩
  · exact (World.cell?_of_block (w := w) (a := ⟨q, 0, none⟩) Q).trans h.c0
  · exact (World.cell?_of_block (w := w) (a := ⟨q, 1, none⟩) Q).trans h.c1
  · exact (World.cell?_of_block (w := w) (a := ⟨q, 2, none⟩) Q).trans h.c2
  · exact fun o => (World.frozen?_of_block (w := w) (a := ⟨q, o, none⟩) Q).trans (h.fz o)
  · have r := (((hr.set i L[j]!).set j L[i]!).drew.past p L[j]! gp (.int .i64 (i : Int))).drew.past p L[i]! gp (.int .i64 (j : Int))
    have o := r.drew.own
    rw [List.length_set, List.length_set] at o
    exact o
  · exact ((((((hv.past g i gp.symm _).past g j gp.symm _).drew).set L[j]! i).drew).set L[i]! j).drew
  · exact (((((h.kys.past g i gk.symm _).past g j gk.symm _).drew.past p _ h.pk _).drew).past p _ h.pk _).drew
  · exact ((Same.exch (c := L.length) L i j hi hj hi hj).mem a).2 hm

set_option maxRecDepth 100000 in
theorem assert_int (x : Value) (w : World) : (Instr.typeAssert (.iface 3 x) 20 3 false).run Tryd.prog w = .ok x w := by kernel_rfl
set_option maxRecDepth 100000 in
theorem meth_len (a : Addr) (w : World) : (method 222 47 (.pointer (some a)) "Len").run Tryd.prog w = .ok (19, .pointer (some a)) w := by kernel_rfl
set_option maxRecDepth 100000 in
theorem meth_less (a : Addr) (w : World) : (method 222 47 (.pointer (some a)) "Less").run Tryd.prog w = .ok (52, .pointer (some a)) w := by kernel_rfl
set_option maxRecDepth 100000 in
theorem meth_swap (a : Addr) (w : World) : (method 222 47 (.pointer (some a)) "Swap").run Tryd.prog w = .ok (55, .pointer (some a)) w := by kernel_rfl
set_option maxRecDepth 100000 in
theorem meth_push (a : Addr) (w : World) : (method 222 47 (.pointer (some a)) "Push").run Tryd.prog w = .ok (54, .pointer (some a)) w := by kernel_rfl
set_option maxRecDepth 100000 in
theorem meth_pop (a : Addr) (w : World) : (method 222 47 (.pointer (some a)) "Pop").run Tryd.prog w = .ok (53, .pointer (some a)) w := by kernel_rfl

set_option maxHeartbeats 1000000 in
set_option maxRecDepth 100000 in
theorem tPop_raw (w : World) (q g cap p n l : Nat) (a : Nat) (va : Value) (c0 : w.cell? ⟨q, 0, none⟩ = some (.slice (some ⟨g, 0, none⟩) (l + 1) cap)) (c1 : w.cell? ⟨q, 1, none⟩ = some (.slice (some ⟨p, 0, none⟩) n n)) (fq : w.frozen? ⟨q, 0, none⟩ = false)
    (ha : a < n) (ga : w.cell? ⟨g, l, none⟩ = some (.int .i64 (a : Int))) (hpa : w.cell? ⟨p, a, none⟩ = some va) (fp : w.frozen? ⟨p, a, none⟩ = false) (pq : p ≠ q) (hl : l ≤ 5000) (hcap : l + 1 ≤ cap) :
    Calls Tryd.prog 53 #[.pointer (some ⟨q, 0, none⟩)] w fun e w' => e = .returned (.iface 3 (.int .i64 (a : Int))) ∧ w' = (w.setCell ⟨q, 0, none⟩ (.slice (some ⟨g, 0, none⟩) l cap)).setCell ⟨p, a, none⟩ (.int .i64 (-1)) := by
  have ea : (a : Int) < (n : Int) := by omega
  have d1 : (w.setCell ⟨q, 0, none⟩ (.slice (some ⟨g, 0, none⟩) l cap)).cell? ⟨q, 1, none⟩ = some (.slice (some ⟨p, 0, none⟩) n n) := (set_ne _ q 1 0 _ (by omega)).trans c1
  have da : (w.setCell ⟨q, 0, none⟩ (.slice (some ⟨g, 0, none⟩) l cap)).cell? ⟨p, a, none⟩ = some va := (set_far _ p a q 0 _ pq).trans hpa
  have df : (w.setCell ⟨q, 0, none⟩ (.slice (some ⟨g, 0, none⟩) l cap)).frozen? ⟨p, a, none⟩ = false := (set_fz _ _ _ _).trans fp
  go_enter Tryd.func53, Tryd.ntmps53
  go_wp2_with fail
  go_ret
  exact ⟨rfl, rfl⟩
/-- The last one taken. -/
theorem tPop_any (w : World) (q : Nat) (tv : Value) (p k n : Nat) (ky : Nat → Int) (L : List Nat) (x : Nat) (h : Hp w q tv p k n ky (L ++ [x])) :
    Calls Tryd.prog 53 #[.pointer (some ⟨q, 0, none⟩)] w fun e w' => ∃ tv', e = .returned (.iface 3 (.int .i64 (x : Int))) ∧ Hp w' q tv' p k n ky L ∧ Keep (InH q tv p k) w w' ∧ tv'.ownBlock = tv.ownBlock := by
  have hlen : (L ++ [x]).length = L.length + 1 := by simp
  obtain ⟨g, cap, rfl, hr, gq, gp, gk⟩ := h.th (by omega)
  obtain ⟨f, hv, hp⟩ := h.pl
  have ha : x < n := h.bd x (by simp)
  have hL := h.len
  have hm := h.mx
  have cx := hr.c L.length (by omega)
  rw [app_last] at cx
  refine (tPop_raw w q g cap p n L.length x _ (by rw [← hlen]; exact h.c0) h.c1 (h.fz 0) ha cx (hv.c _ ha) (hv.f _) h.qp (by omega) (by rw [← hlen]; exact hr.le)).mono ?_
  rintro e w' ⟨rfl, rfl⟩
  refine ⟨.slice (some ⟨g, 0, none⟩) L.length cap, rfl, ⟨?_, ?_, ?_, ?_, ?_, ?_, ⟨_, ?_, hp.pop⟩, ?_, h.qp, h.qk, h.pk, h.out, fun a hm => h.bd a (by simp [hm]), h.mx⟩, ?_, rfl⟩
  · exact (set_far _ q 0 p x _ h.qp.symm).trans (set_same w q 0 _ _ h.c0)
  · exact (set_far _ q 1 p x _ h.qp.symm).trans ((set_ne w q 1 0 _ (by omega)).trans h.c1)
  · exact (set_far _ q 2 p x _ h.qp.symm).trans ((set_ne w q 2 0 _ (by omega)).trans h.c2)
  · exact fun o => (set_fz _ _ _ _).trans ((set_fz _ _ _ _).trans (h.fz o))
  · simpa [World.setCell] using h.lq
  · exact ((hr.drop.past q 0 gq _).past p x gp _).own
  · exact (hv.past q 0 h.qp _).set x (-1)
  · exact (h.kys.past q 0 h.qk _).past p x h.pk _
  · exact (Keep.setCell _ w q 0 _ (Or.inl rfl)).trans (Keep.setCell _ _ p x _ (Or.inr (Or.inl rfl)))

set_option maxHeartbeats 1000000 in
set_option maxRecDepth 100000 in
/-- One put behind. -/
theorem tPush_any (w : World) (q : Nat) (tv : Value) (p k n : Nat) (ky : Nat → Int) (L : List Nat) (x : Nat) (h : Hp w q tv p k n ky L) (hx : x < n) (hn : x ∉ L) :
    Calls Tryd.prog 54 #[.pointer (some ⟨q, 0, none⟩), .iface 3 (.int .i64 (x : Int))] w fun e w' => ∃ tv', e = .returned (.tuple #[]) ∧ Hp w' q tv' p k n ky (L ++ [x]) ∧ Keep (InH q tv p k) w w' ∧ (tv'.ownBlock = tv.ownBlock ∨ ∃ b, tv'.ownBlock = some b ∧ w.heap.size ≤ b) := by
  obtain ⟨pp, c, hv, _⟩ := h.own.len
  obtain ⟨f, hvec, hp⟩ := h.pl
  have ex : (x : Int) < (n : Int) := by omega
  have hL := h.len
  have hm := h.mx
  have c0 := h.c0
  have c1 := h.c1
  have vx := hvec.c x hx
  have fx := hvec.f x
  rw [hv] at c0
  have lq := h.lq
  have hb := h.lt (b := p) (Or.inr (Or.inl rfl))
  obtain ⟨W, hW⟩ : ∃ W, W = (w.setCell ⟨p, x, none⟩ (.int .i64 (L.length : Int))).drew := ⟨_, rfl⟩
  have HW : Hid (W = (w.setCell ⟨p, x, none⟩ (.int .i64 (L.length : Int))).drew) := Lib.hid hW
  have HK : Hid (Keep (InH q tv p k) w W) := Lib.hid (by rw [hW]; exact (Keep.setCell _ w p x _ (Or.inr (Or.inl rfl))).drew)
  have d0 : W.cell? ⟨q, 0, none⟩ = some (.slice pp L.length c) := by rw [hW]; exact (set_far w q 0 p x _ h.qp.symm).trans c0
  have HF : Hid (W.frozen? ⟨q, 0, none⟩ = false) := Lib.hid (by rw [hW]; exact (set_fz _ _ _ _).trans (h.fz 0))
  have HO : Hid (OwnI (W.alloc (.cells #[.int .i64 (x : Int)] 3)) 0 (.slice pp L.length c) (zsN L)) := Lib.hid (by
    rw [← hv]
    refine OwnI.keep ?_ ((Below.refl _ _).alloc (Nat.le_refl _) _)
    rw [hW]
    exact h.own.frame fun g hg hlt => Below.heap_setCell _ _ _ _ (h.out g hg).2.1)
  have HZ : Hid (W.heap.size = w.heap.size) := Lib.hid (by rw [hW]; simp [World.setCell])
  have HD0 := Lib.hid d0
  have HH := Lib.hid h
  have HL : Hid ((zsN L).length = L.length) := Lib.hid (zsN_len L)
  have HV := Lib.hid hv
  have HVec := Lib.hid hvec
  have HP := Lib.hid hp
  clear hW h hvec hp hv d0
  generalize hln : L.length = l at HO HV HD0 c0 HL HW hL
  have HLn := Lib.hid hln
  clear hln
  go_enter Tryd.func54, Tryd.ntmps54
  have ha := fun w => assert_int (.int .i64 (x : Int)) w
  go_wp2_with fail
  go_region
  rw [← HW.out]
  clear c0 c1 vx fx ha
  have d0 := HD0.out
  have HT : Hid (∀ b, (Value.slice pp l c).ownBlock = some b → b ≠ q ∧ b ≠ p ∧ b ≠ k) := Lib.hid (by rw [← HV.out]; exact HH.out.out)
  go_wp2_with (at_builtin; refine wpl_append_oneI rfl _ _ rfl 0 _ (zsN L) (x : Int) W.heap.size 1 rfl rfl HO.out (by simp) (by rw [HL.out]; omega) (Nat.zero_le _) ?_; intro v' w3 hO3 hg3 hb3; rw [← zsN_app] at hO3; obtain ⟨a3, c3, rfl, _⟩ := hO3.len; have hb3 : (Value.slice a3 (L ++ [x]).length c3).ownBlock = (Value.slice pp l c).ownBlock ∨ (Value.slice a3 (L ++ [x]).length c3).ownBlock = some (W.alloc (.cells #[.int .i64 (x : Int)] 3)).heap.size := hb3; have K3 : Keep (fun b => (Value.slice pp l c).ownBlock = some b) W w3 := (Keep.alloc _ W _).trans ⟨hg3.os, hg3.tape, hg3.output, hg3.size, fun j hj hn => hg3.block j hj (fun e => hn e.symm)⟩; have B3 := K3.block q (by rw [HZ.out]; exact lq) (fun e => (HT.out q e).1 rfl); have cq3 := (World.cell?_of_block (w := W) (a := ⟨q, 0, none⟩) B3).trans d0; have fq3 := (World.frozen?_of_block (w := W) (a := ⟨q, 0, none⟩) B3).trans HF.out; have HH3 := Lib.hid (And.intro hO3 (And.intro hb3 K3)); clear hO3 hg3 hb3 K3 B3)
  go_end0
  obtain ⟨hO3, hb3, K3⟩ := HH3.out
  have hs : ((W.alloc (.cells #[.int .i64 (x : Int)] 3)).heap.size = w.heap.size + 1) := by simp [HZ.out]
  have h := HH.out
  have hv := HV.out
  have hl := HLn.out
  have hq := lq
  have hpl := hb
  have hkl := h.kys.lt
  have hne : ∀ b, (Value.slice a3 (L ++ [x]).length c3).ownBlock = some b → b ≠ q ∧ b ≠ p ∧ b ≠ k := by
    intro b e
    rcases hb3 with e2 | e2
    · rw [e2] at e; exact HT.out b e
    · rw [e2] at e
      have := (Option.some.inj e).symm.trans hs
      exact ⟨by omega, by omega, by omega⟩
  have hq3 := K3.block q (by rw [HZ.out]; exact lq) (fun e => (HT.out q e).1 rfl)
  have KW : Keep (InH q tv p k) w w3 := HK.out.trans (K3.mono fun b e => Or.inr (Or.inr (Or.inr (by rw [hv]; exact e))))
  have hwq : W.heap[q]? = w.heap[q]? := by rw [HW.out]; exact Below.heap_setCell _ _ _ _ h.qp.symm
  have hbq := hq3.trans hwq
  refine ⟨_, rfl, ⟨?_, ?_, ?_, ?_, ?_, ?_, ⟨_, ?_, HP.out.push hn⟩, ?_, h.qp, h.qk, h.pk, hne, fun a hm => ?_, h.mx⟩, KW.trans (Keep.setCell _ _ q 0 _ (Or.inl rfl)), ?_⟩
  · rw [show (L ++ [x]).length = L.length + 1 by simp]
    exact set_same w3 q 0 _ _ cq3
  · exact (set_ne _ q 1 0 _ (by omega)).trans ((World.cell?_of_block (w := w) (a := ⟨q, 1, none⟩) hbq).trans h.c1)
  · exact (set_ne _ q 2 0 _ (by omega)).trans ((World.cell?_of_block (w := w) (a := ⟨q, 2, none⟩) hbq).trans h.c2)
  · exact fun o => (set_fz _ _ _ _).trans ((World.frozen?_of_block (w := w) (a := ⟨q, o, none⟩) hbq).trans (h.fz o))
  · have := KW.size
    simp only [World.setCell, Array.size_modify]
    first | omega | (simp; omega)
  · exact hO3.frame fun g hg _ => Below.heap_setCell _ _ _ _ (hne g hg).1
  · have v1 : Vec W p n (fun a => if a = x then (l : Int) else f a) := by rw [HW.out]; exact (HVec.out.set x l).drew
    rw [← hl] at v1
    exact ((v1.stay K3 fun e => (HT.out p e).2.1 rfl).past q 0 h.qp _)
  · have v1 : Vec W k n ky := by rw [HW.out]; exact (h.kys.past p x h.pk _).drew
    exact ((v1.stay K3 fun e => (HT.out k e).2.2 rfl).past q 0 h.qk _)
  · rw [List.mem_append, List.mem_singleton] at hm
    rcases hm with hm | rfl
    · exact h.bd a hm
    · exact hx
  · rcases hb3 with e | e
    · exact Or.inl (by rw [e, hv])
    · exact Or.inr ⟨_, e, by rw [hs]; omega⟩
end Go.Proofs.YtmfajaalbklfeaaDoor
