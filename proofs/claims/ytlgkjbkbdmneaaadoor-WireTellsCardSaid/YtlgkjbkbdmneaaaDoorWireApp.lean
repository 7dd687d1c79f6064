/-
  wire.head, wire.append16 and wire.append32; what lay in memory stays.
-/
import Derived.Test.YtlgkjbkbdmneaaaDoorByteList
import Derived.Lib.Hide
import Derived.Lib.Walk
namespace Go.Proofs.YtlgkjbkbdmneaaaDoor
open Go.RowKit Go.Lib

theorem madeB (w : World) (l : List Nat) (cs : Array Value) (T : TypeId) (hc : cs.toList = cellsB l) : ∀ j u, (cellsB l)[j]? = some u → (w.alloc (.cells cs T)).cell? ((⟨w.heap.size, 0, none⟩ : Addr).add j) = some u := by
  intro j u hj
  rw [Addr.add_lit, ← hc] at *
  simp only [World.cell?, heap_alloc_new, Nat.zero_add]
  simpa using hj

set_option maxHeartbeats 400000 in
theorem head_any (w : World) (ask : Bool) : Calls Tryd.prog 24 #[.bool ask] w fun x w' => ∃ v, x = .returned v ∧ OwnB w' w.heap.size v (hd ask) ∧ Below w.heap.size w w' := by
  cases ask
  · go_enter Tryd.func24, Tryd.ntmps24
    go_wp2_with fail
    go_ret
    exact ⟨_, rfl, OwnB.made w w.heap.size (hd false) _ rfl (Nat.le_refl _) (by decide), (Below.refl _ _).alloc (Nat.le_refl _) _⟩
  · go_enter Tryd.func24, Tryd.ntmps24
    go_wp2_with fail
    go_ret
    exact ⟨_, rfl, OwnB.made w w.heap.size (hd true) _ rfl (Nat.le_refl _) (by decide), (Below.refl _ _).alloc (Nat.le_refl _) _⟩

set_option maxHeartbeats 400000 in
set_option maxRecDepth 100000 in
theorem append16_any (w : World) (base : Nat) (v : Value) (l : List Nat) (n : Nat) (hn : n < 65536) (hl : l.length + 2 ≤ 140737488355328) (hb : base ≤ w.heap.size) (h : OwnB w base v l) :
    Calls Tryd.prog 26 #[v, .int .u16 (n : Int)] w fun x w' => ∃ v', x = .returned v' ∧ OwnB w' base v' (l ++ [n / 256, n % 256]) ∧ AppTo w v w' v' := by
  have HO := Lib.hid h; clear h
  go_enter Tryd.func26, Tryd.ntmps26
  go_wp2_with (at_builtin; refine wpList_plain rfl fun _ hK => wp_append_B _ _ rfl base v l [n / 256, n % 256] ⟨w.heap.size, 0, none⟩ 2 2 rfl rfl ?q1 rfl (by omega) ?q2 (by simpa using hl) ?q3 ?_)
  case q1 => exact HO.out.keep ((Below.refl _ _).alloc (Nat.le_refl _) _)
  case q2 =>
    refine madeB w [n / 256, n % 256] _ _ ?_
    simp only [cellsB, List.map_cons, List.map_nil]
    congr 3 <;> omega
  case q3 => exact Nat.le_trans hb (by simp)
  intro v' w' ho ha
  refine hK _ _ ?_
  clear hK
  go_wp2_with fail
  go_ret
  exact ⟨v', rfl, ho, AppTo.after ((Below.refl _ _).alloc (Nat.le_refl _) _) ha⟩

theorem wrap16 (n : Nat) : IntKind.u16.wrap (n : Int) = ((n % 65536 : Nat) : Int) := by
  show (n : Int) % 65536 = _
  omega
theorem four_app (l : List Nat) (n : Nat) (hn : n < 4294967296) : l ++ [n / 65536 / 256, n / 65536 % 256] ++ [n % 65536 / 256, n % 65536 % 256] = l ++ four n := by
  unfold four
  rw [List.append_assoc, List.cons_append, List.cons_append, List.nil_append]
  congr 2
  · omega
  · congr 1; congr 1
    · omega
    · congr 1; omega

set_option maxHeartbeats 400000 in
set_option maxRecDepth 100000 in
theorem append32_any (w : World) (base : Nat) (v : Value) (l : List Nat) (n : Nat) (hn : n < 4294967296) (hl : l.length + 4 ≤ 140737488355328) (hb : base ≤ w.heap.size) (h : OwnB w base v l) :
    Calls Tryd.prog 27 #[v, .int .u32 (n : Int)] w fun x w' => ∃ v', x = .returned v' ∧ OwnB w' base v' (l ++ four n) ∧ AppTo w v w' v' := by
  have HO := Lib.hid h; clear h
  have E1 : Hid ((n : Int) / 65536 = ((n / 65536 : Nat) : Int)) := Lib.hid (by omega)
  have E2 : Hid (IntKind.u16.wrap (n : Int) = ((n % 65536 : Nat) : Int)) := Lib.hid (wrap16 n)
  go_enter Tryd.func27, Tryd.ntmps27
  go_wp2_with fail
  rw [E1.out]
  refine (append16_any w base v l (n / 65536) (by omega) (by omega) hb HO.out).mono ?_
  rintro x w1 ⟨v1, rfl, o1, a1⟩
  go_wp2_with fail
  rw [E2.out]
  refine (append16_any w1 base v1 _ (n % 65536) (by omega) (by simp; omega) (Nat.le_trans hb a1.size) o1).mono ?_
  rintro x w2 ⟨v2, rfl, o2, a2⟩
  go_wp2_with fail
  go_ret
  exact ⟨v2, rfl, by rw [← four_app l n hn]; exact o2, a1.trans a2⟩
end Go.Proofs.YtlgkjbkbdmneaaaDoor
