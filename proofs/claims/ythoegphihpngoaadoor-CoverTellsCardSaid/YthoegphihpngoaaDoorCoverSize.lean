/-
  cover.Size at every list: the number of addresses, or the error; what lay in memory stays.
-/
import Derived.Test.YthoegphihpngoaaDoorCoverCount
namespace Go.Proofs.YthoegphihpngoaaDoor
open Go.RowKit Go.Lib

theorem sumSz_drop (c : List Nt) (k : Nat) (h : k < c.length) : sumSz (c.drop k) = c[k]!.sz + sumSz (c.drop (k + 1)) := by
  rw [drop_at c k h]; unfold sumSz; simp

theorem w64 (x : Int) (h1 : -9223372036854775808 ≤ x) (h2 : x ≤ 9223372036854775807) : wrap64 x = x := by unfold wrap64; omega
theorem add_sz (s q : Nat) (h : s + q ≤ 4294967296) : wrap64 ((s : Int) + wrap64 (q : Int)) = ((s + q : Nat) : Int) := by
  have h1 : wrap64 (q : Int) = q := w64 _ (by omega) (by omega)
  rw [h1, Int.natCast_add]
  exact w64 _ (by omega) (by omega)

set_option maxHeartbeats 1000000 in
set_option maxRecDepth 100000 in
theorem size_ok (w : World) (v : Value) (l : List Nt) (h : Arg w v l) (hl : l.length ≤ 64) (hok : ∀ x ∈ l, x.V) :
    Calls Tryd.prog 11 #[v] w fun e w' => e = .returned (.tuple #[.int .i64 (sumSz (cov l) : Int), .nilIface]) ∧ Below w.heap.size w w' := by
  have HC := Lib.hid (cover_ok w v l h hl hok)
  have hG := cov_good l hok
  have hsz := size_le l hok
  have hlen : (cov l).length ≤ 64 := Nat.le_trans (cov_len l) hl
  clear h hok
  generalize cov l = c at HC hG hsz hlen ⊢
  have HV := Lib.hid hG.1; clear hG
  go_enter Tryd.func11, Tryd.ntmps11
  go_wp2_with fail
  refine HC.out.mono ?_
  rintro e w1 ⟨v1, rfl, o1, b1⟩
  obtain ⟨p, cc, rfl, hcase⟩ := o1.arg
  have HD := Lib.hid hcase; clear hcase o1
  go_wp2_with fail
  go_loopw [19, 6] (fun vk vs wr => ∃ (k s : Nat), vk = .int .i64 k ∧ vs = .int .i64 s ∧ k ≤ c.length ∧ Hid (s + sumSz (c.drop k) = sumSz c) ∧ Hid (Below w1.heap.size w1 wr)) (fun vk _ _ => c.length - (intOf vk).toNat)
  case atStart => exact ⟨0, 0, rfl, rfl, Nat.zero_le _, Lib.hid (by simp), Lib.hid (Below.refl _ _)⟩
  case round =>
    obtain ⟨k, s, rfl, rfl, hk, HE, HB⟩ := hrel
    by_cases hkn : k < c.length
    · obtain ⟨g, off, rfl, hg, hseen⟩ : ∃ b off, p = some ⟨b, off, none⟩ ∧ b < w1.heap.size ∧ Seen w1 b off c := by
        rcases HD.out with e | e
        · rw [e] at hkn; simp at hkn
        · exact e
      have SS := hseen.below HB.out hg
      have s0 : wr.cell? ⟨g, off + k * 2, none⟩ = some (.int .u32 (c[k]!.1 : Int)) := SS.c0 k hkn
      have s1 : wr.cell? ⟨g, off + k * 2 + 1, none⟩ = some (.int .i64 c[k]!.2) := SS.c1 k hkn
      have hxV : c[k]!.V := HV.out _ (by rw [getElem!_pos c k hkn]; exact List.getElem_mem hkn)
      have hd := sumSz_drop c k hkn
      have he := HE.out
      rw [hd] at he
      clear SS hseen hd
      generalize c[k]! = x at s0 s1 hxV he
      obtain ⟨n, hn1, hn, e, _⟩ := hxV.len
      rw [hn1] at s1
      rw [e] at he
      have hle : s + 2 ^ (32 - n) ≤ 4294967296 := by omega
      have hpp : (2 : Nat) ^ (32 - n) ≤ 4294967296 := by omega
      have hn32 : ¬ (32 - (n : Int) < 0) := by omega
      have HE' := Lib.hid he; clear he hxV hn1 e
      have HZ : Hid (wrap64 ((s : Int) + wrap64 (2 ^ (32 - n))) = ((s + 2 ^ (32 - n) : Nat) : Int)) := Lib.hid (by
        have e2 : ((2 : Int) ^ (32 - n)) = ((2 ^ (32 - n) : Nat) : Int) := by rw [Int.natCast_pow]; rfl
        rw [e2]
        exact add_sz s _ hle)
      go_wp2_with fail
      refine ⟨⟨k + 1, s + 2 ^ (32 - n), by go_num, by rw [HZ.out], by omega, Lib.hid (by rw [← HE'.out, Nat.add_assoc]), Lib.hid (HB.out.alloc HB.out.size _)⟩, by simp only [intOf]; omega⟩
    · go_wp2_with fail
      have e : s = sumSz c := by have := HE.out; rw [List.drop_eq_nil_of_le (by omega)] at this; simpa [sumSz] using this
      subst e
      exact bodyPost_ret (v := .tuple #[.int .i64 (sumSz c : Int), .nilIface]) (by simp [results, Tryd.results11, go_sem]) rfl ⟨rfl, Below.two b1 HB.out⟩

set_option maxHeartbeats 400000 in
set_option maxRecDepth 100000 in
theorem size_bad (w : World) (v : Value) (l : List Nt) (h : Arg w v l) (hn : l.length < 4611686018427387904) (hok : ∀ x ∈ l, x.1 < 4294967296) (hb : badL l ≠ 0) :
    Calls Tryd.prog 11 #[v] w fun e w' => e = .returned (.tuple #[.int .i64 0, errV (badL l)]) ∧ Below w.heap.size w w' := by
  have hE : errV (badL l) = .iface 25 (.int .i64 (badL l)) := if_neg hb
  have hC := cover_bad w v l h hn hok hb
  rw [hE] at hC ⊢
  have HC := Lib.hid hC; clear hC hE h hok hb
  generalize badL l = q at HC ⊢
  go_enter Tryd.func11, Tryd.ntmps11
  go_wp2_with fail
  refine HC.out.mono ?_
  rintro e w1 ⟨rfl, hb⟩
  go_wp2_with fail
  exact bodyPost_ret (v := .tuple #[.int .i64 0, .iface 25 (.int .i64 q)]) (by simp [results, Tryd.results11, go_sem]) rfl ⟨rfl, hb⟩
/-- What Size answers. -/
def sizeE (l : List Nt) : Nat := if badL l = 0 then sumSz (cov l) else 0
theorem size_any (w : World) (v : Value) (l : List Nt) (h : Arg w v l) (hn : l.length < 4611686018427387904) (hok : ∀ x ∈ l, x.1 < 4294967296) :
    Calls Tryd.prog 11 #[v] w fun e w' => e = .returned (.tuple #[.int .i64 (sizeE l : Int), errV (badL l)]) ∧ Below w.heap.size w w' := by
  unfold sizeE
  by_cases hb : badL l = 0
  · have h0 := (badL_zero l).1 hb
    rw [hb, if_pos rfl]
    exact size_ok w v l h h0.2 (fun x hx => ⟨hok x hx, h0.1 x hx⟩)
  · rw [if_neg hb]
    exact size_bad w v l h hn hok hb
end Go.Proofs.YthoegphihpngoaaDoor
