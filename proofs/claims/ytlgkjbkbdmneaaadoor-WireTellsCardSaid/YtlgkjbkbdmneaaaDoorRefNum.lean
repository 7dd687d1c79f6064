/-
  The document's own number of four bytes; what lay in memory stays.
-/
import Derived.Test.YtlgkjbkbdmneaaaDoorWireNum
import Derived.Test.YtlgkjbkbdmneaaaDoorRefEntPlain
import Derived.Deep.RegionHeld3
namespace Go.Proofs.YtlgkjbkbdmneaaaDoor
open Go.RowKit Go.Lib

theorem or_mulN (a b i m : Nat) (hm : 2 ^ i = m) (hb : b < m) : a * m ||| b = a * m + b := by
  subst hm
  have := Nat.two_pow_add_eq_or_of_lt (i := i) (b := b) hb a
  rw [Nat.mul_comm] at this
  exact this.symm
theorem or_four (x0 x1 x2 x3 : Nat) (h0 : x0 < 256) (h1 : x1 < 256) (h2 : x2 < 256) (h3 : x3 < 256) :
    bits .or .u32 (bits .or .u32 (bits .or .u32 ((x0 : Int) * 16777216) ((x1 : Int) * 65536)) ((x2 : Int) * 256)) (x3 : Int) = (num [x0, x1, x2, x3] : Int) := by
  rw [show (x0 : Int) * 16777216 = ((x0 * 16777216 : Nat) : Int) by omega, show (x1 : Int) * 65536 = ((x1 * 65536 : Nat) : Int) by omega, show (x2 : Int) * 256 = ((x2 * 256 : Nat) : Int) by omega]
  rw [u32_or_nat _ _ (by omega) (by omega), or_mulN x0 (x1 * 65536) 24 16777216 (by decide) (by omega)]
  rw [u32_or_nat _ _ (by omega) (by omega), show x0 * 16777216 + x1 * 65536 = (x0 * 256 + x1) * 65536 by omega, or_mulN (x0 * 256 + x1) (x2 * 256) 16 65536 (by decide) (by omega)]
  rw [u32_or_nat _ _ (by omega) (by omega), show (x0 * 256 + x1) * 65536 + x2 * 256 = ((x0 * 256 + x1) * 256 + x2) * 256 by omega, or_mulN ((x0 * 256 + x1) * 256 + x2) x3 8 256 (by decide) h3]
  simp [num]
theorem take_four (l : List Nat) (q : Nat) (h : q + 4 ≤ l.length) : (l.drop q).take 4 = [l[q]!, l[q + 1]!, l[q + 2]!, l[q + 3]!] := by
  refine List.ext_getElem (by simp; omega) fun i h1 h2 => ?_
  simp only [List.length_cons, List.length_nil] at h2
  rw [List.getElem_take, List.getElem_drop]
  match i, h2 with
  | 0, _ => exact (getElem!_pos l q (by omega)).symm
  | 1, _ => exact (getElem!_pos l (q + 1) (by omega)).symm
  | 2, _ => exact (getElem!_pos l (q + 2) (by omega)).symm
  | 3, _ => exact (getElem!_pos l (q + 3) (by omega)).symm
theorem Byt.at {l : List Nat} (h : Byt l) (i : Nat) (hi : i < l.length) : l[i]! < 256 := h _ (by rw [getElem!_pos l i hi]; exact List.getElem_mem hi)

set_option maxHeartbeats 1000000 in
set_option maxRecDepth 100000 in
theorem refNum_any (w : World) (b off c : Nat) (l : List Nat) (q : Nat) (hq : q + 4 ≤ l.length) (hl : l.length ≤ 20) (hb : Byt l) (hs : SeenB w b off l) :
    Calls Tryd.prog 35 #[.slice (some ⟨b, off, none⟩) l.length c, .int .i64 (q : Int)] w fun x w' => x = .returned (.int .u32 (num ((l.drop q).take 4) : Int)) ∧ w' = w.drew := by
  have c0 := hs q (by omega)
  have c1 := hs (q + 1) (by omega)
  have c2 := hs (q + 2) (by omega)
  have c3 := hs (q + 3) (by omega)
  have b0 := hb.at q (by omega)
  have b1 := hb.at (q + 1) (by omega)
  have b2 := hb.at (q + 2) (by omega)
  have b3 := hb.at (q + 3) (by omega)
  rw [take_four l q hq]
  generalize l[q]! = x0 at *
  generalize l[q + 1]! = x1 at *
  generalize l[q + 2]! = x2 at *
  generalize l[q + 3]! = x3 at *
  have HV := Lib.hid (or_four x0 x1 x2 x3 b0 b1 b2 b3)
  clear hs hb
  generalize num [x0, x1, x2, x3] = v at *
  go_enter Tryd.func35, Tryd.ntmps35
  go_wp2_with fail
  go_region
  go_wp2_with fail
  go_ret
  exact ⟨by rw [← HV.out]; rfl, rfl⟩
end Go.Proofs.YtlgkjbkbdmneaaaDoor
