/-
  PLAIN FACTS on the texts of networks (of no program): an address' text, a slash, the digits of the length.
-/
import Derived.Test.YtegfjdpibpmdmaaGreatDoorAddrPlain
import Derived.Test.YtegfjdpibpmdmaaGreatDoorPrefPlain
import Derived.Lib.AtoiAll
import Derived.Lib.AtoiAllCases
import Derived.Lib.IndexLaws
import Derived.Lib.IndexBytes
namespace Go.Proofs.YtegfjdpibpmdmaaGreatDoor

theorem AddrP.dig_fin47 : ∀ n : Fin 256, (AddrP.dig n.val).all (· != 47) = true := by decide +kernel
theorem AddrP.dig_noslash (n : Nat) (h : n < 256) : ∀ c ∈ AddrP.dig n, c ≠ 47 := by
  intro c hc
  have := List.all_eq_true.1 (AddrP.dig_fin47 ⟨n, h⟩) c hc
  simpa using this
theorem AddrP.text_noslash (a : Nat) : ∀ c ∈ AddrP.text a, c ≠ 47 := by
  intro c hc
  unfold AddrP.text at hc
  simp only [List.mem_append, List.mem_cons] at hc
  rcases hc with hc | rfl | hc | rfl | hc | rfl | hc
  · exact AddrP.dig_noslash _ (AddrP.b3_lt a) c hc
  · decide
  · exact AddrP.dig_noslash _ (AddrP.b2_lt a) c hc
  · decide
  · exact AddrP.dig_noslash _ (AddrP.b1_lt a) c hc
  · decide
  · exact AddrP.dig_noslash _ (AddrP.b0_lt a) c hc

/-- The text of a network. -/
def PrefP.text (a n : Nat) : List UInt8 := AddrP.text a ++ 47 :: AddrP.dig n
/-- Is a text that of a right network? -/
def PrefP.Is (l : List UInt8) (a n : Nat) : Prop := a < 4294967296 ∧ n ≤ 32 ∧ PrefP.cut a n = a ∧ PrefP.text a n = l

theorem PrefP.atoi_fin : ∀ n : Fin 33, Lib.atoiAll (AddrP.dig n.val) = .ok (n.val : Int) := by decide +kernel
theorem PrefP.atoi_dig (n : Nat) (h : n ≤ 32) : Lib.atoiAll (AddrP.dig n) = .ok (n : Int) := PrefP.atoi_fin ⟨n, by omega⟩
theorem PrefP.index_text (a n : Nat) : Lib.indexByte (PrefP.text a n) 47 = (AddrP.text a).length := by
  rw [← Lib.index_one]
  exact CutP.index_hit 47 _ _ (AddrP.text_noslash a)
theorem PrefP.text_cut (a n : Nat) : (PrefP.text a n).take (AddrP.text a).length = AddrP.text a ∧ (PrefP.text a n).drop ((AddrP.text a).length + 1) = AddrP.dig n := by
  unfold PrefP.text
  constructor
  · simp
  · rw [← List.drop_drop]; simp
theorem PrefP.index_room (l : List UInt8) (i : Nat) (h : Lib.indexByte l 47 = i) : i < l.length := by
  have := (Lib.indexByte_some h).1
  exact (List.getElem?_eq_some_iff.1 this).1
theorem PrefP.index_cases (l : List UInt8) : Lib.indexByte l 47 = -1 ∨ ∃ i : Nat, Lib.indexByte l 47 = i ∧ i < l.length := by
  have h := Lib.indexByte_ge l 47
  by_cases h1 : Lib.indexByte l 47 = -1
  · exact Or.inl h1
  · obtain ⟨i, hi⟩ := Int.eq_ofNat_of_zero_le (show 0 ≤ Lib.indexByte l 47 by omega)
    exact Or.inr ⟨i, hi, PrefP.index_room l i hi⟩
theorem PrefP.text_len (a n : Nat) (hn : n ≤ 32) (h : (AddrP.text a).length ≤ 15) : (PrefP.text a n).length ≤ 19 := by
  have := AddrP.dig_len n (by omega)
  unfold PrefP.text
  rw [List.length_append, List.length_cons]
  omega
theorem PrefP.known : PrefP.Is [49, 48, 46, 48, 46, 48, 46, 48, 47, 56] 167772160 8 := by
  refine ⟨by decide, by decide, by decide +kernel, by decide +kernel⟩
end Go.Proofs.YtegfjdpibpmdmaaGreatDoor
