/-
  The law TopCut at every number of nodes, every links, a place and two nodes: it tells true; what lay in memory stays.
-/
import Derived.Test.YtjgmehmhhplkaaaTopCutOne
import Derived.Test.YtjgmehmhhplkaaaTopCutTwo
import Derived.Test.YtjgmehmhhplkaaaTopCutThree
namespace Go.Proofs.Ytjgmehmhhplkaaa
open Go.RowKit Go.Lib

theorem topCut_walk (w : World) (n k a b : Int) (v : Value) (l : List Lk) (hn : l.length * 24 ≤ 140737488355328) (h : ArgK w v l) :
    Calls Try.prog 7 #[.int .i64 n, v, .int .i64 k, .int .i64 a, .int .i64 b] w fun e w' => e = .returned (.bool true) ∧ Below w.heap.size w w' := by
  by_cases h1 : spfBad n l a = 0
  · obtain ⟨m, t, rfl, rfl, _, _, ht, hg, hr⟩ := spf_nat h1
    by_cases h3 : k < 0 ∨ (l.length : Int) ≤ k ∨ b < 0 ∨ (m : Int) ≤ b
    · exact topCut_2 w m t k b v l hn h hg ht h3
    · obtain ⟨z, rfl⟩ : ∃ z : Nat, b = z := ⟨b.toNat, by omega⟩
      obtain ⟨x, rfl⟩ : ∃ x : Nat, k = x := ⟨k.toNat, by omega⟩
      have hk : x < l.length := by omega
      have hz : z < m := by omega
      by_cases q0 : t = z
      · exact topCut_3a w m t x z v l hn h hg ht hk hz q0
      · by_cases q1 : BellP.far m (BellP.ct l) t z < 16
        · by_cases q2 : (SpfP.ups m (BellP.ct l) t z).length = 1
          · obtain ⟨uu, hF⟩ : ∃ uu, SpfP.ups m (BellP.ct l) t z = [uu] := List.length_eq_one_iff.1 q2
            by_cases r1 : uu = l[x]!.1
            · by_cases r2 : (z : Int) = l[x]!.2.1
              · exact topCut_3d w m t x z v l hn h hg ht hk hz q0 q1 uu hF r1 r2
              · exact topCut_3e w m t x z v l hn h hg ht hk hz q0 q1 uu hF r1 r2
            · by_cases r3 : uu = l[x]!.2.1
              · by_cases r4 : (z : Int) = l[x]!.1
                · exact topCut_3f w m t x z v l hn h hg ht hk hz q0 q1 uu hF r1 r3 r4
                · exact topCut_3g w m t x z v l hn h hg ht hk hz q0 q1 uu hF r1 r3 r4
              · exact topCut_3h w m t x z v l hn h hg ht hk hz q0 q1 uu hF r1 r3
          · exact topCut_3c w m t x z v l hn h hg ht hk hz q0 q1 q2
        · exact topCut_3b w m t x z v l hn h hg ht hk hz q0 q1
  · exact topCut_1 w n k a b v l (by omega) h h1
end Go.Proofs.Ytjgmehmhhplkaaa
