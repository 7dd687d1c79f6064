/-
  The closure of graph.Cut, slices.IndexFunc, slices.Clone and slices.DeleteFunc at links of which one at most is to go; what lay in memory stays.
-/
import Derived.Test.YtjgmehmhhplkaaaLinkRow
import Derived.Test.YtjgmehmhhplkaaaGraphNode
import Derived.Deep.RegionHeld3
import Derived.ChangeKeysEq
import Derived.Lib.SliceRun
import Derived.LoopN
namespace Go.Proofs.Ytjgmehmhhplkaaa
open Go.RowKit Go.Lib Go.WideMaps

/-- Two pairs compared. -/
theorem eqPair (x y x' y' : Int) (w : World) (d : Nat) : (Op.equalIn (d + 2) 55 (.agg #[.int .i64 x, .int .i64 y]) (.agg #[.int .i64 x', .int .i64 y'])).run Try.prog w = .ok (x == x' && y == y') w := by
  have hu : Try.prog.underlying 55 = some (.array 2 3) := by kernel_rfl
  have hpp : Try.prog.underlying 3 = some (.int .i64) := by kernel_rfl
  obtain ⟨i, hi⟩ := info_of_underlying hpp
  have hp : ∀ (xs : Array Value) (off : Nat) (q : Int), xs[off]? = some (.int .i64 q) → (part 3 xs off).run Try.prog w = .ok (.int .i64 q) w := by
    intro xs off q hx
    simp [part, isAgg, run_underlying hpp, hx]
  have hc : Try.prog.cellsOf 3 = 1 := by kernel_rfl
  have he : ∀ a b : Int, (Op.equalIn (d + 1) 3 (.int .i64 a) (.int .i64 b)).run Try.prog w = .ok (a == b) w := by
    intro a b
    simp [Op.equalIn, run_underlying hpp]
  rw [run_equalIn_array w (d + 1) #[.int .i64 x, .int .i64 y] #[.int .i64 x', .int .i64 y'] hu hi, hc]
  rw [show List.range 2 = [0, 1] from rfl]
  simp only [Op.eqItems, Sem.run_bind]
  rw [hp _ _ x rfl, Result.andThen_ok, hp _ _ x' rfl, Result.andThen_ok, he x x', Result.andThen_ok]
  cases hxx : (x == x') with
  | false => rfl
  | true =>
    simp only [Bool.not_true, Bool.false_eq_true, if_false, Bool.true_and, Sem.run_bind]
    rw [hp _ _ y rfl, Result.andThen_ok, hp _ _ y' rfl, Result.andThen_ok, he y y', Result.andThen_ok]
    cases (y == y') <;> rfl
theorem eqPair9 (x y x' y' : Int) (w : World) : (Op.equalIn 10000 55 (.agg #[.int .i64 x, .int .i64 y]) (.agg #[.int .i64 x', .int .i64 y'])).run Try.prog w = .ok (x == x' && y == y') w := eqPair x y x' y' w 9998
theorem tie_beq (a b : Int) (x : Lk) : (min x.1 x.2.1 == min a b && max x.1 x.2.1 == max a b) = bond a b x := by
  rw [tie_ends, Bool.eq_iff_iff]
  simp

/-- A link's block and the pair's: kept by a draw and by a call. -/
theorem heldP {w0 w w1 : World} {b c : Nat} {x y x' y' : Value} (h : w.cell? ⟨b, 0, none⟩ = some x ∧ w.cell? ⟨b, 1, none⟩ = some y ∧ w.cell? ⟨c, 0, none⟩ = some x' ∧ w.cell? ⟨c, 1, none⟩ = some y' ∧ Below w0.heap.size w0 w) (hb : Below w.heap.size w w1) :
    w1.cell? ⟨b, 0, none⟩ = some x ∧ w1.cell? ⟨b, 1, none⟩ = some y ∧ w1.cell? ⟨c, 0, none⟩ = some x' ∧ w1.cell? ⟨c, 1, none⟩ = some y' ∧ Below w0.heap.size w0 w1 := by
  obtain ⟨h1, h2, h3, h4, h5⟩ := h
  have l1 : b < w.heap.size := World.block_lt_of_cell? _ _ h1
  have l2 : c < w.heap.size := World.block_lt_of_cell? _ _ h3
  exact ⟨(hb.cell (p := ⟨b, 0, none⟩) l1).trans h1, (hb.cell (p := ⟨b, 1, none⟩) l1).trans h2, (hb.cell (p := ⟨c, 0, none⟩) l2).trans h3, (hb.cell (p := ⟨c, 1, none⟩) l2).trans h4, Below.two h5 hb⟩

set_option maxHeartbeats 1000000 in
set_option maxRecDepth 100000 in
theorem cut1_any (w : World) (pb : Nat) (a b : Int) (x : Lk) (h0 : w.cell? ⟨pb, 0, none⟩ = some (.int .i64 (min a b))) (h1 : w.cell? ⟨pb, 1, none⟩ = some (.int .i64 (max a b))) :
    Calls Try.prog 31 #[.agg #[.int .i64 x.1, .int .i64 x.2.1, .int .i64 x.2.2], .pointer (some ⟨pb, 0, none⟩)] w fun e w' => e = .returned (.bool (bond a b x)) ∧ Below w.heap.size w w' := by
  rw [← tie_beq]
  have hlt : pb < w.heap.size := World.block_lt_of_cell? _ _ h0
  have HB := (Below.refl w.heap.size w).alloc (Nat.le_refl _) (.cells #[.int .i64 x.1, .int .i64 x.2.1, .int .i64 x.2.2] 42)
  have g0 := (HB.cell (p := ⟨pb, 0, none⟩) hlt).trans h0
  have g1 := (HB.cell (p := ⟨pb, 1, none⟩) hlt).trans h1
  have HX := Box3.new w (.int .i64 x.1) (.int .i64 x.2.1) (.int .i64 x.2.2) 42
  have HH := Lib.hid (And.intro HX.c0 (And.intro HX.c1 (And.intro g0 (And.intro g1 HB))))
  have heq := eqPair9
  clear HX g0 g1 HB h0 h1
  go_enter Try.func31, Try.ntmps31
  go_wp2_with fail
  have hp := HH.out
  clear HH
  generalize w.alloc (.cells #[.int .i64 x.1, .int .i64 x.2.1, .int .i64 x.2.2] 42) = w1 at hp ⊢
  go_region_held3 (fun w' => w'.cell? ⟨w.heap.size, 0, none⟩ = some (.int .i64 x.1) ∧ w'.cell? ⟨w.heap.size, 1, none⟩ = some (.int .i64 x.2.1) ∧ w'.cell? ⟨pb, 0, none⟩ = some (.int .i64 (min a b)) ∧ w'.cell? ⟨pb, 1, none⟩ = some (.int .i64 (max a b)) ∧ Below w.heap.size w w') (first | assumption | (exact heldP (by assumption) ((Below.refl _ _).drew)) | go_keep)
    (first | (go_at_call 28; refine (ends_any _ _ _).mono ?_; rintro e w2 ⟨rfl, hb2⟩; have K := heldP (by assumption) hb2; clear hb2))
  clear hp
  go_wp2_with fail
  go_ret
  exact ⟨rfl, K.2.2.2.2⟩

set_option maxHeartbeats 1000000 in
set_option maxRecDepth 100000 in
theorem cloneK_some (w : World) (a : Addr) (c : Nat) (l : List Lk) (hl : l.length * 24 ≤ 140737488355328) (hc : ∀ j u, (cellsK l)[j]? = some u → w.cell? (a.add j) = some u) :
    Calls Try.prog 30 #[.slice (some a) l.length c] w fun x w' => ∃ v', x = .returned v' ∧ OwnK w' w.heap.size v' l ∧ Below w.heap.size w w' := by
  have A := Lib.hid hc; clear hc
  have hi := infoK_is
  obtain ⟨z, hz⟩ := infoK_zero
  have q : ∀ (w : World) (a : Option Addr) (n c n' c' : Nat), (binOp .eql 22 (.slice a n c) (.slice none n' c')).run Try.prog w = .ok (.bool a.isNone) w := fun w a n c n' c' => Lib.run_eql_slice_nil w _ _ a n c n' c' Try.underlying22
  go_enter Try.func30, Try.ntmps30
  go_wp2_with (at_builtin; refine wpList_append_own _ rfl _ _ 22 rfl w.heap.size 42 infoK z 3 24 (by kernel_rfl) hi hz.1 infoK_size infoK_bytes hz.2 (by omega) _ _ _ rfl (World.ownsRow_made w #[] 0 (Nat.le_refl _) (Nat.zero_le _) (by simp)) a l.length c (cellsK l) rfl ?kc1 ?kc2 ?kc3 ?kc4 ?kc5 ?kc6 ?_)
  case kc1 => rw [cellsK_len]
  case kc2 =>
    intro j u hj
    exact Lib.cell?_alloc_some _ (A.out j u hj)
  case kc3 => exact cellsK_one l
  case kc4 => simp only [maxLen]; omega
  case kc5 => omega
  case kc6 => simp
  intro v' w1 hown hgrow _
  go_wp2
  go_ret
  exact ⟨v', rfl, by simpa [OwnK] using hown, ((Below.refl _ w).alloc (Nat.le_refl _) _).grown hgrow (by simp) (by intro k hk; simp [Value.ownBlock] at hk; omega)⟩
set_option maxHeartbeats 1000000 in
set_option maxRecDepth 100000 in
theorem cloneK_nil (w : World) (n c : Nat) :
    Calls Try.prog 30 #[.slice none n c] w fun x w' => x = .returned (.slice none 0 0) ∧ w' = w := by
  have q : ∀ (w : World) (a : Option Addr) (n c n' c' : Nat), (binOp .eql 22 (.slice a n c) (.slice none n' c')).run Try.prog w = .ok (.bool a.isNone) w := fun w a n c n' c' => Lib.run_eql_slice_nil w _ _ a n c n' c' Try.underlying22
  go_enter Try.func30, Try.ntmps30
  go_wp2_with fail
  go_ret
  exact ⟨rfl, rfl⟩
/-- slices.Clone at every list of links. -/
theorem cloneK_any (w : World) (v : Value) (l : List Lk) (hl : l.length * 24 ≤ 140737488355328) (h : ArgK w v l) :
    Calls Try.prog 30 #[v] w fun x w' => ∃ v', x = .returned v' ∧ OwnK w' w.heap.size v' l ∧ Below w.heap.size w w' := by
  obtain ⟨p, c, rfl, h⟩ := h
  rcases h with rfl | ⟨b, off, rfl, _, hs⟩
  · cases p with
    | none =>
      refine (cloneK_nil w _ c).mono ?_
      rintro x w1 ⟨rfl, rfl⟩
      exact ⟨_, rfl, OwnK.nil _ _, Below.refl _ _⟩
    | some a => exact cloneK_some w a c [] hl (fun j u hu => by simp [cellsK] at hu)
  · exact cloneK_some w ⟨b, off, none⟩ c l hl (fun j u hu => by rw [Addr.add_lit]; exact hs.cells j u hu)

/-- What the search for the link between two nodes tells. -/
def idxK (a b : Int) : List Lk → Nat → Int
  | [], _ => -1
  | x :: r, k => if bond a b x = true then (k : Int) else idxK a b r (k + 1)
/-- The pair in its block. -/
def PairAt (w : World) (pb : Nat) (a b : Int) : Prop := w.cell? ⟨pb, 0, none⟩ = some (.int .i64 (min a b)) ∧ w.cell? ⟨pb, 1, none⟩ = some (.int .i64 (max a b))
theorem PairAt.below {w w1 : World} {pb m : Nat} {a b : Int} (h : PairAt w pb a b) (hb : Below m w w1) (hm : pb < m) : PairAt w1 pb a b :=
  ⟨(hb.cell (p := ⟨pb, 0, none⟩) hm).trans h.1, (hb.cell (p := ⟨pb, 1, none⟩) hm).trans h.2⟩
theorem PairAt.lt {w : World} {pb : Nat} {a b : Int} (h : PairAt w pb a b) : pb < w.heap.size := World.block_lt_of_cell? _ _ h.1

set_option maxHeartbeats 1000000 in
set_option maxRecDepth 100000 in
theorem indexK_some (w : World) (g off cap pb : Nat) (a b : Int) (l : List Lk) (hn : l.length < 4611686018427387904) (hg : g < w.heap.size) (hs : SeenK w g off l) (hp : PairAt w pb a b) :
    Calls Try.prog 44 #[.slice (some ⟨g, off, none⟩) l.length cap, .func (.func 31) #[] #[.pointer (some ⟨pb, 0, none⟩)]] w fun e w' => e = .returned (.int .i64 (idxK a b l 0)) ∧ Below w.heap.size w w' := by
  have HS := Lib.hid hs; clear hs
  have HP := Lib.hid hp; clear hp
  go_enter Try.func44, Try.ntmps44
  go_wp2_with fail
  go_loopw [8] (fun v wr => ∃ (k : Nat), v = .int .i64 k ∧ k ≤ l.length ∧ Hid (Below w.heap.size w wr) ∧ Hid (idxK a b (l.drop k) k = idxK a b l 0)) (fun v _ => l.length - (RowKit.intOf v).toNat)
  case atStart => exact ⟨0, rfl, Nat.zero_le _, Lib.hid (Below.refl _ _), Lib.hid rfl⟩
  case round =>
    obtain ⟨k, rfl, hk, hB, HE⟩ := hrel
    by_cases hkn : k < l.length
    · have S := HS.out.below hB.out hg
      have s0 : wr.cell? ⟨g, off + k * 3, none⟩ = some (.int .i64 l[k]!.1) := S.c0 k hkn
      have s1 : wr.cell? ⟨g, off + k * 3 + 1, none⟩ = some (.int .i64 l[k]!.2.1) := S.c1 k hkn
      have s2 : wr.cell? ⟨g, off + k * 3 + 2, none⟩ = some (.int .i64 l[k]!.2.2) := S.c2 k hkn
      have hd := Lib.hid (show l.drop k = l[k]! :: l.drop (k + 1) by rw [getElem!_pos l k hkn]; exact List.drop_eq_getElem_cons hkn)
      clear S
      generalize l[k]! = x at s0 s1 s2 hd
      have P := HP.out.below hB.out HP.out.lt
      have HC := Lib.hid (cut1_any wr pb a b x P.1 P.2)
      clear P
      by_cases ht : bond a b x = true
      · rw [ht] at HC
        have hE : idxK a b l 0 = (k : Int) := by rw [← HE.out, hd.out, idxK, if_pos ht]
        have HE2 := Lib.hid hE; clear hE
        go_wp2_with fail
        refine HC.out.mono ?_
        rintro e w1 ⟨rfl, hb1⟩
        clear s0 s1 s2
        go_wp2_with fail
        go_ret
        exact ⟨by rw [HE2.out]; rfl, Below.two hB.out hb1⟩
      · have ht' : bond a b x = false := by simpa using ht
        rw [ht'] at HC
        go_wp2_with fail
        refine HC.out.mono ?_
        rintro e w1 ⟨rfl, hb1⟩
        clear s0 s1 s2
        go_wp2_with fail
        go_roundw
        case rel => exact ⟨k + 1, by go_num, by omega, Lib.hid (Below.two hB.out hb1), Lib.hid (by rw [← HE.out, hd.out, idxK, if_neg ht])⟩
        case measure => simp [RowKit.intOf]; omega
    · have e0 : idxK a b l 0 = -1 := by rw [← HE.out, List.drop_eq_nil_of_le (by omega)]; rfl
      go_wp2_with fail
      go_ret
      exact ⟨by rw [e0]; rfl, hB.out⟩
set_option maxHeartbeats 400000 in
set_option maxRecDepth 100000 in
theorem indexK_none (w : World) (p : Option Addr) (c : Nat) (f : Value) :
    Calls Try.prog 44 #[.slice p 0 c, f] w fun e w' => e = .returned (.int .i64 (-1)) ∧ Below w.heap.size w w' := by
  go_enter Try.func44, Try.ntmps44
  go_wp2_with fail
  refine wp_loop_rounds 1 ?_
  rw [rounds_succ]
  go_wp2_with fail
  go_ret
  exact ⟨rfl, Below.refl _ _⟩
end Go.Proofs.Ytjgmehmhhplkaaa
