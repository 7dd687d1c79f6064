/-
  cover.join at a list of right networks that the call owns: its last two are replaced by the one whose halves they are, as often as there is one.
-/
import Derived.Test.YtbdmfcnlfmnmdaaDoorCoverList
import Derived.Test.YtbdmfcnlfmnmdaaDoorNetApp
import Derived.Test.YtbdmfcnlfmnmdaaDoorCoverWhole
import Derived.Test.YtbdmfcnlfmnmdaaDoorCoverSort
import Derived.Deep.RegionHeld3
import Derived.Deep.CutBlock
import Derived.StillTailTactics
import Derived.Lib.SliceRun
import Derived.Lib.Walk
namespace Go.Proofs.YtbdmfcnlfmnmdaaDoor
open Go.RowKit Go.Lib

/-- The last two joined, as often as may be: on the list from its end. -/
def joinR : List Nt → List Nt
  | [] => []
  | [x] => [x]
  | x :: y :: r => match wh y x with
    | some u => joinR (u :: r)
    | none => x :: y :: r
termination_by l => l.length
theorem joinR_go (x y u : Nt) (r : List Nt) (h : wh y x = some u) : joinR (x :: y :: r) = joinR (u :: r) := by
  rw [joinR, h]
theorem joinR_stop (x y : Nt) (r : List Nt) (h : wh y x = none) : joinR (x :: y :: r) = x :: y :: r := by
  rw [joinR, h]
theorem joinR_few (l : List Nt) (h : l.length ≤ 1) : joinR l = l := by
  match l, h with
  | [], _ => rw [joinR]
  | [x], _ => rw [joinR]
theorem wh_ok (x y u : Nt) (hx : x.1 < 4294967296) (h0 : PrefP.chk x.1 x.2 = 0) (h : wh x y = some u) : u.1 < 4294967296 ∧ PrefP.chk u.1 u.2 = 0 := by
  obtain ⟨a, z⟩ := x
  obtain ⟨n, hz, hn, hc⟩ := PrefP.chk_zero a z h0
  simp only at hz hx
  subst hz
  cases n with
  | zero => rw [wh_zero _ _ rfl] at h; simp at h
  | succ m =>
    rw [show ((m + 1 : Nat) : Int) = (m : Int) + 1 by omega] at h
    by_cases h1 : PrefP.cut a m = a
    · by_cases h2 : y.1 = a ||| PrefP.bit m ∧ y.2 = (m : Int) + 1
      · have ey : y = (a ||| PrefP.bit m, (m : Int) + 1) := Prod.ext h2.1 h2.2
        subst ey
        rw [wh_yes a m h1] at h
        have e := Option.some.inj h
        subst e
        exact ⟨hx, PrefP.chk_ok a m (by omega) h1⟩
      · rw [wh_no2 a m y h2] at h; simp at h
    · rw [wh_no1 a m y h1] at h; simp at h
/-- A list of two or more: its last two. -/
theorem last_two (l : List Nt) (h : 2 ≤ l.length) : ∃ pre y x, l = pre ++ [y, x] := by
  refine ⟨l.take (l.length - 2), l[l.length - 2]!, l[l.length - 1]!, ?_⟩
  have h1 := List.take_append_drop (l.length - 2) l
  have h2 : l.drop (l.length - 2) = [l[l.length - 2]!, l[l.length - 1]!] := by
    rw [List.drop_eq_getElem_cons (by omega), List.drop_eq_getElem_cons (by omega), List.drop_eq_nil_of_le (by omega), getElem!_pos l (l.length - 2) (by omega), getElem!_pos l (l.length - 1) (by omega)]
    congr 2
    congr 1
    omega
  rw [← h2, h1]

set_option maxHeartbeats 4000000 in
set_option maxRecDepth 100000 in
theorem join_any (base : Nat) (w : World) (v : Value) (l : List Nt) (hl : l.length ≤ 64) (hbase : base ≤ w.heap.size) (hown : Own w base v l) (hok : ∀ x ∈ l, x.1 < 4294967296 ∧ PrefP.chk x.1 x.2 = 0) :
    Calls Tryd.prog 40 #[v] w fun e w' => ∃ v', e = .returned v' ∧ Own w' base v' (joinR l.reverse).reverse ∧ Below base w w' := by
  have HOK := Lib.hid hok; clear hok
  have HW := Lib.hid hown; clear hown
  have hcl := cellsL_len l
  go_enter Tryd.func40, Tryd.ntmps40
  go_wp2_with fail
  go_loopw [0] (fun v wr => ∃ (cur : List Nt), cur.length ≤ 64 ∧ Hid (Own wr base v cur) ∧ Hid (Below base w wr) ∧ Hid (∀ x ∈ cur, x.1 < 4294967296 ∧ PrefP.chk x.1 x.2 = 0) ∧ Hid (joinR cur.reverse = joinR l.reverse)) (fun v _ => match v with | .slice _ n _ => n | _ => 0)
  case atStart => exact ⟨l, hl, HW, Lib.hid (Below.refl _ _), HOK, Lib.hid rfl⟩
  case round =>
    clear HW HOK
    obtain ⟨cur, hcur, HW, HB, HOK, HJ⟩ := hrel
    obtain ⟨_, ⟨rfl, hn⟩ | ⟨g, cap, cs, rfl, hg0, hg, hcap, hmax, hsz, hcs⟩⟩ := id HW.out
    · have e0 : cur = [] := List.length_eq_zero_iff.1 hn
      subst e0
      go_wp2_with fail
      go_ret
      exact ⟨_, rfl, by rw [← HJ.out, joinR_few _ (by simp)]; exact HW.out, HB.out⟩
    · by_cases h2 : 2 ≤ cur.length
      · obtain ⟨pre, y, x, e0⟩ := last_two cur h2
        have en : cur.length = pre.length + 2 := by rw [e0]; simp
        have hs : Seen wr g 0 cur := Own.seen hg hcs hg0 hcap
        have gy : cur[pre.length]! = y := by rw [e0]; simp
        have gx : cur[pre.length + 1]! = x := by rw [e0]; simp
        have hgl : g < wr.heap.size := (Array.getElem?_eq_some_iff.1 hg).1
        generalize he : pre.length = e at en gy gx
        have y0 : wr.cell? ⟨g, e * 2, none⟩ = some (.int .u32 (y.1 : Int)) := by have := hs.c0 e (by omega); rwa [gy, Nat.zero_add] at this
        have y1 : wr.cell? ⟨g, e * 2 + 1, none⟩ = some (.int .i64 y.2) := by have := hs.c1 e (by omega); rwa [gy, Nat.zero_add] at this
        obtain ⟨k, hk⟩ : ∃ k, k = e + 1 := ⟨_, rfl⟩
        have x0 : wr.cell? ⟨g, k * 2, none⟩ = some (.int .u32 (x.1 : Int)) := by have := hs.c0 (e + 1) (by omega); rwa [gx, Nat.zero_add, ← hk] at this
        have x1 : wr.cell? ⟨g, k * 2 + 1, none⟩ = some (.int .i64 x.2) := by have := hs.c1 (e + 1) (by omega); rwa [gx, Nat.zero_add, ← hk] at this
        have HJJ : Hid (∀ w', Below wr.heap.size wr w' → (w'.cell? ⟨g, e * 2, none⟩ = some (.int .u32 (y.1 : Int)) ∧ w'.cell? ⟨g, e * 2 + 1, none⟩ = some (.int .i64 y.2) ∧ w'.cell? ⟨g, k * 2, none⟩ = some (.int .u32 (x.1 : Int)) ∧ w'.cell? ⟨g, k * 2 + 1, none⟩ = some (.int .i64 x.2) ∧ Below wr.heap.size wr w')) :=
          Lib.hid fun w' hb => ⟨(hb.cell (p := ⟨g, e * 2, none⟩) hgl).trans y0, (hb.cell (p := ⟨g, e * 2 + 1, none⟩) hgl).trans y1, (hb.cell (p := ⟨g, k * 2, none⟩) hgl).trans x0, (hb.cell (p := ⟨g, k * 2 + 1, none⟩) hgl).trans x1, hb⟩
        have oky := HOK.out y (by rw [e0]; simp)
        have HC := Lib.hid (whole_any y x oky.1 oky.2)
        obtain ⟨u, ok, hu, hyes, hno⟩ : ∃ (u : Nt) (ok : Bool), whV (wh y x) = .tuple #[.agg #[.int .u32 (u.1 : Int), .int .i64 u.2], .bool ok] ∧ (ok = true → wh y x = some u) ∧ (ok = false → wh y x = none) := by
          cases hq : wh y x with
          | none => exact ⟨(0, 0), false, rfl, by simp, by simp⟩
          | some u => exact ⟨u, true, rfl, by simp, by simp⟩
        have HYY := Lib.hid hyes; have HNN := Lib.hid hno
        clear y0 y1 x0 x1 hs gy gx hcs hg hyes hno
        have en' : ((cur.length : Int) - 2) = (e : Int) := by omega
        have b1 : e < cur.length := by omega
        have b2 : k < cur.length := by omega
        have hw1 : IntKind.i64.wrap ((e : Int) + 1) = (k : Int) := by simp [IntKind.wrap, IntKind.bits, IntKind.signed]; omega
        have HK1 := Lib.hid hk; clear hk
        have HEN := Lib.hid en; clear en
        have HE0 := Lib.hid e0; clear e0
        go_upto_region 3 with fail
        go_cut [4, 5] from 6 to 32 (fun s4 s5 wc => ∃ B, s4 = .pointer (some ⟨B, 0, none⟩) ∧ s5 = .bool ok ∧ wr.heap.size ≤ B ∧ Hid (Box wc B (.int .u32 (u.1 : Int)) (.int .i64 u.2)) ∧ Hid (Below wr.heap.size wr wc))
        case first =>
          try rw [en']
          refine wp_region_held_drew (S := (fun w' => w'.cell? ⟨g, e * 2, none⟩ = some (.int .u32 (y.1 : Int)) ∧ w'.cell? ⟨g, e * 2 + 1, none⟩ = some (.int .i64 y.2) ∧ w'.cell? ⟨g, k * 2, none⟩ = some (.int .u32 (x.1 : Int)) ∧ w'.cell? ⟨g, k * 2 + 1, none⟩ = some (.int .i64 x.2) ∧ Below wr.heap.size wr w')) (by kernel_rfl) (HJJ.out _ ((Below.refl _ _).drew)) (fun hHeld => ?_)
          refine wpAnyH_take (i := 0) (oi := { dst := some 13, op := Op.move (Operand.tmp 0), type := 22, pos := "cover.go:54", after := #[], guard := none }) (v := ?_) rfl (by kernel_rfl) (by kernel_rfl) (by kernel_rfl) (fun _ _ _ h => h) (Or.inl ⟨by rfl, ?_⟩) hHeld ?_
          rotate_left
          · (intro w hSw; (try dsimp only at hSw); go_simp; first | done | with_reducible rfl)
          simp only [Act.put, List.setIfInBounds_toArray, List.set_cons_zero, List.set_cons_succ]
          refine wpAnyH_take (i := 1) (oi := { dst := some 14, op := Op.move (Operand.tmp 3), type := 3, pos := "cover.go:54", after := #[], guard := none }) (v := ?_) rfl (by kernel_rfl) (by kernel_rfl) (by kernel_rfl) (fun _ _ _ h => h) (Or.inl ⟨by rfl, ?_⟩) hHeld ?_
          rotate_left
          · (intro w hSw; (try dsimp only at hSw); go_simp; first | done | with_reducible rfl)
          simp only [Act.put, List.setIfInBounds_toArray, List.set_cons_zero, List.set_cons_succ]
          refine wpAnyH_take (i := 2) (oi := { dst := some 15, op := Op.indexAddr 22 (Operand.tmp 13) (Operand.tmp 14), type := 0, pos := "cover.go:54", after := #[{ on := 0, ground := Ground.data }, { on := 1, ground := Ground.data }], guard := none }) (v := ?_) rfl (by kernel_rfl) (by kernel_rfl) (by kernel_rfl) (fun _ _ _ h => h) (Or.inl ⟨by rfl, ?_⟩) hHeld ?_
          rotate_left
          · (intro w hSw; (try dsimp only at hSw); go_simp; first | done | with_reducible rfl)
          simp only [Act.put, List.setIfInBounds_toArray, List.set_cons_zero, List.set_cons_succ]
          refine wpAnyH_take (i := 3) (oi := { dst := some 16, op := Op.load 32 (Operand.tmp 15), type := 32, pos := "cover.go:54", after := #[{ on := 2, ground := Ground.data }], guard := none }) (v := ?_) rfl (by kernel_rfl) (by kernel_rfl) (by kernel_rfl) (fun _ _ _ h => h) (Or.inl ⟨by rfl, ?_⟩) hHeld ?_
          rotate_left
          · (intro w hSw; (try dsimp only at hSw); go_simp; first | done | with_reducible rfl)
          simp only [Act.put, List.setIfInBounds_toArray, List.set_cons_zero, List.set_cons_succ]
          refine wpAnyH_take (i := 4) (oi := { dst := some 17, op := Op.move (Operand.tmp 0), type := 22, pos := "cover.go:54", after := #[], guard := none }) (v := ?_) rfl (by kernel_rfl) (by kernel_rfl) (by kernel_rfl) (fun _ _ _ h => h) (Or.inl ⟨by rfl, ?_⟩) hHeld ?_
          rotate_left
          · (intro w hSw; (try dsimp only at hSw); go_simp; first | done | with_reducible rfl)
          simp only [Act.put, List.setIfInBounds_toArray, List.set_cons_zero, List.set_cons_succ]
          refine wpAnyH_take (i := 5) (oi := { dst := some 18, op := Op.move (Operand.tmp 3), type := 3, pos := "cover.go:54", after := #[], guard := none }) (v := ?_) rfl (by kernel_rfl) (by kernel_rfl) (by kernel_rfl) (fun _ _ _ h => h) (Or.inl ⟨by rfl, ?_⟩) hHeld ?_
          rotate_left
          · (intro w hSw; (try dsimp only at hSw); go_simp; first | done | with_reducible rfl)
          simp only [Act.put, List.setIfInBounds_toArray, List.set_cons_zero, List.set_cons_succ]
          refine wpAnyH_take (i := 6) (oi := { dst := some 19, op := Op.binOp BinOp.add 3 (Operand.tmp 18) (Operand.const (Value.int IntKind.i64 1)) 3, type := 3, pos := "cover.go:54", after := #[{ on := 5, ground := Ground.data }], guard := none }) (v := ?_) rfl (by kernel_rfl) (by kernel_rfl) (by kernel_rfl) (fun _ _ _ h => h) (Or.inl ⟨by rfl, ?_⟩) hHeld ?_
          rotate_left
          · (intro w hSw; (try dsimp only at hSw); go_simp; first | done | with_reducible rfl)
          simp only [Act.put, List.setIfInBounds_toArray, List.set_cons_zero, List.set_cons_succ]
          refine wpAnyH_take (i := 7) (oi := { dst := some 20, op := Op.indexAddr 22 (Operand.tmp 17) (Operand.tmp 19), type := 0, pos := "cover.go:54", after := #[{ on := 4, ground := Ground.data }, { on := 6, ground := Ground.data }], guard := none }) (v := ?_) rfl (by kernel_rfl) (by kernel_rfl) (by kernel_rfl) (fun _ _ _ h => h) (Or.inl ⟨by rfl, ?_⟩) hHeld ?_
          rotate_left
          · (intro w hSw; (try dsimp only at hSw); go_simp; first | done | with_reducible rfl)
          simp only [Act.put, List.setIfInBounds_toArray, List.set_cons_zero, List.set_cons_succ]
          refine wpAnyH_take (i := 8) (oi := { dst := some 21, op := Op.load 32 (Operand.tmp 20), type := 32, pos := "cover.go:54", after := #[{ on := 7, ground := Ground.data }], guard := none }) (v := ?_) rfl (by kernel_rfl) (by kernel_rfl) (by kernel_rfl) (fun _ _ _ h => h) (Or.inl ⟨by rfl, ?_⟩) hHeld ?_
          rotate_left
          · (intro w hSw; (try dsimp only at hSw); go_simp; first | done | with_reducible rfl)
          simp only [Act.put, List.setIfInBounds_toArray, List.set_cons_zero, List.set_cons_succ]
          refine wpAnyH_ready (rs := [9, 13]) (by kernel_rfl) (by simp) ?_
          refine (AllReadyH.cons (o := { dst := some 22, op := Op.call { callee := Callee.value (Operand.func 50), args := #[Operand.tmp 16, Operand.tmp 21], argTypes := #[32, 32] }, type := 85, pos := "cover.go:54", after := #[{ on := 3, ground := Ground.data }, { on := 8, ground := Ground.data }], guard := none }) rfl (fun K hK => ?_) (AllReadyH.cons (o := { dst := some 4, op := Op.alloc 32, type := 0, pos := "cover.go:54", after := #[], guard := none }) rfl (fun K hK => ?_) AllReadyH.nil))
          · go_simp
            go_at_call 50
            refine (HC.out _).mono ?_
            rintro e1 v1 ⟨rfl, hq⟩
            rw [hu]
            have bel := Below.two (hHeld.2.2.2.2) hq
            have KK9 := HJJ.out _ bel
            clear hHeld hq
            go_wp2_with fail
            refine hK.out _ _ KK9 (fun hHeld => ?_)
            clear hK K
            refine wpAnyH_take (i := 10) (oi := { dst := some 12, op := Op.move (Operand.tmp 22), type := 85, pos := "cover.go:54", after := #[{ on := 9, ground := Ground.data }], guard := none }) (v := ?_) rfl (by kernel_rfl) (by kernel_rfl) (by kernel_rfl) (fun _ _ _ h => h) (Or.inl ⟨by rfl, ?_⟩) hHeld ?_
            rotate_left
            · (intro w hSw; (try dsimp only at hSw); go_simp; first | done | with_reducible rfl)
            simp only [Act.put, List.setIfInBounds_toArray, List.set_cons_zero, List.set_cons_succ]
            refine wpAnyH_take (i := 11) (oi := { dst := some 23, op := Op.extract (Operand.tmp 12) 0, type := 32, pos := "cover.go:54", after := #[{ on := 10, ground := Ground.data }], guard := none }) (v := ?_) rfl (by kernel_rfl) (by kernel_rfl) (by kernel_rfl) (fun _ _ _ h => h) (Or.inl ⟨by rfl, ?_⟩) hHeld ?_
            rotate_left
            · (intro w hSw; (try dsimp only at hSw); go_simp; first | done | with_reducible rfl)
            simp only [Act.put, List.setIfInBounds_toArray, List.set_cons_zero, List.set_cons_succ]
            refine wpAnyH_take (i := 12) (oi := { dst := some 24, op := Op.extract (Operand.tmp 12) 1, type := 4, pos := "cover.go:54", after := #[{ on := 10, ground := Ground.data }, { on := 14, ground := Ground.gcOnly Departure.lateStores }], guard := none }) (v := ?_) rfl (by kernel_rfl) (by kernel_rfl) (by kernel_rfl) (fun _ _ _ h => h) (Or.inl ⟨by rfl, ?_⟩) hHeld ?_
            rotate_left
            · (intro w hSw; (try dsimp only at hSw); go_simp; first | done | with_reducible rfl)
            simp only [Act.put, List.setIfInBounds_toArray, List.set_cons_zero, List.set_cons_succ]
            refine wpAnyH_ready (rs := [13]) (by kernel_rfl) (by simp) ?_
            refine (AllReadyH.cons (o := { dst := some 4, op := Op.alloc 32, type := 0, pos := "cover.go:54", after := #[], guard := none }) rfl (fun K hK => ?_) AllReadyH.nil)
            go_simp
            have KK13 := HJJ.out _ ((hHeld.2.2.2.2).alloc (hHeld.2.2.2.2).size (.cells #[.int .u32 0, .int .i64 0] 32))
            clear hHeld
            refine hK.out _ _ KK13 (fun hHeld => ?_)
            clear hK K
            refine wpAnyH_ready (rs := [14]) (by kernel_rfl) (by simp) ?_
            refine (AllReadyH.cons (o := { dst := none, op := Op.store 32 (Operand.tmp 4) (Operand.tmp 23), type := 0, pos := "cover.go:54", after := #[{ on := 13, ground := Ground.data }, { on := 11, ground := Ground.data }, { on := 9, ground := Ground.chain }, { on := 0, ground := Ground.phase }, { on := 1, ground := Ground.phase }, { on := 2, ground := Ground.phase }, { on := 3, ground := Ground.phase }, { on := 4, ground := Ground.phase }, { on := 5, ground := Ground.phase }, { on := 6, ground := Ground.phase }, { on := 7, ground := Ground.phase }, { on := 8, ground := Ground.phase }, { on := 9, ground := Ground.phase }, { on := 10, ground := Ground.phase }, { on := 11, ground := Ground.phase }, { on := 12, ground := Ground.textOnly Departure.lateStores }, { on := 13, ground := Ground.phase }], guard := none }) rfl (fun K hK => ?_) AllReadyH.nil)
            go_simp
            have KK14 := HJJ.out _ ((bel).alloc bel.size (.cells #[.int .u32 (u.1 : Int), .int .i64 u.2] 32))
            clear hHeld
            refine hK.out _ _ KK14 (fun hHeld => ?_)
            clear hK K
            refine wpAnyH_take (i := 15) (oi := { dst := some 5, op := Op.assign (Operand.tmp 24), type := 4, pos := "cover.go:54", after := #[{ on := 12, ground := Ground.data }, { on := 14, ground := Ground.chain }, { on := 0, ground := Ground.phase }, { on := 1, ground := Ground.phase }, { on := 2, ground := Ground.phase }, { on := 3, ground := Ground.phase }, { on := 4, ground := Ground.phase }, { on := 5, ground := Ground.phase }, { on := 6, ground := Ground.phase }, { on := 7, ground := Ground.phase }, { on := 8, ground := Ground.phase }, { on := 9, ground := Ground.phase }, { on := 10, ground := Ground.phase }, { on := 11, ground := Ground.phase }, { on := 12, ground := Ground.phase }, { on := 13, ground := Ground.phase }, { on := 14, ground := Ground.phase }], guard := none }) (v := ?_) rfl (by kernel_rfl) (by kernel_rfl) (by kernel_rfl) (fun _ _ _ h => h) (Or.inl ⟨by rfl, ?_⟩) hHeld ?_
            rotate_left
            · (intro w hSw; (try dsimp only at hSw); go_simp; first | done | with_reducible rfl)
            simp only [Act.put, List.setIfInBounds_toArray, List.set_cons_zero, List.set_cons_succ]
            refine wpAnyH_done (by kernel_rfl) ?_ _
            go_wp2_with fail
            go_meet
            case rel => exact ⟨v1.heap.size, rfl, rfl, bel.size, Lib.hid (Box.new v1 _ _ _), Lib.hid (bel.alloc bel.size _)⟩
          · go_simp
            have KK13 := HJJ.out _ ((hHeld.2.2.2.2).alloc (hHeld.2.2.2.2).size (.cells #[.int .u32 0, .int .i64 0] 32))
            clear hHeld
            refine hK.out _ _ KK13 (fun hHeld => ?_)
            clear hK K
            refine wpAnyH_ready (rs := [9]) (by kernel_rfl) (by simp) ?_
            refine (AllReadyH.cons (o := { dst := some 22, op := Op.call { callee := Callee.value (Operand.func 50), args := #[Operand.tmp 16, Operand.tmp 21], argTypes := #[32, 32] }, type := 85, pos := "cover.go:54", after := #[{ on := 3, ground := Ground.data }, { on := 8, ground := Ground.data }], guard := none }) rfl (fun K hK => ?_) AllReadyH.nil)
            go_simp
            go_at_call 50
            refine (HC.out _).mono ?_
            rintro e1 v1 ⟨rfl, hq⟩
            obtain ⟨BX, bel⟩ := box1d hq; clear hq
            rw [hu]
            have KK9 := HJJ.out _ bel
            clear hHeld
            obtain ⟨l6, k0, k1, j0, j1⟩ := id BX
            go_wp2_with fail
            refine hK.out _ _ KK9 (fun hHeld => ?_)
            clear hK K
            refine wpAnyH_take (i := 10) (oi := { dst := some 12, op := Op.move (Operand.tmp 22), type := 85, pos := "cover.go:54", after := #[{ on := 9, ground := Ground.data }], guard := none }) (v := ?_) rfl (by kernel_rfl) (by kernel_rfl) (by kernel_rfl) (fun _ _ _ h => h) (Or.inl ⟨by rfl, ?_⟩) hHeld ?_
            rotate_left
            · (intro w hSw; (try dsimp only at hSw); go_simp; first | done | with_reducible rfl)
            simp only [Act.put, List.setIfInBounds_toArray, List.set_cons_zero, List.set_cons_succ]
            refine wpAnyH_take (i := 11) (oi := { dst := some 23, op := Op.extract (Operand.tmp 12) 0, type := 32, pos := "cover.go:54", after := #[{ on := 10, ground := Ground.data }], guard := none }) (v := ?_) rfl (by kernel_rfl) (by kernel_rfl) (by kernel_rfl) (fun _ _ _ h => h) (Or.inl ⟨by rfl, ?_⟩) hHeld ?_
            rotate_left
            · (intro w hSw; (try dsimp only at hSw); go_simp; first | done | with_reducible rfl)
            simp only [Act.put, List.setIfInBounds_toArray, List.set_cons_zero, List.set_cons_succ]
            refine wpAnyH_take (i := 12) (oi := { dst := some 24, op := Op.extract (Operand.tmp 12) 1, type := 4, pos := "cover.go:54", after := #[{ on := 10, ground := Ground.data }, { on := 14, ground := Ground.gcOnly Departure.lateStores }], guard := none }) (v := ?_) rfl (by kernel_rfl) (by kernel_rfl) (by kernel_rfl) (fun _ _ _ h => h) (Or.inl ⟨by rfl, ?_⟩) hHeld ?_
            rotate_left
            · (intro w hSw; (try dsimp only at hSw); go_simp; first | done | with_reducible rfl)
            simp only [Act.put, List.setIfInBounds_toArray, List.set_cons_zero, List.set_cons_succ]
            refine wpAnyH_ready (rs := [14]) (by kernel_rfl) (by simp) ?_
            refine (AllReadyH.cons (o := { dst := none, op := Op.store 32 (Operand.tmp 4) (Operand.tmp 23), type := 0, pos := "cover.go:54", after := #[{ on := 13, ground := Ground.data }, { on := 11, ground := Ground.data }, { on := 9, ground := Ground.chain }, { on := 0, ground := Ground.phase }, { on := 1, ground := Ground.phase }, { on := 2, ground := Ground.phase }, { on := 3, ground := Ground.phase }, { on := 4, ground := Ground.phase }, { on := 5, ground := Ground.phase }, { on := 6, ground := Ground.phase }, { on := 7, ground := Ground.phase }, { on := 8, ground := Ground.phase }, { on := 9, ground := Ground.phase }, { on := 10, ground := Ground.phase }, { on := 11, ground := Ground.phase }, { on := 12, ground := Ground.textOnly Departure.lateStores }, { on := 13, ground := Ground.phase }], guard := none }) rfl (fun K hK => ?_) AllReadyH.nil)
            go_simp
            have KK14 := HJJ.out _ ((bel.setCell (p := ⟨wr.heap.size, 0, none⟩) (Nat.le_refl _) (.int .u32 (u.1 : Int))).setCell (p := ⟨wr.heap.size, 1, none⟩) (Nat.le_refl _) (.int .i64 u.2))
            clear hHeld
            refine hK.out _ _ KK14 (fun hHeld => ?_)
            clear hK K
            refine wpAnyH_take (i := 15) (oi := { dst := some 5, op := Op.assign (Operand.tmp 24), type := 4, pos := "cover.go:54", after := #[{ on := 12, ground := Ground.data }, { on := 14, ground := Ground.chain }, { on := 0, ground := Ground.phase }, { on := 1, ground := Ground.phase }, { on := 2, ground := Ground.phase }, { on := 3, ground := Ground.phase }, { on := 4, ground := Ground.phase }, { on := 5, ground := Ground.phase }, { on := 6, ground := Ground.phase }, { on := 7, ground := Ground.phase }, { on := 8, ground := Ground.phase }, { on := 9, ground := Ground.phase }, { on := 10, ground := Ground.phase }, { on := 11, ground := Ground.phase }, { on := 12, ground := Ground.phase }, { on := 13, ground := Ground.phase }, { on := 14, ground := Ground.phase }], guard := none }) (v := ?_) rfl (by kernel_rfl) (by kernel_rfl) (by kernel_rfl) (fun _ _ _ h => h) (Or.inl ⟨by rfl, ?_⟩) hHeld ?_
            rotate_left
            · (intro w hSw; (try dsimp only at hSw); go_simp; first | done | with_reducible rfl)
            simp only [Act.put, List.setIfInBounds_toArray, List.set_cons_zero, List.set_cons_succ]
            refine wpAnyH_done (by kernel_rfl) ?_ _
            go_wp2_with fail
            go_meet
            case rel => exact ⟨wr.heap.size, rfl, rfl, Nat.le_refl _, Lib.hid (BX.set _ _), Lib.hid ((bel.setCell (p := ⟨wr.heap.size, 0, none⟩) (Nat.le_refl _) _).setCell (p := ⟨wr.heap.size, 1, none⟩) (Nat.le_refl _) _)⟩
        case rest =>
          obtain ⟨B, rfl, rfl, hBl, HX, HD⟩ := hcut
          have e0 := HE0.out
          have er : cur.reverse = x :: y :: pre.reverse := by rw [e0]; simp
          have HER := Lib.hid er; clear er e0
          cases ok
          · go_wp2_with fail
            go_ret
            refine ⟨_, rfl, ?_, HB.out.trans (HD.out.mono (Nat.le_trans hbase HB.out.size))⟩
            rw [← HJ.out, HER.out, joinR_stop x y _ (HNN.out (by trivial)), ← HER.out, List.reverse_reverse]
            exact HW.out.keep HD.out
          · have HY := Lib.hid (HYY.out (by trivial))
            clear HYY HNN
            have hup := wh_ok y x u oky.1 oky.2 HY.out
            obtain ⟨hcl, hw2⟩ := HW.out.keep HD.out
            have hpre : Own wc base (.slice (some ⟨g, 0, none⟩) e cap) pre := by
              have e0 := HE0.out
              rcases hw2 with ⟨hv, _⟩ | ⟨g', cap', cs', hv, h1, h2, h3, h4, h5, h6⟩
              · simp at hv
              · simp only [Value.slice.injEq, Option.some.injEq, Addr.mk.injEq, and_true, true_and] at hv
                obtain ⟨rfl, rfl⟩ := hv
                refine ⟨by rw [cellsL_len], Or.inr ⟨g, cap, cs', by rw [he], h1, h2, by omega, h4, h5, ?_⟩⟩
                rw [he]
                have h7 : cs'.toList.take (e * 2) = (cs'.toList.take (cur.length * 2)).take (e * 2) := by rw [List.take_take]; congr 1; omega
                rw [h7, h6, e0, cellsL_app, List.take_append_of_le_length (by rw [cellsL_len, he]; exact Nat.le_refl _), List.take_of_length_le (by rw [cellsL_len, he]; exact Nat.le_refl _)]
            have hi : Tryd.prog.info? 32 = some infoN := by kernel_rfl
            obtain ⟨z, hz⟩ : ∃ z, infoN.zero = some z ∧ z.cells.size = 2 := ⟨.agg #[.int .u32 0, .int .i64 0], by kernel_rfl, by kernel_rfl⟩
            have hby : infoN.bytes = 16 := by kernel_rfl
            obtain ⟨l6, k0, k1, j0, j1⟩ := id HX.out
            have be : e ≤ cap := by omega
            have HP := Lib.hid hpre
            have hcs0 : base ≤ wc.heap.size := Nat.le_trans hbase (Nat.le_trans HB.out.size HD.out.size)
            clear hpre hw2 hcl HC HJJ hw1
            go_upto_region 5 with fail
            refine wp_region_held_drew (S := (fun w' => w'.cell? ⟨B, 0, none⟩ = some (.int .u32 (u.1 : Int)) ∧ w'.cell? ⟨B, 1, none⟩ = some (.int .i64 u.2))) (by kernel_rfl) ⟨k0, k1⟩ (fun hHeld => ?_)
            refine wpAnyH_take (i := 0) (oi := { dst := some 27, op := Op.move (Operand.tmp 0), type := 22, pos := "cover.go:58", after := #[], guard := none }) (v := ?_) rfl (by kernel_rfl) (by kernel_rfl) (by kernel_rfl) (fun _ _ _ h => h) (Or.inl ⟨by rfl, ?_⟩) hHeld ?_
            rotate_left
            · (intro w hSw; (try dsimp only at hSw); go_simp; first | done | with_reducible rfl)
            simp only [Act.put, List.setIfInBounds_toArray, List.set_cons_zero, List.set_cons_succ]
            refine wpAnyH_take (i := 1) (oi := { dst := some 28, op := Op.move (Operand.tmp 3), type := 3, pos := "cover.go:58", after := #[], guard := none }) (v := ?_) rfl (by kernel_rfl) (by kernel_rfl) (by kernel_rfl) (fun _ _ _ h => h) (Or.inl ⟨by rfl, ?_⟩) hHeld ?_
            rotate_left
            · (intro w hSw; (try dsimp only at hSw); go_simp; first | done | with_reducible rfl)
            simp only [Act.put, List.setIfInBounds_toArray, List.set_cons_zero, List.set_cons_succ]
            refine wpAnyH_take (i := 2) (oi := { dst := some 29, op := Op.slice 22 (Operand.tmp 27) none (some (Operand.tmp 28)) none, type := 22, pos := "cover.go:58", after := #[{ on := 0, ground := Ground.data }, { on := 1, ground := Ground.data }], guard := none }) (v := ?_) rfl (by kernel_rfl) (by kernel_rfl) (by kernel_rfl) (fun _ _ _ h => h) (Or.inl ⟨by rfl, ?_⟩) hHeld ?_
            rotate_left
            · (intro w hSw; (try dsimp only at hSw); go_simp; first | done | with_reducible rfl)
            simp only [Act.put, List.setIfInBounds_toArray, List.set_cons_zero, List.set_cons_succ]
            refine wpAnyH_take (i := 3) (oi := { dst := some 30, op := Op.load 32 (Operand.tmp 4), type := 32, pos := "cover.go:58", after := #[], guard := none }) (v := ?_) rfl (by kernel_rfl) (by kernel_rfl) (by kernel_rfl) (fun _ _ _ h => h) (Or.inl ⟨by rfl, ?_⟩) hHeld ?_
            rotate_left
            · (intro w hSw; (try dsimp only at hSw); go_simp; first | done | with_reducible rfl)
            simp only [Act.put, List.setIfInBounds_toArray, List.set_cons_zero, List.set_cons_succ]
            refine wpAnyH_ready (rs := [4]) (by kernel_rfl) (by simp) ?_
            refine (AllReadyH.cons (o := { dst := some 31, op := Op.buildSlice 22 1 #[(0, Operand.tmp 30)], type := 22, pos := "cover.go:58", after := #[{ on := 3, ground := Ground.data }], guard := none }) rfl (fun K hK => ?_) AllReadyH.nil)
            go_simp
            have BX2 := HX.out.alloc (.cells #[.int .u32 (u.1 : Int), .int .i64 u.2] 32)
            have KK4 : _ ∧ _ := ⟨BX2.c0, BX2.c1⟩
            clear hHeld
            refine hK.out _ _ KK4 (fun hHeld => ?_)
            clear hK K
            refine wpAnyH_ready (rs := [5]) (by kernel_rfl) (by simp) ?_
            refine (AllReadyH.cons (o := { dst := some 32, op := Op.call { callee := Callee.builtin Builtin.append, args := #[Operand.tmp 29, Operand.tmp 31], argTypes := #[22, 22] }, type := 22, pos := "cover.go:58", after := #[{ on := 2, ground := Ground.data }, { on := 4, ground := Ground.data }], guard := none }) rfl (fun K hK => ?_) AllReadyH.nil)
            rw [if_pos (by rfl)]
            refine wp_append_own _ _ _ 22 rfl base 32 infoN z 2 16 (by kernel_rfl) hi hz.1 infoN_size hby hz.2 (by omega) (.slice (some ⟨g, 0, none⟩) e cap) e (cellsL pre) rfl ?q0 ⟨wc.heap.size, 0, none⟩ 1 1 [Nt.v0 u, Nt.v1 u] rfl rfl ?q1 ?q2 ?q3 ?q4 ?q5 ?_
            case q0 =>
              have := HP.out.keep ((Below.refl _ wc).alloc (Nat.le_refl _) (.cells #[.int .u32 (u.1 : Int), .int .i64 u.2] 32))
              unfold Own at this
              rw [he] at this
              exact this
            case q1 =>
              intro j v hj
              have NB := Box.new wc (.int .u32 (u.1 : Int)) (.int .i64 u.2) 32
              match j, hj with
              | 0, hj => simp at hj; subst hj; exact NB.c0
              | 1, hj => simp at hj; subst hj; exact NB.c1
            case q2 => intro v hv; simp [Nt.v0, Nt.v1] at hv; rcases hv with rfl | rfl <;> rfl
            case q3 => have := HEN.out; simp only [maxLen]; omega
            case q4 => have := HEN.out; omega
            case q5 => simp; omega
            intro v' w' hown hgrow hnil
            have KK5 : w'.cell? ⟨B, 0, none⟩ = some (.int .u32 (u.1 : Int)) ∧ w'.cell? ⟨B, 1, none⟩ = some (.int .i64 u.2) := ⟨hgrow.cell (a := ⟨B, 0, none⟩) hHeld.1 (by simp [Value.ownBlock]; omega), hgrow.cell (a := ⟨B, 1, none⟩) hHeld.2 (by simp [Value.ownBlock]; omega)⟩
            have bel2 : Below base wc w' := ((Below.refl base wc).alloc hcs0 (.cells #[.int .u32 (u.1 : Int), .int .i64 u.2] 32)).drew.grown hgrow (by simp; omega) (by intro q hq; simp [Value.ownBlock] at hq; omega)
            clear hHeld hgrow
            simp only [Act.put, List.setIfInBounds_toArray, List.set_cons_zero, List.set_cons_succ]
            refine hK.out _ _ KK5 (fun hHeld => ?_)
            clear hK K
            refine wpAnyH_take (i := 6) (oi := { dst := some 0, op := Op.assign (Operand.tmp 32), type := 22, pos := "cover.go:58", after := #[{ on := 5, ground := Ground.data }, { on := 5, ground := Ground.chain }, { on := 0, ground := Ground.phase }, { on := 1, ground := Ground.phase }, { on := 2, ground := Ground.phase }, { on := 3, ground := Ground.phase }, { on := 4, ground := Ground.phase }, { on := 5, ground := Ground.phase }], guard := none }) (v := ?_) rfl (by kernel_rfl) (by kernel_rfl) (by kernel_rfl) (fun _ _ _ h => h) (Or.inl ⟨by rfl, ?_⟩) hHeld ?_
            rotate_left
            · (intro w hSw; (try dsimp only at hSw); go_simp; first | done | with_reducible rfl)
            simp only [Act.put, List.setIfInBounds_toArray, List.set_cons_zero]
            refine wpAnyH_done (by kernel_rfl) ?_ _
            have own2 : Own w' base v' (pre ++ [u]) := by
              unfold Own
              rw [List.length_append, he, cellsL_app]
              exact hown
            obtain ⟨_, ⟨rfl, hn0⟩ | ⟨g2, cap2, cs2, rfl, _⟩⟩ := id own2
            · exact absurd (hnil.1 rfl).1 (by simp)
            clear hnil hown
            have O2 := Lib.hid own2; clear own2
            go_wp2_with fail
            go_roundw
            case rel =>
              refine ⟨pre ++ [u], by have := HEN.out; simp; omega, O2, Lib.hid (HB.out.trans ((HD.out.mono (Nat.le_trans hbase HB.out.size)).trans bel2)), Lib.hid ?_, Lib.hid ?_⟩
              · intro q hq
                rw [List.mem_append, List.mem_singleton] at hq
                rcases hq with hq | rfl
                · exact HOK.out q (by rw [HE0.out]; exact List.mem_append_left _ hq)
                · exact hup
              · rw [← HJ.out, HER.out, joinR_go x y u _ HY.out, List.reverse_append]
                rfl
            case measure => have := HEN.out; simp; omega
      · go_wp2_with fail
        go_ret
        exact ⟨_, rfl, by rw [← HJ.out, joinR_few _ (by simp; omega), List.reverse_reverse]; exact HW.out, HB.out⟩
end Go.Proofs.YtbdmfcnlfmnmdaaDoor
