/-
  What the rows on networks list of the library's variables: the table of powers of ten, ErrRange and ErrSyntax, as the walks read them; and a world that fits.
-/
import Derived.Test.YtegfjdpibpmdmaaGreatDoorRows
import Derived.Test.YtegfjdpibpmdmaaGreatDoorPrefParse
import Derived.ProofKit
import Derived.OpenShut
import Derived.Lib.LaidTab
import Derived.Stop.LaidErr
namespace Go.Proofs.YtegfjdpibpmdmaaGreatDoor
open Go.ChangeShapes Go.WideShapes Go.ChangeAt Go.RowKit

theorem own : ownKnob Tryz.prog.godebug = none := by kernel_rfl
theorem gTabType : (Tryz.prog.globals[4]?).map (·.type) = some 131 := by kernel_rfl
theorem cellsTab : Tryz.prog.cellsOf 131 = 20 := by kernel_rfl
theorem cells64 : Tryz.prog.cellsOf 108 = 1 := by kernel_rfl
theorem tab_eq : (Rows.laid_internal_strconv_uint64pow10 : DataW Unit) = Lib.tabData .u64 Lib.pow10Tab := by kernel_rfl
theorem gRng : Tryz.prog.globalNamed "strconv.ErrRange" = some 3 := by kernel_rfl
theorem gSyn : Tryz.prog.globalNamed "strconv.ErrSyntax" = some 2 := by kernel_rfl
theorem gRngType : (Tryz.prog.globals[3]?).map (·.type) = some 30 := by kernel_rfl
theorem gSynType : (Tryz.prog.globals[2]?).map (·.type) = some 30 := by kernel_rfl
theorem cellsErr : Tryz.prog.cellsOf 129 = 1 := by kernel_rfl
theorem cellsStr : Tryz.prog.cellsOf 9 = 1 := by kernel_rfl
theorem star : "*" ++ "errors.errorString" = "*errors.errorString" := by decide
theorem rowErr (u : TypeId) (h : Tryz.prog.typeName? 3 u = some "*errors.errorString") : u = 127 :=
  typeName_ptr_named (nm := "errors.errorString") (by rw [star]; kernel_rfl) (by kernel_rfl) (by decide) u (by rw [star]; exact h)

/-- The list that the rows bear. -/
def laidList : List (String × DataW Unit) := [("math/bits.deBruijn32tab", Rows.laid_math_bits_deBruijn32tab), ("math/bits.deBruijn64tab", Rows.laid_math_bits_deBruijn64tab), ("internal/strconv.uint64pow10", Rows.laid_internal_strconv_uint64pow10), ("unicode/utf8.acceptRanges", Rows.laid_unicode_utf8_acceptRanges), ("strconv.ErrRange", Rows.laid_strconv_ErrRange), ("strconv.ErrSyntax", Rows.laid_strconv_ErrSyntax), ("unicode/utf8.first", Rows.laid_unicode_utf8_first)]

theorem spell_of {W : World} (h : laidMet Tryz.prog laidList W) : Spell W := by
  have h2 : laidMet Tryz.prog (("internal/strconv.uint64pow10", Rows.laid_internal_strconv_uint64pow10) :: [("unicode/utf8.acceptRanges", Rows.laid_unicode_utf8_acceptRanges), ("strconv.ErrRange", Rows.laid_strconv_ErrRange), ("strconv.ErrSyntax", Rows.laid_strconv_ErrSyntax), ("unicode/utf8.first", Rows.laid_unicode_utf8_first)]) W := h.tail.tail
  have h4 : laidMet Tryz.prog (("strconv.ErrRange", Rows.laid_strconv_ErrRange) :: [("strconv.ErrSyntax", Rows.laid_strconv_ErrSyntax), ("unicode/utf8.first", Rows.laid_unicode_utf8_first)]) W := h2.tail.tail
  have h5 : laidMet Tryz.prog (("strconv.ErrSyntax", Rows.laid_strconv_ErrSyntax) :: [("unicode/utf8.first", Rows.laid_unicode_utf8_first)]) W := h4.tail
  obtain ⟨a, sa, hva, _, _, _⟩ := laid_sentinel h4 gRng gRngType Tryz.underlying30 rowErr Tryz.underlying127 Tryz.underlying129 rfl rfl Tryz.underlying9 cellsErr cellsStr
  obtain ⟨b, sb, hvb, _, _, _⟩ := laid_sentinel h5 gSyn gSynType Tryz.underlying30 rowErr Tryz.underlying127 Tryz.underlying129 rfl rfl Tryz.underlying9 cellsErr cellsStr
  rw [tab_eq] at h2
  exact ⟨Lib.tabIs_of_head pow10_global gTabType Tryz.underlying131 Tryz.underlying108 cells64 cellsTab h2,
    ⟨_, _, by simpa using World.var?_cell gSyn hvb 0⟩, _, _, by simpa using World.var?_cell gRng hva 0⟩

/-! ### A world that fits: the settled one, the listed variables laid in it -/
def flat1 : DataW Unit → Value
  | .lit (.int k n) => .int k n
  | _ => .nilIface
def flat2 : DataW Unit → List Value
  | .agg ps => ps.map flat1
  | d => [flat1 d]
def flat : DataW Unit → Array Value
  | .agg ps => (ps.flatMap flat2).toArray
  | _ => #[]
def lay (d : DataW Unit) : Obj → Obj
  | .cells _ t frozen => .cells (flat d) t frozen
  | o => o
def layErr (b : Nat) : Obj → Obj
  | .cells _ t frozen => .cells #[.iface 127 (.pointer (some ⟨b, 0, none⟩))] t frozen
  | o => o
noncomputable def low : Nat := (World.holding Tryz.prog default ⟨#[], #[], []⟩).heap.size
noncomputable def laidWorld (os : Os) : World :=
  let w0 := World.holding Tryz.prog os ⟨#[.cells #[.string ⟨#[118, 97, 108, 117, 101, 32, 111, 117, 116, 32, 111, 102, 32, 114, 97, 110, 103, 101]⟩] 129, .cells #[.string ⟨#[105, 110, 118, 97, 108, 105, 100, 32, 115, 121, 110, 116, 97, 120]⟩] 129], #[], []⟩
  { w0 with heap := ((((((w0.heap.modify 7 (lay Rows.laid_math_bits_deBruijn32tab)).modify 8 (lay Rows.laid_math_bits_deBruijn64tab)).modify 4 (lay Rows.laid_internal_strconv_uint64pow10)).modify 6 (lay Rows.laid_unicode_utf8_acceptRanges)).modify 5 (lay Rows.laid_unicode_utf8_first)).modify 3 (layErr low)).modify 2 (layErr (low + 1)) }
theorem laid_met (os : Os) (args : Array Value) : laidMet Tryz.prog laidList ((laidWorld os).forCall (fun _ _ => 0) ⟨#[], args, []⟩).memory :=
  laidMet_of_run' 8 (by kernel_rfl) (by kernel_rfl)
end Go.Proofs.YtegfjdpibpmdmaaGreatDoor
