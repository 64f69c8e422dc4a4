/- What the listed variables give the walks: the table of 64, the type error. -/
import Derived.Test.YtgdcjccbdmcebaaDoorRows
import Derived.Test.YtgdcjccbdmcebaaDoorWTold
import Derived.Test.YtgdcjccbdmcebaaDoorWTz
import Derived.ProofKit
import Derived.LaidHandle
import Derived.Lib.LaidTab
namespace Go.Proofs.YtgdcjccbdmcebaaDoor.Laid
open Go.RowKit Go.ChangeShapes Go.WideShapes Go.Proofs.YtgdcjccbdmcebaaDoor
set_option maxRecDepth 100000

theorem gTab : Tryd.prog.globalNamed "math/bits.deBruijn64tab" = some 1 := by kernel_rfl
theorem gTabType : (Tryd.prog.globals[1]?).map (·.type) = some 175 := by kernel_rfl
theorem cells64 : Tryd.prog.cellsOf 175 = 64 := by kernel_rfl
theorem cells5 : Tryd.prog.cellsOf 5 = 1 := by kernel_rfl
/-- The table's numbers. -/
def zs64 : List Int := Lib.deBruijn64tab.map Int.ofNat
theorem zs64_at : ∀ j, j < 64 → zs64.getD j 0 = ((Lib.deBruijn64tab.getD j 0 : Nat) : Int) := by decide
theorem tab_of {W : World} (h2 : laidMetH Tryd.prog [("math/bits.deBruijn64tab", Lib.tabData .u8 zs64)] W) : TabIn W := by
  have h3 : Lib.TabIs Tryd.prog W "math/bits.deBruijn64tab" .u8 zs64 := Lib.tabIs_of_head (rest := []) gTab gTabType Tryd.underlying175 Tryd.underlying5 cells5 cells64 h2
  intro j hj
  rw [← zs64_at j hj]
  exact h3.cell gTab j (by have : zs64.length = 64 := by decide
                           omega)

theorem et : Tryd.prog.globalNamed "errors.errorType" = some 0 := by kernel_rfl
theorem rt : (Tryd.prog.cutTypes.find? (·.1 == "internal/reflectlite.rtype")).map (·.2) = some 153 := by kernel_rfl
theorem oneRow : ((List.range 215).filter fun t => Tryd.prog.rowNamed t [101, 114, 114, 111, 114]) = [69] := by kernel_rfl
theorem size : Tryd.prog.types.size = 215 := by kernel_rfl
theorem err_of {W : World} (h : laidMetH Tryd.prog [("errors.errorType", Rows.laid_errors_errorType)] W) : ErrTypeIn W := by
  have h' : laidMet Tryd.prog [] W ∧ handlesMet Tryd.prog [("errors.errorType", Rows.laid_errors_errorType)] W := h
  obtain ⟨name, u, ty, e1, e2, e3, e4, e5⟩ := h'.2 _ (List.mem_singleton.2 rfl)
  have en : name = [101, 114, 114, 111, 114] := (Option.some.inj e1).symm
  subst en
  obtain rfl := Option.some.inj (rt.symm.trans e2)
  have hm : ty ∈ (List.range 215).filter fun t => Tryd.prog.rowNamed t [101, 114, 114, 111, 114] := List.mem_filter.2 ⟨List.mem_range.2 (by rw [← size]; exact e3), e4⟩
  rw [oneRow] at hm
  obtain rfl := List.mem_singleton.1 hm
  have hh : typeHandle Tryd.prog 69 = .pointer (some ⟨3, 69, none⟩) := by kernel_rfl
  rw [hh] at e5
  have := World.var?_cell et e5 0
  exact this

/-- A world that meets the conditions. -/
def lay32 : Obj → Obj
  | .cells _ t frozen => .cells (Lib.deBruijn32tab.map fun n => Value.int .u8 (Int.ofNat n)).toArray t frozen
  | o => o
def lay64 : Obj → Obj
  | .cells _ t frozen => .cells (Lib.deBruijn64tab.map fun n => Value.int .u8 (Int.ofNat n)).toArray t frozen
  | o => o
def layErr : Obj → Obj
  | .cells _ t frozen => .cells #[.iface 153 (.agg #[.pointer (some ⟨3, 69, none⟩)])] t frozen
  | o => o
noncomputable def laidWorld (os : Os) : World :=
  { World.holding Tryd.prog os ⟨#[], #[], []⟩ with heap := (((World.holding Tryd.prog os ⟨#[], #[], []⟩).heap.modify 2 lay32).modify 1 lay64).modify 0 layErr }
end Go.Proofs.YtgdcjccbdmcebaaDoor.Laid
