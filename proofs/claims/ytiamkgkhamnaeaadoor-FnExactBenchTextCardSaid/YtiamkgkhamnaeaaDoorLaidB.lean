/- Rows that list variables: the library's table of powers of ten out of the row's list, and a world in which the listed tables hold what the list says. -/
import Derived.Test.YtiamkgkhamnaeaaDoorTB
import Derived.Test.YtiamkgkhamnaeaaDoorLaw
import Derived.Test.YtiamkgkhamnaeaaDoorCards
import Derived.Test.YtiamkgkhamnaeaaDoorTie
import Derived.MakeChecks
import Derived.Stop.LaidErr
import Derived.Deep.DeepHandedRow
import Derived.LaidHandle
namespace Go.Proofs.YtiamkgkhamnaeaaDoor
set_option maxRecDepth 20000
set_option linter.unusedSimpArgs false
set_option linter.unusedVariables false
open Go.ChangeShapes Go.WideShapes Go.ChangeAt Go.RowKit
set_option linter.unusedVariables false
theorem laidMet_drop {P : Program} {w : World} : ∀ (k : Nat) {l : List (String × DataW Unit)}, laidMet P l w → laidMet P (l.drop k) w
  | 0, _, h => h
  | _ + 1, [], h => h
  | k + 1, _ :: _, h => laidMet_drop k h.tail
noncomputable def powG : Nat := (Tryd.prog.globalNamed "internal/strconv.uint64pow10").getD 0
noncomputable def powT : TypeId := ((Tryd.prog.globals[powG]?).map (·.type)).getD 0
noncomputable def powE : TypeId := match Tryd.prog.underlying powT with
  | some (.array _ e) => e
  | _ => 0
theorem tab_of {W : World} {l rest : List (String × DataW Unit)} (k : Nat) (hp : (l.all fun x => x.2.handleName?.isNone) = true) (hk : l.drop k = ("internal/strconv.uint64pow10", Lib.tabData .u64 Lib.pow10Tab) :: rest)
    (h : laidMetH Tryd.prog l W) : Tab W := by
  rw [MakeChecks.laidMetH_plain _ _ _ hp] at h
  have h1 := laidMet_drop k h
  rw [hk] at h1
  exact Lib.tabIs_of_head (g := powG) (t := powT) (e := powE) (n := 20) (by kernel_rfl) (by kernel_rfl) (by kernel_rfl) (by kernel_rfl) (by kernel_rfl) (by kernel_rfl) h1
def litOf : DataW Unit → Value
  | .lit (.int k z) => .int k z
  | .lit (.string t) => .string ⟨t.toArray⟩
  | _ => .nilIface
def litCells : DataW Unit → Array Value
  | .agg l => (l.map litOf).toArray
  | _ => #[]
noncomputable def layIn (w : World) (x : String × DataW Unit) : World :=
  match Tryd.prog.globalNamed x.1 with
  | some g => { w with heap := w.heap.modify g fun
      | .cells _ t frozen => .cells (litCells x.2) t frozen
      | o => o }
  | none => w
/-- the settled world, each listed variable holding what the list says -/
noncomputable def laidWorld (os : Os) (l : List (String × DataW Unit)) : World := l.foldl layIn (World.holding Tryd.prog os ⟨#[], #[], []⟩)
end Go.Proofs.YtiamkgkhamnaeaaDoor
