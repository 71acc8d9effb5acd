/- Rows that list the library's error variables too: what they give, and a world for the witness. -/
import Derived.Test.YtgbgjlmkmlhefaaGreatDoorLaid
import Derived.Test.YtgbgjlmkmlhefaaGreatDoorEnv
import Derived.Deep.DeepWitnessRowRef
import Derived.ChangeMaps5
import Derived.LaidLaws
namespace Go.Proofs.YtgbgjlmkmlhefaaGreatDoor
set_option maxRecDepth 20000
set_option linter.unusedSimpArgs false
set_option linter.unusedVariables false
open Go.ChangeShapes Go.WideShapes Go.ChangeAt Go.RowKit
set_option linter.unusedVariables false
theorem star : "*" ++ "errors.errorString" = "*errors.errorString" := by decide
theorem rowErr (u : TypeId) (h : Tryz.prog.typeName? 3 u = some "*errors.errorString") : u = 179 :=
  typeName_ptr_named (nm := "errors.errorString") (by rw [star]; kernel_rfl) (by kernel_rfl) (by decide) u (by rw [star]; exact h)
theorem sentinel {n : String} {text : List UInt8} {W : World} {l r : List (String × DataW Unit)} (k g : Nat) (hp : (l.all fun x => x.2.handleName?.isNone) = true) (hk : l.drop k = (n, .iface "*errors.errorString" (.ptr (.agg [.lit (.string text)]))) :: r)
    (hg : Tryz.prog.globalNamed n = some g) (ht : (Tryz.prog.globals[g]?).map (·.type) = some 119) (h : laidMetH Tryz.prog l W) : ∃ tp p, W.var? Tryz.prog n = some #[.iface tp p] := by
  rw [MakeChecks.laidMetH_plain _ _ _ hp] at h
  have h1 := laidMet_drop k h
  rw [hk] at h1
  obtain ⟨a, s, hv, -, -, -⟩ := laid_sentinel h1 hg ht Tryz.underlying119 rowErr Tryz.underlying179 Tryz.underlying181 rfl rfl Tryz.underlying9 (by kernel_rfl) (by kernel_rfl)
  exact ⟨_, _, hv⟩
theorem max_of {W : World} (h : W.ShapedOpen Tryz.prog) : MaxSet W := Tryz.laysM147.s1_3 W h
def flatCells : DataW Unit → Array Value
  | .agg l => (l.flatMap fun
    | .lit (.int k z) => [.int k z]
    | .lit (.string t) => [.string ⟨t.toArray⟩]
    | .agg m => m.map litOf
    | _ => []).toArray
  | _ => #[]
def errText : DataW Unit → List UInt8
  | .iface _ (.ptr (.agg [.lit (.string t)])) => t
  | _ => []
def errTexts (l : List (String × DataW Unit)) : List (List UInt8) := (l.map fun x => errText x.2).filter fun t => !t.isEmpty
noncomputable def cellsIn (N : Nat) (l : List (String × DataW Unit)) (x : String × DataW Unit) : Array Value :=
  match x.2 with
  | .iface _ _ => #[.iface 179 (.pointer (some ⟨N + (errTexts l).idxOf (errText x.2), 0, none⟩))]
  | d => flatCells d
noncomputable def layInE (N : Nat) (l : List (String × DataW Unit)) (w : World) (x : String × DataW Unit) : World :=
  match Tryz.prog.globalNamed x.1 with
  | some g => { w with heap := w.heap.modify g fun
      | .cells _ t frozen => .cells (cellsIn N l x) t frozen
      | o => o }
  | none => w
/-- the settled world, each listed variable holding what the list says, an error's struct in a block of its own -/
noncomputable def laidWorldE (os : Os) (l : List (String × DataW Unit)) : World :=
  l.foldl (layInE (World.settled Tryz.prog os).heap.size l) (World.holding Tryz.prog os ⟨((errTexts l).map fun t => Obj.cells #[.string ⟨t.toArray⟩] 181).toArray, #[], []⟩)
end Go.Proofs.YtgbgjlmkmlhefaaGreatDoor
