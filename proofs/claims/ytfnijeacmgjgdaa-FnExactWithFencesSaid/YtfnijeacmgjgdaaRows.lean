/-
  No cell of these rows narrows 'for every input' (looked for: loops, veiled, ifaces, maps, wideKeys, modest, calm, conditions, laid).
  DERIVED. THE GIVEN ROWS OF THIS SEAT. 5 by the template 'for every input the law returns true; each argument reads behind the call as it read before'; 0 by the template 'total and deterministic' (their statements: YtfnijeacmgjgdaaTotals.lean).
  GIVEN WITH THE SEED: the statements are not yours to turn. If you find one false, say at which input.
  Laid BY PROGRAM, IN A SANDBOX (cutbox-rows.mjs): the forced cells as the released guide's own fill.sh prints them over the translation f79a5b648e5c79e8… (all of the seat's roots in one cut). By AI agents, Wed Nov 11 2026. No macro, syntax, notation, axiom, sorry.
-/
import Derived.Test.YtfnijeacmgjgdaaChecked
import GoSem.Claim
import GoSem.ClaimJoined
import GoSem.ClaimMapViews
import Derived.JoinedTies
import Derived.KernelRfl
namespace Go.Proofs.Ytfnijeacmgjgdaa
/- THE CELL 'sum', in the pinned program and in every row, IS THE sha256 OF THE DUMP (.gsa) THAT YtfnijeacmgjgdaaProg.lean LOADS. Nothing in Lean hashes anything: it is a label: what it is worth is what the hold of that sum in a sandbox is worth. -/
noncomputable def Try.pinned : Pinned := { name := "ytfnijeacmgjgdaa", sum := "f79a5b648e5c79e847040c32780d94abd0688c3ea7a41a7541a071d79e753e89", checked := Try.checked }
namespace Rows
def none {H : Type} : Left H := { results := [], args := [] }

/-- 'laws.FnExactInstrOk': WHATEVER THE INPUT: true; the input reads as it did. -/
def fnExactInstrOkSpec : ChangeSpec := { name := "fnExactInstrOk", fn := fun _ => fun
  | [d1, d2, d3] => { results := [.lit (.bool true)], args := [d1, d2, d3] }
  | _ => none }
def fnExactInstrOkRow : OpenClaim := { program := "ytfnijeacmgjgdaa", sum := "f79a5b648e5c79e847040c32780d94abd0688c3ea7a41a7541a071d79e753e89", func := "loop.example/g00712/laws.FnExactInstrOk", spec := "fnExactInstrOk", apart := false }
def FnExactInstrOkSaid : Prop := fnExactInstrOkRow.holds Try.pinned (OpenSpec.ofChange fnExactInstrOkSpec)

/-- ITS FALSE NEIGHBOUR: 'it returns false'. Refute it at one input. -/
def fnExactInstrOkWrong : ChangeSpec := { name := "fnExactInstrOk", fn := fun _ => fun
  | [d1, d2, d3] => { results := [.lit (.bool false)], args := [d1, d2, d3] }
  | _ => none }
def FnExactInstrOkWrongFalsely : Prop := fnExactInstrOkRow.holds Try.pinned (OpenSpec.ofChange fnExactInstrOkWrong)

/-- 'laws.FnExactProgOk': WHATEVER THE INPUT: true; the input reads as it did. -/
def fnExactProgOkSpec : ChangeSpec := { name := "fnExactProgOk", fn := fun _ => fun
  | [d] => { results := [.lit (.bool true)], args := [d] }
  | _ => none }
def fnExactProgOkRow : OpenClaim := { program := "ytfnijeacmgjgdaa", sum := "f79a5b648e5c79e847040c32780d94abd0688c3ea7a41a7541a071d79e753e89", func := "loop.example/g00712/laws.FnExactProgOk", spec := "fnExactProgOk", apart := false }
def FnExactProgOkSaid : Prop := fnExactProgOkRow.holds Try.pinned (OpenSpec.ofChange fnExactProgOkSpec)

/-- ITS FALSE NEIGHBOUR: 'it returns false'. Refute it at one input. -/
def fnExactProgOkWrong : ChangeSpec := { name := "fnExactProgOk", fn := fun _ => fun
  | [d] => { results := [.lit (.bool false)], args := [d] }
  | _ => none }
def FnExactProgOkWrongFalsely : Prop := fnExactProgOkRow.holds Try.pinned (OpenSpec.ofChange fnExactProgOkWrong)

/-- 'laws.FnExactHasFence': WHATEVER THE INPUT: true; the input reads as it did. -/
def fnExactHasFenceSpec : ChangeSpec := { name := "fnExactHasFence", fn := fun _ => fun
  | [d] => { results := [.lit (.bool true)], args := [d] }
  | _ => none }
def fnExactHasFenceRow : OpenClaim := { program := "ytfnijeacmgjgdaa", sum := "f79a5b648e5c79e847040c32780d94abd0688c3ea7a41a7541a071d79e753e89", func := "loop.example/g00712/laws.FnExactHasFence", spec := "fnExactHasFence", apart := false }
def FnExactHasFenceSaid : Prop := fnExactHasFenceRow.holds Try.pinned (OpenSpec.ofChange fnExactHasFenceSpec)

/-- ITS FALSE NEIGHBOUR: 'it returns false'. Refute it at one input. -/
def fnExactHasFenceWrong : ChangeSpec := { name := "fnExactHasFence", fn := fun _ => fun
  | [d] => { results := [.lit (.bool false)], args := [d] }
  | _ => none }
def FnExactHasFenceWrongFalsely : Prop := fnExactHasFenceRow.holds Try.pinned (OpenSpec.ofChange fnExactHasFenceWrong)

/-- 'laws.FnExactAddressesOf': WHATEVER THE INPUT: true; the input reads as it did. -/
def fnExactAddressesOfSpec : ChangeSpec := { name := "fnExactAddressesOf", fn := fun _ => fun
  | [d] => { results := [.lit (.bool true)], args := [d] }
  | _ => none }
def fnExactAddressesOfRow : OpenClaim := { program := "ytfnijeacmgjgdaa", sum := "f79a5b648e5c79e847040c32780d94abd0688c3ea7a41a7541a071d79e753e89", func := "loop.example/g00712/laws.FnExactAddressesOf", spec := "fnExactAddressesOf", recurses := true, apart := false }
def FnExactAddressesOfSaid : Prop := fnExactAddressesOfRow.holds Try.pinned (OpenSpec.ofChange fnExactAddressesOfSpec)

/-- ITS FALSE NEIGHBOUR: 'it returns false'. Refute it at one input. -/
def fnExactAddressesOfWrong : ChangeSpec := { name := "fnExactAddressesOf", fn := fun _ => fun
  | [d] => { results := [.lit (.bool false)], args := [d] }
  | _ => none }
def FnExactAddressesOfWrongFalsely : Prop := fnExactAddressesOfRow.holds Try.pinned (OpenSpec.ofChange fnExactAddressesOfWrong)

/-- 'laws.FnExactWithFences': WHATEVER THE INPUT: true; the input reads as it did. -/
def fnExactWithFencesSpec : ChangeSpec := { name := "fnExactWithFences", fn := fun _ => fun
  | [d] => { results := [.lit (.bool true)], args := [d] }
  | _ => none }
def fnExactWithFencesRow : OpenClaim := { program := "ytfnijeacmgjgdaa", sum := "f79a5b648e5c79e847040c32780d94abd0688c3ea7a41a7541a071d79e753e89", func := "loop.example/g00712/laws.FnExactWithFences", spec := "fnExactWithFences", apart := false }
def FnExactWithFencesSaid : Prop := fnExactWithFencesRow.holds Try.pinned (OpenSpec.ofChange fnExactWithFencesSpec)

/-- ITS FALSE NEIGHBOUR: 'it returns false'. Refute it at one input. -/
def fnExactWithFencesWrong : ChangeSpec := { name := "fnExactWithFences", fn := fun _ => fun
  | [d] => { results := [.lit (.bool false)], args := [d] }
  | _ => none }
def FnExactWithFencesWrongFalsely : Prop := fnExactWithFencesRow.holds Try.pinned (OpenSpec.ofChange fnExactWithFencesWrong)

/- THE SECOND FORM. 'bulk': how many values and letters a reading holds, each counted each time it is reached (what is shared counts as often as it is met; a slice's spare places count too). A statement '..UptoSaid' is the law's where the arguments, and the package variables that the reading takes, are together of bulk at most 1048576: NARROWER than '..Said'. Prove '..Said' where nothing that the law and all that it calls make is longer than what came in: it says more and counts as full. Else prove '..UptoSaid'. A law counts once. -/
mutual
def uptoBulk {H : Type} : DataW H → Nat
  | .lit (.string bytes) => bytes.length + 1
  | .lit _ => 1
  | .nil => 1
  | .ptr d => uptoBulk d + 1
  | .slice elems spare => uptoBulkAll elems + uptoBulkAll spare + 1
  | .agg parts => uptoBulkAll parts + 1
  | .iface _ d => uptoBulk d + 1
  | .map entries => uptoBulkEntries entries + 1
  | .held _ => 1
def uptoBulkAll {H : Type} : List (DataW H) → Nat
  | [] => 0
  | d :: r => uptoBulk d + uptoBulkAll r
def uptoBulkEntries {H : Type} : List (Lit × DataW H) → Nat
  | [] => 0
  | x :: r => uptoBulkEntry x + uptoBulkEntries r
def uptoBulkEntry {H : Type} : Lit × DataW H → Nat
  | (.string bytes, d) => bytes.length + uptoBulk d + 1
  | (_, d) => uptoBulk d + 1
 end
def uptoSmall : (H : Type) → List (DataW H) → Bool := fun _ ds => decide (uptoBulkAll ds ≤ 1048576)
def OpenSpec.upto (s : _root_.Go.ChangeSpec) : _root_.Go.OpenSpec := { _root_.Go.OpenSpec.ofChange s with cond := some uptoSmall }

/-- 'laws.FnExactInstrOk', WHERE WHAT IT READS IS OF BULK AT MOST 1048576: true; the input reads as it did. -/
def fnExactInstrOkUptoRow : OpenClaim := { program := "ytfnijeacmgjgdaa", sum := "f79a5b648e5c79e847040c32780d94abd0688c3ea7a41a7541a071d79e753e89", func := "loop.example/g00712/laws.FnExactInstrOk", spec := "fnExactInstrOk", apart := false, narrowed := true }
def FnExactInstrOkUptoSaid : Prop := fnExactInstrOkUptoRow.holds Try.pinned (OpenSpec.upto fnExactInstrOkSpec)

/-- 'laws.FnExactProgOk', WHERE WHAT IT READS IS OF BULK AT MOST 1048576: true; the input reads as it did. -/
def fnExactProgOkUptoRow : OpenClaim := { program := "ytfnijeacmgjgdaa", sum := "f79a5b648e5c79e847040c32780d94abd0688c3ea7a41a7541a071d79e753e89", func := "loop.example/g00712/laws.FnExactProgOk", spec := "fnExactProgOk", apart := false, narrowed := true }
def FnExactProgOkUptoSaid : Prop := fnExactProgOkUptoRow.holds Try.pinned (OpenSpec.upto fnExactProgOkSpec)

/-- 'laws.FnExactHasFence', WHERE WHAT IT READS IS OF BULK AT MOST 1048576: true; the input reads as it did. -/
def fnExactHasFenceUptoRow : OpenClaim := { program := "ytfnijeacmgjgdaa", sum := "f79a5b648e5c79e847040c32780d94abd0688c3ea7a41a7541a071d79e753e89", func := "loop.example/g00712/laws.FnExactHasFence", spec := "fnExactHasFence", apart := false, narrowed := true }
def FnExactHasFenceUptoSaid : Prop := fnExactHasFenceUptoRow.holds Try.pinned (OpenSpec.upto fnExactHasFenceSpec)

/-- 'laws.FnExactAddressesOf', WHERE WHAT IT READS IS OF BULK AT MOST 1048576: true; the input reads as it did. -/
def fnExactAddressesOfUptoRow : OpenClaim := { program := "ytfnijeacmgjgdaa", sum := "f79a5b648e5c79e847040c32780d94abd0688c3ea7a41a7541a071d79e753e89", func := "loop.example/g00712/laws.FnExactAddressesOf", spec := "fnExactAddressesOf", recurses := true, apart := false, narrowed := true }
def FnExactAddressesOfUptoSaid : Prop := fnExactAddressesOfUptoRow.holds Try.pinned (OpenSpec.upto fnExactAddressesOfSpec)

/-- 'laws.FnExactWithFences', WHERE WHAT IT READS IS OF BULK AT MOST 1048576: true; the input reads as it did. -/
def fnExactWithFencesUptoRow : OpenClaim := { program := "ytfnijeacmgjgdaa", sum := "f79a5b648e5c79e847040c32780d94abd0688c3ea7a41a7541a071d79e753e89", func := "loop.example/g00712/laws.FnExactWithFences", spec := "fnExactWithFences", apart := false, narrowed := true }
def FnExactWithFencesUptoSaid : Prop := fnExactWithFencesUptoRow.holds Try.pinned (OpenSpec.upto fnExactWithFencesSpec)

end Rows
end Go.Proofs.Ytfnijeacmgjgdaa
