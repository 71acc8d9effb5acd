/-
  No cell of these rows narrows 'for every input' (looked for: loops, veiled, ifaces, maps, wideKeys, modest, calm, conditions, laid).
  DERIVED. THE GIVEN ROWS OF THIS SEAT. 9 by the template 'for every input the law returns true; each argument reads behind the call as it read before'; 0 by the template 'total and deterministic' (their statements: YtaokpfdjbpobpaaTotals.lean).
  GIVEN WITH THE SEED: the statements are not yours to turn. If you find one false, say at which input.
  Laid BY PROGRAM, IN A SANDBOX (cutbox-rows.mjs): the forced cells as the released guide's own fill.sh prints them over the translation 5a24959a7ec6a740… (all of the seat's roots in one cut). By AI agents, Wed Nov 11 2026. No macro, syntax, notation, axiom, sorry.
-/
import Derived.Test.YtaokpfdjbpobpaaChecked
import GoSem.Claim
import GoSem.ClaimJoined
import GoSem.ClaimMapViews
import Derived.JoinedTies
import Derived.KernelRfl
namespace Go.Proofs.Ytaokpfdjbpobpaa
/- THE CELL 'sum', in the pinned program and in every row, IS THE sha256 OF THE DUMP (.gsa) THAT YtaokpfdjbpobpaaProg.lean LOADS. Nothing in Lean hashes anything: it is a label: what it is worth is what the hold of that sum in a sandbox is worth. -/
noncomputable def Try.pinned : Pinned := { name := "ytaokpfdjbpobpaa", sum := "5a24959a7ec6a7409e10e1820837f02761fac7e99174e9a9770c80897253be03", checked := Try.checked }
namespace Rows
def none {H : Type} : Left H := { results := [], args := [] }

/-- 'laws.FnExactBenchOk': WHATEVER THE INPUT: true; the input reads as it did. -/
def fnExactBenchOkSpec : ChangeSpec := { name := "fnExactBenchOk", fn := fun _ => fun
  | [d] => { results := [.lit (.bool true)], args := [d] }
  | _ => none }
def fnExactBenchOkRow : OpenClaim := { program := "ytaokpfdjbpobpaa", sum := "5a24959a7ec6a7409e10e1820837f02761fac7e99174e9a9770c80897253be03", func := "loop.example/g00712/laws.FnExactBenchOk", spec := "fnExactBenchOk", plainKeys := false, apart := false }
def FnExactBenchOkSaid : Prop := fnExactBenchOkRow.holds Try.pinned (OpenSpec.ofChange fnExactBenchOkSpec)

/-- ITS FALSE NEIGHBOUR: 'it returns false'. Refute it at one input. -/
def fnExactBenchOkWrong : ChangeSpec := { name := "fnExactBenchOk", fn := fun _ => fun
  | [d] => { results := [.lit (.bool false)], args := [d] }
  | _ => none }
def FnExactBenchOkWrongFalsely : Prop := fnExactBenchOkRow.holds Try.pinned (OpenSpec.ofChange fnExactBenchOkWrong)

/-- 'laws.FnExactSafeBench': WHATEVER THE INPUT: true; the input reads as it did. -/
def fnExactSafeBenchSpec : ChangeSpec := { name := "fnExactSafeBench", fn := fun _ => fun
  | [d] => { results := [.lit (.bool true)], args := [d] }
  | _ => none }
def fnExactSafeBenchRow : OpenClaim := { program := "ytaokpfdjbpobpaa", sum := "5a24959a7ec6a7409e10e1820837f02761fac7e99174e9a9770c80897253be03", func := "loop.example/g00712/laws.FnExactSafeBench", spec := "fnExactSafeBench", unfollowed := true, recurses := true, plainKeys := false, apart := false }
def FnExactSafeBenchSaid : Prop := fnExactSafeBenchRow.holds Try.pinned (OpenSpec.ofChange fnExactSafeBenchSpec)

/-- ITS FALSE NEIGHBOUR: 'it returns false'. Refute it at one input. -/
def fnExactSafeBenchWrong : ChangeSpec := { name := "fnExactSafeBench", fn := fun _ => fun
  | [d] => { results := [.lit (.bool false)], args := [d] }
  | _ => none }
def FnExactSafeBenchWrongFalsely : Prop := fnExactSafeBenchRow.holds Try.pinned (OpenSpec.ofChange fnExactSafeBenchWrong)

/-- 'laws.FnExactHeldBy': WHATEVER THE INPUT: true; the input reads as it did. -/
def fnExactHeldBySpec : ChangeSpec := { name := "fnExactHeldBy", fn := fun _ => fun
  | [d1, d2] => { results := [.lit (.bool true)], args := [d1, d2] }
  | _ => none }
def fnExactHeldByRow : OpenClaim := { program := "ytaokpfdjbpobpaa", sum := "5a24959a7ec6a7409e10e1820837f02761fac7e99174e9a9770c80897253be03", func := "loop.example/g00712/laws.FnExactHeldBy", spec := "fnExactHeldBy", unfollowed := true, recurses := true, plainKeys := false, apart := false }
def FnExactHeldBySaid : Prop := fnExactHeldByRow.holds Try.pinned (OpenSpec.ofChange fnExactHeldBySpec)

/-- ITS FALSE NEIGHBOUR: 'it returns false'. Refute it at one input. -/
def fnExactHeldByWrong : ChangeSpec := { name := "fnExactHeldBy", fn := fun _ => fun
  | [d1, d2] => { results := [.lit (.bool false)], args := [d1, d2] }
  | _ => none }
def FnExactHeldByWrongFalsely : Prop := fnExactHeldByRow.holds Try.pinned (OpenSpec.ofChange fnExactHeldByWrong)

/-- 'laws.FnExactHoldersOf': WHATEVER THE INPUT: true; the input reads as it did. -/
def fnExactHoldersOfSpec : ChangeSpec := { name := "fnExactHoldersOf", fn := fun _ => fun
  | [d1, d2] => { results := [.lit (.bool true)], args := [d1, d2] }
  | _ => none }
def fnExactHoldersOfRow : OpenClaim := { program := "ytaokpfdjbpobpaa", sum := "5a24959a7ec6a7409e10e1820837f02761fac7e99174e9a9770c80897253be03", func := "loop.example/g00712/laws.FnExactHoldersOf", spec := "fnExactHoldersOf", unfollowed := true, recurses := true, plainKeys := false, apart := false }
def FnExactHoldersOfSaid : Prop := fnExactHoldersOfRow.holds Try.pinned (OpenSpec.ofChange fnExactHoldersOfSpec)

/-- ITS FALSE NEIGHBOUR: 'it returns false'. Refute it at one input. -/
def fnExactHoldersOfWrong : ChangeSpec := { name := "fnExactHoldersOf", fn := fun _ => fun
  | [d1, d2] => { results := [.lit (.bool false)], args := [d1, d2] }
  | _ => none }
def FnExactHoldersOfWrongFalsely : Prop := fnExactHoldersOfRow.holds Try.pinned (OpenSpec.ofChange fnExactHoldersOfWrong)

/-- 'laws.FnExactMakeObj': WHATEVER THE INPUT: true; the input reads as it did. -/
def fnExactMakeObjSpec : ChangeSpec := { name := "fnExactMakeObj", fn := fun _ => fun
  | [d] => { results := [.lit (.bool true)], args := [d] }
  | _ => none }
def fnExactMakeObjRow : OpenClaim := { program := "ytaokpfdjbpobpaa", sum := "5a24959a7ec6a7409e10e1820837f02761fac7e99174e9a9770c80897253be03", func := "loop.example/g00712/laws.FnExactMakeObj", spec := "fnExactMakeObj", plainKeys := false, apart := false }
def FnExactMakeObjSaid : Prop := fnExactMakeObjRow.holds Try.pinned (OpenSpec.ofChange fnExactMakeObjSpec)

/-- ITS FALSE NEIGHBOUR: 'it returns false'. Refute it at one input. -/
def fnExactMakeObjWrong : ChangeSpec := { name := "fnExactMakeObj", fn := fun _ => fun
  | [d] => { results := [.lit (.bool false)], args := [d] }
  | _ => none }
def FnExactMakeObjWrongFalsely : Prop := fnExactMakeObjRow.holds Try.pinned (OpenSpec.ofChange fnExactMakeObjWrong)

/-- 'laws.FnExactTakeHold': WHATEVER THE INPUT: true; the input reads as it did. -/
def fnExactTakeHoldSpec : ChangeSpec := { name := "fnExactTakeHold", fn := fun _ => fun
  | [d1, d2, d3] => { results := [.lit (.bool true)], args := [d1, d2, d3] }
  | _ => none }
def fnExactTakeHoldRow : OpenClaim := { program := "ytaokpfdjbpobpaa", sum := "5a24959a7ec6a7409e10e1820837f02761fac7e99174e9a9770c80897253be03", func := "loop.example/g00712/laws.FnExactTakeHold", spec := "fnExactTakeHold", plainKeys := false, apart := false }
def FnExactTakeHoldSaid : Prop := fnExactTakeHoldRow.holds Try.pinned (OpenSpec.ofChange fnExactTakeHoldSpec)

/-- ITS FALSE NEIGHBOUR: 'it returns false'. Refute it at one input. -/
def fnExactTakeHoldWrong : ChangeSpec := { name := "fnExactTakeHold", fn := fun _ => fun
  | [d1, d2, d3] => { results := [.lit (.bool false)], args := [d1, d2, d3] }
  | _ => none }
def FnExactTakeHoldWrongFalsely : Prop := fnExactTakeHoldRow.holds Try.pinned (OpenSpec.ofChange fnExactTakeHoldWrong)

/-- 'laws.FnExactDropHold': WHATEVER THE INPUT: true; the input reads as it did. -/
def fnExactDropHoldSpec : ChangeSpec := { name := "fnExactDropHold", fn := fun _ => fun
  | [d1, d2, d3] => { results := [.lit (.bool true)], args := [d1, d2, d3] }
  | _ => none }
def fnExactDropHoldRow : OpenClaim := { program := "ytaokpfdjbpobpaa", sum := "5a24959a7ec6a7409e10e1820837f02761fac7e99174e9a9770c80897253be03", func := "loop.example/g00712/laws.FnExactDropHold", spec := "fnExactDropHold", plainKeys := false, apart := false }
def FnExactDropHoldSaid : Prop := fnExactDropHoldRow.holds Try.pinned (OpenSpec.ofChange fnExactDropHoldSpec)

/-- ITS FALSE NEIGHBOUR: 'it returns false'. Refute it at one input. -/
def fnExactDropHoldWrong : ChangeSpec := { name := "fnExactDropHold", fn := fun _ => fun
  | [d1, d2, d3] => { results := [.lit (.bool false)], args := [d1, d2, d3] }
  | _ => none }
def FnExactDropHoldWrongFalsely : Prop := fnExactDropHoldRow.holds Try.pinned (OpenSpec.ofChange fnExactDropHoldWrong)

/-- 'laws.FnExactCutObj': WHATEVER THE INPUT: true; the input reads as it did. -/
def fnExactCutObjSpec : ChangeSpec := { name := "fnExactCutObj", fn := fun _ => fun
  | [d1, d2] => { results := [.lit (.bool true)], args := [d1, d2] }
  | _ => none }
def fnExactCutObjRow : OpenClaim := { program := "ytaokpfdjbpobpaa", sum := "5a24959a7ec6a7409e10e1820837f02761fac7e99174e9a9770c80897253be03", func := "loop.example/g00712/laws.FnExactCutObj", spec := "fnExactCutObj", plainKeys := false, apart := false }
def FnExactCutObjSaid : Prop := fnExactCutObjRow.holds Try.pinned (OpenSpec.ofChange fnExactCutObjSpec)

/-- ITS FALSE NEIGHBOUR: 'it returns false'. Refute it at one input. -/
def fnExactCutObjWrong : ChangeSpec := { name := "fnExactCutObj", fn := fun _ => fun
  | [d1, d2] => { results := [.lit (.bool false)], args := [d1, d2] }
  | _ => none }
def FnExactCutObjWrongFalsely : Prop := fnExactCutObjRow.holds Try.pinned (OpenSpec.ofChange fnExactCutObjWrong)

/-- 'laws.FnExactFreeSome': WHATEVER THE INPUT: true; the input reads as it did. -/
def fnExactFreeSomeSpec : ChangeSpec := { name := "fnExactFreeSome", fn := fun _ => fun
  | [d1, d2] => { results := [.lit (.bool true)], args := [d1, d2] }
  | _ => none }
def fnExactFreeSomeRow : OpenClaim := { program := "ytaokpfdjbpobpaa", sum := "5a24959a7ec6a7409e10e1820837f02761fac7e99174e9a9770c80897253be03", func := "loop.example/g00712/laws.FnExactFreeSome", spec := "fnExactFreeSome", unfollowed := true, recurses := true, plainKeys := false, apart := false }
def FnExactFreeSomeSaid : Prop := fnExactFreeSomeRow.holds Try.pinned (OpenSpec.ofChange fnExactFreeSomeSpec)

/-- ITS FALSE NEIGHBOUR: 'it returns false'. Refute it at one input. -/
def fnExactFreeSomeWrong : ChangeSpec := { name := "fnExactFreeSome", fn := fun _ => fun
  | [d1, d2] => { results := [.lit (.bool false)], args := [d1, d2] }
  | _ => none }
def FnExactFreeSomeWrongFalsely : Prop := fnExactFreeSomeRow.holds Try.pinned (OpenSpec.ofChange fnExactFreeSomeWrong)

/- THE SECOND FORM. 'bulk': how many values and letters a reading holds, each counted each time it is reached (what is shared counts as often as it is met; a slice's spare places count too). A statement '..UptoSaid' is the law's where the arguments, and the package variables that the reading takes, are together of bulk at most 1048576: NARROWER than '..Said'. Prove '..Said' where nothing that the law and all that it calls make is longer than what came in: it says more and counts as full. Else prove '..UptoSaid'. A law counts once. -/
mutual
def uptoBulk {H : Type} : DataW H → Nat
  | .lit (.string bytes) => bytes.length + 1
  | .lit _ => 1
  | .nil => 1
  | .ptr d => uptoBulk d + 1
  | .slice elems spare => uptoBulkAll elems + uptoBulkAll spare + 1
  | .agg parts => uptoBulkAll parts + 1
  | .iface _ d => uptoBulk d + 1
  | .map entries => uptoBulkEntries entries + 1
  | .held _ => 1
def uptoBulkAll {H : Type} : List (DataW H) → Nat
  | [] => 0
  | d :: r => uptoBulk d + uptoBulkAll r
def uptoBulkEntries {H : Type} : List (Lit × DataW H) → Nat
  | [] => 0
  | x :: r => uptoBulkEntry x + uptoBulkEntries r
def uptoBulkEntry {H : Type} : Lit × DataW H → Nat
  | (.string bytes, d) => bytes.length + uptoBulk d + 1
  | (_, d) => uptoBulk d + 1
 end
def uptoSmall : (H : Type) → List (DataW H) → Bool := fun _ ds => decide (uptoBulkAll ds ≤ 1048576)
def OpenSpec.upto (s : _root_.Go.ChangeSpec) : _root_.Go.OpenSpec := { _root_.Go.OpenSpec.ofChange s with cond := some uptoSmall }

/-- 'laws.FnExactBenchOk', WHERE WHAT IT READS IS OF BULK AT MOST 1048576: true; the input reads as it did. -/
def fnExactBenchOkUptoRow : OpenClaim := { program := "ytaokpfdjbpobpaa", sum := "5a24959a7ec6a7409e10e1820837f02761fac7e99174e9a9770c80897253be03", func := "loop.example/g00712/laws.FnExactBenchOk", spec := "fnExactBenchOk", plainKeys := false, apart := false, narrowed := true }
def FnExactBenchOkUptoSaid : Prop := fnExactBenchOkUptoRow.holds Try.pinned (OpenSpec.upto fnExactBenchOkSpec)

/-- 'laws.FnExactSafeBench', WHERE WHAT IT READS IS OF BULK AT MOST 1048576: true; the input reads as it did. -/
def fnExactSafeBenchUptoRow : OpenClaim := { program := "ytaokpfdjbpobpaa", sum := "5a24959a7ec6a7409e10e1820837f02761fac7e99174e9a9770c80897253be03", func := "loop.example/g00712/laws.FnExactSafeBench", spec := "fnExactSafeBench", unfollowed := true, recurses := true, plainKeys := false, apart := false, narrowed := true }
def FnExactSafeBenchUptoSaid : Prop := fnExactSafeBenchUptoRow.holds Try.pinned (OpenSpec.upto fnExactSafeBenchSpec)

/-- 'laws.FnExactHeldBy', WHERE WHAT IT READS IS OF BULK AT MOST 1048576: true; the input reads as it did. -/
def fnExactHeldByUptoRow : OpenClaim := { program := "ytaokpfdjbpobpaa", sum := "5a24959a7ec6a7409e10e1820837f02761fac7e99174e9a9770c80897253be03", func := "loop.example/g00712/laws.FnExactHeldBy", spec := "fnExactHeldBy", unfollowed := true, recurses := true, plainKeys := false, apart := false, narrowed := true }
def FnExactHeldByUptoSaid : Prop := fnExactHeldByUptoRow.holds Try.pinned (OpenSpec.upto fnExactHeldBySpec)

/-- 'laws.FnExactHoldersOf', WHERE WHAT IT READS IS OF BULK AT MOST 1048576: true; the input reads as it did. -/
def fnExactHoldersOfUptoRow : OpenClaim := { program := "ytaokpfdjbpobpaa", sum := "5a24959a7ec6a7409e10e1820837f02761fac7e99174e9a9770c80897253be03", func := "loop.example/g00712/laws.FnExactHoldersOf", spec := "fnExactHoldersOf", unfollowed := true, recurses := true, plainKeys := false, apart := false, narrowed := true }
def FnExactHoldersOfUptoSaid : Prop := fnExactHoldersOfUptoRow.holds Try.pinned (OpenSpec.upto fnExactHoldersOfSpec)

/-- 'laws.FnExactMakeObj', WHERE WHAT IT READS IS OF BULK AT MOST 1048576: true; the input reads as it did. -/
def fnExactMakeObjUptoRow : OpenClaim := { program := "ytaokpfdjbpobpaa", sum := "5a24959a7ec6a7409e10e1820837f02761fac7e99174e9a9770c80897253be03", func := "loop.example/g00712/laws.FnExactMakeObj", spec := "fnExactMakeObj", plainKeys := false, apart := false, narrowed := true }
def FnExactMakeObjUptoSaid : Prop := fnExactMakeObjUptoRow.holds Try.pinned (OpenSpec.upto fnExactMakeObjSpec)

/-- 'laws.FnExactTakeHold', WHERE WHAT IT READS IS OF BULK AT MOST 1048576: true; the input reads as it did. -/
def fnExactTakeHoldUptoRow : OpenClaim := { program := "ytaokpfdjbpobpaa", sum := "5a24959a7ec6a7409e10e1820837f02761fac7e99174e9a9770c80897253be03", func := "loop.example/g00712/laws.FnExactTakeHold", spec := "fnExactTakeHold", plainKeys := false, apart := false, narrowed := true }
def FnExactTakeHoldUptoSaid : Prop := fnExactTakeHoldUptoRow.holds Try.pinned (OpenSpec.upto fnExactTakeHoldSpec)

/-- 'laws.FnExactDropHold', WHERE WHAT IT READS IS OF BULK AT MOST 1048576: true; the input reads as it did. -/
def fnExactDropHoldUptoRow : OpenClaim := { program := "ytaokpfdjbpobpaa", sum := "5a24959a7ec6a7409e10e1820837f02761fac7e99174e9a9770c80897253be03", func := "loop.example/g00712/laws.FnExactDropHold", spec := "fnExactDropHold", plainKeys := false, apart := false, narrowed := true }
def FnExactDropHoldUptoSaid : Prop := fnExactDropHoldUptoRow.holds Try.pinned (OpenSpec.upto fnExactDropHoldSpec)

/-- 'laws.FnExactCutObj', WHERE WHAT IT READS IS OF BULK AT MOST 1048576: true; the input reads as it did. -/
def fnExactCutObjUptoRow : OpenClaim := { program := "ytaokpfdjbpobpaa", sum := "5a24959a7ec6a7409e10e1820837f02761fac7e99174e9a9770c80897253be03", func := "loop.example/g00712/laws.FnExactCutObj", spec := "fnExactCutObj", plainKeys := false, apart := false, narrowed := true }
def FnExactCutObjUptoSaid : Prop := fnExactCutObjUptoRow.holds Try.pinned (OpenSpec.upto fnExactCutObjSpec)

/-- 'laws.FnExactFreeSome', WHERE WHAT IT READS IS OF BULK AT MOST 1048576: true; the input reads as it did. -/
def fnExactFreeSomeUptoRow : OpenClaim := { program := "ytaokpfdjbpobpaa", sum := "5a24959a7ec6a7409e10e1820837f02761fac7e99174e9a9770c80897253be03", func := "loop.example/g00712/laws.FnExactFreeSome", spec := "fnExactFreeSome", unfollowed := true, recurses := true, plainKeys := false, apart := false, narrowed := true }
def FnExactFreeSomeUptoSaid : Prop := fnExactFreeSomeUptoRow.holds Try.pinned (OpenSpec.upto fnExactFreeSomeSpec)

end Rows
end Go.Proofs.Ytaokpfdjbpobpaa
