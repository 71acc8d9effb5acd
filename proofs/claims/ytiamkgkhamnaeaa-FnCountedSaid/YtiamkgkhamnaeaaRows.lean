/-
  No cell of these rows narrows 'for every input' (looked for: loops, veiled, ifaces, maps, wideKeys, modest, calm, conditions, laid).
  DERIVED. THE GIVEN ROWS OF THIS SEAT. 6 by the template 'for every input the law returns true; each argument reads behind the call as it read before'; 0 by the template 'total and deterministic' (their statements: YtiamkgkhamnaeaaTotals.lean).
  GIVEN WITH THE SEED: the statements are not yours to turn. If you find one false, say at which input.
  Laid BY PROGRAM, IN A SANDBOX (cutbox-rows.mjs): the forced cells as the released guide's own fill.sh prints them over the translation 2579b96a1e005a5e… (all of the seat's roots in one cut). By AI agents, Wed Nov 11 2026. No macro, syntax, notation, axiom, sorry.
-/
import Derived.Test.YtiamkgkhamnaeaaChecked
import GoSem.Claim
import GoSem.ClaimJoined
import GoSem.ClaimMapViews
import Derived.JoinedTies
import Derived.KernelRfl
namespace Go.Proofs.Ytiamkgkhamnaeaa
/- THE CELL 'sum', in the pinned program and in every row, IS THE sha256 OF THE DUMP (.gsa) THAT YtiamkgkhamnaeaaProg.lean LOADS. Nothing in Lean hashes anything: it is a label: what it is worth is what the hold of that sum in a sandbox is worth. -/
noncomputable def Try.pinned : Pinned := { name := "ytiamkgkhamnaeaa", sum := "2579b96a1e005a5ed45b88afb3899edcd16f9068baab7ad2c94fcd620dfa3446", checked := Try.checked }
namespace Rows
def none {H : Type} : Left H := { results := [], args := [] }

/-- 'laws.FnExactStepCount': WHATEVER THE INPUT: true; the input reads as it did. -/
def fnExactStepCountSpec : ChangeSpec := { name := "fnExactStepCount", fn := fun _ => fun
  | [d1, d2] => { results := [.lit (.bool true)], args := [d1, d2] }
  | _ => none }
def fnExactStepCountRow : OpenClaim := { program := "ytiamkgkhamnaeaa", sum := "2579b96a1e005a5ed45b88afb3899edcd16f9068baab7ad2c94fcd620dfa3446", func := "loop.example/g00712/laws.FnExactStepCount", spec := "fnExactStepCount", inPlace := ["sync/atomic.AddInt64"], unfollowed := true, recurses := true, plainKeys := false, apart := false }
def FnExactStepCountSaid : Prop := fnExactStepCountRow.holds Try.pinned (OpenSpec.ofChange fnExactStepCountSpec)

/-- ITS FALSE NEIGHBOUR: 'it returns false'. Refute it at one input. -/
def fnExactStepCountWrong : ChangeSpec := { name := "fnExactStepCount", fn := fun _ => fun
  | [d1, d2] => { results := [.lit (.bool false)], args := [d1, d2] }
  | _ => none }
def FnExactStepCountWrongFalsely : Prop := fnExactStepCountRow.holds Try.pinned (OpenSpec.ofChange fnExactStepCountWrong)

/-- 'laws.FnExactPlayCount': WHATEVER THE INPUT: true; the input reads as it did. -/
def fnExactPlayCountSpec : ChangeSpec := { name := "fnExactPlayCount", fn := fun _ => fun
  | [d] => { results := [.lit (.bool true)], args := [d] }
  | _ => none }
def fnExactPlayCountRow : OpenClaim := { program := "ytiamkgkhamnaeaa", sum := "2579b96a1e005a5ed45b88afb3899edcd16f9068baab7ad2c94fcd620dfa3446", func := "loop.example/g00712/laws.FnExactPlayCount", spec := "fnExactPlayCount", inPlace := ["sync/atomic.AddInt64"], unfollowed := true, recurses := true, plainKeys := false, apart := false }
def FnExactPlayCountSaid : Prop := fnExactPlayCountRow.holds Try.pinned (OpenSpec.ofChange fnExactPlayCountSpec)

/-- ITS FALSE NEIGHBOUR: 'it returns false'. Refute it at one input. -/
def fnExactPlayCountWrong : ChangeSpec := { name := "fnExactPlayCount", fn := fun _ => fun
  | [d] => { results := [.lit (.bool false)], args := [d] }
  | _ => none }
def FnExactPlayCountWrongFalsely : Prop := fnExactPlayCountRow.holds Try.pinned (OpenSpec.ofChange fnExactPlayCountWrong)

/-- 'laws.FnExactCountOf': WHATEVER THE INPUT: true; the input reads as it did. -/
def fnExactCountOfSpec : ChangeSpec := { name := "fnExactCountOf", fn := fun _ => fun
  | [d1, d2] => { results := [.lit (.bool true)], args := [d1, d2] }
  | _ => none }
def fnExactCountOfRow : OpenClaim := { program := "ytiamkgkhamnaeaa", sum := "2579b96a1e005a5ed45b88afb3899edcd16f9068baab7ad2c94fcd620dfa3446", func := "loop.example/g00712/laws.FnExactCountOf", spec := "fnExactCountOf", inPlace := ["sync/atomic.AddInt64", "sync/atomic.LoadInt64"], plainKeys := false, apart := false }
def FnExactCountOfSaid : Prop := fnExactCountOfRow.holds Try.pinned (OpenSpec.ofChange fnExactCountOfSpec)

/-- ITS FALSE NEIGHBOUR: 'it returns false'. Refute it at one input. -/
def fnExactCountOfWrong : ChangeSpec := { name := "fnExactCountOf", fn := fun _ => fun
  | [d1, d2] => { results := [.lit (.bool false)], args := [d1, d2] }
  | _ => none }
def FnExactCountOfWrongFalsely : Prop := fnExactCountOfRow.holds Try.pinned (OpenSpec.ofChange fnExactCountOfWrong)

/-- 'laws.FnExactZeroLeft': WHATEVER THE INPUT: true; the input reads as it did. -/
def fnExactZeroLeftSpec : ChangeSpec := { name := "fnExactZeroLeft", fn := fun _ => fun
  | [d] => { results := [.lit (.bool true)], args := [d] }
  | _ => none }
def fnExactZeroLeftRow : OpenClaim := { program := "ytiamkgkhamnaeaa", sum := "2579b96a1e005a5ed45b88afb3899edcd16f9068baab7ad2c94fcd620dfa3446", func := "loop.example/g00712/laws.FnExactZeroLeft", spec := "fnExactZeroLeft", inPlace := ["sync/atomic.AddInt64", "sync/atomic.LoadInt64"], plainKeys := false, apart := false }
def FnExactZeroLeftSaid : Prop := fnExactZeroLeftRow.holds Try.pinned (OpenSpec.ofChange fnExactZeroLeftSpec)

/-- ITS FALSE NEIGHBOUR: 'it returns false'. Refute it at one input. -/
def fnExactZeroLeftWrong : ChangeSpec := { name := "fnExactZeroLeft", fn := fun _ => fun
  | [d] => { results := [.lit (.bool false)], args := [d] }
  | _ => none }
def FnExactZeroLeftWrongFalsely : Prop := fnExactZeroLeftRow.holds Try.pinned (OpenSpec.ofChange fnExactZeroLeftWrong)

/-- 'laws.FnCounted': WHATEVER THE INPUT: true; the input reads as it did. -/
def fnCountedSpec : ChangeSpec := { name := "fnCounted", fn := fun _ => fun
  | [d] => { results := [.lit (.bool true)], args := [d] }
  | _ => none }
def fnCountedRow : OpenClaim := { program := "ytiamkgkhamnaeaa", sum := "2579b96a1e005a5ed45b88afb3899edcd16f9068baab7ad2c94fcd620dfa3446", func := "loop.example/g00712/laws.FnCounted", spec := "fnCounted", inPlace := ["sync/atomic.AddInt64", "sync/atomic.LoadInt64"], unfollowed := true, recurses := true, plainKeys := false, apart := false }
def FnCountedSaid : Prop := fnCountedRow.holds Try.pinned (OpenSpec.ofChange fnCountedSpec)

/-- ITS FALSE NEIGHBOUR: 'it returns false'. Refute it at one input. -/
def fnCountedWrong : ChangeSpec := { name := "fnCounted", fn := fun _ => fun
  | [d] => { results := [.lit (.bool false)], args := [d] }
  | _ => none }
def FnCountedWrongFalsely : Prop := fnCountedRow.holds Try.pinned (OpenSpec.ofChange fnCountedWrong)

/-- 'laws.FnBench': WHATEVER THE INPUT: true; the input reads as it did. -/
def fnBenchSpec : ChangeSpec := { name := "fnBench", fn := fun _ => fun
  | [d] => { results := [.lit (.bool true)], args := [d] }
  | _ => none }
def fnBenchRow : OpenClaim := { program := "ytiamkgkhamnaeaa", sum := "2579b96a1e005a5ed45b88afb3899edcd16f9068baab7ad2c94fcd620dfa3446", func := "loop.example/g00712/laws.FnBench", spec := "fnBench", unfollowed := true, recurses := true, plainKeys := false, apart := false }
def FnBenchSaid : Prop := fnBenchRow.holds Try.pinned (OpenSpec.ofChange fnBenchSpec)

/-- ITS FALSE NEIGHBOUR: 'it returns false'. Refute it at one input. -/
def fnBenchWrong : ChangeSpec := { name := "fnBench", fn := fun _ => fun
  | [d] => { results := [.lit (.bool false)], args := [d] }
  | _ => none }
def FnBenchWrongFalsely : Prop := fnBenchRow.holds Try.pinned (OpenSpec.ofChange fnBenchWrong)

/- THE SECOND FORM. 'bulk': how many values and letters a reading holds, each counted each time it is reached (what is shared counts as often as it is met; a slice's spare places count too). A statement '..UptoSaid' is the law's where the arguments, and the package variables that the reading takes, are together of bulk at most 1048576: NARROWER than '..Said'. Prove '..Said' where nothing that the law and all that it calls make is longer than what came in: it says more and counts as full. Else prove '..UptoSaid'. A law counts once. -/
mutual
def uptoBulk {H : Type} : DataW H → Nat
  | .lit (.string bytes) => bytes.length + 1
  | .lit _ => 1
  | .nil => 1
  | .ptr d => uptoBulk d + 1
  | .slice elems spare => uptoBulkAll elems + uptoBulkAll spare + 1
  | .agg parts => uptoBulkAll parts + 1
  | .iface _ d => uptoBulk d + 1
  | .map entries => uptoBulkEntries entries + 1
  | .held _ => 1
def uptoBulkAll {H : Type} : List (DataW H) → Nat
  | [] => 0
  | d :: r => uptoBulk d + uptoBulkAll r
def uptoBulkEntries {H : Type} : List (Lit × DataW H) → Nat
  | [] => 0
  | x :: r => uptoBulkEntry x + uptoBulkEntries r
def uptoBulkEntry {H : Type} : Lit × DataW H → Nat
  | (.string bytes, d) => bytes.length + uptoBulk d + 1
  | (_, d) => uptoBulk d + 1
 end
def uptoSmall : (H : Type) → List (DataW H) → Bool := fun _ ds => decide (uptoBulkAll ds ≤ 1048576)
def OpenSpec.upto (s : _root_.Go.ChangeSpec) : _root_.Go.OpenSpec := { _root_.Go.OpenSpec.ofChange s with cond := some uptoSmall }

/-- 'laws.FnExactStepCount', WHERE WHAT IT READS IS OF BULK AT MOST 1048576: true; the input reads as it did. -/
def fnExactStepCountUptoRow : OpenClaim := { program := "ytiamkgkhamnaeaa", sum := "2579b96a1e005a5ed45b88afb3899edcd16f9068baab7ad2c94fcd620dfa3446", func := "loop.example/g00712/laws.FnExactStepCount", spec := "fnExactStepCount", inPlace := ["sync/atomic.AddInt64"], unfollowed := true, recurses := true, plainKeys := false, apart := false, narrowed := true }
def FnExactStepCountUptoSaid : Prop := fnExactStepCountUptoRow.holds Try.pinned (OpenSpec.upto fnExactStepCountSpec)

/-- 'laws.FnExactPlayCount', WHERE WHAT IT READS IS OF BULK AT MOST 1048576: true; the input reads as it did. -/
def fnExactPlayCountUptoRow : OpenClaim := { program := "ytiamkgkhamnaeaa", sum := "2579b96a1e005a5ed45b88afb3899edcd16f9068baab7ad2c94fcd620dfa3446", func := "loop.example/g00712/laws.FnExactPlayCount", spec := "fnExactPlayCount", inPlace := ["sync/atomic.AddInt64"], unfollowed := true, recurses := true, plainKeys := false, apart := false, narrowed := true }
def FnExactPlayCountUptoSaid : Prop := fnExactPlayCountUptoRow.holds Try.pinned (OpenSpec.upto fnExactPlayCountSpec)

/-- 'laws.FnExactCountOf', WHERE WHAT IT READS IS OF BULK AT MOST 1048576: true; the input reads as it did. -/
def fnExactCountOfUptoRow : OpenClaim := { program := "ytiamkgkhamnaeaa", sum := "2579b96a1e005a5ed45b88afb3899edcd16f9068baab7ad2c94fcd620dfa3446", func := "loop.example/g00712/laws.FnExactCountOf", spec := "fnExactCountOf", inPlace := ["sync/atomic.AddInt64", "sync/atomic.LoadInt64"], plainKeys := false, apart := false, narrowed := true }
def FnExactCountOfUptoSaid : Prop := fnExactCountOfUptoRow.holds Try.pinned (OpenSpec.upto fnExactCountOfSpec)

/-- 'laws.FnExactZeroLeft', WHERE WHAT IT READS IS OF BULK AT MOST 1048576: true; the input reads as it did. -/
def fnExactZeroLeftUptoRow : OpenClaim := { program := "ytiamkgkhamnaeaa", sum := "2579b96a1e005a5ed45b88afb3899edcd16f9068baab7ad2c94fcd620dfa3446", func := "loop.example/g00712/laws.FnExactZeroLeft", spec := "fnExactZeroLeft", inPlace := ["sync/atomic.AddInt64", "sync/atomic.LoadInt64"], plainKeys := false, apart := false, narrowed := true }
def FnExactZeroLeftUptoSaid : Prop := fnExactZeroLeftUptoRow.holds Try.pinned (OpenSpec.upto fnExactZeroLeftSpec)

/-- 'laws.FnCounted', WHERE WHAT IT READS IS OF BULK AT MOST 1048576: true; the input reads as it did. -/
def fnCountedUptoRow : OpenClaim := { program := "ytiamkgkhamnaeaa", sum := "2579b96a1e005a5ed45b88afb3899edcd16f9068baab7ad2c94fcd620dfa3446", func := "loop.example/g00712/laws.FnCounted", spec := "fnCounted", inPlace := ["sync/atomic.AddInt64", "sync/atomic.LoadInt64"], unfollowed := true, recurses := true, plainKeys := false, apart := false, narrowed := true }
def FnCountedUptoSaid : Prop := fnCountedUptoRow.holds Try.pinned (OpenSpec.upto fnCountedSpec)

/-- 'laws.FnBench', WHERE WHAT IT READS IS OF BULK AT MOST 1048576: true; the input reads as it did. -/
def fnBenchUptoRow : OpenClaim := { program := "ytiamkgkhamnaeaa", sum := "2579b96a1e005a5ed45b88afb3899edcd16f9068baab7ad2c94fcd620dfa3446", func := "loop.example/g00712/laws.FnBench", spec := "fnBench", unfollowed := true, recurses := true, plainKeys := false, apart := false, narrowed := true }
def FnBenchUptoSaid : Prop := fnBenchUptoRow.holds Try.pinned (OpenSpec.upto fnBenchSpec)

end Rows
end Go.Proofs.Ytiamkgkhamnaeaa
